/- Where clauses stand, as the program asks it: what a node's kids must be, name by name. -/
import Derived.Test.YtkdipppeljpgmaaGreatDoorGrpMR0
import Derived.Test.YtkdipppeljpgmaaGreatDoorShelf
import Derived.BigQuiet
import Derived.Test.YtkdipppeljpgmaaGreatDoorKept
import Derived.Deep.RegionWith
import Derived.Deep.RegionHeld
import Derived.BigRegion
import Derived.Test.YtkdipppeljpgmaaGreatDoorParseWf
import Derived.Test.YtkdipppeljpgmaaGreatDoorPzAll
import Derived.Test.YtkdipppeljpgmaaGreatDoorPzEffs
import Derived.Test.YtkdipppeljpgmaaGreatDoorWordFacts
import Derived.Test.YtkdipppeljpgmaaGreatDoorSpecWords
import Derived.Test.YtkdipppeljpgmaaGreatDoorSpecDeep
import Derived.Test.YtkdipppeljpgmaaGreatDoorCalm
import Derived.Test.YtkdipppeljpgmaaGreatDoorProgPure
import Derived.Test.YtkdipppeljpgmaaGreatDoorPzStarts
import Derived.WalkLawsBesides
import Derived.Deep.CutRange
import Derived.Deep.CutBlock
import Derived.Test.YtkdipppeljpgmaaGreatDoorPzKit
import Derived.Test.YtkdipppeljpgmaaGreatDoorPzLoop
namespace Go.Proofs.YtkdipppeljpgmaaGreatDoor
open Go.RowKit

set_option maxRecDepth 100000 in
theorem clauseKind_calls (k : Int) (w : World) :
    Calls Tryz.prog 97 #[.int .i64 k] w fun e w' => e = .returned (.int .i64 (clauseZ k)) ∧ w = w' := by
  go_enter Tryz.func97, Tryz.ntmps97
  go_wp2
  all_goals
    go_ret
    refine ⟨?_, rfl⟩
    simp_all [clauseZ]

theorem handler_eq (k : Int) : (k == 23 || k == 24) = decide (k = 23 ∨ k = 24) := by
  by_cases h : k = 23
  · simp [h]
  · by_cases h' : k = 24 <;> simp [h, h']

set_option maxRecDepth 100000 in
theorem isHandler_calls (k : Int) (w : World) :
    Calls Tryz.prog 108 #[.int .i64 k] w fun e w' => e = .returned (.bool (decide (k = 23 ∨ k = 24))) ∧ w = w' := by
  rw [← handler_eq]
  go_enter Tryz.func108, Tryz.ntmps108
  go_wp2
  all_goals
    go_ret
    refine ⟨?_, rfl⟩
    simp_all

set_option maxRecDepth 100000 in
theorem wanted_calls (k : Int) (i : Nat) (w : World) :
    Calls Tryz.prog 98 #[.int .i64 k, .int .i64 i] w fun e w' => e = .returned (.int .i64 (wantedZ k i)) ∧ w = w' := by
  have hi : i = 0 ∨ i = 1 ∨ (i ≠ 0 ∧ i ≠ 1) := by omega
  by_cases hk : k = 23 ∨ k = 24
  all_goals
    rcases hi with rfl | rfl | ⟨h0, h1⟩
    all_goals
      try have h0' : ((i : Int) == 0) = false := by rw [beq_eq_false_iff_ne]; omega
      try have h1' : ((i : Int) == 1) = false := by rw [beq_eq_false_iff_ne]; omega
      go_enter Tryz.func98, Tryz.ntmps98
      go_wp2_with fail
      refine (isHandler_calls _ _).mono ?_
      rintro e w2 ⟨rfl, rfl⟩
      go_wp2
      all_goals
        go_ret
        refine ⟨?_, rfl⟩
        simp_all [wantedZ]

theorem isIn_contains (ops : List ByteArray) (s : ByteArray) : Lib.containsS ops s = isIn ops s := by
  rw [Bool.eq_iff_iff, Lib.containsS_iff]
  simp only [isIn, List.any_eq_true, beq_iff_eq]
  constructor
  · intro h
    exact ⟨s, h, rfl⟩
  · rintro ⟨x, hx, he⟩
    have : x = s := by
      rw [ByteArray.toList_eq, ByteArray.toList_eq] at he
      exact ByteArray.ext (Array.ext' he)
    rw [← this]
    exact hx

/-- Whether a name is among those of a list of the call's own, by the library. -/
theorem contains_calls (B : Nat) (v : Value) (ops : List ByteArray) (s : ByteArray) (w : World) (hl : ops.length ≤ 1000000) (hown : w.ownsRow B 9 1 v ops.length (strs ops)) :
    Calls Tryz.prog 99 #[v, .string s] w fun e w' => e = .returned (.bool (isIn ops s)) ∧ w = w' := by
  cases ops with
  | nil =>
    obtain ⟨a, c, rfl⟩ : ∃ a c, v = .slice a 0 c := by
      rcases hown.2 with ⟨h, _⟩ | ⟨g, c, cur, h, _⟩
      · exact ⟨none, 0, h⟩
      · exact ⟨_, _, h⟩
    refine (Tryz.slices_Contains_string_empty a c s w).mono ?_
    rintro e w' ⟨rfl, rfl⟩
    exact ⟨rfl, rfl⟩
  | cons x r =>
    obtain ⟨g, c, rfl⟩ : ∃ g c, v = .slice (some ⟨g, 0, none⟩) (x :: r).length c := by
      rcases hown.2 with ⟨_, h⟩ | ⟨g, c, cur, h, _⟩
      · simp at h
      · exact ⟨_, _, h⟩
    refine (Tryz.slices_Contains_string g 0 (x :: r).length c (x :: r) s w (Nat.le_refl _) (by omega) (fun j hj => ?_)).mono ?_
    · rw [Nat.zero_add, hown.cellAt j (by omega)]
      rw [strs, List.getElem?_map, List.getElem?_eq_getElem hj, List.getD, List.getElem?_eq_getElem hj]
      rfl
    · rintro e w' ⟨rfl, rfl⟩
      exact ⟨by rw [isIn_contains, List.take_length], rfl⟩

/-! ### Every place of a forest -/
def Fo.oks : Fo → List Bool
  | .none => []
  | .tree n k r => implKids k n.kind 0 [] :: (k.oks ++ r.oks)

theorem Fo.oks_length : ∀ f : Fo, f.oks.length = f.flat.length
  | .none => rfl
  | .tree n k r => by simp only [oks, flat, List.length_cons, List.length_append, oks_length k, oks_length r]

theorem Fo.oks_all : ∀ f : Fo, implAll f = f.oks.all id
  | .none => rfl
  | .tree n k r => by simp only [implAll, oks, List.all_cons, List.all_append, oks_all k, oks_all r, id_eq]

theorem Fo.place : ∀ (f : Fo), f.wf → ∀ at_, at_ < f.flat.length → ∃ (n : Nd) (k : Fo) (suf : List Nd), f.flat.drop at_ = n :: (k.flat ++ suf) ∧ n.kids = k.count ∧ k.wf ∧ f.oks.drop at_ = implKids k n.kind 0 [] :: f.oks.drop (at_ + 1)
  | .none, _, at_, h => by simp [flat] at h
  | .tree n k r, hw, 0, _ => ⟨n, k, r.flat, rfl, hw.1, hw.2.1, rfl⟩
  | .tree n k r, hw, j + 1, h => by
    simp only [flat, List.length_cons, List.length_append] at h
    simp only [flat, oks, List.drop_succ_cons]
    have lk := oks_length k
    by_cases hj : j < k.flat.length
    · obtain ⟨n', k', suf, e1, e2, e3, e4⟩ := place k hw.2.1 j hj
      refine ⟨n', k', suf ++ r.flat, ?_, e2, e3, ?_⟩
      · rw [List.drop_append_of_le_length (by omega), e1]
        simp
      · rw [List.drop_append_of_le_length (by omega), List.drop_append_of_le_length (by omega), e4]
        rfl
    · obtain ⟨n', k', suf, e1, e2, e3, e4⟩ := place r hw.2.2 (j - k.flat.length) (by omega)
      refine ⟨n', k', suf, ?_, e2, e3, ?_⟩
      · rw [List.drop_append, List.drop_eq_nil_of_le (by omega), List.nil_append, e1]
      · rw [List.drop_append, List.drop_append, List.drop_eq_nil_of_le (show k.oks.length ≤ j by omega), List.drop_eq_nil_of_le (show k.oks.length ≤ j + 1 by omega), List.nil_append, List.nil_append, lk, e4]
        congr 2
        omega

theorem kidsZ_false {n : Nd} {k r : Fo} {pk : Int} {i : Nat} {ops : List ByteArray} (h : (clauseZ n.kind != wantedZ pk i) = true) : implKids (.tree n k r) pk i ops = false := by
  simp only [implKids]
  have : (clauseZ n.kind == wantedZ pk i) = false := by simpa [bne] using h
  rw [this, Bool.false_and]

theorem kidsZ_in {n : Nd} {k r : Fo} {pk : Int} {i : Nat} {ops : List ByteArray} (h : isIn ops n.a = true) : implKids (.tree n k r) pk i ops = false := by
  simp only [implKids]
  rw [h, Bool.not_true, Bool.false_and, Bool.and_false]

theorem kidsZ_next {n : Nd} {k r : Fo} {pk : Int} {i : Nat} {ops : List ByteArray} (h : (clauseZ n.kind != wantedZ pk i) = false) (h' : isIn ops n.a = false) : implKids (.tree n k r) pk i ops = implKids r pk (i + 1) (if n.kind = 26 then ops ++ [n.a] else ops) := by
  simp only [implKids]
  have : (clauseZ n.kind == wantedZ pk i) = true := by simpa [bne] using h
  rw [this, h', Bool.not_false, Bool.true_and, Bool.true_and]
end Go.Proofs.YtkdipppeljpgmaaGreatDoor

/- Where clauses stand, as the program asks it: over all nodes. -/
namespace Go.Proofs.YtkdipppeljpgmaaGreatDoor
open Go.RowKit

theorem turned {P : Program} {f : FuncId} {args : Array Value} {w : World} {v : Value} (h : Calls P f args w fun e w' => e = .returned v ∧ w = w') : Calls P f args w fun e w' => e = .returned v ∧ w' = w :=
  h.mono fun _ _ ⟨a, b⟩ => ⟨a, b.symm⟩

set_option maxHeartbeats 4000000 in
set_option maxRecDepth 100000 in
theorem clausesOk_calls (b off cap : Nat) (ns : List Nd) (n0 : Nd) (k0 : Fo) (w : World) (hm : ns.length ≤ 300) (hbw : b < w.heap.size) (hn : NodesAt w b off ns)
    (he : ns = n0 :: k0.flat) (hk0 : n0.kids = k0.count) (hw0 : k0.wf) :
    Calls Tryz.prog 77 #[.slice (some ⟨b, off, none⟩) ns.length cap] w fun e w' => e = .returned (.bool (implTree n0 k0)) ∧ Below w.heap.size w w' := by
  have hl0 : 0 < ns.length := by rw [he]; simp
  have c0 := hn 0 hl0 0 (by omega)
  have hg0 : ns.getD 0 default = n0 := by rw [he]; rfl
  rw [hg0] at c0
  simp only [Nd.cell, Nat.add_zero, Nat.zero_mul] at c0
  obtain ⟨F, hF⟩ : ∃ F : Fo, F = .tree n0 k0 .none := ⟨_, rfl⟩
  have hFf : F.flat = ns := by rw [hF, he]; simp [Fo.flat]
  have hFw : F.wf := by rw [hF]; exact ⟨hk0, hw0, trivial⟩
  have hFo : F.oks.all id = (implKids k0 n0.kind 0 [] && implAll k0) := by
    rw [← Fo.oks_all, hF]
    simp [implAll]
  have hFl : F.oks.length = ns.length := by rw [Fo.oks_length, hFf]
  have hR0 : implTree n0 k0 = (if (clauseZ n0.kind != 0) = true then false else F.oks.all id) := by
    rw [hFo, implTree]
    by_cases h : clauseZ n0.kind = 0 <;> simp [h]
  rw [hR0]
  obtain ⟨len, hlen⟩ : ∃ len, ns.length = len := ⟨_, rfl⟩
  have Hlen : Hid (ns.length = len) := hlen
  have HF : Hid (F.flat = ns ∧ F.wf ∧ F.oks.length = len) := ⟨hFf, hFw, by rw [hFl, hlen]⟩
  have HN : Hid (NodesAt w b off ns) := hn
  have HM : Hid (len ≤ 300) := by show _ ≤ _; omega
  rw [hlen] at hl0 ⊢
  clear hF hFf hFw hFo hFl hR0 hg0 hn hm he hk0 hw0 hlen
  cases hc : (clauseZ n0.kind != 0) with
  | true =>
    go_enter Tryz.func77, Tryz.ntmps77
    go_wp2_with fail
    refine (clauseKind_calls _ _).mono ?_
    rintro e w2 ⟨rfl, rfl⟩
    go_wp2_with fail
    go_ret
    exact ⟨rfl, Below.refl _ _⟩
  | false =>
    rw [if_neg (by simp)]
    obtain ⟨R, hR⟩ : ∃ R, F.oks.all id = R := ⟨_, rfl⟩
    rw [hR]
    have HR : Hid (F.oks.all id = R) := hR
    clear hR
    go_enter Tryz.func77, Tryz.ntmps77
    go_wp2_with fail
    refine (clauseKind_calls _ _).mono ?_
    rintro e w2 ⟨rfl, rfl⟩
    go_wp2_with fail
    clear c0 hc
    go_loopw [17] (fun i wr => ∃ at_ : Nat, i = .int .i64 at_ ∧ at_ ≤ len ∧ Hid ((F.oks.drop at_).all id = R) ∧ Below w.heap.size w wr) (fun i _ => len - (intOf i).toNat)
    case atStart => exact ⟨0, rfl, Nat.zero_le _, HR.out, Below.refl _ _⟩
    case round =>
      rename World => wo
      obtain ⟨at_, rfl, hle, HV, hbx⟩ := hrel
      by_cases hlt : (at_ : Int) < (len : Int)
      · obtain ⟨n, k, suf, hp, hkc, hk, ho⟩ := Fo.place F HF.out.2.1 at_ (by rw [HF.out.1, Hlen.out]; omega)
        rw [HF.out.1] at hp
        have hV := HV.out
        rw [ho, List.all_cons, id_eq] at hV
        obtain ⟨V, hVV⟩ : ∃ V, implKids k n.kind 0 [] = V := ⟨_, rfl⟩
        rw [hVV] at hV
        have HV1 : Hid ((V && (F.oks.drop (at_ + 1)).all id) = R) := hV
        have HVV : Hid (implKids k n.kind 0 [] = V) := hVV
        obtain ⟨hpl, hnd, hp1⟩ := at_drop hp
        have hnx := HN.out.below hbx hbw
        have c0 := hnx at_ hpl 0 (by omega)
        have c1 := hnx at_ hpl 1 (by omega)
        have c2 := hnx at_ hpl 2 (by omega)
        have c3 := hnx at_ hpl 3 (by omega)
        have c4 := hnx at_ hpl 4 (by omega)
        have c5 := hnx at_ hpl 5 (by omega)
        rw [hnd] at c0 c1 c2 c3 c4 c5
        simp only [Nd.cell, Nat.add_zero] at c0 c1 c2 c3 c4 c5
        have hkl : k.flat.length ≤ ns.length := by
          have : (ns.drop (at_ + 1)).length = k.flat.length + suf.length := by rw [hp1, List.length_append]
          rw [List.length_drop] at this
          omega
        have hkk := Fo.count_le k
        rw [hkc] at c5
        obtain ⟨kc, hkcc⟩ : ∃ kc, k.count = kc := ⟨_, rfl⟩
        have Hkc : Hid (k.count = kc) := hkcc
        rw [hkcc] at c5 hkk
        have H1 : Hid (ns.drop (at_ + 1) = k.flat ++ suf) := hp1
        have Hk : Hid k.wf := hk
        have HP : Hid (len ≤ 300 ∧ at_ < len ∧ kc ≤ len) := ⟨HM.out, by omega, by have := Hlen.out; omega⟩
        obtain ⟨kd, num, a, bb, cc, kids⟩ := n
        dsimp only at *
        clear hp hkc hk ho hV hVV hpl hnd hp1 hnx hkl hkk hkcc HV HR
        go_wp2_with fail
        rw [wrap_succ (by have := HP.out; omega)]
        clear c0 c1 c2 c3 c4 c5
        generalize hat1 : at_ + 1 = at1
        have HA1 : Hid (at_ + 1 = at1) := hat1
        clear hat1
        go_loopw [5, 6, 26] (fun o q i wi => ∃ (q' i' : Nat) (r : Fo) (ops : List ByteArray), q = .int .i64 q' ∧ i = .int .i64 i' ∧ Hid (ns.drop q' = r.flat ++ suf ∧ r.wf ∧ i' + r.count = kc ∧ implKids r kd i' ops = V ∧ ops.length ≤ i') ∧ wi.ownsRow (wo.heap.size + 1) 9 1 o ops.length (strs ops) ∧ wi.heap[wo.heap.size]? = some (.cells #[.int .i64 kd, .int .i64 num, .string a, .string bb, .string cc, .int .i64 kc] 64) ∧ Below wo.heap.size wo wi) (fun _ _ i _ => kc - (intOf i).toNat)
        case atStart =>
          exact ⟨at1, 0, k, [], rfl, rfl, ⟨by rw [← HA1.out]; exact H1.out, Hk.out, by rw [Hkc.out]; omega, HVV.out, Nat.le_refl _⟩, World.ownsRow_nil _ _ _ _, (MapKept.heap_alloc wo _).1, (Below.refl _ _).alloc (Nat.le_refl _) _⟩
        case round =>
          obtain ⟨q', i', r, ops, rfl, rfl, HQ, hown, eA, hnx⟩ := hrel
          have a0 := cell_of_heap eA 0
          simp at a0
          have hltA := heap_lt eA
          cases r with
          | none =>
            obtain ⟨_, _, h1, h2, _⟩ := HQ.out
            simp only [Fo.count, implKids] at h1 h2
            have h1' : i' = kc := by omega
            subst h1' h2
            clear HQ h1 HN H1 Hk eA hown
            go_wp2_with fail
            have hs := lt_step hlt
            rw [wrap_succ (by have := HP.out; omega)]
            exact ⟨⟨at_ + 1, rfl, by omega, by have := HV1.out; rwa [Bool.true_and] at this, hbx.trans (hnx.mono hbx.size)⟩, hs⟩
          | tree n' k' r' =>
            obtain ⟨h0, hw, h1, h4, h5⟩ := HQ.out
            obtain ⟨hw0, hw1, hw2⟩ := hw
            simp only [Fo.count] at h1
            simp only [Fo.flat, List.cons_append, List.append_assoc] at h0
            obtain ⟨hql, hqn, hq1⟩ := at_drop h0
            have hwx : Below w.heap.size w wr := hbx.trans (hnx.mono hbx.size)
            have hnw : NodesAt wr b off ns := HN.out.below hwx hbw
            have hend : treeEnd ns q' = _ := treeEnd_at h0 hw0 hw1
            have hnew := drop_past hq1
            have d0 := hnw q' hql 0 (by omega)
            have d1 := hnw q' hql 1 (by omega)
            have d2 := hnw q' hql 2 (by omega)
            have d3 := hnw q' hql 3 (by omega)
            have d4 := hnw q' hql 4 (by omega)
            have d5 := hnw q' hql 5 (by omega)
            rw [hqn] at d0 d1 d2 d3 d4 d5
            simp only [Nd.cell, Nat.add_zero] at d0 d1 d2 d3 d4 d5
            have hi : (i' : Int) < (kc : Int) := by omega
            have hqi : q' < len := by have := Hlen.out; omega
            have HX : Hid (ns.drop (q' + 1 + k'.flat.length) = r'.flat ++ suf ∧ r'.wf ∧ i' + 1 + r'.count = kc ∧ ops.length ≤ i') := ⟨hnew, hw2, by omega, h5⟩
            have HE : Hid (treeEnd ns q' = ((q' + 1 + k'.flat.length : Nat) : Int)) := hend
            have HV2 : Hid (implKids (.tree n' k' r') kd i' ops = V) := h4
            obtain ⟨kd', num', a', bb', cc', kids'⟩ := n'
            dsimp only at *
            clear HQ h0 hw0 hw1 hw2 hql hqn hq1 hnw hend hnew h4 h5 h1
            cases hne : (clauseZ kd' != wantedZ kd i') with
            | true =>
              have HB : Hid (V = false) := by show V = false; rw [← HV2.out]; exact kidsZ_false hne
              go_wp2_with fail
              go_quiet (first | (go_at_call 97; refine Calls.quiet_of_same (turned (clauseKind_calls _ _))) | (go_at_call 98; refine Calls.quiet_of_same (turned (wanted_calls _ _ _))))
              go_wp2_with fail
              go_ret
              refine ⟨?_, hbx.trans (((hnx.alloc (by have := hnx.size; omega) _).trans (below_draws _ _ _)).mono hbx.size)⟩
              have := HV1.out
              rw [HB.out, Bool.false_and] at this
              rw [← this]
              rfl
            | false =>
              have HG : isIn ops a' = false → Hid (implKids r' kd (i' + 1) (if kd' = 26 then ops ++ [a'] else ops) = V) := fun h => by rw [← HV2.out]; exact (kidsZ_next (n := ⟨kd', num', a', bb', cc', kids'⟩) hne h).symm
              have HB : isIn ops a' = true → Hid (V = false) := fun h => by rw [← HV2.out]; exact kidsZ_in (n := ⟨kd', num', a', bb', cc', kids'⟩) h
              have hopl : ops.length ≤ 1000000 := by have := HX.out; have := HP.out; omega
              have hO : ∀ q, ((wr.alloc (.cells #[.int .i64 kd', .int .i64 num', .string a', .string bb', .string cc', .int .i64 kids'] 64)).drewN q).ownsRow (wo.heap.size + 1) 9 1 u5 ops.length (strs ops) := fun q => owns_below (hown.alloc _) (below_draws _ _ q)
              have HA : Hid (∀ q, _) := fun q => contains_calls _ _ ops a' _ hopl (hO q)
              have hK : ∀ q, ((wr.alloc (.cells #[.int .i64 kd', .int .i64 num', .string a', .string bb', .string cc', .int .i64 kids'] 64)).drewN q).heap[wr.heap.size]? = some (.cells #[.int .i64 kd', .int .i64 num', .string a', .string bb', .string cc', .int .i64 kids'] 64) := fun q => (MapKept.heap_alloc wr _).1
              have hE : ∀ q, ((wr.alloc (.cells #[.int .i64 kd', .int .i64 num', .string a', .string bb', .string cc', .int .i64 kids'] 64)).drewN q).heap[wo.heap.size]? = some (.cells #[.int .i64 kd, .int .i64 num, .string a, .string bb, .string cc, .int .i64 kc] 64) := fun q => (Below.heap_alloc _ _ _ hltA).trans eA
              have hBl : ∀ q, Below wo.heap.size wo ((wr.alloc (.cells #[.int .i64 kd', .int .i64 num', .string a', .string bb', .string cc', .int .i64 kids'] 64)).drewN q) := fun q => (hnx.alloc (by have := hnx.size; omega) _).trans (below_draws _ _ _)
              have HO : Hid (∀ q, _) := hO
              have HK : Hid (∀ q, _) := hK
              have HEa : Hid (∀ q, _) := hE
              have HBl : Hid (∀ q, _) := hBl
              clear hO hK hE hBl
              cases hin : isIn ops a' with
              | true =>
                have HF2 := HB hin
                rw [hin] at HA
                clear HB HG
                go_wp2_with fail
                go_quiet (first | (go_at_call 97; refine Calls.quiet_of_same (turned (clauseKind_calls _ _))) | (go_at_call 98; refine Calls.quiet_of_same (turned (wanted_calls _ _ _))) | (go_at_call 99; refine Calls.quiet_of_same (turned (HA.out _))))
                go_wp2_with fail
                go_ret
                refine ⟨?_, hbx.trans ((HBl.out _).mono hbx.size)⟩
                have := HV1.out
                rw [HF2.out, Bool.false_and] at this
                rw [← this]
                rfl
              | false =>
                have HG := HG hin
                rw [hin] at HA
                clear HB
                go_wp2_with fail
                go_quiet (first | (go_at_call 97; refine Calls.quiet_of_same (turned (clauseKind_calls _ _))) | (go_at_call 98; refine Calls.quiet_of_same (turned (wanted_calls _ _ _))) | (go_at_call 99; refine Calls.quiet_of_same (turned (HA.out _))))
                have hownQ := HO.out nq
                have eK := HK.out nq
                have eQ := HEa.out nq
                have hbQ := HBl.out nq
                clear HO HK HEa HBl HA d0 d1 d2 d3 d4 d5 a0
                generalize ((wr.alloc (.cells #[.int .i64 kd', .int .i64 num', .string a', .string bb', .string cc', .int .i64 kids'] 64)).drewN nq) = W3 at *
                have hltK := heap_lt eK
                have hltQ := heap_lt eQ
                have k0' := cell_of_heap eK 0
                have k2' := cell_of_heap eK 2
                simp at k0' k2'
                have hwQ : Below w.heap.size w W3 := hbx.trans (hbQ.mono hbx.size)
                have HT : Hid (∀ w, NodesAt w b off ns → _) := fun w h => implEnd_calls b off cap ns q' w h (by have := Hlen.out; have := HM.out; omega) (by have := HM.out; omega)
                rw [HE.out, Hlen.out] at HT
                generalize q' + 1 + k'.flat.length = ee at *
                have hol : Hid (ops.length ≤ 1048576) := by show _ ≤ _; omega
                by_cases h26 : kd' = 26
                · rw [if_pos h26] at HG
                  have h26' : (kd' == 26) = true := by rw [h26]; rfl
                  clear hin hne h26 eA hown hnx HV2 hopl hltA
                  obtain ⟨i0, hinf, hz0, hz1, hz2⟩ := info_parts info_str
                  go_wp2_with (first
                    | (at_builtin; refine wpList_append_own _ rfl _ _ 105 rfl (wo.heap.size + 1) 9 i0 (.string ⟨#[]⟩) 1 16 Tryz.underlying105 hinf hz0 hz1 hz2 rfl (by decide) _ _ _ rfl (hownQ.alloc _) ⟨W3.heap.size, 0, none⟩ 1 1 [.string a'] rfl rfl (cell_one_new _ _ rfl _ _) (fun x hx => by simp at hx; subst hx; rfl) (by have := hol.out; unfold maxLen; omega) (by have := hol.out; omega) (by simp; omega) ?_
                       intro v' w5 hown' hgrow hnil
                       have eA5 : Hid (w5.heap[wo.heap.size]? = some (.cells #[.int .i64 kd, .int .i64 num, .string a, .string bb, .string cc, .int .i64 kc] 64)) := by
                         show w5.heap[wo.heap.size]? = _
                         rw [hgrow.block wo.heap.size (by simp; omega) (fun h => by have := (hownQ.lt _ h.symm).1; omega), Below.heap_alloc _ _ _ hltQ]
                         exact eQ
                       have hbQ5 : Below wo.heap.size wo w5 := Below.grown (hbQ.alloc (by omega) _) hgrow (by simp; omega) (fun j hj => by have := (hownQ.lt _ hj).1; omega)
                       have hnx5 : Below w.heap.size w w5 := hbx.trans (hbQ5.mono hbx.size)
                       clear hgrow hnil eQ eK k0' k2' hownQ hbQ hwQ))
                  refine (HT.out w5 (HN.out.below hnx5 hbw)).mono ?_
                  rintro e w6 ⟨rfl, rfl⟩
                  go_wp2_with fail
                  have hi9 : i' ≤ 1048576 := by have := HP.out; omega
                  try rw [wrap_succ hi9]
                  refine ⟨⟨ee, i' + 1, r', ops ++ [a'], rfl, rfl, ⟨HX.out.1, HX.out.2.1, HX.out.2.2.1, HG.out, ?_⟩, ?_, eA5.out, hbQ5⟩, lt_step hi⟩
                  · rw [List.length_append]
                    exact Nat.succ_le_succ HX.out.2.2.2
                  · rw [List.length_append, strs, List.map_append]
                    exact hown'
                · rw [if_neg h26] at HG
                  have h26' : (kd' == 26) = false := by rw [beq_eq_false_iff_ne]; exact h26
                  clear hin hne h26 eA hown hnx HV2 hopl hltA
                  go_wp2_with fail
                  refine (HT.out W3 (HN.out.below hwQ hbw)).mono ?_
                  rintro e w6 ⟨rfl, rfl⟩
                  go_wp2_with fail
                  have hi9 : i' ≤ 1048576 := by have := HP.out; omega
                  try rw [wrap_succ hi9]
                  exact ⟨⟨ee, i' + 1, r', ops, rfl, rfl, ⟨HX.out.1, HX.out.2.1, HX.out.2.2.1, HG.out, Nat.le_succ_of_le HX.out.2.2.2⟩, hownQ, eQ, hbQ⟩, lt_step hi⟩
      · have e : at_ = len := by omega
        subst e
        have hV := HV.out
        rw [List.drop_eq_nil_of_le (by rw [HF.out.2.2]; exact Nat.le_refl _)] at hV
        subst hV
        clear HV HR
        go_wp2_with fail
        go_ret
        exact ⟨rfl, hbx⟩
end Go.Proofs.YtkdipppeljpgmaaGreatDoor

/- Whether a node has the fields of its kind, as the specification asks it. -/
namespace Go.Proofs.YtkdipppeljpgmaaGreatDoor
open Go.RowKit

def Nd.nm (n : Nd) : Nat → ByteArray
  | 0 => n.a
  | 1 => n.b
  | _ => n.c

/-- A name where the kind has one, nothing where it has none. -/
def fit (nm : Int) (i : Nat) (s : ByteArray) : Bool := if (i : Int) < nm then nameOk s else s.toList == []

def kidsOk (k kids : Int) : Bool := if arityZ k = -1 then false else if arityZ k = -2 then decide (2 ≤ kids ∧ kids ≤ 6) else decide (kids = arityZ k)

def numOk (k num : Int) : Bool := decide (0 ≤ num ∧ num ≤ mostZ k)

def namesOk (n : Nd) : Bool := fit (namesZ n.kind) 0 n.a && (fit (namesZ n.kind) 1 n.b && fit (namesZ n.kind) 2 n.c)

def unlike (n : Nd) : Bool := !(n.kind == 20 && n.a.toList == n.b.toList)

/-- The fields are those of the kind. -/
def ownOk (n : Nd) : Bool := kidsOk n.kind n.kids && (namesOk n && (unlike n && numOk n.kind n.num))

theorem arity_range (k : Int) : arityZ k = -1 ∨ arityZ k = -2 ∨ (0 ≤ arityZ k ∧ arityZ k ≤ 3) := by
  rcases kinds k with rfl | rfl | rfl | rfl | rfl | rfl | rfl | rfl | rfl | rfl | rfl | rfl | rfl | rfl | rfl | rfl | rfl | rfl | rfl | rfl | rfl | rfl | rfl | rfl | rfl | rfl | h
  all_goals try decide
  exact Or.inl (tab_other h)

theorem names_range (k : Int) : 0 ≤ namesZ k ∧ namesZ k ≤ 3 := by
  rcases kinds k with rfl | rfl | rfl | rfl | rfl | rfl | rfl | rfl | rfl | rfl | rfl | rfl | rfl | rfl | rfl | rfl | rfl | rfl | rfl | rfl | rfl | rfl | rfl | rfl | rfl | rfl | h
  all_goals try decide
  rw [namesZ, tab_other h]
  decide

theorem names_case {k : Int} (h : k = 20) : 1 < namesZ k := by subst h; decide

theorem most_one : mostZ 1 = 999999999 := rfl
theorem most_two : mostZ 2 = 1 := rfl
theorem most_other {k : Int} (h1 : k ≠ 1) (h2 : k ≠ 2) : mostZ k = 0 := by
  rcases kinds k with rfl | rfl | rfl | rfl | rfl | rfl | rfl | rfl | rfl | rfl | rfl | rfl | rfl | rfl | rfl | rfl | rfl | rfl | rfl | rfl | rfl | rfl | rfl | rfl | rfl | rfl | h
  all_goals try (first | (exact absurd rfl h1) | (exact absurd rfl h2) | rfl)
  exact tab_other h

theorem num_one {num : Int} (h : 0 ≤ num) : numOk 1 num = decide (num ≤ 999999999) := by
  unfold numOk
  rw [most_one]
  exact decide_eq_decide.2 ⟨fun x => x.2, fun x => ⟨h, x⟩⟩

theorem num_one_neg {num : Int} (h : ¬ 0 ≤ num) : numOk 1 num = false := decide_eq_false (fun x => h x.1)

theorem num_zero {k num : Int} (h : mostZ k = 0) : numOk k num = (num == 0) := by
  unfold numOk
  rw [h, Bool.eq_iff_iff, decide_eq_true_iff, beq_iff_eq]
  omega

theorem empty_name {s : ByteArray} (h : (s.toList == []) = true) : nameOk s = false := by
  refine nameOk_size (fun hh => ?_)
  have h1 : s.toList = [] := by simpa using h
  rw [ByteArray.toList_eq] at h1
  have h2 : s.data.toList.length = 0 := by rw [h1]; rfl
  rw [Array.length_toList] at h2
  have : s.size = 0 := h2
  omega

theorem fit_all {n : Nd} (h : ∀ i, i < 3 → fit (namesZ n.kind) i (n.nm i) = true) : namesOk n = true := by
  have h0 := h 0 (by omega)
  have h1 := h 1 (by omega)
  have h2 := h 2 (by omega)
  simp only [Nd.nm] at h0 h1 h2
  simp [namesOk, h0, h1, h2]

theorem fit_none {n : Nd} {i : Nat} (hi : i < 3) (h : fit (namesZ n.kind) i (n.nm i) = false) : namesOk n = false := by
  match i, hi, h with
  | 0, _, h => simp only [Nd.nm] at h; simp [namesOk, h]
  | 1, _, h => simp only [Nd.nm] at h; simp [namesOk, h]
  | 2, _, h => simp only [Nd.nm] at h; simp [namesOk, h]

/-- The last part of the test, behind the names. -/
def tailOk (k num : Int) (a b : ByteArray) : Bool := !(k == 20 && a.toList == b.toList) && numOk k num

set_option maxHeartbeats 4000000 in
set_option maxRecDepth 100000 in
theorem own_many (k num : Int) (a b c : ByteArray) (kids : Int) (w : World) (hK : kidsOk k kids = true) (h2 : arityZ k = -2) (hk2 : 2 ≤ kids) (hk6 : kids ≤ 6) :
    Calls Tryz.prog 58 #[.agg #[.int .i64 k, .int .i64 num, .string a, .string b, .string c, .int .i64 kids]] w fun e w' => e = .returned (.bool (ownOk ⟨k, num, a, b, c, kids⟩)) ∧ Below w.heap.size w w' := by
  have HN : Hid (∀ w, _) := names_calls k
  have hac := arity_calls k
  rw [h2] at hac
  have HC : Hid (∀ w, _) := hac
  clear hac h2
  go_enter Tryz.func58, Tryz.ntmps58
  go_wp2_with (first | (go_at_call 86; refine (HC.out _).mono ?_; rintro e w2 ⟨rfl, rfl⟩))
  go_loopw [5] (fun i wr => ∃ j : Nat, i = .int .i64 j ∧ j ≤ 3 ∧ Hid (∀ i, i < j → fit (namesZ k) i (Nd.nm ⟨k, num, a, b, c, kids⟩ i) = true) ∧ wr.heap[w.heap.size]? = some (.cells #[.int .i64 k, .int .i64 num, .string a, .string b, .string c, .int .i64 kids] 64) ∧ wr.heap[w.heap.size + 1]? = some (.cells #[.string a, .string b, .string c] 9) ∧ Below w.heap.size w wr) (fun i _ => 3 - (intOf i).toNat)
  case atStart =>
    have e1 := (MapKept.heap_alloc w (.cells #[.int .i64 k, .int .i64 num, .string a, .string b, .string c, .int .i64 kids] 64)).1
    refine ⟨0, rfl, by omega, fun i hi => by omega, ?_, ?_, ((Below.refl _ _).alloc (Nat.le_refl _) _).alloc (by simp) _⟩
    · rw [Below.heap_alloc _ _ _ (by simp)]
      exact e1
    · have := (MapKept.heap_alloc (w.alloc (.cells #[.int .i64 k, .int .i64 num, .string a, .string b, .string c, .int .i64 kids] 64)) (.cells #[.string a, .string b, .string c] 9)).1
      simpa using this
  case round =>
    obtain ⟨j, rfl, hj3, HA, eA, eN, hnx⟩ := hrel
    have a0 := cell_of_heap eA 0
    simp at a0
    have hltA := heap_lt eA
    have hltN := heap_lt eN
    by_cases hj : j < 3
    · have cN : wr.cell? ⟨w.heap.size + 1, j, none⟩ = some (.string (Nd.nm ⟨k, num, a, b, c, kids⟩ j)) := by
        rw [cell_of_heap eN j]
        match j, hj with
        | 0, _ => rfl
        | 1, _ => rfl
        | 2, _ => rfl
      have step : fit (namesZ k) j (Nd.nm ⟨k, num, a, b, c, kids⟩ j) = true → Hid (∀ i, i < j + 1 → fit (namesZ k) i (Nd.nm ⟨k, num, a, b, c, kids⟩ i) = true) := fun h i hi => by
        by_cases e : i = j
        · rw [e]
          exact h
        · exact HA.out i (by omega)
      have fin : fit (namesZ k) j (Nd.nm ⟨k, num, a, b, c, kids⟩ j) = false → Hid (ownOk ⟨k, num, a, b, c, kids⟩ = false) := fun h => by
        show ownOk _ = false
        have := fit_none (n := ⟨k, num, a, b, c, kids⟩) hj h
        simp [ownOk, this]
      have hLn := specName_calls (Nd.nm ⟨k, num, a, b, c, kids⟩ j)
      have hem := @empty_name (Nd.nm ⟨k, num, a, b, c, kids⟩ j)
      unfold fit at step fin
      generalize Nd.nm ⟨k, num, a, b, c, kids⟩ j = s at *
      generalize hnm : namesZ k = nm at *
      have eA' : Hid (wr.heap[w.heap.size]? = some (.cells #[.int .i64 k, .int .i64 num, .string a, .string b, .string c, .int .i64 kids] 64)) := eA
      have eN' : Hid (wr.heap[w.heap.size + 1]? = some (.cells #[.string a, .string b, .string c] 9)) := eN
      have hi3 : (j : Int) < 3 := by omega
      have htf : (true != false) = true := rfl
      have hft : (false != true) = true := rfl
      clear HA eA eN hnm
      by_cases hjn : (j : Int) < nm
      · rw [if_pos hjn] at step fin
        cases he : (s.toList == []) with
        | true =>
          have HF := fin (hem he)
          have HL : Hid (∀ w, _) := hLn
          clear hem step fin hLn
          go_wp2_with fail
          go_quiet (first | (go_at_call 87; refine Calls.quiet_of_same ((HN.out _).mono (fun _ _ h => ⟨h.1, h.2.symm⟩))))
          go_wp2_with fail
          go_ret
          exact ⟨by rw [HF.out]; rfl, below_drewN hnx _⟩
        | false =>
          cases hn : nameOk s with
          | true =>
            have HS := step hn
            rw [hn] at hLn
            have HL : Hid (∀ w, _) := hLn
            clear hem step fin hLn hn
            go_wp2_with fail
            go_region_held (fun w' => w'.cell? ⟨w.heap.size, 0, none⟩ = some (.int .i64 k) ∧ w'.cell? ⟨w.heap.size + 1, j, none⟩ = some (.string s)) (go_keep) (first | (go_at_call 87; refine (HN.out _).mono ?_; rintro e w2 ⟨rfl, rfl⟩) | (go_at_call 36; refine (HL.out _).mono ?_; rintro e w2 ⟨rfl, hb2⟩; have a0' := (hb2.cell (p := ⟨w.heap.size, 0, none⟩) hltA).trans a0; have cN' := (hb2.cell (p := ⟨w.heap.size + 1, j, none⟩) hltN).trans cN))
            all_goals
              have eA2 := (hb2.block w.heap.size hltA).trans eA'.out
              have eN2 := (hb2.block (w.heap.size + 1) hltN).trans eN'.out
              have hnx2 := hnx.drew.trans (hb2.mono hnx.size)
              clear hb2 a0 cN a0' cN'
              go_wp2_with fail
              exact ⟨⟨j + 1, by simp, by omega, HS, eA2, eN2, hnx2⟩, by simp [intOf]; omega⟩
          | false =>
            have HF := fin hn
            rw [hn] at hLn
            have HL : Hid (∀ w, _) := hLn
            clear hem step fin hLn hn
            go_wp2_with fail
            go_region_held (fun w' => w'.cell? ⟨w.heap.size, 0, none⟩ = some (.int .i64 k) ∧ w'.cell? ⟨w.heap.size + 1, j, none⟩ = some (.string s)) (go_keep) (first | (go_at_call 87; refine (HN.out _).mono ?_; rintro e w2 ⟨rfl, rfl⟩) | (go_at_call 36; refine (HL.out _).mono ?_; rintro e w2 ⟨rfl, hb2⟩; have a0' := (hb2.cell (p := ⟨w.heap.size, 0, none⟩) hltA).trans a0; have cN' := (hb2.cell (p := ⟨w.heap.size + 1, j, none⟩) hltN).trans cN))
            all_goals
              have hnx2 := hnx.drew.trans (hb2.mono hnx.size)
              clear hb2 a0 cN a0' cN'
              go_wp2_with fail
              go_ret
              exact ⟨by rw [HF.out]; rfl, hnx2⟩
      · rw [if_neg hjn] at step fin
        have hjd : decide ((j : Int) < nm) = false := decide_eq_false hjn
        have HL : Hid (∀ w, _) := hLn
        cases he : (s.toList == []) with
        | true =>
          have HS := step he
          clear hem step fin hLn
          go_wp2_with fail
          go_quiet (first | (go_at_call 87; refine Calls.quiet_of_same ((HN.out _).mono (fun _ _ h => ⟨h.1, h.2.symm⟩))))
          go_wp2_with fail
          exact ⟨⟨j + 1, by simp, by omega, HS, eA'.out, eN'.out, below_drewN hnx _⟩, by simp [intOf]; omega⟩
        | false =>
          have HF := fin he
          clear hem step fin hLn
          go_wp2_with fail
          go_quiet (first | (go_at_call 87; refine Calls.quiet_of_same ((HN.out _).mono (fun _ _ h => ⟨h.1, h.2.symm⟩))))
          go_wp2_with fail
          go_ret
          exact ⟨by rw [HF.out]; rfl, below_drewN hnx _⟩
    · have hnames : namesOk ⟨k, num, a, b, c, kids⟩ = true := fit_all (fun i hi => HA.out i (by omega))
      have hO : ownOk ⟨k, num, a, b, c, kids⟩ = (!(k == 20 && a.toList == b.toList) && numOk k num) := by simp [ownOk, hK, hnames, unlike]
      have a1 := cell_of_heap eA 1
      have a2 := cell_of_heap eA 2
      have a3 := cell_of_heap eA 3
      simp at a1 a2 a3
      have hnc := @names_case k
      have hm0 := @most_other k
      clear HA eA eN hnames
      generalize namesZ k = nm at *
      by_cases h20 : k = 20
      · subst h20
        have hnm1 : 1 < nm := hnc rfl
        cases hab : (a.toList == b.toList) with
        | true =>
          have HO : Hid (ownOk ⟨20, num, a, b, c, kids⟩ = false) := by show _ = _; rw [hO, hab]; rfl
          clear hO hnc hm0
          go_wp2_with (first | (go_at_call 87; refine (HN.out _).mono ?_; rintro e w2 ⟨rfl, rfl⟩))
          go_ret
          exact ⟨by rw [HO.out]; rfl, hnx⟩
        | false =>
          have HO : Hid (ownOk ⟨20, num, a, b, c, kids⟩ = (num == 0)) := by
            show _ = _
            rw [hO, hab, numOk, hm0 (by omega) (by omega), Bool.eq_iff_iff]
            simp
            omega
          clear hO hnc hm0
          go_wp2_with (first | (go_at_call 87; refine (HN.out _).mono ?_; rintro e w2 ⟨rfl, rfl⟩))
          go_ret
          exact ⟨by rw [HO.out]; rfl, hnx⟩
      · have h20' : (k == 20) = false := by rw [beq_eq_false_iff_ne]; exact h20
        rw [h20', Bool.false_and, Bool.not_false, Bool.true_and] at hO
        clear hnc h20
        by_cases h1 : k = 1
        · subst h1
          by_cases hn0 : 0 ≤ num
          · have HO : Hid (ownOk ⟨1, num, a, b, c, kids⟩ = decide (num ≤ 999999999)) := by
              exact hO.trans (num_one hn0)
            clear hO hm0 h20'
            go_wp2_with (first | (go_at_call 87; refine (HN.out _).mono ?_; rintro e w2 ⟨rfl, rfl⟩))
            all_goals
              go_ret
              exact ⟨by rw [HO.out]; rfl, hnx⟩
          · have HO : Hid (ownOk ⟨1, num, a, b, c, kids⟩ = false) := by
              exact hO.trans (num_one_neg hn0)
            clear hO hm0 h20'
            go_wp2_with (first | (go_at_call 87; refine (HN.out _).mono ?_; rintro e w2 ⟨rfl, rfl⟩))
            all_goals
              go_ret
              exact ⟨by rw [HO.out]; rfl, hnx⟩
        · by_cases h2 : k = 2
          · subst h2
            by_cases hn0 : num = 0
            · have hn0' : (num == 0) = true := by rw [hn0]; rfl
              have HO : Hid (ownOk ⟨2, num, a, b, c, kids⟩ = true) := by
                show _ = _
                rw [hO, numOk, most_two]
                simp
                omega
              clear hO hm0 h20' hn0
              go_wp2_with (first | (go_at_call 87; refine (HN.out _).mono ?_; rintro e w2 ⟨rfl, rfl⟩))
              all_goals
                go_ret
                exact ⟨by rw [HO.out]; rfl, hnx⟩
            · have hn0' : (num == 0) = false := by rw [beq_eq_false_iff_ne]; exact hn0
              have HO : Hid (ownOk ⟨2, num, a, b, c, kids⟩ = (num == 1)) := by
                show _ = _
                rw [hO, numOk, most_two, Bool.eq_iff_iff]
                simp
                omega
              clear hO hm0 h20' hn0
              go_wp2_with (first | (go_at_call 87; refine (HN.out _).mono ?_; rintro e w2 ⟨rfl, rfl⟩))
              all_goals
                go_ret
                exact ⟨by rw [HO.out]; rfl, hnx⟩
          · have HO : Hid (ownOk ⟨k, num, a, b, c, kids⟩ = (num == 0)) := by
              exact hO.trans (num_zero (hm0 h1 h2))
            have h1' : (k == 1) = false := by rw [beq_eq_false_iff_ne]; exact h1
            have h2' : (k == 2) = false := by rw [beq_eq_false_iff_ne]; exact h2
            clear hO hm0 h1 h2
            go_wp2_with (first | (go_at_call 87; refine (HN.out _).mono ?_; rintro e w2 ⟨rfl, rfl⟩))
            all_goals
              go_ret
              exact ⟨by rw [HO.out]; rfl, hnx⟩
end Go.Proofs.YtkdipppeljpgmaaGreatDoor

/- Whether a node has the fields of its kind, as the program asks it. -/
namespace Go.Proofs.YtkdipppeljpgmaaGreatDoor
open Go.RowKit

/-- What the program asks of one node. -/
def nodeOkZ (n : Nd) : Bool := ownOk n && !(n.kind == 26 && n.b.toList == n.c.toList)

theorem shape_in {k : Int} (h : ¬ (k < 1 ∨ 26 < k)) : shapeVal k = .tuple #[.agg #[.int .i64 (namesZ k), .int .i64 (mostZ k), .int .i64 (leastZ k), .int .i64 (greatZ k)], .bool true] := by rw [shapeVal, if_neg h]
theorem shape_out {k : Int} (h : k < 1 ∨ 26 < k) : shapeVal k = .tuple #[.agg #[.int .i64 0, .int .i64 0, .int .i64 0, .int .i64 0], .bool false] := by rw [shapeVal, if_pos h]

theorem own_out {n : Nd} (h : n.kind < 1 ∨ 26 < n.kind) : nodeOkZ n = false := by
  have : arityZ n.kind = -1 := tab_other h
  simp [nodeOkZ, ownOk, kidsOk, this]

theorem arity_in {k : Int} (h : ¬ (k < 1 ∨ 26 < k)) : arityZ k ≠ -1 := by
  rcases kinds k with rfl | rfl | rfl | rfl | rfl | rfl | rfl | rfl | rfl | rfl | rfl | rfl | rfl | rfl | rfl | rfl | rfl | rfl | rfl | rfl | rfl | rfl | rfl | rfl | rfl | rfl | hh
  all_goals try decide
  exact absurd hh h

theorem kids_in {k kids : Int} (h : ¬ (k < 1 ∨ 26 < k)) : kidsOk k kids = decide (leastZ k ≤ kids ∧ kids ≤ greatZ k) := by
  unfold kidsOk leastZ greatZ
  rw [if_neg (arity_in h)]
  by_cases h2 : arityZ k = -2
  · rw [if_pos h2, if_pos h2, if_pos h2]
  · rw [if_neg h2, if_neg h2, if_neg h2]
    exact decide_eq_decide.2 ⟨fun x => by omega, fun x => by omega⟩

set_option maxHeartbeats 4000000 in
set_option maxRecDepth 100000 in
theorem nodeOk_loop (k num : Int) (a b c : ByteArray) (kids : Int) (w : World) (ha : a.size ≤ maxLen) (hb : b.size ≤ maxLen) (hc : c.size ≤ maxLen) (nm mo le gr : Int)
    (hsh : ∀ w, Calls Tryz.prog 96 #[.int .i64 k] w fun e w' => e = .returned (.tuple #[.agg #[.int .i64 nm, .int .i64 mo, .int .i64 le, .int .i64 gr], .bool true]) ∧ Below w.heap.size w w')
    (h1 : 0 ≤ num) (h2 : num ≤ mo) (h3 : le ≤ kids) (h4 : kids ≤ gr) (hnm : Hid (nm = namesZ k)) (hK : kidsOk k kids = true) (hN : numOk k num = true) :
    Calls Tryz.prog 75 #[.agg #[.int .i64 k, .int .i64 num, .string a, .string b, .string c, .int .i64 kids]] w fun e w' => e = .returned (.bool (nodeOkZ ⟨k, num, a, b, c, kids⟩)) ∧ Below w.heap.size w w' := by
  have HS : Hid (∀ w, _) := hsh
  clear hsh
  have HK : Hid (kidsOk k kids = true) := hK
  have HM : Hid (numOk k num = true) := hN
  clear hK hN
  go_enter Tryz.func75, Tryz.ntmps75
  go_wp2_with (first | (go_at_call 96; refine (HS.out _).mono ?_; rintro e w2 ⟨rfl, hb2⟩; obtain ⟨eA, hnx⟩ := one_kept hb2; clear hb2; have hltA := heap_lt eA; have a0 := cell_of_heap eA 0; have a1 := cell_of_heap eA 1; have a2 := cell_of_heap eA 2; have a3 := cell_of_heap eA 3; have a4 := cell_of_heap eA 4; have a5 := cell_of_heap eA 5; simp at a0 a1 a2 a3 a4 a5))
  clear a0 a1 a2 a3 a4 a5
  go_loopw [49] (fun i wr => ∃ j : Nat, i = .int .i64 j ∧ j ≤ 3 ∧ Hid (∀ i, i < j → fit nm i (Nd.nm ⟨k, num, a, b, c, kids⟩ i) = true) ∧ wr.heap[w.heap.size]? = some (.cells #[.int .i64 k, .int .i64 num, .string a, .string b, .string c, .int .i64 kids] 64) ∧ wr.heap[w2.heap.size]? = some (.cells #[.int .i64 nm, .int .i64 mo, .int .i64 le, .int .i64 gr] 120) ∧ wr.heap[w2.heap.size + 1]? = some (.cells #[.string a, .string b, .string c] 9) ∧ Below w.heap.size w wr) (fun i _ => 3 - (intOf i).toNat)
  case atStart =>
    refine ⟨0, rfl, by omega, fun i hi => by omega, ?_, ?_, ?_, (hnx.alloc (by have := hnx.size; omega) _).alloc (by have := hnx.size; simp; omega) _⟩
    · rw [Below.heap_alloc _ _ _ (by simp; omega), Below.heap_alloc _ _ _ hltA]
      exact eA
    · rw [Below.heap_alloc _ _ _ (by simp)]
      exact (MapKept.heap_alloc w2 _).1
    · have := (MapKept.heap_alloc (w2.alloc (.cells #[.int .i64 nm, .int .i64 mo, .int .i64 le, .int .i64 gr] 120)) (.cells #[.string a, .string b, .string c] 9)).1
      simpa using this
  case round =>
    obtain ⟨j, rfl, hj3, HA, eA, eS, eN, hnx⟩ := hrel
    have s0 := cell_of_heap eS 0
    simp at s0
    have hltA := heap_lt eA
    have hltS := heap_lt eS
    have hltN := heap_lt eN
    by_cases hj : j < 3
    · have hi3 : (j : Int) < 3 := by omega
      have cN : wr.cell? ⟨w2.heap.size + 1, j, none⟩ = some (.string (Nd.nm ⟨k, num, a, b, c, kids⟩ j)) := by
        rw [cell_of_heap eN j]
        match j, hj with
        | 0, _ => rfl
        | 1, _ => rfl
        | 2, _ => rfl
      have hsj : (Nd.nm ⟨k, num, a, b, c, kids⟩ j).size ≤ maxLen := by
        match j, hj with
        | 0, _ => exact ha
        | 1, _ => exact hb
        | 2, _ => exact hc
      have step : fit nm j (Nd.nm ⟨k, num, a, b, c, kids⟩ j) = true → Hid (∀ i, i < j + 1 → fit nm i (Nd.nm ⟨k, num, a, b, c, kids⟩ i) = true) := fun h i hi => by
        by_cases e : i = j
        · rw [e]
          exact h
        · exact HA.out i (by omega)
      have fin : fit nm j (Nd.nm ⟨k, num, a, b, c, kids⟩ j) = false → Hid (nodeOkZ ⟨k, num, a, b, c, kids⟩ = false) := fun h => by
        show nodeOkZ _ = false
        rw [hnm.out] at h
        have := fit_none (n := ⟨k, num, a, b, c, kids⟩) hj h
        simp [nodeOkZ, ownOk, this]
      have hLn := implName_calls (Nd.nm ⟨k, num, a, b, c, kids⟩ j) hsj
      unfold fit at step fin
      generalize Nd.nm ⟨k, num, a, b, c, kids⟩ j = s at *
      have eA' : Hid (wr.heap[w.heap.size]? = some (.cells #[.int .i64 k, .int .i64 num, .string a, .string b, .string c, .int .i64 kids] 64)) := eA
      have eS' : Hid (wr.heap[w2.heap.size]? = some (.cells #[.int .i64 nm, .int .i64 mo, .int .i64 le, .int .i64 gr] 120)) := eS
      have eN' : Hid (wr.heap[w2.heap.size + 1]? = some (.cells #[.string a, .string b, .string c] 9)) := eN
      clear HA eA eS eN
      have HL : Hid (∀ w, _) := hLn
      clear hLn
      by_cases hjn : (j : Int) < nm
      · rw [if_pos hjn] at step fin
        have hjd : decide (nm ≤ (j : Int)) = false := decide_eq_false (by omega)
        cases hn : nameOk s with
        | true =>
          have HT := step hn
          clear step fin
          rw [hn] at HL
          go_wp2_with (first | (go_at_call 46; refine (HL.out _).mono ?_; rintro e w3 ⟨rfl, hb3⟩; have s0' := (hb3.cell (p := ⟨w2.heap.size, 0, none⟩) hltS).trans s0))
          all_goals
            have eA2 := (hb3.block w.heap.size hltA).trans eA'.out
            have eS2 := (hb3.block w2.heap.size hltS).trans eS'.out
            have eN2 := (hb3.block (w2.heap.size + 1) hltN).trans eN'.out
            have hnx2 := hnx.trans (hb3.mono hnx.size)
            exact ⟨⟨j + 1, by simp, by omega, HT, eA2, eS2, eN2, hnx2⟩, by simp [intOf]; omega⟩
        | false =>
          have HF := fin hn
          clear step fin
          rw [hn] at HL
          go_wp2_with (first | (go_at_call 46; refine (HL.out _).mono ?_; rintro e w3 ⟨rfl, hb3⟩; have s0' := (hb3.cell (p := ⟨w2.heap.size, 0, none⟩) hltS).trans s0))
          all_goals
            have hnx2 := hnx.trans (hb3.mono hnx.size)
            go_ret
            exact ⟨by rw [HF.out]; rfl, hnx2⟩
      · rw [if_neg hjn] at step fin
        have hjd : decide (nm ≤ (j : Int)) = true := decide_eq_true (by omega)
        cases he : (s.toList == []) with
        | true =>
          have HT := step he
          clear step fin
          go_wp2_with fail
          all_goals exact ⟨⟨j + 1, by simp, by omega, HT, eA'.out, eS'.out, eN'.out, hnx⟩, by simp [intOf]; omega⟩
        | false =>
          have HF := fin he
          clear step fin
          go_wp2_with fail
          all_goals
            go_ret
            exact ⟨by rw [HF.out]; rfl, hnx⟩
    · have hnames : namesOk ⟨k, num, a, b, c, kids⟩ = true := fit_all (fun i hi => by have := HA.out i (by omega); rw [hnm.out] at this; exact this)
      have hO : nodeOkZ ⟨k, num, a, b, c, kids⟩ = (!(k == 20 && a.toList == b.toList) && !(k == 26 && b.toList == c.toList)) := by simp [nodeOkZ, ownOk, HK.out, HM.out, hnames, unlike]
      have a0 := cell_of_heap eA 0
      have a2 := cell_of_heap eA 2
      have a3 := cell_of_heap eA 3
      have a4 := cell_of_heap eA 4
      simp at a0 a2 a3 a4
      clear HA eA eS eN hnames s0 HK HM hnm HS
      by_cases h20 : k = 20
      · subst h20
        cases hab : (a.toList == b.toList) with
        | true =>
          have HO : Hid (nodeOkZ ⟨20, num, a, b, c, kids⟩ = false) := by show _ = _; rw [hO, hab]; rfl
          clear hO
          go_wp2_with fail
          all_goals
            go_ret
            exact ⟨by rw [HO.out]; rfl, hnx⟩
        | false =>
          have HO : Hid (nodeOkZ ⟨20, num, a, b, c, kids⟩ = true) := by show _ = _; rw [hO, hab]; rfl
          clear hO
          go_wp2_with fail
          all_goals
            go_ret
            exact ⟨by rw [HO.out]; rfl, hnx⟩
      · have h20' : (k == 20) = false := by rw [beq_eq_false_iff_ne]; exact h20
        by_cases h26 : k = 26
        · subst h26
          have HO : Hid (nodeOkZ ⟨26, num, a, b, c, kids⟩ = !(b.toList == c.toList)) := by show _ = _; rw [hO]; rfl
          clear hO h20 h20'
          go_wp2_with fail
          all_goals
            go_ret
            exact ⟨by rw [HO.out]; rfl, hnx⟩
        · have h26' : (k == 26) = false := by rw [beq_eq_false_iff_ne]; exact h26
          have HO : Hid (nodeOkZ ⟨k, num, a, b, c, kids⟩ = true) := by show _ = _; rw [hO, h20', h26']; rfl
          clear hO h20 h26
          go_wp2_with fail
          all_goals
            go_ret
            exact ⟨by rw [HO.out]; rfl, hnx⟩

set_option maxHeartbeats 1000000 in
set_option maxRecDepth 100000 in
theorem nodeOk_calls (n : Nd) (w : World) (ha : n.a.size ≤ maxLen) (hb : n.b.size ≤ maxLen) (hc : n.c.size ≤ maxLen) :
    Calls Tryz.prog 75 #[.agg #[.int .i64 n.kind, .int .i64 n.num, .string n.a, .string n.b, .string n.c, .int .i64 n.kids]] w fun e w' => e = .returned (.bool (nodeOkZ n)) ∧ Below w.heap.size w w' := by
  obtain ⟨k, num, a, b, c, kids⟩ := n
  dsimp only at *
  have hsh := shape_calls k
  by_cases hk : k < 1 ∨ 26 < k
  · have HO : Hid (nodeOkZ ⟨k, num, a, b, c, kids⟩ = false) := own_out hk
    rw [shape_out hk] at hsh
    have HS : Hid (∀ w, _) := hsh
    clear hsh hk
    go_enter Tryz.func75, Tryz.ntmps75
    go_wp2_with (first | (go_at_call 96; refine (HS.out _).mono ?_; rintro e w2 ⟨rfl, hb2⟩; obtain ⟨eA, hnx⟩ := one_kept hb2; clear hb2))
    all_goals
      go_ret
      exact ⟨by rw [HO.out]; rfl, hnx.alloc hnx.size _⟩
  · rw [shape_in hk] at hsh
    have hN : numOk k num = decide (0 ≤ num ∧ num ≤ mostZ k) := rfl
    have hK := kids_in (kids := kids) hk
    by_cases h1 : (0 ≤ num ∧ num ≤ mostZ k) ∧ (leastZ k ≤ kids ∧ kids ≤ greatZ k)
    · exact nodeOk_loop k num a b c kids w ha hb hc _ _ _ _ hsh h1.1.1 h1.1.2 h1.2.1 h1.2.2 rfl (by rw [hK]; exact decide_eq_true h1.2) (by rw [hN]; exact decide_eq_true h1.1)
    · have HO : Hid (nodeOkZ ⟨k, num, a, b, c, kids⟩ = false) := by
        show _ = _
        rw [nodeOkZ, ownOk, hK, hN]
        by_cases h2 : 0 ≤ num ∧ num ≤ mostZ k
        · have h3 : ¬ (leastZ k ≤ kids ∧ kids ≤ greatZ k) := fun h => h1 ⟨h2, h⟩
          simp only [decide_eq_false h3, Bool.false_and]
        · simp only [decide_eq_false h2, Bool.and_false, Bool.false_and]
      clear hN hK
      generalize mostZ k = mo at *
      generalize leastZ k = le at *
      generalize greatZ k = gr at *
      generalize namesZ k = nm at *
      have HS : Hid (∀ w, _) := hsh
      have h1' : num < 0 ∨ mo < num ∨ kids < le ∨ gr < kids := by omega
      clear hsh h1 hk
      have hb1 : (decide (num < 0) || decide (mo < num) || decide (kids < le) || decide (gr < kids)) = true := by
        simp only [Bool.or_eq_true, decide_eq_true_eq]
        omega
      clear h1'
      go_enter Tryz.func75, Tryz.ntmps75
      go_wp2_with (first | (go_at_call 96; refine (HS.out _).mono ?_; rintro e w2 ⟨rfl, hb2⟩; obtain ⟨eA, hnx⟩ := one_kept hb2; clear hb2; have hltA := heap_lt eA; have a1 := cell_of_heap eA 1; have a5 := cell_of_heap eA 5; simp at a1 a5))
      all_goals
        go_ret
        exact ⟨by rw [HO.out]; rfl, hnx.alloc hnx.size _⟩
end Go.Proofs.YtkdipppeljpgmaaGreatDoor

/- What a tree must be: the specification's answer and the program's are one. -/
namespace Go.Proofs.YtkdipppeljpgmaaGreatDoor
open Go.RowKit Go.Deep

def SpecAns (ns : List Nd) (R : Bool) : Prop :=
  (¬ (1 ≤ ns.length ∧ ns.length ≤ 300) ∧ R = false) ∨
  (1 ≤ ns.length ∧ ns.length ≤ 300 ∧ treeEnd ns 0 ≠ ns.length ∧ R = false) ∨
  (1 ≤ ns.length ∧ ns.length ≤ 300 ∧ ∃ n k, ns = n :: k.flat ∧ n.kids = k.count ∧ k.wf ∧ R = (ns.all ownOk && (decide (k.deep + 1 ≤ 40) && specTree n k 0)))

def ImplAns (ns : List Nd) (R : Bool) : Prop :=
  (¬ (1 ≤ ns.length ∧ ns.length ≤ 300) ∧ R = false) ∨
  (1 ≤ ns.length ∧ ns.length ≤ 300 ∧ treeEnd ns 0 ≠ ns.length ∧ R = false) ∨
  (1 ≤ ns.length ∧ ns.length ≤ 300 ∧ ∃ n k, ns = n :: k.flat ∧ n.kids = k.count ∧ k.wf ∧ R = (ns.all nodeOkZ && (implTree n k && decide (k.deep + 1 ≤ 40))))

theorem all_both {α : Type} (p q : α → Bool) : ∀ l : List α, l.all (fun x => p x && q x) = (l.all p && l.all q)
  | [] => rfl
  | x :: l => by
    simp only [List.all_cons, all_both p q l]
    cases p x <;> cases q x <;> cases l.all p <;> cases l.all q <;> rfl

theorem answers (ns : List Nd) : ∃ R, SpecAns ns R ∧ ImplAns ns R := by
  by_cases hl : 1 ≤ ns.length ∧ ns.length ≤ 300
  · by_cases he : treeEnd ns 0 = ns.length
    · obtain ⟨n, k, h1, h2, h3⟩ := tree_of he
      refine ⟨_, Or.inr (Or.inr ⟨hl.1, hl.2, n, k, h1, h2, h3, rfl⟩), Or.inr (Or.inr ⟨hl.1, hl.2, n, k, h1, h2, h3, ?_⟩)⟩
      have e : ns.all nodeOkZ = (ns.all ownOk && ns.all ok26) := all_both ownOk ok26 ns
      rw [e, trees_eq, ← h1]
      cases ns.all ownOk <;> cases ns.all ok26 <;> cases implTree n k <;> cases decide (k.deep + 1 ≤ 40) <;> rfl
    · exact ⟨false, Or.inr (Or.inl ⟨hl.1, hl.2, he, rfl⟩), Or.inr (Or.inl ⟨hl.1, hl.2, he, rfl⟩)⟩
  · exact ⟨false, Or.inl ⟨hl, rfl⟩, Or.inl ⟨hl, rfl⟩⟩

theorem fits_of_own {n : Nd} (h : ownOk n = true) : Fits n n.kids.toNat := by
  have hk : kidsOk n.kind n.kids = true := by
    simp only [ownOk, Bool.and_eq_true] at h
    exact h.1
  have hr : ¬ (n.kind < 1 ∨ 26 < n.kind) := by
    intro hx
    have : arityZ n.kind = -1 := tab_other hx
    simp [kidsOk, this] at hk
  unfold kidsOk at hk
  have ha := arity_range n.kind
  split at hk
  · cases hk
  · rename_i h1
    split at hk
    · rename_i h2
      have hk := of_decide_eq_true hk
      refine ⟨?_, ?_, by omega, by omega⟩
      · rw [leastZ, if_pos h2]; omega
      · rw [greatZ, if_pos h2]; omega
    · rename_i h2
      have hk := of_decide_eq_true hk
      refine ⟨?_, ?_, by omega, by omega⟩
      · rw [leastZ, if_neg h2]; omega
      · rw [greatZ, if_neg h2]; omega

theorem end_of_tree {ns : List Nd} {n : Nd} {k : Fo} (h1 : ns = n :: k.flat) (h2 : n.kids = k.count) (h3 : k.wf) : treeEnd ns 0 = (ns.length : Int) := by
  have := treeEnd_at (ns := ns) (p := 0) (n := n) (k := k) (suf := []) (by rw [h1]; simp) h2 h3
  rw [show ((0 : Nat) : Int) = 0 from rfl] at this
  rw [this, h1]
  simp
  omega

theorem all_take_succ {p : Nd → Bool} {ns : List Nd} {i : Nat} (hi : i < ns.length) (h : (ns.take i).all p = true) (hn : p (ns.getD i default) = true) : (ns.take (i + 1)).all p = true := by
  rw [List.take_succ_eq_append_getElem hi, List.all_append, h]
  simp only [List.getD, List.getElem?_eq_getElem hi] at hn
  simpa using hn

theorem all_false {p : Nd → Bool} {ns : List Nd} {i : Nat} (hi : i < ns.length) (hn : p (ns.getD i default) = false) : ns.all p = false := by
  rw [List.all_eq_false]
  simp only [List.getD, List.getElem?_eq_getElem hi] at hn
  exact ⟨ns[i], List.getElem_mem _, by simpa using hn⟩

/-- What is left behind the nodes' own test. -/
def Rest (ns : List Nd) (R : Bool) (own : Nd → Bool) (tr : Nd → Fo → Bool) : Prop :=
  (ns.all own = false → R = false) ∧ (ns.all own = true → (treeEnd ns 0 ≠ (ns.length : Int) ∧ R = false) ∨ ∃ n k, ns = n :: k.flat ∧ n.kids = k.count ∧ k.wf ∧ treeEnd ns 0 = (ns.length : Int) ∧ R = (tr n k && decide (k.deep + 1 ≤ 40)))

theorem SpecAns.rest {ns : List Nd} {R : Bool} (h : SpecAns ns R) (hl : 1 ≤ ns.length ∧ ns.length ≤ 300) : Rest ns R ownOk (fun n k => specTree n k 0) := by
  rcases h with ⟨h, _⟩ | ⟨_, _, he, hR⟩ | ⟨_, _, n, k, h1, h2, h3, hR⟩
  · exact absurd hl h
  · exact ⟨fun _ => hR, fun _ => Or.inl ⟨he, hR⟩⟩
  · refine ⟨fun h => by rw [hR, h, Bool.false_and], fun h => Or.inr ⟨n, k, h1, h2, h3, end_of_tree h1 h2 h3, ?_⟩⟩
    rw [hR, h, Bool.true_and, Bool.and_comm]

theorem ImplAns.rest {ns : List Nd} {R : Bool} (h : ImplAns ns R) (hl : 1 ≤ ns.length ∧ ns.length ≤ 300) : Rest ns R nodeOkZ implTree := by
  rcases h with ⟨h, _⟩ | ⟨_, _, he, hR⟩ | ⟨_, _, n, k, h1, h2, h3, hR⟩
  · exact absurd hl h
  · exact ⟨fun _ => hR, fun _ => Or.inl ⟨he, hR⟩⟩
  · refine ⟨fun h => by rw [hR, h, Bool.false_and], fun h => Or.inr ⟨n, k, h1, h2, h3, end_of_tree h1 h2 h3, ?_⟩⟩
    rw [hR, h, Bool.true_and]
end Go.Proofs.YtkdipppeljpgmaaGreatDoor

/- Whether a node has the fields of its kind, as the specification asks it: every kind. -/
namespace Go.Proofs.YtkdipppeljpgmaaGreatDoor
open Go.RowKit

set_option maxHeartbeats 4000000 in
set_option maxRecDepth 100000 in
theorem own_some (k num : Int) (a b c : ByteArray) (kids : Int) (w : World) (hK : kidsOk k kids = true) (ar : Int) (har : arityZ k = ar) (h0 : 0 ≤ ar) (h3 : ar ≤ 3) (hne : (kids != ar) = false) :
    Calls Tryz.prog 58 #[.agg #[.int .i64 k, .int .i64 num, .string a, .string b, .string c, .int .i64 kids]] w fun e w' => e = .returned (.bool (ownOk ⟨k, num, a, b, c, kids⟩)) ∧ Below w.heap.size w w' := by
  have HN : Hid (∀ w, _) := names_calls k
  have hac := arity_calls k
  rw [har] at hac
  have HC : Hid (∀ w, _) := hac
  have hm1 : (ar == -1) = false := by rw [beq_eq_false_iff_ne]; omega
  have hm2 : (ar == -2) = false := by rw [beq_eq_false_iff_ne]; omega
  clear hac har
  go_enter Tryz.func58, Tryz.ntmps58
  go_wp2_with (first | (go_at_call 86; refine (HC.out _).mono ?_; rintro e w2 ⟨rfl, rfl⟩))
  go_loopw [5] (fun i wr => ∃ j : Nat, i = .int .i64 j ∧ j ≤ 3 ∧ Hid (∀ i, i < j → fit (namesZ k) i (Nd.nm ⟨k, num, a, b, c, kids⟩ i) = true) ∧ wr.heap[w.heap.size]? = some (.cells #[.int .i64 k, .int .i64 num, .string a, .string b, .string c, .int .i64 kids] 64) ∧ wr.heap[w.heap.size + 1]? = some (.cells #[.string a, .string b, .string c] 9) ∧ Below w.heap.size w wr) (fun i _ => 3 - (intOf i).toNat)
  case atStart =>
    have e1 := (MapKept.heap_alloc w (.cells #[.int .i64 k, .int .i64 num, .string a, .string b, .string c, .int .i64 kids] 64)).1
    refine ⟨0, rfl, by omega, fun i hi => by omega, ?_, ?_, ((Below.refl _ _).alloc (Nat.le_refl _) _).alloc (by simp) _⟩
    · rw [Below.heap_alloc _ _ _ (by simp)]
      exact e1
    · have := (MapKept.heap_alloc (w.alloc (.cells #[.int .i64 k, .int .i64 num, .string a, .string b, .string c, .int .i64 kids] 64)) (.cells #[.string a, .string b, .string c] 9)).1
      simpa using this
  case round =>
    obtain ⟨j, rfl, hj3, HA, eA, eN, hnx⟩ := hrel
    have a0 := cell_of_heap eA 0
    simp at a0
    have hltA := heap_lt eA
    have hltN := heap_lt eN
    by_cases hj : j < 3
    · have cN : wr.cell? ⟨w.heap.size + 1, j, none⟩ = some (.string (Nd.nm ⟨k, num, a, b, c, kids⟩ j)) := by
        rw [cell_of_heap eN j]
        match j, hj with
        | 0, _ => rfl
        | 1, _ => rfl
        | 2, _ => rfl
      have step : fit (namesZ k) j (Nd.nm ⟨k, num, a, b, c, kids⟩ j) = true → Hid (∀ i, i < j + 1 → fit (namesZ k) i (Nd.nm ⟨k, num, a, b, c, kids⟩ i) = true) := fun h i hi => by
        by_cases e : i = j
        · rw [e]
          exact h
        · exact HA.out i (by omega)
      have fin : fit (namesZ k) j (Nd.nm ⟨k, num, a, b, c, kids⟩ j) = false → Hid (ownOk ⟨k, num, a, b, c, kids⟩ = false) := fun h => by
        show ownOk _ = false
        have := fit_none (n := ⟨k, num, a, b, c, kids⟩) hj h
        simp [ownOk, this]
      have hLn := specName_calls (Nd.nm ⟨k, num, a, b, c, kids⟩ j)
      have hem := @empty_name (Nd.nm ⟨k, num, a, b, c, kids⟩ j)
      unfold fit at step fin
      generalize Nd.nm ⟨k, num, a, b, c, kids⟩ j = s at *
      generalize hnm : namesZ k = nm at *
      have eA' : Hid (wr.heap[w.heap.size]? = some (.cells #[.int .i64 k, .int .i64 num, .string a, .string b, .string c, .int .i64 kids] 64)) := eA
      have eN' : Hid (wr.heap[w.heap.size + 1]? = some (.cells #[.string a, .string b, .string c] 9)) := eN
      have hi3 : (j : Int) < 3 := by omega
      have htf : (true != false) = true := rfl
      have hft : (false != true) = true := rfl
      clear HA eA eN hnm
      by_cases hjn : (j : Int) < nm
      · rw [if_pos hjn] at step fin
        cases he : (s.toList == []) with
        | true =>
          have HF := fin (hem he)
          have HL : Hid (∀ w, _) := hLn
          clear hem step fin hLn
          go_wp2_with fail
          go_quiet (first | (go_at_call 87; refine Calls.quiet_of_same ((HN.out _).mono (fun _ _ h => ⟨h.1, h.2.symm⟩))))
          go_wp2_with fail
          go_ret
          exact ⟨by rw [HF.out]; rfl, below_drewN hnx _⟩
        | false =>
          cases hn : nameOk s with
          | true =>
            have HS := step hn
            rw [hn] at hLn
            have HL : Hid (∀ w, _) := hLn
            clear hem step fin hLn hn
            go_wp2_with fail
            go_region_held (fun w' => w'.cell? ⟨w.heap.size, 0, none⟩ = some (.int .i64 k) ∧ w'.cell? ⟨w.heap.size + 1, j, none⟩ = some (.string s)) (go_keep) (first | (go_at_call 87; refine (HN.out _).mono ?_; rintro e w2 ⟨rfl, rfl⟩) | (go_at_call 36; refine (HL.out _).mono ?_; rintro e w2 ⟨rfl, hb2⟩; have a0' := (hb2.cell (p := ⟨w.heap.size, 0, none⟩) hltA).trans a0; have cN' := (hb2.cell (p := ⟨w.heap.size + 1, j, none⟩) hltN).trans cN))
            all_goals
              have eA2 := (hb2.block w.heap.size hltA).trans eA'.out
              have eN2 := (hb2.block (w.heap.size + 1) hltN).trans eN'.out
              have hnx2 := hnx.drew.trans (hb2.mono hnx.size)
              clear hb2 a0 cN a0' cN'
              go_wp2_with fail
              exact ⟨⟨j + 1, by simp, by omega, HS, eA2, eN2, hnx2⟩, by simp [intOf]; omega⟩
          | false =>
            have HF := fin hn
            rw [hn] at hLn
            have HL : Hid (∀ w, _) := hLn
            clear hem step fin hLn hn
            go_wp2_with fail
            go_region_held (fun w' => w'.cell? ⟨w.heap.size, 0, none⟩ = some (.int .i64 k) ∧ w'.cell? ⟨w.heap.size + 1, j, none⟩ = some (.string s)) (go_keep) (first | (go_at_call 87; refine (HN.out _).mono ?_; rintro e w2 ⟨rfl, rfl⟩) | (go_at_call 36; refine (HL.out _).mono ?_; rintro e w2 ⟨rfl, hb2⟩; have a0' := (hb2.cell (p := ⟨w.heap.size, 0, none⟩) hltA).trans a0; have cN' := (hb2.cell (p := ⟨w.heap.size + 1, j, none⟩) hltN).trans cN))
            all_goals
              have hnx2 := hnx.drew.trans (hb2.mono hnx.size)
              clear hb2 a0 cN a0' cN'
              go_wp2_with fail
              go_ret
              exact ⟨by rw [HF.out]; rfl, hnx2⟩
      · rw [if_neg hjn] at step fin
        have hjd : decide ((j : Int) < nm) = false := decide_eq_false hjn
        have HL : Hid (∀ w, _) := hLn
        cases he : (s.toList == []) with
        | true =>
          have HS := step he
          clear hem step fin hLn
          go_wp2_with fail
          go_quiet (first | (go_at_call 87; refine Calls.quiet_of_same ((HN.out _).mono (fun _ _ h => ⟨h.1, h.2.symm⟩))))
          go_wp2_with fail
          exact ⟨⟨j + 1, by simp, by omega, HS, eA'.out, eN'.out, below_drewN hnx _⟩, by simp [intOf]; omega⟩
        | false =>
          have HF := fin he
          clear hem step fin hLn
          go_wp2_with fail
          go_quiet (first | (go_at_call 87; refine Calls.quiet_of_same ((HN.out _).mono (fun _ _ h => ⟨h.1, h.2.symm⟩))))
          go_wp2_with fail
          go_ret
          exact ⟨by rw [HF.out]; rfl, below_drewN hnx _⟩
    · have hnames : namesOk ⟨k, num, a, b, c, kids⟩ = true := fit_all (fun i hi => HA.out i (by omega))
      have hO : ownOk ⟨k, num, a, b, c, kids⟩ = (!(k == 20 && a.toList == b.toList) && numOk k num) := by simp [ownOk, hK, hnames, unlike]
      have a1 := cell_of_heap eA 1
      have a2 := cell_of_heap eA 2
      have a3 := cell_of_heap eA 3
      simp at a1 a2 a3
      have hnc := @names_case k
      have hm0 := @most_other k
      clear HA eA eN hnames
      generalize namesZ k = nm at *
      by_cases h20 : k = 20
      · subst h20
        have hnm1 : 1 < nm := hnc rfl
        cases hab : (a.toList == b.toList) with
        | true =>
          have HO : Hid (ownOk ⟨20, num, a, b, c, kids⟩ = false) := by show _ = _; rw [hO, hab]; rfl
          clear hO hnc hm0
          go_wp2_with (first | (go_at_call 87; refine (HN.out _).mono ?_; rintro e w2 ⟨rfl, rfl⟩))
          go_ret
          exact ⟨by rw [HO.out]; rfl, hnx⟩
        | false =>
          have HO : Hid (ownOk ⟨20, num, a, b, c, kids⟩ = (num == 0)) := by
            show _ = _
            rw [hO, hab, numOk, hm0 (by omega) (by omega), Bool.eq_iff_iff]
            simp
            omega
          clear hO hnc hm0
          go_wp2_with (first | (go_at_call 87; refine (HN.out _).mono ?_; rintro e w2 ⟨rfl, rfl⟩))
          go_ret
          exact ⟨by rw [HO.out]; rfl, hnx⟩
      · have h20' : (k == 20) = false := by rw [beq_eq_false_iff_ne]; exact h20
        rw [h20', Bool.false_and, Bool.not_false, Bool.true_and] at hO
        clear hnc h20
        by_cases h1 : k = 1
        · subst h1
          by_cases hn0 : 0 ≤ num
          · have HO : Hid (ownOk ⟨1, num, a, b, c, kids⟩ = decide (num ≤ 999999999)) := by
              exact hO.trans (num_one hn0)
            clear hO hm0 h20'
            go_wp2_with (first | (go_at_call 87; refine (HN.out _).mono ?_; rintro e w2 ⟨rfl, rfl⟩))
            all_goals
              go_ret
              exact ⟨by rw [HO.out]; rfl, hnx⟩
          · have HO : Hid (ownOk ⟨1, num, a, b, c, kids⟩ = false) := by
              exact hO.trans (num_one_neg hn0)
            clear hO hm0 h20'
            go_wp2_with (first | (go_at_call 87; refine (HN.out _).mono ?_; rintro e w2 ⟨rfl, rfl⟩))
            all_goals
              go_ret
              exact ⟨by rw [HO.out]; rfl, hnx⟩
        · by_cases h2 : k = 2
          · subst h2
            by_cases hn0 : num = 0
            · have hn0' : (num == 0) = true := by rw [hn0]; rfl
              have HO : Hid (ownOk ⟨2, num, a, b, c, kids⟩ = true) := by
                show _ = _
                rw [hO, numOk, most_two]
                simp
                omega
              clear hO hm0 h20' hn0
              go_wp2_with (first | (go_at_call 87; refine (HN.out _).mono ?_; rintro e w2 ⟨rfl, rfl⟩))
              all_goals
                go_ret
                exact ⟨by rw [HO.out]; rfl, hnx⟩
            · have hn0' : (num == 0) = false := by rw [beq_eq_false_iff_ne]; exact hn0
              have HO : Hid (ownOk ⟨2, num, a, b, c, kids⟩ = (num == 1)) := by
                show _ = _
                rw [hO, numOk, most_two, Bool.eq_iff_iff]
                simp
                omega
              clear hO hm0 h20' hn0
              go_wp2_with (first | (go_at_call 87; refine (HN.out _).mono ?_; rintro e w2 ⟨rfl, rfl⟩))
              all_goals
                go_ret
                exact ⟨by rw [HO.out]; rfl, hnx⟩
          · have HO : Hid (ownOk ⟨k, num, a, b, c, kids⟩ = (num == 0)) := by
              exact hO.trans (num_zero (hm0 h1 h2))
            have h1' : (k == 1) = false := by rw [beq_eq_false_iff_ne]; exact h1
            have h2' : (k == 2) = false := by rw [beq_eq_false_iff_ne]; exact h2
            clear hO hm0 h1 h2
            go_wp2_with (first | (go_at_call 87; refine (HN.out _).mono ?_; rintro e w2 ⟨rfl, rfl⟩))
            all_goals
              go_ret
              exact ⟨by rw [HO.out]; rfl, hnx⟩

set_option maxHeartbeats 2000000 in
set_option maxRecDepth 100000 in
theorem own_calls (n : Nd) (w : World) :
    Calls Tryz.prog 58 #[.agg #[.int .i64 n.kind, .int .i64 n.num, .string n.a, .string n.b, .string n.c, .int .i64 n.kids]] w fun e w' => e = .returned (.bool (ownOk n)) ∧ Below w.heap.size w w' := by
  obtain ⟨k, num, a, b, c, kids⟩ := n
  dsimp only
  have har := arity_range k
  have hac := arity_calls k
  cases hK : kidsOk k kids with
  | false =>
    have hO : Hid (ownOk ⟨k, num, a, b, c, kids⟩ = false) := by
      show ownOk _ = false
      simp [ownOk, hK]
    unfold kidsOk at hK
    generalize arityZ k = ar at *
    have HC : Hid (∀ w, _) := hac
    clear hac
    rcases har with rfl | rfl | ⟨h0, h3⟩
    · clear hK
      go_enter Tryz.func58, Tryz.ntmps58
      go_wp2_with (first | (go_at_call 86; refine (HC.out _).mono ?_; rintro e w2 ⟨rfl, rfl⟩))
      go_ret
      exact ⟨by rw [hO.out]; rfl, (Below.refl _ _).alloc (Nat.le_refl _) _⟩
    · rw [if_neg (by omega), if_pos rfl] at hK
      simp at hK
      by_cases h2 : kids < 2
      · clear hK
        go_enter Tryz.func58, Tryz.ntmps58
        go_wp2_with (first | (go_at_call 86; refine (HC.out _).mono ?_; rintro e w2 ⟨rfl, rfl⟩))
        go_ret
        exact ⟨by rw [hO.out]; rfl, (Below.refl _ _).alloc (Nat.le_refl _) _⟩
      · have h6 : 6 < kids := hK (by omega)
        clear hK
        go_enter Tryz.func58, Tryz.ntmps58
        go_wp2_with (first | (go_at_call 86; refine (HC.out _).mono ?_; rintro e w2 ⟨rfl, rfl⟩))
        go_ret
        exact ⟨by rw [hO.out]; rfl, (Below.refl _ _).alloc (Nat.le_refl _) _⟩
    · rw [if_neg (by omega), if_neg (by omega)] at hK
      have hne : (kids != ar) = true := by simpa using hK
      have hm1 : (ar == -1) = false := by rw [beq_eq_false_iff_ne]; omega
      clear hK
      go_enter Tryz.func58, Tryz.ntmps58
      go_wp2_with (first | (go_at_call 86; refine (HC.out _).mono ?_; rintro e w2 ⟨rfl, rfl⟩))
      go_ret
      exact ⟨by rw [hO.out]; rfl, (Below.refl _ _).alloc (Nat.le_refl _) _⟩
  | true =>
    have hK' := hK
    unfold kidsOk at hK'
    rcases har with har | har | ⟨h0, h3⟩
    · rw [if_pos har] at hK'
      cases hK'
    · rw [if_neg (by omega), if_pos har] at hK'
      simp at hK'
      exact own_many k num a b c kids w hK har hK'.1 hK'.2
    · rw [if_neg (by omega), if_neg (by omega)] at hK'
      exact own_some k num a b c kids w hK _ rfl h0 h3 (by simpa using hK')
end Go.Proofs.YtkdipppeljpgmaaGreatDoor

/- Whether nodes are a tree, as the specification asks it. -/
namespace Go.Proofs.YtkdipppeljpgmaaGreatDoor
open Go.RowKit Go.Deep

set_option maxHeartbeats 4000000 in
set_option maxRecDepth 100000 in
theorem specTree_calls (b off cap : Nat) (ns : List Nd) (w : World) (R : Bool) (hm : ns.length ≤ 1048576) (hbw : b < w.heap.size) (hn : NodesAt w b off ns) (hA : SpecAns ns R) :
    Calls Tryz.prog 35 #[.slice (some ⟨b, off, none⟩) ns.length cap] w fun e w' => e = .returned (.bool R) ∧ Below w.heap.size w w' := by
  by_cases hl : 1 ≤ ns.length ∧ ns.length ≤ 300
  · have hrest := hA.rest hl
    obtain ⟨len, hlen⟩ : ∃ len, ns.length = len := ⟨_, rfl⟩
    have Hlen : Hid (ns.length = len) := hlen
    have HR : Hid (Rest ns R ownOk (fun n k => specTree n k 0)) := hrest
    have HN : Hid (NodesAt w b off ns) := hn
    have HL : Hid (1 ≤ len ∧ len ≤ 300) := by show _ ∧ _; omega
    have h1 : (1 : Int) ≤ (len : Int) := by omega
    have h2 : (len : Int) ≤ 300 := by omega
    rw [hlen]
    clear hrest hn hA hl hm hlen
    go_enter Tryz.func35, Tryz.ntmps35
    go_wp2_with fail
    clear h1 h2
    go_loopw [3] (fun i wr => ∃ i' : Nat, i = .int .i64 i' ∧ i' ≤ len ∧ Hid ((ns.take i').all ownOk = true) ∧ Below w.heap.size w wr) (fun i _ => len - (intOf i).toNat)
    case atStart => exact ⟨0, rfl, Nat.zero_le _, rfl, Below.refl _ _⟩
    case round =>
      obtain ⟨i', rfl, hle, HT, hbx⟩ := hrel
      have hnx := HN.out.below hbx hbw
      by_cases hlt : (i' : Int) < (len : Int)
      · have hil : i' < ns.length := by rw [Hlen.out]; omega
        have c0 := hnx i' hil 0 (by omega)
        have c1 := hnx i' hil 1 (by omega)
        have c2 := hnx i' hil 2 (by omega)
        have c3 := hnx i' hil 3 (by omega)
        have c4 := hnx i' hil 4 (by omega)
        have c5 := hnx i' hil 5 (by omega)
        obtain ⟨n, hnn⟩ : ∃ n, ns.getD i' default = n := ⟨_, rfl⟩
        have hF : ownOk n = false → Hid (R = false) := fun h => HR.out.1 (all_false hil (by rw [hnn]; exact h))
        have hT : ownOk n = true → Hid ((ns.take (i' + 1)).all ownOk = true) := fun h => all_take_succ hil HT.out (by rw [hnn]; exact h)
        rw [hnn] at c0 c1 c2 c3 c4 c5
        simp only [Nd.cell, Nat.add_zero] at c0 c1 c2 c3 c4 c5
        have HO : Hid (∀ w, _) := own_calls n
        clear hnx hil hnn HT
        obtain ⟨kd, num, a, bb, cc, kids⟩ := n
        dsimp only at *
        go_wp2_with fail
        refine (HO.out _).mono ?_
        rintro e w2 ⟨rfl, hb2⟩
        have hb3 := hbx.trans (hb2.mono hbx.size)
        clear c0 c1 c2 c3 c4 c5 hb2 HO
        cases ho : ownOk ⟨kd, num, a, bb, cc, kids⟩ with
        | false =>
          have HF := hF ho
          clear hF hT
          go_wp2_with fail
          go_ret
          exact ⟨by rw [HF.out]; rfl, hb3⟩
        | true =>
          have HT := hT ho
          clear hF hT
          go_wp2_with fail
          have hs := lt_step hlt
          try rw [wrap_succ (by have := HL.out; omega)]
          exact ⟨⟨i' + 1, rfl, by omega, HT, hb3⟩, hs⟩
      · have e : i' = len := by omega
        subst e
        have hall : ns.all ownOk = true := by
          have := HT.out
          rwa [List.take_of_length_le (by rw [Hlen.out]; exact Nat.le_refl _)] at this
        have HX : Hid (∀ w, NodesAt w b off ns → _) := fun w h => specEnd_calls b off cap ns 0 w h (by rw [Hlen.out]; have := HL.out; omega)
        rw [Hlen.out] at HX
        rcases HR.out.2 hall with ⟨hne, hR⟩ | ⟨n, k, g1, g2, g3, g4, hR⟩
        · have hne' : (treeEnd ns 0 == (i' : Int)) = false := by rw [beq_eq_false_iff_ne]; rw [Hlen.out] at hne; exact hne
          clear HT hall hne
          generalize treeEnd ns 0 = te at *
          subst hR
          go_wp2_with fail
          refine (HX.out wr hnx).mono ?_
          rintro e w2 ⟨rfl, rfl⟩
          go_wp2_with fail
          go_ret
          exact ⟨rfl, hbx⟩
        · have hdr : ns.drop 0 = n :: (k.flat ++ []) := by rw [g1]; simp
          have HD : Hid (∀ w, NodesAt w b off ns → _) := fun w h => deep_calls b off cap ns (by rw [Hlen.out]; have := HL.out; omega) (k.flat.length + 1) n k [] 0 w h hdr g2 g3 (Nat.lt_succ_self _)
          have HC : Hid (∀ w, b < w.heap.size → NodesAt w b off ns → _) := fun w hb h => clauses_calls b off cap ns (by rw [Hlen.out]; have := HL.out; omega) (k.flat.length + 1) n k [] 0 0 w (by omega) hb h hdr g2 g3 (Nat.lt_succ_self _)
          rw [Hlen.out] at HD HC
          rw [g4, Hlen.out] at HX
          have HE : Hid (R = (specTree n k 0 && decide (k.deep + 1 ≤ 40))) := hR
          have hee : (((i' : Int)) == (i' : Int)) = true := by simp
          clear HT hall g1 g2 g3 g4 hdr hR HR
          generalize k.deep + 1 = dd at *
          go_wp2_with fail
          refine (HX.out wr hnx).mono ?_
          rintro e w2 ⟨rfl, rfl⟩
          go_wp2_with fail
          refine (HD.out wr hnx).mono ?_
          rintro e w2 ⟨rfl, rfl⟩
          by_cases hdd : (dd : Int) ≤ 40
          · go_wp2_with fail
            refine (HC.out wr (by have := hbx.size; omega) hnx).mono ?_
            rintro e w2 ⟨rfl, hb2⟩
            go_wp2_with fail
            go_ret
            refine ⟨?_, hbx.trans (hb2.mono hbx.size)⟩
            rw [HE.out, decide_eq_true (show dd ≤ 40 by omega), Bool.and_true]
            rfl
          · go_wp2_with fail
            go_ret
            refine ⟨?_, hbx⟩
            rw [HE.out, decide_eq_false (show ¬ dd ≤ 40 by omega), Bool.and_false]
            rfl
  · have hR : R = false := by
      rcases hA with ⟨_, h⟩ | ⟨h1, h2, _⟩ | ⟨h1, h2, _⟩
      · exact h
      · exact absurd ⟨h1, h2⟩ hl
      · exact absurd ⟨h1, h2⟩ hl
    subst hR
    have hl' : (ns.length : Int) < 1 ∨ ((1 : Int) ≤ (ns.length : Int) ∧ (300 : Int) < (ns.length : Int)) := by omega
    clear hA hm hn hl
    generalize ns.length = len at *
    rcases hl' with h | ⟨h, h'⟩
    all_goals
      go_enter Tryz.func35, Tryz.ntmps35
      go_wp2_with fail
      go_ret
      exact ⟨rfl, Below.refl _ _⟩
end Go.Proofs.YtkdipppeljpgmaaGreatDoor

/- A program without operations: the specification's ProgOk. -/
namespace Go.Proofs.YtkdipppeljpgmaaGreatDoor
open Go.RowKit Go.Deep

set_option maxHeartbeats 8000000 in
set_option maxRecDepth 100000 in
theorem specProgN_calls (bt cn : Nat) (ns : List Nd) (T : Bool) (w : World) (hbt : bt < w.heap.size) (hN : NodesAt w bt 0 ns) (mn : ns.length ≤ 1048576) (hTT : ∀ w' : World, bt < w'.heap.size → NodesAt w' bt 0 ns → Calls Tryz.prog 35 #[.slice (some ⟨bt, 0, none⟩) ns.length cn] w' fun e w'' => e = .returned (.bool T) ∧ Below w'.heap.size w' w'') :
    Calls Tryz.prog 14 #[.agg #[.slice none 0 0, .slice (some ⟨bt, 0, none⟩) ns.length cn]] w fun e w' => e = .returned (.bool (progZ [] ns T)) ∧ Below w.heap.size w w' := by
  have hb1 : Below w.heap.size w (w.alloc (.cells #[.slice none 0 0, .slice (some ⟨bt, 0, none⟩) ns.length cn] 25)) := (Below.refl _ _).alloc (Nat.le_refl _) _
  have HT : Hid (Calls _ _ _ _ _) := hTT (w.alloc (.cells #[.slice none 0 0, .slice (some ⟨bt, 0, none⟩) ns.length cn] 25)) (Nat.lt_of_lt_of_le hbt hb1.size) (hN.below hb1 hbt)
  have HB1 : Hid (Below w.heap.size w (w.alloc (.cells #[.slice none 0 0, .slice (some ⟨bt, 0, none⟩) ns.length cn] 25))) := hb1
  have HK1 : Hid ((w.alloc (.cells #[.slice none 0 0, .slice (some ⟨bt, 0, none⟩) ns.length cn] 25)).heap[w.heap.size]? = some (.cells #[.slice none 0 0, .slice (some ⟨bt, 0, none⟩) ns.length cn] 25)) := (MapKept.heap_alloc w _).1
  obtain ⟨R, hR⟩ : ∃ R, progZ [] ns T = R := ⟨_, rfl⟩
  have HR8 : Hid ((T && ns.all (nodeHas [])) = R) := by
    show _ = R
    rw [← hR]
    simp [progZ]
  have HN : Hid (NodesAt w bt 0 ns) := hN
  rw [hR]
  obtain ⟨ln, hln⟩ : ∃ ln, ns.length = ln := ⟨_, rfl⟩
  have Hlen : Hid (ns.length = ln) := hln
  rw [hln] at HT HB1 HK1 ⊢
  have HM : Hid (ln ≤ 1048576) := by show _ ≤ _; omega
  clear hb1 hR hN mn hTT hln
  go_enter Tryz.func14, Tryz.ntmps14
  go_wp2_with fail
  refine HT.out.mono ?_
  rintro e w2 ⟨rfl, hb2⟩
  have hbw2 := HB1.out.trans (hb2.mono HB1.out.size)
  have kp2 := (hb2.block w.heap.size (by simp)).trans HK1.out
  clear HT HB1 HK1 hb2
  cases T with
  | false =>
    go_wp2_with fail
    go_ret
    exact ⟨by rw [← HR8.out]; rfl, hbw2⟩
  | true =>
    have HR2 : Hid (ns.all (nodeHas []) = R) := HR8.out
    clear HR8
    have pA := cell_of_heap kp2 0
    have pB := cell_of_heap kp2 1
    simp at pA pB
    go_wp2_with fail
    refine wp_loop_rounds 1 ?_
    rw [rounds_succ]
    go_wp2_with fail
    clear pA pB
    go_loopw [5] (fun j wr => ∃ k : Nat, j = .int .i64 k ∧ k ≤ ln ∧ Hid ((ns.take k).all (nodeHas []) = true) ∧ wr.heap[w.heap.size]? = some (.cells #[.slice none 0 0, .slice (some ⟨bt, 0, none⟩) ln cn] 25) ∧ Below w.heap.size w wr) (fun j _ => ln - (intOf j).toNat)
    case atStart => exact ⟨0, rfl, Nat.zero_le _, rfl, kp2, hbw2⟩
    case round =>
      clear kp2 hbw2
      obtain ⟨k, rfl, hk, HI, kp, hbx⟩ := hrel
      have hAlt := heap_lt kp
      have pA := cell_of_heap kp 0
      have pB := cell_of_heap kp 1
      simp at pA pB
      by_cases hlt : (k : Int) < (ln : Int)
      · have hil : k < ns.length := by rw [Hlen.out]; omega
        have hNx := HN.out.below hbx hbt
        have c0 := hNx k hil 0 (by omega)
        have c1 := hNx k hil 1 (by omega)
        have c2 := hNx k hil 2 (by omega)
        have c3 := hNx k hil 3 (by omega)
        have c4 := hNx k hil 4 (by omega)
        have c5 := hNx k hil 5 (by omega)
        obtain ⟨nd, hnd⟩ : ∃ nd, ns.getD k default = nd := ⟨_, rfl⟩
        have hF : nodeHas [] nd = false → Hid (R = false) := fun h => by
          show R = false
          rw [← HR2.out]
          exact has_false hil (by rw [hnd]; exact h)
        have hS : nodeHas [] nd = true → Hid ((ns.take (k + 1)).all (nodeHas []) = true) := fun h => has_step hil HI.out (by rw [hnd]; exact h)
        rw [hnd] at c0 c1 c2 c3 c4 c5
        simp only [Nd.cell, Nat.add_zero, Nat.zero_add] at c0 c1 c2 c3 c4 c5
        obtain ⟨kd, num, a, bb, cc, kids⟩ := nd
        dsimp only at *
        have hpl := effPlace_lt [] a 0
        have hszx := hbx.size
        have HP : Hid (∀ w', _) := fun w' => l2Eff_calls none 0 [] a w' (by simp) (fun h => absurd rfl h)
        simp only [nodeHas] at hF hS
        clear hNx hil hnd HI
        generalize effPlace [] a 0 = pl at *
        generalize effIn [] a = ein at *
        have hq : (kd == 22) = true ∨ ((kd == 22) = false ∧ (kd == 26) = true) ∨ ((kd == 22) = false ∧ (kd == 26) = false) := by
          cases (kd == 22) <;> cases (kd == 26) <;> simp
        rcases hq with k22 | ⟨k22, k26⟩ | ⟨k22, k26⟩
        · by_cases hp : pl < 0
          · have hei : ein = false := hpl.1 hp
            have HF := hF (by rw [hei, k22]; rfl)
            clear hF hS hpl
            go_wp2_with fail
            refine (HP.out _).mono ?_
            rintro e w6 ⟨rfl, rfl⟩
            go_wp2_with fail
            go_ret
            exact ⟨by rw [HF.out]; rfl, hbx.alloc hszx _⟩
          · have hei : ein = true := by
              cases hx : ein with
              | true => rfl
              | false => exact absurd (hpl.2 hx) hp
            have HS := hS (by rw [hei]; simp)
            clear hF hS hpl
            go_wp2_with fail
            refine (HP.out _).mono ?_
            rintro e w6 ⟨rfl, rfl⟩
            go_wp2_with fail
            have hs : ln - (intOf (.int .i64 ((k + 1 : Nat) : Int))).toNat < ln - (intOf (.int .i64 (k : Int))).toNat := by simp only [intOf, Int.toNat_natCast]; omega
            try rw [show wrap64 ((k : Int) + 1) = ((k + 1 : Nat) : Int) by have := HM.out; unfold wrap64; omega]
            exact ⟨⟨k + 1, rfl, by omega, HS, (Below.heap_alloc _ _ _ hAlt).trans kp, hbx.alloc hszx _⟩, hs⟩
        · by_cases hp : pl < 0
          · have hei : ein = false := hpl.1 hp
            have HF := hF (by rw [hei, k26]; simp)
            clear hF hS hpl
            go_wp2_with fail
            refine (HP.out _).mono ?_
            rintro e w6 ⟨rfl, rfl⟩
            go_wp2_with fail
            go_ret
            exact ⟨by rw [HF.out]; rfl, hbx.alloc hszx _⟩
          · have hei : ein = true := by
              cases hx : ein with
              | true => rfl
              | false => exact absurd (hpl.2 hx) hp
            have HS := hS (by rw [hei]; simp)
            clear hF hS hpl
            go_wp2_with fail
            refine (HP.out _).mono ?_
            rintro e w6 ⟨rfl, rfl⟩
            go_wp2_with fail
            have hs : ln - (intOf (.int .i64 ((k + 1 : Nat) : Int))).toNat < ln - (intOf (.int .i64 (k : Int))).toNat := by simp only [intOf, Int.toNat_natCast]; omega
            try rw [show wrap64 ((k : Int) + 1) = ((k + 1 : Nat) : Int) by have := HM.out; unfold wrap64; omega]
            exact ⟨⟨k + 1, rfl, by omega, HS, (Below.heap_alloc _ _ _ hAlt).trans kp, hbx.alloc hszx _⟩, hs⟩
        · have HS := hS (by rw [k22, k26]; rfl)
          clear hF hS hpl HP
          go_wp2_with fail
          have hs : ln - (intOf (.int .i64 ((k + 1 : Nat) : Int))).toNat < ln - (intOf (.int .i64 (k : Int))).toNat := by simp only [intOf, Int.toNat_natCast]; omega
          try rw [show wrap64 ((k : Int) + 1) = ((k + 1 : Nat) : Int) by have := HM.out; unfold wrap64; omega]
          exact ⟨⟨k + 1, rfl, by omega, HS, (Below.heap_alloc _ _ _ hAlt).trans kp, hbx.alloc hszx _⟩, hs⟩
      · have e : k = ln := by omega
        have HT : Hid (R = true) := by
          show R = true
          rw [← HR2.out]
          have := HI.out
          rwa [List.take_of_length_le (by rw [Hlen.out]; omega)] at this
        clear HI
        go_wp2_with fail
        go_ret
        exact ⟨by rw [HT.out]; rfl, hbx⟩

/-- The operations of a program, as they lie. -/
def EffW (W : World) (ae : Option Addr) (ce : Nat) (es : List Ef) : Prop := (ae = none ∧ es = [] ∧ ce = 0) ∨ ∃ be, ae = some ⟨be, 0, none⟩ ∧ be < W.heap.size ∧ EffsAt W be 0 es ∧ es.length ≤ ce

theorem progOk_at {W : World} {ae : Option Addr} {ce bt cn : Nat} {es : List Ef} {ns : List Nd} {T : Bool} (hE : EffW W ae ce es) (hel : es.length ≤ 1000) (hbt : bt < W.heap.size) (hN : NodesAt W bt 0 ns) (hl : ns.length ≤ 300) (hA : SpecAns ns T) :
    Calls Tryz.prog 14 #[.agg #[.slice ae es.length ce, .slice (some ⟨bt, 0, none⟩) ns.length cn]] W fun e W' => e = .returned (.bool (progZ es ns T)) ∧ Below W.heap.size W W' := by
  rcases hE with ⟨rfl, rfl, rfl⟩ | ⟨be, rfl, hbe, hEA, hce⟩
  · exact specProgN_calls bt cn ns T W hbt hN (by omega) (fun w' hb hn => specTree_calls bt 0 cn ns w' T (by omega) hb hn hA)
  · exact specProgC_calls be bt ce cn es ns T W hce hbe hbt hEA hN (by omega) (by omega) (fun w' hb hn => specTree_calls bt 0 cn ns w' T (by omega) hb hn hA)

theorem EffW.below {W W' : World} {ae : Option Addr} {ce : Nat} {es : List Ef} (h : EffW W ae ce es) (hb : Below W.heap.size W W') : EffW W' ae ce es := by
  rcases h with h | ⟨be, e, hbe, hEA, hce⟩
  · exact Or.inl h
  · exact Or.inr ⟨be, e, Nat.lt_of_lt_of_le hbe hb.size, hEA.below hb hbe, hce⟩
end Go.Proofs.YtkdipppeljpgmaaGreatDoor

/- The specification's ProgRead: the words, the grammar, the size, the operations. -/
namespace Go.Proofs.YtkdipppeljpgmaaGreatDoor
open Go.RowKit Go.Deep

theorem flatW_row : ∀ (ws : List Wd), flatW ws = rowZ wdC 3 ws
  | [] => rfl
  | w :: r => by
    rw [flatW, flatW_row r]
    simp [rowZ, wdC, List.range, List.range.loop]

/-- What is read, or what is wrong, and where; T tells which trees may be. -/
def readZ (t : ByteArray) (T : List Nd → Bool) : Except (Int × Nat) (List Ef × Tr) :=
  if (lexAll t).2.1 ≠ 0 then .error ((lexAll t).2.1, (lexAll t).2.2)
  else match wholeI (lexAll t).1 with
    | .error j => .error (5, if j < (lexAll t).1.length then (curW (lexAll t).1 j).at_ else t.size)
    | .ok r => if r.2 < (lexAll t).1.length then .error (5, (curW (lexAll t).1 r.2).at_)
      else if 300 < (Tr.flat r.1.2).length ∨ 8 < r.1.1.length then .error (6, 0)
      else if 40 < r.1.2.2.deep + 1 then .error (7, 0)
      else if progZ r.1.1 (Tr.flat r.1.2) (T (Tr.flat r.1.2)) = true then .ok r.1 else .error (8, 0)

theorem two_blocks (W : World) (o1 o2 : Obj) : Below W.heap.size W ((W.alloc o1).alloc o2) ∧ ((W.alloc o1).alloc o2).heap[W.heap.size]? = some o1 ∧ ((W.alloc o1).alloc o2).heap[W.heap.size + 1]? = some o2 ∧ ((W.alloc o1).alloc o2).heap.size = W.heap.size + 2 := by
  have h1 : Below W.heap.size W (W.alloc o1) := (Below.refl _ _).alloc (Nat.le_refl _) _
  have h2 : Below (W.alloc o1).heap.size (W.alloc o1) ((W.alloc o1).alloc o2) := (Below.refl _ _).alloc (Nat.le_refl _) _
  have s1 : (W.alloc o1).heap.size = W.heap.size + 1 := by simp
  refine ⟨h1.trans (h2.mono h1.size), (h2.block _ (by omega)).trans (MapKept.heap_alloc W o1).1, ?_, by simp⟩
  have := (MapKept.heap_alloc (W.alloc o1) o2).1
  rw [s1] at this
  exact this

/-- Both results are stored. -/
def set4 (w : World) (B : Nat) (a b c d : Value) : World := (((w.setCell ⟨B, 0, none⟩ a).setCell ⟨B, 1, none⟩ b).setCell ⟨B + 1, 0, none⟩ c).setCell ⟨B + 1, 1, none⟩ d

theorem set4_is {w : World} {B : Nat} {x y z u : Value} {t t' : TypeId} (a b c d : Value) (h : w.heap[B]? = some (.cells #[x, y] t)) (h' : w.heap[B + 1]? = some (.cells #[z, u] t')) :
    (set4 w B a b c d).heap[B]? = some (.cells #[a, b] t) ∧ (set4 w B a b c d).heap[B + 1]? = some (.cells #[c, d] t') ∧ Below B w (set4 w B a b c d) ∧ ∀ q, q ≠ B → q ≠ B + 1 → (set4 w B a b c d).heap[q]? = w.heap[q]? := by
  have e : ∀ (w : World) (q g i : Nat) (v : Value), q ≠ g → (w.setCell ⟨g, i, none⟩ v).heap[q]? = w.heap[q]? := fun w q g i v hq => Below.heap_setCell _ _ _ _ (fun x => hq x)
  refine ⟨?_, ?_, ((((Below.refl B w).setCell (p := ⟨B, 0, none⟩) (Nat.le_refl _) a).setCell (p := ⟨B, 1, none⟩) (Nat.le_refl _) b).setCell (p := ⟨B + 1, 0, none⟩) (Nat.le_succ _) c).setCell (p := ⟨B + 1, 1, none⟩) (Nat.le_succ _) d, fun q h1 h2 => ?_⟩
  · unfold set4
    rw [e _ _ _ _ _ (by omega), e _ _ _ _ _ (by omega)]
    exact set_block b (set_block a h)
  · unfold set4
    have h2 : ((w.setCell ⟨B, 0, none⟩ a).setCell ⟨B, 1, none⟩ b).heap[B + 1]? = some (.cells #[z, u] t') := by
      rw [e _ _ _ _ _ (by omega), e _ _ _ _ _ (by omega)]
      exact h'
    exact set_block (i := 1) d (set_block (i := 0) c h2)
  · unfold set4
    rw [e _ _ _ _ _ h2, e _ _ _ _ _ h2, e _ _ _ _ _ h1, e _ _ _ _ _ h1]

/-- How it is told. -/
def ReadTold (r : Except (Int × Nat) (List Ef × Tr)) (e : Ending) (W' : World) : Prop := match r with
  | .error x => e = .returned (.tuple #[.agg #[.slice none 0 0, .slice none 0 0], .agg #[.int .i64 x.1, .int .i64 (x.2 : Int)]])
  | .ok x => ∃ (d : Dr) (ve vt : Value), e = .returned (.tuple #[.agg #[ve, vt], .agg #[.int .i64 0, .int .i64 0]]) ∧ Lies d W' ve x.1.length 3 (fun i => Ef.cell (x.1.getD (i / 3) default) (i % 3)) ∧ NodesD d W' vt (Tr.flat x.2) ∧ ∀ y ∈ x.1, Brief y.name

/-- A row that lay before the drawer's blocks. -/
theorem lies_old {α : Type} [Inhabited α] {d : Dr} {f : α → Nat → Value} {sz : Nat} (hz : 0 < sz) {W : World} {B : Nat} {t : TypeId} {v : Value} {l : List α} (h : W.ownsRow B t sz v l.length (rowZ f sz l)) (h1 : W.heap.size ≤ d.B) (h2 : W.heap.size ≤ d.G) : Lies d W v l.length sz (fun i => f (l.getD (i / sz) default) (i % sz)) := by
  have h' := h
  obtain ⟨-, ⟨rfl, h0⟩ | ⟨g, cap, cur, rfl, hB, hc, hnc, -⟩⟩ := h
  · exact Or.inl ⟨rfl, h0⟩
  · have hg := heap_lt hc
    refine Or.inr ⟨g, 0, cap, rfl, hnc, rfl, ⟨hg, by omega, by omega⟩, fun i hi => ?_⟩
    rw [Nat.zero_add, h'.cellAt i hi, rowZ_get f sz hz l i hi]

/-- Nodes stay while a block is written that begins with a list. -/
theorem nodes_set {d : Dr} {X : World} {v u : Value} {ns : List Nd} {q i : Nat} {a : Option Addr} {n c : Nat} {r : Array Value} {t : TypeId} (h : NodesD d X v ns) (hq : X.heap[q]? = some (.cells r t)) (h0 : r[0]? = some (.slice a n c)) : NodesD d (X.setCell ⟨q, i, none⟩ u) v ns := by
  obtain ⟨h, hb⟩ := h
  refine ⟨?_, hb⟩
  have hk := kept_set (kept_refl X (some q)) i u
  rcases h with h | ⟨b, off, cap, rfl, hn, rfl, hqb, hc⟩
  · exact Or.inl h
  · refine Or.inr ⟨b, 0, cap, rfl, hn, rfl, ⟨Nat.lt_of_lt_of_le hqb.1 hk.size, hqb.2⟩, fun j hj => ?_⟩
    have hne : b ≠ q := fun e => by
      subst e
      have e1 := cell_of_heap hq 0
      rw [h0] at e1
      have e2 := hc 0 (by omega)
      rw [Nat.zero_add, e1] at e2
      cases e2
    exact (World.cell?_of_block (a := ⟨b, 0 + j, none⟩) (hk.block b hqb.1 (fun e => hne (by cases e; rfl)))).trans (hc j hj)

/-- Rows of three cells and more stay while a block of two is written. -/
theorem lies_two {d : Dr} {X : World} {v x y u : Value} {n sz q i : Nat} {t : TypeId} {F : Nat → Value} (hz : 3 ≤ sz) (h : Lies d X v n sz F) (hq : X.heap[q]? = some (.cells #[x, y] t)) : Lies d (X.setCell ⟨q, i, none⟩ u) v n sz F := by
  rcases h with h | ⟨b, off, cap, rfl, hn, rfl, hqb, hc⟩
  · exact Or.inl h
  · refine Or.inr ⟨b, 0, cap, rfl, hn, rfl, ⟨by simpa [World.setCell] using hqb.1, hqb.2⟩, fun j hj => ?_⟩
    have hne : b ≠ q := fun e => by
      subst e
      have h2 : 2 < n * sz := by
        have h0 : 0 < n := Nat.pos_of_ne_zero (fun e => by subst e; simp at hj)
        have := Nat.mul_le_mul h0 hz
        omega
      have e1 := hc 2 h2
      rw [Nat.zero_add, cell_of_heap hq 2] at e1
      cases e1
    rw [← hc j hj]
    exact World.cell?_of_block (Below.heap_setCell X ⟨q, i, none⟩ u b hne)

theorem lies_set4 {d : Dr} {X : World} {B : Nat} {v x y z u : Value} {n sz : Nat} {t t' : TypeId} {F : Nat → Value} (a b c e : Value) (hz : 3 ≤ sz) (h : Lies d X v n sz F) (h1 : X.heap[B]? = some (.cells #[x, y] t)) (h2 : X.heap[B + 1]? = some (.cells #[z, u] t')) : Lies d (set4 X B a b c e) v n sz F := by
  have k : ∀ (w : World) (q g i : Nat) (v : Value), q ≠ g → (w.setCell ⟨g, i, none⟩ v).heap[q]? = w.heap[q]? := fun w q g i v hq => Below.heap_setCell _ _ _ _ (fun x => hq x)
  have g1 := lies_two (i := 0) (u := a) hz h h1
  have g2 := lies_two (i := 1) (u := b) hz g1 (set_block (i := 0) a h1)
  have h3 : ((X.setCell ⟨B, 0, none⟩ a).setCell ⟨B, 1, none⟩ b).heap[B + 1]? = some (.cells #[z, u] t') := by
    rw [k _ _ _ _ _ (by omega), k _ _ _ _ _ (by omega)]
    exact h2
  have g3 := lies_two (i := 0) (u := c) hz g2 h3
  exact lies_two (i := 1) (u := e) hz g3 (set_block (i := 0) c h3)

set_option maxHeartbeats 8000000 in
set_option maxRecDepth 100000 in
theorem progRead_calls (t : ByteArray) (T : List Nd → Bool) (hT : ∀ ns, SpecAns ns (T ns)) (W : World) :
    Calls Tryz.prog 4 #[.string t] W fun e W' => ReadTold (readZ t T) e W' ∧ Below W.heap.size W W' := by
  have HT := hid hT
  clear hT
  go_enter Tryz.func4, Tryz.ntmps4
  go_wp2_with fail
  obtain ⟨hA, hA2, hA3, hA4⟩ := two_blocks W (.cells #[.slice none 0 0, .slice none 0 0] 25) (.cells #[.int .i64 0, .int .i64 0] 27)
  refine (specWords_calls t _).mono ?_
  rintro e w1 ⟨⟨v, rfl, hrow⟩, hb1⟩
  obtain ⟨ws, c, p, hL⟩ : ∃ ws c p, lexAll t = (ws, c, p) := ⟨_, _, _, rfl⟩
  have HWs := hid (And.intro (lexAll_brief t) (And.intro (lexAll_num t) (And.intro (lexAll_words t) (lexAll_ok t).2)))
  rw [hL] at hrow HWs ⊢
  dsimp only at hrow ⊢
  have HLx := hid hL
  have HRow := hid hrow
  have B2 := hid ((hb1.block _ (by omega)).trans hA2)
  have B3 := hid ((hb1.block _ (by omega)).trans hA3)
  have HB := hid (hA.trans (hb1.mono hA.size))
  have HN := hid (show W.heap.size + 2 ≤ w1.heap.size from by have := hb1.size; omega)
  rw [hA4] at HRow
  clear hL hrow hb1 hA hA2 hA3 hA4
  by_cases hc : c = 0
  case neg =>
    have hcb : (c == 0) = false := by simpa using hc
    go_upto_region 3 with fail
    have hx := (Below.refl w1.heap.size w1).alloc (Nat.le_refl _) (.cells #[.int .i64 c, .int .i64 (p : Int)] 27)
    have hy := (MapKept.heap_alloc w1 (.cells #[.int .i64 c, .int .i64 (p : Int)] 27)).1
    have hn := HN.out
    have b2 := (hx.block _ (by omega)).trans B2.out
    have b3 := (hx.block _ (by omega)).trans B3.out
    have hB := HB.out.trans (hx.mono HB.out.size)
    generalize w1.alloc (.cells #[.int .i64 c, .int .i64 (p : Int)] 27) = w2 at hx hy b2 b3 hB ⊢
    generalize w1.heap.size = g5 at hy hn ⊢
    have HB2 := hid hB
    have K2 := hid b2
    have K3 := hid b3
    have HC := hid hc
    have g20 := cell_of_heap b2 0
    have g21 := cell_of_heap b2 1
    have g30 := cell_of_heap b3 0
    have g31 := cell_of_heap b3 1
    have g50 := cell_of_heap hy 0
    have g51 := cell_of_heap hy 1
    have f20 := frozen_of_heap b2 0
    have f21 := frozen_of_heap b2 1
    have f30 := frozen_of_heap b3 0
    have f31 := frozen_of_heap b3 1
    simp at g20 g21 g30 g31 g50 g51
    have e1 : W.heap.size ≠ g5 := by omega
    have e2 : W.heap.size + 1 ≠ g5 := by omega
    clear hx hy hn b2 b3 hB hc hcb
    go_region
    obtain ⟨r2, r3, rB, rO⟩ := set4_is (.slice none 0 0) (.slice none 0 0) (.int .i64 c) (.int .i64 (p : Int)) K2.out K3.out
    unfold set4 at r2 r3 rB rO
    have hd : ∀ w : World, w.drew.heap = w.heap := fun _ => rfl
    have R2 := cell_of_heap r2
    clear g20 g21 g30 g31 g50 g51 f20 f21 f30 f31 e1 e2
    have rD : Below W.heap.size W _ := HB2.out.trans ((rB.drew))
    rw [← hd] at r2 r3
    generalize World.drew _ = w3 at r2 r3 rD ⊢
    have RD := hid rD
    have g20 := cell_of_heap r2 0
    have g21 := cell_of_heap r2 1
    have g30 := cell_of_heap r3 0
    have g31 := cell_of_heap r3 1
    simp at g20 g21 g30 g31
    clear r2 r3 rB rO rD hd R2
    go_wp2_with fail
    have hR : readZ t T = .error (c, p) := by
      unfold readZ
      rw [HLx.out, if_pos (show c ≠ 0 from HC.out)]
    refine bodyPost_ret (v := .tuple #[.agg #[.slice none 0 0, .slice none 0 0], .agg #[.int .i64 c, .int .i64 (p : Int)]]) (by simp [results, Tryz.results4, go_sem, g20, g21, g30, g31]) rfl ⟨?_, RD.out⟩
    rw [hR]
    rfl
  case pos =>
    subst hc
    obtain ⟨ad, cpw, rfl⟩ := y_is HRow.out
    have HWn := hid HWs.out.2.2.2
    go_wp2_with fail
    obtain ⟨hA, hA2, hA3, hA4⟩ := two_blocks w1 (.cells #[.int .i64 0, .int .i64 (p : Int)] 27) (.cells #[.slice ad ws.length cpw, .int .i64 0, .bool false] 39)
    have hn := HN.out
    have hl : Lies (⟨w1.heap.size + 1, w1.heap.size + 1, none, 0, 0⟩ : Dr) w1 (.slice ad ws.length cpw) ws.length 3 (fun i => wdC (ws.getD (i / 3) default) (i % 3)) := by
      have hr := HRow.out
      rw [flatW_row] at hr
      exact lies_old (d := ⟨w1.heap.size + 1, w1.heap.size + 1, none, 0, 0⟩) (f := wdC) (by decide) hr (Nat.le_succ _) (Nat.le_succ _)
    have hp : PsAt (⟨w1.heap.size + 1, w1.heap.size + 1, none, 0, 0⟩ : Dr) ws ad cpw ⟨0, false⟩ ((w1.alloc (.cells #[.int .i64 0, .int .i64 (p : Int)] 27)).alloc (.cells #[.slice ad ws.length cpw, .int .i64 0, .bool false] 39)) :=
      ⟨hA3, rfl, Nat.zero_le _, HWn.out, hl.grew (Grew.of_below hA)⟩
    have B2 := hid ((hA.block _ (by omega)).trans B2.out)
    have B3 := hid ((hA.block _ (by omega)).trans B3.out)
    have HB := hid (HB.out.trans (hA.mono HB.out.size))
    generalize (w1.alloc (.cells #[.int .i64 0, .int .i64 (p : Int)] 27)).alloc (.cells #[.slice ad ws.length cpw, .int .i64 0, .bool false] 39) = X0 at hp B2 B3 HB hA hA4 ⊢
    obtain ⟨d, hd⟩ : ∃ d : Dr, (⟨w1.heap.size + 1, w1.heap.size + 1, none, 0, 0⟩ : Dr) = d := ⟨_, rfl⟩
    have hdB : d.B = w1.heap.size + 1 := by rw [← hd]
    have hdG : d.G = w1.heap.size + 1 := by rw [← hd]
    rw [hd] at hp
    rw [← hdB]
    have HP := hid hp
    have HD := hid (show W.heap.size + 2 ≤ d.B ∧ W.heap.size + 2 ≤ d.G ∧ W.heap.size + 2 ≤ X0.heap.size by rw [hdB, hdG, hA4]; omega)
    have HG := hid (show w1.heap.size < d.B by omega)
    clear hA hA2 hA3 hA4 hl hp hd hdB hdG
    refine (effects_calls HWs.out.1 ⟨0, false⟩ X0 HP.out).mono ?_
    rintro e X1 ⟨ve, es, s1, hes, rfl, hE, hS1, hel, hbr⟩
    have B2 := hid ((hS1.2.block _ ⟨heap_lt B2.out, by have := HD.out; omega, by have := HD.out; omega⟩).trans B2.out)
    have B3 := hid ((hS1.2.block _ ⟨heap_lt B3.out, by have := HD.out; omega, by have := HD.out; omega⟩).trans B3.out)
    have SP := hid hS1
    have HE := hid hE
    have HES := hid hes
    have HBr := hid (And.intro hel hbr)
    obtain ⟨ade, cpe, rfl⟩ := hE.is
    clear hE hes hS1 hel hbr
    go_wp2_with fail
    have hb2 : Below X1.heap.size X1 (X1.alloc (.cells #[.slice ade es.length cpe, .slice none 0 0] 25)) := (Below.refl _ _).alloc (Nat.le_refl _) _
    have PB := hid (MapKept.heap_alloc X1 (.cells #[.slice ade es.length cpe, .slice none 0 0] 25)).1
    have HQ := hid (show X0.heap.size ≤ X1.heap.size ∧ X1.heap.size ≠ d.B ∧ X1.heap.size ≠ d.G ∧ W.heap.size + 2 ≤ X1.heap.size by have h1 := SP.out.2.size; have h2 := heap_lt SP.out.1.blk; have h3 := SP.out.1.eq; have h4 := HD.out; omega)
    have SP := hid (SP.out.below hb2)
    have GE := hid (Grew.of_below (d := d) hb2)
    have B2 := hid ((hb2.block _ (heap_lt B2.out)).trans B2.out)
    have B3 := hid ((hb2.block _ (heap_lt B3.out)).trans B3.out)
    generalize X1.alloc (.cells #[.slice ade es.length cpe, .slice none 0 0] 25) = X2 at SP PB GE B2 B3 ⊢
    clear hb2
    refine (whole_calls HWs.out.1 HWs.out.2.1 s1 X2 SP.out.1).mono ?_
    rintro e X3 ⟨vt, rfl, hn3, hp3⟩
    obtain ⟨ns, s2, hns⟩ : ∃ a b, spz ws (16 * ws.length + 11) .expr s1 = (a, b) := ⟨_, _, rfl⟩
    rw [hns] at hn3 hp3
    dsimp only at hn3 hp3
    obtain ⟨adt, cpt, rfl⟩ := hn3.is
    have B2 := hid ((hp3.2.block _ ⟨heap_lt B2.out, by have := HD.out; omega, by have := HD.out; omega⟩).trans B2.out)
    have B3 := hid ((hp3.2.block _ ⟨heap_lt B3.out, by have := HD.out; omega, by have := HD.out; omega⟩).trans B3.out)
    have PB := hid ((hp3.2.block _ ⟨heap_lt PB.out, HQ.out.2.1, HQ.out.2.2.1⟩).trans PB.out)
    have SP := hid (SP.out.step hp3)
    have GE := hid (GE.out.trans hp3.2)
    have HNS := hid hns
    have HNd := hid hn3
    clear hns hn3 hp3
    have q1 := cell_of_heap PB.out 1
    have z1 := frozen_of_heap PB.out 1
    simp at q1
    go_upto_region 7 with fail
    have SP := hid (SP.out.put HP.out HQ.out.1 1 (.slice adt ns.length cpt))
    have HNd := hid (nodes_set (i := 1) (u := .slice adt ns.length cpt) HNd.out PB.out rfl)
    have HE := hid (HE.out.grew (set_grew (i := 1) (v := .slice adt ns.length cpt) GE.out (Nat.le_refl _)))
    have hk := kept_set (kept_refl X3 (some X1.heap.size)) 1 (.slice adt ns.length cpt)
    have B2 := hid ((hk.block _ (heap_lt B2.out) (by intro e; have h1 := HQ.out.2.2.2; have h2 := Option.some.inj e; omega)).trans B2.out)
    have B3 := hid ((hk.block _ (heap_lt B3.out) (by intro e; have h1 := HQ.out.2.2.2; have h2 := Option.some.inj e; omega)).trans B3.out)
    have PB := hid (set_block (i := 1) (.slice adt ns.length cpt) PB.out)
    generalize X3.setCell ⟨X1.heap.size, 1, none⟩ (.slice adt ns.length cpt) = X4 at SP HNd HE B2 B3 PB ⊢
    clear hk q1 z1 GE
    have hws : wholeS ws = ((es, ns), s2) := (bindEq HES.out).trans ((bindEq HNS.out).trans rfl)
    have hal := whole_alike HWs.out.2.2.1
    have HB4 := hid (HB.out.trans (SP.out.2.below (n := W.heap.size) (by have := HD.out; omega) (by have := HD.out; omega) (by have := HD.out; omega)))
    have b0 := cell_of_heap SP.out.1.blk 0
    have b1 := cell_of_heap SP.out.1.blk 1
    have b2 := cell_of_heap SP.out.1.blk 2
    have g20 := cell_of_heap B2.out 0
    have g21 := cell_of_heap B2.out 1
    have g30 := cell_of_heap B3.out 0
    have g31 := cell_of_heap B3.out 1
    have f20 := frozen_of_heap B2.out 0
    have f21 := frozen_of_heap B2.out 1
    have f30 := frozen_of_heap B3.out 0
    have f31 := frozen_of_heap B3.out 1
    simp at b0 b1 b2 g20 g21 g30 g31
    cases hI : wholeI ws with
    | error j =>
      rw [hI, hws] at hal
      dsimp only at hal
      subst hal
      dsimp only at b1 b2
      have HI := hid hI
      clear hI hws
      by_cases hj : (j : Int) < (ws.length : Int)
      · have hj' : j < ws.length := by omega
        obtain ⟨bw, rfl, hwd⟩ := SP.out.1.lies (by omega)
        obtain ⟨-, -, w2⟩ := hwd j hj'
        obtain ⟨pl, hpl⟩ : ∃ x, (curW ws j).at_ = x := ⟨_, rfl⟩
        rw [hpl] at w2
        have HPl := hid hpl
        clear hwd hpl
        go_wp2_with fail
        obtain ⟨r2, r3, rB, -⟩ := set4_is (.slice none 0 0) (.slice none 0 0) (.int .i64 5) (.int .i64 (pl : Int)) B2.out B3.out
        unfold set4 at r2 r3 rB
        generalize (((X4.setCell ⟨W.heap.size, 0, none⟩ (.slice none 0 0)).setCell ⟨W.heap.size, 1, none⟩ (.slice none 0 0)).setCell ⟨W.heap.size + 1, 0, none⟩ (.int .i64 5)).setCell ⟨W.heap.size + 1, 1, none⟩ (.int .i64 (pl : Int)) = w9 at r2 r3 rB ⊢
        have k20 := cell_of_heap r2 0
        have k21 := cell_of_heap r2 1
        have k30 := cell_of_heap r3 0
        have k31 := cell_of_heap r3 1
        simp at k20 k21 k30 k31
        have hR : readZ t T = .error (5, pl) := by
          unfold readZ
          rw [HLx.out]
          dsimp only
          rw [if_neg (by simp)]
          rw [HI.out]
          dsimp only
          rw [if_pos hj', HPl.out]
        refine bodyPost_ret (v := .tuple #[.agg #[.slice none 0 0, .slice none 0 0], .agg #[.int .i64 5, .int .i64 (pl : Int)]]) (by simp [results, Tryz.results4, go_sem, k20, k21, k30, k31]) rfl ⟨?_, HB4.out.trans rB⟩
        rw [hR]
        rfl
      · have hj' : ¬ j < ws.length := by omega
        go_wp2_with fail
        obtain ⟨r2, r3, rB, -⟩ := set4_is (.slice none 0 0) (.slice none 0 0) (.int .i64 5) (.int .i64 (t.size : Int)) B2.out B3.out
        unfold set4 at r2 r3 rB
        generalize (((X4.setCell ⟨W.heap.size, 0, none⟩ (.slice none 0 0)).setCell ⟨W.heap.size, 1, none⟩ (.slice none 0 0)).setCell ⟨W.heap.size + 1, 0, none⟩ (.int .i64 5)).setCell ⟨W.heap.size + 1, 1, none⟩ (.int .i64 (t.size : Int)) = w9 at r2 r3 rB ⊢
        have k20 := cell_of_heap r2 0
        have k21 := cell_of_heap r2 1
        have k30 := cell_of_heap r3 0
        have k31 := cell_of_heap r3 1
        simp at k20 k21 k30 k31
        have hR : readZ t T = .error (5, t.size) := by
          unfold readZ
          rw [HLx.out]
          dsimp only
          rw [if_neg (by simp)]
          rw [HI.out]
          dsimp only
          rw [if_neg hj']
        refine bodyPost_ret (v := .tuple #[.agg #[.slice none 0 0, .slice none 0 0], .agg #[.int .i64 5, .int .i64 (t.size : Int)]]) (by simp [results, Tryz.results4, go_sem, k20, k21, k30, k31]) rfl ⟨?_, HB4.out.trans rB⟩
        rw [hR]
        rfl
    | ok r =>
      obtain ⟨⟨es', tr⟩, k⟩ := r
      rw [hI, hws] at hal
      dsimp only at hal
      obtain ⟨rfl, rfl, rfl⟩ : es = es' ∧ ns = Tr.flat tr ∧ s2 = ⟨k, false⟩ := by
        simp only [Prod.mk.injEq] at hal
        exact ⟨hal.1.1, hal.1.2, hal.2⟩
      dsimp only at b1 b2
      have HI := hid hI
      have HW := hid (whole_ok hI)
      clear hI hws hal
      by_cases hj : (k : Int) < (ws.length : Int)
      · have hj' : k < ws.length := by omega
        obtain ⟨bw, rfl, hwd⟩ := SP.out.1.lies (by omega)
        obtain ⟨-, -, w2⟩ := hwd k hj'
        obtain ⟨pl, hpl⟩ : ∃ x, (curW ws k).at_ = x := ⟨_, rfl⟩
        rw [hpl] at w2
        have HPl := hid hpl
        clear hwd hpl
        go_wp2_with fail
        obtain ⟨r2, r3, rB, -⟩ := set4_is (.slice none 0 0) (.slice none 0 0) (.int .i64 5) (.int .i64 (pl : Int)) B2.out B3.out
        unfold set4 at r2 r3 rB
        generalize (((X4.setCell ⟨W.heap.size, 0, none⟩ (.slice none 0 0)).setCell ⟨W.heap.size, 1, none⟩ (.slice none 0 0)).setCell ⟨W.heap.size + 1, 0, none⟩ (.int .i64 5)).setCell ⟨W.heap.size + 1, 1, none⟩ (.int .i64 (pl : Int)) = w9 at r2 r3 rB ⊢
        have k20 := cell_of_heap r2 0
        have k21 := cell_of_heap r2 1
        have k30 := cell_of_heap r3 0
        have k31 := cell_of_heap r3 1
        simp at k20 k21 k30 k31
        have hR : readZ t T = .error (5, pl) := by
          unfold readZ
          rw [HLx.out]
          dsimp only
          rw [if_neg (by simp)]
          rw [HI.out]
          dsimp only
          rw [if_pos hj', HPl.out]
        refine bodyPost_ret (v := .tuple #[.agg #[.slice none 0 0, .slice none 0 0], .agg #[.int .i64 5, .int .i64 (pl : Int)]]) (by simp [results, Tryz.results4, go_sem, k20, k21, k30, k31]) rfl ⟨?_, HB4.out.trans rB⟩
        rw [hR]
        rfl
      · have hj' : ¬ k < ws.length := by omega
        have c0 := cell_of_heap PB.out 0
        have c1 := cell_of_heap PB.out 1
        simp at c0 c1
        obtain ⟨L, hL⟩ : ∃ L, (Tr.flat tr).length = L := ⟨_, rfl⟩
        rw [hL] at c1
        have HLn := hid hL
        clear hL
        by_cases hm : (300 : Int) < (L : Int)
        · have hm' : 300 < (Tr.flat tr).length ∨ 8 < es.length := Or.inl (by rw [HLn.out]; omega)
          go_wp2_with fail
          obtain ⟨r2, r3, rB, -⟩ := set4_is (.slice none 0 0) (.slice none 0 0) (.int .i64 6) (.int .i64 0) B2.out B3.out
          unfold set4 at r2 r3 rB
          generalize (((X4.setCell ⟨W.heap.size, 0, none⟩ (.slice none 0 0)).setCell ⟨W.heap.size, 1, none⟩ (.slice none 0 0)).setCell ⟨W.heap.size + 1, 0, none⟩ (.int .i64 6)).setCell ⟨W.heap.size + 1, 1, none⟩ (.int .i64 0) = w9 at r2 r3 rB ⊢
          have k20 := cell_of_heap r2 0
          have k21 := cell_of_heap r2 1
          have k30 := cell_of_heap r3 0
          have k31 := cell_of_heap r3 1
          simp at k20 k21 k30 k31
          have hR : readZ t T = .error (6, 0) := by
            unfold readZ
            rw [HLx.out]
            dsimp only
            rw [if_neg (by simp)]
            rw [HI.out]
            dsimp only
            rw [if_neg hj']
            rw [if_pos hm']
          refine bodyPost_ret (v := .tuple #[.agg #[.slice none 0 0, .slice none 0 0], .agg #[.int .i64 6, .int .i64 0]]) (by simp [results, Tryz.results4, go_sem, k20, k21, k30, k31]) rfl ⟨?_, HB4.out.trans rB⟩
          rw [hR]
          rfl
        by_cases hm2 : (8 : Int) < (es.length : Int)
        · have hm' : 300 < (Tr.flat tr).length ∨ 8 < es.length := Or.inr (by omega)
          go_wp2_with fail
          obtain ⟨r2, r3, rB, -⟩ := set4_is (.slice none 0 0) (.slice none 0 0) (.int .i64 6) (.int .i64 0) B2.out B3.out
          unfold set4 at r2 r3 rB
          generalize (((X4.setCell ⟨W.heap.size, 0, none⟩ (.slice none 0 0)).setCell ⟨W.heap.size, 1, none⟩ (.slice none 0 0)).setCell ⟨W.heap.size + 1, 0, none⟩ (.int .i64 6)).setCell ⟨W.heap.size + 1, 1, none⟩ (.int .i64 0) = w9 at r2 r3 rB ⊢
          have k20 := cell_of_heap r2 0
          have k21 := cell_of_heap r2 1
          have k30 := cell_of_heap r3 0
          have k31 := cell_of_heap r3 1
          simp at k20 k21 k30 k31
          have hR : readZ t T = .error (6, 0) := by
            unfold readZ
            rw [HLx.out]
            dsimp only
            rw [if_neg (by simp)]
            rw [HI.out]
            dsimp only
            rw [if_neg hj']
            rw [if_pos hm']
          refine bodyPost_ret (v := .tuple #[.agg #[.slice none 0 0, .slice none 0 0], .agg #[.int .i64 6, .int .i64 0]]) (by simp [results, Tryz.results4, go_sem, k20, k21, k30, k31]) rfl ⟨?_, HB4.out.trans rB⟩
          rw [hR]
          rfl
        have hL1 : 1 ≤ L := by rw [← HLn.out]; simp [Tr.flat]
        have HK1 := hid (And.intro hm (And.intro hm2 hj'))
        rcases HNd.out.1 with ⟨e0, h0⟩ | ⟨bt, off, cap, e0, hcap, rfl, hq, hcs⟩
        · rw [HLn.out] at h0
          omega
        cases e0
        have hN : NodesAt X4 bt 0 (Tr.flat tr) := fun i hi c hc' => by
          have h6 := hcs (i * 6 + c) (by omega)
          rw [Nat.zero_add] at h6
          rw [Nat.zero_add, h6]
          exact congrArg some (cell_div (Tr.flat tr) Nd.cell 6 i c hc')
        have HN6 := hid (And.intro hq.1 hN)
        clear hcs hN hq hcap
        go_wp2_with fail
        have hdp := deep_calls bt 0 cpt (Tr.flat tr) (by rw [HLn.out]; omega) (tr.2.flat.length + 1) tr.1 tr.2 [] 0 X4 HN6.out.2 (by rw [List.drop_zero, List.append_nil]; rfl) HW.out.1 HW.out.2 (Nat.lt_succ_self _)
        rw [HLn.out] at hdp
        refine hdp.mono ?_
        rintro e Xd ⟨rfl, rfl⟩
        clear hdp
        by_cases hdm : (40 : Int) < ((tr.2.deep + 1 : Nat) : Int)
        · have hd40 : 40 < tr.2.deep + 1 := by omega
          have hsz : ¬ (300 < (Tr.flat tr).length ∨ 8 < es.length) := by rw [HLn.out]; omega
          go_wp2_with fail
          obtain ⟨r2, r3, rB, -⟩ := set4_is (.slice none 0 0) (.slice none 0 0) (.int .i64 7) (.int .i64 0) B2.out B3.out
          unfold set4 at r2 r3 rB
          generalize (((X4.setCell ⟨W.heap.size, 0, none⟩ (.slice none 0 0)).setCell ⟨W.heap.size, 1, none⟩ (.slice none 0 0)).setCell ⟨W.heap.size + 1, 0, none⟩ (.int .i64 7)).setCell ⟨W.heap.size + 1, 1, none⟩ (.int .i64 0) = w9 at r2 r3 rB ⊢
          have k20 := cell_of_heap r2 0
          have k21 := cell_of_heap r2 1
          have k30 := cell_of_heap r3 0
          have k31 := cell_of_heap r3 1
          simp at k20 k21 k30 k31
          have hR : readZ t T = .error (7, 0) := by
            unfold readZ
            rw [HLx.out]
            dsimp only
            rw [if_neg (by simp)]
            rw [HI.out]
            dsimp only
            rw [if_neg hj']
            rw [if_neg hsz]
            rw [if_pos hd40]
          refine bodyPost_ret (v := .tuple #[.agg #[.slice none 0 0, .slice none 0 0], .agg #[.int .i64 7, .int .i64 0]]) (by simp [results, Tryz.results4, go_sem, k20, k21, k30, k31]) rfl ⟨?_, HB4.out.trans rB⟩
          rw [hR]
          rfl
        have hd40 : ¬ 40 < tr.2.deep + 1 := by omega
        have hsz : ¬ (300 < (Tr.flat tr).length ∨ 8 < es.length) := by rw [HLn.out]; omega
        have HK := hid (And.intro hj' (And.intro hsz hd40))
        have hEW : EffW X4 ade cpe es := by
          rcases HE.out with ⟨e0, h0⟩ | ⟨be, off, cap, e0, hcap, rfl, hq, hcs⟩
          · have h00 : es = [] := List.eq_nil_of_length_eq_zero h0
            simp only [Value.slice.injEq] at e0
            exact Or.inl ⟨e0.1, h00, e0.2.2⟩
          · cases e0
            refine Or.inr ⟨be, rfl, hq.1, fun i hi c hc' => ?_, hcap⟩
            have h6 := hcs (i * 3 + c) (by omega)
            rw [Nat.zero_add] at h6
            rw [Nat.zero_add, h6]
            exact congrArg some (cell_div es Ef.cell 3 i c hc')
        have hok := progOk_at (cn := cpt) hEW (by omega) HN6.out.1 HN6.out.2 (by rw [HLn.out]; omega) (HT.out (Tr.flat tr))
        obtain ⟨R, hR⟩ : ∃ R, progZ es (Tr.flat tr) (T (Tr.flat tr)) = R := ⟨_, rfl⟩
        rw [hR, HLn.out] at hok
        have HR := hid hR
        clear hR hEW hsz hd40
        go_wp2_with fail
        refine hok.mono ?_
        rintro e X5 ⟨rfl, hb5⟩
        have B2 := hid ((hb5.block _ (heap_lt B2.out)).trans B2.out)
        have B3 := hid ((hb5.block _ (heap_lt B3.out)).trans B3.out)
        have PB := hid ((hb5.block _ (heap_lt PB.out)).trans PB.out)
        have HB5 := hid (HB4.out.trans (hb5.mono HB4.out.size))
        have HE := hid (HE.out.grew (Grew.of_below hb5))
        have HNd := hid (HNd.out.grew (Grew.of_below hb5))
        clear hb5 hok c0 c1 b0 b1 b2 g20 g21 g30 g31 f20 f21 f30 f31
        have c0 := cell_of_heap PB.out 0
        have c1 := cell_of_heap PB.out 1
        have g20 := cell_of_heap B2.out 0
        have g21 := cell_of_heap B2.out 1
        have g30 := cell_of_heap B3.out 0
        have g31 := cell_of_heap B3.out 1
        have f20 := frozen_of_heap B2.out 0
        have f21 := frozen_of_heap B2.out 1
        have f30 := frozen_of_heap B3.out 0
        have f31 := frozen_of_heap B3.out 1
        simp at c0 c1 g20 g21 g30 g31
        cases R with
        | false =>
          have hj' := HK.out.1
          have hsz := HK.out.2.1
          have hd40 := HK.out.2.2
          go_wp2_with fail
          obtain ⟨r2, r3, rB, -⟩ := set4_is (.slice none 0 0) (.slice none 0 0) (.int .i64 8) (.int .i64 0) B2.out B3.out
          unfold set4 at r2 r3 rB
          generalize (((X5.setCell ⟨W.heap.size, 0, none⟩ (.slice none 0 0)).setCell ⟨W.heap.size, 1, none⟩ (.slice none 0 0)).setCell ⟨W.heap.size + 1, 0, none⟩ (.int .i64 8)).setCell ⟨W.heap.size + 1, 1, none⟩ (.int .i64 0) = w9 at r2 r3 rB ⊢
          have k20 := cell_of_heap r2 0
          have k21 := cell_of_heap r2 1
          have k30 := cell_of_heap r3 0
          have k31 := cell_of_heap r3 1
          simp at k20 k21 k30 k31
          have hR : readZ t T = .error (8, 0) := by
            unfold readZ
            rw [HLx.out]
            dsimp only
            rw [if_neg (by simp)]
            rw [HI.out]
            dsimp only
            rw [if_neg hj', if_neg hsz, if_neg hd40]
            rw [HR.out]
            rfl
          refine bodyPost_ret (v := .tuple #[.agg #[.slice none 0 0, .slice none 0 0], .agg #[.int .i64 8, .int .i64 0]]) (by simp [results, Tryz.results4, go_sem, k20, k21, k30, k31]) rfl ⟨?_, HB5.out.trans rB⟩
          rw [hR]
          rfl
        | true =>
          have hj' := HK.out.1
          have hsz := HK.out.2.1
          have hd40 := HK.out.2.2
          go_wp2_with fail
          obtain ⟨r2, r3, rB, -⟩ := set4_is (.slice ade es.length cpe) (.slice (some ⟨bt, 0, none⟩) (Tr.flat tr).length cpt) (.int .i64 0) (.int .i64 0) B2.out B3.out
          have hE9 := lies_set4 (.slice ade es.length cpe) (.slice (some ⟨bt, 0, none⟩) (Tr.flat tr).length cpt) (.int .i64 0) (.int .i64 0) (by decide) HE.out B2.out B3.out
          have hN9 := lies_set4 (.slice ade es.length cpe) (.slice (some ⟨bt, 0, none⟩) (Tr.flat tr).length cpt) (.int .i64 0) (.int .i64 0) (by decide) HNd.out.1 B2.out B3.out
          unfold set4 at r2 r3 rB hE9 hN9
          generalize (((X5.setCell ⟨W.heap.size, 0, none⟩ (.slice ade es.length cpe)).setCell ⟨W.heap.size, 1, none⟩ (.slice (some ⟨bt, 0, none⟩) (Tr.flat tr).length cpt)).setCell ⟨W.heap.size + 1, 0, none⟩ (.int .i64 0)).setCell ⟨W.heap.size + 1, 1, none⟩ (.int .i64 0) = w9 at r2 r3 rB hE9 hN9 ⊢
          have k20 := cell_of_heap r2 0
          have k21 := cell_of_heap r2 1
          have k30 := cell_of_heap r3 0
          have k31 := cell_of_heap r3 1
          simp at k20 k21 k30 k31
          have hR : readZ t T = .ok (es, tr) := by
            unfold readZ
            rw [HLx.out]
            dsimp only
            rw [if_neg (by simp)]
            rw [HI.out]
            dsimp only
            rw [if_neg hj', if_neg hsz, if_neg hd40]
            rw [HR.out]
            rfl
          refine bodyPost_ret (v := .tuple #[.agg #[.slice ade es.length cpe, .slice (some ⟨bt, 0, none⟩) (Tr.flat tr).length cpt], .agg #[.int .i64 0, .int .i64 0]]) (by simp [results, Tryz.results4, go_sem, k20, k21, k30, k31]) rfl ⟨?_, HB5.out.trans rB⟩
          rw [hR]
          exact ⟨d, _, .slice (some ⟨bt, 0, none⟩) (Tr.flat tr).length cpt, rfl, hE9, ⟨hN9, HNd.out.2⟩, HBr.out.2⟩
end Go.Proofs.YtkdipppeljpgmaaGreatDoor

/- The program's reader of words in memory: what comes, what is passed. -/
namespace Go.Proofs.YtkdipppeljpgmaaGreatDoor
open Go.RowKit Go.Deep

/-- The word that comes; behind the last one a place alone. -/
def curI (ws : List Wd) (sz i : Nat) : Wd := if i < ws.length then curW ws i else ⟨0, ⟨#[]⟩, sz⟩
def wdV (w : Wd) : Value := .agg #[.int .i64 w.kind, .string w.text, .int .i64 (w.at_ : Int)]

/-- The reader in memory. -/
structure RdAt (d : Dr) (ws : List Wd) (ad : Option Addr) (cp sz : Nat) (i : Nat) (W : World) : Prop where
  blk : W.heap[d.B]? = some (.cells #[.slice ad ws.length cp, .int .i64 (i : Int), .int .i64 (sz : Int)] 70)
  eq : d.G = d.B
  lt : i ≤ ws.length
  few : ws.length ≤ 1500
  words : Lies d W (.slice ad ws.length cp) ws.length 3 (fun i => wdC (ws.getD (i / 3) default) (i % 3))

section
variable {d : Dr} {ws : List Wd} {ad : Option Addr} {cp sz : Nat}

theorem RdAt.below {i : Nat} {W W' : World} (h : RdAt d ws ad cp sz i W) (hb : Below W.heap.size W W') : RdAt d ws ad cp sz i W' :=
  ⟨(hb.block _ (heap_lt h.blk)).trans h.blk, h.eq, h.lt, h.few, h.words.grew (Grew.of_below hb)⟩

theorem RdAt.lies {i : Nat} {W : World} (h : RdAt d ws ad cp sz i W) (hi : 0 < ws.length) : ∃ b, ad = some ⟨b, 0, none⟩ ∧ ∀ i, i < ws.length → W.cell? ⟨b, i * 3, none⟩ = some (.int .i64 (curW ws i).kind) ∧ W.cell? ⟨b, i * 3 + 1, none⟩ = some (.string (curW ws i).text) ∧ W.cell? ⟨b, i * 3 + 2, none⟩ = some (.int .i64 (curW ws i).at_) := by
  rcases h.words with ⟨-, h0⟩ | ⟨b, off, cap, e, -, rfl, -, hc⟩
  · omega
  cases e
  refine ⟨b, rfl, fun i hi => ?_⟩
  have e : ∀ c, c < 3 → W.cell? ⟨b, i * 3 + c, none⟩ = some (wdC (ws.getD i default) c) := fun c hc' => by
    have := hc (i * 3 + c) (by omega)
    rw [Nat.zero_add] at this
    rw [this]
    exact congrArg some (cell_div ws wdC 3 i c hc')
  exact ⟨e 0 (by omega), e 1 (by omega), e 2 (by omega)⟩

theorem RdAt.move {i : Nat} {W : World} (h : RdAt d ws ad cp sz i W) {k : Nat} (hk : k ≤ ws.length) : RdAt d ws ad cp sz k (W.setCell ⟨d.B, 1, none⟩ (.int .i64 (k : Int))) :=
  ⟨set_block _ h.blk, h.eq, hk, h.few, h.words.grew (grew_set W 1 _)⟩

theorem RdAt.other {i : Nat} {W : World} (h : RdAt d ws ad cp sz i W) {q : Nat} (hq : q ≠ d.B) (j : Nat) (v : Value) (g : ∀ b, ad = some ⟨b, 0, none⟩ → b ≠ q) : RdAt d ws ad cp sz i (W.setCell ⟨q, j, none⟩ v) := by
  refine ⟨(Below.heap_setCell W ⟨q, j, none⟩ v d.B (fun e => hq e.symm)).trans h.blk, h.eq, h.lt, h.few, ?_⟩
  rcases h.words with h1 | ⟨b, off, cap, e, hn, rfl, hqb, hc⟩
  · exact Or.inl h1
  · refine Or.inr ⟨b, 0, cap, e, hn, rfl, ⟨by simpa [World.setCell] using hqb.1, hqb.2⟩, fun i hi => ?_⟩
    cases e
    rw [← hc i hi]
    exact World.cell?_of_block (Below.heap_setCell W ⟨q, j, none⟩ v _ (g b rfl))

theorem RdAt.row {i : Nat} {W : World} (h : RdAt d ws ad cp sz i W) : ∀ b, ad = some ⟨b, 0, none⟩ → b < W.heap.size := fun b hb => by
  subst hb
  rcases h.words with ⟨e0, -⟩ | ⟨b', off, cap, e1, -, -, hqb, -⟩
  · cases e0
  · cases e1
    exact hqb.1

set_option maxHeartbeats 4000000 in
set_option maxRecDepth 100000 in
theorem peek_calls (i : Nat) (W : World) (h : RdAt d ws ad cp sz i W) :
    Calls Tryz.prog 66 #[.pointer (some ⟨d.B, 0, none⟩)] W fun e W' => e = .returned (wdV (curI ws sz i)) ∧ Below W.heap.size W W' := by
  have H0 := hid h
  have hdB := heap_lt h.blk
  obtain ⟨cw, hcw⟩ : ∃ c, curI ws sz i = c := ⟨_, rfl⟩
  rw [hcw]
  have HC := hid hcw
  clear h hcw
  go_enter Tryz.func66, Tryz.ntmps66
  go_wp2_with fail
  have hb := (Below.refl W.heap.size W).alloc (Nat.le_refl _) (.cells #[.int .i64 0, .string ⟨#[]⟩, .int .i64 0] 43)
  have hg := (MapKept.heap_alloc W (.cells #[.int .i64 0, .string ⟨#[]⟩, .int .i64 0] 43)).1
  have H := hid (H0.out.below hb)
  have HB := hid hb
  obtain ⟨Y, hY⟩ : ∃ Y, W.alloc (.cells #[.int .i64 0, .string ⟨#[]⟩, .int .i64 0] 43) = Y := ⟨_, rfl⟩
  rw [hY] at hg H HB ⊢
  obtain ⟨g, hgg⟩ : ∃ g, W.heap.size = g := ⟨_, rfl⟩
  rw [hgg] at hg hdB HB ⊢
  have HG := hid hg
  have hne : d.B ≠ g := by omega
  have p0 := cell_of_heap H.out.blk 0
  have p1 := cell_of_heap H.out.blk 1
  have p2 := cell_of_heap H.out.blk 2
  have g0 := cell_of_heap hg 0
  have g1 := cell_of_heap hg 1
  have g2 := cell_of_heap hg 2
  have z0 := frozen_of_heap hg 0
  have z1 := frozen_of_heap hg 1
  have z2 := frozen_of_heap hg 2
  simp at p0 p1 p2 g0 g1 g2
  obtain ⟨L, hL⟩ : ∃ L, ws.length = L := ⟨_, rfl⟩
  have HL := hid hL
  have hle : i ≤ L := by rw [← hL]; exact H.out.lt
  rw [hL] at p0
  have HF := hid hgg
  clear hL hb hg hY hgg hdB
  by_cases hi : i < L
  · have hlt : i < ws.length := by have := HL.out; omega
    obtain ⟨b, rfl, hw⟩ := H.out.lies (by omega)
    obtain ⟨w0, w1, w2⟩ := hw i hlt
    have hi0 : (0 : Int) ≤ (i : Int) := by omega
    have hd : decide (i < L) = true := decide_eq_true hi
    have ht : curI ws sz i = curW ws i := by unfold curI; rw [if_pos hlt]
    obtain ⟨kd, tx, wa⟩ := cw
    rw [← ht, HC.out] at w0 w1 w2
    dsimp only at w0 w1 w2
    have hbg : b ≠ g := by have := H0.out.row b rfl; have := HF.out; omega
    clear hw hlt ht hle
    go_region
    go_wp2_with fail
    go_region
    go_wp2_with fail
    obtain ⟨hl1, hl2⟩ := lay3_is (.int .i64 kd) (.string tx) (.int .i64 (wa : Int)) HG.out
    have hl2 := HB.out.trans (hl2 g (Nat.le_refl _))
    unfold lay3 at hl1 hl2
    have k0 := cell_of_heap hl1 0
    have k1 := cell_of_heap hl1 1
    have k2 := cell_of_heap hl1 2
    simp at k0 k1 k2
    refine bodyPost_ret (v := wdV ⟨kd, tx, wa⟩) (by simp [results, Tryz.results66, go_sem, wdV, k0, k1, k2]) rfl ⟨rfl, ?_⟩
    rw [HF.out]
    exact ⟨hl2.os, hl2.tape, hl2.output, hl2.size, hl2.block⟩
  · have ht : curI ws sz i = ⟨0, ⟨#[]⟩, sz⟩ := by unfold curI; rw [if_neg (by have := HL.out; omega)]
    have hcw : cw = ⟨0, ⟨#[]⟩, sz⟩ := HC.out.symm.trans ht
    subst hcw
    have hd : decide (i < L) = false := decide_eq_false hi
    clear ht
    go_region
    go_wp2_with fail
    obtain ⟨hl1, hl2⟩ := lay3_is (.int .i64 0) (.string ⟨#[]⟩) (.int .i64 (sz : Int)) HG.out
    have hl2 := HB.out.trans (hl2 g (Nat.le_refl _))
    unfold lay3 at hl1 hl2
    have k0 := cell_of_heap hl1 0
    have k1 := cell_of_heap hl1 1
    have k2 := cell_of_heap hl1 2
    simp at k0 k1 k2
    refine bodyPost_ret (v := wdV ⟨0, ⟨#[]⟩, sz⟩) (by simp [results, Tryz.results66, go_sem, wdV, k0, k1, k2]) rfl ⟨rfl, ?_⟩
    rw [HF.out]
    exact ⟨hl2.os, hl2.tape, hl2.output, hl2.size, hl2.block⟩
end
end Go.Proofs.YtkdipppeljpgmaaGreatDoor

/- The program's reader: forms that are read, kept while it reads on; what its functions tell. -/
namespace Go.Proofs.YtkdipppeljpgmaaGreatDoor
open Go.RowKit Go.Deep

/-- A tree's form, all of which lies from lo on, ahead of hi. -/
def FmAt (lo hi : Nat) (W : World) (t : Tr) (v : Value) : Prop :=
  ∃ W0 : World, Forms lo W0 (.tree t.1 t.2 .none) [v] ∧ W0.heap.size = hi ∧ hi ≤ W.heap.size ∧ ∀ a : Addr, lo ≤ a.block → a.block < hi → W.cell? a = W0.cell? a

theorem FmAt.forms {lo hi : Nat} {W : World} {t : Tr} {v : Value} (h : FmAt lo hi W t v) : Forms lo W (.tree t.1 t.2 .none) [v] := by
  obtain ⟨W0, h1, rfl, h2, h3⟩ := h
  exact Forms.kept (Nat.le_refl _) h2 h3 h1

theorem FmAt.top {lo hi : Nat} {W : World} {t : Tr} {v : Value} (h : FmAt lo hi W t v) : hi ≤ W.heap.size := by
  obtain ⟨W0, h1, rfl, h2, h3⟩ := h
  exact h2

theorem FmAt.keep {lo hi : Nat} {W W' : World} {t : Tr} {v : Value} (h : FmAt lo hi W t v) (hs : hi ≤ W'.heap.size) (hk : ∀ q, lo ≤ q → q < hi → W'.heap[q]? = W.heap[q]?) : FmAt lo hi W' t v := by
  obtain ⟨W0, h1, h2, h3, h4⟩ := h
  exact ⟨W0, h1, h2, hs, fun a ha hb => (World.cell?_of_block (hk _ ha hb)).trans (h4 a ha hb)⟩

theorem FmAt.of {lo : Nat} {X : World} {t : Tr} {v : Value} (h : Forms lo X (.tree t.1 t.2 .none) [v]) : FmAt lo X.heap.size X t v := ⟨X, h, rfl, Nat.le_refl _, fun _ _ _ => rfl⟩

/-- A form that was read, and where it lies. -/
structure Fr where
  lo : Nat
  hi : Nat
  t : Tr
  v : Value

theorem forms_list {lo : Nat} {X : World} : ∀ (l : List Fr), (∀ x ∈ l, FmAt x.lo x.hi X x.t x.v ∧ lo ≤ x.lo) → Forms lo X (foL (l.map Fr.t)) (l.map Fr.v)
  | [], _ => rfl
  | x :: r, h => by
    obtain ⟨v, us, rest, e, h1, h2, h3⟩ := (h x (by simp)).1.forms
    obtain ⟨rfl, rfl⟩ : x.v = v ∧ rest = [] := by simp at e; exact e
    have hl := (h x (by simp)).2
    exact ⟨x.v, us, r.map Fr.v, rfl, Forms.kept hl (Nat.le_refl _) (fun _ _ _ => rfl) h1, h2.kept hl (Nat.le_refl _) (fun _ _ _ => rfl), forms_list r (fun y hy => h y (by simp [hy]))⟩

/-- The state of a function that reads: its own blocks, the forms that it has read. -/
structure St (d : Dr) (ws : List Wd) (ad : Option Addr) (cp sz : Nat) (W : World) (bx : List (Nat × Array Value × TypeId)) (fs : List Fr) (i : Nat) (X : World) : Prop where
  rd : RdAt d ws ad cp sz i X
  gr : Grew d W X
  hB : d.B < W.heap.size
  wd : ∀ b, ad = some ⟨b, 0, none⟩ → b < W.heap.size
  bxs : ∀ b ∈ bx, X.heap[b.1]? = some (.cells b.2.1 b.2.2) ∧ W.heap.size ≤ b.1
  nd : (bx.map Prod.fst).Nodup
  fss : ∀ x ∈ fs, FmAt x.lo x.hi X x.t x.v ∧ W.heap.size ≤ x.lo ∧ ∀ b ∈ bx, b.1 < x.lo ∨ x.hi ≤ b.1

/-- What stands for a fault. -/
def faultV (ws : List Wd) (sz j : Nat) : Value := .agg #[.int .i64 5, .int .i64 (curI ws sz j).at_]
def faultAt (ws : List Wd) (sz j : Nat) : PanicEntry := { v := .iface 27 (faultV ws sz j), recovered := false }

/-- What a function tells that may give up. -/
def PostX {α : Type} (d : Dr) (ws : List Wd) (ad : Option Addr) (cp sz : Nat) (Q : α → Ending → World → Prop) (r : Except Nat (α × Nat)) (W : World) (e : Ending) (W' : World) : Prop := match r with
  | .error j => e = .panicked [faultAt ws sz j] ∧ Grew d W W'
  | .ok x => Q x.1 e W' ∧ RdAt d ws ad cp sz x.2 W' ∧ Grew d W W'

def QT (W : World) (t : Tr) (e : Ending) (W' : World) : Prop := ∃ T p, e = .returned (.iface T p) ∧ FmAt W.heap.size W'.heap.size W' t (.iface T p)
abbrev PostT (d : Dr) (ws : List Wd) (ad : Option Addr) (cp sz : Nat) (r : Except Nat (Tr × Nat)) (W : World) : Ending → World → Prop := PostX d ws ad cp sz (QT W) r W
abbrev PostS (d : Dr) (ws : List Wd) (ad : Option Addr) (cp sz : Nat) (r : Except Nat (ByteArray × Nat)) (W : World) : Ending → World → Prop := PostX d ws ad cp sz (fun t e _ => e = .returned (.string t)) r W
abbrev PostU (d : Dr) (ws : List Wd) (ad : Option Addr) (cp sz : Nat) (r : Except Nat (Unit × Nat)) (W : World) : Ending → World → Prop := PostX d ws ad cp sz (fun _ e _ => ∃ v, e = .returned v) r W
abbrev PostN' (d : Dr) (ws : List Wd) (ad : Option Addr) (cp sz : Nat) (r : Except Nat (Int × Nat)) (W : World) : Ending → World → Prop := PostX d ws ad cp sz (fun n e _ => e = .returned (.int .i64 n)) r W

section
variable {d : Dr} {ws : List Wd} {ad : Option Addr} {cp sz : Nat} {W X X' : World} {bx : List (Nat × Array Value × TypeId)} {fs : List Fr} {i k : Nat}

theorem post_x {α : Type} {Q : α → Ending → World → Prop} {r : Except Nat (α × Nat)} {e : Ending} (h : PostX d ws ad cp sz Q r W e X) : (∃ j, r = .error j ∧ e = .panicked [faultAt ws sz j] ∧ Grew d W X) ∨ ∃ a k, r = .ok (a, k) ∧ Q a e X ∧ RdAt d ws ad cp sz k X ∧ Grew d W X := by
  unfold PostX at h
  cases r with
  | error j => exact Or.inl ⟨j, rfl, h.1, h.2⟩
  | ok x => exact Or.inr ⟨x.1, x.2, rfl, h.1, h.2.1, h.2.2⟩

theorem St.start (h : RdAt d ws ad cp sz i W) : St d ws ad cp sz W [] [] i W :=
  ⟨h, Grew.refl d W, heap_lt h.blk, h.row, fun b hb => (by cases hb), List.nodup_nil, fun x hx => (by cases hx)⟩

theorem St.go (h : St d ws ad cp sz W bx fs i X) (hr : RdAt d ws ad cp sz k X') (hg : Grew d X X') : St d ws ad cp sz W bx fs k X' := by
  have hB := h.hB
  refine ⟨hr, h.gr.trans hg, hB, h.wd, fun b hb => ?_, h.nd, fun x hx => ?_⟩
  · obtain ⟨h1, h2⟩ := h.bxs b hb
    exact ⟨(hg.block _ ⟨heap_lt h1, by omega, by rw [hr.eq]; omega⟩).trans h1, h2⟩
  · obtain ⟨h1, h2, h3⟩ := h.fss x hx
    have := h1.top
    have := hg.size
    exact ⟨h1.keep (by omega) (fun q hq hq' => hg.block q ⟨by omega, by omega, by rw [hr.eq]; omega⟩), h2, h3⟩

theorem St.below (h : St d ws ad cp sz W bx fs i X) (hb : Below X.heap.size X X') : St d ws ad cp sz W bx fs i X' := h.go (h.rd.below hb) (Grew.of_below hb)

theorem St.form (h : St d ws ad cp sz W bx fs i X) {t : Tr} {v : Value} (hr : RdAt d ws ad cp sz k X') (hg : Grew d X X') (hf : FmAt X.heap.size X'.heap.size X' t v) : St d ws ad cp sz W bx (⟨X.heap.size, X'.heap.size, t, v⟩ :: fs) k X' := by
  have h' := h.go hr hg
  refine ⟨h'.rd, h'.gr, h'.hB, h'.wd, h'.bxs, h'.nd, fun x hx => ?_⟩
  rcases List.mem_cons.1 hx with rfl | hx
  · exact ⟨hf, h.gr.size, fun b hb => Or.inl (heap_lt (h.bxs b hb).1)⟩
  · exact h'.fss x hx

theorem St.alloc (h : St d ws ad cp sz W bx fs i X) (c : Array Value) (t : TypeId) : St d ws ad cp sz W ((X.heap.size, c, t) :: bx) fs i (X.alloc (.cells c t)) := by
  have h' := h.below ((Below.refl _ _).alloc (Nat.le_refl _) (.cells c t))
  refine ⟨h'.rd, h'.gr, h'.hB, h'.wd, fun b hb => ?_, List.nodup_cons.2 ⟨fun hm => ?_, h'.nd⟩, fun x hx => ?_⟩
  · rcases List.mem_cons.1 hb with rfl | hb
    · exact ⟨(MapKept.heap_alloc X _).1, h.gr.size⟩
    · exact h'.bxs b hb
  · obtain ⟨b, hb, e⟩ := List.mem_map.1 hm
    have := heap_lt (h.bxs b hb).1
    have e' : b.1 = X.heap.size := e
    omega
  · obtain ⟨h1, h2, h3⟩ := h'.fss x hx
    refine ⟨h1, h2, fun b hb => ?_⟩
    rcases List.mem_cons.1 hb with rfl | hb
    · exact Or.inr (h.fss x hx).1.top
    · exact h3 b hb

theorem St.put {g : Nat} {c : Array Value} {t : TypeId} (h : St d ws ad cp sz W ((g, c, t) :: bx) fs i X) (j : Nat) (v : Value) : St d ws ad cp sz W ((g, c.setIfInBounds j v, t) :: bx) fs i (X.setCell ⟨g, j, none⟩ v) := by
  obtain ⟨hg, hW⟩ := h.bxs _ (List.mem_cons_self ..)
  have hB := h.hB
  dsimp only at hg hW
  have hne : g ≠ d.B := by omega
  have hblk : ∀ q, q ≠ g → (X.setCell ⟨g, j, none⟩ v).heap[q]? = X.heap[q]? := fun q hq => Below.heap_setCell X ⟨g, j, none⟩ v q hq
  have hs : (X.setCell ⟨g, j, none⟩ v).heap.size = X.heap.size := by simp [World.setCell]
  have hgr : Grew d W (X.setCell ⟨g, j, none⟩ v) := by
    refine ⟨h.gr.os, h.gr.tape, h.gr.output, by rw [hs]; exact h.gr.size, fun q hq => (hblk q (by have := hq.1; omega)).trans (h.gr.block q hq)⟩
  have hbx := h.nd
  rw [List.map_cons, List.nodup_cons] at hbx
  refine ⟨h.rd.other hne j v (fun b e => by have := h.wd b e; omega), hgr, hB, h.wd, fun b hb => ?_, ?_, fun x hx => ?_⟩
  · rcases List.mem_cons.1 hb with rfl | hb
    · exact ⟨set_block v hg, hW⟩
    · obtain ⟨h1, h2⟩ := h.bxs b (List.mem_cons_of_mem _ hb)
      exact ⟨(hblk _ (fun e => hbx.1 (List.mem_map.2 ⟨b, hb, e⟩))).trans h1, h2⟩
  · rw [List.map_cons, List.nodup_cons]
    exact hbx
  · obtain ⟨h1, h2, h3⟩ := h.fss x hx
    have h4 := h3 _ (List.mem_cons_self ..)
    dsimp only at h4
    refine ⟨h1.keep (by rw [hs]; exact h1.top) (fun q hq hq' => hblk q (by omega)), h2, fun b hb => ?_⟩
    rcases List.mem_cons.1 hb with rfl | hb
    · exact h4
    · exact h3 b (List.mem_cons_of_mem _ hb)

theorem put_size (X : World) (g j : Nat) (v : Value) : X.heap.size = (X.setCell ⟨g, j, none⟩ v).heap.size := by simp [World.setCell]

theorem St.drop {b : Nat × Array Value × TypeId} (h : St d ws ad cp sz W (b :: bx) fs i X) : St d ws ad cp sz W bx fs i X := by
  have hn := h.nd
  rw [List.map_cons, List.nodup_cons] at hn
  exact ⟨h.rd, h.gr, h.hB, h.wd, fun x hx => h.bxs x (List.mem_cons_of_mem _ hx), hn.2, fun x hx => ⟨(h.fss x hx).1, (h.fss x hx).2.1, fun y hy => (h.fss x hx).2.2 y (List.mem_cons_of_mem _ hy)⟩⟩

theorem St.box {g : Nat} {c : Array Value} {t : TypeId} (h : St d ws ad cp sz W ((g, c, t) :: bx) fs i X) : X.heap[g]? = some (.cells c t) := (h.bxs _ (List.mem_cons_self ..)).1

theorem St.step {h' : Grew d X X'} (h : St d ws ad cp sz W bx fs i X) (hr : RdAt d ws ad cp sz k X') : St d ws ad cp sz W bx fs k X' := h.go hr h'

/-- A node over forms that were read. -/
theorem St.node (h : St d ws ad cp sz W bx fs i X) (l : List Fr) (hl : ∀ x ∈ l, x ∈ fs) {n : Nd} {v : Value} (hs : Shape W.heap.size X (n.with_ (l.map Fr.t).length) (l.map Fr.v) v) : FmAt W.heap.size X.heap.size X (mkT n (l.map Fr.t)) v :=
  FmAt.of ⟨v, l.map Fr.v, [], rfl, forms_list l (fun x hx => ⟨(h.fss x (hl x hx)).1, (h.fss x (hl x hx)).2.1⟩), hs, rfl⟩

theorem St.mk0 (h : St d ws ad cp sz W bx fs i X) {n : Nd} {v : Value} (hs : Shape W.heap.size X (n.with_ 0) [] v) : FmAt W.heap.size X.heap.size X (mkT n []) v :=
  h.node [] (fun x hx => by cases hx) hs

theorem St.mk1 (h : St d ws ad cp sz W bx fs i X) {n : Nd} {v : Value} {a : Fr} (ha : a ∈ fs) (hs : Shape W.heap.size X (n.with_ 1) [a.v] v) : FmAt W.heap.size X.heap.size X (mkT n [a.t]) v :=
  h.node [a] (fun x hx => by simp at hx; subst hx; exact ha) hs

theorem St.mk2 (h : St d ws ad cp sz W bx fs i X) {n : Nd} {v : Value} {a b : Fr} (ha : a ∈ fs) (hb : b ∈ fs) (hs : Shape W.heap.size X (n.with_ 2) [a.v, b.v] v) : FmAt W.heap.size X.heap.size X (mkT n [a.t, b.t]) v :=
  h.node [a, b] (fun x hx => by simp at hx; rcases hx with rfl | rfl; exact ha; exact hb) hs

theorem St.mk3 (h : St d ws ad cp sz W bx fs i X) {n : Nd} {v : Value} {a b c : Fr} (ha : a ∈ fs) (hb : b ∈ fs) (hc : c ∈ fs) (hs : Shape W.heap.size X (n.with_ 3) [a.v, b.v, c.v] v) : FmAt W.heap.size X.heap.size X (mkT n [a.t, b.t, c.t]) v :=
  h.node [a, b, c] (fun x hx => by simp at hx; rcases hx with rfl | rfl | rfl; exact ha; exact hb; exact hc) hs

/-- One that was read is the answer itself. -/
theorem St.same (h : St d ws ad cp sz W bx fs i X) {a : Fr} (ha : a ∈ fs) : FmAt W.heap.size X.heap.size X a.t a.v :=
  FmAt.of (Forms.kept (h.fss a ha).2.1 (Nat.le_refl _) (fun _ _ _ => rfl) (h.fss a ha).1.forms)

theorem St.err (h : St d ws ad cp sz W bx fs i X) {α : Type} {Q : α → Ending → World → Prop} {R : Except Nat (α × Nat)} {j : Nat} (hR : .error j = R) (hg : Grew d X X') : PostX d ws ad cp sz Q R W (.panicked [faultAt ws sz j]) X' := by
  subst hR
  exact ⟨rfl, h.gr.trans hg⟩

theorem St.fin (h : St d ws ad cp sz W bx fs i X) {R : Except Nat (Tr × Nat)} {t : Tr} {T : TypeId} {p : Value} (hR : .ok (t, i) = R) (hf : FmAt W.heap.size X.heap.size X t (.iface T p)) : PostT d ws ad cp sz R W (.returned (.iface T p)) X := by
  subst hR
  exact ⟨⟨T, p, rfl, hf⟩, h.rd, h.gr⟩

/-- A loop's form so far takes the place of the older ones. -/
theorem St.fold (h : St d ws ad cp sz W bx fs i X) {t : Tr} {v : Value} (hf : FmAt W.heap.size X.heap.size X t v) : St d ws ad cp sz W [] [⟨W.heap.size, X.heap.size, t, v⟩] i X :=
  ⟨h.rd, h.gr, h.hB, h.wd, fun b hb => (by cases hb), List.nodup_nil, fun x hx => (by
    simp at hx
    subst hx
    exact ⟨hf, Nat.le_refl _, fun b hb => (by cases hb)⟩)⟩
end

section
variable {α β : Type} {ws : List Wd} {p q : PI α} {k : α → PI β} {i j : Nat} {a : α}

theorem bi_ok {R : Except Nat (β × Nat)} (h : bindI p k i = R) (hq : p i = .ok (a, j)) : k a j = R := by
  unfold bindI at h
  rw [hq] at h
  exact h

theorem bi_er {R : Except Nat (β × Nat)} (h : bindI p k i = R) (hq : p i = .error j) : .error j = R := by
  unfold bindI at h
  rw [hq] at h
  exact h

theorem oi_t {R : Except Nat (α × Nat)} {l : List UInt8} (h : orI ws l p q i = R) (hz : seesI ws i l = true) : p (i + 1) = R := by
  unfold orI at h
  rw [hz] at h
  exact h

theorem oi_f {R : Except Nat (α × Nat)} {l : List UInt8} (h : orI ws l p q i = R) (hz : seesI ws i l = false) : q i = R := by
  unfold orI at h
  rw [hz] at h
  exact h
end

/-- What is read goes on. -/
theorem ip_goes {ws : List Wd} (hw : BriefW ws) (ho : WordsOk ws) (f : Nat) {nt : Nt Tr} {nt' : Nt (List Nd)} (hn : NtR nt' nt) (hb : NtB nt') {i k : Nat} {t : Tr} (hi : i ≤ ws.length) (h : ipz ws f nt i = .ok (t, k)) : i ≤ k ∧ k ≤ ws.length := by
  have ha := (parse_alike ho f hn).same i
  rw [h] at ha
  obtain ⟨a, h1, -⟩ := ha
  have hg := goes_at hw f nt' hb (s := ⟨i, false⟩) hi
  rw [h1] at hg
  exact ⟨hg.on, hg.lt⟩

theorem ip_atom {ws : List Wd} (hw : BriefW ws) (ho : WordsOk ws) (f : Nat) {i k : Nat} {t : Tr} (hi : i ≤ ws.length) (h : ipz ws f .atom i = .ok (t, k)) : i < k := by
  cases f with
  | zero => cases h
  | succ f =>
    have h' : atomI ws (ipz ws f) i = .ok (t, k) := h
    unfold atomI at h'
    by_cases hs : startsI ws i = true
    · have ha := (parse_alike ho (f + 1) NtR.atom).same i
      rw [h] at ha
      obtain ⟨a, h1, -⟩ := ha
      obtain ⟨c, h2, h3, -, h5⟩ := atom_m hw (part_m hw f) ⟨i, false⟩ hi
      have h6 := h5 hs
      have h7 : atomS ws (spz ws f) ⟨i, false⟩ = (a, ⟨k, false⟩) := h1
      rw [h7] at h2
      dsimp only at h2
      omega
    · rw [if_neg hs] at h'
      cases h'

/-- How much may still be called. -/
def mi (ws : List Wd) (n i : Nat) : Nat := 16 * (ws.length - i) + n

/-- What the reader's functions do. -/
structure PiAll (d : Dr) (ws : List Wd) (ad : Option Addr) (cp sz : Nat) (f : Nat) : Prop where
  expr : ∀ i W, RdAt d ws ad cp sz i W → mi ws 11 i ≤ f → Calls Tryz.prog 42 #[.pointer (some ⟨d.B, 0, none⟩)] W (PostT d ws ad cp sz (ipz ws f .expr i) W)
  cons : ∀ i W, RdAt d ws ad cp sz i W → mi ws 10 i ≤ f → Calls Tryz.prog 74 #[.pointer (some ⟨d.B, 0, none⟩)] W (PostT d ws ad cp sz (ipz ws f .cons i) W)
  comp : ∀ i W, RdAt d ws ad cp sz i W → mi ws 9 i ≤ f → Calls Tryz.prog 95 #[.pointer (some ⟨d.B, 0, none⟩)] W (PostT d ws ad cp sz (ipz ws f .comp i) W)
  sum : ∀ i W, RdAt d ws ad cp sz i W → mi ws 8 i ≤ f → Calls Tryz.prog 106 #[.pointer (some ⟨d.B, 0, none⟩)] W (PostT d ws ad cp sz (ipz ws f .sum i) W)
  prod : ∀ i W, RdAt d ws ad cp sz i W → mi ws 6 i ≤ f → Calls Tryz.prog 116 #[.pointer (some ⟨d.B, 0, none⟩)] W (PostT d ws ad cp sz (ipz ws f .prod i) W)
  call : ∀ i W, RdAt d ws ad cp sz i W → mi ws 4 i ≤ f → Calls Tryz.prog 120 #[.pointer (some ⟨d.B, 0, none⟩)] W (PostT d ws ad cp sz (ipz ws f .call i) W)
  atom : ∀ i W, RdAt d ws ad cp sz i W → mi ws 2 i ≤ f → Calls Tryz.prog 126 #[.pointer (some ⟨d.B, 0, none⟩)] W (PostT d ws ad cp sz (ipz ws f .atom i) W)
  hand : ∀ k i W, RdAt d ws ad cp sz i W → mi ws 12 i ≤ f → k = 23 ∨ k = 24 → Calls Tryz.prog 129 #[.pointer (some ⟨d.B, 0, none⟩), .int .i64 k] W (PostT d ws ad cp sz (ipz ws f (.hand k) i) W)
end Go.Proofs.YtkdipppeljpgmaaGreatDoor

/- The program's reader of words: its small functions. -/
namespace Go.Proofs.YtkdipppeljpgmaaGreatDoor
open Go.RowKit Go.Deep

theorem fld_0 (a : Int) (b : ByteArray) (c : Int) (w : World) : (Instr.field 43 (.agg #[.int .i64 a, .string b, .int .i64 c]) 0).run Tryz.prog w = .ok (.int .i64 a) w := by kernel_rfl
theorem fld_1 (a : Int) (b : ByteArray) (c : Int) (w : World) : (Instr.field 43 (.agg #[.int .i64 a, .string b, .int .i64 c]) 1).run Tryz.prog w = .ok (.string b) w := by kernel_rfl
theorem fld_2 (a : Int) (b : ByteArray) (c : Int) (w : World) : (Instr.field 43 (.agg #[.int .i64 a, .string b, .int .i64 c]) 2).run Tryz.prog w = .ok (.int .i64 c) w := by kernel_rfl

section
variable {d : Dr} {ws : List Wd} {ad : Option Addr} {cp sz : Nat}

theorem sees_cur {i : Nat} {l : List UInt8} (hl : l ≠ []) : ((curI ws sz i).text.toList == l) = seesI ws i l := by
  unfold curI seesI
  by_cases hi : i < ws.length
  · rw [if_pos hi, decide_eq_true hi, Bool.true_and]
  · rw [if_neg hi, decide_eq_false hi, Bool.false_and]
    have := no_bytes
    rw [this]
    cases l with
    | nil => exact absurd rfl hl
    | cons a l => rfl

theorem peek_at {i : Nat} {W : World} {kd : Int} {tx : ByteArray} {wa : Nat} (h : RdAt d ws ad cp sz i W) (hc : curI ws sz i = ⟨kd, tx, wa⟩) :
    Calls Tryz.prog 66 #[.pointer (some ⟨d.B, 0, none⟩)] W fun e W' => e = .returned (.agg #[.int .i64 kd, .string tx, .int .i64 (wa : Int)]) ∧ Below W.heap.size W W' := by
  have hP := peek_calls i W h
  rw [hc] at hP
  exact hP

set_option maxHeartbeats 2000000 in
set_option maxRecDepth 100000 in
theorem misfit_calls (i : Nat) (W : World) (h : RdAt d ws ad cp sz i W) :
    Calls Tryz.prog 43 #[.pointer (some ⟨d.B, 0, none⟩)] W fun e W' => e = .returned (faultV ws sz i) ∧ Below W.heap.size W W' := by
  have H := hid h
  unfold faultV
  obtain ⟨⟨kd, tx, wa⟩, hc⟩ : ∃ c, curI ws sz i = c := ⟨_, rfl⟩
  rw [hc]
  have HC := hid hc
  clear h hc
  have hf := fld_2 kd tx (wa : Int)
  go_enter Tryz.func43, Tryz.ntmps43
  go_wp2_with fail
  have hb := (Below.refl W.heap.size W).alloc (Nat.le_refl _) (.cells #[.int .i64 0, .int .i64 0] 27)
  have hg := (MapKept.heap_alloc W (.cells #[.int .i64 0, .int .i64 0] 27)).1
  have HP := hid (peek_at (H.out.below hb) HC.out)
  have HB := hid hb
  obtain ⟨Y, hY⟩ : ∃ Y, W.alloc (.cells #[.int .i64 0, .int .i64 0] 27) = Y := ⟨_, rfl⟩
  rw [hY] at hg HP HB ⊢
  obtain ⟨g, hgg⟩ : ∃ g, W.heap.size = g := ⟨_, rfl⟩
  rw [hgg] at hg HB ⊢
  have HF := hid hgg
  have HG := hid hg
  clear hb hg hY hgg
  refine HP.out.mono ?_
  rintro e X ⟨rfl, hb⟩
  have HX := hid ((hb.block _ (heap_lt HG.out)).trans HG.out)
  have HB := hid (HB.out.trans (hb.mono (by have := HB.out.size; have := HF.out; omega)))
  clear hb HP
  have g0 := cell_of_heap HX.out 0
  have g1 := cell_of_heap HX.out 1
  have z0 := frozen_of_heap HX.out 0
  have z1 := frozen_of_heap HX.out 1
  simp at g0 g1
  go_wp2_with fail
  have k0 := cell_of_heap (set_block (i := 1) (.int .i64 (wa : Int)) (set_block (i := 0) (.int .i64 5) HX.out)) 0
  have k1 := cell_of_heap (set_block (i := 1) (.int .i64 (wa : Int)) (set_block (i := 0) (.int .i64 5) HX.out)) 1
  simp at k0 k1
  have hl := (HB.out.setCell (p := ⟨g, 0, none⟩) (Nat.le_refl _) (.int .i64 5)).setCell (p := ⟨g, 1, none⟩) (Nat.le_refl _) (.int .i64 (wa : Int))
  refine bodyPost_ret (v := .agg #[.int .i64 5, .int .i64 (wa : Int)]) (by simp [results, Tryz.results43, go_sem, k0, k1]) rfl ⟨rfl, ?_⟩
  rw [HF.out]
  exact hl

theorem misfit_at {i : Nat} {W : World} {v : Value} (h : RdAt d ws ad cp sz i W) (hv : faultV ws sz i = v) :
    Calls Tryz.prog 43 #[.pointer (some ⟨d.B, 0, none⟩)] W fun e W' => e = .returned v ∧ Below W.heap.size W W' := by
  subst hv
  exact misfit_calls i W h

set_option maxHeartbeats 2000000 in
set_option maxRecDepth 100000 in
theorem sees_calls (i : Nat) (t : ByteArray) (l : List UInt8) (ht : t.toList = l) (hl : l ≠ []) (W : World) (h : RdAt d ws ad cp sz i W) :
    Calls Tryz.prog 40 #[.pointer (some ⟨d.B, 0, none⟩), .string t] W fun e W' => e = .returned (.bool (seesI ws i l)) ∧ Below W.heap.size W W' := by
  have H := hid h
  have hs := sees_cur (ws := ws) (sz := sz) (i := i) hl
  obtain ⟨⟨kd, tx, wa⟩, hc⟩ : ∃ c, curI ws sz i = c := ⟨_, rfl⟩
  rw [hc] at hs
  rw [← hs]
  have HC := hid hc
  clear h hc hs
  have hf := fld_1 kd tx (wa : Int)
  go_enter Tryz.func40, Tryz.ntmps40
  go_wp2_with fail
  refine (peek_at H.out HC.out).mono ?_
  rintro e X ⟨rfl, hb⟩
  go_wp2_with fail
  go_ret
  exact ⟨rfl, hb⟩

set_option maxHeartbeats 2000000 in
set_option maxRecDepth 100000 in
theorem skips_t {i : Nat} {t : ByteArray} {l : List UInt8} {W : World} (h : RdAt d ws ad cp sz i W) (ht : t.toList = l) (hl : l ≠ []) (hz : seesI ws i l = true) :
    Calls Tryz.prog 70 #[.pointer (some ⟨d.B, 0, none⟩), .string t] W fun e W' => e = .returned (.bool true) ∧ RdAt d ws ad cp sz (i + 1) W' ∧ Grew d W W' := by
  have hS := sees_calls i t l ht hl W h
  rw [hz] at hS
  have HS := hid hS
  have H := hid h
  have hlt : i < ws.length := by unfold seesI at hz; simp at hz; exact hz.1
  have hw : wrap64 ((i : Int) + 1) = ((i + 1 : Nat) : Int) := wrap_succ (by have := h.few; omega)
  have HW := hid (And.intro hw hlt)
  clear h hS hz ht hl hw hlt
  go_enter Tryz.func70, Tryz.ntmps70
  go_wp2_with fail
  refine HS.out.mono ?_
  rintro e X ⟨rfl, hb⟩
  have H1 := hid (H.out.below hb)
  have G1 := hid (Grew.of_below (d := d) hb)
  have q1 := cell_of_heap H1.out.blk 1
  have z1 := frozen_of_heap H1.out.blk 1
  simp at q1
  clear hb
  go_wp2_with fail
  go_ret
  rw [HW.out.1]
  exact ⟨rfl, H1.out.move (k := i + 1) HW.out.2, G1.out.trans (grew_set X 1 _)⟩

set_option maxHeartbeats 2000000 in
set_option maxRecDepth 100000 in
theorem skips_f {i : Nat} {t : ByteArray} {l : List UInt8} {W : World} (h : RdAt d ws ad cp sz i W) (ht : t.toList = l) (hl : l ≠ []) (hz : seesI ws i l = false) :
    Calls Tryz.prog 70 #[.pointer (some ⟨d.B, 0, none⟩), .string t] W fun e W' => e = .returned (.bool false) ∧ RdAt d ws ad cp sz i W' ∧ Grew d W W' := by
  have hS := sees_calls i t l ht hl W h
  rw [hz] at hS
  have HS := hid hS
  have H := hid h
  clear h hS hz ht hl
  go_enter Tryz.func70, Tryz.ntmps70
  go_wp2_with fail
  refine HS.out.mono ?_
  rintro e X ⟨rfl, hb⟩
  go_wp2_with fail
  go_ret
  exact ⟨rfl, H.out.below hb, Grew.of_below hb⟩

set_option maxHeartbeats 2000000 in
set_option maxRecDepth 100000 in
theorem rname_calls (i : Nat) (W : World) (h : RdAt d ws ad cp sz i W) :
    Calls Tryz.prog 68 #[.pointer (some ⟨d.B, 0, none⟩)] W (PostS d ws ad cp sz (nameI ws i) W) := by
  have H := hid h
  obtain ⟨⟨kd, tx, wa⟩, hc⟩ : ∃ c, curI ws sz i = c := ⟨_, rfl⟩
  have HC := hid hc
  clear h hc
  by_cases hk : kd = 2
  · have hlt : i < ws.length := by
      have := HC.out
      unfold curI at this
      split at this
      · assumption
      · simp at this; omega
    have hn : nameI ws i = .ok (tx, i + 1) := by
      have h1 := HC.out
      unfold curI at h1
      rw [if_pos hlt] at h1
      unfold nameI
      rw [h1, if_pos ⟨hlt, hk⟩]
    subst hk
    rw [hn]
    have hw : wrap64 ((i : Int) + 1) = ((i + 1 : Nat) : Int) := wrap_succ (by have := H.out.few; omega)
    have HW := hid (And.intro hw hlt)
    clear hn hlt hw
    go_enter Tryz.func68, Tryz.ntmps68
    go_wp2_with fail
    refine (peek_at H.out HC.out).mono ?_
    rintro e X ⟨rfl, hb⟩
    have H1 := hid (H.out.below hb)
    have G1 := hid (Grew.of_below (d := d) hb)
    clear hb
    have p1 := cell_of_heap H1.out.blk 1
    have z1 := frozen_of_heap H1.out.blk 1
    have hl := heap_lt H1.out.blk
    simp at p1
    go_wp2_with fail
    rw [HW.out.1]
    go_ret
    have hm := H1.out.move (k := i + 1) HW.out.2
    have hb := (Below.refl (X.setCell ⟨d.B, 1, none⟩ (.int .i64 ((i + 1 : Nat) : Int))).heap.size (X.setCell ⟨d.B, 1, none⟩ (.int .i64 ((i + 1 : Nat) : Int)))).alloc (Nat.le_refl _) (.cells #[.int .i64 2, .string tx, .int .i64 (wa : Int)] 43)
    exact ⟨rfl, hm.below hb, (G1.out.trans (grew_set X 1 _)).trans (Grew.of_below hb)⟩
  · have hn : nameI ws i = .error i := by
      unfold nameI
      by_cases hlt : i < ws.length
      · have h1 := HC.out
        unfold curI at h1
        rw [if_pos hlt] at h1
        rw [h1, if_neg (fun h => hk h.2)]
      · rw [if_neg (fun h => hlt h.1)]
    rw [hn]
    clear hn
    obtain ⟨fv, hfv⟩ : ∃ v, faultV ws sz i = v := ⟨_, rfl⟩
    have HV := hid hfv
    clear hfv
    go_enter Tryz.func68, Tryz.ntmps68
    go_wp2_with fail
    refine (peek_at H.out HC.out).mono ?_
    rintro e X ⟨rfl, hb⟩
    have H1 := hid (H.out.below hb)
    have G1 := hid (Grew.of_below (d := d) hb)
    clear hb
    go_wp2_with fail
    have hb := (Below.refl X.heap.size X).alloc (Nat.le_refl _) (.cells #[.int .i64 kd, .string tx, .int .i64 (wa : Int)] 43)
    refine (misfit_at (H1.out.below hb) HV.out).mono ?_
    rintro e Y ⟨rfl, hb2⟩
    have HG := hid (G1.out.trans ((Grew.of_below hb).trans (Grew.of_below hb2)))
    clear hb hb2
    go_wp2_with fail
    rw [← HV.out]
    exact ⟨rfl, rfl, HG.out⟩
end
end Go.Proofs.YtkdipppeljpgmaaGreatDoor

/- The program's reader of words: keys and signs that must come. -/
namespace Go.Proofs.YtkdipppeljpgmaaGreatDoor
open Go.RowKit Go.Deep

def mustI (ws : List Wd) : List (List UInt8) → PI Unit
  | [] => pureI ()
  | l :: r => bindI (takeI ws l) fun _ => mustI ws r

section
variable {d : Dr} {ws : List Wd} {ad : Option Addr} {cp sz : Nat}

theorem take_t {i : Nat} {l : List UInt8} (hz : seesI ws i l = true) : takeI ws l i = .ok ((), i + 1) := by
  unfold takeI
  rw [hz]
  rfl

theorem take_f {i : Nat} {l : List UInt8} (hz : seesI ws i l = false) : takeI ws l i = .error i := by
  unfold takeI
  rw [hz]
  rfl

set_option maxHeartbeats 4000000 in
set_option maxRecDepth 100000 in
theorem must_calls (ts : List ByteArray) (g : Nat) (t : TypeId) {i : Nat} {W : World} (h : RdAt d ws ad cp sz i W) (hg : W.heap[g]? = some (.cells (ts.map Value.string).toArray t)) (hB : g ≠ d.B) (hn : ts.length ≤ 3) (hl : ∀ t ∈ ts, t.toList ≠ []) :
    Calls Tryz.prog 67 #[.pointer (some ⟨d.B, 0, none⟩), .slice (some ⟨g, 0, none⟩) ts.length ts.length] W (PostU d ws ad cp sz (mustI ws (ts.map ByteArray.toList) i) W) := by
  obtain ⟨R, hR⟩ : ∃ R, mustI ws (ts.map ByteArray.toList) i = R := ⟨_, rfl⟩
  rw [hR]
  obtain ⟨n, hnn⟩ : ∃ n, ts.length = n := ⟨_, rfl⟩
  rw [hnn]
  have H := hid h
  have HR := hid hR
  have HN := hid (And.intro hnn (And.intro hn hl))
  have HG := hid (And.intro hg hB)
  clear h hR hnn hg hB hn hl
  go_enter Tryz.func67, Tryz.ntmps67
  go_wp2_with fail
  go_loopw [8] (fun v wr => ∃ m : Nat, v = .int .i64 (m : Int) ∧ Hid (m ≤ n ∧ ∃ k, mustI ws ((ts.drop m).map ByteArray.toList) k = R ∧ RdAt d ws ad cp sz k wr ∧ Grew d W wr)) (fun v _ => n - (intOf v).toNat)
  case atStart => exact ⟨0, rfl, hid ⟨Nat.zero_le _, i, HR.out, H.out, Grew.refl d W⟩⟩
  case round =>
    obtain ⟨m, rfl, hm⟩ := hrel
    have HM := hid hm.out
    clear hm
    by_cases hc : (m : Int) < (n : Int)
    · obtain ⟨h1, k, h2, h3, h4⟩ := HM.out
      have hml : m < ts.length := by have := HN.out.1; omega
      obtain ⟨x, hx⟩ : ∃ x, ts[m]? = some x := ⟨ts[m], List.getElem?_eq_getElem hml⟩
      have hdr : ts.drop m = x :: ts.drop (m + 1) := by
        rw [List.drop_eq_getElem_cons hml]
        rw [List.getElem?_eq_getElem hml] at hx
        rw [Option.some.inj hx]
      have hxl : x.toList ≠ [] := HN.out.2.2 x (List.mem_of_getElem? hx)
      have hcell : wr.cell? ⟨g, m, none⟩ = some (.string x) := by
        have hb := (h4.block g ⟨heap_lt HG.out.1, HG.out.2, by rw [h3.eq]; exact HG.out.2⟩).trans HG.out.1
        rw [cell_of_heap hb m]
        simp [hx]
      rw [hdr] at h2
      have HR2 := hid (show bindI (takeI ws x.toList) (fun _ => mustI ws ((ts.drop (m + 1)).map ByteArray.toList)) k = R from h2)
      have H3 := hid h3
      have H4 := hid h4
      have HX := hid hxl
      have h0 : (0 : Int) ≤ (m : Int) := by omega
      clear h1 h2 h3 h4 hdr hxl hx hml
      go_wp2_with fail
      by_cases hz : seesI ws k x.toList = true
      · refine (skips_t H3.out rfl HX.out hz).mono ?_
        rintro e X ⟨rfl, hr, hgr⟩
        have HR3 := hid (bi_ok HR2.out (take_t hz))
        have HX2 := hid (And.intro hr (H4.out.trans hgr))
        clear hr hgr hz
        go_wp2_with fail
        rw [wrap_succ (by have := HN.out; omega)]
        exact ⟨⟨m + 1, rfl, hid ⟨by omega, k + 1, HR3.out, HX2.out⟩⟩, lt_step hc⟩
      · have hz' : seesI ws k x.toList = false := by simpa using hz
        refine (skips_f H3.out rfl HX.out hz').mono ?_
        rintro e X ⟨rfl, hr, hgr⟩
        have HE := hid (bi_er HR2.out (take_f hz'))
        have HX2 := hid (And.intro hr (H4.out.trans hgr))
        clear hr hgr hz hz'
        go_wp2_with fail
        refine (misfit_calls k X HX2.out.1).mono ?_
        rintro e Y ⟨rfl, hb⟩
        go_wp2_with fail
        rw [← HE.out]
        exact ⟨rfl, rfl, HX2.out.2.trans (Grew.of_below hb)⟩
    · obtain ⟨h1, k, h2, h3, h4⟩ := HM.out
      have hd : ts.drop m = [] := List.drop_eq_nil_of_le (by have := HN.out.1; omega)
      rw [hd] at h2
      have HE := hid (show Except.ok ((), k) = R from h2)
      have H3 := hid h3
      have H4 := hid h4
      clear h1 h2 h3 h4 hd
      go_wp2_with fail
      first | go_end0 | refine bodyPost_ret (results_none rfl _ _ _) rfl ?_
      rw [← HE.out]
      exact ⟨⟨_, rfl⟩, H3.out, H4.out⟩

/-- Behind the making of the row. -/
theorem must_at {l : List (List UInt8)} (ts : List ByteArray) (cs : Array Value) (m : Nat) {i : Nat} {X : World} (h : RdAt d ws ad cp sz i X) (hc : cs = (ts.map Value.string).toArray) (hm : m = ts.length) (hts : ts.map ByteArray.toList = l) (hn : ts.length ≤ 3) (hl : ∀ x ∈ l, x ≠ []) :
    Calls Tryz.prog 67 #[.pointer (some ⟨d.B, 0, none⟩), .slice (some ⟨X.heap.size, 0, none⟩) m m] (X.alloc (.cells cs 9)) (PostU d ws ad cp sz (mustI ws l i) X) := by
  subst hc hm hts
  have hb := (Below.refl X.heap.size X).alloc (Nat.le_refl _) (.cells (ts.map Value.string).toArray 9)
  have hB := heap_lt h.blk
  refine (must_calls ts X.heap.size 9 (h.below hb) (MapKept.heap_alloc X _).1 (by omega) hn (fun t ht => hl _ (List.mem_map_of_mem ht))).mono ?_
  intro e W' hp
  rcases post_x hp with ⟨j, hq, rfl, hg⟩ | ⟨u, k, hq, hv, hr, hg⟩
  · rw [hq]
    exact ⟨rfl, (Grew.of_below hb).trans hg⟩
  · rw [hq]
    exact ⟨hv, hr, (Grew.of_below hb).trans hg⟩

theorem must1 (t1 : ByteArray) {l1 : List UInt8} {i : Nat} {X : World} (h : RdAt d ws ad cp sz i X) (e1 : t1.toList = l1) (h1 : l1 ≠ []) :
    Calls Tryz.prog 67 #[.pointer (some ⟨d.B, 0, none⟩), .slice (some ⟨X.heap.size, 0, none⟩) 1 1] (X.alloc (.cells #[.string t1] 9)) (PostU d ws ad cp sz (mustI ws [l1] i) X) :=
  must_at [t1] _ 1 h rfl rfl (by rw [← e1]; rfl) (by simp) (fun x hx => by simp at hx; subst hx; exact h1)

theorem must2 (t1 t2 : ByteArray) {l1 l2 : List UInt8} {i : Nat} {X : World} (h : RdAt d ws ad cp sz i X) (e1 : t1.toList = l1) (h1 : l1 ≠ []) (e2 : t2.toList = l2) (h2 : l2 ≠ []) :
    Calls Tryz.prog 67 #[.pointer (some ⟨d.B, 0, none⟩), .slice (some ⟨X.heap.size, 0, none⟩) 2 2] (X.alloc (.cells #[.string t1, .string t2] 9)) (PostU d ws ad cp sz (mustI ws [l1, l2] i) X) :=
  must_at [t1, t2] _ 2 h rfl rfl (by rw [← e1, ← e2]; rfl) (by simp) (fun x hx => by simp at hx; rcases hx with rfl | rfl; exact h1; exact h2)

theorem must3 (t1 t2 t3 : ByteArray) {l1 l2 l3 : List UInt8} {i : Nat} {X : World} (h : RdAt d ws ad cp sz i X) (e1 : t1.toList = l1) (h1 : l1 ≠ []) (e2 : t2.toList = l2) (h2 : l2 ≠ []) (e3 : t3.toList = l3) (h3 : l3 ≠ []) :
    Calls Tryz.prog 67 #[.pointer (some ⟨d.B, 0, none⟩), .slice (some ⟨X.heap.size, 0, none⟩) 3 3] (X.alloc (.cells #[.string t1, .string t2, .string t3] 9)) (PostU d ws ad cp sz (mustI ws [l1, l2, l3] i) X) :=
  must_at [t1, t2, t3] _ 3 h rfl rfl (by rw [← e1, ← e2, ← e3]; rfl) (by simp) (fun x hx => by simp at hx; rcases hx with rfl | rfl | rfl; exact h1; exact h2; exact h3)
end

section
variable {ws : List Wd} {β : Type} {i j : Nat} {u : Unit} {k : Unit → PI β} {R : Except Nat (β × Nat)} {l1 l2 l3 : List UInt8}

theorem taken_on (hq : takeI ws l1 i = .ok (u, j)) : j = i + 1 := by
  unfold takeI at hq
  split at hq
  · simp at hq
    exact hq.symm
  · cases hq

theorem m1_ok (h : bindI (takeI ws l1) k i = R) (hq : mustI ws [l1] i = .ok (u, j)) : k () j = R ∧ i + 1 ≤ j := by
  unfold mustI bindI at hq
  unfold bindI at h
  cases h1 : takeI ws l1 i with
  | error e => rw [h1] at hq; cases hq
  | ok r =>
    obtain ⟨x, y⟩ := r
    have e1 := taken_on h1
    rw [h1] at hq h
    simp only [mustI, pureI, Except.ok.injEq, Prod.mk.injEq] at hq
    obtain ⟨-, rfl⟩ := hq
    exact ⟨h, by omega⟩

theorem m1_er (h : bindI (takeI ws l1) k i = R) (hq : mustI ws [l1] i = .error j) : .error j = R := by
  unfold mustI bindI at hq
  unfold bindI at h
  cases h1 : takeI ws l1 i with
  | error e => rw [h1] at hq h; cases hq; exact h
  | ok r => rw [h1] at hq; cases hq

theorem m2_ok (h : bindI (takeI ws l1) (fun _ => bindI (takeI ws l2) k) i = R) (hq : mustI ws [l1, l2] i = .ok (u, j)) : k () j = R ∧ i + 2 ≤ j := by
  unfold mustI bindI at hq
  unfold bindI at h
  cases h1 : takeI ws l1 i with
  | error e => rw [h1] at hq; cases hq
  | ok r =>
    obtain ⟨x, y⟩ := r
    have e1 := taken_on h1
    rw [h1] at hq h
    obtain ⟨a, b⟩ := m1_ok h hq
    exact ⟨a, by omega⟩

theorem m2_er (h : bindI (takeI ws l1) (fun _ => bindI (takeI ws l2) k) i = R) (hq : mustI ws [l1, l2] i = .error j) : .error j = R := by
  unfold mustI bindI at hq
  unfold bindI at h
  cases h1 : takeI ws l1 i with
  | error e => rw [h1] at hq h; cases hq; exact h
  | ok r => rw [h1] at hq h; exact m1_er h hq

theorem m3_ok (h : bindI (takeI ws l1) (fun _ => bindI (takeI ws l2) (fun _ => bindI (takeI ws l3) k)) i = R) (hq : mustI ws [l1, l2, l3] i = .ok (u, j)) : k () j = R ∧ i + 3 ≤ j := by
  unfold mustI bindI at hq
  unfold bindI at h
  cases h1 : takeI ws l1 i with
  | error e => rw [h1] at hq; cases hq
  | ok r =>
    obtain ⟨x, y⟩ := r
    have e1 := taken_on h1
    rw [h1] at hq h
    obtain ⟨a, b⟩ := m2_ok h hq
    exact ⟨a, by omega⟩

theorem m3_er (h : bindI (takeI ws l1) (fun _ => bindI (takeI ws l2) (fun _ => bindI (takeI ws l3) k)) i = R) (hq : mustI ws [l1, l2, l3] i = .error j) : .error j = R := by
  unfold mustI bindI at hq
  unfold bindI at h
  cases h1 : takeI ws l1 i with
  | error e => rw [h1] at hq h; cases hq; exact h
  | ok r => rw [h1] at hq h; exact m2_er h hq

theorem name_on {n : ByteArray} (hq : nameI ws i = .ok (n, j)) : j = i + 1 := by
  unfold nameI at hq
  split at hq
  · simp at hq
    exact hq.2.symm
  · cases hq
end
end Go.Proofs.YtkdipppeljpgmaaGreatDoor

/- The program's reader: expressions, lists. -/
namespace Go.Proofs.YtkdipppeljpgmaaGreatDoor
open Go.RowKit Go.Deep

section
variable {d : Dr} {ws : List Wd} {ad : Option Addr} {cp sz : Nat}

set_option maxHeartbeats 8000000 in
set_option maxRecDepth 100000 in
theorem irec_calls (hw : BriefW ws) (ho : WordsOk ws) {f : Nat} (hc : PiAll d ws ad cp sz f) (i : Nat) (W : World) (h : RdAt d ws ad cp sz i W) (hm : mi ws 11 i ≤ f) :
    Calls Tryz.prog 94 #[.pointer (some ⟨d.B, 0, none⟩)] W (PostT d ws ad cp sz (recI' ws (ipz ws f) i) W) := by
  obtain ⟨R, hR⟩ : ∃ R, recI' ws (ipz ws f) i = R := ⟨_, rfl⟩
  rw [hR]
  have HR := hid hR
  have S := hid (St.start h)
  have H := hid (And.intro hw (And.intro ho hc))
  have M := hid hm
  have G := hid (show i + 0 ≤ i from Nat.le_refl _)
  clear h hm hR hw ho hc
  go_enter Tryz.func94, Tryz.ntmps94
  go_wp2_with fail
  refine (rname_calls _ _ S.out.rd).mono ?_
  intro e X1 hp
  rcases post_x hp with ⟨j, hq, rfl, hg⟩ | ⟨n1, i1, hq, rfl, hr, hg⟩
  · exact ⟨rfl, S.out.err (bi_er HR.out hq) hg⟩
  have G := hid (show i + 1 ≤ i1 by have h1 := G.out; have h2 := name_on hq; omega)
  have S := hid (S.out.go hr hg)
  have HR := hid (bi_ok HR.out hq)
  clear hp hq hr hg
  go_wp2_with fail
  have S := hid (S.out.alloc #[.string n1, .string ⟨#[]⟩, .nilIface, .nilIface] 129)
  try rw [show X1.heap.size + 1 = (X1.alloc (.cells #[.string n1, .string ⟨#[]⟩, .nilIface, .nilIface] 129)).heap.size by simp]
  obtain ⟨Y2, hY⟩ : ∃ y, X1.alloc (.cells #[.string n1, .string ⟨#[]⟩, .nilIface, .nilIface] 129) = y := ⟨_, rfl⟩
  rw [hY] at S ⊢
  obtain ⟨g2, hg⟩ : ∃ g, X1.heap.size = g := ⟨_, rfl⟩
  rw [hg] at S ⊢
  clear hY hg
  refine (rname_calls _ _ S.out.rd).mono ?_
  intro e X3 hp
  rcases post_x hp with ⟨j, hq, rfl, hg⟩ | ⟨n3, i3, hq, rfl, hr, hg⟩
  · exact ⟨rfl, S.out.err (bi_er HR.out hq) hg⟩
  have G := hid (show i + 2 ≤ i3 by have h1 := G.out; have h2 := name_on hq; omega)
  have S := hid (S.out.go hr hg)
  have HR := hid (bi_ok HR.out hq)
  clear hp hq hr hg
  have b := cell_of_heap S.out.box 1
  have z := frozen_of_heap S.out.box 1
  simp at b
  go_wp2_with fail
  have S := hid (S.out.put 1 (.string n3))
  try rw [put_size X3 g2 1 (.string n3)]
  obtain ⟨Z4, hZ⟩ : ∃ Z, X3.setCell ⟨g2, 1, none⟩ (.string n3) = Z := ⟨_, rfl⟩
  rw [hZ] at S ⊢
  clear hZ b z
  refine (must1 _ S.out.rd (l1 := gEq) (by kernel_rfl) (by decide)).mono ?_
  intro e X5 hp
  rcases post_x hp with ⟨j, hq, rfl, hg⟩ | ⟨u, i5, hq, ⟨v, rfl⟩, hr, hg⟩
  · exact ⟨rfl, S.out.err (m1_er HR.out hq) hg⟩
  have HQ := m1_ok HR.out hq
  have G := hid (show i + 3 ≤ i5 by have h1 := G.out; have h2 := HQ.2; omega)
  have S := hid (S.out.go hr hg)
  have HR := hid HQ.1
  clear hp hq hr hg HQ
  go_wp2_with fail
  refine (H.out.2.2.expr _ _ S.out.rd (by have h1 := G.out; have h2 := M.out; have h3 := S.out.rd.lt; unfold mi at h2 ⊢; omega)).mono ?_
  intro e X6 hp
  rcases post_x hp with ⟨j, hq, rfl, hg⟩ | ⟨t6, i6, hq, ⟨T6, p6, rfl, hf⟩, hr, hg⟩
  · exact ⟨rfl, S.out.err (bi_er HR.out hq) hg⟩
  have G := hid (show i + 3 ≤ i6 by have h1 := G.out; have h2 := ip_goes H.out.1 H.out.2.1 f NtR.expr trivial S.out.rd.lt hq; omega)
  have S := hid (S.out.form hr hg hf)
  have HR := hid (bi_ok HR.out hq)
  clear hp hq hf hr hg
  have b := cell_of_heap S.out.box 2
  have z := frozen_of_heap S.out.box 2
  simp at b
  go_wp2_with fail
  have S := hid (S.out.put 2 (.iface T6 p6))
  try rw [put_size X6 g2 2 (.iface T6 p6)]
  obtain ⟨Z7, hZ⟩ : ∃ Z, X6.setCell ⟨g2, 2, none⟩ (.iface T6 p6) = Z := ⟨_, rfl⟩
  rw [hZ] at S ⊢
  clear hZ b z
  refine (must1 _ S.out.rd (l1 := kIn) (by kernel_rfl) (by decide)).mono ?_
  intro e X8 hp
  rcases post_x hp with ⟨j, hq, rfl, hg⟩ | ⟨u, i8, hq, ⟨v, rfl⟩, hr, hg⟩
  · exact ⟨rfl, S.out.err (m1_er HR.out hq) hg⟩
  have HQ := m1_ok HR.out hq
  have G := hid (show i + 4 ≤ i8 by have h1 := G.out; have h2 := HQ.2; omega)
  have S := hid (S.out.go hr hg)
  have HR := hid HQ.1
  clear hp hq hr hg HQ
  go_wp2_with fail
  refine (H.out.2.2.expr _ _ S.out.rd (by have h1 := G.out; have h2 := M.out; have h3 := S.out.rd.lt; unfold mi at h2 ⊢; omega)).mono ?_
  intro e X9 hp
  rcases post_x hp with ⟨j, hq, rfl, hg⟩ | ⟨t9, i9, hq, ⟨T9, p9, rfl, hf⟩, hr, hg⟩
  · exact ⟨rfl, S.out.err (bi_er HR.out hq) hg⟩
  have G := hid (show i + 4 ≤ i9 by have h1 := G.out; have h2 := ip_goes H.out.1 H.out.2.1 f NtR.expr trivial S.out.rd.lt hq; omega)
  have S := hid (S.out.form hr hg hf)
  have HR := hid (bi_ok HR.out hq)
  clear hp hq hf hr hg
  have b0 := cell_of_heap S.out.box 0
  have b1 := cell_of_heap S.out.box 1
  have b2 := cell_of_heap S.out.box 2
  have b3 := cell_of_heap S.out.box 3
  have z := frozen_of_heap S.out.box 3
  simp at b0 b1 b2 b3
  go_wp2_with fail
  have S := hid (S.out.put 3 (.iface T9 p9))
  go_ret
  exact S.out.fin HR.out (S.out.mk2 (.tail _ (.head _)) (.head _) .recur)

set_option maxHeartbeats 8000000 in
set_option maxRecDepth 100000 in
theorem ilet_calls (hw : BriefW ws) (ho : WordsOk ws) {f : Nat} (hc : PiAll d ws ad cp sz f) (i : Nat) (W : World) (h : RdAt d ws ad cp sz i W) (hm : mi ws 11 i ≤ f) :
    Calls Tryz.prog 71 #[.pointer (some ⟨d.B, 0, none⟩)] W (PostT d ws ad cp sz (orI ws kRec (recI' ws (ipz ws f)) (letI' ws (ipz ws f)) i) W) := by
  obtain ⟨R, hR⟩ : ∃ R, orI ws kRec (recI' ws (ipz ws f)) (letI' ws (ipz ws f)) i = R := ⟨_, rfl⟩
  rw [hR]
  have HR := hid hR
  have S := hid (St.start h)
  have H := hid (And.intro hw (And.intro ho hc))
  have M := hid hm
  have G := hid (show i + 0 ≤ i from Nat.le_refl _)
  clear h hm hR hw ho hc
  go_enter Tryz.func71, Tryz.ntmps71
  go_wp2_with fail
  by_cases z : seesI ws i kRec = true
  · refine (skips_t S.out.rd (by kernel_rfl) (by decide) z).mono ?_
    rintro e X1 ⟨rfl, hr, hg⟩
    have S := hid (S.out.go hr hg)
    have HR := hid (oi_t HR.out z)
    have G := hid (show i + 1 ≤ i + 1 by have := G.out; omega)
    clear hr hg z
    go_wp2_with fail
    refine (irec_calls H.out.1 H.out.2.1 H.out.2.2 _ _ S.out.rd (by have h1 := G.out; have h2 := M.out; have h3 := S.out.rd.lt; unfold mi at h2 ⊢; omega)).mono ?_
    intro e X2 hp
    rcases post_x hp with ⟨j, hq, rfl, hg⟩ | ⟨t2, i2, hq, ⟨T2, p2, rfl, hf⟩, hr, hg⟩
    · exact ⟨rfl, S.out.err (hq.symm.trans HR.out) hg⟩
    have S := hid (S.out.form hr hg hf)
    have HR := hid (hq.symm.trans HR.out)
    clear hp hq hf hr hg
    go_wp2_with fail
    go_ret
    exact S.out.fin HR.out (S.out.same (.head _))
  refine (skips_f (l := kRec) S.out.rd (by kernel_rfl) (by decide) (by simpa using z)).mono ?_
  rintro e X1 ⟨rfl, hr, hg⟩
  have S := hid (S.out.go hr hg)
  have HR := hid (oi_f HR.out (by simpa using z))
  clear hr hg z
  go_wp2_with fail
  refine (rname_calls _ _ S.out.rd).mono ?_
  intro e X3 hp
  rcases post_x hp with ⟨j, hq, rfl, hg⟩ | ⟨n3, i3, hq, rfl, hr, hg⟩
  · exact ⟨rfl, S.out.err (bi_er HR.out hq) hg⟩
  have G := hid (show i + 1 ≤ i3 by have h1 := G.out; have h2 := name_on hq; omega)
  have S := hid (S.out.go hr hg)
  have HR := hid (bi_ok HR.out hq)
  clear hp hq hr hg
  go_wp2_with fail
  have S := hid (S.out.alloc #[.string n3, .nilIface, .nilIface] 112)
  try rw [show X3.heap.size + 1 = (X3.alloc (.cells #[.string n3, .nilIface, .nilIface] 112)).heap.size by simp]
  obtain ⟨Y4, hY⟩ : ∃ y, X3.alloc (.cells #[.string n3, .nilIface, .nilIface] 112) = y := ⟨_, rfl⟩
  rw [hY] at S ⊢
  obtain ⟨g4, hg⟩ : ∃ g, X3.heap.size = g := ⟨_, rfl⟩
  rw [hg] at S ⊢
  clear hY hg
  refine (must1 _ S.out.rd (l1 := gEq) (by kernel_rfl) (by decide)).mono ?_
  intro e X5 hp
  rcases post_x hp with ⟨j, hq, rfl, hg⟩ | ⟨u, i5, hq, ⟨v, rfl⟩, hr, hg⟩
  · exact ⟨rfl, S.out.err (m1_er HR.out hq) hg⟩
  have HQ := m1_ok HR.out hq
  have G := hid (show i + 2 ≤ i5 by have h1 := G.out; have h2 := HQ.2; omega)
  have S := hid (S.out.go hr hg)
  have HR := hid HQ.1
  clear hp hq hr hg HQ
  go_wp2_with fail
  refine (H.out.2.2.expr _ _ S.out.rd (by have h1 := G.out; have h2 := M.out; have h3 := S.out.rd.lt; unfold mi at h2 ⊢; omega)).mono ?_
  intro e X6 hp
  rcases post_x hp with ⟨j, hq, rfl, hg⟩ | ⟨t6, i6, hq, ⟨T6, p6, rfl, hf⟩, hr, hg⟩
  · exact ⟨rfl, S.out.err (bi_er HR.out hq) hg⟩
  have G := hid (show i + 2 ≤ i6 by have h1 := G.out; have h2 := ip_goes H.out.1 H.out.2.1 f NtR.expr trivial S.out.rd.lt hq; omega)
  have S := hid (S.out.form hr hg hf)
  have HR := hid (bi_ok HR.out hq)
  clear hp hq hf hr hg
  have b := cell_of_heap S.out.box 1
  have z := frozen_of_heap S.out.box 1
  simp at b
  go_wp2_with fail
  have S := hid (S.out.put 1 (.iface T6 p6))
  try rw [put_size X6 g4 1 (.iface T6 p6)]
  obtain ⟨Z7, hZ⟩ : ∃ Z, X6.setCell ⟨g4, 1, none⟩ (.iface T6 p6) = Z := ⟨_, rfl⟩
  rw [hZ] at S ⊢
  clear hZ b z
  refine (must1 _ S.out.rd (l1 := kIn) (by kernel_rfl) (by decide)).mono ?_
  intro e X8 hp
  rcases post_x hp with ⟨j, hq, rfl, hg⟩ | ⟨u, i8, hq, ⟨v, rfl⟩, hr, hg⟩
  · exact ⟨rfl, S.out.err (m1_er HR.out hq) hg⟩
  have HQ := m1_ok HR.out hq
  have G := hid (show i + 3 ≤ i8 by have h1 := G.out; have h2 := HQ.2; omega)
  have S := hid (S.out.go hr hg)
  have HR := hid HQ.1
  clear hp hq hr hg HQ
  go_wp2_with fail
  refine (H.out.2.2.expr _ _ S.out.rd (by have h1 := G.out; have h2 := M.out; have h3 := S.out.rd.lt; unfold mi at h2 ⊢; omega)).mono ?_
  intro e X9 hp
  rcases post_x hp with ⟨j, hq, rfl, hg⟩ | ⟨t9, i9, hq, ⟨T9, p9, rfl, hf⟩, hr, hg⟩
  · exact ⟨rfl, S.out.err (bi_er HR.out hq) hg⟩
  have G := hid (show i + 3 ≤ i9 by have h1 := G.out; have h2 := ip_goes H.out.1 H.out.2.1 f NtR.expr trivial S.out.rd.lt hq; omega)
  have S := hid (S.out.form hr hg hf)
  have HR := hid (bi_ok HR.out hq)
  clear hp hq hf hr hg
  have b0 := cell_of_heap S.out.box 0
  have b1 := cell_of_heap S.out.box 1
  have b2 := cell_of_heap S.out.box 2
  have z := frozen_of_heap S.out.box 2
  simp at b0 b1 b2
  go_wp2_with fail
  have S := hid (S.out.put 2 (.iface T9 p9))
  go_ret
  exact S.out.fin HR.out (S.out.mk2 (.tail _ (.head _)) (.head _) .bind)

set_option maxHeartbeats 8000000 in
set_option maxRecDepth 100000 in
theorem icond_calls (hw : BriefW ws) (ho : WordsOk ws) {f : Nat} (hc : PiAll d ws ad cp sz f) (i : Nat) (W : World) (h : RdAt d ws ad cp sz i W) (hm : mi ws 11 i ≤ f) :
    Calls Tryz.prog 72 #[.pointer (some ⟨d.B, 0, none⟩)] W (PostT d ws ad cp sz (condI ws (ipz ws f) i) W) := by
  obtain ⟨R, hR⟩ : ∃ R, condI ws (ipz ws f) i = R := ⟨_, rfl⟩
  rw [hR]
  have HR := hid hR
  have S := hid (St.start h)
  have H := hid (And.intro hw (And.intro ho hc))
  have M := hid hm
  have G := hid (show i + 0 ≤ i from Nat.le_refl _)
  clear h hm hR hw ho hc
  go_enter Tryz.func72, Tryz.ntmps72
  go_wp2_with fail
  refine (H.out.2.2.expr _ _ S.out.rd (by have h1 := G.out; have h2 := M.out; have h3 := S.out.rd.lt; unfold mi at h2 ⊢; omega)).mono ?_
  intro e X1 hp
  rcases post_x hp with ⟨j, hq, rfl, hg⟩ | ⟨t1, i1, hq, ⟨T1, p1, rfl, hf⟩, hr, hg⟩
  · exact ⟨rfl, S.out.err (bi_er HR.out hq) hg⟩
  have G := hid (show i + 0 ≤ i1 by have h1 := G.out; have h2 := ip_goes H.out.1 H.out.2.1 f NtR.expr trivial S.out.rd.lt hq; omega)
  have S := hid (S.out.form hr hg hf)
  have HR := hid (bi_ok HR.out hq)
  clear hp hq hf hr hg
  go_wp2_with fail
  have S := hid (S.out.alloc #[.iface T1 p1, .nilIface, .nilIface] 114)
  try rw [show X1.heap.size + 1 = (X1.alloc (.cells #[.iface T1 p1, .nilIface, .nilIface] 114)).heap.size by simp]
  obtain ⟨Y2, hY⟩ : ∃ y, X1.alloc (.cells #[.iface T1 p1, .nilIface, .nilIface] 114) = y := ⟨_, rfl⟩
  rw [hY] at S ⊢
  obtain ⟨g2, hg⟩ : ∃ g, X1.heap.size = g := ⟨_, rfl⟩
  rw [hg] at S ⊢
  clear hY hg
  refine (must1 _ S.out.rd (l1 := kThen) (by kernel_rfl) (by decide)).mono ?_
  intro e X3 hp
  rcases post_x hp with ⟨j, hq, rfl, hg⟩ | ⟨u, i3, hq, ⟨v, rfl⟩, hr, hg⟩
  · exact ⟨rfl, S.out.err (m1_er HR.out hq) hg⟩
  have HQ := m1_ok HR.out hq
  have G := hid (show i + 1 ≤ i3 by have h1 := G.out; have h2 := HQ.2; omega)
  have S := hid (S.out.go hr hg)
  have HR := hid HQ.1
  clear hp hq hr hg HQ
  go_wp2_with fail
  refine (H.out.2.2.expr _ _ S.out.rd (by have h1 := G.out; have h2 := M.out; have h3 := S.out.rd.lt; unfold mi at h2 ⊢; omega)).mono ?_
  intro e X4 hp
  rcases post_x hp with ⟨j, hq, rfl, hg⟩ | ⟨t4, i4, hq, ⟨T4, p4, rfl, hf⟩, hr, hg⟩
  · exact ⟨rfl, S.out.err (bi_er HR.out hq) hg⟩
  have G := hid (show i + 1 ≤ i4 by have h1 := G.out; have h2 := ip_goes H.out.1 H.out.2.1 f NtR.expr trivial S.out.rd.lt hq; omega)
  have S := hid (S.out.form hr hg hf)
  have HR := hid (bi_ok HR.out hq)
  clear hp hq hf hr hg
  have b := cell_of_heap S.out.box 1
  have z := frozen_of_heap S.out.box 1
  simp at b
  go_wp2_with fail
  have S := hid (S.out.put 1 (.iface T4 p4))
  try rw [put_size X4 g2 1 (.iface T4 p4)]
  obtain ⟨Z5, hZ⟩ : ∃ Z, X4.setCell ⟨g2, 1, none⟩ (.iface T4 p4) = Z := ⟨_, rfl⟩
  rw [hZ] at S ⊢
  clear hZ b z
  refine (must1 _ S.out.rd (l1 := kElse) (by kernel_rfl) (by decide)).mono ?_
  intro e X6 hp
  rcases post_x hp with ⟨j, hq, rfl, hg⟩ | ⟨u, i6, hq, ⟨v, rfl⟩, hr, hg⟩
  · exact ⟨rfl, S.out.err (m1_er HR.out hq) hg⟩
  have HQ := m1_ok HR.out hq
  have G := hid (show i + 2 ≤ i6 by have h1 := G.out; have h2 := HQ.2; omega)
  have S := hid (S.out.go hr hg)
  have HR := hid HQ.1
  clear hp hq hr hg HQ
  go_wp2_with fail
  refine (H.out.2.2.expr _ _ S.out.rd (by have h1 := G.out; have h2 := M.out; have h3 := S.out.rd.lt; unfold mi at h2 ⊢; omega)).mono ?_
  intro e X7 hp
  rcases post_x hp with ⟨j, hq, rfl, hg⟩ | ⟨t7, i7, hq, ⟨T7, p7, rfl, hf⟩, hr, hg⟩
  · exact ⟨rfl, S.out.err (bi_er HR.out hq) hg⟩
  have G := hid (show i + 2 ≤ i7 by have h1 := G.out; have h2 := ip_goes H.out.1 H.out.2.1 f NtR.expr trivial S.out.rd.lt hq; omega)
  have S := hid (S.out.form hr hg hf)
  have HR := hid (bi_ok HR.out hq)
  clear hp hq hf hr hg
  have b0 := cell_of_heap S.out.box 0
  have b1 := cell_of_heap S.out.box 1
  have b2 := cell_of_heap S.out.box 2
  have z := frozen_of_heap S.out.box 2
  simp at b0 b1 b2
  go_wp2_with fail
  have S := hid (S.out.put 2 (.iface T7 p7))
  go_ret
  exact S.out.fin HR.out (S.out.mk3 (.tail _ (.tail _ (.head _))) (.tail _ (.head _)) (.head _) .cond)

set_option maxHeartbeats 8000000 in
set_option maxRecDepth 100000 in
theorem icase_calls (hw : BriefW ws) (ho : WordsOk ws) {f : Nat} (hc : PiAll d ws ad cp sz f) (i : Nat) (W : World) (h : RdAt d ws ad cp sz i W) (hm : mi ws 11 i ≤ f) :
    Calls Tryz.prog 73 #[.pointer (some ⟨d.B, 0, none⟩)] W (PostT d ws ad cp sz (caseI ws (ipz ws f) i) W) := by
  obtain ⟨R, hR⟩ : ∃ R, caseI ws (ipz ws f) i = R := ⟨_, rfl⟩
  rw [hR]
  have HR := hid hR
  have S := hid (St.start h)
  have H := hid (And.intro hw (And.intro ho hc))
  have M := hid hm
  have G := hid (show i + 0 ≤ i from Nat.le_refl _)
  clear h hm hR hw ho hc
  go_enter Tryz.func73, Tryz.ntmps73
  go_wp2_with fail
  refine (H.out.2.2.expr _ _ S.out.rd (by have h1 := G.out; have h2 := M.out; have h3 := S.out.rd.lt; unfold mi at h2 ⊢; omega)).mono ?_
  intro e X1 hp
  rcases post_x hp with ⟨j, hq, rfl, hg⟩ | ⟨t1, i1, hq, ⟨T1, p1, rfl, hf⟩, hr, hg⟩
  · exact ⟨rfl, S.out.err (bi_er HR.out hq) hg⟩
  have G := hid (show i + 0 ≤ i1 by have h1 := G.out; have h2 := ip_goes H.out.1 H.out.2.1 f NtR.expr trivial S.out.rd.lt hq; omega)
  have S := hid (S.out.form hr hg hf)
  have HR := hid (bi_ok HR.out hq)
  clear hp hq hf hr hg
  go_wp2_with fail
  have S := hid (S.out.alloc #[.iface T1 p1, .nilIface, .string ⟨#[]⟩, .string ⟨#[]⟩, .nilIface] 116)
  try rw [show X1.heap.size + 1 = (X1.alloc (.cells #[.iface T1 p1, .nilIface, .string ⟨#[]⟩, .string ⟨#[]⟩, .nilIface] 116)).heap.size by simp]
  obtain ⟨Y2, hY⟩ : ∃ y, X1.alloc (.cells #[.iface T1 p1, .nilIface, .string ⟨#[]⟩, .string ⟨#[]⟩, .nilIface] 116) = y := ⟨_, rfl⟩
  rw [hY] at S ⊢
  obtain ⟨g2, hg⟩ : ∃ g, X1.heap.size = g := ⟨_, rfl⟩
  rw [hg] at S ⊢
  clear hY hg
  refine (must3 _ _ _ S.out.rd (l1 := kOf) (l2 := kNil) (l3 := gTo) (by kernel_rfl) (by decide) (by kernel_rfl) (by decide) (by kernel_rfl) (by decide)).mono ?_
  intro e X3 hp
  rcases post_x hp with ⟨j, hq, rfl, hg⟩ | ⟨u, i3, hq, ⟨v, rfl⟩, hr, hg⟩
  · exact ⟨rfl, S.out.err (m3_er HR.out hq) hg⟩
  have HQ := m3_ok HR.out hq
  have G := hid (show i + 3 ≤ i3 by have h1 := G.out; have h2 := HQ.2; omega)
  have S := hid (S.out.go hr hg)
  have HR := hid HQ.1
  clear hp hq hr hg HQ
  go_wp2_with fail
  refine (H.out.2.2.expr _ _ S.out.rd (by have h1 := G.out; have h2 := M.out; have h3 := S.out.rd.lt; unfold mi at h2 ⊢; omega)).mono ?_
  intro e X4 hp
  rcases post_x hp with ⟨j, hq, rfl, hg⟩ | ⟨t4, i4, hq, ⟨T4, p4, rfl, hf⟩, hr, hg⟩
  · exact ⟨rfl, S.out.err (bi_er HR.out hq) hg⟩
  have G := hid (show i + 3 ≤ i4 by have h1 := G.out; have h2 := ip_goes H.out.1 H.out.2.1 f NtR.expr trivial S.out.rd.lt hq; omega)
  have S := hid (S.out.form hr hg hf)
  have HR := hid (bi_ok HR.out hq)
  clear hp hq hf hr hg
  have b := cell_of_heap S.out.box 1
  have z := frozen_of_heap S.out.box 1
  simp at b
  go_wp2_with fail
  have S := hid (S.out.put 1 (.iface T4 p4))
  try rw [put_size X4 g2 1 (.iface T4 p4)]
  obtain ⟨Z5, hZ⟩ : ∃ Z, X4.setCell ⟨g2, 1, none⟩ (.iface T4 p4) = Z := ⟨_, rfl⟩
  rw [hZ] at S ⊢
  clear hZ b z
  refine (must1 _ S.out.rd (l1 := gBar) (by kernel_rfl) (by decide)).mono ?_
  intro e X6 hp
  rcases post_x hp with ⟨j, hq, rfl, hg⟩ | ⟨u, i6, hq, ⟨v, rfl⟩, hr, hg⟩
  · exact ⟨rfl, S.out.err (m1_er HR.out hq) hg⟩
  have HQ := m1_ok HR.out hq
  have G := hid (show i + 4 ≤ i6 by have h1 := G.out; have h2 := HQ.2; omega)
  have S := hid (S.out.go hr hg)
  have HR := hid HQ.1
  clear hp hq hr hg HQ
  go_wp2_with fail
  refine (rname_calls _ _ S.out.rd).mono ?_
  intro e X7 hp
  rcases post_x hp with ⟨j, hq, rfl, hg⟩ | ⟨n7, i7, hq, rfl, hr, hg⟩
  · exact ⟨rfl, S.out.err (bi_er HR.out hq) hg⟩
  have G := hid (show i + 5 ≤ i7 by have h1 := G.out; have h2 := name_on hq; omega)
  have S := hid (S.out.go hr hg)
  have HR := hid (bi_ok HR.out hq)
  clear hp hq hr hg
  have b := cell_of_heap S.out.box 2
  have z := frozen_of_heap S.out.box 2
  simp at b
  go_wp2_with fail
  have S := hid (S.out.put 2 (.string n7))
  try rw [put_size X7 g2 2 (.string n7)]
  obtain ⟨Z8, hZ⟩ : ∃ Z, X7.setCell ⟨g2, 2, none⟩ (.string n7) = Z := ⟨_, rfl⟩
  rw [hZ] at S ⊢
  clear hZ b z
  refine (must1 _ S.out.rd (l1 := gCons) (by kernel_rfl) (by decide)).mono ?_
  intro e X9 hp
  rcases post_x hp with ⟨j, hq, rfl, hg⟩ | ⟨u, i9, hq, ⟨v, rfl⟩, hr, hg⟩
  · exact ⟨rfl, S.out.err (m1_er HR.out hq) hg⟩
  have HQ := m1_ok HR.out hq
  have G := hid (show i + 6 ≤ i9 by have h1 := G.out; have h2 := HQ.2; omega)
  have S := hid (S.out.go hr hg)
  have HR := hid HQ.1
  clear hp hq hr hg HQ
  go_wp2_with fail
  refine (rname_calls _ _ S.out.rd).mono ?_
  intro e X10 hp
  rcases post_x hp with ⟨j, hq, rfl, hg⟩ | ⟨n10, i10, hq, rfl, hr, hg⟩
  · exact ⟨rfl, S.out.err (bi_er HR.out hq) hg⟩
  have G := hid (show i + 7 ≤ i10 by have h1 := G.out; have h2 := name_on hq; omega)
  have S := hid (S.out.go hr hg)
  have HR := hid (bi_ok HR.out hq)
  clear hp hq hr hg
  have b := cell_of_heap S.out.box 3
  have z := frozen_of_heap S.out.box 3
  simp at b
  go_wp2_with fail
  have S := hid (S.out.put 3 (.string n10))
  try rw [put_size X10 g2 3 (.string n10)]
  obtain ⟨Z11, hZ⟩ : ∃ Z, X10.setCell ⟨g2, 3, none⟩ (.string n10) = Z := ⟨_, rfl⟩
  rw [hZ] at S ⊢
  clear hZ b z
  refine (must1 _ S.out.rd (l1 := gTo) (by kernel_rfl) (by decide)).mono ?_
  intro e X12 hp
  rcases post_x hp with ⟨j, hq, rfl, hg⟩ | ⟨u, i12, hq, ⟨v, rfl⟩, hr, hg⟩
  · exact ⟨rfl, S.out.err (m1_er HR.out hq) hg⟩
  have HQ := m1_ok HR.out hq
  have G := hid (show i + 8 ≤ i12 by have h1 := G.out; have h2 := HQ.2; omega)
  have S := hid (S.out.go hr hg)
  have HR := hid HQ.1
  clear hp hq hr hg HQ
  go_wp2_with fail
  refine (H.out.2.2.expr _ _ S.out.rd (by have h1 := G.out; have h2 := M.out; have h3 := S.out.rd.lt; unfold mi at h2 ⊢; omega)).mono ?_
  intro e X13 hp
  rcases post_x hp with ⟨j, hq, rfl, hg⟩ | ⟨t13, i13, hq, ⟨T13, p13, rfl, hf⟩, hr, hg⟩
  · exact ⟨rfl, S.out.err (bi_er HR.out hq) hg⟩
  have G := hid (show i + 8 ≤ i13 by have h1 := G.out; have h2 := ip_goes H.out.1 H.out.2.1 f NtR.expr trivial S.out.rd.lt hq; omega)
  have S := hid (S.out.form hr hg hf)
  have HR := hid (bi_ok HR.out hq)
  clear hp hq hf hr hg
  have b0 := cell_of_heap S.out.box 0
  have b1 := cell_of_heap S.out.box 1
  have b2 := cell_of_heap S.out.box 2
  have b3 := cell_of_heap S.out.box 3
  have b4 := cell_of_heap S.out.box 4
  have z := frozen_of_heap S.out.box 4
  simp at b0 b1 b2 b3 b4
  go_wp2_with fail
  have S := hid (S.out.put 4 (.iface T13 p13))
  go_ret
  exact S.out.fin HR.out (S.out.mk3 (.tail _ (.tail _ (.head _))) (.tail _ (.head _)) (.head _) .case)

set_option maxHeartbeats 8000000 in
set_option maxRecDepth 100000 in
theorem iexpr_calls (hw : BriefW ws) (ho : WordsOk ws) {f : Nat} (hc : PiAll d ws ad cp sz f) (i : Nat) (W : World) (h : RdAt d ws ad cp sz i W) (hm : mi ws 11 i ≤ f + 1) :
    Calls Tryz.prog 42 #[.pointer (some ⟨d.B, 0, none⟩)] W (PostT d ws ad cp sz (ipz ws (f + 1) .expr i) W) := by
  obtain ⟨R, hR⟩ : ∃ R, ipz ws (f + 1) .expr i = R := ⟨_, rfl⟩
  rw [hR]
  have HR := hid (show exprI ws (ipz ws f) i = R from hR)
  have S := hid (St.start h)
  have H := hid (And.intro hw (And.intro ho hc))
  have M := hid hm
  have G := hid (show i + 0 ≤ i from Nat.le_refl _)
  clear h hm hR hw ho hc
  go_enter Tryz.func42, Tryz.ntmps42
  go_wp2_with fail
  by_cases z : seesI ws i kLet = true
  · refine (skips_t S.out.rd (by kernel_rfl) (by decide) z).mono ?_
    rintro e X1 ⟨rfl, hr, hg⟩
    have S := hid (S.out.go hr hg)
    have HR := hid (oi_t HR.out z)
    have G := hid (show i + 1 ≤ i + 1 by have := G.out; omega)
    clear hr hg z
    go_wp2_with fail
    refine (ilet_calls H.out.1 H.out.2.1 H.out.2.2 _ _ S.out.rd (by have h1 := G.out; have h2 := M.out; have h3 := S.out.rd.lt; unfold mi at h2 ⊢; omega)).mono ?_
    intro e X2 hp
    rcases post_x hp with ⟨j, hq, rfl, hg⟩ | ⟨t2, i2, hq, ⟨T2, p2, rfl, hf⟩, hr, hg⟩
    · exact ⟨rfl, S.out.err (hq.symm.trans HR.out) hg⟩
    have S := hid (S.out.form hr hg hf)
    have HR := hid (hq.symm.trans HR.out)
    clear hp hq hf hr hg
    go_wp2_with fail
    go_ret
    exact S.out.fin HR.out (S.out.same (.head _))
  refine (skips_f (l := kLet) S.out.rd (by kernel_rfl) (by decide) (by simpa using z)).mono ?_
  rintro e X1 ⟨rfl, hr, hg⟩
  have S := hid (S.out.go hr hg)
  have HR := hid (oi_f HR.out (by simpa using z))
  clear hr hg z
  go_wp2_with fail
  by_cases z : seesI ws i kIf = true
  · refine (skips_t S.out.rd (by kernel_rfl) (by decide) z).mono ?_
    rintro e X3 ⟨rfl, hr, hg⟩
    have S := hid (S.out.go hr hg)
    have HR := hid (oi_t HR.out z)
    have G := hid (show i + 1 ≤ i + 1 by have := G.out; omega)
    clear hr hg z
    go_wp2_with fail
    refine (icond_calls H.out.1 H.out.2.1 H.out.2.2 _ _ S.out.rd (by have h1 := G.out; have h2 := M.out; have h3 := S.out.rd.lt; unfold mi at h2 ⊢; omega)).mono ?_
    intro e X4 hp
    rcases post_x hp with ⟨j, hq, rfl, hg⟩ | ⟨t4, i4, hq, ⟨T4, p4, rfl, hf⟩, hr, hg⟩
    · exact ⟨rfl, S.out.err (hq.symm.trans HR.out) hg⟩
    have S := hid (S.out.form hr hg hf)
    have HR := hid (hq.symm.trans HR.out)
    clear hp hq hf hr hg
    go_wp2_with fail
    go_ret
    exact S.out.fin HR.out (S.out.same (.head _))
  refine (skips_f (l := kIf) S.out.rd (by kernel_rfl) (by decide) (by simpa using z)).mono ?_
  rintro e X3 ⟨rfl, hr, hg⟩
  have S := hid (S.out.go hr hg)
  have HR := hid (oi_f HR.out (by simpa using z))
  clear hr hg z
  go_wp2_with fail
  by_cases z : seesI ws i kFn = true
  · refine (skips_t S.out.rd (by kernel_rfl) (by decide) z).mono ?_
    rintro e X5 ⟨rfl, hr, hg⟩
    have S := hid (S.out.go hr hg)
    have HR := hid (oi_t HR.out z)
    have G := hid (show i + 1 ≤ i + 1 by have := G.out; omega)
    clear hr hg z
    go_wp2_with fail
    refine (rname_calls _ _ S.out.rd).mono ?_
    intro e X6 hp
    rcases post_x hp with ⟨j, hq, rfl, hg⟩ | ⟨n6, i6, hq, rfl, hr, hg⟩
    · exact ⟨rfl, S.out.err (bi_er HR.out hq) hg⟩
    have G := hid (show i + 2 ≤ i6 by have h1 := G.out; have h2 := name_on hq; omega)
    have S := hid (S.out.go hr hg)
    have HR := hid (bi_ok HR.out hq)
    clear hp hq hr hg
    go_wp2_with fail
    have S := hid (S.out.alloc #[.string n6, .nilIface] 98)
    try rw [show X6.heap.size + 1 = (X6.alloc (.cells #[.string n6, .nilIface] 98)).heap.size by simp]
    obtain ⟨Y7, hY⟩ : ∃ y, X6.alloc (.cells #[.string n6, .nilIface] 98) = y := ⟨_, rfl⟩
    rw [hY] at S ⊢
    obtain ⟨g7, hg⟩ : ∃ g, X6.heap.size = g := ⟨_, rfl⟩
    rw [hg] at S ⊢
    clear hY hg
    refine (must1 _ S.out.rd (l1 := gTo) (by kernel_rfl) (by decide)).mono ?_
    intro e X8 hp
    rcases post_x hp with ⟨j, hq, rfl, hg⟩ | ⟨u, i8, hq, ⟨v, rfl⟩, hr, hg⟩
    · exact ⟨rfl, S.out.err (m1_er HR.out hq) hg⟩
    have HQ := m1_ok HR.out hq
    have G := hid (show i + 3 ≤ i8 by have h1 := G.out; have h2 := HQ.2; omega)
    have S := hid (S.out.go hr hg)
    have HR := hid HQ.1
    clear hp hq hr hg HQ
    go_wp2_with fail
    refine (H.out.2.2.expr _ _ S.out.rd (by have h1 := G.out; have h2 := M.out; have h3 := S.out.rd.lt; unfold mi at h2 ⊢; omega)).mono ?_
    intro e X9 hp
    rcases post_x hp with ⟨j, hq, rfl, hg⟩ | ⟨t9, i9, hq, ⟨T9, p9, rfl, hf⟩, hr, hg⟩
    · exact ⟨rfl, S.out.err (bi_er HR.out hq) hg⟩
    have G := hid (show i + 3 ≤ i9 by have h1 := G.out; have h2 := ip_goes H.out.1 H.out.2.1 f NtR.expr trivial S.out.rd.lt hq; omega)
    have S := hid (S.out.form hr hg hf)
    have HR := hid (bi_ok HR.out hq)
    clear hp hq hf hr hg
    have b0 := cell_of_heap S.out.box 0
    have b1 := cell_of_heap S.out.box 1
    have z := frozen_of_heap S.out.box 1
    simp at b0 b1
    go_wp2_with fail
    have S := hid (S.out.put 1 (.iface T9 p9))
    go_ret
    exact S.out.fin HR.out (S.out.mk1 (.head _) .fn)
  refine (skips_f (l := kFn) S.out.rd (by kernel_rfl) (by decide) (by simpa using z)).mono ?_
  rintro e X5 ⟨rfl, hr, hg⟩
  have S := hid (S.out.go hr hg)
  have HR := hid (oi_f HR.out (by simpa using z))
  clear hr hg z
  go_wp2_with fail
  by_cases z : seesI ws i kCase = true
  · refine (skips_t S.out.rd (by kernel_rfl) (by decide) z).mono ?_
    rintro e X10 ⟨rfl, hr, hg⟩
    have S := hid (S.out.go hr hg)
    have HR := hid (oi_t HR.out z)
    have G := hid (show i + 1 ≤ i + 1 by have := G.out; omega)
    clear hr hg z
    go_wp2_with fail
    refine (icase_calls H.out.1 H.out.2.1 H.out.2.2 _ _ S.out.rd (by have h1 := G.out; have h2 := M.out; have h3 := S.out.rd.lt; unfold mi at h2 ⊢; omega)).mono ?_
    intro e X11 hp
    rcases post_x hp with ⟨j, hq, rfl, hg⟩ | ⟨t11, i11, hq, ⟨T11, p11, rfl, hf⟩, hr, hg⟩
    · exact ⟨rfl, S.out.err (hq.symm.trans HR.out) hg⟩
    have S := hid (S.out.form hr hg hf)
    have HR := hid (hq.symm.trans HR.out)
    clear hp hq hf hr hg
    go_wp2_with fail
    go_ret
    exact S.out.fin HR.out (S.out.same (.head _))
  refine (skips_f (l := kCase) S.out.rd (by kernel_rfl) (by decide) (by simpa using z)).mono ?_
  rintro e X10 ⟨rfl, hr, hg⟩
  have S := hid (S.out.go hr hg)
  have HR := hid (oi_f HR.out (by simpa using z))
  clear hr hg z
  go_wp2_with fail
  refine (H.out.2.2.cons _ _ S.out.rd (by have h1 := G.out; have h2 := M.out; have h3 := S.out.rd.lt; unfold mi at h2 ⊢; omega)).mono ?_
  intro e X12 hp
  rcases post_x hp with ⟨j, hq, rfl, hg⟩ | ⟨t12, i12, hq, ⟨T12, p12, rfl, hf⟩, hr, hg⟩
  · exact ⟨rfl, S.out.err (hq.symm.trans HR.out) hg⟩
  have G := hid (show i + 0 ≤ i12 by have h1 := G.out; have h2 := ip_goes H.out.1 H.out.2.1 f NtR.cons trivial S.out.rd.lt hq; omega)
  have S := hid (S.out.form hr hg hf)
  have HR := hid (hq.symm.trans HR.out)
  clear hp hq hf hr hg
  go_wp2_with fail
  go_ret
  exact S.out.fin HR.out (S.out.same (.head _))

set_option maxHeartbeats 8000000 in
set_option maxRecDepth 100000 in
theorem icons_calls (hw : BriefW ws) (ho : WordsOk ws) {f : Nat} (hc : PiAll d ws ad cp sz f) (i : Nat) (W : World) (h : RdAt d ws ad cp sz i W) (hm : mi ws 10 i ≤ f + 1) :
    Calls Tryz.prog 74 #[.pointer (some ⟨d.B, 0, none⟩)] W (PostT d ws ad cp sz (ipz ws (f + 1) .cons i) W) := by
  obtain ⟨R, hR⟩ : ∃ R, ipz ws (f + 1) .cons i = R := ⟨_, rfl⟩
  rw [hR]
  have HR := hid (show consI ws (ipz ws f) i = R from hR)
  have S := hid (St.start h)
  have H := hid (And.intro hw (And.intro ho hc))
  have M := hid hm
  have G := hid (show i + 0 ≤ i from Nat.le_refl _)
  clear h hm hR hw ho hc
  go_enter Tryz.func74, Tryz.ntmps74
  go_wp2_with fail
  refine (H.out.2.2.comp _ _ S.out.rd (by have h1 := G.out; have h2 := M.out; have h3 := S.out.rd.lt; unfold mi at h2 ⊢; omega)).mono ?_
  intro e X1 hp
  rcases post_x hp with ⟨j, hq, rfl, hg⟩ | ⟨t1, i1, hq, ⟨T1, p1, rfl, hf⟩, hr, hg⟩
  · exact ⟨rfl, S.out.err (bi_er HR.out hq) hg⟩
  have G := hid (show i + 0 ≤ i1 by have h1 := G.out; have h2 := ip_goes H.out.1 H.out.2.1 f NtR.comp trivial S.out.rd.lt hq; omega)
  have S := hid (S.out.form hr hg hf)
  have HR := hid (bi_ok HR.out hq)
  clear hp hq hf hr hg
  go_wp2_with fail
  by_cases z : seesI ws i1 gCons = true
  · refine (skips_t S.out.rd (by kernel_rfl) (by decide) z).mono ?_
    rintro e X2 ⟨rfl, hr, hg⟩
    have S := hid (S.out.go hr hg)
    have HR := hid (oi_t HR.out z)
    have G := hid (show i + 1 ≤ i1 + 1 by have := G.out; omega)
    clear hr hg z
    go_wp2_with fail
    refine (H.out.2.2.cons _ _ S.out.rd (by have h1 := G.out; have h2 := M.out; have h3 := S.out.rd.lt; unfold mi at h2 ⊢; omega)).mono ?_
    intro e X3 hp
    rcases post_x hp with ⟨j, hq, rfl, hg⟩ | ⟨t3, i3, hq, ⟨T3, p3, rfl, hf⟩, hr, hg⟩
    · exact ⟨rfl, S.out.err (bi_er HR.out hq) hg⟩
    have G := hid (show i + 1 ≤ i3 by have h1 := G.out; have h2 := ip_goes H.out.1 H.out.2.1 f NtR.cons trivial S.out.rd.lt hq; omega)
    have S := hid (S.out.form hr hg hf)
    have HR := hid (bi_ok HR.out hq)
    clear hp hq hf hr hg
    go_wp2_with fail
    go_ret
    exact S.out.fin HR.out (S.out.mk2 (.tail _ (.head _)) (.head _) .cons)
  refine (skips_f (l := gCons) S.out.rd (by kernel_rfl) (by decide) (by simpa using z)).mono ?_
  rintro e X2 ⟨rfl, hr, hg⟩
  have S := hid (S.out.go hr hg)
  have HR := hid (oi_f HR.out (by simpa using z))
  clear hr hg z
  go_wp2_with fail
  go_ret
  exact S.out.fin HR.out (S.out.same (.head _))

end
end Go.Proofs.YtkdipppeljpgmaaGreatDoor
