/- The program's own TreePlain and TreeFree, by the namer's walk. -/
import Derived.Test.YtlhdicichdihfaaGreatDoorNameWalkB
import Derived.Test.YtlhdicichdihfaaGreatDoorFreePure
import Derived.Test.YtlhdicichdihfaaGreatDoorImplTree
import Derived.Sort.OwnSorted
namespace Go.Proofs.YtlhdicichdihfaaGreatDoor
open Go.RowKit Go.Deep

theorem empty_of {s : ByteArray} (h : (s.toList == []) = true) : s = ⟨#[]⟩ := by
  have h1 : s.toList = [] := by simpa using h
  rw [ByteArray.toList_eq] at h1
  obtain ⟨d⟩ := s
  congr
  exact Array.toList_eq_nil_iff.1 h1

theorem fit_same {nm : Int} {i : Nat} {s : ByteArray} (h : fit nm i s = true) : (if (i : Int) + 1 ≤ nm then s else ⟨#[]⟩) = s := by
  unfold fit at h
  split at h
  · rw [if_pos (by omega)]
  · rw [if_neg (by omega), empty_of h]

theorem fit_size {nm : Int} {i : Nat} {s : ByteArray} (h : fit nm i s = true) : s.size ≤ 8 := by
  unfold fit at h
  split at h
  · simp only [nameOk, Bool.and_eq_true, decide_eq_true_eq] at h
    exact h.1.1.2
  · rw [empty_of h]
    exact Nat.zero_le _

/-- A node that is as its kind asks is what its form keeps of it. -/
theorem whole_of {m : Nd} (h : nodeOkZ m = true) : Whole m := by
  simp only [nodeOkZ, ownOk, namesOk, Bool.and_eq_true] at h
  obtain ⟨⟨-, ⟨ha, hb, hc⟩, -, hnum⟩, -⟩ := h
  have e1 := fit_same ha
  have e2 := fit_same hb
  have e3 := fit_same hc
  simp only [Int.natCast_zero, Int.zero_add] at e1
  rw [show ((1 : Nat) : Int) + 1 = 2 from rfl] at e2
  rw [show ((2 : Nat) : Int) + 1 = 3 from rfl] at e3
  have e4 : (if m.kind = 1 ∨ m.kind = 2 then m.num else 0) = m.num := by
    split
    · rfl
    · have h2 := of_decide_eq_true hnum
      rw [most_other (by omega) (by omega)] at h2
      omega
  have e5 := fit_size ha
  refine ⟨?_, by omega⟩
  unfold bareZ
  rw [e1, e2, e3, e4]

theorem own_base {W : World} {B B' : Nat} {e : TypeId} {sz : Nat} {v : Value} {n : Nat} {xs : List Value} (h : W.ownsRow B e sz v n xs) (hB : B' ≤ B) : W.ownsRow B' e sz v n xs := by
  obtain ⟨h0, ⟨rfl, h1⟩ | ⟨g, cap, cur, rfl, hb, hr⟩⟩ := h
  · exact ⟨h0, Or.inl ⟨rfl, h1⟩⟩
  · exact ⟨h0, Or.inr ⟨g, cap, cur, rfl, Nat.le_trans hB hb, hr⟩⟩

/-- The namer ahead of its walk. -/
theorem nms_start {w2 W0 : World} (hb : Below (w2.alloc (.cells #[.slice none 0 0, .slice none 0 0, .int .i64 0] 45)).heap.size (w2.alloc (.cells #[.slice none 0 0, .slice none 0 0, .int .i64 0] 45)) W0) : Nms W0 w2.heap.size ⟨[], [], 0⟩ (.slice none 0 0) (.slice none 0 0) W0 := by
  have h := (one_kept hb).1
  exact ⟨h, World.ownsRow_nil _ _ _ _, World.ownsRow_nil _ _ _ _, rfl, rfl, rfl, Nat.le_refl _, fun _ _ _ => rfl, heap_lt h⟩

theorem room_start {c : Nat} (h : c ≤ 300) : Room (c + 1) ⟨[], [], 0⟩ := ⟨by simp; omega, by simp; omega, by simp; omega⟩

theorem nms_below {w W0 : World} {Nb : Nat} {s : Wst} {vp vf : Value} {W : World} (h : Below w.heap.size w W0) (hN : w.heap.size ≤ Nb) (n : Nms W0 Nb s vp vf W) : Below w.heap.size w W :=
  ⟨n.os.trans h.os, n.tape.trans h.tape, n.output.trans h.output, Nat.le_trans h.size n.size, fun q hq => (n.kept q (Nat.lt_of_lt_of_le hq h.size) (by omega)).trans (h.block q hq)⟩

/-- What the walk over a whole tree finds. -/
def wholeW (n : Nd) (k : Fo) : Wst := walkW n k [] ⟨[], [], 0⟩

def plainOf (s : Wst) : List Nd := if s.free = [] then s.plain else []

def textsOf (ss : List ByteArray) : List Tx := ss.map fun s => s.data.toList

def freeOf (s : Wst) : List Tx := (textsOf s.free).foldl addL []

theorem strRow_texts (ss : List ByteArray) : strRow ss = (textsOf ss).map encStr := by
  unfold strRow textsOf
  rw [List.map_map]
  rfl

/-- Less of a row that was written. -/
theorem own_less {w : World} {base g cap q : Nat} {e : TypeId} {cur : Array Value} {ts rs : List Tx} (hbase : base ≤ g) (hb : w.heap[g]? = some (.cells cur e (0, 0))) (h1 : (ts ++ rs).length ≤ cap) (h2 : cap ≤ maxLen) (h3 : cur.size = cap * 1) :
    (Sort.putRow encStr (Sort.ahead w q) g 0 (ts ++ rs).toArray).ownsRow base e 1 (.slice (some ⟨g, 0, none⟩) ts.length cap) ts.length (ts.map encStr) := by
  have hh := heap_sorted (n := q) (os := #[]) (ts ++ rs).toArray hb
  rw [Sort.grow_empty] at hh
  rw [List.length_append] at h1
  refine ⟨by simp, .inr ⟨g, cap, _, rfl, hbase, hh, by omega, h2, by simp [Sort.putCells, h3], ?_⟩⟩
  have ht := take_putCells cur (ts ++ rs) (by rw [List.length_append]; omega)
  rw [Nat.mul_one]
  have e2 := congrArg (List.take ts.length) ht
  rw [List.take_take, List.length_append, Nat.min_eq_left (by omega), List.map_append, List.take_left' (by simp)] at e2
  exact e2

theorem compactUpTo_len (d : Array Tx) : ∀ m, (Lib.compactUpTo d m).length ≤ m := fun m => by
  unfold Lib.compactUpTo
  rw [List.length_map]
  exact Nat.le_trans (List.length_filter_le _ _) (by simp)

theorem compact_len (l : List Tx) : (Lib.compact l).length ≤ l.length := compactUpTo_len _ _

set_option maxHeartbeats 4000000 in
set_option maxRecDepth 100000 in
theorem implPlain_calls {b off cap : Nat} {ns : List Nd} {n : Nd} {k : Fo} (w : World) (hm : ns.length ≤ 300) (hbw : b < w.heap.size) (hn : NodesAt w b off ns) (hs : Short ns) (hA : ImplAns ns true) (hall : ns.all nodeOkZ = true) (h1 : ns = n :: k.flat) (h2 : n.kids = k.count) (h3 : k.wf) (hL : Laid w) :
    Calls Tryz.prog 8 #[.slice (some ⟨b, off, none⟩) ns.length cap] w fun e w' => ∃ v, e = .returned v ∧ Below w.heap.size w w' ∧ w'.ownsRow w.heap.size 42 6 v (plainOf (wholeW n k)).length (ndRow (plainOf (wholeW n k))) := by
  have hfit : ∀ m ∈ ns, Fits m m.kids.toNat := fun m hm => by
    have := List.all_eq_true.1 hall m hm
    simp only [nodeOkZ, Bool.and_eq_true] at this
    exact fits_of_own this.1
  have hwh : ∀ m ∈ n :: k.flat, Whole m := fun m hm => whole_of (List.all_eq_true.1 hall m (by rw [h1]; exact hm))
  have hkl : k.flat.length ≤ 300 := by rw [h1, List.length_cons] at hm; omega
  have HT := hid (implTree_calls b off cap ns w true (by omega) hbw hn hs hA)
  have HG := hid (fun X hb h => formOfTree_calls b off cap ns n k X hm hfit hb h h1 h2 h3)
  have HW := hid (fun (W0 : World) (Nb BF : Nat) (us : List Value) (v : Value) (hL : Laid W0) (h0 : Nb ≠ 0) (hNF : Nb < BF) (hF : Forms BF W0 k us) (hS : Shape BF W0 n us v) (st : Nms W0 Nb ⟨[], [], 0⟩ (.slice none 0 0) (.slice none 0 0) W0) => walk_calls hL h0 hNF (k.flat.length + 1) n k us v none [] _ _ _ W0 hF hS h2 h3 hwh (Nat.lt_succ_self _) hkl st (room_start hkl) rfl)
  have HN := hid hn
  have HL := hid hL
  have HB := hid hbw
  clear hn hs hA hall hfit hwh hkl hL hm
  generalize ns.length = len at *
  go_enter Tryz.func8, Tryz.ntmps8
  go_wp2_with fail
  refine HT.out.mono ?_
  rintro e w2 ⟨rfl, hb2⟩
  have hs2 := hb2.size
  go_wp2_with fail
  have hb3 := hb2.alloc (Nat.le_trans (Nat.le_refl _) hs2) (.cells #[.slice none 0 0, .slice none 0 0, .int .i64 0] 45)
  refine (HG.out _ (by have := hb3.size; omega) (HN.out.below hb3 HB.out)).mono ?_
  rintro e W0 ⟨v, us, rfl, hF, hS, hb4⟩
  have hs4 := hb4.size
  have hst := nms_start hb4
  have hb5 := hb3.trans (hb4.mono hb3.size)
  have HC := hid (HW.out W0 w2.heap.size _ us v (HL.out.stays hb5) (by omega) (by simp) hF hS hst)
  have HB5 := hid hb5
  clear HT HG HW hb2 hb3 hb4 hF hS hst hb5 hs4
  go_wp2_with fail
  refine HC.out.mono ?_
  rintro e W ⟨⟨x, rfl⟩, vp, vf, st, -, -, -⟩
  have hbW := nms_below HB5.out (by omega) st
  have hs5 := HB5.out.size
  have hrow := own_base st.prow hs5
  have c0 := cell_of_heap st.blk 0
  have c1 := cell_of_heap st.blk 1
  obtain ⟨pf, cf, rfl⟩ := own_slice st.frow
  have hlf : (wholeW n k).free.length = (walkW n k [] ⟨[], [], 0⟩).free.length := rfl
  have hpl : (walkW n k [] ⟨[], [], 0⟩) = wholeW n k := rfl
  rw [hpl] at hrow c0 c1
  have HR := hid hrow
  have HBW := hid hbW
  simp at c0 c1
  generalize w2.heap.size = Nb at *
  clear st HC HB5 hbW hrow hlf hpl
  obtain ⟨L, hLn⟩ : ∃ L, (wholeW n k).free.length = L := ⟨_, rfl⟩
  have HLn := hid hLn
  rw [hLn] at c1
  clear hLn
  by_cases h0 : (0 : Int) < (L : Int)
  · have HP : Hid (plainOf (wholeW n k) = []) := by
      show _ = _
      unfold plainOf
      rw [if_neg]
      intro e
      have := HLn.out
      rw [e] at this
      simp at this
      omega
    go_wp2_with fail
    go_ret
    refine ⟨_, rfl, HBW.out, ?_⟩
    rw [HP.out]
    exact World.ownsRow_nil _ _ _ _
  · have HP : Hid (plainOf (wholeW n k) = (wholeW n k).plain) := by
      show _ = _
      unfold plainOf
      rw [if_pos]
      exact List.eq_nil_of_length_eq_zero (by have := HLn.out; omega)
    go_wp2_with fail
    go_ret
    refine ⟨_, rfl, HBW.out, ?_⟩
    rw [HP.out]
    exact HR.out

set_option maxHeartbeats 4000000 in
set_option maxRecDepth 100000 in
theorem implFree_calls {b off cap : Nat} {ns : List Nd} {n : Nd} {k : Fo} (w : World) (hm : ns.length ≤ 300) (hbw : b < w.heap.size) (hn : NodesAt w b off ns) (hs : Short ns) (hA : ImplAns ns true) (hall : ns.all nodeOkZ = true) (h1 : ns = n :: k.flat) (h2 : n.kids = k.count) (h3 : k.wf) (hL : Laid w) :
    Calls Tryz.prog 13 #[.slice (some ⟨b, off, none⟩) ns.length cap] w fun e w' => ∃ v, e = .returned v ∧ Below w.heap.size w w' ∧ w'.ownsRow w.heap.size 9 1 v (freeOf (wholeW n k)).length ((freeOf (wholeW n k)).map encStr) := by
  have hfit : ∀ m ∈ ns, Fits m m.kids.toNat := fun m hm => by
    have := List.all_eq_true.1 hall m hm
    simp only [nodeOkZ, Bool.and_eq_true] at this
    exact fits_of_own this.1
  have hwh : ∀ m ∈ n :: k.flat, Whole m := fun m hm => whole_of (List.all_eq_true.1 hall m (by rw [h1]; exact hm))
  have hkl : k.flat.length ≤ 300 := by rw [h1, List.length_cons] at hm; omega
  have HT := hid (implTree_calls b off cap ns w true (by omega) hbw hn hs hA)
  have HG := hid (fun X hb h => formOfTree_calls b off cap ns n k X hm hfit hb h h1 h2 h3)
  have HW := hid (fun (W0 : World) (Nb BF : Nat) (us : List Value) (v : Value) (hL : Laid W0) (h0 : Nb ≠ 0) (hNF : Nb < BF) (hF : Forms BF W0 k us) (hS : Shape BF W0 n us v) (st : Nms W0 Nb ⟨[], [], 0⟩ (.slice none 0 0) (.slice none 0 0) W0) => walk_calls hL h0 hNF (k.flat.length + 1) n k us v none [] _ _ _ W0 hF hS h2 h3 hwh (Nat.lt_succ_self _) hkl st (room_start hkl) rfl)
  have HRm0 := hid ((walkW_room (n := n) (k := k) (sc := []) (s := ⟨[], [], 0⟩) (c := 0) (by rw [Nat.add_comm 1]; exact room_start hkl)).free)
  have HN := hid hn
  have HL := hid hL
  have HB := hid hbw
  clear hn hs hA hall hfit hwh hkl hL hm
  generalize ns.length = len at *
  go_enter Tryz.func13, Tryz.ntmps13
  go_wp2_with fail
  refine HT.out.mono ?_
  rintro e w2 ⟨rfl, hb2⟩
  have hs2 := hb2.size
  go_wp2_with fail
  have hb3 := hb2.alloc (Nat.le_trans (Nat.le_refl _) hs2) (.cells #[.slice none 0 0, .slice none 0 0, .int .i64 0] 45)
  refine (HG.out _ (by have := hb3.size; omega) (HN.out.below hb3 HB.out)).mono ?_
  rintro e W0 ⟨v, us, rfl, hF, hS, hb4⟩
  have hs4 := hb4.size
  have hst := nms_start hb4
  have hb5 := hb3.trans (hb4.mono hb3.size)
  have HC := hid (HW.out W0 w2.heap.size _ us v (HL.out.stays hb5) (by omega) (by simp) hF hS hst)
  have HB5 := hid hb5
  clear HT HG HW hb2 hb3 hb4 hF hS hst hb5 hs4
  go_wp2_with fail
  refine HC.out.mono ?_
  rintro e W ⟨⟨x, rfl⟩, vp, vf, st, -, -, -⟩
  have hbW := nms_below HB5.out (by omega) st
  have hs5 := HB5.out.size
  have c1 := cell_of_heap st.blk 1
  have hwf : (walkW n k [] ⟨[], [], 0⟩) = wholeW n k := rfl
  rw [hwf] at st
  simp at c1
  have hfr := st.frow
  rw [strRow_texts] at hfr
  have hln : (wholeW n k).free.length = (textsOf (wholeW n k).free).length := by unfold textsOf; simp
  rw [hln] at hfr
  have hfo : freeOf (wholeW n k) = (textsOf (wholeW n k).free).foldl addL [] := rfl
  rw [← free_same] at hfo
  have HRm : Hid ((textsOf (wholeW n k).free).length ≤ 90000) := by show _ ≤ _; have := HRm0.out; rw [hwf] at this; rw [← hln]; omega
  clear HRm0
  generalize textsOf (wholeW n k).free = ts at *
  have HFo := hid hfo
  have HBW := hid hbW
  have hap := st.apart st.blk
  have hblk := st.blk
  have HSt := hid (And.intro hap.2 hblk)
  have hs0 := st.size
  have hlt := heap_lt st.blk
  clear HC HB5 hbW hwf hln hfo hap hblk st
  have hdec : (45 : Nat) ≠ 9 := by decide
  have hmode := hfr
  obtain ⟨-, ⟨rfl, h0⟩ | ⟨g, cp, cur, rfl, hgB, hgb, hl1, hl2, hl3, hl4⟩⟩ := hmode
  · have ets : ts = [] := List.eq_nil_of_length_eq_zero h0
    subst ets
    clear hfr h0
    generalize w2.heap.size = Nb at *
    go_wp2_with fail
    refine (Tryz.slices_Sort_string_none none 0 W).mono ?_
    rintro e W3 ⟨rfl, rfl⟩
    go_wp2_with fail
    refine (Tryz.slices_Compact_string_empty none 0 W3).mono ?_
    rintro e W4 ⟨rfl, rfl⟩
    go_wp2_with fail
    go_ret
    refine ⟨_, rfl, HBW.out, ?_⟩
    have e0 : freeOf (wholeW n k) = [] := by rw [HFo.out, free_same]; rfl
    rw [e0]
    exact World.ownsRow_nil _ _ _ _
  · have hgN : g ≠ w2.heap.size := fun e => HSt.out.1 hdec (by rw [e]; rfl)
    have hgl := heap_lt hgb
    have HSo := hid (Tryz.slices_Sort_string g 0 cp ts W (holds_of_block hgb (by rw [Nat.mul_one] at hl4; exact hl4)) hgl (by have := HRm.out; omega))
    have HGb := hid (And.intro hgb (And.intro hl1 (And.intro hl2 hl3)))
    have HNb := hid HSt.out.2
    have HG := hid (And.intro hgN (And.intro hgB hgl))
    obtain ⟨ls, hls⟩ : ∃ ls, ts.mergeSort (fun x y => decide (x ≤ y)) = ls := ⟨_, rfl⟩
    have hlen : ls.length = ts.length := by rw [← hls]; simp
    rw [hls] at HSo HFo
    obtain ⟨L, hL⟩ : ∃ L, ts.length = L := ⟨_, rfl⟩
    rw [hL] at HSo c1 HGb hlen HNb
    have HRL : Hid (L ≤ 90000) := by show _ ≤ _; have := HRm.out; omega
    clear hfr hgb hl1 hl2 hl3 hl4 hls hgN hgB hgl HSt hdec hL HRm ts
    generalize w2.heap.size = Nb at *
    go_wp2_with fail
    refine HSo.out.mono ?_
    rintro e W3 ⟨rfl, q, os, rfl⟩
    have hN3 := (grownBy_sorted (w := W) (g := g) (n := q) (os := os) ls.toArray).block Nb (heap_lt HNb.out) (by have := HG.out.1; simp; exact fun e => this e.symm)
    have hG3 := heap_sorted (n := q) (os := os) ls.toArray HGb.out.1
    have hs3 := (grownBy_sorted (w := W) (g := g) (n := q) (os := os) ls.toArray)
    have hcp : (Lib.compact ls).length ≤ L := by
      rw [← hlen]
      exact compact_len ls
    have HCo := hid (Tryz.slices_Compact_string g 0 cp ls _ (holds_of_block hG3 (take_putCells _ ls (by have := HGb.out; omega))) (by have := HRL.out; omega) (by have := HGb.out; omega))
    rw [hlen] at HCo
    have hM := (hN3.trans HNb.out)
    have c2 := cell_of_heap hM 1
    simp at c2
    have HG3 := hid hG3
    have HS3 := hid hs3
    clear hG3 hN3 hs3 hM HSo
    generalize Sort.grow (Sort.putRow encStr (Sort.ahead W q) g 0 ls.toArray) os = W3 at *
    go_wp2_with fail
    refine HCo.out.mono ?_
    rintro e W4 ⟨rfl, q2, rfl⟩
    go_wp2_with fail
    go_ret
    have hlen2 : (Lib.compact ls ++ List.replicate (L - (Lib.compact ls).length) []).length = L := by rw [List.length_append, List.length_replicate]; omega
    refine ⟨_, rfl, ?_, ?_⟩
    · have hgw : w.heap.size ≤ g := by have := HG.out.2.1; omega
      have hg2 := grownBy_sorted (w := W3) (g := g) (n := q2) (os := #[]) (Lib.compact ls ++ List.replicate (L - (Lib.compact ls).length) []).toArray
      rw [Sort.grow_empty] at hg2
      exact (HBW.out.grown HS3.out HBW.out.size (fun k e => by cases e; exact hgw)).grown hg2 (by have := HS3.out.size; have := HBW.out.size; omega) (fun k e => by cases e; exact hgw)
    · rw [HFo.out]
      exact own_less (by have := HG.out.2.1; omega) HG3.out (by rw [hlen2]; exact HGb.out.2.1) HGb.out.2.2.1 (by simp [Sort.putCells]; have := HGb.out.2.2.2; omega)

set_option maxRecDepth 100000 in
theorem implPlain_bad {b off cap : Nat} {ns : List Nd} (w : World) (hm : ns.length ≤ 1048576) (hbw : b < w.heap.size) (hn : NodesAt w b off ns) (hs : Short ns) (hA : ImplAns ns false) :
    Calls Tryz.prog 8 #[.slice (some ⟨b, off, none⟩) ns.length cap] w fun e w' => e = .returned (.slice none 0 0) ∧ Below w.heap.size w w' := by
  have HT := hid (implTree_calls b off cap ns w false hm hbw hn hs hA)
  clear hm hbw hn hs hA
  generalize ns.length = len at *
  go_enter Tryz.func8, Tryz.ntmps8
  go_wp2_with fail
  refine HT.out.mono ?_
  rintro e w2 ⟨rfl, hb2⟩
  go_wp2_with fail
  go_ret
  exact ⟨rfl, hb2⟩

set_option maxRecDepth 100000 in
theorem implFree_bad {b off cap : Nat} {ns : List Nd} (w : World) (hm : ns.length ≤ 1048576) (hbw : b < w.heap.size) (hn : NodesAt w b off ns) (hs : Short ns) (hA : ImplAns ns false) :
    Calls Tryz.prog 13 #[.slice (some ⟨b, off, none⟩) ns.length cap] w fun e w' => e = .returned (.slice none 0 0) ∧ Below w.heap.size w w' := by
  have HT := hid (implTree_calls b off cap ns w false hm hbw hn hs hA)
  clear hm hbw hn hs hA
  generalize ns.length = len at *
  go_enter Tryz.func13, Tryz.ntmps13
  go_wp2_with fail
  refine HT.out.mono ?_
  rintro e w2 ⟨rfl, hb2⟩
  go_wp2_with fail
  go_ret
  exact ⟨rfl, hb2⟩
end Go.Proofs.YtlhdicichdihfaaGreatDoor
