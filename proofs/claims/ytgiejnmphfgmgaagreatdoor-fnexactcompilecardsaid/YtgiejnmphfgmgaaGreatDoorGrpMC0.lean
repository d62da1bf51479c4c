/- The program's own TreePlain and TreeFree, by the namer's walk. -/
import Derived.Test.YtgiejnmphfgmgaaGreatDoorNameWalkB
import Derived.Test.YtgiejnmphfgmgaaGreatDoorFreePure
import Derived.Test.YtgiejnmphfgmgaaGreatDoorImplTree
import Derived.Sort.OwnSorted
import Derived.Test.YtgiejnmphfgmgaaGreatDoorStagesN
import Derived.Test.YtgiejnmphfgmgaaGreatDoorKeyWalks
import Derived.Test.YtgiejnmphfgmgaaGreatDoorRows
import Derived.WalkKit
import Derived.ProofKit
import Derived.Laws.Bits64
import Derived.Test.YtgiejnmphfgmgaaGreatDoorOwnRow
import Derived.Test.YtgiejnmphfgmgaaGreatDoorNodeArgs
import Derived.Maps.AppendAt
import Derived.OwnWalk
import Derived.Test.YtgiejnmphfgmgaaGreatDoorSpecDeep
import Derived.Test.YtgiejnmphfgmgaaGreatDoorCompBound
import Derived.Laws.OwnMore
import Derived.Deep.CutRange
import Derived.Deep.CutBlock
import Derived.Test.YtgiejnmphfgmgaaGreatDoorCompPure
import Derived.Test.YtgiejnmphfgmgaaGreatDoorNamePure
import Derived.Test.YtgiejnmphfgmgaaGreatDoorFormRel
import Derived.Test.YtgiejnmphfgmgaaGreatDoorFormAt
namespace Go.Proofs.YtgiejnmphfgmgaaGreatDoor
open Go.RowKit Go.Deep

theorem empty_of {s : ByteArray} (h : (s.toList == []) = true) : s = ⟨#[]⟩ := by
  have h1 : s.toList = [] := by simpa using h
  rw [ByteArray.toList_eq] at h1
  obtain ⟨d⟩ := s
  congr
  exact Array.toList_eq_nil_iff.1 h1

theorem fit_same {nm : Int} {i : Nat} {s : ByteArray} (h : fit nm i s = true) : (if (i : Int) + 1 ≤ nm then s else ⟨#[]⟩) = s := by
  unfold fit at h
  split at h
  · rw [if_pos (by omega)]
  · rw [if_neg (by omega), empty_of h]

theorem fit_size {nm : Int} {i : Nat} {s : ByteArray} (h : fit nm i s = true) : s.size ≤ 8 := by
  unfold fit at h
  split at h
  · simp only [nameOk, Bool.and_eq_true, decide_eq_true_eq] at h
    exact h.1.1.2
  · rw [empty_of h]
    exact Nat.zero_le _

/-- A node that is as its kind asks is what its form keeps of it. -/
theorem whole_of {m : Nd} (h : nodeOkZ m = true) : Whole m := by
  simp only [nodeOkZ, ownOk, namesOk, Bool.and_eq_true] at h
  obtain ⟨⟨-, ⟨ha, hb, hc⟩, -, hnum⟩, -⟩ := h
  have e1 := fit_same ha
  have e2 := fit_same hb
  have e3 := fit_same hc
  simp only [Int.natCast_zero, Int.zero_add] at e1
  rw [show ((1 : Nat) : Int) + 1 = 2 from rfl] at e2
  rw [show ((2 : Nat) : Int) + 1 = 3 from rfl] at e3
  have e4 : (if m.kind = 1 ∨ m.kind = 2 then m.num else 0) = m.num := by
    split
    · rfl
    · have h2 := of_decide_eq_true hnum
      rw [most_other (by omega) (by omega)] at h2
      omega
  have e5 := fit_size ha
  refine ⟨?_, by omega⟩
  unfold bareZ
  rw [e1, e2, e3, e4]

theorem own_base {W : World} {B B' : Nat} {e : TypeId} {sz : Nat} {v : Value} {n : Nat} {xs : List Value} (h : W.ownsRow B e sz v n xs) (hB : B' ≤ B) : W.ownsRow B' e sz v n xs := by
  obtain ⟨h0, ⟨rfl, h1⟩ | ⟨g, cap, cur, rfl, hb, hr⟩⟩ := h
  · exact ⟨h0, Or.inl ⟨rfl, h1⟩⟩
  · exact ⟨h0, Or.inr ⟨g, cap, cur, rfl, Nat.le_trans hB hb, hr⟩⟩

/-- The namer ahead of its walk. -/
theorem nms_start {w2 W0 : World} (hb : Below (w2.alloc (.cells #[.slice none 0 0, .slice none 0 0, .int .i64 0] 93)).heap.size (w2.alloc (.cells #[.slice none 0 0, .slice none 0 0, .int .i64 0] 93)) W0) : Nms W0 w2.heap.size ⟨[], [], 0⟩ (.slice none 0 0) (.slice none 0 0) W0 := by
  have h := (one_kept hb).1
  exact ⟨h, World.ownsRow_nil _ _ _ _, World.ownsRow_nil _ _ _ _, rfl, rfl, rfl, Nat.le_refl _, fun _ _ _ => rfl, heap_lt h⟩

theorem room_start {c : Nat} (h : c ≤ 300) : Room (c + 1) ⟨[], [], 0⟩ := ⟨by simp; omega, by simp; omega, by simp; omega⟩

theorem nms_below {w W0 : World} {Nb : Nat} {s : Wst} {vp vf : Value} {W : World} (h : Below w.heap.size w W0) (hN : w.heap.size ≤ Nb) (n : Nms W0 Nb s vp vf W) : Below w.heap.size w W :=
  ⟨n.os.trans h.os, n.tape.trans h.tape, n.output.trans h.output, Nat.le_trans h.size n.size, fun q hq => (n.kept q (Nat.lt_of_lt_of_le hq h.size) (by omega)).trans (h.block q hq)⟩

/-- What the walk over a whole tree finds. -/
def wholeW (n : Nd) (k : Fo) : Wst := walkW n k [] ⟨[], [], 0⟩

def plainOf (s : Wst) : List Nd := if s.free = [] then s.plain else []

def textsOf (ss : List ByteArray) : List Tx := ss.map fun s => s.data.toList

def freeOf (s : Wst) : List Tx := (textsOf s.free).foldl addL []

theorem strRow_texts (ss : List ByteArray) : strRow ss = (textsOf ss).map encStr := by
  unfold strRow textsOf
  rw [List.map_map]
  rfl

/-- Less of a row that was written. -/
theorem own_less {w : World} {base g cap q : Nat} {e : TypeId} {cur : Array Value} {ts rs : List Tx} (hbase : base ≤ g) (hb : w.heap[g]? = some (.cells cur e (0, 0))) (h1 : (ts ++ rs).length ≤ cap) (h2 : cap ≤ maxLen) (h3 : cur.size = cap * 1) :
    (Sort.putRow encStr (Sort.ahead w q) g 0 (ts ++ rs).toArray).ownsRow base e 1 (.slice (some ⟨g, 0, none⟩) ts.length cap) ts.length (ts.map encStr) := by
  have hh := heap_sorted (n := q) (os := #[]) (ts ++ rs).toArray hb
  rw [Sort.grow_empty] at hh
  rw [List.length_append] at h1
  refine ⟨by simp, .inr ⟨g, cap, _, rfl, hbase, hh, by omega, h2, by simp [Sort.putCells, h3], ?_⟩⟩
  have ht := take_putCells cur (ts ++ rs) (by rw [List.length_append]; omega)
  rw [Nat.mul_one]
  have e2 := congrArg (List.take ts.length) ht
  rw [List.take_take, List.length_append, Nat.min_eq_left (by omega), List.map_append, List.take_left' (by simp)] at e2
  exact e2

theorem compactUpTo_len (d : Array Tx) : ∀ m, (Lib.compactUpTo d m).length ≤ m := fun m => by
  unfold Lib.compactUpTo
  rw [List.length_map]
  exact Nat.le_trans (List.length_filter_le _ _) (by simp)

theorem compact_len (l : List Tx) : (Lib.compact l).length ≤ l.length := compactUpTo_len _ _

set_option maxHeartbeats 4000000 in
set_option maxRecDepth 100000 in
theorem implFree_calls {b off cap : Nat} {ns : List Nd} {n : Nd} {k : Fo} (w : World) (hm : ns.length ≤ 300) (hbw : b < w.heap.size) (hn : NodesAt w b off ns) (hs : Short ns) (hA : ImplAns ns true) (hall : ns.all nodeOkZ = true) (h1 : ns = n :: k.flat) (h2 : n.kids = k.count) (h3 : k.wf) (hL : Laid w) :
    Calls Tryz.prog 23 #[.slice (some ⟨b, off, none⟩) ns.length cap] w fun e w' => ∃ v, e = .returned v ∧ Below w.heap.size w w' ∧ w'.ownsRow w.heap.size 9 1 v (freeOf (wholeW n k)).length ((freeOf (wholeW n k)).map encStr) := by
  have hfit : ∀ m ∈ ns, Fits m m.kids.toNat := fun m hm => by
    have := List.all_eq_true.1 hall m hm
    simp only [nodeOkZ, Bool.and_eq_true] at this
    exact fits_of_own this.1
  have hwh : ∀ m ∈ n :: k.flat, Whole m := fun m hm => whole_of (List.all_eq_true.1 hall m (by rw [h1]; exact hm))
  have hkl : k.flat.length ≤ 300 := by rw [h1, List.length_cons] at hm; omega
  have HT := hid (implTree_calls b off cap ns w true (by omega) hbw hn hs hA)
  have HG := hid (fun X hb h => formOfTree_calls b off cap ns n k X hm hfit hb h h1 h2 h3)
  have HW := hid (fun (W0 : World) (Nb BF : Nat) (us : List Value) (v : Value) (hL : Laid W0) (h0 : Nb ≠ 0) (hNF : Nb < BF) (hF : Forms BF W0 k us) (hS : Shape BF W0 n us v) (st : Nms W0 Nb ⟨[], [], 0⟩ (.slice none 0 0) (.slice none 0 0) W0) => walk_calls hL h0 hNF (k.flat.length + 1) n k us v none [] _ _ _ W0 hF hS h2 h3 hwh (Nat.lt_succ_self _) hkl st (room_start hkl) rfl)
  have HRm0 := hid ((walkW_room (n := n) (k := k) (sc := []) (s := ⟨[], [], 0⟩) (c := 0) (by rw [Nat.add_comm 1]; exact room_start hkl)).free)
  have HN := hid hn
  have HL := hid hL
  have HB := hid hbw
  clear hn hs hA hall hfit hwh hkl hL hm
  generalize ns.length = len at *
  go_enter Tryz.func23, Tryz.ntmps23
  go_wp2_with fail
  refine HT.out.mono ?_
  rintro e w2 ⟨rfl, hb2⟩
  have hs2 := hb2.size
  go_wp2_with fail
  have hb3 := hb2.alloc (Nat.le_trans (Nat.le_refl _) hs2) (.cells #[.slice none 0 0, .slice none 0 0, .int .i64 0] 93)
  refine (HG.out _ (by have := hb3.size; omega) (HN.out.below hb3 HB.out)).mono ?_
  rintro e W0 ⟨v, us, rfl, hF, hS, hb4⟩
  have hs4 := hb4.size
  have hst := nms_start hb4
  have hb5 := hb3.trans (hb4.mono hb3.size)
  have HC := hid (HW.out W0 w2.heap.size _ us v (HL.out.stays hb5) (by omega) (by simp) hF hS hst)
  have HB5 := hid hb5
  clear HT HG HW hb2 hb3 hb4 hF hS hst hb5 hs4
  go_wp2_with fail
  refine HC.out.mono ?_
  rintro e W ⟨⟨x, rfl⟩, vp, vf, st, -, -, -⟩
  have hbW := nms_below HB5.out (by omega) st
  have hs5 := HB5.out.size
  have c1 := cell_of_heap st.blk 1
  have hwf : (walkW n k [] ⟨[], [], 0⟩) = wholeW n k := rfl
  rw [hwf] at st
  simp at c1
  have hfr := st.frow
  rw [strRow_texts] at hfr
  have hln : (wholeW n k).free.length = (textsOf (wholeW n k).free).length := by unfold textsOf; simp
  rw [hln] at hfr
  have hfo : freeOf (wholeW n k) = (textsOf (wholeW n k).free).foldl addL [] := rfl
  rw [← free_same] at hfo
  have HRm : Hid ((textsOf (wholeW n k).free).length ≤ 90000) := by show _ ≤ _; have := HRm0.out; rw [hwf] at this; rw [← hln]; omega
  clear HRm0
  generalize textsOf (wholeW n k).free = ts at *
  have HFo := hid hfo
  have HBW := hid hbW
  have hap := st.apart st.blk
  have hblk := st.blk
  have HSt := hid (And.intro hap.2 hblk)
  have hs0 := st.size
  have hlt := heap_lt st.blk
  clear HC HB5 hbW hwf hln hfo hap hblk st
  have hdec : (93 : Nat) ≠ 9 := by decide
  have hmode := hfr
  obtain ⟨-, ⟨rfl, h0⟩ | ⟨g, cp, cur, rfl, hgB, hgb, hl1, hl2, hl3, hl4⟩⟩ := hmode
  · have ets : ts = [] := List.eq_nil_of_length_eq_zero h0
    subst ets
    clear hfr h0
    generalize w2.heap.size = Nb at *
    go_wp2_with fail
    refine (Tryz.slices_Sort_string_none none 0 W).mono ?_
    rintro e W3 ⟨rfl, rfl⟩
    go_wp2_with fail
    refine (Tryz.slices_Compact_string_empty none 0 W3).mono ?_
    rintro e W4 ⟨rfl, rfl⟩
    go_wp2_with fail
    go_ret
    refine ⟨_, rfl, HBW.out, ?_⟩
    have e0 : freeOf (wholeW n k) = [] := by rw [HFo.out, free_same]; rfl
    rw [e0]
    exact World.ownsRow_nil _ _ _ _
  · have hgN : g ≠ w2.heap.size := fun e => HSt.out.1 hdec (by rw [e]; rfl)
    have hgl := heap_lt hgb
    have HSo := hid (Tryz.slices_Sort_string g 0 cp ts W (holds_of_block hgb (by rw [Nat.mul_one] at hl4; exact hl4)) hgl (by have := HRm.out; omega))
    have HGb := hid (And.intro hgb (And.intro hl1 (And.intro hl2 hl3)))
    have HNb := hid HSt.out.2
    have HG := hid (And.intro hgN (And.intro hgB hgl))
    obtain ⟨ls, hls⟩ : ∃ ls, ts.mergeSort (fun x y => decide (x ≤ y)) = ls := ⟨_, rfl⟩
    have hlen : ls.length = ts.length := by rw [← hls]; simp
    rw [hls] at HSo HFo
    obtain ⟨L, hL⟩ : ∃ L, ts.length = L := ⟨_, rfl⟩
    rw [hL] at HSo c1 HGb hlen HNb
    have HRL : Hid (L ≤ 90000) := by show _ ≤ _; have := HRm.out; omega
    clear hfr hgb hl1 hl2 hl3 hl4 hls hgN hgB hgl HSt hdec hL HRm ts
    generalize w2.heap.size = Nb at *
    go_wp2_with fail
    refine HSo.out.mono ?_
    rintro e W3 ⟨rfl, q, os, rfl⟩
    have hN3 := (grownBy_sorted (w := W) (g := g) (n := q) (os := os) ls.toArray).block Nb (heap_lt HNb.out) (by have := HG.out.1; simp; exact fun e => this e.symm)
    have hG3 := heap_sorted (n := q) (os := os) ls.toArray HGb.out.1
    have hs3 := (grownBy_sorted (w := W) (g := g) (n := q) (os := os) ls.toArray)
    have hcp : (Lib.compact ls).length ≤ L := by
      rw [← hlen]
      exact compact_len ls
    have HCo := hid (Tryz.slices_Compact_string g 0 cp ls _ (holds_of_block hG3 (take_putCells _ ls (by have := HGb.out; omega))) (by have := HRL.out; omega) (by have := HGb.out; omega))
    rw [hlen] at HCo
    have hM := (hN3.trans HNb.out)
    have c2 := cell_of_heap hM 1
    simp at c2
    have HG3 := hid hG3
    have HS3 := hid hs3
    clear hG3 hN3 hs3 hM HSo
    generalize Sort.grow (Sort.putRow encStr (Sort.ahead W q) g 0 ls.toArray) os = W3 at *
    go_wp2_with fail
    refine HCo.out.mono ?_
    rintro e W4 ⟨rfl, q2, rfl⟩
    go_wp2_with fail
    go_ret
    have hlen2 : (Lib.compact ls ++ List.replicate (L - (Lib.compact ls).length) []).length = L := by rw [List.length_append, List.length_replicate]; omega
    refine ⟨_, rfl, ?_, ?_⟩
    · have hgw : w.heap.size ≤ g := by have := HG.out.2.1; omega
      have hg2 := grownBy_sorted (w := W3) (g := g) (n := q2) (os := #[]) (Lib.compact ls ++ List.replicate (L - (Lib.compact ls).length) []).toArray
      rw [Sort.grow_empty] at hg2
      exact (HBW.out.grown HS3.out HBW.out.size (fun k e => by cases e; exact hgw)).grown hg2 (by have := HS3.out.size; have := HBW.out.size; omega) (fun k e => by cases e; exact hgw)
    · rw [HFo.out]
      exact own_less (by have := HG.out.2.1; omega) HG3.out (by rw [hlen2]; exact HGb.out.2.1) HGb.out.2.2.1 (by simp [Sort.putCells]; have := HGb.out.2.2.2; omega)

set_option maxRecDepth 100000 in
theorem implFree_bad {b off cap : Nat} {ns : List Nd} (w : World) (hm : ns.length ≤ 1048576) (hbw : b < w.heap.size) (hn : NodesAt w b off ns) (hs : Short ns) (hA : ImplAns ns false) :
    Calls Tryz.prog 23 #[.slice (some ⟨b, off, none⟩) ns.length cap] w fun e w' => e = .returned (.slice none 0 0) ∧ Below w.heap.size w w' := by
  have HT := hid (implTree_calls b off cap ns w false hm hbw hn hs hA)
  clear hm hbw hn hs hA
  generalize ns.length = len at *
  go_enter Tryz.func23, Tryz.ntmps23
  go_wp2_with fail
  refine HT.out.mono ?_
  rintro e w2 ⟨rfl, hb2⟩
  go_wp2_with fail
  go_ret
  exact ⟨rfl, hb2⟩
end Go.Proofs.YtgiejnmphfgmgaaGreatDoor

/- A region in stages, more: what only reads may be taken first wherever it stands in the text; then each that makes something is alone ready. -/
namespace Go.Proofs.YtgiejnmphfgmgaaGreatDoor
open Go.RowKit
section
variable {P : Program} {l0 : List Oper} {Q : Exit → Act → World → Prop} {S : World → Prop}

theorem pick_begin {id n : Nat} {ls : Array Bool} {a : Act} {w : World} (hm : P.follows .mixedOrders = true) (hn : l0.length = n) (hl : Array.replicate l0.length false = ls) (h : wpAnyH P .any l0.toArray (NoPanic Q) S n ls a w.drew) : (Code.region id l0.toArray true).wp P Q a w := by
  refine wp_region_noPanic (wp_region_held (S := S) hm ?_)
  subst hn
  subst hl
  simpa using h

/-- One that only reads. -/
theorem pick_op {i n : Nat} {o : Oper} {v : Value} {ls ls' : Array Bool} {a a' : Act} {w : World} (hs : Region.noSelect l0.toArray = true) (ho : l0[i]? = some o) (hf : Region.free .any l0.toArray ls i = true) (hr : (Region.ready .any l0.toArray ls).contains i = true) (hl : ls.setIfInBounds i true = ls')
    (hw : Region.wanted o (yielded l0.toArray a.tmps) = true) (hy : ∀ w', S w' → (execOp a.eval o).run P w' = .ok (.value v) w') (hS : S w) (hput : a.put o.dst v = a') (h : wpAnyH P .any l0.toArray (NoPanic Q) S n ls' a' w) : wpAnyH P .any l0.toArray (NoPanic Q) S (n + 1) ls a w := by
  subst hl
  subst hput
  exact wpAnyH_take (v := v) (by simpa using ho) hs hf hr (fun c a w h => h) (Or.inl ⟨hw, hy⟩) hS h

/-- One that is alone ready, and makes something or not. -/
theorem pick_make {i n : Nat} {o : Oper} {v : Value} {ls ls' : Array Bool} {a a' : Act} {w w1 : World} (ho : l0[i]? = some o) (hr : (Region.ready .any l0.toArray ls == [i]) = true) (hl : ls.setIfInBounds i true = ls')
    (hw : Region.wanted o (yielded l0.toArray a.tmps) = true) (hrun : (execOp a.eval o).run P w = .ok (.value v) w1) (hS : S w1) (hput : a.put o.dst v = a') (h : wpAnyH P .any l0.toArray (NoPanic Q) S n ls' a' w1) : wpAnyH P .any l0.toArray (NoPanic Q) S (n + 1) ls a w := by
  subst hl
  subst hput
  have ho' : l0.toArray[i]? = some o := by simpa using ho
  refine wpAnyH_all (rs := [i]) (by simpa using hr) (by simp) (fun j hj => ?_)
  rw [List.mem_singleton] at hj
  subst hj
  unfold wpOp
  rw [ho']
  dsimp only
  rw [if_pos hw]
  refine Or.inl ?_
  unfold Oper.wp
  rw [hrun]
  exact ⟨hS, h⟩

/-- A call that is alone ready. -/
theorem pick_enter {i n : Nat} {o : Oper} {f : FuncId} {args : Array Value} {ls ls' : Array Bool} {a : Act} {w : World} (ho : l0[i]? = some o) (hr : (Region.ready .any l0.toArray ls == [i]) = true) (hl : ls.setIfInBounds i true = ls') (hw : Region.wanted o (yielded l0.toArray a.tmps) = true)
    (hrun : (execOp a.eval o).run P w = .ok (.enter f args) w) (h : Calls P f args w fun e w' => ∃ v, e = .returned v ∧ S w' ∧ wpAnyH P .any l0.toArray (NoPanic Q) S n ls' (a.put o.dst v) w') : wpAnyH P .any l0.toArray (NoPanic Q) S (n + 1) ls a w := by
  subst hl
  have ho' : l0.toArray[i]? = some o := by simpa using ho
  refine wpAnyH_all (rs := [i]) (by simpa using hr) (by simp) (fun j hj => ?_)
  rw [List.mem_singleton] at hj
  subst hj
  unfold wpOp
  rw [ho']
  dsimp only
  rw [if_pos hw]
  refine Or.inl ?_
  unfold Oper.wp
  rw [hrun]
  refine Calls.mono h ?_
  rintro e w3 ⟨v, rfl, hS, hn⟩
  exact ⟨hS, hn⟩

/-- One of two that are ready, each of which makes something. -/
def PickMk (P : Program) (l0 : List Oper) (Q : Exit → Act → World → Prop) (S : World → Prop) (n : Nat) (ls : Array Bool) (a : Act) (w : World) (i : Nat) : Prop :=
  ∃ o v w1, l0[i]? = some o ∧ Region.wanted o (yielded l0.toArray a.tmps) = true ∧ (execOp a.eval o).run P w = .ok (.value v) w1 ∧ S w1 ∧ wpAnyH P .any l0.toArray (NoPanic Q) S n (ls.setIfInBounds i true) (a.put o.dst v) w1

theorem pick_fork {i j n : Nat} {ls : Array Bool} {a : Act} {w : World} (hr : (Region.ready .any l0.toArray ls == [i, j]) = true) (h1 : PickMk P l0 Q S n ls a w i) (h2 : PickMk P l0 Q S n ls a w j) : wpAnyH P .any l0.toArray (NoPanic Q) S (n + 1) ls a w := by
  refine wpAnyH_all (rs := [i, j]) (by simpa using hr) (by simp) (fun k hk => ?_)
  have hk' : PickMk P l0 Q S n ls a w k := by
    simp only [List.mem_cons, List.not_mem_nil, or_false] at hk
    rcases hk with rfl | rfl
    · exact h1
    · exact h2
  obtain ⟨o, v, w1, ho, hw, hrun, hS, h⟩ := hk'
  have ho' : l0.toArray[k]? = some o := by simpa using ho
  unfold wpOp
  rw [ho']
  dsimp only
  rw [if_pos hw]
  refine Or.inl ?_
  unfold Oper.wp
  rw [hrun]
  exact ⟨hS, h⟩

/-- The frame, written out. -/
theorem pick_frame {n : Nat} {ls : Array Bool} {a a' : Act} {w : World} (ha : a = a') (h : wpAnyH P .any l0.toArray (NoPanic Q) S n ls a' w) : wpAnyH P .any l0.toArray (NoPanic Q) S n ls a w := by
  subst ha
  exact h

theorem pick_end {n : Nat} {ls : Array Bool} {a : Act} {w : World} (hr : (Region.ready .any l0.toArray ls).isEmpty = true) (h : Q .normal a w) : wpAnyH P .any l0.toArray (NoPanic Q) S n ls a w :=
  wpAnyH_done (Q := NoPanic Q) (by simpa using hr) (NoPanic.normal h) _
end
end Go.Proofs.YtgiejnmphfgmgaaGreatDoor

/- Lists of names, as the specification handles them. -/
namespace Go.Proofs.YtgiejnmphfgmgaaGreatDoor
open Go.RowKit Go.Deep

/-- A slice of names. -/
def NamesV (W : World) (v : Value) (ss : List ByteArray) : Prop :=
  (v = .slice none 0 0 ∧ ss = []) ∨ ∃ g o c, v = .slice (some ⟨g, o, none⟩) ss.length c ∧ g < W.heap.size ∧ ∀ j, j < ss.length → W.cell? ⟨g, o + j, none⟩ = some (.string (ss.getD j ⟨#[]⟩))

theorem names_none (W : World) : NamesV W (.slice none 0 0) [] := Or.inl ⟨rfl, rfl⟩

theorem NamesV.below {W W' : World} {v : Value} {ss : List ByteArray} (h : NamesV W v ss) (hb : Below W.heap.size W W') : NamesV W' v ss := by
  rcases h with h | ⟨g, o, c, e, hg, hc⟩
  · exact Or.inl h
  · exact Or.inr ⟨g, o, c, e, Nat.lt_of_lt_of_le hg hb.size, fun j hj => (hb.cell (p := ⟨g, o + j, none⟩) hg).trans (hc j hj)⟩

theorem NamesV.slice {W : World} {v : Value} {ss : List ByteArray} (h : NamesV W v ss) : ∃ ad c, v = .slice ad ss.length c := by
  rcases h with ⟨rfl, rfl⟩ | ⟨g, o, c, rfl, -⟩
  · exact ⟨none, 0, rfl⟩
  · exact ⟨_, _, rfl⟩

theorem NamesV.cell {W : World} {ad : Option Addr} {n c : Nat} {ss : List ByteArray} (h : NamesV W (.slice ad n c) ss) (hn : 0 < n) : n = ss.length ∧ ∃ g o, ad = some ⟨g, o, none⟩ ∧ g < W.heap.size ∧ ∀ j, j < n → W.cell? ⟨g, o + j, none⟩ = some (.string (ss.getD j ⟨#[]⟩)) := by
  rcases h with ⟨e, -⟩ | ⟨g, o, c', e, hg, hc⟩
  · cases e; omega
  · cases e
    exact ⟨rfl, g, o, rfl, hg, hc⟩

theorem strRow_len (ss : List ByteArray) : (strRow ss).length = ss.length := by unfold strRow; simp

theorem strRow_get (ss : List ByteArray) (j : Nat) (h : j < ss.length) : (strRow ss)[j]? = some (.string (ss.getD j ⟨#[]⟩)) := by
  unfold strRow
  simp [List.getD, h]

theorem names_owns {W : World} {B : Nat} {v : Value} {n : Nat} {ss : List ByteArray} (h : W.ownsRow B 9 1 v n (strRow ss)) : NamesV W v ss ∧ n = ss.length := by
  have hl : n = ss.length := by have := h.1; rw [strRow_len] at this; omega
  subst hl
  refine ⟨?_, rfl⟩
  have h' := h
  obtain ⟨-, ⟨rfl, h0⟩ | ⟨g, cap, cur, rfl, hB, hc, hr⟩⟩ := h
  · exact Or.inl ⟨rfl, List.eq_nil_of_length_eq_zero h0⟩
  · refine Or.inr ⟨g, 0, cap, rfl, heap_lt hc, fun j hj => ?_⟩
    rw [Nat.zero_add, h'.cellAt j (by omega), strRow_get ss j hj]

theorem names_lit (w : World) (o1 : Obj) (ss : List ByteArray) : NamesV ((w.alloc o1).alloc (.cells (strRow ss).toArray 9)) (.slice (some ⟨w.heap.size + 1, 0, none⟩) ss.length ss.length) ss := by
  have hh := (MapKept.heap_alloc (w.alloc o1) (.cells (strRow ss).toArray 9)).1
  rw [show (w.alloc o1).heap.size = w.heap.size + 1 by simp] at hh
  refine Or.inr ⟨_, 0, _, rfl, heap_lt hh, fun j hj => ?_⟩
  rw [Nat.zero_add, cell_of_heap hh j]
  simp only [List.getElem?_toArray]
  exact strRow_get ss j hj

/-- Names appended to a row of one's own. -/
theorem app_names {W : World} {B : Nat} {v xv : Value} {n : Nat} {ss ys : List ByteArray} (ty : TypeId) (hown : W.ownsRow B 9 1 v n (strRow ss)) (hx : NamesV W xv ys) (hm : ss.length + ys.length ≤ 200000) (hB : B ≤ W.heap.size) :
    ∃ v' W', (Builtin.append_ #[43, 43] ty #[v, xv]).run Tryz.prog W = .ok v' W' ∧ W'.ownsRow B 9 1 v' (ss ++ ys).length (strRow (ss ++ ys)) ∧ W.grownBy W' v.ownBlock ∧ (v'.ownBlock = v.ownBlock ∨ v'.ownBlock = some W.heap.size) := by
  obtain ⟨i0, hi, hz0, hz1, hz2⟩ := info_parts info_str
  have hn : n = ss.length := (names_owns hown).2
  subst hn
  rcases hx with ⟨rfl, rfl⟩ | ⟨g, o, c, rfl, hg, hc⟩
  · refine ⟨v, W, run_append_owned_none W B 43 ty 9 i0 1 Tryz.underlying43 hi v _ _ hown, ?_, ⟨rfl, rfl, rfl, Nat.le_refl _, fun _ _ _ => rfl⟩, Or.inl rfl⟩
    rw [List.append_nil]
    exact hown
  · obtain ⟨v', W', hr, h2, h3, -, h5⟩ := run_append_own_at (P := Tryz.prog) W B 43 ty 9 i0 _ 1 16 Tryz.underlying43 hi hz0 hz1 hz2 rfl (by decide) v ss.length (strRow ss) hown ⟨g, o, none⟩ ys.length c (strRow ys) (by rw [strRow_len]; omega)
      (fun j u hu => by
        have hj : j < ys.length := by
          have := (List.getElem?_eq_some_iff.1 hu).1
          rwa [strRow_len] at this
        rw [strRow_get ys j hj] at hu
        cases hu
        rw [Addr.add_lit]
        exact hc j hj)
      (fun u hu => by unfold strRow at hu; rw [List.mem_map] at hu; obtain ⟨x, -, rfl⟩ := hu; rfl) (by unfold maxLen; omega) (by omega) hB
    refine ⟨v', W', hr, ?_, h3, h5⟩
    rw [List.length_append]
    have e : strRow (ss ++ ys) = strRow ss ++ strRow ys := by unfold strRow; rw [List.map_append]
    rw [e]
    exact h2

set_option maxHeartbeats 2000000 in
set_option maxRecDepth 100000 in
theorem binds_calls (n : Nd) (i : Nat) (w : World) (hk2 : n.kind = 9 → i < 2) :
    Calls Tryz.prog 77 #[ndV n, .int .i64 (i : Int)] w fun e w' => ∃ sv, e = .returned sv ∧ NamesV w' sv (knownZ n i) ∧ Below w.heap.size w w' := by
  obtain ⟨kd, num, a, b, c, kids⟩ := n
  have h1 : ∀ i : Nat, ((i : Int) = 1) ↔ (i = 1) := fun i => by omega
  have h2 : ∀ i : Nat, ((i : Int) = 2) ↔ (i = 2) := fun i => by omega
  unfold ndV
  dsimp only at hk2 ⊢
  go_enter Tryz.func77, Tryz.ntmps77
  by_cases k6 : kd = 6
  · have hz : knownZ ⟨kd, num, a, b, c, kids⟩ i = [a] := by unfold knownZ; rw [if_pos (Or.inl k6)]
    rw [hz]
    subst k6
    go_wp2_with fail
    go_ret
    exact ⟨_, rfl, names_lit w _ [a], below_two w _ _⟩
  by_cases k25 : kd = 25
  · have hz : knownZ ⟨kd, num, a, b, c, kids⟩ i = [a] := by unfold knownZ; rw [if_pos (Or.inr k25)]
    rw [hz]
    subst k25
    go_wp2_with fail
    go_ret
    exact ⟨_, rfl, names_lit w _ [a], below_two w _ _⟩
  by_cases k8 : kd = 8
  · subst k8
    by_cases i1 : (i : Int) = 1
    · have hz : knownZ ⟨8, num, a, b, c, kids⟩ i = [a] := by unfold knownZ; rw [if_neg (by dsimp only; decide), if_pos (Or.inl ⟨rfl, (h1 i).1 i1⟩)]
      rw [hz]
      go_wp2_with fail
      go_ret
      exact ⟨_, rfl, names_lit w _ [a], below_two w _ _⟩
    · have hz : knownZ ⟨8, num, a, b, c, kids⟩ i = [] := by
        unfold knownZ
        rw [if_neg (by dsimp only; decide), if_neg (by rintro (⟨-, h⟩ | ⟨h, -⟩); exact i1 ((h1 i).2 h); cases h), if_neg (by rintro (h | ⟨h, -⟩) <;> cases h), if_neg (by dsimp only; decide)]
      rw [hz]
      go_wp2_with fail
      go_ret
      exact ⟨_, rfl, names_none _, one_new' w _⟩
  by_cases k9 : kd = 9
  · subst k9
    by_cases i1 : (i : Int) = 0
    · have hz : knownZ ⟨9, num, a, b, c, kids⟩ i = [a, b] := by
        unfold knownZ
        rw [if_neg (by dsimp only; decide), if_neg (by rintro (⟨h, -⟩ | ⟨-, h⟩); cases h; omega), if_pos (Or.inl rfl)]
      rw [hz]
      go_wp2_with fail
      go_ret
      exact ⟨_, rfl, names_lit w _ [a, b], below_two w _ _⟩
    · have i1' : i = 1 := by
        have := hk2 rfl
        omega
      have hz : knownZ ⟨9, num, a, b, c, kids⟩ i = [a] := by unfold knownZ; rw [if_neg (by dsimp only; decide), if_pos (Or.inr ⟨rfl, i1'⟩)]
      rw [hz]
      go_wp2_with fail
      go_ret
      exact ⟨_, rfl, names_lit w _ [a], below_two w _ _⟩
  by_cases k20 : kd = 20
  · subst k20
    by_cases i2 : (i : Int) = 2
    · have hz : knownZ ⟨20, num, a, b, c, kids⟩ i = [a, b] := by
        unfold knownZ
        rw [if_neg (by dsimp only; decide), if_neg (by rintro (⟨h, -⟩ | ⟨h, -⟩) <;> cases h), if_pos (Or.inr ⟨rfl, (h2 i).1 i2⟩)]
      rw [hz]
      go_wp2_with fail
      go_ret
      exact ⟨_, rfl, names_lit w _ [a, b], below_two w _ _⟩
    · have hz : knownZ ⟨20, num, a, b, c, kids⟩ i = [] := by
        unfold knownZ
        rw [if_neg (by dsimp only; decide), if_neg (by rintro (⟨h, -⟩ | ⟨h, -⟩) <;> cases h), if_neg (by rintro (h | ⟨-, h⟩); cases h; exact i2 ((h2 i).2 h)), if_neg (by dsimp only; decide)]
      rw [hz]
      go_wp2_with fail
      go_ret
      exact ⟨_, rfl, names_none _, one_new' w _⟩
  by_cases k26 : kd = 26
  · subst k26
    have hz : knownZ ⟨26, num, a, b, c, kids⟩ i = [b, c] := by
      unfold knownZ
      rw [if_neg (by dsimp only; decide), if_neg (by rintro (⟨h, -⟩ | ⟨h, -⟩) <;> cases h), if_neg (by rintro (h | ⟨h, -⟩) <;> cases h), if_pos rfl]
    rw [hz]
    go_wp2_with fail
    go_ret
    exact ⟨_, rfl, names_lit w _ [b, c], below_two w _ _⟩
  · have hz : knownZ ⟨kd, num, a, b, c, kids⟩ i = [] := by
      unfold knownZ
      rw [if_neg (by rintro (h | h); exact k6 h; exact k25 h), if_neg (by rintro (⟨h, -⟩ | ⟨h, -⟩); exact k8 h; exact k9 h), if_neg (by rintro (h | ⟨h, -⟩); exact k9 h; exact k20 h), if_neg k26]
    rw [hz]
    have b6 : (kd == 6) = false := beq_eq_false_iff_ne.2 k6
    have b25 : (kd == 25) = false := beq_eq_false_iff_ne.2 k25
    have b8 : (kd == 8) = false := beq_eq_false_iff_ne.2 k8
    have b9 : (kd == 9) = false := beq_eq_false_iff_ne.2 k9
    have b20 : (kd == 20) = false := beq_eq_false_iff_ne.2 k20
    have b26 : (kd == 26) = false := beq_eq_false_iff_ne.2 k26
    clear hz h1 h2
    go_wp2_with fail
    go_ret
    exact ⟨_, rfl, names_none _, one_new' w _⟩
end Go.Proofs.YtgiejnmphfgmgaaGreatDoor

/- A number drawn out of bytes is from 0 on and below its bound. -/
namespace Go.Proofs.YtgiejnmphfgmgaaGreatDoor
open Go.RowKit

structure Picked (B : Nat) (p : Nat) (w w' : World) : Prop where
  cell0 : w'.cell? ⟨B, 0, none⟩ = w.cell? ⟨B, 0, none⟩
  cell1 : w'.cell? ⟨B, 1, none⟩ = some (.int .i64 ((p : Int) + 1))
  frozen : w'.frozen? ⟨B, 1, none⟩ = w.frozen? ⟨B, 1, none⟩
  other : ∀ a : Addr, a.block ≠ B → w'.cell? a = w.cell? a
  below : ∀ n, n ≤ B → Below n w w'
  how : w' = w.setCell ⟨B, 1, none⟩ (.int .i64 ((p : Int) + 1)) ∨ w' = (w.setCell ⟨B, 1, none⟩ (.int .i64 ((p : Int) + 1))).drew

theorem picked_set (B p : Nat) (w : World) (h1 : w.cell? ⟨B, 1, none⟩ = some (.int .i64 p)) : Picked B p w (w.setCell ⟨B, 1, none⟩ (.int .i64 ((p : Int) + 1))) where
  cell0 := by simp [go_sem]
  cell1 := World.cell?_setCell_same' _ _ _ (by rw [h1]; rfl)
  frozen := by simp
  other := fun a ha => World.cell?_of_block (w := w) (Below.heap_setCell w _ _ a.block ha)
  below := fun n hn => (Below.refl n w).setCell hn _
  how := Or.inl rfl

theorem picked_drew (B p : Nat) (w : World) (h1 : w.cell? ⟨B, 1, none⟩ = some (.int .i64 p)) : Picked B p w (w.setCell ⟨B, 1, none⟩ (.int .i64 ((p : Int) + 1))).drew where
  cell0 := (picked_set B p w h1).cell0
  cell1 := (picked_set B p w h1).cell1
  frozen := (picked_set B p w h1).frozen
  other := (picked_set B p w h1).other
  below := fun n hn => ((picked_set B p w h1).below n hn).drew
  how := Or.inr rfl

theorem xor_i64 (a b : Nat) (ha : a < 4611686018427387904) (hb : b < 4611686018427387904) :
    bits .xor .i64 (a : Int) (b : Int) = ((a ^^^ b : Nat) : Int) := by
  have hx : a ^^^ b < 2 ^ 62 := Nat.xor_lt_two_pow (by omega) (by omega)
  have h1 : (BitVec.ofInt 64 (a : Int)).toNat = a := by
    rw [BitVec.ofInt_natCast, BitVec.toNat_ofNat]; exact Nat.mod_eq_of_lt (by omega)
  have h2 : (BitVec.ofInt 64 (b : Int)).toNat = b := by
    rw [BitVec.ofInt_natCast, BitVec.toNat_ofNat]; exact Nat.mod_eq_of_lt (by omega)
  show IntKind.i64.wrap ((BitVec.ofInt 64 (a : Int) ^^^ BitVec.ofInt 64 (b : Int)).toNat : Int) = _
  rw [BitVec.toNat_xor, h1, h2, IntKind.wrap_i64]
  omega

def PickPost (B p : Nat) (n : Int) (w : World) (e : Ending) (w' : World) : Prop :=
  (∃ r, e = .returned (.int .i64 r) ∧ 0 ≤ r ∧ (0 < n → r < n)) ∧ Picked B p w w'

theorem far_sum (z y : Int) (p len : Nat) (hp : p ≤ 1000000) (hz0 : 0 ≤ z) (hz1 : z ≤ 255) (hy0 : 0 ≤ y) (hy1 : y ≤ 255) :
    ∃ x : Nat, x ≤ 1000000000000 ∧ wrap64 (z * 131 + y * 1117 + (p : Int) * 29 + wrap64 (wrap64 ((p : Int) / (len : Int)) * 53)) = (x : Int) := by
  have hq : ((p : Int) / (len : Int)) = ((p / len : Nat) : Int) := by omega
  have hq2 : p / len ≤ p := Nat.div_le_self _ _
  rw [hq]
  generalize p / len = q at hq2
  rw [IntWalk.wrap64_in (q : Int) ⟨by omega, by omega⟩, IntWalk.wrap64_in ((q : Int) * 53) ⟨by omega, by omega⟩, IntWalk.wrap64_in _ ⟨by omega, by omega⟩]
  exact ⟨(z * 131 + y * 1117 + (p : Int) * 29 + (q : Int) * 53).toNat, by omega, by omega⟩

theorem far_nat (x : Nat) (hx : x ≤ 1000000000000) : bits .xor .i64 (x : Int) (wrap64 ((x : Int) / 64)) = ((x ^^^ (x / 64) : Nat) : Int) := by
  rw [show ((x : Int) / 64) = ((x / 64 : Nat) : Int) by omega, IntWalk.wrap64_in _ ⟨by omega, by omega⟩]
  exact xor_i64 _ _ (by omega) (by omega)

theorem far_low (x : Nat) (hx : x ≤ 1000000000000) (n : Int) : 0 ≤ (bits .xor .i64 (x : Int) (wrap64 ((x : Int) / 64))).tmod n := by
  rw [far_nat x hx]
  exact Int.tmod_nonneg _ (Int.natCast_nonneg _)

theorem far_high (x : Nat) (hx : x ≤ 1000000000000) (n : Int) (hn : 0 < n) : (bits .xor .i64 (x : Int) (wrap64 ((x : Int) / 64))).tmod n < n := by
  rw [far_nat x hx]
  exact Int.tmod_lt_of_pos _ hn

end Go.Proofs.YtgiejnmphfgmgaaGreatDoor

/- What a drawer of programs stands on: the reader of bytes, the drawer's own block, lists that lie elsewhere; what a draw costs. -/
namespace Go.Proofs.YtgiejnmphfgmgaaGreatDoor
open Go.RowKit Go.Deep

/-- Where the reader lies, and the drawer; which bytes are read. -/
structure Dr where
  B : Nat
  G : Nat
  a0 : Option Addr
  len : Nat
  cap : Nat

/-- A block that is neither the reader's nor the drawer's. -/
def Dr.free (d : Dr) (W : World) (q : Nat) : Prop := q < W.heap.size ∧ q ≠ d.B ∧ q ≠ d.G

/-- Everything but the reader and the drawer lies as it lay. -/
structure Grew (d : Dr) (W W' : World) : Prop where
  os : W'.os = W.os
  tape : W'.tape = W.tape
  output : W'.output = W.output
  size : W.heap.size ≤ W'.heap.size
  block : ∀ q, d.free W q → W'.heap[q]? = W.heap[q]?

theorem Grew.refl (d : Dr) (W : World) : Grew d W W := ⟨rfl, rfl, rfl, Nat.le_refl _, fun _ _ => rfl⟩

theorem Dr.free.grew {d : Dr} {W W' : World} {q : Nat} (h : d.free W q) (g : Grew d W W') : d.free W' q := ⟨Nat.lt_of_lt_of_le h.1 g.size, h.2⟩

theorem Grew.trans {d : Dr} {W W' W'' : World} (h : Grew d W W') (g : Grew d W' W'') : Grew d W W'' :=
  ⟨g.os.trans h.os, g.tape.trans h.tape, g.output.trans h.output, Nat.le_trans h.size g.size, fun q hq => (g.block q (hq.grew h)).trans (h.block q hq)⟩

theorem Grew.of_below {d : Dr} {W W' : World} (h : Below W.heap.size W W') : Grew d W W' := ⟨h.os, h.tape, h.output, h.size, fun q hq => h.block q hq.1⟩

theorem Grew.alloc {d : Dr} {W W' : World} (h : Grew d W W') (o : Obj) : Grew d W (W'.alloc o) := h.trans (Grew.of_below ((Below.refl _ _).alloc (Nat.le_refl _) _))

theorem Grew.drew {d : Dr} {W W' : World} (h : Grew d W W') : Grew d W W'.drew := ⟨h.os, h.tape, h.output, h.size, h.block⟩

theorem Grew.below {d : Dr} {W W' : World} {n : Nat} (h : Grew d W W') (hn : n ≤ W.heap.size) (h1 : n ≤ d.B) (h2 : n ≤ d.G) : Below n W W' :=
  ⟨h.os, h.tape, h.output, h.size, fun q hq => h.block q ⟨by omega, by omega, by omega⟩⟩

theorem Grew.cell {d : Dr} {W W' : World} (h : Grew d W W') {p : Addr} (hq : d.free W p.block) : W'.cell? p = W.cell? p := World.cell?_of_block (h.block _ hq)

/-- A slice of n things of sz cells that lies elsewhere. -/
def Lies (d : Dr) (W : World) (v : Value) (n sz : Nat) (F : Nat → Value) : Prop :=
  (v = .slice none 0 0 ∧ n = 0) ∨ ∃ b off cap, v = .slice (some ⟨b, off, none⟩) n cap ∧ n ≤ cap ∧ off = 0 ∧ d.free W b ∧ ∀ i, i < n * sz → W.cell? ⟨b, off + i, none⟩ = some (F i)

theorem Lies.grew {d : Dr} {W W' : World} {v : Value} {n sz : Nat} {F : Nat → Value} (h : Lies d W v n sz F) (g : Grew d W W') : Lies d W' v n sz F := by
  rcases h with h | ⟨b, off, cap, rfl, hn, hz, hq, hc⟩
  · exact Or.inl h
  · exact Or.inr ⟨b, off, cap, rfl, hn, hz, hq.grew g, fun i hi => (g.cell (p := ⟨b, off + i, none⟩) hq).trans (hc i hi)⟩

theorem Lies.is {d : Dr} {W : World} {v : Value} {n sz : Nat} {F : Nat → Value} (h : Lies d W v n sz F) : ∃ ad cp, v = .slice ad n cp := by
  rcases h with ⟨rfl, rfl⟩ | ⟨b, off, cap, rfl, -⟩
  · exact ⟨_, _, rfl⟩
  · exact ⟨_, _, rfl⟩

theorem Lies.at {d : Dr} {W : World} {ad : Option Addr} {n cp n' sz : Nat} {F : Nat → Value} (h : Lies d W (.slice ad n cp) n' sz F) (h0 : 0 < n) : n' = n ∧ n ≤ cp ∧ ∃ b off, ad = some ⟨b, off, none⟩ ∧ d.free W b ∧ ∀ i, i < n * sz → W.cell? ⟨b, off + i, none⟩ = some (F i) := by
  rcases h with ⟨e, rfl⟩ | ⟨b, off, cap, e, hn, -, hq, hc⟩
  · cases e; omega
  · cases e
    exact ⟨rfl, hn, b, off, rfl, hq, hc⟩

/-- A name that is known. -/
structure Kn where
  name : ByteArray
  ty : Int
  res : Int

instance : Inhabited Kn := ⟨⟨ByteArray.empty, 0, 0⟩⟩

def Kn.cell (k : Kn) : Nat → Value
  | 0 => .string k.name
  | 1 => .int .i64 k.ty
  | _ => .int .i64 k.res

/-- Names are short. -/
def Brief (s : ByteArray) : Prop := s.size ≤ 100

def NodesD (d : Dr) (W : World) (v : Value) (ns : List Nd) : Prop := Lies d W v ns.length 6 (fun i => (ns.getD (i / 6) default).cell (i % 6)) ∧ ∀ n ∈ ns, Brief n.a ∧ Brief n.b ∧ Brief n.c
def KnowsD (d : Dr) (W : World) (v : Value) (ks : List Kn) : Prop := Lies d W v ks.length 3 (fun i => (ks.getD (i / 3) default).cell (i % 3)) ∧ ∀ k ∈ ks, Brief k.name
def BoolsD (d : Dr) (W : World) (v : Value) (ms : List Bool) : Prop := Lies d W v ms.length 1 (fun i => .bool (ms.getD i false))

theorem NodesD.grew {d : Dr} {W W' : World} {v : Value} {ns : List Nd} (h : NodesD d W v ns) (g : Grew d W W') : NodesD d W' v ns := ⟨h.1.grew g, h.2⟩
theorem KnowsD.grew {d : Dr} {W W' : World} {v : Value} {ks : List Kn} (h : KnowsD d W v ks) (g : Grew d W W') : KnowsD d W' v ks := ⟨h.1.grew g, h.2⟩
theorem BoolsD.grew {d : Dr} {W W' : World} {v : Value} {ms : List Bool} (h : BoolsD d W v ms) (g : Grew d W W') : BoolsD d W' v ms := Lies.grew h g

theorem getD_mem {α : Type} [Inhabited α] {l : List α} {k : Nat} (h : k < l.length) : l.getD k default ∈ l := by
  rw [show l.getD k default = l[k] by simp [List.getD, h]]
  exact List.getElem_mem h

theorem cell_div {α : Type} [Inhabited α] (l : List α) (f : α → Nat → Value) (sz k c : Nat) (hc : c < sz) : f (l.getD ((k * sz + c) / sz) default) ((k * sz + c) % sz) = f (l.getD k default) c := by
  rw [Nat.mul_comm k sz, Nat.mul_add_div (by omega), Nat.div_eq_of_lt hc, Nat.mul_add_mod, Nat.mod_eq_of_lt hc, Nat.add_zero]

theorem NodesD.slice {d : Dr} {W : World} {v : Value} {ns : List Nd} (h : NodesD d W v ns) : NodeSlice W v ns := by
  obtain ⟨h, -⟩ := h
  rcases h with ⟨rfl, h⟩ | ⟨b, off, cap, rfl, hn, -, hq, hc⟩
  · exact ⟨none, 0, by rw [h], Or.inl (List.eq_nil_of_length_eq_zero h)⟩
  · refine ⟨_, cap, rfl, Or.inr ⟨b, off, rfl, hq.1, fun k hk c hc' => ?_⟩⟩
    rw [Nat.add_assoc, hc (k * 6 + c) (by omega)]
    exact congrArg some (cell_div ns Nd.cell 6 k c hc')

theorem NodesD.short {d : Dr} {W : World} {v : Value} {ns : List Nd} (h : NodesD d W v ns) : Short ns := fun n hn => by
  obtain ⟨h1, h2, h3⟩ := h.2 n hn
  unfold Brief at h1 h2 h3
  unfold maxLen
  omega

theorem KnowsD.at {d : Dr} {W : World} {ad : Option Addr} {n cp : Nat} {ks : List Kn} (h : KnowsD d W (.slice ad n cp) ks) {i : Nat} (hi : i < n) : ∃ b off nm ty res, ad = some ⟨b, off, none⟩ ∧ ks.getD i default = ⟨nm, ty, res⟩ ∧ Brief nm ∧ d.free W b ∧ W.cell? ⟨b, off + i * 3, none⟩ = some (.string nm) ∧ W.cell? ⟨b, off + i * 3 + 1, none⟩ = some (.int .i64 ty) ∧ W.cell? ⟨b, off + i * 3 + 2, none⟩ = some (.int .i64 res) := by
  obtain ⟨h, hB⟩ := h
  obtain ⟨hl, -, b, off, rfl, hq, hc⟩ := h.at (by omega)
  obtain ⟨k, hk⟩ : ∃ k, ks.getD i default = k := ⟨_, rfl⟩
  have hb := hB _ (getD_mem (l := ks) (k := i) (by omega))
  have e : ∀ c, c < 3 → W.cell? ⟨b, off + (i * 3 + c), none⟩ = some (k.cell c) := fun c hc' => by
    rw [hc (i * 3 + c) (by omega), ← hk]
    exact congrArg some (cell_div ks Kn.cell 3 i c hc')
  rw [hk] at hb
  obtain ⟨nm, ty, res⟩ := k
  exact ⟨b, off, nm, ty, res, rfl, hk, hb, hq, e 0 (by omega), e 1 (by omega), e 2 (by omega)⟩

theorem KnowsD.is {d : Dr} {W : World} {v : Value} {ks : List Kn} (h : KnowsD d W v ks) : ∃ ad cp, v = .slice ad ks.length cp := h.1.is
theorem NodesD.is {d : Dr} {W : World} {v : Value} {ns : List Nd} (h : NodesD d W v ns) : ∃ ad cp, v = .slice ad ns.length cp := h.1.is
theorem BoolsD.is {d : Dr} {W : World} {v : Value} {ms : List Bool} (h : BoolsD d W v ms) : ∃ ad cp, v = .slice ad ms.length cp := Lies.is h

theorem BoolsD.at {d : Dr} {W : World} {ad : Option Addr} {n cp : Nat} {ms : List Bool} (h : BoolsD d W (.slice ad n cp) ms) {i : Nat} (hi : i < n) : ∃ b off, ad = some ⟨b, off, none⟩ ∧ d.free W b ∧ W.cell? ⟨b, off + i, none⟩ = some (.bool (ms.getD i false)) := by
  obtain ⟨hl, -, b, off, rfl, hq, hc⟩ := Lies.at h (by omega)
  exact ⟨b, off, rfl, hq, hc i (by omega)⟩

/-- What the drawer counts. -/
structure Cn where
  p : Nat
  left : Int
  next : Nat

/-- What was spent. -/
def Spent (s s' : Cn) (t c : Nat) : Prop := s'.p ≤ s.p + t ∧ s'.next ≤ s.next + t ∧ s.left - t ≤ s'.left ∧ s'.left ≤ s.left ∧ t + 300 * s'.left.toNat ≤ 300 * s.left.toNat + c

/-- There is enough left to spend. -/
def Fit (s : Cn) (c : Nat) : Prop := s.p + 300 * s.left.toNat + c ≤ 900000 ∧ s.next + 300 * s.left.toNat + c ≤ 900000 ∧ -900000 ≤ s.left - 300 * s.left.toNat - c ∧ s.left ≤ 1000

end Go.Proofs.YtgiejnmphfgmgaaGreatDoor

/- The drawer's small parts: rows of nodes and of names that are known, grown one by one. -/
namespace Go.Proofs.YtgiejnmphfgmgaaGreatDoor
open Go.RowKit Go.Deep

/-- The cells of a list of things of sz cells each. -/
def rowZ {α : Type} (f : α → Nat → Value) (sz : Nat) (l : List α) : List Value := l.flatMap fun x => (List.range sz).map (f x)

theorem rowZ_len {α : Type} (f : α → Nat → Value) (sz : Nat) : ∀ l : List α, (rowZ f sz l).length = l.length * sz
  | [] => by simp [rowZ]
  | x :: l => by
    have := rowZ_len f sz l
    simp only [rowZ, List.flatMap_cons, List.length_append, List.length_map, List.length_range, List.length_cons] at this ⊢
    rw [this, Nat.succ_mul]
    omega

theorem rowZ_app {α : Type} (f : α → Nat → Value) (sz : Nat) (l m : List α) : rowZ f sz (l ++ m) = rowZ f sz l ++ rowZ f sz m := by
  simp [rowZ, List.flatMap_append]

theorem rowZ_get {α : Type} [Inhabited α] (f : α → Nat → Value) (sz : Nat) (hz : 0 < sz) : ∀ (l : List α) (i : Nat), i < l.length * sz → (rowZ f sz l)[i]? = some (f (l.getD (i / sz) default) (i % sz))
  | [], i, h => by simp at h
  | x :: l, i, h => by
    have e : rowZ f sz (x :: l) = (List.range sz).map (f x) ++ rowZ f sz l := by simp [rowZ]
    rw [e]
    by_cases hi : i < sz
    · rw [List.getElem?_append_left (by simpa using hi), Nat.div_eq_of_lt hi, Nat.mod_eq_of_lt hi]
      simp [hi]
    · have hi' : sz ≤ i := by omega
      rw [List.length_cons, Nat.succ_mul] at h
      rw [List.getElem?_append_right (by simpa using hi')]
      simp only [List.length_map, List.length_range]
      rw [rowZ_get f sz hz l (i - sz) (by omega)]
      have e1 : i / sz = (i - sz) / sz + 1 := Nat.div_eq_sub_div hz hi'
      have e2 : i % sz = (i - sz) % sz := by rw [Nat.mod_eq_sub_mod hi']
      rw [e1, e2]
      simp [List.getD]

theorem wpList_append_by {P : Program} {ops : Array Oper} {rest : List Oper} {o : Oper} {a : Act} {w : World} {Q : Exit → Act → World → Prop} (hgd : o.guard = none) (s x : Operand) (t : TypeId)
    (ho : o.op = .call { callee := .builtin .append, args := #[s, x], argTypes := #[t, t] }) (v xv : Value) (hs : a.eval s = v) (hx : a.eval x = xv) {R : Value → World → Prop}
    (hr : ∀ ty, ∃ v' w', (Builtin.append_ #[t, t] ty #[v, xv]).run P w = .ok v' w' ∧ R v' w') (h : ∀ v' w', R v' w' → wpList P ops Q rest (a.put o.dst v') w') :
    wpList P ops Q (o :: rest) a w := by
  refine wpList_plain hgd fun K hK => ?_
  obtain ⟨v', w', hr, h2⟩ := hr o.type
  unfold Oper.wp execOp
  simp only [ho, resolve, invoke, builtin, Sem.run_bind, Sem.run_pure, Result.andThen_ok, List.map_toArray, List.map_cons, List.map_nil, hs, hx, hr]
  exact hK _ _ (h v' w' h2)

section
variable {d : Dr}

/-- Things that lie in a row of one's own, from a block on that is none of the drawer's. -/
theorem lies_owns {α : Type} [Inhabited α] {f : α → Nat → Value} {sz : Nat} (hz : 0 < sz) {W : World} {B : Nat} {t : TypeId} {v : Value} {l : List α} (h : W.ownsRow B t sz v l.length (rowZ f sz l)) (h1 : d.B < B) (h2 : d.G < B) : Lies d W v l.length sz (fun i => f (l.getD (i / sz) default) (i % sz)) := by
  have h' := h
  obtain ⟨-, ⟨rfl, h0⟩ | ⟨g, cap, cur, rfl, hB, hc, hnc, -⟩⟩ := h
  · exact Or.inl ⟨rfl, h0⟩
  · refine Or.inr ⟨g, 0, cap, rfl, hnc, rfl, ⟨heap_lt hc, by omega, by omega⟩, fun i hi => ?_⟩
    rw [Nat.zero_add, h'.cellAt i hi, rowZ_get f sz hz l i hi]

/-- A row that was just written out. -/
theorem lies_lit {α : Type} [Inhabited α] {f : α → Nat → Value} {sz : Nat} (hz : 0 < sz) (W : World) (t : TypeId) (l : List α) (c : Array Value) (hc : c = (rowZ f sz l).toArray) (h1 : d.B < W.heap.size) (h2 : d.G < W.heap.size) : Lies d (W.alloc (.cells c t)) (.slice (some ⟨W.heap.size, 0, none⟩) l.length l.length) l.length sz (fun i => f (l.getD (i / sz) default) (i % sz)) := by
  subst hc
  have hh := (MapKept.heap_alloc W (.cells (rowZ f sz l).toArray t)).1
  refine Or.inr ⟨_, 0, _, rfl, Nat.le_refl _, rfl, ⟨heap_lt hh, by omega, by omega⟩, fun i hi => ?_⟩
  rw [Nat.zero_add, cell_of_heap hh i, List.getElem?_toArray, rowZ_get f sz hz l i hi]

/-- Things appended to a row of one's own. -/
theorem app_row {α : Type} [Inhabited α] {f : α → Nat → Value} (h1 : ∀ x i, (f x i).oneCell' = true) {sz : Nat} {W : World} {B : Nat} {t e : TypeId} {i0 : TypeInfo} {z : Value} {by_ : Nat} (ht : Tryz.prog.underlying t = some (.slice e)) (hi : Tryz.prog.info? e = some i0) (hz0 : i0.zero = some z) (hz1 : i0.size = sz) (hz2 : i0.bytes = by_) (hzs : z.cells.size = sz) (hsz : 0 < sz) (hby : by_ ≤ 100) {v xv : Value} {l m : List α}
    (hown : W.ownsRow B e sz v l.length (rowZ f sz l)) (hx : Lies d W xv m.length sz (fun i => f (m.getD (i / sz) default) (i % sz))) (hm : l.length + m.length ≤ 1000000) (hB : B ≤ W.heap.size) (ty : TypeId) :
    ∃ v' W', (Builtin.append_ #[t, t] ty #[v, xv]).run Tryz.prog W = .ok v' W' ∧ W'.ownsRow B e sz v' (l ++ m).length (rowZ f sz (l ++ m)) ∧ W.grownBy W' v.ownBlock := by
  rcases hx with ⟨rfl, hl⟩ | ⟨b, off, cap, rfl, -, -, hq, hc⟩
  · have : m = [] := List.eq_nil_of_length_eq_zero hl
    subst this
    refine ⟨v, W, run_append_owned_none W B t ty e i0 sz ht hi v _ _ hown, ?_, ⟨rfl, rfl, rfl, Nat.le_refl _, fun _ _ _ => rfl⟩⟩
    rw [List.append_nil]
    exact hown
  · obtain ⟨v', W', hr, h2, h3, -, -⟩ := run_append_own_at (P := Tryz.prog) W B t ty e i0 z sz by_ ht hi hz0 hz1 hz2 hzs hsz v l.length (rowZ f sz l) hown ⟨b, off, none⟩ m.length cap (rowZ f sz m) (rowZ_len f sz m)
      (fun j u hu => by
        have hj : j < m.length * sz := by
          have := (List.getElem?_eq_some_iff.1 hu).1
          rwa [rowZ_len] at this
        rw [rowZ_get f sz hsz m j hj] at hu
        cases hu
        rw [Addr.add_lit]
        exact hc j hj)
      (fun u hu => by
        unfold rowZ at hu
        rw [List.mem_flatMap] at hu
        obtain ⟨x, -, hu⟩ := hu
        rw [List.mem_map] at hu
        obtain ⟨i, -, rfl⟩ := hu
        exact h1 x i) (by unfold maxLen; omega) (by
          have := Nat.mul_le_mul hm hby
          omega) hB
    refine ⟨v', W', hr, ?_, h3⟩
    rw [List.length_append, rowZ_app]
    exact h2
end

theorem nd_one (n : Nd) (i : Nat) : (n.cell i).oneCell' = true := by
  match i with
  | 0 => rfl
  | 1 => rfl
  | 2 => rfl
  | 3 => rfl
  | 4 => rfl
  | _ + 5 => rfl

theorem kn_one (k : Kn) (i : Nat) : (k.cell i).oneCell' = true := by
  match i with
  | 0 => rfl
  | 1 => rfl
  | _ + 2 => rfl

theorem brief_none : Brief ByteArray.empty := by unfold Brief; decide

/-- Lists of nodes, in a list. -/
def KidsV (d : Dr) (W : World) (v : Value) (ls : List (Value × List Nd)) : Prop :=
  Lies d W v ls.length 1 (fun i => (ls.getD i (.slice none 0 0, [])).1) ∧ ∀ x ∈ ls, NodesD d W x.1 x.2

def flatL (ls : List (Value × List Nd)) : List Nd := ls.flatMap Prod.snd

theorem flatL_take (ls : List (Value × List Nd)) (i : Nat) (h : i < ls.length) : flatL (ls.take (i + 1)) = flatL (ls.take i) ++ (ls.getD i (.slice none 0 0, [])).2 := by
  unfold flatL
  rw [List.take_add_one, List.flatMap_append]
  simp [List.getD, h]

theorem flatL_le (ls : List (Value × List Nd)) (i : Nat) : (flatL (ls.take i)).length ≤ (flatL ls).length := by
  conv => rhs; rw [← List.take_append_drop i ls]
  unfold flatL
  rw [List.flatMap_append, List.length_append]
  omega

theorem flatL_mem {ls : List (Value × List Nd)} {n : Nd} (h : n ∈ flatL ls) : ∃ x ∈ ls, n ∈ x.2 := by
  unfold flatL at h
  rw [List.mem_flatMap] at h
  exact h

theorem put_step {W wr W' : World} {acc ns : List Nd} {out v' : Value} (h : wr.ownsRow W.heap.size 81 6 out acc.length (rowZ Nd.cell 6 acc) ∧ Below W.heap.size W wr) (h' : W'.ownsRow W.heap.size 81 6 v' (acc ++ ns).length (rowZ Nd.cell 6 (acc ++ ns)) ∧ wr.grownBy W' out.ownBlock) :
    W'.ownsRow W.heap.size 81 6 v' (acc ++ ns).length (rowZ Nd.cell 6 (acc ++ ns)) ∧ Below W.heap.size W W' :=
  ⟨h'.1, h.2.grown h'.2 h.2.size (fun k hk => (h.1.lt k hk).1)⟩

end Go.Proofs.YtgiejnmphfgmgaaGreatDoor

/- What the specification's maker of code keeps in memory; its small functions. -/
namespace Go.Proofs.YtgiejnmphfgmgaaGreatDoor
open Go.RowKit Go.Deep

/-- A slice of names in a row of names. -/
def NmT (W : World) (v : Value) (ss : List ByteArray) : Prop :=
  (v = .slice none 0 0 ∧ ss = []) ∨ ∃ g c cur, v = .slice (some ⟨g, 0, none⟩) ss.length c ∧ W.heap[g]? = some (.cells cur 9) ∧ ∀ j, j < ss.length → cur[j]? = some (.string (ss.getD j ⟨#[]⟩))

theorem NmT.names {W : World} {v : Value} {ss : List ByteArray} (h : NmT W v ss) : NamesV W v ss := by
  rcases h with h | ⟨g, c, cur, e, hg, hc⟩
  · exact Or.inl h
  · exact Or.inr ⟨g, 0, c, e, heap_lt hg, fun j hj => by rw [Nat.zero_add, cell_of_heap hg j]; exact hc j hj⟩

theorem NmT.is {W : World} {v : Value} {ss : List ByteArray} (h : NmT W v ss) : ∃ ad c, v = .slice ad ss.length c := h.names.slice

theorem nmT_owns {W : World} {B : Nat} {v : Value} {n : Nat} {ss : List ByteArray} (h : W.ownsRow B 9 1 v n (strRow ss)) : NmT W v ss := by
  have hl : n = ss.length := (names_owns h).2
  subst hl
  obtain ⟨-, ⟨rfl, h0⟩ | ⟨g, cap, cur, rfl, hB, hg, h1, h2, h3, h4⟩⟩ := h
  · exact Or.inl ⟨rfl, List.eq_nil_of_length_eq_zero h0⟩
  · refine Or.inr ⟨g, cap, cur, rfl, hg, fun j hj => ?_⟩
    have e := congrArg (fun l => l[j]?) h4
    simp only [List.getElem?_take_of_lt (show j < ss.length * 1 by omega), strRow_get ss j hj, Array.getElem?_toList] at e
    exact e

/-- What the maker's functions leave as it was: all but its own three kinds of blocks. -/
structure Cf (W W' : World) : Prop where
  os : W'.os = W.os
  tape : W'.tape = W.tape
  output : W'.output = W.output
  size : W.heap.size ≤ W'.heap.size
  block : ∀ (q : Nat) (c : Array Value) (t : TypeId), W.heap[q]? = some (Obj.cells c t) → t ≠ 52 → t ≠ 54 → t ≠ 48 → W'.heap[q]? = W.heap[q]?

theorem Cf.of_below {W W' : World} (h : Below W.heap.size W W') : Cf W W' := ⟨h.os, h.tape, h.output, h.size, fun q _ _ hq _ _ _ => h.block q (heap_lt hq)⟩
theorem Cf.refl (W : World) : Cf W W := Cf.of_below (Below.refl _ _)
theorem Cf.trans {W W' W'' : World} (h : Cf W W') (h' : Cf W' W'') : Cf W W'' :=
  ⟨h'.os.trans h.os, h'.tape.trans h.tape, h'.output.trans h.output, Nat.le_trans h.size h'.size, fun q c t hq h1 h2 h3 => by
    have e := h.block q c t hq h1 h2 h3
    exact (h'.block q c t (e.trans hq) h1 h2 h3).trans e⟩

theorem NmT.frame {W W' : World} {v : Value} {ss : List ByteArray} (h : NmT W v ss) (hf : Cf W W') : NmT W' v ss := by
  rcases h with h | ⟨g, c, cur, e, hg, hc⟩
  · exact Or.inl h
  · exact Or.inr ⟨g, c, cur, e, (hf.block g cur _ hg (by decide) (by decide) (by decide)).trans hg, hc⟩

def ltV (x : Lt × Value) : Nat → Value
  | 0 => .int .i64 (x.1.t.at_ : Int)
  | 1 => x.2
  | 2 => .int .i64 (x.1.fr : Int)
  | _ => .int .i64 (x.1.wh : Int)

instance : Inhabited Lt := ⟨⟨default, [], 0, 0⟩⟩

/-- The maker, as it lies. -/
structure Cm (W0 : World) (Mb : Nat) (ve vt : Value) (s : Cs) (ls : List (Lt × Value)) (vo vl : Value) (W : World) : Prop where
  blk : W.heap[Mb]? = some (.cells #[ve, vt, vo, vl] 48)
  orow : W.ownsRow W0.heap.size 52 4 vo s.out.length (rowZ In.cell 4 s.out)
  lrow : W.ownsRow W0.heap.size 54 4 vl ls.length (rowZ ltV 4 ls)
  lnam : ∀ x ∈ ls, NmT W x.2 x.1.names
  lfst : ls.map Prod.fst = s.later
  os : W.os = W0.os
  tape : W.tape = W0.tape
  output : W.output = W0.output
  size : W0.heap.size ≤ W.heap.size
  kept : ∀ q, q < W0.heap.size → q ≠ Mb → W.heap[q]? = W0.heap[q]?
  nb : Mb < W0.heap.size

def CmE (W0 : World) (Mb : Nat) (ve vt : Value) (s : Cs) (W : World) : Prop := ∃ ls vo vl, Cm W0 Mb ve vt s ls vo vl W

theorem row_keeps {W W' : World} {B : Nat} {e : TypeId} {sz : Nat} {v : Value} {n : Nat} {xs : List Value} (h : W.ownsRow B e sz v n xs) (he : ∀ g c, W.heap[g]? = some (.cells c e) → B ≤ g → W'.heap[g]? = W.heap[g]?) : W'.ownsRow B e sz v n xs :=
  own_same h (fun g eg => by obtain ⟨hB, c, hc⟩ := own_type h eg; exact he g c hc hB)

/-- Something elsewhere is done. -/
theorem Cm.below {W0 : World} {Mb : Nat} {ve vt : Value} {s : Cs} {ls : List (Lt × Value)} {vo vl : Value} {W W' : World} (h : Cm W0 Mb ve vt s ls vo vl W) (hb : Below W.heap.size W W') : Cm W0 Mb ve vt s ls vo vl W' :=
  ⟨(hb.block _ (heap_lt h.blk)).trans h.blk, row_keeps h.orow (fun g _ hc _ => hb.block g (heap_lt hc)), row_keeps h.lrow (fun g _ hc _ => hb.block g (heap_lt hc)), fun x hx => (h.lnam x hx).frame (Cf.of_below hb), h.lfst,
    hb.os.trans h.os, hb.tape.trans h.tape, hb.output.trans h.output, Nat.le_trans h.size hb.size, fun q hq hn => (hb.block q (Nat.lt_of_lt_of_le hq h.size)).trans (h.kept q hq hn), h.nb⟩

theorem CmE.below {W0 : World} {Mb : Nat} {ve vt : Value} {s : Cs} {W W' : World} (h : CmE W0 Mb ve vt s W) (hb : Below W.heap.size W W') : CmE W0 Mb ve vt s W' := by
  obtain ⟨ls, vo, vl, h⟩ := h
  exact ⟨ls, vo, vl, h.below hb⟩

theorem maker_set2 {W : World} {Mb : Nat} {a b c d : Value} (h : W.heap[Mb]? = some (.cells #[a, b, c, d] 48)) (v : Value) : (W.setCell ⟨Mb, 2, none⟩ v).heap[Mb]? = some (.cells #[a, b, v, d] 48) := by
  simp [World.setCell, Array.getElem?_modify, h]

theorem maker_set3 {W : World} {Mb : Nat} {a b c d : Value} (h : W.heap[Mb]? = some (.cells #[a, b, c, d] 48)) (v : Value) : (W.setCell ⟨Mb, 3, none⟩ v).heap[Mb]? = some (.cells #[a, b, c, v] 48) := by
  simp [World.setCell, Array.getElem?_modify, h]

/-- The block of a row of another kind. -/
theorem row_ne {W : World} {B : Nat} {e : TypeId} {sz : Nat} {v : Value} {n : Nat} {xs : List Value} (h : W.ownsRow B e sz v n xs) {q : Nat} {c : Array Value} {t : TypeId} (hq : W.heap[q]? = some (.cells c t)) (ht : t ≠ e) : some q ≠ v.ownBlock := fun e2 => by
  obtain ⟨-, cur, hc⟩ := own_type h e2.symm
  rw [hq] at hc
  cases hc
  exact ht rfl

/-- An instruction more. -/
theorem cm_put {W0 : World} {Mb : Nat} {ve vt : Value} {s : Cs} {ls : List (Lt × Value)} {vo vl : Value} {W W' : World} (h : Cm W0 Mb ve vt s ls vo vl W) (i : In) {vo' : Value} (ho : W'.ownsRow W0.heap.size 52 4 vo' (s.out.length + 1) (rowZ In.cell 4 s.out ++ [.int .i64 i.op, .int .i64 i.a, .int .i64 i.b, .int .i64 i.c])) (hg : W.grownBy W' vo.ownBlock) :
    CmE W0 Mb ve vt (s.put i) (W'.setCell ⟨Mb, 2, none⟩ vo') ∧ Cf W (W'.setCell ⟨Mb, 2, none⟩ vo') := by
  have e : ∀ q, q ≠ Mb → (W'.setCell ⟨Mb, 2, none⟩ vo').heap[q]? = W'.heap[q]? := fun q hq => Below.heap_setCell W' ⟨Mb, 2, none⟩ _ q hq
  have hs : (W'.setCell ⟨Mb, 2, none⟩ vo').heap.size = W'.heap.size := by simp [World.setCell]
  have hb' := (hg.block Mb (heap_lt h.blk) (row_ne h.orow h.blk (by decide))).trans h.blk
  have hf : Cf W (W'.setCell ⟨Mb, 2, none⟩ vo') := ⟨hg.os, hg.tape, hg.output, by rw [hs]; exact hg.size, fun q c t hq h1 _ h3 => (e q (fun e2 => by subst e2; rw [h.blk] at hq; cases hq; exact h3 rfl)).trans (hg.block q (heap_lt hq) (row_ne h.orow hq h1))⟩
  refine ⟨⟨ls, vo', vl, maker_set2 hb' _, ?_, ?_, fun x hx => (h.lnam x hx).frame hf, h.lfst, hg.os.trans h.os, hg.tape.trans h.tape, hg.output.trans h.output, by rw [hs]; exact Nat.le_trans h.size hg.size, fun q hq hn => ?_, h.nb⟩, hf⟩
  · have e3 : rowZ In.cell 4 (s.out ++ [i]) = rowZ In.cell 4 s.out ++ [.int .i64 i.op, .int .i64 i.a, .int .i64 i.b, .int .i64 i.c] := by rw [rowZ_app]; rfl
    show (W'.setCell ⟨Mb, 2, none⟩ vo').ownsRow _ _ _ _ (s.out ++ [i]).length (rowZ In.cell 4 (s.out ++ [i]))
    rw [e3, List.length_append]
    exact row_keeps ho (fun g c hc _ => e g (fun e2 => by subst e2; rw [hb'] at hc; cases hc))
  · exact row_keeps h.lrow (fun g c hc _ => (e g (fun e2 => by subst e2; rw [h.blk] at hc; cases hc)).trans (hg.block g (heap_lt hc) (row_ne h.orow hc (by decide))))
  · refine (e q hn).trans ((hg.block q (Nat.lt_of_lt_of_le hq h.size) (fun e2 => ?_)).trans (h.kept q hq hn))
    have := (own_type h.orow e2.symm).1
    omega

/-- A part more is put off. -/
theorem cm_wait {W0 : World} {Mb : Nat} {ve vt : Value} {s : Cs} {ls : List (Lt × Value)} {vo vl : Value} {W W' : World} (h : Cm W0 Mb ve vt s ls vo vl W) (l : Lt) {v : Value} (hn : NmT W v l.names) {vl' : Value} (ho : W'.ownsRow W0.heap.size 54 4 vl' (ls.length + 1) (rowZ ltV 4 ls ++ [.int .i64 (l.t.at_ : Int), v, .int .i64 (l.fr : Int), .int .i64 (l.wh : Int)])) (hg : W.grownBy W' vl.ownBlock) :
    CmE W0 Mb ve vt (s.wait l) (W'.setCell ⟨Mb, 3, none⟩ vl') ∧ Cf W (W'.setCell ⟨Mb, 3, none⟩ vl') := by
  have e : ∀ q, q ≠ Mb → (W'.setCell ⟨Mb, 3, none⟩ vl').heap[q]? = W'.heap[q]? := fun q hq => Below.heap_setCell W' ⟨Mb, 3, none⟩ _ q hq
  have hs : (W'.setCell ⟨Mb, 3, none⟩ vl').heap.size = W'.heap.size := by simp [World.setCell]
  have hb' := (hg.block Mb (heap_lt h.blk) (row_ne h.lrow h.blk (by decide))).trans h.blk
  have hf : Cf W (W'.setCell ⟨Mb, 3, none⟩ vl') := ⟨hg.os, hg.tape, hg.output, by rw [hs]; exact hg.size, fun q c t hq _ h1 h3 => (e q (fun e2 => by subst e2; rw [h.blk] at hq; cases hq; exact h3 rfl)).trans (hg.block q (heap_lt hq) (row_ne h.lrow hq h1))⟩
  refine ⟨⟨ls ++ [(l, v)], vo, vl', maker_set3 hb' _, ?_, ?_, fun x hx => ?_, ?_, hg.os.trans h.os, hg.tape.trans h.tape, hg.output.trans h.output, by rw [hs]; exact Nat.le_trans h.size hg.size, fun q hq hn => ?_, h.nb⟩, hf⟩
  · exact row_keeps h.orow (fun g c hc _ => (e g (fun e2 => by subst e2; rw [h.blk] at hc; cases hc)).trans (hg.block g (heap_lt hc) (row_ne h.lrow hc (by decide))))
  · have e3 : rowZ ltV 4 (ls ++ [(l, v)]) = rowZ ltV 4 ls ++ [.int .i64 (l.t.at_ : Int), v, .int .i64 (l.fr : Int), .int .i64 (l.wh : Int)] := by rw [rowZ_app]; rfl
    rw [e3, List.length_append]
    exact row_keeps ho (fun g c hc _ => e g (fun e2 => by subst e2; rw [hb'] at hc; cases hc))
  · rw [List.mem_append, List.mem_singleton] at hx
    rcases hx with hx | rfl
    · exact (h.lnam x hx).frame hf
    · exact hn.frame hf
  · rw [List.map_append, h.lfst]
    rfl
  · refine (e q hn).trans ((hg.block q (Nat.lt_of_lt_of_le hq h.size) (fun e2 => ?_)).trans (h.kept q hq hn))
    have := (own_type h.lrow e2.symm).1
    omega

/-- An instruction is written anew. -/
def quad (X : World) (g k : Nat) (i : In) : World := (((X.setCell ⟨g, k * 4, none⟩ (.int .i64 i.op)).setCell ⟨g, k * 4 + 1, none⟩ (.int .i64 i.a)).setCell ⟨g, k * 4 + 2, none⟩ (.int .i64 i.b)).setCell ⟨g, k * 4 + 3, none⟩ (.int .i64 i.c)

theorem quad_other (X : World) (g k : Nat) (i : In) : (∀ j, j ≠ g → (quad X g k i).heap[j]? = X.heap[j]?) ∧ (quad X g k i).heap.size = X.heap.size := by
  refine ⟨fun j hj => ?_, by simp [quad, World.setCell]⟩
  unfold quad
  rw [Below.heap_setCell _ ⟨g, k * 4 + 3, none⟩ _ j hj, Below.heap_setCell _ ⟨g, k * 4 + 2, none⟩ _ j hj, Below.heap_setCell _ ⟨g, k * 4 + 1, none⟩ _ j hj, Below.heap_setCell _ ⟨g, k * 4, none⟩ _ j hj]

theorem quad_os (X : World) (g k : Nat) (i : In) : (quad X g k i).os = X.os ∧ (quad X g k i).tape = X.tape ∧ (quad X g k i).output = X.output := by
  simp [quad, World.setCell]

theorem quad_list (l : List In) (k : Nat) (hk : k < l.length) (i : In) : ((((rowZ In.cell 4 l).set (k * 4) (.int .i64 i.op)).set (k * 4 + 1) (.int .i64 i.a)).set (k * 4 + 2) (.int .i64 i.b)).set (k * 4 + 3) (.int .i64 i.c) = rowZ In.cell 4 (l.set k i) := by
  apply List.ext_getElem?
  intro j
  by_cases hj : j < l.length * 4
  · rw [rowZ_get In.cell 4 (by decide) (l.set k i) j (by rw [List.length_set]; exact hj)]
    have hl := rowZ_len In.cell 4 l
    have h0 := rowZ_get In.cell 4 (by decide) l j hj
    by_cases hik : j / 4 = k
    · have hgd : (l.set k i).getD (j / 4) default = i := by rw [hik]; simp [List.getD, hk]
      rw [hgd]
      have hr : j % 4 = 0 ∨ j % 4 = 1 ∨ j % 4 = 2 ∨ j % 4 = 3 := by omega
      rcases hr with hr | hr | hr | hr
      · rw [List.getElem?_set_ne (by omega), List.getElem?_set_ne (by omega), List.getElem?_set_ne (by omega), show k * 4 = j by omega, List.getElem?_set_self (by omega), hr]; rfl
      · rw [List.getElem?_set_ne (by omega), List.getElem?_set_ne (by omega), show k * 4 + 1 = j by omega, List.getElem?_set_self (by simp; omega), hr]; rfl
      · rw [List.getElem?_set_ne (by omega), show k * 4 + 2 = j by omega, List.getElem?_set_self (by simp; omega), hr]; rfl
      · rw [show k * 4 + 3 = j by omega, List.getElem?_set_self (by simp; omega), hr]; rfl
    · rw [List.getElem?_set_ne (by omega), List.getElem?_set_ne (by omega), List.getElem?_set_ne (by omega), List.getElem?_set_ne (by omega), h0]
      have hgd : (l.set k i).getD (j / 4) default = l.getD (j / 4) default := by simp [List.getD, List.getElem?_set_ne (Ne.symm hik)]
      rw [hgd]
  · rw [List.getElem?_eq_none (by simp only [List.length_set, rowZ_len]; omega), List.getElem?_eq_none (by simp only [List.length_set, rowZ_len]; omega)]

theorem quad_row {X : World} {B g cap k : Nat} {l : List In} (h : X.ownsRow B 52 4 (.slice (some ⟨g, 0, none⟩) l.length cap) l.length (rowZ In.cell 4 l)) (hk : k < l.length) (i : In) : (quad X g k i).ownsRow B 52 4 (.slice (some ⟨g, 0, none⟩) (l.set k i).length cap) (l.set k i).length (rowZ In.cell 4 (l.set k i)) := by
  have h1 := (h.stored (k * 4) (.int .i64 i.op)).1
  have h2 := (h1.stored (k * 4 + 1) (.int .i64 i.a)).1
  have h3 := (h2.stored (k * 4 + 2) (.int .i64 i.b)).1
  have h4 := (h3.stored (k * 4 + 3) (.int .i64 i.c)).1
  rw [quad_list l k hk i] at h4
  rw [List.length_set]
  exact h4

theorem cm_lead {W0 : World} {Mb : Nat} {ve vt : Value} {s : Cs} {ls : List (Lt × Value)} {g cap : Nat} {vl : Value} {W : World} (h : Cm W0 Mb ve vt s ls (.slice (some ⟨g, 0, none⟩) s.out.length cap) vl W) {fr : Nat} (hfr : fr < s.out.length) (wh : Nat) :
    CmE W0 Mb ve vt (s.lead fr wh) (quad W g fr ((s.out.getD fr default).lead wh s.out.length)) ∧ Cf W (quad W g fr ((s.out.getD fr default).lead wh s.out.length)) := by
  obtain ⟨e, hs⟩ := quad_other W g fr ((s.out.getD fr default).lead wh s.out.length)
  obtain ⟨o1, o2, o3⟩ := quad_os W g fr ((s.out.getD fr default).lead wh s.out.length)
  obtain ⟨hB, cur, hc⟩ := own_type h.orow (g := g) rfl
  have hf : Cf W (quad W g fr ((s.out.getD fr default).lead wh s.out.length)) := ⟨o1, o2, o3, by rw [hs]; exact Nat.le_refl _, fun q c t hq h1 _ _ => e q (fun e2 => by subst e2; rw [hc] at hq; cases hq; exact h1 rfl)⟩
  refine ⟨⟨ls, .slice (some ⟨g, 0, none⟩) s.out.length cap, vl, (e Mb (fun e2 => by subst e2; rw [h.blk] at hc; cases hc)).trans h.blk, ?_, row_keeps h.lrow (fun q c hq _ => e q (fun e2 => by subst e2; rw [hc] at hq; cases hq)), fun x hx => (h.lnam x hx).frame hf, h.lfst, o1.trans h.os, o2.trans h.tape, o3.trans h.output, by rw [hs]; exact h.size, fun q hq hn => (e q (by omega)).trans (h.kept q hq hn), h.nb⟩, hf⟩
  have := quad_row h.orow hfr ((s.out.getD fr default).lead wh s.out.length)
  rw [List.length_set] at this
  show (quad W g fr _).ownsRow _ _ _ _ (s.out.set fr _).length _
  rw [List.length_set]
  exact this
end Go.Proofs.YtgiejnmphfgmgaaGreatDoor

/- The maker's small functions. -/
namespace Go.Proofs.YtgiejnmphfgmgaaGreatDoor
open Go.RowKit Go.Deep

theorem info_insC : (Tryz.prog.info? 52).map (fun i => (i.zero, i.size, i.bytes)) = some (some (.agg #[.int .i64 0, .int .i64 0, .int .i64 0, .int .i64 0]), 4, 32) := by kernel_rfl
theorem info_later : (Tryz.prog.info? 54).map (fun i => (i.zero, i.size, i.bytes)) = some (some (.agg #[.int .i64 0, .slice none 0 0, .int .i64 0, .int .i64 0]), 4, 48) := by kernel_rfl

def PutPost (W0 : World) (Mb : Nat) (ve vt : Value) (s : Cs) (i : In) (W : World) (e : Ending) (W' : World) : Prop :=
  e = .returned (.int .i64 (s.out.length : Int)) ∧ CmE W0 Mb ve vt (s.put i) W' ∧ Cf W W'

set_option maxHeartbeats 2000000 in
set_option maxRecDepth 100000 in
theorem putM_calls {W0 : World} {Mb : Nat} {ve vt : Value} {s : Cs} (i : In) {W : World} (h : CmE W0 Mb ve vt s W) (hl : s.out.length ≤ 960000) :
    Calls Tryz.prog 18 #[.pointer (some ⟨Mb, 0, none⟩), .agg #[.int .i64 i.op, .int .i64 i.a, .int .i64 i.b, .int .i64 i.c]] W (PutPost W0 Mb ve vt s i W) := by
  obtain ⟨ls, vo, vl, h⟩ := h
  obtain ⟨op, a, b, c⟩ := i
  obtain ⟨adp, cpp, hvp⟩ := own_slice h.orow
  subst hvp
  have hbx := (MapKept.heap_alloc W (.cells #[.int .i64 op, .int .i64 a, .int .i64 b, .int .i64 c] 52)).1
  have hb0 : Below W.heap.size W (W.alloc (.cells #[.int .i64 op, .int .i64 a, .int .i64 b, .int .i64 c] 52)) := (Below.refl _ _).alloc (Nat.le_refl _) _
  obtain ⟨Y, hY⟩ : ∃ Y, W.alloc (.cells #[.int .i64 op, .int .i64 a, .int .i64 b, .int .i64 c] 52) = Y := ⟨_, rfl⟩
  have HY := hid hY
  rw [hY] at hbx hb0
  have St0 := hid (h.below hb0)
  have HB0 := hid hb0
  have HBx := hid hbx
  have HL := hid hl
  have hsz : W.heap.size + 1 = Y.heap.size := by rw [← hY]; simp
  have d1 := cell_of_heap St0.out.blk 2
  simp at d1
  have hPl : Mb < Y.heap.size := heap_lt St0.out.blk
  have hxl : W.heap.size < Y.heap.size := by omega
  have e0 := cell_of_heap HBx.out 0
  have e1 := cell_of_heap HBx.out 1
  have e2 := cell_of_heap HBx.out 2
  have e3 := cell_of_heap HBx.out 3
  simp at e0 e1 e2 e3
  clear h hl hY hb0 hbx
  go_enter Tryz.func18, Tryz.ntmps18
  go_upto_region 1 with fail
  rw [HY.out]
  clear HY
  have q0 : ∀ y : Later Y.heap.size Y, y.w.cell? ⟨Mb, 2, none⟩ = _ := fun y => y.cell hPl d1
  have p0 : ∀ y : Later Y.heap.size Y, y.w.cell? ⟨W.heap.size, 0, none⟩ = _ := fun y => y.cell hxl e0
  have p1 : ∀ y : Later Y.heap.size Y, y.w.cell? ⟨W.heap.size, 1, none⟩ = _ := fun y => y.cell hxl e1
  have p2 : ∀ y : Later Y.heap.size Y, y.w.cell? ⟨W.heap.size, 2, none⟩ = _ := fun y => y.cell hxl e2
  have p3 : ∀ y : Later Y.heap.size Y, y.w.cell? ⟨W.heap.size, 3, none⟩ = _ := fun y => y.cell hxl e3
  clear d1 e0 e1 e2 e3
  refine till_begin (c := 7) (S := fun w' => ∃ x : Later Y.heap.size Y, w' = x.w) (by kernel_rfl) ?_
  refine till_walk (by kernel_rfl) 6 0 _ _ (by kernel_rfl) (by kernel_rfl) ⟨⟨Y.drew, (Below.refl _ _).drew⟩, rfl⟩ ?_
  simp only [List.drop_zero, List.take_succ_cons, List.take_zero]
  repeat (go_big_quiet_step (fail))
  refine wpQuiet_nil ?_
  rintro w7 ⟨x1, rfl⟩
  have hL1 := x1.h
  clear q0 p0 p1 p2 p3
  generalize x1.w = X1 at *
  refine till_make (k := 6) (v := .slice (some ⟨X1.heap.size, 0, none⟩) 1 1) (w1 := X1.alloc (.cells #[.int .i64 op, .int .i64 a, .int .i64 b, .int .i64 c] 52)) (by decide) rfl (by kernel_rfl) rfl (by simp [go_sem]) ⟨⟨_, hL1.alloc (by have := hL1.size; omega) _⟩, rfl⟩ (by simp [go_sem]; exact rfl) ?_
  have hE := (MapKept.heap_alloc X1 (.cells #[.int .i64 op, .int .i64 a, .int .i64 b, .int .i64 c] 52)).1
  have hKx := hL1.trans (((Below.refl X1.heap.size X1).alloc (Nat.le_refl _) (.cells #[.int .i64 op, .int .i64 a, .int .i64 b, .int .i64 c] 52)).mono hL1.size)
  generalize X1.alloc (.cells #[.int .i64 op, .int .i64 a, .int .i64 b, .int .i64 c] 52) = X2 at *
  have St2 := hid (St0.out.below hKx)
  obtain ⟨i0, hi, hz0, hz1, hz2⟩ := info_parts info_insC
  obtain ⟨vp2, X3, hrun, hown, hgrow, -, hat⟩ := run_append_own_at (P := Tryz.prog) X2 W0.heap.size 27 27 52 i0 _ 4 32 Tryz.underlying27 hi hz0 hz1 hz2 rfl (by decide) (.slice adp s.out.length cpp) s.out.length (rowZ In.cell 4 s.out) St2.out.orow ⟨X1.heap.size, 0, none⟩ 1 1 [.int .i64 op, .int .i64 a, .int .i64 b, .int .i64 c] rfl (fun j u hu => by
    rw [Addr.add_lit]
    match j, hu with
    | 0, hu => simp at hu; subst hu; exact cell_of_heap hE 0
    | 1, hu => simp at hu; subst hu; exact cell_of_heap hE 1
    | 2, hu => simp at hu; subst hu; exact cell_of_heap hE 2
    | 3, hu => simp at hu; subst hu; exact cell_of_heap hE 3) (fun u hu => by
    simp at hu
    rcases hu with rfl | rfl | rfl | rfl <;> rfl) (by have := HL.out; unfold maxLen; omega) (by have := HL.out; omega) St2.out.size
  have hnx := cm_put St2.out ⟨op, a, b, c⟩ hown hgrow
  refine till_cut (v := vp2) (w1 := X3) rfl (by kernel_rfl) rfl (append_runN (s := .tmp 9) (x := .tmp 11) (t := 27) rfl rfl rfl hrun) (by simp [go_sem]; exact rfl) ?_
  refine any_stage (fun _ => True) ?_
  have hb3 := (hgrow.block Mb (heap_lt St2.out.blk) (row_ne St2.out.orow St2.out.blk (by decide))).trans St2.out.blk
  have d1 := cell_of_heap hb3 2
  have w1 := frozen_of_heap hb3 2
  simp at d1
  obtain ⟨ad2, cp2, hv2⟩ := own_slice hown
  subst hv2
  refine stage_make (k := 8) (v := .pointer (some ⟨Mb, 0, none⟩)) (w1 := X3) rfl (by kernel_rfl) rfl (by simp [go_sem]) trivial (by simp [go_sem]; exact rfl) ?_
  refine stage_make (k := 9) (v := .pointer (some ⟨Mb, 2, none⟩)) (w1 := X3) rfl (by kernel_rfl) rfl (by simp [go_sem]) trivial (by simp [go_sem]; exact rfl) ?_
  refine stage_skip (k := 10) rfl (w1 := X3.setCell ⟨Mb, 2, none⟩ (.slice ad2 (s.out.length + 1) cp2)) rfl (by kernel_rfl) rfl (by simp [go_sem, d1, w1]) trivial ?_
  refine stage_end (by kernel_rfl) ?_
  have HNx := hid hnx.1
  have HFr := hid (((Cf.of_below HB0.out).trans (Cf.of_below hKx)).trans hnx.2)
  have hfin := cell_of_heap (maker_set2 hb3 (.slice ad2 (s.out.length + 1) cp2)) 2
  simp at hfin
  clear hnx hrun hown hgrow hat hE hKx hi hz0 hz1 hz2 hb3 d1 w1 St2 St0 HBx HB0 hL1 hPl hxl hsz
  generalize X3.setCell ⟨Mb, 2, none⟩ (.slice ad2 (s.out.length + 1) cp2) = Z at *
  go_wp2_with fail
  rw [show wrap64 (s.out.length : Int) = (s.out.length : Int) by have := HL.out; unfold wrap64; omega]
  go_ret
  exact ⟨rfl, HNx.out, HFr.out⟩

def LeadPost (W0 : World) (Mb : Nat) (ve vt : Value) (s : Cs) (W : World) (e : Ending) (W' : World) : Prop :=
  (∃ x, e = .returned x) ∧ CmE W0 Mb ve vt s W' ∧ Cf W W'

/-- Blocks of parts that are put off stay. -/
def Cl (W W' : World) : Prop := ∀ (q : Nat) (c : Array Value), W.heap[q]? = some (Obj.cells c 54) → W'.heap[q]? = W.heap[q]?

def LeadPost2 (W0 : World) (Mb : Nat) (ve vt : Value) (s : Cs) (W : World) (e : Ending) (W' : World) : Prop := LeadPost W0 Mb ve vt s W e W' ∧ Cl W W'

theorem lead_a (i : In) (v : Int) : i.lead 0 v = ⟨i.op, v, i.b, i.c⟩ := rfl
theorem lead_b (i : In) (v : Int) : i.lead 1 v = ⟨i.op, i.a, v, i.c⟩ := rfl
theorem lead_c (i : In) (v : Int) : i.lead 2 v = ⟨i.op, i.a, i.b, v⟩ := rfl

theorem box_set {W : World} {q : Nat} {x0 x1 x2 x3 : Value} (h : W.heap[q]? = some (.cells #[x0, x1, x2, x3] 52)) (v : Value) :
    (W.setCell ⟨q, 1, none⟩ v).heap[q]? = some (.cells #[x0, v, x2, x3] 52) ∧ (W.setCell ⟨q, 2, none⟩ v).heap[q]? = some (.cells #[x0, x1, v, x3] 52) ∧ (W.setCell ⟨q, 3, none⟩ v).heap[q]? = some (.cells #[x0, x1, x2, v] 52) := by
  refine ⟨?_, ?_, ?_⟩ <;> simp [World.setCell, Array.getElem?_modify, h]

/-- The box beside the maker is written. -/
theorem Cm.box {W0 : World} {Mb : Nat} {ve vt : Value} {s : Cs} {ls : List (Lt × Value)} {vo vl : Value} {W Y : World} (h : Cm W0 Mb ve vt s ls vo vl W) (hb : Below W.heap.size W Y) {q : Nat} (hq : W.heap.size ≤ q) (j : Nat) (v : Value) : Cm W0 Mb ve vt s ls vo vl (Y.setCell ⟨q, j, none⟩ v) ∧ Below W.heap.size W (Y.setCell ⟨q, j, none⟩ v) := by
  have hb2 : Below W.heap.size W (Y.setCell ⟨q, j, none⟩ v) := ⟨hb.os, hb.tape, hb.output, by simp [World.setCell]; exact hb.size, fun k hk => (Below.heap_setCell Y ⟨q, j, none⟩ v k (by show k ≠ q; omega)).trans (hb.block k hk)⟩
  exact ⟨h.below hb2, hb2⟩

set_option maxHeartbeats 2000000 in
set_option maxRecDepth 100000 in
theorem lead2_calls {W0 : World} {Mb : Nat} {ve vt : Value} {s : Cs} (fr wh : Nat) {W : World} (h : CmE W0 Mb ve vt s W) (hl : s.out.length ≤ 960000) (hfr : fr < s.out.length) (hwh : wh = 0 ∨ wh = 1 ∨ wh = 2) :
    Calls Tryz.prog 19 #[.pointer (some ⟨Mb, 0, none⟩), .int .i64 (fr : Int), .int .i64 (wh : Int)] W (LeadPost2 W0 Mb ve vt (s.lead fr wh) W) := by
  obtain ⟨ls, vo, vl, h⟩ := h
  obtain ⟨g, cap, hvo⟩ : ∃ g cap, vo = .slice (some ⟨g, 0, none⟩) s.out.length cap := by
    obtain ⟨-, ⟨-, h0⟩ | ⟨g, cap, cur, e, -⟩⟩ := h.orow
    · omega
    · exact ⟨g, cap, e⟩
  subst hvo
  have d2 := cell_of_heap h.blk 2
  simp at d2
  have hc : ∀ j, j < 4 → W.cell? ⟨g, fr * 4 + j, none⟩ = some ((s.out.getD fr default).cell j) := fun j hj => by
    rw [h.orow.cellAt (fr * 4 + j) (by omega), rowZ_get In.cell 4 (by decide) s.out _ (by omega)]
    rw [show (fr * 4 + j) / 4 = fr by omega, show (fr * 4 + j) % 4 = j by omega]
  obtain ⟨i, hi⟩ : ∃ i, s.out.getD fr default = i := ⟨_, rfl⟩
  rw [hi] at hc
  have c0 := hc 0 (by omega)
  have c1 := hc 1 (by omega)
  have c2 := hc 2 (by omega)
  have c3 := hc 3 (by omega)
  obtain ⟨op, a, b, c⟩ := i
  simp only [In.cell, Nat.add_zero] at c0 c1 c2 c3
  have HI := hid hi
  have hA := (MapKept.heap_alloc W (.cells #[.int .i64 op, .int .i64 a, .int .i64 b, .int .i64 c] 52)).1
  have hB := (Below.refl W.heap.size W).alloc (Nat.le_refl _) (.cells #[.int .i64 op, .int .i64 a, .int .i64 b, .int .i64 c] 52)
  obtain ⟨Y, hY⟩ : ∃ Y, W.alloc (.cells #[.int .i64 op, .int .i64 a, .int .i64 b, .int .i64 c] 52) = Y := ⟨_, rfl⟩
  have HY := hid hY
  rw [hY] at hA hB
  have HA := hid hA
  have HB := hid hB
  have HSt := hid h
  have HL := hid (And.intro hl hfr)
  have hgW : g < W.heap.size := by obtain ⟨-, cur, hcur⟩ := own_type h.orow (g := g) rfl; exact heap_lt hcur
  have HFin : Hid (∀ Z wh', Cm W0 Mb ve vt s ls (.slice (some ⟨g, 0, none⟩) s.out.length cap) vl Z → Below W.heap.size W Z → LeadPost2 W0 Mb ve vt (s.lead fr wh') W (.returned (.tuple #[])) (quad Z g fr ((⟨op, a, b, c⟩ : In).lead wh' s.out.length))) := fun Z wh' hz hf => by
    have h2 := cm_lead hz hfr wh'
    obtain ⟨-, cur, hcur⟩ := own_type hz.orow (g := g) rfl
    have h3 := (quad_other Z g fr ((⟨op, a, b, c⟩ : In).lead wh' s.out.length)).1
    rw [hi] at h2
    refine ⟨⟨⟨_, rfl⟩, h2.1, (Cf.of_below hf).trans h2.2⟩, fun q x hq => ?_⟩
    have h4 := hf.block q (heap_lt hq)
    exact (h3 q (fun e => by subst e; rw [h4, hq] at hcur; cases hcur)).trans h4
  clear hi hY hc h hl hA hB
  have hf0 : (0 : Int) ≤ (fr : Int) := by omega
  have hf1 : (fr : Int) < (s.out.length : Int) := by omega
  go_enter Tryz.func19, Tryz.ntmps19
  go_upto_region 1 with fail
  rw [HY.out]
  have d2 := cell_of_heap (HSt.out.below HB.out).blk 2
  simp at d2
  clear HY c0 c1 c2 c3
  rcases hwh with hw | hw | hw
  · subst hw
    obtain ⟨Z, hZ⟩ : ∃ Z, Y.setCell ⟨W.heap.size, 1, none⟩ (.int .i64 (s.out.length : Int)) = Z := ⟨_, rfl⟩
    have hbox := (box_set HA.out (.int .i64 (s.out.length : Int))).1
    have hst := HSt.out.box HB.out (Nat.le_refl _) 1 (.int .i64 (s.out.length : Int))
    have a1 := cell_of_heap HA.out 1
    have a2 := frozen_of_heap HA.out 1
    simp at a1
    rw [hZ] at hbox hst
    have HZ := hid hZ
    clear hZ
    go_upto_region 8 with fail
    rw [HZ.out]
    clear HZ a1 a2
    have HBx := hid hbox
    have St := hid hst
    have b2 := cell_of_heap St.out.1.blk 2
    have e0 := cell_of_heap HBx.out 0
    have e1 := cell_of_heap HBx.out 1
    have e2 := cell_of_heap HBx.out 2
    have e3 := cell_of_heap HBx.out 3
    simp at b2 e0 e1 e2 e3
    have hPl : Mb < Z.heap.size := heap_lt St.out.1.blk
    have hxl : W.heap.size < Z.heap.size := heap_lt HBx.out
    have q0 : ∀ y : Later Z.heap.size Z, y.w.cell? ⟨Mb, 2, none⟩ = _ := fun y => y.cell hPl b2
    have p0 : ∀ y : Later Z.heap.size Z, y.w.cell? ⟨W.heap.size, 0, none⟩ = _ := fun y => y.cell hxl e0
    have p1 : ∀ y : Later Z.heap.size Z, y.w.cell? ⟨W.heap.size, 1, none⟩ = _ := fun y => y.cell hxl e1
    have p2 : ∀ y : Later Z.heap.size Z, y.w.cell? ⟨W.heap.size, 2, none⟩ = _ := fun y => y.cell hxl e2
    have p3 : ∀ y : Later Z.heap.size Z, y.w.cell? ⟨W.heap.size, 3, none⟩ = _ := fun y => y.cell hxl e3
    clear b2 e0 e1 e2 e3 hbox hst
    refine till_begin (c := 6) (S := fun w' => ∃ x : Later Z.heap.size Z, w' = x.w) (by kernel_rfl) ?_
    refine till_walk (by kernel_rfl) 6 0 _ _ (by kernel_rfl) (by kernel_rfl) ⟨⟨Z.drew, (Below.refl _ _).drew⟩, rfl⟩ ?_
    simp only [List.drop_zero, List.take_succ_cons, List.take_zero]
    repeat (go_big_quiet_step (fail))
    refine wpQuiet_nil ?_
    rintro w7 ⟨x1, rfl⟩
    have hL1 := x1.h
    clear q0 p0 p1 p2 p3
    generalize x1.w = X1 at *
    have S1 := hid (St.out.1.below hL1)
    have F1 := hid (St.out.2.trans (hL1.mono St.out.2.size))
    refine till_cut (v := .pointer (some ⟨g, fr * 4, none⟩)) (w1 := X1) rfl (by kernel_rfl) rfl (by simp [go_sem, hf0, hf1]) (by simp [go_sem]; exact rfl) ?_
    refine any_stage (fun _ => True) ?_
    have hg1 := own_type S1.out.orow (g := g) rfl
    have hd : ∀ j, j < 4 → X1.cell? ⟨g, fr * 4 + j, none⟩ = some ((s.out.getD fr default).cell j) := fun j hj => by
      rw [S1.out.orow.cellAt (fr * 4 + j) (by omega), rowZ_get In.cell 4 (by decide) s.out _ (by omega)]
      rw [show (fr * 4 + j) / 4 = fr by omega, show (fr * 4 + j) % 4 = j by omega]
    obtain ⟨-, cur, hcur⟩ := hg1
    have f0 := frozen_of_heap hcur (fr * 4)
    have f1 := frozen_of_heap hcur (fr * 4 + 1)
    have f2 := frozen_of_heap hcur (fr * 4 + 2)
    have f3 := frozen_of_heap hcur (fr * 4 + 3)
    have k0 := hd 0 (by omega)
    have k1 := hd 1 (by omega)
    have k2 := hd 2 (by omega)
    have k3 := hd 3 (by omega)
    rw [Nat.add_zero] at k0
    refine stage_skip (k := 7) rfl (w1 := quad X1 g fr ⟨op, s.out.length, b, c⟩) rfl (by kernel_rfl) rfl (by unfold quad; simp [go_sem, f0, f1, f2, f3, k0, k1, k2, k3]) trivial ?_
    refine stage_end (by kernel_rfl) ?_
    have HR := hid (HFin.out X1 0 S1.out F1.out)
    rw [lead_a] at HR
    clear f0 f1 f2 f3 k0 k1 k2 k3 hcur hd hL1 S1 F1 St HBx hPl hxl
    generalize quad X1 g fr ⟨op, s.out.length, b, c⟩ = Z2 at *
    go_wp2_with fail
    go_end0
    exact HR.out
  · subst hw
    obtain ⟨Z, hZ⟩ : ∃ Z, Y.setCell ⟨W.heap.size, 2, none⟩ (.int .i64 (s.out.length : Int)) = Z := ⟨_, rfl⟩
    have hbox := (box_set HA.out (.int .i64 (s.out.length : Int))).2.1
    have hst := HSt.out.box HB.out (Nat.le_refl _) 2 (.int .i64 (s.out.length : Int))
    have a1 := cell_of_heap HA.out 2
    have a2 := frozen_of_heap HA.out 2
    simp at a1
    rw [hZ] at hbox hst
    have HZ := hid hZ
    clear hZ
    go_upto_region 8 with fail
    rw [HZ.out]
    clear HZ a1 a2
    have HBx := hid hbox
    have St := hid hst
    have b2 := cell_of_heap St.out.1.blk 2
    have e0 := cell_of_heap HBx.out 0
    have e1 := cell_of_heap HBx.out 1
    have e2 := cell_of_heap HBx.out 2
    have e3 := cell_of_heap HBx.out 3
    simp at b2 e0 e1 e2 e3
    have hPl : Mb < Z.heap.size := heap_lt St.out.1.blk
    have hxl : W.heap.size < Z.heap.size := heap_lt HBx.out
    have q0 : ∀ y : Later Z.heap.size Z, y.w.cell? ⟨Mb, 2, none⟩ = _ := fun y => y.cell hPl b2
    have p0 : ∀ y : Later Z.heap.size Z, y.w.cell? ⟨W.heap.size, 0, none⟩ = _ := fun y => y.cell hxl e0
    have p1 : ∀ y : Later Z.heap.size Z, y.w.cell? ⟨W.heap.size, 1, none⟩ = _ := fun y => y.cell hxl e1
    have p2 : ∀ y : Later Z.heap.size Z, y.w.cell? ⟨W.heap.size, 2, none⟩ = _ := fun y => y.cell hxl e2
    have p3 : ∀ y : Later Z.heap.size Z, y.w.cell? ⟨W.heap.size, 3, none⟩ = _ := fun y => y.cell hxl e3
    clear b2 e0 e1 e2 e3 hbox hst
    refine till_begin (c := 6) (S := fun w' => ∃ x : Later Z.heap.size Z, w' = x.w) (by kernel_rfl) ?_
    refine till_walk (by kernel_rfl) 6 0 _ _ (by kernel_rfl) (by kernel_rfl) ⟨⟨Z.drew, (Below.refl _ _).drew⟩, rfl⟩ ?_
    simp only [List.drop_zero, List.take_succ_cons, List.take_zero]
    repeat (go_big_quiet_step (fail))
    refine wpQuiet_nil ?_
    rintro w7 ⟨x1, rfl⟩
    have hL1 := x1.h
    clear q0 p0 p1 p2 p3
    generalize x1.w = X1 at *
    have S1 := hid (St.out.1.below hL1)
    have F1 := hid (St.out.2.trans (hL1.mono St.out.2.size))
    refine till_cut (v := .pointer (some ⟨g, fr * 4, none⟩)) (w1 := X1) rfl (by kernel_rfl) rfl (by simp [go_sem, hf0, hf1]) (by simp [go_sem]; exact rfl) ?_
    refine any_stage (fun _ => True) ?_
    have hg1 := own_type S1.out.orow (g := g) rfl
    have hd : ∀ j, j < 4 → X1.cell? ⟨g, fr * 4 + j, none⟩ = some ((s.out.getD fr default).cell j) := fun j hj => by
      rw [S1.out.orow.cellAt (fr * 4 + j) (by omega), rowZ_get In.cell 4 (by decide) s.out _ (by omega)]
      rw [show (fr * 4 + j) / 4 = fr by omega, show (fr * 4 + j) % 4 = j by omega]
    obtain ⟨-, cur, hcur⟩ := hg1
    have f0 := frozen_of_heap hcur (fr * 4)
    have f1 := frozen_of_heap hcur (fr * 4 + 1)
    have f2 := frozen_of_heap hcur (fr * 4 + 2)
    have f3 := frozen_of_heap hcur (fr * 4 + 3)
    have k0 := hd 0 (by omega)
    have k1 := hd 1 (by omega)
    have k2 := hd 2 (by omega)
    have k3 := hd 3 (by omega)
    rw [Nat.add_zero] at k0
    refine stage_skip (k := 7) rfl (w1 := quad X1 g fr ⟨op, a, s.out.length, c⟩) rfl (by kernel_rfl) rfl (by unfold quad; simp [go_sem, f0, f1, f2, f3, k0, k1, k2, k3]) trivial ?_
    refine stage_end (by kernel_rfl) ?_
    have HR := hid (HFin.out X1 1 S1.out F1.out)
    rw [lead_b] at HR
    clear f0 f1 f2 f3 k0 k1 k2 k3 hcur hd hL1 S1 F1 St HBx hPl hxl
    generalize quad X1 g fr ⟨op, a, s.out.length, c⟩ = Z2 at *
    go_wp2_with fail
    go_end0
    exact HR.out
  · subst hw
    obtain ⟨Z, hZ⟩ : ∃ Z, Y.setCell ⟨W.heap.size, 3, none⟩ (.int .i64 (s.out.length : Int)) = Z := ⟨_, rfl⟩
    have hbox := (box_set HA.out (.int .i64 (s.out.length : Int))).2.2
    have hst := HSt.out.box HB.out (Nat.le_refl _) 3 (.int .i64 (s.out.length : Int))
    have a1 := cell_of_heap HA.out 3
    have a2 := frozen_of_heap HA.out 3
    simp at a1
    rw [hZ] at hbox hst
    have HZ := hid hZ
    clear hZ
    go_upto_region 8 with fail
    rw [HZ.out]
    clear HZ a1 a2
    have HBx := hid hbox
    have St := hid hst
    have b2 := cell_of_heap St.out.1.blk 2
    have e0 := cell_of_heap HBx.out 0
    have e1 := cell_of_heap HBx.out 1
    have e2 := cell_of_heap HBx.out 2
    have e3 := cell_of_heap HBx.out 3
    simp at b2 e0 e1 e2 e3
    have hPl : Mb < Z.heap.size := heap_lt St.out.1.blk
    have hxl : W.heap.size < Z.heap.size := heap_lt HBx.out
    have q0 : ∀ y : Later Z.heap.size Z, y.w.cell? ⟨Mb, 2, none⟩ = _ := fun y => y.cell hPl b2
    have p0 : ∀ y : Later Z.heap.size Z, y.w.cell? ⟨W.heap.size, 0, none⟩ = _ := fun y => y.cell hxl e0
    have p1 : ∀ y : Later Z.heap.size Z, y.w.cell? ⟨W.heap.size, 1, none⟩ = _ := fun y => y.cell hxl e1
    have p2 : ∀ y : Later Z.heap.size Z, y.w.cell? ⟨W.heap.size, 2, none⟩ = _ := fun y => y.cell hxl e2
    have p3 : ∀ y : Later Z.heap.size Z, y.w.cell? ⟨W.heap.size, 3, none⟩ = _ := fun y => y.cell hxl e3
    clear b2 e0 e1 e2 e3 hbox hst
    refine till_begin (c := 6) (S := fun w' => ∃ x : Later Z.heap.size Z, w' = x.w) (by kernel_rfl) ?_
    refine till_walk (by kernel_rfl) 6 0 _ _ (by kernel_rfl) (by kernel_rfl) ⟨⟨Z.drew, (Below.refl _ _).drew⟩, rfl⟩ ?_
    simp only [List.drop_zero, List.take_succ_cons, List.take_zero]
    repeat (go_big_quiet_step (fail))
    refine wpQuiet_nil ?_
    rintro w7 ⟨x1, rfl⟩
    have hL1 := x1.h
    clear q0 p0 p1 p2 p3
    generalize x1.w = X1 at *
    have S1 := hid (St.out.1.below hL1)
    have F1 := hid (St.out.2.trans (hL1.mono St.out.2.size))
    refine till_cut (v := .pointer (some ⟨g, fr * 4, none⟩)) (w1 := X1) rfl (by kernel_rfl) rfl (by simp [go_sem, hf0, hf1]) (by simp [go_sem]; exact rfl) ?_
    refine any_stage (fun _ => True) ?_
    have hg1 := own_type S1.out.orow (g := g) rfl
    have hd : ∀ j, j < 4 → X1.cell? ⟨g, fr * 4 + j, none⟩ = some ((s.out.getD fr default).cell j) := fun j hj => by
      rw [S1.out.orow.cellAt (fr * 4 + j) (by omega), rowZ_get In.cell 4 (by decide) s.out _ (by omega)]
      rw [show (fr * 4 + j) / 4 = fr by omega, show (fr * 4 + j) % 4 = j by omega]
    obtain ⟨-, cur, hcur⟩ := hg1
    have f0 := frozen_of_heap hcur (fr * 4)
    have f1 := frozen_of_heap hcur (fr * 4 + 1)
    have f2 := frozen_of_heap hcur (fr * 4 + 2)
    have f3 := frozen_of_heap hcur (fr * 4 + 3)
    have k0 := hd 0 (by omega)
    have k1 := hd 1 (by omega)
    have k2 := hd 2 (by omega)
    have k3 := hd 3 (by omega)
    rw [Nat.add_zero] at k0
    refine stage_skip (k := 7) rfl (w1 := quad X1 g fr ⟨op, a, b, s.out.length⟩) rfl (by kernel_rfl) rfl (by unfold quad; simp [go_sem, f0, f1, f2, f3, k0, k1, k2, k3]) trivial ?_
    refine stage_end (by kernel_rfl) ?_
    have HR := hid (HFin.out X1 2 S1.out F1.out)
    rw [lead_c] at HR
    clear f0 f1 f2 f3 k0 k1 k2 k3 hcur hd hL1 S1 F1 St HBx hPl hxl
    generalize quad X1 g fr ⟨op, a, b, s.out.length⟩ = Z2 at *
    go_wp2_with fail
    go_end0
    exact HR.out

theorem lead_calls {W0 : World} {Mb : Nat} {ve vt : Value} {s : Cs} (fr wh : Nat) {W : World} (h : CmE W0 Mb ve vt s W) (hl : s.out.length ≤ 960000) (hfr : fr < s.out.length) (hwh : wh = 0 ∨ wh = 1 ∨ wh = 2) :
    Calls Tryz.prog 19 #[.pointer (some ⟨Mb, 0, none⟩), .int .i64 (fr : Int), .int .i64 (wh : Int)] W (LeadPost W0 Mb ve vt (s.lead fr wh) W) := (lead2_calls fr wh h hl hfr hwh).mono fun _ _ x => x.1

theorem later_cells (x0 x1 x2 x3 : Value) (h0 : x0.oneCell' = true) (h1 : x1.oneCell' = true) (h2 : x2.oneCell' = true) (h3 : x3.oneCell' = true) : ∀ u ∈ [x0, x1, x2, x3], u.oneCell' = true := fun u hu => by
  simp at hu
  rcases hu with rfl | rfl | rfl | rfl
  · exact h0
  · exact h1
  · exact h2
  · exact h3

set_option maxHeartbeats 2000000 in
set_option maxRecDepth 100000 in
theorem wait_calls {W0 : World} {Mb : Nat} {ve vt : Value} {s : Cs} (l : Lt) {v : Value} {W : World} (h : CmE W0 Mb ve vt s W) (hl : s.later.length ≤ 960000) (hn : NmT W v l.names) :
    Calls Tryz.prog 39 #[.pointer (some ⟨Mb, 0, none⟩), .int .i64 (l.t.at_ : Int), v, .int .i64 (l.fr : Int), .int .i64 (l.wh : Int)] W (LeadPost W0 Mb ve vt (s.wait l) W) := by
  obtain ⟨ls, vo, vl, h⟩ := h
  obtain ⟨adp, cpp, hvp⟩ := own_slice h.lrow
  subst hvp
  obtain ⟨adn, cpn, hvn⟩ := hn.is
  have hll : ls.length = s.later.length := by rw [← h.lfst, List.length_map]
  have hE := (MapKept.heap_alloc W (.cells #[.int .i64 (l.t.at_ : Int), v, .int .i64 (l.fr : Int), .int .i64 (l.wh : Int)] 54)).1
  have hB := (Below.refl W.heap.size W).alloc (Nat.le_refl _) (.cells #[.int .i64 (l.t.at_ : Int), v, .int .i64 (l.fr : Int), .int .i64 (l.wh : Int)] 54)
  have hone : v.oneCell' = true := by rw [hvn]; rfl
  have St2 := hid (h.below hB)
  have HN2 := hid (hn.frame (Cf.of_below hB))
  have HCf := hid (Cf.of_below hB)
  have HE := hid hE
  have HL := hid (And.intro hl hll)
  have HO := hid hone
  obtain ⟨i0, hi, hz0, hz1, hz2⟩ := info_parts info_later
  have d3 := cell_of_heap h.blk 3
  simp at d3
  have hcs : ∀ (j : Nat) (u : Value), [Value.int .i64 (l.t.at_ : Int), v, .int .i64 (l.fr : Int), .int .i64 (l.wh : Int)][j]? = some u → (W.alloc (.cells #[.int .i64 (l.t.at_ : Int), v, .int .i64 (l.fr : Int), .int .i64 (l.wh : Int)] 54)).cell? (Addr.add ⟨W.heap.size, 0, none⟩ j) = some u := fun j u hu => by
    rw [Addr.add_lit]
    match j, hu with
    | 0, hu => simp at hu; subst hu; exact cell_of_heap hE 0
    | 1, hu => simp at hu; subst hu; exact cell_of_heap hE 1
    | 2, hu => simp at hu; subst hu; exact cell_of_heap hE 2
    | 3, hu => simp at hu; subst hu; exact cell_of_heap hE 3
  have HCs := hid hcs
  have HOc := hid (later_cells (.int .i64 (l.t.at_ : Int)) v (.int .i64 (l.fr : Int)) (.int .i64 (l.wh : Int)) rfl hone rfl rfl)
  clear h hB hE hn hll hl hone hcs HO
  subst hvn
  go_enter Tryz.func39, Tryz.ntmps39
  go_wp2_with (at_builtin; refine wpList_append_own_at _ rfl _ _ 46 rfl W0.heap.size 54 i0 (.agg #[.int .i64 0, .slice none 0 0, .int .i64 0, .int .i64 0]) 4 48 Tryz.underlying46 hi hz0 hz1 hz2 rfl (by decide) _ _ _ rfl St2.out.lrow ⟨W.heap.size, 0, none⟩ 1 1 [.int .i64 (l.t.at_ : Int), .slice adn l.names.length cpn, .int .i64 (l.fr : Int), .int .i64 (l.wh : Int)] rfl rfl HCs.out HOc.out (by have := HL.out; unfold maxLen; omega) (by have := HL.out; omega) St2.out.size ?_; intro vp2 X3 hown hgrow hnil hat; obtain ⟨ad2, cp2, hv2⟩ := own_slice hown; subst hv2; have hnx := cm_wait St2.out l HN2.out hown hgrow; have hb3 := (hgrow.block Mb (heap_lt St2.out.blk) (row_ne St2.out.lrow St2.out.blk (by decide))).trans St2.out.blk; have w3 := frozen_of_heap hb3 3; have x3 := cell_of_heap hb3 3; simp at x3; have HNx := hid hnx.1; have HFr := hid (HCf.out.trans hnx.2); clear hown hgrow hnil hat hnx hb3)
  go_end0
  exact ⟨⟨_, rfl⟩, HNx.out, HFr.out⟩
end Go.Proofs.YtgiejnmphfgmgaaGreatDoor

/- A tree whose names are all known, and whose clauses are where they belong. -/
namespace Go.Proofs.YtgiejnmphfgmgaaGreatDoor
open Go.RowKit Go.Deep

/-- A handler's clauses are of their kinds. -/
def ClZ (p : Int) (i : Nat) (n : Nd) : Prop := ((p = 23 ∨ p = 24) → i ≠ 0 → n.kind = if i = 1 then 25 else 26) ∧ (¬ ((p = 23 ∨ p = 24) ∧ i ≠ 0) → n.kind ≠ 25 ∧ n.kind ≠ 26)

theorem clz_none {n : Nd} {p : Int} {i : Nat} (h : headOk n (role p i) = true) (hc : ¬ ((p = 23 ∨ p = 24) ∧ i ≠ 0)) : n.kind ≠ 25 ∧ n.kind ≠ 26 := by
  have hr : role p i = 0 := by
    unfold role
    by_cases hp : p = 23 ∨ p = 24
    · have : i = 0 := by
        by_cases h0 : i = 0
        · exact h0
        · exact absurd ⟨hp, h0⟩ hc
      subst this
      rw [if_pos hp]
      rfl
    · rw [if_neg hp]
  rw [hr] at h
  unfold headOk at h
  simp only [Bool.and_eq_true] at h
  exact ⟨fun e => by have := h.1.1; simp [e] at this, fun e => by have := h.1.2; simp [e] at this⟩

theorem clz_of {n : Nd} {p : Int} {i : Nat} (h : headOk n (role p i) = true) : ClZ p i n := ⟨fun hp hi => by
  unfold role at h
  rw [if_pos hp] at h
  unfold headOk at h
  simp only [Bool.and_eq_true] at h
  by_cases h1 : i = 1
  · subst h1
    rw [if_pos rfl]
    simpa using h.1.1
  · rw [if_neg h1]
    have hr : (if 2 < i then 2 else i) = 2 := by split <;> omega
    rw [hr] at h
    simpa using h.1.2, clz_none h⟩

/-- Every name that stands in these trees is known. -/
def BdF (p : Nd) : Nat → Fo → List ByteArray → Prop
  | _, .none, _ => True
  | i, .tree n k r, ss => ((n.kind = 5 → n.a ∈ ss ++ knownZ p i) ∧ ClZ p.kind i n) ∧ BdF n 0 k (ss ++ knownZ p i) ∧ BdF p (i + 1) r ss

def BdT (t : Tp) (ss : List ByteArray) : Prop := ((t.n.kind = 5 → t.n.a ∈ ss) ∧ t.n.kind ≠ 25 ∧ t.n.kind ≠ 26) ∧ BdF t.n 0 t.k ss

theorem bdF_at (p : Nd) (ss : List ByteArray) : ∀ (f : Fo) (j q i : Nat), BdF p j f ss → i < f.count → ¬ ((p.kind = 23 ∨ p.kind = 24) ∧ j + i ≠ 0) → BdT ((kidsAt f q).getD i default) (ss ++ knownZ p (j + i))
  | .none, _, _, _, _, h, _ => by simp [Fo.count] at h
  | .tree n k r, j, q, 0, h, _, hc => by
    simp only [kidsAt, List.getD_cons_zero, Nat.add_zero] at hc ⊢
    exact ⟨⟨h.1.1, h.1.2.2 hc⟩, h.2.1⟩
  | .tree n k r, j, q, i + 1, h, hi, hc => by
    simp only [kidsAt, List.getD_cons_succ]
    rw [show j + (i + 1) = j + 1 + i by omega] at hc ⊢
    exact bdF_at p ss r (j + 1) _ i h.2.2 (by simpa [Fo.count] using hi) hc

theorem bdS_at (p : Nd) (ss : List ByteArray) : ∀ (f : Fo) (j q i : Nat), BdF p j f ss → i < f.count → BdF ((kidsAt f q).getD i default).n 0 ((kidsAt f q).getD i default).k (ss ++ knownZ p (j + i))
  | .none, _, _, _, _, h => by simp [Fo.count] at h
  | .tree n k r, j, q, 0, h, _ => by
    simp only [kidsAt, List.getD_cons_zero, Nat.add_zero]
    exact h.2.1
  | .tree n k r, j, q, i + 1, h, hi => by
    simp only [kidsAt, List.getD_cons_succ]
    rw [show j + (i + 1) = j + 1 + i by omega]
    exact bdS_at p ss r (j + 1) _ i h.2.2 (by simpa [Fo.count] using hi)

theorem clF_at (p : Nd) (ss : List ByteArray) : ∀ (f : Fo) (j q i : Nat), BdF p j f ss → i < f.count → ClZ p.kind (j + i) ((kidsAt f q).getD i default).n
  | .none, _, _, _, _, h => by simp [Fo.count] at h
  | .tree n k r, j, q, 0, h, _ => by
    simp only [kidsAt, List.getD_cons_zero, Nat.add_zero]
    exact h.1.2
  | .tree n k r, j, q, i + 1, h, hi => by
    simp only [kidsAt, List.getD_cons_succ]
    rw [show j + (i + 1) = j + 1 + i by omega]
    exact clF_at p ss r (j + 1) _ i h.2.2 (by simpa [Fo.count] using hi)

theorem BdT.clause {t : Tp} {ss : List ByteArray} (h : BdT t ss) {i : Nat} (hi : i < t.k.count) : ClZ t.n.kind i (t.kid i).n := by
  have := clF_at t.n ss t.k 0 (t.at_ + 1) i h.2 hi
  rw [Nat.zero_add] at this
  exact this

/-- What stands in a clause. -/
theorem BdT.inner {t : Tp} {ss : List ByteArray} (h : BdT t ss) {i : Nat} (hi : i < t.k.count) (hc : (t.kid i).k.count = 1) : BdT ((t.kid i).kid 0) (ss ++ knownZ t.n i ++ knownZ (t.kid i).n 0) := by
  have h1 := bdS_at t.n ss t.k 0 (t.at_ + 1) i h.2 hi
  rw [Nat.zero_add] at h1
  have h2 := bdF_at (t.kid i).n _ (t.kid i).k 0 ((t.kid i).at_ + 1) 0 h1 (by omega) (by omega)
  rw [Nat.zero_add] at h2
  exact h2

theorem BdT.kid {t : Tp} {ss : List ByteArray} (h : BdT t ss) {i : Nat} (hi : i < t.k.count) (hnc : ¬ ((t.n.kind = 23 ∨ t.n.kind = 24) ∧ i ≠ 0) := by omega) : BdT (t.kid i) (ss ++ knownZ t.n i) := by
  have := bdF_at t.n ss t.k 0 (t.at_ + 1) i h.2 hi (by rw [Nat.zero_add]; exact hnc)
  rw [Nat.zero_add] at this
  exact this

theorem BdT.kidN {t : Tp} {ss : List ByteArray} (h : BdT t ss) {i : Nat} (hi : i < t.k.count) {ms : List ByteArray} (hm : knownZ t.n i = ms) (hnc : ¬ ((t.n.kind = 23 ∨ t.n.kind = 24) ∧ i ≠ 0) := by omega) : BdT (t.kid i) (ss ++ ms) := hm ▸ h.kid hi hnc

theorem BdT.kid0 {t : Tp} {ss : List ByteArray} (h : BdT t ss) {i : Nat} (hi : i < t.k.count) (hm : knownZ t.n i = []) (hnc : ¬ ((t.n.kind = 23 ∨ t.n.kind = 24) ∧ i ≠ 0) := by omega) : BdT (t.kid i) ss := by
  have := h.kidN hi hm hnc
  rwa [List.append_nil] at this

/-- The names that a scope knows. -/
def Sco.keys (sc : Sco) : List ByteArray := (sc.map Prod.fst).reverse

theorem keys_find : ∀ (sc : Sco) (x : ByteArray), findS sc x ≠ none ↔ x ∈ sc.map Prod.fst
  | [], x => by simp [findS]
  | (a, b) :: r, x => by
    unfold findS
    split
    · rename_i h
      subst h
      simp
    · rename_i h
      rw [keys_find r x, List.map_cons, List.mem_cons]
      constructor
      · exact Or.inr
      · rintro (e | e)
        · exact absurd e.symm h
        · exact e

theorem zip_keys : ∀ (l m : List ByteArray) (sc : Sco), l.length = m.length → ((l.zip m).foldl (fun s p => p :: s) sc).map Prod.fst = l.reverse ++ sc.map Prod.fst
  | [], [], sc, _ => by simp
  | [], _ :: _, _, h => by simp at h
  | _ :: _, [], _, h => by simp at h
  | a :: l, b :: m, sc, h => by
    rw [List.zip_cons_cons, List.foldl_cons, zip_keys l m _ (by simpa using h)]
    simp

theorem kidsW_grow (old new : Nd) : ∀ (f : Fo) (i : Nat) (sc : Sco) (s : Wst), s.free.length ≤ (kidsW old new i f sc s).free.length
  | .none, _, _, _ => Nat.le_refl _
  | .tree n k r, i, sc, s => by
    unfold kidsW
    refine Nat.le_trans ?_ (kidsW_grow old new r (i + 1) sc _)
    refine Nat.le_trans ?_ (kidsW_grow n _ k 0 _ _)
    simp [stepW]

/-- Where the walk found nothing free, all is known. -/
theorem bd_free : ∀ (f : Fo) (old new : Nd) (i : Nat) (sc : Sco) (s : Wst) (ops : List ByteArray), new.kind = old.kind → specKids f old.kind i ops = true → (kidsW old new i f sc s).free.length = s.free.length → BdF old i f sc.keys
  | .none, _, _, _, _, _, _, _, _, _ => trivial
  | .tree n k r, old, new, i, sc, s, ops, hk, hsk, h => by
    simp only [specKids, Bool.and_eq_true] at hsk
    have hsr : ∃ ops', specKids r old.kind (i + 1) ops' = true := by
      have h2 := hsk.2.2
      split at h2
      · rw [Bool.and_eq_true] at h2
        exact ⟨_, h2.2⟩
      · exact ⟨_, h2⟩
    obtain ⟨ops', hsr⟩ := hsr
    unfold kidsW at h
    have g1 := kidsW_grow old new r (i + 1) sc (kidsW n (renZ n (openS old new i sc) s.made) 0 k (openS old new i sc) (stepW n (openS old new i sc) s))
    have g2 := kidsW_grow n (renZ n (openS old new i sc) s.made) k 0 (openS old new i sc) (stepW n (openS old new i sc) s)
    have g3 : (stepW n (openS old new i sc) s).free.length = s.free.length + (lostZ n (openS old new i sc)).length := by simp [stepW]
    have hkeys : (openS old new i sc).keys = sc.keys ++ knownZ old i := by
      unfold Sco.keys openS
      rw [zip_keys _ _ _ (knownZ_same hk.symm i)]
      simp
    refine ⟨⟨fun h5 => ?_, clz_of hsk.1⟩, ?_, ?_⟩
    · have hl : lostZ n (openS old new i sc) = [] := List.eq_nil_of_length_eq_zero (by omega)
      unfold lostZ at hl
      have hf : findS (openS old new i sc) n.a ≠ none := fun e => by
        rw [if_pos ⟨h5, e⟩] at hl
        cases hl
      rw [keys_find] at hf
      rw [← hkeys]
      unfold Sco.keys
      rw [List.mem_reverse]
      exact hf
    · rw [← hkeys]
      exact bd_free k n (renZ n (openS old new i sc) s.made) 0 (openS old new i sc) (stepW n (openS old new i sc) s) [] (renZ_kind _ _ _) hsk.2.1 (by omega)
    · exact bd_free r old new (i + 1) sc (kidsW n (renZ n (openS old new i sc) s.made) 0 k (openS old new i sc) (stepW n (openS old new i sc) s)) ops' hk hsr (by omega)

theorem bd_whole {n : Nd} {k : Fo} (hne : n.kind ≠ 25 ∧ n.kind ≠ 26) (hsk : specKids k n.kind 0 [] = true) (h : (walkW n k [] ⟨[], [], 0⟩).free = []) (at_ : Nat) : BdT ⟨n, k, at_⟩ [] := by
  unfold walkW at h
  have g := kidsW_grow n (renZ n [] 0) k 0 [] (stepW n [] ⟨[], [], 0⟩)
  have e : (kidsW n (renZ n [] 0) 0 k [] (stepW n [] ⟨[], [], 0⟩)).free.length = 0 := by rw [h]; rfl
  have hl : (stepW n [] ⟨[], [], 0⟩).free.length = 0 := by omega
  refine ⟨⟨fun h5 => ?_, hne⟩, ?_⟩
  · have h5' : n.kind = 5 := h5
    simp [stepW, lostZ, h5', findS] at hl
  · have := bd_free k n (renZ n [] 0) 0 [] (stepW n [] ⟨[], [], 0⟩) [] (renZ_kind _ _ _) hsk (by rw [e, hl])
    exact this
end Go.Proofs.YtgiejnmphfgmgaaGreatDoor

/- What the program's maker of code keeps in memory. -/
namespace Go.Proofs.YtgiejnmphfgmgaaGreatDoor
open Go.RowKit Go.Deep

/-- What the maker's functions leave as it was: all but its own three kinds of blocks. -/
structure Kf (W W' : World) : Prop where
  os : W'.os = W.os
  tape : W'.tape = W.tape
  output : W'.output = W.output
  size : W.heap.size ≤ W'.heap.size
  block : ∀ (q : Nat) (c : Array Value) (t : TypeId), W.heap[q]? = some (Obj.cells c t) → t ≠ 52 → t ≠ 1 → t ≠ 61 → W'.heap[q]? = W.heap[q]?

theorem Kf.of_below {W W' : World} (h : Below W.heap.size W W') : Kf W W' := ⟨h.os, h.tape, h.output, h.size, fun q _ _ hq _ _ _ => h.block q (heap_lt hq)⟩
theorem Kf.refl (W : World) : Kf W W := Kf.of_below (Below.refl _ _)
theorem Kf.trans {W W' W'' : World} (h : Kf W W') (h' : Kf W' W'') : Kf W W'' :=
  ⟨h'.os.trans h.os, h'.tape.trans h.tape, h'.output.trans h.output, Nat.le_trans h.size h'.size, fun q c t hq h1 h2 h3 => by
    have e := h.block q c t hq h1 h2 h3
    exact (h'.block q c t (e.trans hq) h1 h2 h3).trans e⟩

theorem Kf.keep {W W' : World} (h : Kf W W') {q : Nat} {c : Array Value} {t : TypeId} (hq : W.heap[q]? = some (Obj.cells c t)) (h1 : t ≠ 52) (h2 : t ≠ 1) (h3 : t ≠ 61) : W'.heap[q]? = some (Obj.cells c t) := (h.block q c t hq h1 h2 h3).trans hq

/-- Names that are known, the last first. -/
def KnAt (W : World) : Option Addr → List ByteArray → Prop
  | p, [] => p = none
  | p, x :: r => ∃ b q, p = some ⟨b, 0, none⟩ ∧ W.heap[b]? = some (.cells #[.string x, .int .i64 (r.length : Int), .pointer q] 152) ∧ KnAt W q r

theorem KnAt.frame {W W' : World} (hf : Kf W W') : ∀ (r : List ByteArray) (p : Option Addr), KnAt W p r → KnAt W' p r
  | [], _, e => e
  | _ :: r, _, ⟨b, q, e, hb, hr⟩ => ⟨b, q, e, hf.keep hb (by decide) (by decide) (by decide), KnAt.frame hf r q hr⟩

/-- What is told a place later. -/
def TellK (W : World) (Mb fr wh : Nat) (v : Value) : Prop := ∃ q2 q3 f, v = .func (.func f) #[] #[.pointer (some ⟨q2, 0, none⟩), .pointer (some ⟨q3, 0, none⟩)] ∧ W.heap[q2]? = some (.cells #[.pointer (some ⟨Mb, 0, none⟩)] 58) ∧ W.heap[q3]? = some (.cells #[.int .i64 (fr : Int)] 3) ∧ ((wh = 0 ∧ f = 96) ∨ (wh = 1 ∧ f = 123))

theorem TellK.frame {W W' : World} {Mb fr wh : Nat} {v : Value} (h : TellK W Mb fr wh v) (hf : Kf W W') : TellK W' Mb fr wh v := by
  obtain ⟨q2, q3, f, e, h1, h2, h3⟩ := h
  exact ⟨q2, q3, f, e, hf.keep h1 (by decide) (by decide) (by decide), hf.keep h2 (by decide) (by decide) (by decide), h3⟩

/-- A tree's form. -/
def FormK (B : Nat) (W0 : World) (t : Tp) (v : Value) : Prop := ∃ us, Forms B W0 t.k us ∧ Shape B W0 t.n us v

/-- What is put off. -/
def LateK (B : Nat) (W0 W : World) (Mb : Nat) (l : Lt) (v : Value) : Prop := ∃ p4 p5 p6 p7 fv kn tv, v = .func (.func 94) #[] #[.pointer (some ⟨p7, 0, none⟩), .pointer (some ⟨p4, 0, none⟩), .pointer (some ⟨p5, 0, none⟩), .pointer (some ⟨p6, 0, none⟩)] ∧
  W.heap[p4]? = some (.cells #[.pointer (some ⟨Mb, 0, none⟩)] 58) ∧ W.heap[p5]? = some (.cells #[fv] 64) ∧ W.heap[p6]? = some (.cells #[.pointer kn] 97) ∧ W.heap[p7]? = some (.cells #[tv] 110) ∧
  (FormK B W0 l.t fv ∧ BdT l.t l.names) ∧ KnAt W kn l.names.reverse ∧ TellK W Mb l.fr l.wh tv

theorem LateK.frame {B : Nat} {W0 W W' : World} {Mb : Nat} {l : Lt} {v : Value} (h : LateK B W0 W Mb l v) (hf : Kf W W') : LateK B W0 W' Mb l v := by
  obtain ⟨p4, p5, p6, p7, fv, kn, tv, e, h4, h5, h6, h7, h8, h9, h10⟩ := h
  exact ⟨p4, p5, p6, p7, fv, kn, tv, e, hf.keep h4 (by decide) (by decide) (by decide), hf.keep h5 (by decide) (by decide) (by decide), hf.keep h6 (by decide) (by decide) (by decide), hf.keep h7 (by decide) (by decide) (by decide), h8, KnAt.frame hf _ _ h9, h10.frame hf⟩

/-- The maker, as it lies. -/
structure Km (B : Nat) (W0 : World) (Mb : Nat) (ve : Value) (s : Cs) (ls : List (Lt × Value)) (vo vl : Value) (W : World) : Prop where
  blk : W.heap[Mb]? = some (.cells #[ve, vo, vl] 61)
  orow : W.ownsRow W0.heap.size 52 4 vo s.out.length (rowZ In.cell 4 s.out)
  lrow : W.ownsRow W0.heap.size 1 1 vl ls.length (ls.map Prod.snd)
  late : ∀ x ∈ ls, LateK B W0 W Mb x.1 x.2
  lfst : ls.map Prod.fst = s.later
  os : W.os = W0.os
  tape : W.tape = W0.tape
  output : W.output = W0.output
  size : W0.heap.size ≤ W.heap.size
  kept : ∀ q, q < W0.heap.size → q ≠ Mb → W.heap[q]? = W0.heap[q]?
  nb : Mb < W0.heap.size

def KmE (B : Nat) (W0 : World) (Mb : Nat) (ve : Value) (s : Cs) (W : World) : Prop := ∃ ls vo vl, Km B W0 Mb ve s ls vo vl W

section
variable {B : Nat} {W0 : World} {Mb : Nat} {ve : Value} {s : Cs} {ls : List (Lt × Value)} {vo vl : Value} {W W' : World}

theorem Km.below (h : Km B W0 Mb ve s ls vo vl W) (hb : Below W.heap.size W W') : Km B W0 Mb ve s ls vo vl W' :=
  ⟨(hb.block _ (heap_lt h.blk)).trans h.blk, row_keeps h.orow (fun g _ hc _ => hb.block g (heap_lt hc)), row_keeps h.lrow (fun g _ hc _ => hb.block g (heap_lt hc)), fun x hx => (h.late x hx).frame (Kf.of_below hb), h.lfst,
    hb.os.trans h.os, hb.tape.trans h.tape, hb.output.trans h.output, Nat.le_trans h.size hb.size, fun q hq hn => (hb.block q (Nat.lt_of_lt_of_le hq h.size)).trans (h.kept q hq hn), h.nb⟩

theorem KmE.below (h : KmE B W0 Mb ve s W) (hb : Below W.heap.size W W') : KmE B W0 Mb ve s W' := by
  obtain ⟨ls, vo, vl, h⟩ := h
  exact ⟨ls, vo, vl, h.below hb⟩

theorem comp_set1 {a b c : Value} (h : W.heap[Mb]? = some (.cells #[a, b, c] 61)) (v : Value) : (W.setCell ⟨Mb, 1, none⟩ v).heap[Mb]? = some (.cells #[a, v, c] 61) := by
  simp [World.setCell, Array.getElem?_modify, h]

theorem comp_set2 {a b c : Value} (h : W.heap[Mb]? = some (.cells #[a, b, c] 61)) (v : Value) : (W.setCell ⟨Mb, 2, none⟩ v).heap[Mb]? = some (.cells #[a, b, v] 61) := by
  simp [World.setCell, Array.getElem?_modify, h]

/-- An instruction more. -/
theorem km_put (h : Km B W0 Mb ve s ls vo vl W) (i : In) {vo' : Value} (ho : W'.ownsRow W0.heap.size 52 4 vo' (s.out.length + 1) (rowZ In.cell 4 s.out ++ [.int .i64 i.op, .int .i64 i.a, .int .i64 i.b, .int .i64 i.c])) (hg : W.grownBy W' vo.ownBlock) :
    KmE B W0 Mb ve (s.put i) (W'.setCell ⟨Mb, 1, none⟩ vo') ∧ Kf W (W'.setCell ⟨Mb, 1, none⟩ vo') := by
  have e : ∀ q, q ≠ Mb → (W'.setCell ⟨Mb, 1, none⟩ vo').heap[q]? = W'.heap[q]? := fun q hq => Below.heap_setCell W' ⟨Mb, 1, none⟩ _ q hq
  have hs : (W'.setCell ⟨Mb, 1, none⟩ vo').heap.size = W'.heap.size := by simp [World.setCell]
  have hb' := (hg.block Mb (heap_lt h.blk) (row_ne h.orow h.blk (by decide))).trans h.blk
  have hf : Kf W (W'.setCell ⟨Mb, 1, none⟩ vo') := ⟨hg.os, hg.tape, hg.output, by rw [hs]; exact hg.size, fun q c t hq h1 _ h3 => (e q (fun e2 => by subst e2; rw [h.blk] at hq; cases hq; exact h3 rfl)).trans (hg.block q (heap_lt hq) (row_ne h.orow hq h1))⟩
  refine ⟨⟨ls, vo', vl, comp_set1 hb' _, ?_, ?_, fun x hx => (h.late x hx).frame hf, h.lfst, hg.os.trans h.os, hg.tape.trans h.tape, hg.output.trans h.output, by rw [hs]; exact Nat.le_trans h.size hg.size, fun q hq hn => ?_, h.nb⟩, hf⟩
  · have e3 : rowZ In.cell 4 (s.out ++ [i]) = rowZ In.cell 4 s.out ++ [.int .i64 i.op, .int .i64 i.a, .int .i64 i.b, .int .i64 i.c] := by rw [rowZ_app]; rfl
    show (W'.setCell ⟨Mb, 1, none⟩ vo').ownsRow _ _ _ _ (s.out ++ [i]).length (rowZ In.cell 4 (s.out ++ [i]))
    rw [e3, List.length_append]
    exact row_keeps ho (fun g c hc _ => e g (fun e2 => by subst e2; rw [hb'] at hc; cases hc))
  · exact row_keeps h.lrow (fun g c hc _ => (e g (fun e2 => by subst e2; rw [h.blk] at hc; cases hc)).trans (hg.block g (heap_lt hc) (row_ne h.orow hc (by decide))))
  · refine (e q hn).trans ((hg.block q (Nat.lt_of_lt_of_le hq h.size) (fun e2 => ?_)).trans (h.kept q hq hn))
    have := (own_type h.orow e2.symm).1
    omega

/-- A part more is put off. -/
theorem km_wait (h : Km B W0 Mb ve s ls vo vl W) (l : Lt) {v : Value} (hn : LateK B W0 W Mb l v) {vl' : Value} (ho : W'.ownsRow W0.heap.size 1 1 vl' (ls.length + 1) (ls.map Prod.snd ++ [v])) (hg : W.grownBy W' vl.ownBlock) :
    KmE B W0 Mb ve (s.wait l) (W'.setCell ⟨Mb, 2, none⟩ vl') ∧ Kf W (W'.setCell ⟨Mb, 2, none⟩ vl') := by
  have e : ∀ q, q ≠ Mb → (W'.setCell ⟨Mb, 2, none⟩ vl').heap[q]? = W'.heap[q]? := fun q hq => Below.heap_setCell W' ⟨Mb, 2, none⟩ _ q hq
  have hs : (W'.setCell ⟨Mb, 2, none⟩ vl').heap.size = W'.heap.size := by simp [World.setCell]
  have hb' := (hg.block Mb (heap_lt h.blk) (row_ne h.lrow h.blk (by decide))).trans h.blk
  have hf : Kf W (W'.setCell ⟨Mb, 2, none⟩ vl') := ⟨hg.os, hg.tape, hg.output, by rw [hs]; exact hg.size, fun q c t hq _ h1 h3 => (e q (fun e2 => by subst e2; rw [h.blk] at hq; cases hq; exact h3 rfl)).trans (hg.block q (heap_lt hq) (row_ne h.lrow hq h1))⟩
  refine ⟨⟨ls ++ [(l, v)], vo, vl', comp_set2 hb' _, ?_, ?_, fun x hx => ?_, ?_, hg.os.trans h.os, hg.tape.trans h.tape, hg.output.trans h.output, by rw [hs]; exact Nat.le_trans h.size hg.size, fun q hq hn => ?_, h.nb⟩, hf⟩
  · exact row_keeps h.orow (fun g c hc _ => (e g (fun e2 => by subst e2; rw [h.blk] at hc; cases hc)).trans (hg.block g (heap_lt hc) (row_ne h.lrow hc (by decide))))
  · rw [List.map_append, List.length_append]
    exact row_keeps ho (fun g c hc _ => e g (fun e2 => by subst e2; rw [hb'] at hc; cases hc))
  · rw [List.mem_append, List.mem_singleton] at hx
    rcases hx with hx | rfl
    · exact (h.late x hx).frame hf
    · exact hn.frame hf
  · rw [List.map_append, h.lfst]
    rfl
  · refine (e q hn).trans ((hg.block q (Nat.lt_of_lt_of_le hq h.size) (fun e2 => ?_)).trans (h.kept q hq hn))
    have := (own_type h.lrow e2.symm).1
    omega
end

/-- A number of an instruction is set. -/
def Cs.setAt (s : Cs) (fr wh : Nat) (v : Int) : Cs := ⟨s.out.set fr ((s.out.getD fr default).lead wh v), s.later⟩

theorem setAt_lead (s : Cs) (fr wh : Nat) : s.setAt fr wh s.out.length = s.lead fr wh := rfl

theorem lead_list (l : List In) (k wh : Nat) (hk : k < l.length) (hw : wh ≤ 2) (v : Int) : (rowZ In.cell 4 l).set (k * 4 + (wh + 1)) (.int .i64 v) = rowZ In.cell 4 (l.set k ((l.getD k default).lead wh v)) := by
  apply List.ext_getElem?
  intro j
  by_cases hj : j < l.length * 4
  · rw [rowZ_get In.cell 4 (by decide) (l.set k _) j (by rw [List.length_set]; exact hj)]
    have hl := rowZ_len In.cell 4 l
    have h0 := rowZ_get In.cell 4 (by decide) l j hj
    by_cases hik : j / 4 = k
    · have hgd : (l.set k ((l.getD k default).lead wh v)).getD (j / 4) default = (l.getD k default).lead wh v := by rw [hik]; simp [List.getD, hk]
      rw [hgd]
      rw [hik] at h0
      have hr : j % 4 = 0 ∨ j % 4 = 1 ∨ j % 4 = 2 ∨ j % 4 = 3 := by omega
      have hw3 : wh = 0 ∨ wh = 1 ∨ wh = 2 := by omega
      rcases hw3 with rfl | rfl | rfl <;> rcases hr with hr | hr | hr | hr
      · rw [List.getElem?_set_ne (by omega), h0, hr]; rfl
      · rw [show k * 4 + (0 + 1) = j by omega, List.getElem?_set_self (by omega), hr]; rfl
      · rw [List.getElem?_set_ne (by omega), h0, hr]; rfl
      · rw [List.getElem?_set_ne (by omega), h0, hr]; rfl
      · rw [List.getElem?_set_ne (by omega), h0, hr]; rfl
      · rw [List.getElem?_set_ne (by omega), h0, hr]; rfl
      · rw [show k * 4 + (1 + 1) = j by omega, List.getElem?_set_self (by omega), hr]; rfl
      · rw [List.getElem?_set_ne (by omega), h0, hr]; rfl
      · rw [List.getElem?_set_ne (by omega), h0, hr]; rfl
      · rw [List.getElem?_set_ne (by omega), h0, hr]; rfl
      · rw [List.getElem?_set_ne (by omega), h0, hr]; rfl
      · rw [show k * 4 + (2 + 1) = j by omega, List.getElem?_set_self (by omega), hr]; rfl
    · rw [List.getElem?_set_ne (by omega), h0]
      have hgd : (l.set k ((l.getD k default).lead wh v)).getD (j / 4) default = l.getD (j / 4) default := by simp [List.getD, List.getElem?_set_ne (Ne.symm hik)]
      rw [hgd]
  · rw [List.getElem?_eq_none (by simp only [List.length_set, rowZ_len]; omega), List.getElem?_eq_none (by simp only [List.length_set, rowZ_len]; omega)]

section
variable {B : Nat} {W0 : World} {Mb : Nat} {ve : Value} {s : Cs} {ls : List (Lt × Value)} {vl : Value} {W : World}

theorem km_set {g cap : Nat} (h : Km B W0 Mb ve s ls (.slice (some ⟨g, 0, none⟩) s.out.length cap) vl W) {fr : Nat} (hfr : fr < s.out.length) {wh : Nat} (hw : wh ≤ 2) (v : Int) :
    KmE B W0 Mb ve (s.setAt fr wh v) (W.setCell ⟨g, fr * 4 + (wh + 1), none⟩ (.int .i64 v)) ∧ Kf W (W.setCell ⟨g, fr * 4 + (wh + 1), none⟩ (.int .i64 v)) := by
  have e : ∀ j, j ≠ g → (W.setCell ⟨g, fr * 4 + (wh + 1), none⟩ (.int .i64 v)).heap[j]? = W.heap[j]? := fun j hj => Below.heap_setCell W ⟨g, fr * 4 + (wh + 1), none⟩ _ j hj
  have hs : (W.setCell ⟨g, fr * 4 + (wh + 1), none⟩ (.int .i64 v)).heap.size = W.heap.size := by simp [World.setCell]
  obtain ⟨hB, cur, hc⟩ := own_type h.orow (g := g) rfl
  have hf : Kf W (W.setCell ⟨g, fr * 4 + (wh + 1), none⟩ (.int .i64 v)) := ⟨rfl, rfl, rfl, by rw [hs]; exact Nat.le_refl _, fun q c t hq h1 _ _ => e q (fun e2 => by subst e2; rw [hc] at hq; cases hq; exact h1 rfl)⟩
  refine ⟨⟨ls, .slice (some ⟨g, 0, none⟩) s.out.length cap, vl, (e Mb (fun e2 => by subst e2; rw [h.blk] at hc; cases hc)).trans h.blk, ?_, row_keeps h.lrow (fun q c hq _ => e q (fun e2 => by subst e2; rw [hc] at hq; cases hq)), fun x hx => (h.late x hx).frame hf, h.lfst, h.os, h.tape, h.output, by rw [hs]; exact h.size, fun q hq hn => (e q (by omega)).trans (h.kept q hq hn), h.nb⟩, hf⟩
  have h1 := (h.orow.stored (fr * 4 + (wh + 1)) (.int .i64 v)).1
  rw [lead_list s.out fr wh hfr hw v] at h1
  show (W.setCell _ _).ownsRow _ _ _ _ (s.out.set fr _).length _
  rw [List.length_set]
  exact h1
end
end Go.Proofs.YtgiejnmphfgmgaaGreatDoor

/- A region in stages, more: what must hold of the world may grow on the way; one that makes something beside a call. -/
namespace Go.Proofs.YtgiejnmphfgmgaaGreatDoor
open Go.RowKit

theorem held_more {P : Program} {md : Region.Mode} {ops : Array Oper} {Q : Exit → Act → World → Prop} {S S' : World → Prop} (h : ∀ w, S' w → S w) : ∀ (n : Nat) (ls : Array Bool) (a : Act) (w : World), wpAnyH P md ops Q S' n ls a w → wpAnyH P md ops Q S n ls a w
  | 0, _, _, _, x => x
  | n + 1, _, _, _, x => ⟨x.1, fun i hi => wpOp_mono (fun a' w' y => ⟨h w' y.1, held_more h n _ a' w' y.2⟩) (x.2 i hi)⟩

section
variable {P : Program} {l0 : List Oper} {Q : Exit → Act → World → Prop} {S : World → Prop}

/-- From here on more holds of the world. -/
theorem pick_more (S' : World → Prop) {n : Nat} {ls : Array Bool} {a : Act} {w : World} (hi : ∀ w, S' w → S w) (h : wpAnyH P .any l0.toArray (NoPanic Q) S' n ls a w) : wpAnyH P .any l0.toArray (NoPanic Q) S n ls a w := held_more hi n ls a w h

/-- A call that may come up. -/
def PickCl (P : Program) (l0 : List Oper) (Q : Exit → Act → World → Prop) (S : World → Prop) (n : Nat) (ls : Array Bool) (a : Act) (w : World) (i : Nat) : Prop :=
  ∃ o f args, l0[i]? = some o ∧ Region.wanted o (yielded l0.toArray a.tmps) = true ∧ (execOp a.eval o).run P w = .ok (.enter f args) w ∧ Calls P f args w fun e w' => ∃ v, e = .returned v ∧ S w' ∧ wpAnyH P .any l0.toArray (NoPanic Q) S n (ls.setIfInBounds i true) (a.put o.dst v) w'

theorem PickMk.op {n i : Nat} {ls : Array Bool} {a : Act} {w : World} (h : PickMk P l0 Q S n ls a w i) : wpOp P l0.toArray (NoPanic Q) i (fun a' w' => S w' ∧ wpAnyH P .any l0.toArray (NoPanic Q) S n (ls.setIfInBounds i true) a' w') a w := by
  obtain ⟨o, v, w1, ho, hw, hrun, hS, h⟩ := h
  have ho' : l0.toArray[i]? = some o := by simpa using ho
  unfold wpOp
  rw [ho']
  dsimp only
  rw [if_pos hw]
  refine Or.inl ?_
  unfold Oper.wp
  rw [hrun]
  exact ⟨hS, h⟩

theorem PickCl.op {n i : Nat} {ls : Array Bool} {a : Act} {w : World} (h : PickCl P l0 Q S n ls a w i) : wpOp P l0.toArray (NoPanic Q) i (fun a' w' => S w' ∧ wpAnyH P .any l0.toArray (NoPanic Q) S n (ls.setIfInBounds i true) a' w') a w := by
  obtain ⟨o, f, args, ho, hw, hrun, h⟩ := h
  have ho' : l0.toArray[i]? = some o := by simpa using ho
  unfold wpOp
  rw [ho']
  dsimp only
  rw [if_pos hw]
  refine Or.inl ?_
  unfold Oper.wp
  rw [hrun]
  refine Calls.mono h ?_
  rintro e w3 ⟨v, rfl, hS, hn⟩
  exact ⟨hS, hn⟩

/-- A store that is alone ready. -/
theorem pick_skip {i n : Nat} {o : Oper} {ls ls' : Array Bool} {a : Act} {w w1 : World} (hd : o.dst = none) (ho : l0[i]? = some o) (hr : (Region.ready .any l0.toArray ls == [i]) = true) (hl : ls.setIfInBounds i true = ls') (hw : Region.wanted o (yielded l0.toArray a.tmps) = true)
    (hrun : (execOp a.eval o).run P w = .ok .skip w1) (hS : S w1) (h : wpAnyH P .any l0.toArray (NoPanic Q) S n ls' a w1) : wpAnyH P .any l0.toArray (NoPanic Q) S (n + 1) ls a w := by
  subst hl
  have ho' : l0.toArray[i]? = some o := by simpa using ho
  refine wpAnyH_all (rs := [i]) (by simpa using hr) (by simp) (fun j hj => ?_)
  rw [List.mem_singleton] at hj
  subst hj
  unfold wpOp
  rw [ho']
  dsimp only
  rw [if_pos hw]
  refine Or.inl ?_
  have hp : a.put o.dst undef = a := by rw [hd]; rfl
  unfold Oper.wp
  rw [hrun]
  refine ⟨hS, ?_⟩
  rw [hp]
  exact h

/-- One that makes something, or a call: whichever comes up. -/
theorem pick_either {i j n : Nat} {ls : Array Bool} {a : Act} {w : World} (hr : (Region.ready .any l0.toArray ls == [i, j]) = true) (h1 : PickMk P l0 Q S n ls a w i) (h2 : PickCl P l0 Q S n ls a w j) : wpAnyH P .any l0.toArray (NoPanic Q) S (n + 1) ls a w := by
  refine wpAnyH_all (rs := [i, j]) (by simpa using hr) (by simp) (fun k hk => ?_)
  simp only [List.mem_cons, List.not_mem_nil, or_false] at hk
  rcases hk with rfl | rfl
  · exact h1.op
  · exact h2.op
end
end Go.Proofs.YtgiejnmphfgmgaaGreatDoor

/- The program's maker of code: its small functions. -/
namespace Go.Proofs.YtgiejnmphfgmgaaGreatDoor
open Go.RowKit Go.Deep

def AddPost (B : Nat) (W0 : World) (Mb : Nat) (ve : Value) (s : Cs) (i : In) (W : World) (e : Ending) (W' : World) : Prop :=
  e = .returned (.int .i64 (s.out.length : Int)) ∧ KmE B W0 Mb ve (s.put i) W' ∧ Kf W W'

set_option maxHeartbeats 2000000 in
set_option maxRecDepth 100000 in
theorem addI_calls {B : Nat} {W0 : World} {Mb : Nat} {ve : Value} {s : Cs} (i : In) {W : World} (h : KmE B W0 Mb ve s W) (hl : s.out.length ≤ 960000) :
    Calls Tryz.prog 26 #[.pointer (some ⟨Mb, 0, none⟩), .agg #[.int .i64 i.op, .int .i64 i.a, .int .i64 i.b, .int .i64 i.c]] W (AddPost B W0 Mb ve s i W) := by
  obtain ⟨ls, vo, vl, h⟩ := h
  obtain ⟨op, a, b, c⟩ := i
  obtain ⟨adp, cpp, hvp⟩ := own_slice h.orow
  subst hvp
  have hbx := (MapKept.heap_alloc W (.cells #[.int .i64 op, .int .i64 a, .int .i64 b, .int .i64 c] 52)).1
  have hb0 : Below W.heap.size W (W.alloc (.cells #[.int .i64 op, .int .i64 a, .int .i64 b, .int .i64 c] 52)) := (Below.refl _ _).alloc (Nat.le_refl _) _
  obtain ⟨Y, hY⟩ : ∃ Y, W.alloc (.cells #[.int .i64 op, .int .i64 a, .int .i64 b, .int .i64 c] 52) = Y := ⟨_, rfl⟩
  have HY := hid hY
  rw [hY] at hbx hb0
  have St0 := hid (h.below hb0)
  have HB0 := hid hb0
  have HBx := hid hbx
  have HL := hid hl
  have hsz : W.heap.size + 1 = Y.heap.size := by rw [← hY]; simp
  have d1 := cell_of_heap St0.out.blk 1
  simp at d1
  have hPl : Mb < Y.heap.size := heap_lt St0.out.blk
  have hxl : W.heap.size < Y.heap.size := by omega
  have e0 := cell_of_heap HBx.out 0
  have e1 := cell_of_heap HBx.out 1
  have e2 := cell_of_heap HBx.out 2
  have e3 := cell_of_heap HBx.out 3
  simp at e0 e1 e2 e3
  clear h hl hY hb0 hbx
  go_enter Tryz.func26, Tryz.ntmps26
  go_upto_region 1 with fail
  rw [HY.out]
  clear HY
  have q0 : ∀ y : Later Y.heap.size Y, y.w.cell? ⟨Mb, 1, none⟩ = _ := fun y => y.cell hPl d1
  have p0 : ∀ y : Later Y.heap.size Y, y.w.cell? ⟨W.heap.size, 0, none⟩ = _ := fun y => y.cell hxl e0
  have p1 : ∀ y : Later Y.heap.size Y, y.w.cell? ⟨W.heap.size, 1, none⟩ = _ := fun y => y.cell hxl e1
  have p2 : ∀ y : Later Y.heap.size Y, y.w.cell? ⟨W.heap.size, 2, none⟩ = _ := fun y => y.cell hxl e2
  have p3 : ∀ y : Later Y.heap.size Y, y.w.cell? ⟨W.heap.size, 3, none⟩ = _ := fun y => y.cell hxl e3
  clear d1 e0 e1 e2 e3
  refine till_begin (c := 7) (S := fun w' => ∃ x : Later Y.heap.size Y, w' = x.w) (by kernel_rfl) ?_
  refine till_walk (by kernel_rfl) 6 0 _ _ (by kernel_rfl) (by kernel_rfl) ⟨⟨Y.drew, (Below.refl _ _).drew⟩, rfl⟩ ?_
  simp only [List.drop_zero, List.take_succ_cons, List.take_zero]
  repeat (go_big_quiet_step (fail))
  refine wpQuiet_nil ?_
  rintro w7 ⟨x1, rfl⟩
  have hL1 := x1.h
  clear q0 p0 p1 p2 p3
  generalize x1.w = X1 at *
  refine till_make (k := 6) (v := .slice (some ⟨X1.heap.size, 0, none⟩) 1 1) (w1 := X1.alloc (.cells #[.int .i64 op, .int .i64 a, .int .i64 b, .int .i64 c] 52)) (by decide) rfl (by kernel_rfl) rfl (by simp [go_sem]) ⟨⟨_, hL1.alloc (by have := hL1.size; omega) _⟩, rfl⟩ (by simp [go_sem]; exact rfl) ?_
  have hE := (MapKept.heap_alloc X1 (.cells #[.int .i64 op, .int .i64 a, .int .i64 b, .int .i64 c] 52)).1
  have hKx := hL1.trans (((Below.refl X1.heap.size X1).alloc (Nat.le_refl _) (.cells #[.int .i64 op, .int .i64 a, .int .i64 b, .int .i64 c] 52)).mono hL1.size)
  generalize X1.alloc (.cells #[.int .i64 op, .int .i64 a, .int .i64 b, .int .i64 c] 52) = X2 at *
  have St2 := hid (St0.out.below hKx)
  obtain ⟨i0, hi, hz0, hz1, hz2⟩ := info_parts info_insC
  obtain ⟨vp2, X3, hrun, hown, hgrow, -, hat⟩ := run_append_own_at (P := Tryz.prog) X2 W0.heap.size 27 27 52 i0 _ 4 32 Tryz.underlying27 hi hz0 hz1 hz2 rfl (by decide) (.slice adp s.out.length cpp) s.out.length (rowZ In.cell 4 s.out) St2.out.orow ⟨X1.heap.size, 0, none⟩ 1 1 [.int .i64 op, .int .i64 a, .int .i64 b, .int .i64 c] rfl (fun j u hu => by
    rw [Addr.add_lit]
    match j, hu with
    | 0, hu => simp at hu; subst hu; exact cell_of_heap hE 0
    | 1, hu => simp at hu; subst hu; exact cell_of_heap hE 1
    | 2, hu => simp at hu; subst hu; exact cell_of_heap hE 2
    | 3, hu => simp at hu; subst hu; exact cell_of_heap hE 3) (fun u hu => by
    simp at hu
    rcases hu with rfl | rfl | rfl | rfl <;> rfl) (by have := HL.out; unfold maxLen; omega) (by have := HL.out; omega) St2.out.size
  have hnx := km_put St2.out ⟨op, a, b, c⟩ hown hgrow
  refine till_cut (v := vp2) (w1 := X3) rfl (by kernel_rfl) rfl (append_runN (s := .tmp 9) (x := .tmp 11) (t := 27) rfl rfl rfl hrun) (by simp [go_sem]; exact rfl) ?_
  refine any_stage (fun _ => True) ?_
  have hb3 := (hgrow.block Mb (heap_lt St2.out.blk) (row_ne St2.out.orow St2.out.blk (by decide))).trans St2.out.blk
  have d1 := cell_of_heap hb3 1
  have w1 := frozen_of_heap hb3 1
  simp at d1
  obtain ⟨ad2, cp2, hv2⟩ := own_slice hown
  subst hv2
  refine stage_make (k := 8) (v := .pointer (some ⟨Mb, 0, none⟩)) (w1 := X3) rfl (by kernel_rfl) rfl (by simp [go_sem]) trivial (by simp [go_sem]; exact rfl) ?_
  refine stage_make (k := 9) (v := .pointer (some ⟨Mb, 1, none⟩)) (w1 := X3) rfl (by kernel_rfl) rfl (by simp [go_sem]) trivial (by simp [go_sem]; exact rfl) ?_
  refine stage_skip (k := 10) rfl (w1 := X3.setCell ⟨Mb, 1, none⟩ (.slice ad2 (s.out.length + 1) cp2)) rfl (by kernel_rfl) rfl (by simp [go_sem, d1, w1]) trivial ?_
  refine stage_end (by kernel_rfl) ?_
  have HNx := hid hnx.1
  have HFr := hid (((Kf.of_below HB0.out).trans (Kf.of_below hKx)).trans hnx.2)
  have hfin := cell_of_heap (comp_set1 hb3 (.slice ad2 (s.out.length + 1) cp2)) 1
  simp at hfin
  clear hnx hrun hown hgrow hat hE hKx hi hz0 hz1 hz2 hb3 d1 w1 St2 St0 HBx HB0 hL1 hPl hxl hsz
  generalize X3.setCell ⟨Mb, 1, none⟩ (.slice ad2 (s.out.length + 1) cp2) = Z at *
  go_wp2_with fail
  rw [show wrap64 (s.out.length : Int) = (s.out.length : Int) by have := HL.out; unfold wrap64; omega]
  go_ret
  exact ⟨rfl, HNx.out, HFr.out⟩

set_option maxRecDepth 100000 in
theorem withI_calls (p : Option Addr) (x : ByteArray) (y : Int) (w : World) :
    Calls Tryz.prog 95 #[.pointer p, .string x, .int .i64 y] w fun e w' => e = .returned (.pointer (some ⟨w.heap.size, 0, none⟩)) ∧ w' = w.alloc (.cells #[.string x, .int .i64 y, .pointer p] 152) := by
  go_enter Tryz.func95, Tryz.ntmps95
  go_wp2_with fail
  go_ret
  exact ⟨rfl, rfl⟩

set_option maxRecDepth 100000 in
theorem many_known {W : World} {p : Option Addr} {r : List ByteArray} (h : KnAt W p r) (hl : r.length ≤ 100000) : Calls Tryz.prog 55 #[.pointer p] W fun e W' => e = .returned (.int .i64 (r.length : Int)) ∧ Below W.heap.size W W' := by
  cases r with
  | nil =>
    have e : p = none := h
    subst e
    go_enter Tryz.func55, Tryz.ntmps55
    go_wp2_with fail
    go_ret
    exact ⟨rfl, Below.refl _ _⟩
  | cons x r =>
    obtain ⟨b, q, rfl, hb, -⟩ := h
    have c1 := cell_of_heap hb 1
    simp at c1
    have HL : Hid (r.length + 1 ≤ 100000) := by show _ ≤ _; simpa using hl
    clear hb hl
    go_enter Tryz.func55, Tryz.ntmps55
    go_wp2_with fail
    rw [wrap_succ (by have := HL.out; omega)]
    go_ret
    exact ⟨by simp, Below.refl _ _⟩

def KnowP (W : World) (r : List ByteArray) (e : Ending) (W' : World) : Prop := ∃ p', e = .returned (.pointer p') ∧ KnAt W' p' r ∧ Below W.heap.size W W'

set_option maxRecDepth 100000 in
theorem knowing_calls {W : World} {p : Option Addr} {r : List ByteArray} (x : ByteArray) (h : KnAt W p r) (hl : r.length ≤ 100000) : Calls Tryz.prog 57 #[.pointer p, .string x] W (KnowP W (x :: r)) := by
  have H1 := hid (many_known h hl)
  have HK := hid h
  obtain ⟨m, hm⟩ : ∃ m : Int, (r.length : Int) = m := ⟨_, rfl⟩
  rw [hm] at H1
  have HM := hid hm
  clear h hl hm
  go_enter Tryz.func57, Tryz.ntmps57
  go_wp2_with fail
  refine H1.out.mono ?_
  rintro e X ⟨rfl, hb⟩
  have HB := hid hb
  have HW := hid (withI_calls p x m X)
  clear hb H1
  go_wp2_with fail
  refine HW.out.mono ?_
  rintro e X2 ⟨rfl, rfl⟩
  have hbA := (Below.refl X.heap.size X).alloc (Nat.le_refl _) (.cells #[.string x, .int .i64 m, .pointer p] 152)
  have HA := hid (MapKept.heap_alloc X (.cells #[.string x, .int .i64 m, .pointer p] 152)).1
  have HBA := hid (HB.out.trans (hbA.mono HB.out.size))
  clear hbA
  go_wp2_with fail
  go_ret
  exact ⟨_, rfl, ⟨_, p, rfl, by rw [HM.out]; exact HA.out, KnAt.frame (Kf.of_below HBA.out) _ _ HK.out⟩, HBA.out⟩

/-- Which place a name has, counted from the first. -/
def whereK : List ByteArray → ByteArray → Option Nat
  | [], _ => none
  | x :: r, y => if x = y then some r.length else whereK r y

theorem knLen_eq {W : World} : ∀ (sc : List ByteArray) (f : Nat) (p : Option Addr), KnAt W p sc → sc.length ≤ f → scoLen f W (.pointer p) = sc.length
  | [], f, p, h, _ => by
    rw [show p = none from h]
    cases f <;> rfl
  | _ :: r, 0, p, _, hf => by simp at hf
  | _ :: r, f + 1, p, ⟨b, q, e, hb, hr⟩, hf => by
    subst e
    unfold scoLen
    rw [cell_of_heap hb 2]
    have := knLen_eq r f q hr (by simpa using hf)
    simp only [List.length_cons]
    show 1 + scoLen f W (.pointer q) = _
    omega

set_option maxHeartbeats 2000000 in
set_option maxRecDepth 100000 in
theorem findK_calls (p : Option Addr) (sc : List ByteArray) (y : ByteArray) (w : World) (h : KnAt w p sc) :
    Calls Tryz.prog 54 #[.pointer p, .string y] w fun e w' => e = .returned (.tuple #[.int .i64 (((whereK sc y).getD 0 : Nat) : Int), .bool (whereK sc y).isSome]) ∧ w = w' := by
  obtain ⟨R, hR⟩ : ∃ R, whereK sc y = R := ⟨_, rfl⟩
  have HR := hid hR
  have HS := hid h
  rw [hR]
  clear hR h
  go_enter Tryz.func54, Tryz.ntmps54
  go_wp2_with fail
  go_loop [0] (fun v => ∃ (q : Option Addr) (r : List ByteArray), v = .pointer q ∧ Hid (KnAt w q r ∧ whereK r y = R ∧ r.length ≤ sc.length)) (fun v => scoLen sc.length w v)
  case atStart => exact ⟨p, sc, rfl, HS.out, HR.out, Nat.le_refl _⟩
  case round =>
    obtain ⟨q, r, rfl, HQ⟩ := hrel
    cases r with
    | nil =>
      have e : q = none := HQ.out.1
      subst e
      have hR0 : R = none := HQ.out.2.1.symm
      subst hR0
      go_wp2_with fail
      go_ret2
      exact ⟨rfl, rfl⟩
    | cons x r =>
      obtain ⟨⟨b, q', e, hb, hr⟩, hf, hl⟩ := HQ.out
      subst e
      have c0 := cell_of_heap hb 0
      have c1 := cell_of_heap hb 1
      have c2 := cell_of_heap hb 2
      simp at c0 c1 c2
      have Hr := hid hr
      have hxs := str_eq x y
      by_cases he : x = y
      · subst he
        unfold whereK at hf
        rw [if_pos rfl] at hf
        subst hf
        clear hb hr hl HQ
        go_wp2_with fail
        go_ret2
        exact ⟨rfl, rfl⟩
      · rw [decide_eq_false he] at hxs
        unfold whereK at hf
        rw [if_neg he] at hf
        have HF := hid hf
        have HL := hid hl
        clear hb hr hl hf
        go_wp2_with fail
        refine ⟨⟨q', r, rfl, Hr.out, HF.out, by have := HL.out; simp at this; omega⟩, ?_⟩
        rw [knLen_eq r _ q' Hr.out (by have := HL.out; simp at this; omega), knLen_eq (x :: r) _ _ HQ.out.1 HL.out]
        simp

def TellP (W : World) (Mb fr : Nat) (e : Ending) (W' : World) : Prop := ∃ v, e = .returned v ∧ TellK W' Mb fr 0 v ∧ (∃ a b, v = .func (.func 96) #[] #[.pointer (some ⟨a, 0, none⟩), .pointer (some ⟨b, 0, none⟩)]) ∧ Below W.heap.size W W'

set_option maxRecDepth 100000 in
theorem leadTo_calls (Mb fr : Nat) (W : World) : Calls Tryz.prog 58 #[.pointer (some ⟨Mb, 0, none⟩), .int .i64 (fr : Int)] W (TellP W Mb fr) := by
  have hA := (MapKept.heap_alloc W (.cells #[.pointer (some ⟨Mb, 0, none⟩)] 58)).1
  have hb1 := (Below.refl W.heap.size W).alloc (Nat.le_refl _) (.cells #[.pointer (some ⟨Mb, 0, none⟩)] 58)
  have hB := (MapKept.heap_alloc (W.alloc (.cells #[.pointer (some ⟨Mb, 0, none⟩)] 58)) (.cells #[.int .i64 (fr : Int)] 3)).1
  have hb2 := (Below.refl (W.alloc (.cells #[.pointer (some ⟨Mb, 0, none⟩)] 58)).heap.size (W.alloc (.cells #[.pointer (some ⟨Mb, 0, none⟩)] 58))).alloc (Nat.le_refl _) (.cells #[.int .i64 (fr : Int)] 3)
  have HA := hid ((hb2.block _ (heap_lt hA)).trans hA)
  have HB := hid hB
  have HS := hid (show (W.alloc (.cells #[.pointer (some ⟨Mb, 0, none⟩)] 58)).heap.size = W.heap.size + 1 by simp)
  have Hb := hid (hb1.trans (hb2.mono hb1.size))
  rw [HS.out] at HB
  clear hA hb1 hB hb2 HS
  go_enter Tryz.func58, Tryz.ntmps58
  go_wp2_with fail
  go_ret
  exact ⟨_, rfl, ⟨W.heap.size, W.heap.size + 1, _, rfl, HA.out, HB.out, Or.inl ⟨rfl, rfl⟩⟩, ⟨_, _, rfl⟩, Hb.out⟩

def SetP (B : Nat) (W0 : World) (Mb : Nat) (ve : Value) (s : Cs) (W : World) (e : Ending) (W' : World) : Prop := (∃ x, e = .returned x) ∧ KmE B W0 Mb ve s W' ∧ Kf W W'

theorem km_code {B : Nat} {W0 : World} {Mb : Nat} {ve : Value} {s : Cs} {ls : List (Lt × Value)} {vo vl : Value} {W : World} (h : Km B W0 Mb ve s ls vo vl W) (hl : 0 < s.out.length) : ∃ g cap, vo = .slice (some ⟨g, 0, none⟩) s.out.length cap := by
  obtain ⟨-, ⟨-, h0⟩ | ⟨g, cap, cur, e, -⟩⟩ := h.orow
  · omega
  · exact ⟨g, cap, e⟩

set_option maxHeartbeats 2000000 in
set_option maxRecDepth 100000 in
theorem tellA_calls {B : Nat} {W0 : World} {Mb : Nat} {ve : Value} {s : Cs} {q2 q3 fr : Nat} (v : Int) {W : World} (h : KmE B W0 Mb ve s W) (h2 : W.heap[q2]? = some (.cells #[.pointer (some ⟨Mb, 0, none⟩)] 58)) (h3 : W.heap[q3]? = some (.cells #[.int .i64 (fr : Int)] 3)) (hfr : fr < s.out.length) :
    Calls Tryz.prog 96 #[.int .i64 v, .pointer (some ⟨q2, 0, none⟩), .pointer (some ⟨q3, 0, none⟩)] W (SetP B W0 Mb ve (s.setAt fr 0 v) W) := by
  obtain ⟨ls, vo, vl, h⟩ := h
  obtain ⟨g, cap, rfl⟩ := km_code h (by omega)
  obtain ⟨-, cur, hc⟩ := own_type h.orow (g := g) rfl
  have hb : Below W.heap.size W W.drew := (Below.refl _ _).drew
  have hS : W.drew.cell? ⟨q2, 0, none⟩ = some (.pointer (some ⟨Mb, 0, none⟩)) ∧ W.drew.cell? ⟨q3, 0, none⟩ = some (.int .i64 (fr : Int)) ∧ W.drew.cell? ⟨Mb, 1, none⟩ = some (.slice (some ⟨g, 0, none⟩) s.out.length cap) := ⟨cell_of_heap (w := W.drew) h2 0, cell_of_heap (w := W.drew) h3 0, cell_of_heap (w := W.drew) h.blk 1⟩
  have hf0 : (0 : Int) ≤ (fr : Int) := by omega
  have hf1 : (fr : Int) < (s.out.length : Int) := by omega
  have hfin := km_set (h.below hb) hfr (wh := 0) (by omega) v
  have HFin := hid (And.intro hfin.1 ((Kf.of_below hb).trans hfin.2))
  have hz : W.drew.frozen? ⟨g, fr * 4 + 1, none⟩ = false := frozen_of_heap (w := W.drew) hc (fr * 4 + 1)
  have hx : W.drew.cell? ⟨g, fr * 4 + 1, none⟩ = some ((s.out.getD fr default).cell 1) := by
    rw [(h.below hb).orow.cellAt (fr * 4 + 1) (by omega), rowZ_get In.cell 4 (by decide) s.out _ (by omega)]
    rw [show (fr * 4 + 1) / 4 = fr by omega, show (fr * 4 + 1) % 4 = 1 by omega]
  have hn : q2 ≠ g ∧ q3 ≠ g ∧ Mb ≠ g := ⟨fun e => (by subst e; rw [hc] at h2; cases h2), fun e => (by subst e; rw [hc] at h3; cases h3), fun e => (by subst e; have := h.blk; rw [hc] at this; cases this)⟩
  clear h hfin hc hb h2 h3
  go_enter Tryz.func96, Tryz.ntmps96
  refine pick_begin (S := fun w => w.cell? ⟨q2, 0, none⟩ = some (.pointer (some ⟨Mb, 0, none⟩)) ∧ w.cell? ⟨q3, 0, none⟩ = some (.int .i64 (fr : Int)) ∧ w.cell? ⟨Mb, 1, none⟩ = some (.slice (some ⟨g, 0, none⟩) s.out.length cap)) (n := 9) (ls := #[false, false, false, false, false, false, false, false, false]) (by kernel_rfl) rfl (by kernel_rfl) ?_
  generalize W.drew = X at *
  refine pick_op (i := 0) (v := .pointer (some ⟨Mb, 0, none⟩)) (by kernel_rfl) rfl (by kernel_rfl) (by kernel_rfl) rfl rfl (fun w' hw => by simp [go_sem, hw.1]) hS (by simp [go_sem]; exact rfl) ?_
  refine pick_op (i := 1) (v := .pointer (some ⟨Mb, 0, none⟩)) (by kernel_rfl) rfl (by kernel_rfl) (by kernel_rfl) rfl rfl (fun w' hw => by simp [go_sem]) hS (by simp [go_sem]; exact rfl) ?_
  refine pick_op (i := 2) (v := .pointer (some ⟨Mb, 1, none⟩)) (by kernel_rfl) rfl (by kernel_rfl) (by kernel_rfl) rfl rfl (fun w' hw => by simp [go_sem]) hS (by simp [go_sem]; exact rfl) ?_
  refine pick_op (i := 3) (v := .slice (some ⟨g, 0, none⟩) s.out.length cap) (by kernel_rfl) rfl (by kernel_rfl) (by kernel_rfl) rfl rfl (fun w' hw => by simp [go_sem, hw.2.2]) hS (by simp [go_sem]; exact rfl) ?_
  refine pick_op (i := 4) (v := .int .i64 (fr : Int)) (by kernel_rfl) rfl (by kernel_rfl) (by kernel_rfl) rfl rfl (fun w' hw => by simp [go_sem, hw.2.1]) hS (by simp [go_sem]; exact rfl) ?_
  refine pick_op (i := 5) (v := .int .i64 v) (by kernel_rfl) rfl (by kernel_rfl) (by kernel_rfl) rfl rfl (fun w' hw => by simp [go_sem]) hS (by simp [go_sem]; exact rfl) ?_
  refine pick_op (i := 6) (v := .pointer (some ⟨g, fr * 4, none⟩)) (by kernel_rfl) rfl (by kernel_rfl) (by kernel_rfl) rfl rfl (fun w' hw => by simp [go_sem, hf0, hf1]) hS (by simp [go_sem]; exact rfl) ?_
  refine pick_op (i := 7) (v := .pointer (some ⟨g, fr * 4 + 1, none⟩)) (by kernel_rfl) rfl (by kernel_rfl) (by kernel_rfl) rfl rfl (fun w' hw => by simp [go_sem]) hS (by simp [go_sem]; exact rfl) ?_
  have hS2 : ∀ (b o : Nat), b ≠ g → (X.setCell ⟨g, fr * 4 + 1, none⟩ (.int .i64 v)).cell? ⟨b, o, none⟩ = X.cell? ⟨b, o, none⟩ := fun b o hb => World.cell?_of_block (Below.heap_setCell X ⟨g, fr * 4 + 1, none⟩ _ b hb)
  refine pick_skip (i := 8) (w1 := X.setCell ⟨g, fr * 4 + 1, none⟩ (.int .i64 v)) rfl rfl (by kernel_rfl) rfl rfl (by simp [go_sem, hz, hx]) ⟨(hS2 _ _ hn.1).trans hS.1, (hS2 _ _ hn.2.1).trans hS.2.1, (hS2 _ _ hn.2.2).trans hS.2.2⟩ ?_
  refine pick_end (by kernel_rfl) ?_
  clear hz hx hS hS2
  generalize X.setCell ⟨g, fr * 4 + 1, none⟩ (.int .i64 v) = Z at *
  go_wp2_with fail
  go_end0
  exact ⟨⟨_, rfl⟩, HFin.out.1, HFin.out.2⟩

set_option maxHeartbeats 2000000 in
set_option maxRecDepth 100000 in
theorem tellB_calls {B : Nat} {W0 : World} {Mb : Nat} {ve : Value} {s : Cs} {q2 q3 fr : Nat} (v : Int) {W : World} (h : KmE B W0 Mb ve s W) (h2 : W.heap[q2]? = some (.cells #[.pointer (some ⟨Mb, 0, none⟩)] 58)) (h3 : W.heap[q3]? = some (.cells #[.int .i64 (fr : Int)] 3)) (hfr : fr < s.out.length) :
    Calls Tryz.prog 123 #[.int .i64 v, .pointer (some ⟨q2, 0, none⟩), .pointer (some ⟨q3, 0, none⟩)] W (SetP B W0 Mb ve (s.setAt fr 1 v) W) := by
  obtain ⟨ls, vo, vl, h⟩ := h
  obtain ⟨g, cap, rfl⟩ := km_code h (by omega)
  obtain ⟨-, cur, hc⟩ := own_type h.orow (g := g) rfl
  have hb : Below W.heap.size W W.drew := (Below.refl _ _).drew
  have hS : W.drew.cell? ⟨q2, 0, none⟩ = some (.pointer (some ⟨Mb, 0, none⟩)) ∧ W.drew.cell? ⟨q3, 0, none⟩ = some (.int .i64 (fr : Int)) ∧ W.drew.cell? ⟨Mb, 1, none⟩ = some (.slice (some ⟨g, 0, none⟩) s.out.length cap) := ⟨cell_of_heap (w := W.drew) h2 0, cell_of_heap (w := W.drew) h3 0, cell_of_heap (w := W.drew) h.blk 1⟩
  have hf0 : (0 : Int) ≤ (fr : Int) := by omega
  have hf1 : (fr : Int) < (s.out.length : Int) := by omega
  have hfin := km_set (h.below hb) hfr (wh := 1) (by omega) v
  have HFin := hid (And.intro hfin.1 ((Kf.of_below hb).trans hfin.2))
  have hz : W.drew.frozen? ⟨g, fr * 4 + 2, none⟩ = false := frozen_of_heap (w := W.drew) hc (fr * 4 + 2)
  have hx : W.drew.cell? ⟨g, fr * 4 + 2, none⟩ = some ((s.out.getD fr default).cell 2) := by
    rw [(h.below hb).orow.cellAt (fr * 4 + 2) (by omega), rowZ_get In.cell 4 (by decide) s.out _ (by omega)]
    rw [show (fr * 4 + 2) / 4 = fr by omega, show (fr * 4 + 2) % 4 = 2 by omega]
  have hn : q2 ≠ g ∧ q3 ≠ g ∧ Mb ≠ g := ⟨fun e => (by subst e; rw [hc] at h2; cases h2), fun e => (by subst e; rw [hc] at h3; cases h3), fun e => (by subst e; have := h.blk; rw [hc] at this; cases this)⟩
  clear h hfin hc hb h2 h3
  go_enter Tryz.func123, Tryz.ntmps123
  refine pick_begin (S := fun w => w.cell? ⟨q2, 0, none⟩ = some (.pointer (some ⟨Mb, 0, none⟩)) ∧ w.cell? ⟨q3, 0, none⟩ = some (.int .i64 (fr : Int)) ∧ w.cell? ⟨Mb, 1, none⟩ = some (.slice (some ⟨g, 0, none⟩) s.out.length cap)) (n := 9) (ls := #[false, false, false, false, false, false, false, false, false]) (by kernel_rfl) rfl (by kernel_rfl) ?_
  generalize W.drew = X at *
  refine pick_op (i := 0) (v := .pointer (some ⟨Mb, 0, none⟩)) (by kernel_rfl) rfl (by kernel_rfl) (by kernel_rfl) rfl rfl (fun w' hw => by simp [go_sem, hw.1]) hS (by simp [go_sem]; exact rfl) ?_
  refine pick_op (i := 1) (v := .pointer (some ⟨Mb, 0, none⟩)) (by kernel_rfl) rfl (by kernel_rfl) (by kernel_rfl) rfl rfl (fun w' hw => by simp [go_sem]) hS (by simp [go_sem]; exact rfl) ?_
  refine pick_op (i := 2) (v := .pointer (some ⟨Mb, 1, none⟩)) (by kernel_rfl) rfl (by kernel_rfl) (by kernel_rfl) rfl rfl (fun w' hw => by simp [go_sem]) hS (by simp [go_sem]; exact rfl) ?_
  refine pick_op (i := 3) (v := .slice (some ⟨g, 0, none⟩) s.out.length cap) (by kernel_rfl) rfl (by kernel_rfl) (by kernel_rfl) rfl rfl (fun w' hw => by simp [go_sem, hw.2.2]) hS (by simp [go_sem]; exact rfl) ?_
  refine pick_op (i := 4) (v := .int .i64 (fr : Int)) (by kernel_rfl) rfl (by kernel_rfl) (by kernel_rfl) rfl rfl (fun w' hw => by simp [go_sem, hw.2.1]) hS (by simp [go_sem]; exact rfl) ?_
  refine pick_op (i := 5) (v := .int .i64 v) (by kernel_rfl) rfl (by kernel_rfl) (by kernel_rfl) rfl rfl (fun w' hw => by simp [go_sem]) hS (by simp [go_sem]; exact rfl) ?_
  refine pick_op (i := 6) (v := .pointer (some ⟨g, fr * 4, none⟩)) (by kernel_rfl) rfl (by kernel_rfl) (by kernel_rfl) rfl rfl (fun w' hw => by simp [go_sem, hf0, hf1]) hS (by simp [go_sem]; exact rfl) ?_
  refine pick_op (i := 7) (v := .pointer (some ⟨g, fr * 4 + 2, none⟩)) (by kernel_rfl) rfl (by kernel_rfl) (by kernel_rfl) rfl rfl (fun w' hw => by simp [go_sem]) hS (by simp [go_sem]; exact rfl) ?_
  have hS2 : ∀ (b o : Nat), b ≠ g → (X.setCell ⟨g, fr * 4 + 2, none⟩ (.int .i64 v)).cell? ⟨b, o, none⟩ = X.cell? ⟨b, o, none⟩ := fun b o hb => World.cell?_of_block (Below.heap_setCell X ⟨g, fr * 4 + 2, none⟩ _ b hb)
  refine pick_skip (i := 8) (w1 := X.setCell ⟨g, fr * 4 + 2, none⟩ (.int .i64 v)) rfl rfl (by kernel_rfl) rfl rfl (by simp [go_sem, hz, hx]) ⟨(hS2 _ _ hn.1).trans hS.1, (hS2 _ _ hn.2.1).trans hS.2.1, (hS2 _ _ hn.2.2).trans hS.2.2⟩ ?_
  refine pick_end (by kernel_rfl) ?_
  clear hz hx hS hS2
  generalize X.setCell ⟨g, fr * 4 + 2, none⟩ (.int .i64 v) = Z at *
  go_wp2_with fail
  go_end0
  exact ⟨⟨_, rfl⟩, HFin.out.1, HFin.out.2⟩

theorem info_func : (Tryz.prog.info? 1).map (fun i => (i.zero, i.size, i.bytes)) = some (some .nilFunc, 1, 8) := by kernel_rfl

theorem boxes4 (W : World) (a b c d : Obj) : ((((W.alloc a).alloc b).alloc c).alloc d).heap[W.heap.size]? = some a ∧ ((((W.alloc a).alloc b).alloc c).alloc d).heap[W.heap.size + 1]? = some b ∧ ((((W.alloc a).alloc b).alloc c).alloc d).heap[W.heap.size + 1 + 1]? = some c ∧ ((((W.alloc a).alloc b).alloc c).alloc d).heap[W.heap.size + 1 + 1 + 1]? = some d ∧ Below W.heap.size W ((((W.alloc a).alloc b).alloc c).alloc d) := by
  have s1 : (W.alloc a).heap.size = W.heap.size + 1 := by simp
  have s2 : ((W.alloc a).alloc b).heap.size = W.heap.size + 1 + 1 := by simp
  have s3 : (((W.alloc a).alloc b).alloc c).heap.size = W.heap.size + 1 + 1 + 1 := by simp
  have b1 : Below (W.alloc a).heap.size (W.alloc a) ((W.alloc a).alloc b) := (Below.refl _ _).alloc (Nat.le_refl _) _
  have b2 : Below ((W.alloc a).alloc b).heap.size ((W.alloc a).alloc b) (((W.alloc a).alloc b).alloc c) := (Below.refl _ _).alloc (Nat.le_refl _) _
  have b3 : Below (((W.alloc a).alloc b).alloc c).heap.size (((W.alloc a).alloc b).alloc c) ((((W.alloc a).alloc b).alloc c).alloc d) := (Below.refl _ _).alloc (Nat.le_refl _) _
  have h0 := (MapKept.heap_alloc W a).1
  have h1 := (MapKept.heap_alloc (W.alloc a) b).1
  have h2 := (MapKept.heap_alloc ((W.alloc a).alloc b) c).1
  have h3 := (MapKept.heap_alloc (((W.alloc a).alloc b).alloc c) d).1
  rw [s1] at h1
  rw [s2] at h2
  rw [s3] at h3
  refine ⟨(b3.block _ (by omega)).trans ((b2.block _ (by omega)).trans ((b1.block _ (by omega)).trans h0)), (b3.block _ (by omega)).trans ((b2.block _ (by omega)).trans h1), (b3.block _ (by omega)).trans h2, h3, ?_⟩
  exact ((((Below.refl _ _).alloc (Nat.le_refl _) _).alloc (by omega) _).alloc (by omega) _).alloc (by omega) _

set_option maxHeartbeats 4000000 in
set_option maxRecDepth 100000 in
theorem putOff_calls {B : Nat} {W0 : World} {Mb : Nat} {ve : Value} {s : Cs} (l : Lt) {kn : Option Addr} {fv : Value} {f : FuncId} {ta tb : Nat} {W : World} (h : KmE B W0 Mb ve s W) (hl : s.later.length ≤ 960000) (hF : FormK B W0 l.t fv) (hBd : BdT l.t l.names) (hK : KnAt W kn l.names.reverse) (hT : TellK W Mb l.fr l.wh (.func (.func f) #[] #[.pointer (some ⟨ta, 0, none⟩), .pointer (some ⟨tb, 0, none⟩)])) :
    Calls Tryz.prog 56 #[.pointer (some ⟨Mb, 0, none⟩), fv, .pointer kn, .func (.func f) #[] #[.pointer (some ⟨ta, 0, none⟩), .pointer (some ⟨tb, 0, none⟩)]] W (SetP B W0 Mb ve (s.wait l) W) := by
  obtain ⟨ls, vo, vl, h⟩ := h
  obtain ⟨us, hus, hsh⟩ := hF
  obtain ⟨tyv, pv, rfl⟩ := hsh.iface
  have HF := hid (show FormK B W0 l.t (.iface tyv pv) from ⟨us, hus, hsh⟩)
  have HBd9 := hid hBd
  clear hus hsh hBd
  obtain ⟨adp, cpp, hvp⟩ := own_slice h.lrow
  subst hvp
  have hll : ls.length = s.later.length := by rw [← h.lfst, List.length_map]
  have HL := hid (show ls.length ≤ 960000 by omega)
  obtain ⟨g4, g5, g6, g7, gb⟩ := boxes4 W (.cells #[.pointer (some ⟨Mb, 0, none⟩)] 58) (.cells #[.iface tyv pv] 64) (.cells #[.pointer kn] 97) (.cells #[.func (.func f) #[] #[.pointer (some ⟨ta, 0, none⟩), .pointer (some ⟨tb, 0, none⟩)]] 110)
  obtain ⟨Y, hY⟩ : ∃ Y, (((W.alloc (.cells #[.pointer (some ⟨Mb, 0, none⟩)] 58)).alloc (.cells #[.iface tyv pv] 64)).alloc (.cells #[.pointer kn] 97)).alloc (.cells #[.func (.func f) #[] #[.pointer (some ⟨ta, 0, none⟩), .pointer (some ⟨tb, 0, none⟩)]] 110) = Y := ⟨_, rfl⟩
  rw [hY] at g4 g5 g6 g7 gb
  have HY := hid hY
  have HG := hid (And.intro g4 (And.intro g5 (And.intro g6 g7)))
  have HB := hid gb
  have St := hid (h.below gb)
  have HK := hid (KnAt.frame (Kf.of_below gb) _ _ hK)
  have HT := hid (hT.frame (Kf.of_below gb))
  clear h hl hK hT hll g4 g5 g6 g7 gb hY
  go_enter Tryz.func56, Tryz.ntmps56
  go_upto_region 1 with fail
  rw [HY.out]
  clear HY
  generalize W.heap.size + 1 + 1 + 1 = p7 at HG ⊢
  generalize W.heap.size + 1 + 1 = p6 at HG ⊢
  generalize W.heap.size + 1 = p5 at HG ⊢
  obtain ⟨p4, hp4⟩ : ∃ p, W.heap.size = p := ⟨_, rfl⟩
  rw [hp4] at HG ⊢
  clear hp4
  have hbd : Below Y.heap.size Y Y.drew := (Below.refl _ _).drew
  have HGd := hid (show Y.drew.heap[p4]? = _ ∧ Y.drew.heap[p5]? = _ ∧ Y.drew.heap[p6]? = _ ∧ Y.drew.heap[p7]? = _ from HG.out)
  have HBd := hid (HB.out.trans (hbd.mono HB.out.size))
  have Std := hid (St.out.below hbd)
  have HKd := hid (KnAt.frame (Kf.of_below hbd) _ _ HK.out)
  have HTd := hid (HT.out.frame (Kf.of_below hbd))
  refine pick_begin (S := fun w => w.cell? ⟨p4, 0, none⟩ = some (.pointer (some ⟨Mb, 0, none⟩))) (n := 11) (ls := #[false, false, false, false, false, false, false, false, false, false, false]) (by kernel_rfl) rfl (by kernel_rfl) ?_
  clear hbd HG HB St HK HT
  generalize Y.drew = X at *
  have hc2 : X.cell? ⟨Mb, 2, none⟩ = some (.slice adp ls.length cpp) := cell_of_heap Std.out.blk 2
  have hS : X.cell? ⟨p4, 0, none⟩ = some (.pointer (some ⟨Mb, 0, none⟩)) := cell_of_heap HGd.out.1 0
  refine pick_op (i := 0) (v := .pointer (some ⟨Mb, 0, none⟩)) (by kernel_rfl) rfl (by kernel_rfl) (by kernel_rfl) rfl rfl (fun w' hw => by simp [go_sem, hw]) hS (by simp [go_sem]; exact rfl) ?_
  refine pick_op (i := 1) (v := .pointer (some ⟨Mb, 0, none⟩)) (by kernel_rfl) rfl (by kernel_rfl) (by kernel_rfl) rfl rfl (fun w' hw => by simp [go_sem, hw]) hS (by simp [go_sem]; exact rfl) ?_
  refine pick_op (i := 2) (v := .pointer (some ⟨Mb, 0, none⟩)) (by kernel_rfl) rfl (by kernel_rfl) (by kernel_rfl) rfl rfl (fun w' hw => by simp [go_sem]) hS (by simp [go_sem]; exact rfl) ?_
  refine pick_op (i := 3) (v := .pointer (some ⟨Mb, 2, none⟩)) (by kernel_rfl) rfl (by kernel_rfl) (by kernel_rfl) rfl rfl (fun w' hw => by simp [go_sem]) hS (by simp [go_sem]; exact rfl) ?_
  refine pick_op (i := 5) (v := .func (.func 94) #[] #[.pointer (some ⟨p7, 0, none⟩), .pointer (some ⟨p4, 0, none⟩), .pointer (some ⟨p5, 0, none⟩), .pointer (some ⟨p6, 0, none⟩)]) (by kernel_rfl) rfl (by kernel_rfl) (by kernel_rfl) rfl rfl (fun w' hw => by simp [go_sem]) hS (by simp [go_sem]; exact rfl) ?_
  have HLate := hid (show LateK B W0 X Mb l (.func (.func 94) #[] #[.pointer (some ⟨p7, 0, none⟩), .pointer (some ⟨p4, 0, none⟩), .pointer (some ⟨p5, 0, none⟩), .pointer (some ⟨p6, 0, none⟩)]) from ⟨p4, p5, p6, p7, _, kn, _, rfl, HGd.out.1, HGd.out.2.1, HGd.out.2.2.1, HGd.out.2.2.2, ⟨HF.out, HBd9.out⟩, HKd.out, HTd.out⟩)
  have H4 := hid HGd.out.1
  have bl := (Below.refl X.heap.size X).alloc (Nat.le_refl _) (.cells #[.func (.func 94) #[] #[.pointer (some ⟨p7, 0, none⟩), .pointer (some ⟨p4, 0, none⟩), .pointer (some ⟨p5, 0, none⟩), .pointer (some ⟨p6, 0, none⟩)]] 1)
  have hE := (MapKept.heap_alloc X (.cells #[.func (.func 94) #[] #[.pointer (some ⟨p7, 0, none⟩), .pointer (some ⟨p4, 0, none⟩), .pointer (some ⟨p5, 0, none⟩), .pointer (some ⟨p6, 0, none⟩)]] 1)).1
  have St2 := hid (Std.out.below bl)
  have HLate2 := hid (HLate.out.frame (Kf.of_below bl))
  have H42 := hid ((bl.block _ (heap_lt H4.out)).trans H4.out)
  have HB2 := hid (HBd.out.trans (bl.mono HBd.out.size))
  have hS2 : (X.alloc (.cells #[.func (.func 94) #[] #[.pointer (some ⟨p7, 0, none⟩), .pointer (some ⟨p4, 0, none⟩), .pointer (some ⟨p5, 0, none⟩), .pointer (some ⟨p6, 0, none⟩)]] 1)).cell? ⟨p4, 0, none⟩ = some (.pointer (some ⟨Mb, 0, none⟩)) := cell_of_heap H42.out 0
  have hc22 : (X.alloc (.cells #[.func (.func 94) #[] #[.pointer (some ⟨p7, 0, none⟩), .pointer (some ⟨p4, 0, none⟩), .pointer (some ⟨p5, 0, none⟩), .pointer (some ⟨p6, 0, none⟩)]] 1)).cell? ⟨Mb, 2, none⟩ = some (.slice adp ls.length cpp) := cell_of_heap St2.out.blk 2
  refine pick_fork (i := 4) (j := 6) (by kernel_rfl) ?_ ?_
  · refine ⟨_, .slice adp ls.length cpp, X, rfl, rfl, by simp [go_sem, hc2], hS, ?_⟩
    refine pick_frame (by simp [go_sem]; exact rfl) ?_
    refine pick_make (i := 6) (v := .slice (some ⟨X.heap.size, 0, none⟩) 1 1) (w1 := X.alloc (.cells #[.func (.func 94) #[] #[.pointer (some ⟨p7, 0, none⟩), .pointer (some ⟨p4, 0, none⟩), .pointer (some ⟨p5, 0, none⟩), .pointer (some ⟨p6, 0, none⟩)]] 1)) rfl (by kernel_rfl) rfl rfl (by simp [go_sem]) hS2 (by simp [go_sem]; exact rfl) ?_
    clear HGd HF HKd HTd hc2 hc22 HLate H4 Std HBd hS bl
    obtain ⟨nb, hnb⟩ : ∃ n, X.heap.size = n := ⟨_, rfl⟩
    obtain ⟨fu, hfu⟩ : ∃ v : Value, .func (.func 94) #[] #[.pointer (some ⟨p7, 0, none⟩), .pointer (some ⟨p4, 0, none⟩), .pointer (some ⟨p5, 0, none⟩), .pointer (some ⟨p6, 0, none⟩)] = v := ⟨_, rfl⟩
    have hone : fu.oneCell' = true := by rw [← hfu]; rfl
    rw [hfu] at HLate2 hE H42 St2 HB2 hS2 ⊢
    clear hfu
    generalize X.alloc (.cells #[fu] 1) = X2 at *
    rw [hnb] at hE ⊢
    obtain ⟨i0, hi, hz0, hz1, hz2⟩ := info_parts info_func
    obtain ⟨vp2, X3, hrun, hown, hgrow, -, hat⟩ := run_append_own_at (P := Tryz.prog) X2 W0.heap.size 59 59 1 i0 _ 1 8 Tryz.underlying59 hi hz0 hz1 hz2 rfl (by decide) (.slice adp ls.length cpp) ls.length (ls.map Prod.snd) St2.out.lrow ⟨nb, 0, none⟩ 1 1 [fu] rfl (fun j u hu => by
      rw [Addr.add_lit]
      match j, hu with
      | 0, hu => simp at hu; subst hu; exact cell_of_heap hE 0) (fun u hu => by
      simp at hu
      rw [hu]; exact hone) (by have := HL.out; unfold maxLen; omega) (by have := HL.out; omega) St2.out.size
    have hnx := km_wait St2.out l HLate2.out hown hgrow
    have hb3 := (hgrow.block Mb (heap_lt St2.out.blk) (row_ne St2.out.lrow St2.out.blk (by decide))).trans St2.out.blk
    have h43 := (hgrow.block p4 (heap_lt H42.out) (row_ne St2.out.lrow H42.out (by decide))).trans H42.out
    have hS3 : X3.cell? ⟨p4, 0, none⟩ = some (.pointer (some ⟨Mb, 0, none⟩)) := cell_of_heap h43 0
    obtain ⟨ad2, cp2, hv2⟩ := own_slice hown
    subst hv2
    refine pick_make (i := 7) (v := .slice ad2 (ls.length + 1) cp2) (w1 := X3) rfl (by kernel_rfl) rfl rfl (append_runN (s := .tmp 12) (x := .tmp 14) (t := 59) rfl rfl rfl hrun) hS3 (by simp [go_sem]; exact rfl) ?_
    refine pick_op (i := 8) (v := .pointer (some ⟨Mb, 0, none⟩)) (by kernel_rfl) rfl (by kernel_rfl) (by kernel_rfl) rfl rfl (fun w' hw => by simp [go_sem]) hS3 (by simp [go_sem]; exact rfl) ?_
    refine pick_op (i := 9) (v := .pointer (some ⟨Mb, 2, none⟩)) (by kernel_rfl) rfl (by kernel_rfl) (by kernel_rfl) rfl rfl (fun w' hw => by simp [go_sem]) hS3 (by simp [go_sem]; exact rfl) ?_
    have d2 : X3.cell? ⟨Mb, 2, none⟩ = some (.slice adp ls.length cpp) := cell_of_heap hb3 2
    have w2 := frozen_of_heap hb3 2
    have HNx := hid hnx.1
    have HFr := hid (((Kf.of_below HB2.out)).trans hnx.2)
    have hS4 : (X3.setCell ⟨Mb, 2, none⟩ (.slice ad2 (ls.length + 1) cp2)).cell? ⟨p4, 0, none⟩ = some (.pointer (some ⟨Mb, 0, none⟩)) := (World.cell?_of_block (Below.heap_setCell X3 ⟨Mb, 2, none⟩ _ p4 (fun e => by have e' : p4 = Mb := e; rw [e', hb3] at h43; cases h43))).trans hS3
    refine pick_skip (i := 10) (w1 := X3.setCell ⟨Mb, 2, none⟩ (.slice ad2 (ls.length + 1) cp2)) rfl rfl (by kernel_rfl) rfl rfl (by simp [go_sem, d2, w2]) hS4 ?_
    refine pick_end (by kernel_rfl) ?_
    clear hnx hrun hown hgrow hat hE hi hz0 hz1 hz2 hb3 h43 hS3 hS4 d2 w2 St2 HLate2 H42 HB2 hS2
    generalize X3.setCell ⟨Mb, 2, none⟩ (.slice ad2 (ls.length + 1) cp2) = Z at *
    go_wp2_with fail
    go_end0
    exact ⟨⟨_, rfl⟩, HNx.out, HFr.out⟩
  · refine ⟨_, .slice (some ⟨X.heap.size, 0, none⟩) 1 1, X.alloc (.cells #[.func (.func 94) #[] #[.pointer (some ⟨p7, 0, none⟩), .pointer (some ⟨p4, 0, none⟩), .pointer (some ⟨p5, 0, none⟩), .pointer (some ⟨p6, 0, none⟩)]] 1), rfl, rfl, by simp [go_sem], hS2, ?_⟩
    refine pick_frame (by simp [go_sem]; exact rfl) ?_
    refine pick_make (i := 4) (v := .slice adp ls.length cpp) (w1 := X.alloc (.cells #[.func (.func 94) #[] #[.pointer (some ⟨p7, 0, none⟩), .pointer (some ⟨p4, 0, none⟩), .pointer (some ⟨p5, 0, none⟩), .pointer (some ⟨p6, 0, none⟩)]] 1)) rfl (by kernel_rfl) rfl rfl (by simp [go_sem, hc22]) hS2 (by simp [go_sem]; exact rfl) ?_
    clear HGd HF HKd HTd hc2 hc22 HLate H4 Std HBd hS bl
    obtain ⟨nb, hnb⟩ : ∃ n, X.heap.size = n := ⟨_, rfl⟩
    obtain ⟨fu, hfu⟩ : ∃ v : Value, .func (.func 94) #[] #[.pointer (some ⟨p7, 0, none⟩), .pointer (some ⟨p4, 0, none⟩), .pointer (some ⟨p5, 0, none⟩), .pointer (some ⟨p6, 0, none⟩)] = v := ⟨_, rfl⟩
    have hone : fu.oneCell' = true := by rw [← hfu]; rfl
    rw [hfu] at HLate2 hE H42 St2 HB2 hS2 ⊢
    clear hfu
    generalize X.alloc (.cells #[fu] 1) = X2 at *
    rw [hnb] at hE ⊢
    obtain ⟨i0, hi, hz0, hz1, hz2⟩ := info_parts info_func
    obtain ⟨vp2, X3, hrun, hown, hgrow, -, hat⟩ := run_append_own_at (P := Tryz.prog) X2 W0.heap.size 59 59 1 i0 _ 1 8 Tryz.underlying59 hi hz0 hz1 hz2 rfl (by decide) (.slice adp ls.length cpp) ls.length (ls.map Prod.snd) St2.out.lrow ⟨nb, 0, none⟩ 1 1 [fu] rfl (fun j u hu => by
      rw [Addr.add_lit]
      match j, hu with
      | 0, hu => simp at hu; subst hu; exact cell_of_heap hE 0) (fun u hu => by
      simp at hu
      rw [hu]; exact hone) (by have := HL.out; unfold maxLen; omega) (by have := HL.out; omega) St2.out.size
    have hnx := km_wait St2.out l HLate2.out hown hgrow
    have hb3 := (hgrow.block Mb (heap_lt St2.out.blk) (row_ne St2.out.lrow St2.out.blk (by decide))).trans St2.out.blk
    have h43 := (hgrow.block p4 (heap_lt H42.out) (row_ne St2.out.lrow H42.out (by decide))).trans H42.out
    have hS3 : X3.cell? ⟨p4, 0, none⟩ = some (.pointer (some ⟨Mb, 0, none⟩)) := cell_of_heap h43 0
    obtain ⟨ad2, cp2, hv2⟩ := own_slice hown
    subst hv2
    refine pick_make (i := 7) (v := .slice ad2 (ls.length + 1) cp2) (w1 := X3) rfl (by kernel_rfl) rfl rfl (append_runN (s := .tmp 12) (x := .tmp 14) (t := 59) rfl rfl rfl hrun) hS3 (by simp [go_sem]; exact rfl) ?_
    refine pick_op (i := 8) (v := .pointer (some ⟨Mb, 0, none⟩)) (by kernel_rfl) rfl (by kernel_rfl) (by kernel_rfl) rfl rfl (fun w' hw => by simp [go_sem]) hS3 (by simp [go_sem]; exact rfl) ?_
    refine pick_op (i := 9) (v := .pointer (some ⟨Mb, 2, none⟩)) (by kernel_rfl) rfl (by kernel_rfl) (by kernel_rfl) rfl rfl (fun w' hw => by simp [go_sem]) hS3 (by simp [go_sem]; exact rfl) ?_
    have d2 : X3.cell? ⟨Mb, 2, none⟩ = some (.slice adp ls.length cpp) := cell_of_heap hb3 2
    have w2 := frozen_of_heap hb3 2
    have HNx := hid hnx.1
    have HFr := hid (((Kf.of_below HB2.out)).trans hnx.2)
    have hS4 : (X3.setCell ⟨Mb, 2, none⟩ (.slice ad2 (ls.length + 1) cp2)).cell? ⟨p4, 0, none⟩ = some (.pointer (some ⟨Mb, 0, none⟩)) := (World.cell?_of_block (Below.heap_setCell X3 ⟨Mb, 2, none⟩ _ p4 (fun e => by have e' : p4 = Mb := e; rw [e', hb3] at h43; cases h43))).trans hS3
    refine pick_skip (i := 10) (w1 := X3.setCell ⟨Mb, 2, none⟩ (.slice ad2 (ls.length + 1) cp2)) rfl rfl (by kernel_rfl) rfl rfl (by simp [go_sem, d2, w2]) hS4 ?_
    refine pick_end (by kernel_rfl) ?_
    clear hnx hrun hown hgrow hat hE hi hz0 hz1 hz2 hb3 h43 hS3 hS4 d2 w2 St2 HLate2 H42 HB2 hS2
    generalize X3.setCell ⟨Mb, 2, none⟩ (.slice ad2 (ls.length + 1) cp2) = Z at *
    go_wp2_with fail
    go_end0
    exact ⟨⟨_, rfl⟩, HNx.out, HFr.out⟩


end Go.Proofs.YtgiejnmphfgmgaaGreatDoor

/- The forms of a tree's kids. -/
namespace Go.Proofs.YtgiejnmphfgmgaaGreatDoor
open Go.RowKit Go.Deep

/-- The forms of the kids. -/
theorem forms_at {B : Nat} {W0 : World} : ∀ (f : Fo) (vs : List Value) (q i : Nat), Forms B W0 f vs → i < f.count → FormK B W0 ((kidsAt f q).getD i default) (vs.getD i default)
  | .none, _, _, _, _, h => by simp [Fo.count] at h
  | .tree n k r, _, q, 0, ⟨v, us, rest, e, h1, h2, h3⟩, _ => by
    subst e
    simp only [kidsAt, List.getD_cons_zero]
    exact ⟨us, h1, h2⟩
  | .tree n k r, _, q, i + 1, ⟨v, us, rest, e, h1, h2, h3⟩, hi => by
    subst e
    simp only [kidsAt, List.getD_cons_succ]
    exact forms_at r rest _ i h3 (by simpa [Fo.count] using hi)

theorem FormK.open {B : Nat} {W0 : World} {t : Tp} {v : Value} (h : FormK B W0 t v) : ∃ us, Shape B W0 t.n us v ∧ us.length = t.k.count ∧ (∀ u ∈ us, ∃ T p, u = .iface T p) ∧ ∀ i, i < t.k.count → FormK B W0 (t.kid i) (us.getD i default) := by
  obtain ⟨us, h1, h2⟩ := h
  exact ⟨us, h2, h1.length, h1.ifaces, fun i hi => forms_at t.k us (t.at_ + 1) i h1 hi⟩

/-- Where a known name is. -/
theorem where_idx : ∀ (r : List ByteArray) (x : ByteArray), x ∈ r → ∃ n, whereK r x = some n ∧ n < r.length
  | [], _, h => by simp at h
  | y :: r, x, h => by
    unfold whereK
    split
    · exact ⟨_, rfl, by simp⟩
    · rename_i hne
      rcases List.mem_cons.1 h with e | e
      · exact absurd e.symm hne
      · obtain ⟨n, h1, h2⟩ := where_idx r x e
        exact ⟨n, h1, by simp; omega⟩

theorem idxGo_where (x : ByteArray) : ∀ (r ss : List ByteArray) (m : Nat), (∃ suf, ss = r.reverse ++ suf) → m = r.length → idxGo ss x m = match whereK r x with | some n => ((ss.length - 1 - n : Nat) : Int) | none => -1
  | [], ss, m, _, hm => by subst hm; rfl
  | y :: r, ss, m, ⟨suf, e⟩, hm => by
    subst hm
    have hg : ss.getD r.length ⟨#[]⟩ = y := by
      rw [e]
      simp [List.getD]
    simp only [List.length_cons]
    unfold idxGo whereK
    rw [hg, str_eq]
    by_cases h : y = x
    · rw [if_pos (by simpa using h), if_pos h]
    · rw [if_neg (by simpa using h), if_neg h]
      exact idxGo_where x r ss r.length ⟨y :: suf, by rw [e]; simp⟩ rfl

theorem idx_where {ss : List ByteArray} {x : ByteArray} {n : Nat} (h : whereK ss.reverse x = some n) : idxZ ss x = ((ss.length - 1 - n : Nat) : Int) := by
  unfold idxZ
  rw [idxGo_where x ss.reverse ss ss.length ⟨[], by simp⟩ (by simp), h]
end Go.Proofs.YtgiejnmphfgmgaaGreatDoor

/- Which form it is. -/
namespace Go.Proofs.YtgiejnmphfgmgaaGreatDoor
open Go.RowKit Go.Deep

theorem hit_var (v : Value) (w : World) : (Instr.typeAssert (.iface 101 v) 64 101 true).run Tryz.prog w = .ok (.tuple #[v, .bool true]) w := by kernel_rfl
theorem hit_fn (v : Value) (w : World) : (Instr.typeAssert (.iface 107 v) 64 107 true).run Tryz.prog w = .ok (.tuple #[v, .bool true]) w := by kernel_rfl
theorem hit_rec (v : Value) (w : World) : (Instr.typeAssert (.iface 113 v) 64 113 true).run Tryz.prog w = .ok (.tuple #[v, .bool true]) w := by kernel_rfl
theorem hit_let (v : Value) (w : World) : (Instr.typeAssert (.iface 115 v) 64 115 true).run Tryz.prog w = .ok (.tuple #[v, .bool true]) w := by kernel_rfl
theorem hit_if (v : Value) (w : World) : (Instr.typeAssert (.iface 117 v) 64 117 true).run Tryz.prog w = .ok (.tuple #[v, .bool true]) w := by kernel_rfl
theorem hit_case (v : Value) (w : World) : (Instr.typeAssert (.iface 120 v) 64 120 true).run Tryz.prog w = .ok (.tuple #[v, .bool true]) w := by kernel_rfl
theorem hit_hand (v : Value) (w : World) : (Instr.typeAssert (.iface 124 v) 64 124 true).run Tryz.prog w = .ok (.tuple #[v, .bool true]) w := by kernel_rfl
theorem hit_ret (v : Value) (w : World) : (Instr.typeAssert (.iface 186 v) 64 186 true).run Tryz.prog w = .ok (.tuple #[v, .bool true]) w := by kernel_rfl
theorem hit_op (v : Value) (w : World) : (Instr.typeAssert (.iface 188 v) 64 188 true).run Tryz.prog w = .ok (.tuple #[v, .bool true]) w := by kernel_rfl

theorem miss_var {T : TypeId} (h : T ≠ 101) (v : Value) (w : World) : (Instr.typeAssert (.iface T v) 64 101 true).run Tryz.prog w = .ok (.tuple #[.agg #[.string ⟨#[]⟩], .bool false]) w := by
  unfold Instr.typeAssert
  simp [go_sem, h]

theorem miss_fn {T : TypeId} (h : T ≠ 107) (v : Value) (w : World) : (Instr.typeAssert (.iface T v) 64 107 true).run Tryz.prog w = .ok (.tuple #[.agg #[.string ⟨#[]⟩, .nilIface], .bool false]) w := by
  unfold Instr.typeAssert
  simp [go_sem, h]

theorem miss_rec {T : TypeId} (h : T ≠ 113) (v : Value) (w : World) : (Instr.typeAssert (.iface T v) 64 113 true).run Tryz.prog w = .ok (.tuple #[.agg #[.string ⟨#[]⟩, .string ⟨#[]⟩, .nilIface, .nilIface], .bool false]) w := by
  unfold Instr.typeAssert
  simp [go_sem, h]

theorem miss_let {T : TypeId} (h : T ≠ 115) (v : Value) (w : World) : (Instr.typeAssert (.iface T v) 64 115 true).run Tryz.prog w = .ok (.tuple #[.agg #[.string ⟨#[]⟩, .nilIface, .nilIface], .bool false]) w := by
  unfold Instr.typeAssert
  simp [go_sem, h]

theorem miss_if {T : TypeId} (h : T ≠ 117) (v : Value) (w : World) : (Instr.typeAssert (.iface T v) 64 117 true).run Tryz.prog w = .ok (.tuple #[.agg #[.nilIface, .nilIface, .nilIface], .bool false]) w := by
  unfold Instr.typeAssert
  simp [go_sem, h]

theorem miss_case {T : TypeId} (h : T ≠ 120) (v : Value) (w : World) : (Instr.typeAssert (.iface T v) 64 120 true).run Tryz.prog w = .ok (.tuple #[.agg #[.nilIface, .nilIface, .string ⟨#[]⟩, .string ⟨#[]⟩, .nilIface], .bool false]) w := by
  unfold Instr.typeAssert
  simp [go_sem, h]

theorem miss_hand {T : TypeId} (h : T ≠ 124) (v : Value) (w : World) : (Instr.typeAssert (.iface T v) 64 124 true).run Tryz.prog w = .ok (.tuple #[.agg #[.int .i64 0, .nilIface, .slice none 0 0], .bool false]) w := by
  unfold Instr.typeAssert
  simp [go_sem, h]

theorem miss_ret {T : TypeId} (h : T ≠ 186) (v : Value) (w : World) : (Instr.typeAssert (.iface T v) 64 186 true).run Tryz.prog w = .ok (.tuple #[.agg #[.string ⟨#[]⟩, .nilIface], .bool false]) w := by
  unfold Instr.typeAssert
  simp [go_sem, h]

end Go.Proofs.YtgiejnmphfgmgaaGreatDoor

/- Where a kid stands, and the specification's way to it. -/
namespace Go.Proofs.YtgiejnmphfgmgaaGreatDoor
open Go.RowKit Go.Deep

theorem kidsAt_first (f : Fo) (p : Nat) (h : 0 < f.count) : ((kidsAt f p).getD 0 default).at_ = p := by
  cases f with
  | none => simp [Fo.count] at h
  | tree n k r => rfl

theorem kidsAt_next : ∀ (f : Fo) (p i : Nat), i + 1 < f.count → ((kidsAt f p).getD (i + 1) default).at_ = ((kidsAt f p).getD i default).at_ + 1 + ((kidsAt f p).getD i default).k.flat.length
  | .none, p, i, h => by simp [Fo.count] at h
  | .tree n k r, p, 0, h => by
    have h1 := kidsAt_first r (p + 1 + k.flat.length) (by simp only [Fo.count] at h; omega)
    simp only [kidsAt, List.getD_cons_succ, List.getD_cons_zero]
    exact h1
  | .tree n k r, p, i + 1, h => by
    have h1 := kidsAt_next r (p + 1 + k.flat.length) i (by simp only [Fo.count] at h; omega)
    simp only [kidsAt, List.getD_cons_succ]
    exact h1

theorem Stands.end {ns : List Nd} {t : Tp} (h : Stands ns t) : treeEnd ns (t.at_ : Int) = ((t.at_ + 1 + t.k.flat.length : Nat) : Int) := by
  obtain ⟨suf, hd⟩ := h.drop
  exact treeEnd_at hd h.kids h.good.wf

theorem Stands.first {ns : List Nd} {t : Tp} (_h : Stands ns t) (h0 : 0 < t.k.count) : (t.kid 0).at_ = t.at_ + 1 := kidsAt_first t.k _ h0
theorem Stands.next {ns : List Nd} {t : Tp} (h : Stands ns t) {i : Nat} (hi : i + 1 < t.k.count) : treeEnd ns ((t.kid i).at_ : Int) = ((t.kid (i + 1)).at_ : Int) := by
  rw [(h.kid (by omega)).end]
  exact congrArg _ (kidsAt_next t.k _ i hi).symm

theorem Stands.lt {ns : List Nd} {t : Tp} (h : Stands ns t) : t.at_ < ns.length ∧ ns.getD t.at_ default = t.n ∧ t.at_ + t.size ≤ ns.length := by
  obtain ⟨suf, hd⟩ := h.drop
  have hl := congrArg List.length hd
  simp only [List.length_drop, List.length_cons, List.length_append] at hl
  refine ⟨by omega, ?_, by unfold Tp.size; omega⟩
  have : ns.getD t.at_ default = (ns.drop t.at_).getD 0 default := by simp [List.getD, List.getElem?_drop]
  rw [this, hd]
  rfl

set_option maxHeartbeats 2000000 in
set_option maxRecDepth 100000 in
theorem kid_calls {b off cap : Nat} {ns : List Nd} {t : Tp} (i : Nat) (W : World) (hn : NodesAt W b off ns) (hm : ns.length ≤ 300) (h : Stands ns t) (hi : i < t.k.count) :
    Calls Tryz.prog 42 #[.slice (some ⟨b, off, none⟩) ns.length cap, .int .i64 (t.at_ : Int), .int .i64 (i : Int)] W fun e W' => e = .returned (.int .i64 ((t.kid i).at_ : Int)) ∧ W = W' := by
  have HE := hid (fun (at_ : Int) => specEnd_calls b off cap ns at_ W hn (by omega))
  have HS := hid (And.intro h (And.intro hi hm))
  have hlt := h.lt.1
  have HW : Hid (wrap64 ((t.at_ : Int) + 1) = ((t.kid 0).at_ : Int)) := by
    show _ = _
    rw [h.first (by omega)]
    unfold wrap64
    omega
  have HI : Hid (i ≤ 300) := by
    show _ ≤ _
    have h1 := t.kids_len
    have h2 := Fo.count_le t.k
    have h3 := h.lt.2.2
    unfold Tp.size at h3
    omega
  clear hn hm h hi hlt
  generalize ns.length = len at *
  generalize t.at_ = p at *
  go_enter Tryz.func42, Tryz.ntmps42
  go_wp2_with fail
  rw [HW.out]
  go_loopw [1, 7] (fun at_ j wr => ∃ (k : Nat), k ≤ i ∧ at_ = .int .i64 ((t.kid k).at_ : Int) ∧ j = .int .i64 (k : Int) ∧ wr = W) (fun _ j _ => i - (intOf j).toNat)
  case atStart => exact ⟨0, Nat.zero_le _, rfl, rfl, rfl⟩
  case round =>
    obtain ⟨k, hk, rfl, rfl, rfl⟩ := hrel
    by_cases hki : (k : Int) < (i : Int)
    · have hnx := HS.out.1.next (i := k) (by have := HS.out.2.1; omega)
      have HC := hid (HE.out ((t.kid k).at_ : Int))
      rw [hnx] at HC
      have hstep : i - (intOf (.int .i64 ((k + 1 : Nat) : Int))).toNat < i - (intOf (.int .i64 (k : Int))).toNat := by simp only [intOf, Int.toNat_natCast]; omega
      clear hnx
      go_wp2_with fail
      refine HC.out.mono ?_
      rintro e W1 ⟨rfl, rfl⟩
      go_wp2_with fail
      try rw [wrap_succ (by have := HI.out; omega)]
      exact ⟨⟨k + 1, by omega, rfl, rfl, trivial⟩, hstep⟩
    · have e : k = i := by omega
      subst e
      go_wp2_with fail
      go_ret
      exact ⟨rfl, rfl⟩
end Go.Proofs.YtgiejnmphfgmgaaGreatDoor

/- Names put together, looked for; the place of a kid. -/
namespace Go.Proofs.YtgiejnmphfgmgaaGreatDoor
open Go.RowKit Go.Deep

theorem row_made (X : World) : (X.alloc (.cells #[] 9)).ownsRow X.heap.size 9 1 (.slice (some ⟨X.heap.size, 0, none⟩) 0 0) 0 (strRow []) := World.ownsRow_made X #[] 0 (Nat.le_refl _) (Nat.zero_le _) rfl

set_option maxHeartbeats 2000000 in
set_option maxRecDepth 100000 in
theorem withN_calls {v mv : Value} {ss ms : List ByteArray} (W : World) (h : NamesV W v ss) (hm : NamesV W mv ms) (hl : ss.length + ms.length ≤ 100000) :
    Calls Tryz.prog 40 #[v, mv] W fun e W' => ∃ u, e = .returned u ∧ NmT W' u (ss ++ ms) ∧ Below W.heap.size W W' := by
  have hb0 : Below W.heap.size W (W.alloc (.cells #[] 9)) := (Below.refl _ _).alloc (Nat.le_refl _) _
  obtain ⟨ad, cp, rfl⟩ := h.slice
  obtain ⟨adm, cpm, rfl⟩ := hm.slice
  have HV := hid (And.intro (h.below hb0) (And.intro hm (And.intro hl hb0)))
  clear h hm hl hb0
  go_enter Tryz.func40, Tryz.ntmps40
  go_wp2_with (first
    | (at_builtin; refine wpList_append_by rfl _ _ 43 rfl _ _ rfl rfl (fun ty => app_names ty (row_made W) HV.out.1 (by have := HV.out.2.2.1; simp; omega) (by simp)) ?_; rintro v5 w5 ⟨ho5, hg5, -⟩; have B5 : Hid (Below W.heap.size W w5) := HV.out.2.2.2.grown hg5 (by simp) (fun k hk => ((row_made W).lt k hk).1); have O5 := hid ho5; have M5 := hid (HV.out.2.1.below B5.out); clear ho5 hg5)
    | (at_builtin; refine wpList_append_by rfl _ _ 43 rfl _ _ rfl rfl (fun ty => app_names ty O5.out M5.out (by have := HV.out.2.2.1; simp; omega) B5.out.size) ?_; rintro v6 w6 ⟨ho6, hg6, -⟩; have B6 : Hid (Below W.heap.size W w6) := B5.out.grown hg6 B5.out.size (fun k hk => (O5.out.lt k hk).1); have O6 := hid ho6; clear ho6 hg6))
  go_ret
  exact ⟨_, rfl, nmT_owns O6.out, B6.out⟩

set_option maxHeartbeats 2000000 in
set_option maxRecDepth 100000 in
theorem index_calls {v : Value} {ss : List ByteArray} (x : ByteArray) (W : World) (h : NamesV W v ss) (hl : ss.length ≤ 100000) :
    Calls Tryz.prog 38 #[v, .string x] W fun e W' => e = .returned (.int .i64 (idxZ ss x)) ∧ W = W' := by
  obtain ⟨ad, cp, rfl⟩ := h.slice
  obtain ⟨L, hL⟩ : ∃ L, ss.length = L := ⟨_, rfl⟩
  have HV := hid h
  have HL := hid (And.intro hL hl)
  rw [hL] at HV ⊢
  obtain ⟨TG, hTG⟩ : ∃ TG, idxZ ss x = TG := ⟨_, rfl⟩
  have HTG : Hid (idxGo ss x L = TG) := by show _ = _; rw [← hL]; exact hTG
  rw [hTG]
  clear h hl hL hTG
  go_enter Tryz.func38, Tryz.ntmps38
  have HW1 : Hid (wrap64 ((L : Int) - 1) = (L : Int) - 1) := by show _ = _; have := HL.out; unfold wrap64; omega
  go_wp2_with fail
  rw [HW1.out]
  go_loopw [5] (fun i wr => ∃ (k : Nat) (z : Int), i = .int .i64 z ∧ z = (k : Int) - 1 ∧ k ≤ L ∧ Hid (idxGo ss x k = TG) ∧ wr = W) (fun i _ => (intOf i + 1).toNat)
  case atStart => exact ⟨L, _, rfl, rfl, Nat.le_refl _, HTG, rfl⟩
  case round =>
    obtain ⟨k, z, rfl, hz, hk, HI, rfl⟩ := hrel
    cases k with
    | zero =>
      have hzn : ¬ ((0 : Int) ≤ z) := by omega
      have HE : Hid (TG = -1) := by show _ = _; rw [← HI.out]; rfl
      clear hz
      go_wp2_with fail
      go_ret
      rw [HE.out]
      exact ⟨rfl, rfl⟩
    | succ k =>
      have hzk : z = (k : Int) := by omega
      subst hzk
      clear hz
      obtain ⟨-, g, o, rfl, hg, hc⟩ := HV.out.cell (by omega : 0 < L)
      have hcell := hc k (by omega)
      have HI2 : Hid ((if ((ss.getD k ⟨#[]⟩).toList == x.toList) = true then ((ss.length - 1 - k : Nat) : Int) else idxGo ss x k) = TG) := HI
      obtain ⟨y, hy⟩ : ∃ y, ss.getD k ⟨#[]⟩ = y := ⟨_, rfl⟩
      rw [hy] at hcell HI2
      have hk0 : (0 : Int) ≤ (k : Int) := by omega
      have hkL : (k : Int) < (L : Int) := by omega
      clear hc hy HI
      cases heq : (y.toList == x.toList) with
      | true =>
        rw [heq, if_pos rfl] at HI2
        have HW2 : Hid (wrap64 (wrap64 ((L : Int) - 1) - (k : Int)) = TG) := by show _ = _; rw [HW1.out, ← HI2.out]; have := HL.out; unfold wrap64; omega
        go_wp2_with fail
        go_ret
        rw [HW2.out]
        exact ⟨rfl, rfl⟩
      | false =>
        rw [heq, if_neg (by decide)] at HI2
        have HW2 : Hid (wrap64 ((k : Int) - 1) = (k : Int) - 1) := by show _ = _; have := HL.out; unfold wrap64; omega
        go_wp2_with fail
        rw [HW2.out]
        exact ⟨⟨k, _, rfl, rfl, by omega, HI2, trivial⟩, by simp only [intOf]; omega⟩
end Go.Proofs.YtgiejnmphfgmgaaGreatDoor
