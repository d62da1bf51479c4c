/- Whether nodes are a tree, as the program asks it. -/
import Derived.Test.YtfmeldjkofoelaaGreatDoorTreeAll
import Derived.Test.YtfmeldjkofoelaaGreatDoorNodeArgs
import Derived.Test.YtfmeldjkofoelaaGreatDoorNameM
import Derived.Sort.OwnSorted
import Derived.Test.YtfmeldjkofoelaaGreatDoorStg
import Derived.Test.YtfmeldjkofoelaaGreatDoorKeyWalks
import Derived.Sort.Walk0
namespace Go.Proofs.YtfmeldjkofoelaaGreatDoor
open Go.RowKit Go.Deep

set_option maxHeartbeats 1000000 in
set_option maxRecDepth 100000 in
theorem formOfTree_calls (b off cap : Nat) (ns : List Nd) (n : Nd) (k : Fo) (w : World) (hm : ns.length ≤ 300) (hfit : ∀ m ∈ ns, Fits m m.kids.toNat) (hbw : b < w.heap.size) (hn : NodesAt w b off ns)
    (h1 : ns = n :: k.flat) (h2 : n.kids = k.count) (h3 : k.wf) :
    Calls Tryz.prog 15 #[.slice (some ⟨b, off, none⟩) ns.length cap] w fun e w' => ∃ v us, e = .returned v ∧ Forms w.heap.size w' k us ∧ Shape w.heap.size w' n us v ∧ Below w.heap.size w w' := by
  have hdr : ns.drop 0 = n :: (k.flat ++ []) := by rw [h1]; simp
  have HC : Hid (Calls _ _ _ _ _) := formAt_calls b off cap ns hm hfit (k.flat.length + 1) n k [] 0 w hbw hn hdr h2 h3 (Nat.lt_succ_self _)
  clear hdr hm hfit hn h1 h2 h3
  generalize ns.length = len at *
  go_enter Tryz.func15, Tryz.ntmps15
  go_wp2_with fail
  refine HC.out.mono ?_
  rintro e w2 ⟨v, us, rfl, hF, hS, hb⟩
  have HX : Hid (Forms w.heap.size w2 k us ∧ Shape w.heap.size w2 n us v ∧ Below w.heap.size w w2) := ⟨hF, hS, hb⟩
  clear hF hS hb
  go_wp2_with fail
  go_ret
  exact ⟨v, us, rfl, HX.out⟩

set_option maxHeartbeats 4000000 in
set_option maxRecDepth 100000 in
theorem implTree_calls (b off cap : Nat) (ns : List Nd) (w : World) (R : Bool) (hm : ns.length ≤ 1048576) (hbw : b < w.heap.size) (hn : NodesAt w b off ns) (hs : Short ns) (hA : ImplAns ns R) :
    Calls Tryz.prog 8 #[.slice (some ⟨b, off, none⟩) ns.length cap] w fun e w' => e = .returned (.bool R) ∧ Below w.heap.size w w' := by
  by_cases hl : 1 ≤ ns.length ∧ ns.length ≤ 300
  · have hrest := hA.rest hl
    obtain ⟨len, hlen⟩ : ∃ len, ns.length = len := ⟨_, rfl⟩
    have Hlen : Hid (ns.length = len) := hlen
    have HR : Hid (Rest ns R nodeOkZ implTree) := hrest
    have HN : Hid (NodesAt w b off ns) := hn
    have HL : Hid (1 ≤ len ∧ len ≤ 300) := by show _ ∧ _; omega
    have HS : Hid (Short ns) := hs
    have h1 : (1 : Int) ≤ (len : Int) := by omega
    have h2 : (len : Int) ≤ 300 := by omega
    rw [hlen]
    clear hrest hn hA hl hm hlen hs
    go_enter Tryz.func8, Tryz.ntmps8
    go_wp2_with fail
    clear h1 h2
    go_loopw [15] (fun i wr => ∃ i' : Nat, i = .int .i64 i' ∧ i' ≤ len ∧ Hid ((ns.take i').all nodeOkZ = true) ∧ Below w.heap.size w wr) (fun i _ => len - (intOf i).toNat)
    case atStart => exact ⟨0, rfl, Nat.zero_le _, rfl, Below.refl _ _⟩
    case round =>
      obtain ⟨i', rfl, hle, HT, hbx⟩ := hrel
      have hnx := HN.out.below hbx hbw
      by_cases hlt : (i' : Int) < (len : Int)
      · have hil : i' < ns.length := by rw [Hlen.out]; omega
        have c0 := hnx i' hil 0 (by omega)
        have c1 := hnx i' hil 1 (by omega)
        have c2 := hnx i' hil 2 (by omega)
        have c3 := hnx i' hil 3 (by omega)
        have c4 := hnx i' hil 4 (by omega)
        have c5 := hnx i' hil 5 (by omega)
        obtain ⟨n, hnn⟩ : ∃ n, ns.getD i' default = n := ⟨_, rfl⟩
        have hF : nodeOkZ n = false → Hid (R = false) := fun h => HR.out.1 (all_false hil (by rw [hnn]; exact h))
        have hT : nodeOkZ n = true → Hid ((ns.take (i' + 1)).all nodeOkZ = true) := fun h => all_take_succ hil HT.out (by rw [hnn]; exact h)
        rw [hnn] at c0 c1 c2 c3 c4 c5
        simp only [Nd.cell, Nat.add_zero] at c0 c1 c2 c3 c4 c5
        have hsh := HS.out n (by rw [← hnn, List.getD, List.getElem?_eq_getElem hil]; exact List.getElem_mem _)
        have HO : Hid (∀ w, _) := fun w => nodeOk_calls n w hsh.1 hsh.2.1 hsh.2.2
        clear hnx hil hnn HT hsh
        obtain ⟨kd, num, a, bb, cc, kids⟩ := n
        dsimp only at *
        go_wp2_with fail
        refine (HO.out _).mono ?_
        rintro e w2 ⟨rfl, hb2⟩
        have hb3 : Below w.heap.size w w2 := (hbx.alloc (by have := hbx.size; omega) _).trans (hb2.mono (by have := hbx.size; simp; omega))
        clear c0 c1 c2 c3 c4 c5 hb2 HO
        cases ho : nodeOkZ ⟨kd, num, a, bb, cc, kids⟩ with
        | false =>
          have HF := hF ho
          clear hF hT
          go_wp2_with fail
          go_ret
          exact ⟨by rw [HF.out]; rfl, hb3⟩
        | true =>
          have HT := hT ho
          clear hF hT
          go_wp2_with fail
          have hs := lt_step hlt
          try rw [wrap_succ (by have := HL.out; omega)]
          exact ⟨⟨i' + 1, rfl, by omega, HT, hb3⟩, hs⟩
      · have e : i' = len := by omega
        subst e
        have hall : ns.all nodeOkZ = true := by
          have := HT.out
          rwa [List.take_of_length_le (by rw [Hlen.out]; exact Nat.le_refl _)] at this
        have HX : Hid (∀ w, NodesAt w b off ns → _) := fun w h => implEnd_calls b off cap ns 0 w h (by rw [Hlen.out]; have := HL.out; omega) (by omega)
        rw [Hlen.out] at HX
        rcases HR.out.2 hall with ⟨hne, hR⟩ | ⟨n, k, g1, g2, g3, g4, hR⟩
        · have hne' : (treeEnd ns 0 != (i' : Int)) = true := by rw [bne_iff_ne]; rw [Hlen.out] at hne; exact hne
          clear HT hall hne
          generalize treeEnd ns 0 = te at *
          subst hR
          go_wp2_with fail
          refine (HX.out wr hnx).mono ?_
          rintro e w2 ⟨rfl, rfl⟩
          go_wp2_with fail
          go_ret
          exact ⟨rfl, hbx⟩
        · have hfit : ∀ m ∈ ns, Fits m m.kids.toNat := fun m hm => by
            have := List.all_eq_true.1 hall m hm
            simp only [nodeOkZ, Bool.and_eq_true] at this
            exact fits_of_own this.1
          have hkl : k.flat.length ≤ 300 := by
            have := HL.out
            have e := Hlen.out
            rw [g1, List.length_cons] at e
            omega
          have HC : Hid (∀ w, b < w.heap.size → NodesAt w b off ns → _) := fun w hb h => clausesOk_calls b off cap ns n k w (by rw [Hlen.out]; have := HL.out; omega) hb h g1 g2 g3
          have HG : Hid (∀ w, b < w.heap.size → NodesAt w b off ns → _) := fun w hb h => formOfTree_calls b off cap ns n k w (by rw [Hlen.out]; have := HL.out; omega) hfit hb h g1 g2 g3
          rw [Hlen.out] at HC HG
          rw [g4, Hlen.out] at HX
          have HE : Hid (R = (implTree n k && decide (k.deep + 1 ≤ 40))) := hR
          have HKL : Hid (k.flat.length ≤ 300) := hkl
          have hee : (((i' : Int)) != (i' : Int)) = false := by simp
          clear HT hall g1 g2 g3 g4 hR HR hfit hkl
          go_wp2_with fail
          refine (HX.out wr hnx).mono ?_
          rintro e w2 ⟨rfl, rfl⟩
          go_wp2_with fail
          refine (HC.out wr (by have := hbx.size; omega) hnx).mono ?_
          rintro e w2 ⟨rfl, hb2⟩
          have hb3 := hbx.trans (hb2.mono hbx.size)
          have hn3 := HN.out.below hb3 hbw
          clear hb2 HX HC
          cases hit : implTree n k with
          | false =>
            go_wp2_with fail
            go_ret
            refine ⟨?_, hb3⟩
            rw [HE.out, hit, Bool.false_and]
            rfl
          | true =>
            go_wp2_with fail
            refine (HG.out w2 (by have := hb3.size; omega) hn3).mono ?_
            rintro e w4 ⟨v, us, rfl, hF4, hS4, hb4⟩
            have hb5 := hb3.trans (hb4.mono hb3.size)
            have HD : Hid (Calls _ _ _ _ _) := deepOf_calls (k.flat.length + 1) _ n k us v w4 hF4 hS4 HKL.out (Nat.lt_succ_self _)
            clear hF4 hS4 hb4 HG hn3
            generalize k.deep + 1 = dd at *
            go_wp2_with fail
            refine HD.out.mono ?_
            rintro e w6 ⟨rfl, hb6⟩
            go_wp2_with fail
            go_ret
            refine ⟨?_, hb5.trans (hb6.mono hb5.size)⟩
            rw [HE.out, hit, Bool.true_and]
            show Ending.returned (Value.bool (decide ((dd : Int) ≤ 40))) = _
            congr 2
            exact decide_eq_decide.2 (by omega)
  · have hR : R = false := by
      rcases hA with ⟨_, h⟩ | ⟨h1, h2, _⟩ | ⟨h1, h2, _⟩
      · exact h
      · exact absurd ⟨h1, h2⟩ hl
      · exact absurd ⟨h1, h2⟩ hl
    subst hR
    have hl' : (ns.length : Int) < 1 ∨ ((1 : Int) ≤ (ns.length : Int) ∧ (300 : Int) < (ns.length : Int)) := by omega
    clear hA hm hn hl hs
    generalize ns.length = len at *
    rcases hl' with h | ⟨h, h'⟩
    all_goals
      go_enter Tryz.func8, Tryz.ntmps8
      go_wp2_with fail
      go_ret
      exact ⟨rfl, Below.refl _ _⟩
end Go.Proofs.YtfmeldjkofoelaaGreatDoor

/- The program's own TreePlain and TreeFree, by the namer's walk. -/
namespace Go.Proofs.YtfmeldjkofoelaaGreatDoor
open Go.RowKit Go.Deep

theorem empty_of {s : ByteArray} (h : (s.toList == []) = true) : s = ⟨#[]⟩ := by
  have h1 : s.toList = [] := by simpa using h
  rw [ByteArray.toList_eq] at h1
  obtain ⟨d⟩ := s
  congr
  exact Array.toList_eq_nil_iff.1 h1

theorem fit_same {nm : Int} {i : Nat} {s : ByteArray} (h : fit nm i s = true) : (if (i : Int) + 1 ≤ nm then s else ⟨#[]⟩) = s := by
  unfold fit at h
  split at h
  · rw [if_pos (by omega)]
  · rw [if_neg (by omega), empty_of h]

theorem fit_size {nm : Int} {i : Nat} {s : ByteArray} (h : fit nm i s = true) : s.size ≤ 8 := by
  unfold fit at h
  split at h
  · simp only [nameOk, Bool.and_eq_true, decide_eq_true_eq] at h
    exact h.1.1.2
  · rw [empty_of h]
    exact Nat.zero_le _

/-- A node that is as its kind asks is what its form keeps of it. -/
theorem whole_of {m : Nd} (h : nodeOkZ m = true) : Whole m := by
  simp only [nodeOkZ, ownOk, namesOk, Bool.and_eq_true] at h
  obtain ⟨⟨-, ⟨ha, hb, hc⟩, -, hnum⟩, -⟩ := h
  have e1 := fit_same ha
  have e2 := fit_same hb
  have e3 := fit_same hc
  simp only [Int.natCast_zero, Int.zero_add] at e1
  rw [show ((1 : Nat) : Int) + 1 = 2 from rfl] at e2
  rw [show ((2 : Nat) : Int) + 1 = 3 from rfl] at e3
  have e4 : (if m.kind = 1 ∨ m.kind = 2 then m.num else 0) = m.num := by
    split
    · rfl
    · have h2 := of_decide_eq_true hnum
      rw [most_other (by omega) (by omega)] at h2
      omega
  have e5 := fit_size ha
  refine ⟨?_, by omega⟩
  unfold bareZ
  rw [e1, e2, e3, e4]

theorem own_base {W : World} {B B' : Nat} {e : TypeId} {sz : Nat} {v : Value} {n : Nat} {xs : List Value} (h : W.ownsRow B e sz v n xs) (hB : B' ≤ B) : W.ownsRow B' e sz v n xs := by
  obtain ⟨h0, ⟨rfl, h1⟩ | ⟨g, cap, cur, rfl, hb, hr⟩⟩ := h
  · exact ⟨h0, Or.inl ⟨rfl, h1⟩⟩
  · exact ⟨h0, Or.inr ⟨g, cap, cur, rfl, Nat.le_trans hB hb, hr⟩⟩

/-- The namer ahead of its walk. -/
theorem nms_start {w2 W0 : World} (hb : Below (w2.alloc (.cells #[.slice none 0 0, .slice none 0 0, .int .i64 0] 41)).heap.size (w2.alloc (.cells #[.slice none 0 0, .slice none 0 0, .int .i64 0] 41)) W0) : Nms W0 w2.heap.size ⟨[], [], 0⟩ (.slice none 0 0) (.slice none 0 0) W0 := by
  have h := (one_kept hb).1
  exact ⟨h, World.ownsRow_nil _ _ _ _, World.ownsRow_nil _ _ _ _, rfl, rfl, rfl, Nat.le_refl _, fun _ _ _ => rfl, heap_lt h⟩

theorem room_start {c : Nat} (h : c ≤ 300) : Room (c + 1) ⟨[], [], 0⟩ := ⟨by simp; omega, by simp; omega, by simp; omega⟩

theorem nms_below {w W0 : World} {Nb : Nat} {s : Wst} {vp vf : Value} {W : World} (h : Below w.heap.size w W0) (hN : w.heap.size ≤ Nb) (n : Nms W0 Nb s vp vf W) : Below w.heap.size w W :=
  ⟨n.os.trans h.os, n.tape.trans h.tape, n.output.trans h.output, Nat.le_trans h.size n.size, fun q hq => (n.kept q (Nat.lt_of_lt_of_le hq h.size) (by omega)).trans (h.block q hq)⟩

/-- What the walk over a whole tree finds. -/
def wholeW (n : Nd) (k : Fo) : Wst := walkW n k [] ⟨[], [], 0⟩

def plainOf (s : Wst) : List Nd := if s.free = [] then s.plain else []

def textsOf (ss : List ByteArray) : List Tx := ss.map fun s => s.data.toList

def freeOf (s : Wst) : List Tx := (textsOf s.free).foldl addL []

theorem strRow_texts (ss : List ByteArray) : strRow ss = (textsOf ss).map encStr := by
  unfold strRow textsOf
  rw [List.map_map]
  rfl

/-- Less of a row that was written. -/
theorem own_less {w : World} {base g cap q : Nat} {e : TypeId} {cur : Array Value} {ts rs : List Tx} (hbase : base ≤ g) (hb : w.heap[g]? = some (.cells cur e (0, 0))) (h1 : (ts ++ rs).length ≤ cap) (h2 : cap ≤ maxLen) (h3 : cur.size = cap * 1) :
    (Sort.putRow encStr (Sort.ahead w q) g 0 (ts ++ rs).toArray).ownsRow base e 1 (.slice (some ⟨g, 0, none⟩) ts.length cap) ts.length (ts.map encStr) := by
  have hh := heap_sorted (n := q) (os := #[]) (ts ++ rs).toArray hb
  rw [Sort.grow_empty] at hh
  rw [List.length_append] at h1
  refine ⟨by simp, .inr ⟨g, cap, _, rfl, hbase, hh, by omega, h2, by simp [Sort.putCells, h3], ?_⟩⟩
  have ht := take_putCells cur (ts ++ rs) (by rw [List.length_append]; omega)
  rw [Nat.mul_one]
  have e2 := congrArg (List.take ts.length) ht
  rw [List.take_take, List.length_append, Nat.min_eq_left (by omega), List.map_append, List.take_left' (by simp)] at e2
  exact e2

theorem compactUpTo_len (d : Array Tx) : ∀ m, (Lib.compactUpTo d m).length ≤ m := fun m => by
  unfold Lib.compactUpTo
  rw [List.length_map]
  exact Nat.le_trans (List.length_filter_le _ _) (by simp)

theorem compact_len (l : List Tx) : (Lib.compact l).length ≤ l.length := compactUpTo_len _ _

set_option maxHeartbeats 4000000 in
set_option maxRecDepth 100000 in
theorem implFree_calls {b off cap : Nat} {ns : List Nd} {n : Nd} {k : Fo} (w : World) (hm : ns.length ≤ 300) (hbw : b < w.heap.size) (hn : NodesAt w b off ns) (hs : Short ns) (hA : ImplAns ns true) (hall : ns.all nodeOkZ = true) (h1 : ns = n :: k.flat) (h2 : n.kids = k.count) (h3 : k.wf) (hL : Laid w) :
    Calls Tryz.prog 5 #[.slice (some ⟨b, off, none⟩) ns.length cap] w fun e w' => ∃ v, e = .returned v ∧ Below w.heap.size w w' ∧ w'.ownsRow w.heap.size 9 1 v (freeOf (wholeW n k)).length ((freeOf (wholeW n k)).map encStr) := by
  have hfit : ∀ m ∈ ns, Fits m m.kids.toNat := fun m hm => by
    have := List.all_eq_true.1 hall m hm
    simp only [nodeOkZ, Bool.and_eq_true] at this
    exact fits_of_own this.1
  have hwh : ∀ m ∈ n :: k.flat, Whole m := fun m hm => whole_of (List.all_eq_true.1 hall m (by rw [h1]; exact hm))
  have hkl : k.flat.length ≤ 300 := by rw [h1, List.length_cons] at hm; omega
  have HT := hid (implTree_calls b off cap ns w true (by omega) hbw hn hs hA)
  have HG := hid (fun X hb h => formOfTree_calls b off cap ns n k X hm hfit hb h h1 h2 h3)
  have HW := hid (fun (W0 : World) (Nb BF : Nat) (us : List Value) (v : Value) (hL : Laid W0) (h0 : Nb ≠ 0) (hNF : Nb < BF) (hF : Forms BF W0 k us) (hS : Shape BF W0 n us v) (st : Nms W0 Nb ⟨[], [], 0⟩ (.slice none 0 0) (.slice none 0 0) W0) => walk_calls hL h0 hNF (k.flat.length + 1) n k us v none [] _ _ _ W0 hF hS h2 h3 hwh (Nat.lt_succ_self _) hkl st (room_start hkl) rfl)
  have HRm0 := hid ((walkW_room (n := n) (k := k) (sc := []) (s := ⟨[], [], 0⟩) (c := 0) (by rw [Nat.add_comm 1]; exact room_start hkl)).free)
  have HN := hid hn
  have HL := hid hL
  have HB := hid hbw
  clear hn hs hA hall hfit hwh hkl hL hm
  generalize ns.length = len at *
  go_enter Tryz.func5, Tryz.ntmps5
  go_wp2_with fail
  refine HT.out.mono ?_
  rintro e w2 ⟨rfl, hb2⟩
  have hs2 := hb2.size
  go_wp2_with fail
  have hb3 := hb2.alloc (Nat.le_trans (Nat.le_refl _) hs2) (.cells #[.slice none 0 0, .slice none 0 0, .int .i64 0] 41)
  refine (HG.out _ (by have := hb3.size; omega) (HN.out.below hb3 HB.out)).mono ?_
  rintro e W0 ⟨v, us, rfl, hF, hS, hb4⟩
  have hs4 := hb4.size
  have hst := nms_start hb4
  have hb5 := hb3.trans (hb4.mono hb3.size)
  have HC := hid (HW.out W0 w2.heap.size _ us v (HL.out.stays hb5) (by omega) (by simp) hF hS hst)
  have HB5 := hid hb5
  clear HT HG HW hb2 hb3 hb4 hF hS hst hb5 hs4
  go_wp2_with fail
  refine HC.out.mono ?_
  rintro e W ⟨⟨x, rfl⟩, vp, vf, st, -, -, -⟩
  have hbW := nms_below HB5.out (by omega) st
  have hs5 := HB5.out.size
  have c1 := cell_of_heap st.blk 1
  have hwf : (walkW n k [] ⟨[], [], 0⟩) = wholeW n k := rfl
  rw [hwf] at st
  simp at c1
  have hfr := st.frow
  rw [strRow_texts] at hfr
  have hln : (wholeW n k).free.length = (textsOf (wholeW n k).free).length := by unfold textsOf; simp
  rw [hln] at hfr
  have hfo : freeOf (wholeW n k) = (textsOf (wholeW n k).free).foldl addL [] := rfl
  rw [← free_same] at hfo
  have HRm : Hid ((textsOf (wholeW n k).free).length ≤ 90000) := by show _ ≤ _; have := HRm0.out; rw [hwf] at this; rw [← hln]; omega
  clear HRm0
  generalize textsOf (wholeW n k).free = ts at *
  have HFo := hid hfo
  have HBW := hid hbW
  have hap := st.apart st.blk
  have hblk := st.blk
  have HSt := hid (And.intro hap.2 hblk)
  have hs0 := st.size
  have hlt := heap_lt st.blk
  clear HC HB5 hbW hwf hln hfo hap hblk st
  have hdec : (41 : Nat) ≠ 9 := by decide
  have hmode := hfr
  obtain ⟨-, ⟨rfl, h0⟩ | ⟨g, cp, cur, rfl, hgB, hgb, hl1, hl2, hl3, hl4⟩⟩ := hmode
  · have ets : ts = [] := List.eq_nil_of_length_eq_zero h0
    subst ets
    clear hfr h0
    generalize w2.heap.size = Nb at *
    go_wp2_with fail
    refine (Tryz.slices_Sort_string_none none 0 W).mono ?_
    rintro e W3 ⟨rfl, rfl⟩
    go_wp2_with fail
    refine (Tryz.slices_Compact_string_empty none 0 W3).mono ?_
    rintro e W4 ⟨rfl, rfl⟩
    go_wp2_with fail
    go_ret
    refine ⟨_, rfl, HBW.out, ?_⟩
    have e0 : freeOf (wholeW n k) = [] := by rw [HFo.out, free_same]; rfl
    rw [e0]
    exact World.ownsRow_nil _ _ _ _
  · have hgN : g ≠ w2.heap.size := fun e => HSt.out.1 hdec (by rw [e]; rfl)
    have hgl := heap_lt hgb
    have HSo := hid (Tryz.slices_Sort_string g 0 cp ts W (holds_of_block hgb (by rw [Nat.mul_one] at hl4; exact hl4)) hgl (by have := HRm.out; omega))
    have HGb := hid (And.intro hgb (And.intro hl1 (And.intro hl2 hl3)))
    have HNb := hid HSt.out.2
    have HG := hid (And.intro hgN (And.intro hgB hgl))
    obtain ⟨ls, hls⟩ : ∃ ls, ts.mergeSort (fun x y => decide (x ≤ y)) = ls := ⟨_, rfl⟩
    have hlen : ls.length = ts.length := by rw [← hls]; simp
    rw [hls] at HSo HFo
    obtain ⟨L, hL⟩ : ∃ L, ts.length = L := ⟨_, rfl⟩
    rw [hL] at HSo c1 HGb hlen HNb
    have HRL : Hid (L ≤ 90000) := by show _ ≤ _; have := HRm.out; omega
    clear hfr hgb hl1 hl2 hl3 hl4 hls hgN hgB hgl HSt hdec hL HRm ts
    generalize w2.heap.size = Nb at *
    go_wp2_with fail
    refine HSo.out.mono ?_
    rintro e W3 ⟨rfl, q, os, rfl⟩
    have hN3 := (grownBy_sorted (w := W) (g := g) (n := q) (os := os) ls.toArray).block Nb (heap_lt HNb.out) (by have := HG.out.1; simp; exact fun e => this e.symm)
    have hG3 := heap_sorted (n := q) (os := os) ls.toArray HGb.out.1
    have hs3 := (grownBy_sorted (w := W) (g := g) (n := q) (os := os) ls.toArray)
    have hcp : (Lib.compact ls).length ≤ L := by
      rw [← hlen]
      exact compact_len ls
    have HCo := hid (Tryz.slices_Compact_string g 0 cp ls _ (holds_of_block hG3 (take_putCells _ ls (by have := HGb.out; omega))) (by have := HRL.out; omega) (by have := HGb.out; omega))
    rw [hlen] at HCo
    have hM := (hN3.trans HNb.out)
    have c2 := cell_of_heap hM 1
    simp at c2
    have HG3 := hid hG3
    have HS3 := hid hs3
    clear hG3 hN3 hs3 hM HSo
    generalize Sort.grow (Sort.putRow encStr (Sort.ahead W q) g 0 ls.toArray) os = W3 at *
    go_wp2_with fail
    refine HCo.out.mono ?_
    rintro e W4 ⟨rfl, q2, rfl⟩
    go_wp2_with fail
    go_ret
    have hlen2 : (Lib.compact ls ++ List.replicate (L - (Lib.compact ls).length) []).length = L := by rw [List.length_append, List.length_replicate]; omega
    refine ⟨_, rfl, ?_, ?_⟩
    · have hgw : w.heap.size ≤ g := by have := HG.out.2.1; omega
      have hg2 := grownBy_sorted (w := W3) (g := g) (n := q2) (os := #[]) (Lib.compact ls ++ List.replicate (L - (Lib.compact ls).length) []).toArray
      rw [Sort.grow_empty] at hg2
      exact (HBW.out.grown HS3.out HBW.out.size (fun k e => by cases e; exact hgw)).grown hg2 (by have := HS3.out.size; have := HBW.out.size; omega) (fun k e => by cases e; exact hgw)
    · rw [HFo.out]
      exact own_less (by have := HG.out.2.1; omega) HG3.out (by rw [hlen2]; exact HGb.out.2.1) HGb.out.2.2.1 (by simp [Sort.putCells]; have := HGb.out.2.2.2; omega)

set_option maxRecDepth 100000 in
theorem implFree_bad {b off cap : Nat} {ns : List Nd} (w : World) (hm : ns.length ≤ 1048576) (hbw : b < w.heap.size) (hn : NodesAt w b off ns) (hs : Short ns) (hA : ImplAns ns false) :
    Calls Tryz.prog 5 #[.slice (some ⟨b, off, none⟩) ns.length cap] w fun e w' => e = .returned (.slice none 0 0) ∧ Below w.heap.size w w' := by
  have HT := hid (implTree_calls b off cap ns w false hm hbw hn hs hA)
  clear hm hbw hn hs hA
  generalize ns.length = len at *
  go_enter Tryz.func5, Tryz.ntmps5
  go_wp2_with fail
  refine HT.out.mono ?_
  rintro e w2 ⟨rfl, hb2⟩
  go_wp2_with fail
  go_ret
  exact ⟨rfl, hb2⟩
end Go.Proofs.YtfmeldjkofoelaaGreatDoor

/- Lists of names, as the specification handles them. -/
namespace Go.Proofs.YtfmeldjkofoelaaGreatDoor
open Go.RowKit Go.Deep

/-- A slice of names. -/
def NamesV (W : World) (v : Value) (ss : List ByteArray) : Prop :=
  (v = .slice none 0 0 ∧ ss = []) ∨ ∃ g o c, v = .slice (some ⟨g, o, none⟩) ss.length c ∧ g < W.heap.size ∧ ∀ j, j < ss.length → W.cell? ⟨g, o + j, none⟩ = some (.string (ss.getD j ⟨#[]⟩))

theorem names_none (W : World) : NamesV W (.slice none 0 0) [] := Or.inl ⟨rfl, rfl⟩

theorem NamesV.below {W W' : World} {v : Value} {ss : List ByteArray} (h : NamesV W v ss) (hb : Below W.heap.size W W') : NamesV W' v ss := by
  rcases h with h | ⟨g, o, c, e, hg, hc⟩
  · exact Or.inl h
  · exact Or.inr ⟨g, o, c, e, Nat.lt_of_lt_of_le hg hb.size, fun j hj => (hb.cell (p := ⟨g, o + j, none⟩) hg).trans (hc j hj)⟩

theorem NamesV.slice {W : World} {v : Value} {ss : List ByteArray} (h : NamesV W v ss) : ∃ ad c, v = .slice ad ss.length c := by
  rcases h with ⟨rfl, rfl⟩ | ⟨g, o, c, rfl, -⟩
  · exact ⟨none, 0, rfl⟩
  · exact ⟨_, _, rfl⟩

theorem NamesV.cell {W : World} {ad : Option Addr} {n c : Nat} {ss : List ByteArray} (h : NamesV W (.slice ad n c) ss) (hn : 0 < n) : n = ss.length ∧ ∃ g o, ad = some ⟨g, o, none⟩ ∧ g < W.heap.size ∧ ∀ j, j < n → W.cell? ⟨g, o + j, none⟩ = some (.string (ss.getD j ⟨#[]⟩)) := by
  rcases h with ⟨e, -⟩ | ⟨g, o, c', e, hg, hc⟩
  · cases e; omega
  · cases e
    exact ⟨rfl, g, o, rfl, hg, hc⟩

theorem strRow_len (ss : List ByteArray) : (strRow ss).length = ss.length := by unfold strRow; simp

theorem strRow_get (ss : List ByteArray) (j : Nat) (h : j < ss.length) : (strRow ss)[j]? = some (.string (ss.getD j ⟨#[]⟩)) := by
  unfold strRow
  simp [List.getD, h]

theorem names_owns {W : World} {B : Nat} {v : Value} {n : Nat} {ss : List ByteArray} (h : W.ownsRow B 9 1 v n (strRow ss)) : NamesV W v ss ∧ n = ss.length := by
  have hl : n = ss.length := by have := h.1; rw [strRow_len] at this; omega
  subst hl
  refine ⟨?_, rfl⟩
  have h' := h
  obtain ⟨-, ⟨rfl, h0⟩ | ⟨g, cap, cur, rfl, hB, hc, hr⟩⟩ := h
  · exact Or.inl ⟨rfl, List.eq_nil_of_length_eq_zero h0⟩
  · refine Or.inr ⟨g, 0, cap, rfl, heap_lt hc, fun j hj => ?_⟩
    rw [Nat.zero_add, h'.cellAt j (by omega), strRow_get ss j hj]

theorem names_lit (w : World) (o1 : Obj) (ss : List ByteArray) : NamesV ((w.alloc o1).alloc (.cells (strRow ss).toArray 9)) (.slice (some ⟨w.heap.size + 1, 0, none⟩) ss.length ss.length) ss := by
  have hh := (MapKept.heap_alloc (w.alloc o1) (.cells (strRow ss).toArray 9)).1
  rw [show (w.alloc o1).heap.size = w.heap.size + 1 by simp] at hh
  refine Or.inr ⟨_, 0, _, rfl, heap_lt hh, fun j hj => ?_⟩
  rw [Nat.zero_add, cell_of_heap hh j]
  simp only [List.getElem?_toArray]
  exact strRow_get ss j hj

/-- Names appended to a row of one's own. -/
theorem app_names {W : World} {B : Nat} {v xv : Value} {n : Nat} {ss ys : List ByteArray} (ty : TypeId) (hown : W.ownsRow B 9 1 v n (strRow ss)) (hx : NamesV W xv ys) (hm : ss.length + ys.length ≤ 200000) (hB : B ≤ W.heap.size) :
    ∃ v' W', (Builtin.append_ #[25, 25] ty #[v, xv]).run Tryz.prog W = .ok v' W' ∧ W'.ownsRow B 9 1 v' (ss ++ ys).length (strRow (ss ++ ys)) ∧ W.grownBy W' v.ownBlock ∧ (v'.ownBlock = v.ownBlock ∨ v'.ownBlock = some W.heap.size) := by
  obtain ⟨i0, hi, hz0, hz1, hz2⟩ := info_parts info_str
  have hn : n = ss.length := (names_owns hown).2
  subst hn
  rcases hx with ⟨rfl, rfl⟩ | ⟨g, o, c, rfl, hg, hc⟩
  · refine ⟨v, W, run_append_owned_none W B 25 ty 9 i0 1 Tryz.underlying25 hi v _ _ hown, ?_, ⟨rfl, rfl, rfl, Nat.le_refl _, fun _ _ _ => rfl⟩, Or.inl rfl⟩
    rw [List.append_nil]
    exact hown
  · obtain ⟨v', W', hr, h2, h3, -, h5⟩ := run_append_own_at (P := Tryz.prog) W B 25 ty 9 i0 _ 1 16 Tryz.underlying25 hi hz0 hz1 hz2 rfl (by decide) v ss.length (strRow ss) hown ⟨g, o, none⟩ ys.length c (strRow ys) (by rw [strRow_len]; omega)
      (fun j u hu => by
        have hj : j < ys.length := by
          have := (List.getElem?_eq_some_iff.1 hu).1
          rwa [strRow_len] at this
        rw [strRow_get ys j hj] at hu
        cases hu
        rw [Addr.add_lit]
        exact hc j hj)
      (fun u hu => by unfold strRow at hu; rw [List.mem_map] at hu; obtain ⟨x, -, rfl⟩ := hu; rfl) (by unfold maxLen; omega) (by omega) hB
    refine ⟨v', W', hr, ?_, h3, h5⟩
    rw [List.length_append]
    have e : strRow (ss ++ ys) = strRow ss ++ strRow ys := by unfold strRow; rw [List.map_append]
    rw [e]
    exact h2

set_option maxHeartbeats 2000000 in
set_option maxRecDepth 100000 in
theorem binds_calls (n : Nd) (i : Nat) (w : World) (hk2 : n.kind = 9 → i < 2) :
    Calls Tryz.prog 37 #[ndV n, .int .i64 (i : Int)] w fun e w' => ∃ sv, e = .returned sv ∧ NamesV w' sv (knownZ n i) ∧ Below w.heap.size w w' := by
  obtain ⟨kd, num, a, b, c, kids⟩ := n
  have h1 : ∀ i : Nat, ((i : Int) = 1) ↔ (i = 1) := fun i => by omega
  have h2 : ∀ i : Nat, ((i : Int) = 2) ↔ (i = 2) := fun i => by omega
  unfold ndV
  dsimp only at hk2 ⊢
  go_enter Tryz.func37, Tryz.ntmps37
  by_cases k6 : kd = 6
  · have hz : knownZ ⟨kd, num, a, b, c, kids⟩ i = [a] := by unfold knownZ; rw [if_pos (Or.inl k6)]
    rw [hz]
    subst k6
    go_wp2_with fail
    go_ret
    exact ⟨_, rfl, names_lit w _ [a], below_two w _ _⟩
  by_cases k25 : kd = 25
  · have hz : knownZ ⟨kd, num, a, b, c, kids⟩ i = [a] := by unfold knownZ; rw [if_pos (Or.inr k25)]
    rw [hz]
    subst k25
    go_wp2_with fail
    go_ret
    exact ⟨_, rfl, names_lit w _ [a], below_two w _ _⟩
  by_cases k8 : kd = 8
  · subst k8
    by_cases i1 : (i : Int) = 1
    · have hz : knownZ ⟨8, num, a, b, c, kids⟩ i = [a] := by unfold knownZ; rw [if_neg (by dsimp only; decide), if_pos (Or.inl ⟨rfl, (h1 i).1 i1⟩)]
      rw [hz]
      go_wp2_with fail
      go_ret
      exact ⟨_, rfl, names_lit w _ [a], below_two w _ _⟩
    · have hz : knownZ ⟨8, num, a, b, c, kids⟩ i = [] := by
        unfold knownZ
        rw [if_neg (by dsimp only; decide), if_neg (by rintro (⟨-, h⟩ | ⟨h, -⟩); exact i1 ((h1 i).2 h); cases h), if_neg (by rintro (h | ⟨h, -⟩) <;> cases h), if_neg (by dsimp only; decide)]
      rw [hz]
      go_wp2_with fail
      go_ret
      exact ⟨_, rfl, names_none _, one_new' w _⟩
  by_cases k9 : kd = 9
  · subst k9
    by_cases i1 : (i : Int) = 0
    · have hz : knownZ ⟨9, num, a, b, c, kids⟩ i = [a, b] := by
        unfold knownZ
        rw [if_neg (by dsimp only; decide), if_neg (by rintro (⟨h, -⟩ | ⟨-, h⟩); cases h; omega), if_pos (Or.inl rfl)]
      rw [hz]
      go_wp2_with fail
      go_ret
      exact ⟨_, rfl, names_lit w _ [a, b], below_two w _ _⟩
    · have i1' : i = 1 := by
        have := hk2 rfl
        omega
      have hz : knownZ ⟨9, num, a, b, c, kids⟩ i = [a] := by unfold knownZ; rw [if_neg (by dsimp only; decide), if_pos (Or.inr ⟨rfl, i1'⟩)]
      rw [hz]
      go_wp2_with fail
      go_ret
      exact ⟨_, rfl, names_lit w _ [a], below_two w _ _⟩
  by_cases k20 : kd = 20
  · subst k20
    by_cases i2 : (i : Int) = 2
    · have hz : knownZ ⟨20, num, a, b, c, kids⟩ i = [a, b] := by
        unfold knownZ
        rw [if_neg (by dsimp only; decide), if_neg (by rintro (⟨h, -⟩ | ⟨h, -⟩) <;> cases h), if_pos (Or.inr ⟨rfl, (h2 i).1 i2⟩)]
      rw [hz]
      go_wp2_with fail
      go_ret
      exact ⟨_, rfl, names_lit w _ [a, b], below_two w _ _⟩
    · have hz : knownZ ⟨20, num, a, b, c, kids⟩ i = [] := by
        unfold knownZ
        rw [if_neg (by dsimp only; decide), if_neg (by rintro (⟨h, -⟩ | ⟨h, -⟩) <;> cases h), if_neg (by rintro (h | ⟨-, h⟩); cases h; exact i2 ((h2 i).2 h)), if_neg (by dsimp only; decide)]
      rw [hz]
      go_wp2_with fail
      go_ret
      exact ⟨_, rfl, names_none _, one_new' w _⟩
  by_cases k26 : kd = 26
  · subst k26
    have hz : knownZ ⟨26, num, a, b, c, kids⟩ i = [b, c] := by
      unfold knownZ
      rw [if_neg (by dsimp only; decide), if_neg (by rintro (⟨h, -⟩ | ⟨h, -⟩) <;> cases h), if_neg (by rintro (h | ⟨h, -⟩) <;> cases h), if_pos rfl]
    rw [hz]
    go_wp2_with fail
    go_ret
    exact ⟨_, rfl, names_lit w _ [b, c], below_two w _ _⟩
  · have hz : knownZ ⟨kd, num, a, b, c, kids⟩ i = [] := by
      unfold knownZ
      rw [if_neg (by rintro (h | h); exact k6 h; exact k25 h), if_neg (by rintro (⟨h, -⟩ | ⟨h, -⟩); exact k8 h; exact k9 h), if_neg (by rintro (h | ⟨h, -⟩); exact k9 h; exact k20 h), if_neg k26]
    rw [hz]
    have b6 : (kd == 6) = false := beq_eq_false_iff_ne.2 k6
    have b25 : (kd == 25) = false := beq_eq_false_iff_ne.2 k25
    have b8 : (kd == 8) = false := beq_eq_false_iff_ne.2 k8
    have b9 : (kd == 9) = false := beq_eq_false_iff_ne.2 k9
    have b20 : (kd == 20) = false := beq_eq_false_iff_ne.2 k20
    have b26 : (kd == 26) = false := beq_eq_false_iff_ne.2 k26
    clear hz h1 h2
    go_wp2_with fail
    go_ret
    exact ⟨_, rfl, names_none _, one_new' w _⟩
end Go.Proofs.YtfmeldjkofoelaaGreatDoor

/- A name in a list, and a name put into a list where it belongs, as the specification does it. -/
namespace Go.Proofs.YtfmeldjkofoelaaGreatDoor
open Go.RowKit Go.Deep

def bys (l : List Tx) : List ByteArray := l.map fun x => ⟨x.toArray⟩

theorem bys_len (l : List Tx) : (bys l).length = l.length := by unfold bys; simp

theorem bys_get (l : List Tx) (j : Nat) (h : j < l.length) : (bys l).getD j ⟨#[]⟩ = ⟨(l.getD j []).toArray⟩ := by
  unfold bys
  simp [List.getD, h]

/-- The list with the name put in, as a loop puts it. -/
def addGo (s : Tx) : List Tx → Bool → List Tx → List Tx
  | [], pt, acc => if pt then acc else acc ++ [s]
  | y :: r, pt, acc => if pt = false ∧ s < y then addGo s r true (acc ++ [s] ++ [y]) else addGo s r pt (acc ++ [y])

theorem addGo_true (s : Tx) : ∀ (l acc : List Tx), addGo s l true acc = acc ++ l
  | [], acc => by simp [addGo]
  | y :: r, acc => by simp [addGo, addGo_true s r]

theorem addGo_false (s : Tx) : ∀ (l acc : List Tx), addGo s l false acc = acc ++ insL l s
  | [], acc => by simp [addGo, insL]
  | y :: r, acc => by
    unfold addGo insL
    by_cases h : s < y
    · rw [if_pos ⟨rfl, h⟩, if_pos h, addGo_true]
      simp
    · rw [if_neg (fun x => h x.2), if_neg h, addGo_false s r]
      simp

def memB (ss : List ByteArray) (s : ByteArray) : Bool := ss.any fun x => x.toList == s.toList

theorem memB_iff (ss : List ByteArray) (s : ByteArray) : memB ss s = true ↔ s ∈ ss := by
  unfold memB
  rw [List.any_eq_true]
  constructor
  · rintro ⟨x, hx, h⟩
    rw [str_eq, decide_eq_true_eq] at h
    rwa [← h]
  · intro h
    exact ⟨s, h, by rw [str_eq, decide_eq_true_eq]⟩

set_option maxRecDepth 100000 in
theorem in_none (s : ByteArray) (w : World) : Calls Tryz.prog 35 #[.slice none 0 0, .string s] w fun e w' => e = .returned (.bool false) ∧ w' = w := by
  go_enter Tryz.func35, Tryz.ntmps35
  go_wp2_with fail
  refine wp_loop_rounds 1 ?_
  rw [rounds_succ]
  go_wp2_with fail
  go_ret
  exact ⟨rfl, rfl⟩

theorem in_any {v : Value} {ss : List ByteArray} (s : ByteArray) (w : World) (h : NamesV w v ss) (hl : ss.length ≤ 1000000) : Calls Tryz.prog 35 #[v, .string s] w fun e w' => e = .returned (.bool (memB ss s)) ∧ w' = w := by
  rcases h with ⟨rfl, rfl⟩ | ⟨g, o, c, rfl, hg, hc⟩
  · exact in_none s w
  · refine (in_calls g o ss.length c ss s w (Nat.le_refl _) hl hc).mono ?_
    rintro e w' ⟨rfl, rfl⟩
    rw [List.take_length]
    exact ⟨rfl, rfl⟩

theorem add_step {w wr W' : World} {out v' : Value} {acc : List Tx} {y : Tx} {yb : ByteArray} {o : Obj} (hy : (⟨y.toArray⟩ : ByteArray) = yb) (h : wr.ownsRow w.heap.size 9 1 out acc.length (strRow (bys acc)) ∧ Below w.heap.size w wr) (hown : W'.ownsRow w.heap.size 9 1 v' (acc.length + 1) (strRow (bys acc) ++ [.string yb])) (hg : (wr.alloc o).grownBy W' out.ownBlock) :
    W'.ownsRow w.heap.size 9 1 v' (acc ++ [y]).length (strRow (bys (acc ++ [y]))) ∧ Below w.heap.size w W' := by
  subst hy
  have hs := h.2.size
  refine ⟨?_, Below.grown (h.2.alloc (by omega) _) hg (by simp; omega) (fun j hj => (h.1.lt _ hj).1)⟩
  rw [List.length_append, show bys (acc ++ [y]) = bys acc ++ [⟨y.toArray⟩] by unfold bys; rw [List.map_append]; rfl, strRow_snoc]
  exact hown

theorem bytes_back (s : ByteArray) : (⟨s.data.toList.toArray⟩ : ByteArray) = s := rfl

set_option maxHeartbeats 4000000 in
set_option maxRecDepth 100000 in
theorem add_calls {v : Value} {l : List Tx} (s : ByteArray) (w : World) (hv : NamesV w v (bys l)) (hl : l.length ≤ 90000) :
    Calls Tryz.prog 36 #[v, .string s] w fun e w' => ∃ u, e = .returned u ∧ NamesV w' u (bys (addL l s.data.toList)) ∧ Below w.heap.size w w' := by
  obtain ⟨ad, cp, rfl⟩ := hv.slice
  rw [bys_len] at hv ⊢
  obtain ⟨L, hL⟩ : ∃ L, l.length = L := ⟨_, rfl⟩
  have HV := hid hv
  have HL := hid (And.intro hL hl)
  rw [hL] at HV ⊢
  clear hv hl hL
  obtain ⟨i0, hinf, hz0, hz1, hz2⟩ := info_parts info_str
  go_enter Tryz.func36, Tryz.ntmps36
  go_wp2_with fail
  go_loopw [5, 6, 7] (fun out put i wr => ∃ (i' : Nat) (pt : Bool) (acc : List Tx), i = .int .i64 i' ∧ put = .bool pt ∧ i' ≤ L ∧ Hid (wr.ownsRow w.heap.size 9 1 out acc.length (strRow (bys acc)) ∧ Below w.heap.size w wr) ∧ Hid (s.data.toList ∉ l.take i' ∧ addGo s.data.toList (l.drop i') pt acc = insL l s.data.toList ∧ acc.length ≤ i' + pt.toNat)) (fun _ _ i _ => L - (intOf i).toNat)
  case atStart => exact ⟨0, false, [], rfl, rfl, Nat.zero_le _, ⟨World.ownsRow_nil _ _ _ _, Below.refl _ _⟩, ⟨by simp, by rw [List.drop_zero, addGo_false]; rfl, Nat.zero_le _⟩⟩
  case round =>
    obtain ⟨i', pt, acc, rfl, rfl, hle, HO, HA⟩ := hrel
    by_cases hi : (i' : Int) < (L : Int)
    · have hcx := HV.out.cell (by omega : 0 < L)
      obtain ⟨-, g, o, rfl, hg, hc⟩ := hcx
      have hcell := (HO.out.2.cell (p := ⟨g, o + i', none⟩) hg).trans (hc i' (by omega))
      have hil : i' < l.length := by have := HL.out.1; omega
      rw [bys_get l i' hil] at hcell
      obtain ⟨y, hy⟩ : ∃ y, l.getD i' [] = y := ⟨_, rfl⟩
      rw [hy] at hcell
      have hyd : l.drop i' = y :: l.drop (i' + 1) := by rw [List.drop_eq_getElem_cons hil, ← hy]; simp [List.getD, hil]
      have hyt : l.take (i' + 1) = l.take i' ++ [y] := by rw [List.take_add_one, ← hy]; simp [List.getD, hil]
      have HY := hid (And.intro hyd hyt)
      obtain ⟨yb, hyb⟩ : ∃ yb : ByteArray, (⟨y.toArray⟩ : ByteArray) = yb := ⟨_, rfl⟩
      rw [hyb] at hcell
      have HYb := hid hyb
      have hyl : yb.toList = y := by rw [← hyb]; simp
      have HYl := hid hyl
      have HC0 : Hid (w.cell? ⟨g, o + i', none⟩ = some (.string yb)) := (HO.out.2.cell (p := ⟨g, o + i', none⟩) hg).symm.trans hcell
      have HLn : Hid (acc.length ≤ 90001) := by show _ ≤ _; have := HA.out.2.2; have := HL.out; have : pt.toNat ≤ 1 := (by cases pt <;> decide); omega
      clear hc hy hyb hyd hyt hil hyl
      have hi0 : (0 : Int) ≤ (i' : Int) := by omega
      cases heq : (yb.toList == s.toList) with
      | true =>
        have HM : Hid (s.data.toList ∈ l) := by
          show _ ∈ _
          have e1 : y = s.data.toList := by rw [← HYl.out, ← ByteArray.toList_eq]; simpa using heq
          have := List.mem_of_mem_drop (i := i') (l := l) (a := y) (by rw [HY.out.1]; exact List.mem_cons_self)
          rwa [e1] at this
        go_wp2_with fail
        go_ret
        refine ⟨_, rfl, ?_, HO.out.2⟩
        unfold addL
        rw [if_pos HM.out]
        exact HV.out.below HO.out.2
      | false =>
        have hne : y ≠ s.data.toList := by
          intro e1
          rw [HYl.out, e1, ByteArray.toList_eq] at heq
          simp at heq
        have HNe : Hid (s.data.toList ∉ l.take (i' + 1)) := by
          show _ ∉ _
          rw [HY.out.2, List.mem_append, List.mem_singleton]
          rintro (h | h)
          · exact HA.out.1 h
          · exact hne h.symm
        clear hne
        have hstep : L - (intOf (.int .i64 ((i' + 1 : Nat) : Int))).toNat < L - (intOf (.int .i64 (i' : Int))).toNat := lt_step' hi
        cases pt with
        | true =>
          have HG : Hid (addGo s.data.toList (l.drop (i' + 1)) true (acc ++ [y]) = insL l s.data.toList) := by
            show _ = _
            rw [← HA.out.2.1, HY.out.1]
            conv => rhs; unfold addGo
            rw [if_neg (by simp)]
          have HAl := hid HA.out.2.2
          clear HA
          go_wp2_with (first
            | (at_builtin; refine wpList_append_own_at _ rfl _ _ 25 rfl w.heap.size 9 i0 (.string ⟨#[]⟩) 1 16 Tryz.underlying25 hinf hz0 hz1 hz2 rfl (by decide) _ _ _ rfl (HO.out.1.alloc _) ⟨wr.heap.size, 0, none⟩ 1 1 [.string yb] rfl rfl (cell_one_new _ _ rfl _ _) (fun x hx => by simp at hx; subst hx; rfl) (by have := HLn.out; unfold maxLen; omega) (by have := HLn.out; omega) (by have := HO.out.2.size; simp; omega) ?_
               intro v5HOa w5HOa hown' hgrow hnil hat
               have HOa := hid (add_step HYb.out HO.out hown' hgrow)
               clear hown' hgrow hnil hat))
          try rw [wrap_succ (by have := HL.out; omega)]
          exact ⟨⟨i' + 1, true, acc ++ [y], rfl, rfl, by omega, HOa, ⟨HNe.out, HG.out, by have hq := HAl.out; rw [List.length_append]; simp [Bool.toNat] at hq ⊢; omega⟩⟩, hstep⟩
        | false =>
          cases hlt : Op.bytesLess s.toList yb.toList with
          | true =>
            have hsy : s.data.toList < y := by rw [bytesLess_eq, HYl.out, ByteArray.toList_eq] at hlt; exact of_decide_eq_true hlt
            have HG : Hid (addGo s.data.toList (l.drop (i' + 1)) true (acc ++ [s.data.toList] ++ [y]) = insL l s.data.toList) := by
              show _ = _
              rw [← HA.out.2.1, HY.out.1]
              conv => rhs; unfold addGo
              rw [if_pos ⟨rfl, hsy⟩]
            have HAl := hid HA.out.2.2
            have HLn2 : Hid ((acc ++ [s.data.toList]).length ≤ 90002) := by show _ ≤ _; rw [List.length_append]; exact Nat.succ_le_succ HLn.out
            clear HA hsy
            go_wp2_with (first
              | (at_builtin; refine wpList_append_own_at _ rfl _ _ 25 rfl w.heap.size 9 i0 (.string ⟨#[]⟩) 1 16 Tryz.underlying25 hinf hz0 hz1 hz2 rfl (by decide) _ _ _ rfl (HO.out.1.alloc _) ⟨wr.heap.size, 0, none⟩ 1 1 [.string s] rfl rfl (cell_one_new _ _ rfl _ _) (fun x hx => by simp at hx; subst hx; rfl) (by have := HLn.out; unfold maxLen; omega) (by have := HLn.out; omega) (by have := HO.out.2.size; simp; omega) ?_
                 intro v5HOb w5HOb hown' hgrow hnil hat
                 have HOb := hid (add_step (bytes_back s) HO.out hown' hgrow)
                 have hcell2 := (HOb.out.2.cell (p := ⟨g, o + i', none⟩) hg).trans HC0.out
                 clear hown' hgrow hnil hat)
              | (at_builtin; refine wpList_append_own_at _ rfl _ _ 25 rfl w.heap.size 9 i0 (.string ⟨#[]⟩) 1 16 Tryz.underlying25 hinf hz0 hz1 hz2 rfl (by decide) _ _ _ rfl (HOb.out.1.alloc _) ⟨w5HOb.heap.size, 0, none⟩ 1 1 [.string yb] rfl rfl (cell_one_new _ _ rfl _ _) (fun x hx => by simp at hx; subst hx; rfl) (by have := HLn2.out; unfold maxLen; omega) (by have := HLn2.out; omega) (by have := HOb.out.2.size; simp; omega) ?_
                 intro v5HOc w5HOc hown' hgrow hnil hat
                 have HOc := hid (add_step HYb.out HOb.out hown' hgrow)
                 clear hown' hgrow hnil hat))
            try rw [wrap_succ (by have := HL.out; omega)]
            exact ⟨⟨i' + 1, true, acc ++ [s.data.toList] ++ [y], rfl, rfl, by omega, HOc, ⟨HNe.out, HG.out, by have hq := HAl.out; rw [List.length_append, List.length_append]; simp [Bool.toNat] at hq ⊢; omega⟩⟩, hstep⟩
          | false =>
            have hsy : ¬ s.data.toList < y := by rw [bytesLess_eq, HYl.out, ByteArray.toList_eq] at hlt; exact of_decide_eq_false hlt
            have HG : Hid (addGo s.data.toList (l.drop (i' + 1)) false (acc ++ [y]) = insL l s.data.toList) := by
              show _ = _
              rw [← HA.out.2.1, HY.out.1]
              conv => rhs; unfold addGo
              rw [if_neg (fun x => hsy x.2)]
            have HAl := hid HA.out.2.2
            clear HA hsy
            go_wp2_with (first
              | (at_builtin; refine wpList_append_own_at _ rfl _ _ 25 rfl w.heap.size 9 i0 (.string ⟨#[]⟩) 1 16 Tryz.underlying25 hinf hz0 hz1 hz2 rfl (by decide) _ _ _ rfl (HO.out.1.alloc _) ⟨wr.heap.size, 0, none⟩ 1 1 [.string yb] rfl rfl (cell_one_new _ _ rfl _ _) (fun x hx => by simp at hx; subst hx; rfl) (by have := HLn.out; unfold maxLen; omega) (by have := HLn.out; omega) (by have := HO.out.2.size; simp; omega) ?_
                 intro v5HOd w5HOd hown' hgrow hnil hat
                 have HOd := hid (add_step HYb.out HO.out hown' hgrow)
                 clear hown' hgrow hnil hat))
            try rw [wrap_succ (by have := HL.out; omega)]
            exact ⟨⟨i' + 1, false, acc ++ [y], rfl, rfl, by omega, HOd, ⟨HNe.out, HG.out, by have hq := HAl.out; rw [List.length_append]; simp [Bool.toNat] at hq ⊢; omega⟩⟩, hstep⟩
    · have e : i' = L := by omega
      subst e
      have hdn : l.drop i' = [] := List.drop_eq_nil_of_le (by have := HL.out.1; omega)
      have htk : l.take i' = l := List.take_of_length_le (by have := HL.out.1; omega)
      have HAd : Hid (addL l s.data.toList = insL l s.data.toList) := by
        show _ = _
        unfold addL
        rw [if_neg]
        have := HA.out.1
        rwa [htk] at this
      have HLn : Hid (acc.length ≤ 90001) := by show _ ≤ _; have := HA.out.2.2; have := HL.out; have : pt.toNat ≤ 1 := (by cases pt <;> decide); omega
      cases pt with
      | true =>
        have HG : Hid (acc = insL l s.data.toList) := by
          show _ = _
          rw [← HA.out.2.1, hdn]
          simp [addGo]
        clear HA hdn htk
        go_wp2_with fail
        go_ret
        refine ⟨_, rfl, ?_, HO.out.2⟩
        rw [HAd.out, ← HG.out]
        exact (names_owns HO.out.1).1
      | false =>
        have HG : Hid (acc ++ [s.data.toList] = insL l s.data.toList) := by
          show _ = _
          rw [← HA.out.2.1, hdn]
          simp [addGo]
        clear HA hdn htk
        go_wp2_with (first
          | (at_builtin; refine wpList_append_own_at _ rfl _ _ 25 rfl w.heap.size 9 i0 (.string ⟨#[]⟩) 1 16 Tryz.underlying25 hinf hz0 hz1 hz2 rfl (by decide) _ _ _ rfl (HO.out.1.alloc _) ⟨wr.heap.size, 0, none⟩ 1 1 [.string s] rfl rfl (cell_one_new _ _ rfl _ _) (fun x hx => by simp at hx; subst hx; rfl) (by have := HLn.out; unfold maxLen; omega) (by have := HLn.out; omega) (by have := HO.out.2.size; simp; omega) ?_
             intro v5HOe w5HOe hown' hgrow hnil hat
             have HOe := hid (add_step (bytes_back s) HO.out hown' hgrow)
             clear hown' hgrow hnil hat))
        go_ret
        refine ⟨_, rfl, ?_, HOe.out.2⟩
        rw [HAd.out, ← HG.out]
        exact (names_owns HOe.out.1).1
end Go.Proofs.YtfmeldjkofoelaaGreatDoor

/- The names that stand free in a tree, as the specification finds them. -/
namespace Go.Proofs.YtfmeldjkofoelaaGreatDoor
open Go.RowKit Go.Deep

/-- The kids of a node from the one at i on. -/
def freeK (old : Nd) : Nat → Fo → List ByteArray → List Tx → List Tx
  | _, .none, _, out => out
  | i, .tree n k r, bd, out => freeK old (i + 1) r bd (if n.kind = 5 then (if memB (bd ++ knownZ old i) n.a then out else addL out n.a.data.toList) else freeK n 0 k (bd ++ knownZ old i) out)

/-- A tree. -/
def freeN (n : Nd) (k : Fo) (bd : List ByteArray) (out : List Tx) : List Tx := if n.kind = 5 then (if memB bd n.a then out else addL out n.a.data.toList) else freeK n 0 k bd out

theorem freeK_tree (old n : Nd) (k r : Fo) (i : Nat) (bd : List ByteArray) (out : List Tx) : freeK old i (.tree n k r) bd out = freeK old (i + 1) r bd (freeN n k (bd ++ knownZ old i) out) := by
  unfold freeN
  rw [freeK]

theorem insL_len (s : Tx) : ∀ l : List Tx, (insL l s).length = l.length + 1
  | [] => rfl
  | x :: r => by
    unfold insL
    split
    · rfl
    · rw [List.length_cons, insL_len s r, List.length_cons]

theorem addL_len (l : List Tx) (s : Tx) : (addL l s).length ≤ l.length + 1 := by
  unfold addL
  split
  · omega
  · rw [insL_len]
    exact Nat.le_refl _

theorem freeK_len : ∀ (f : Fo) (old : Nd) (i : Nat) (bd : List ByteArray) (out : List Tx), (freeK old i f bd out).length ≤ out.length + f.flat.length
  | .none, _, _, _, _ => by simp [freeK, Fo.flat]
  | .tree n k r, old, i, bd, out => by
    rw [freeK]
    have h1 := freeK_len r old (i + 1) bd (if n.kind = 5 then (if memB (bd ++ knownZ old i) n.a then out else addL out n.a.data.toList) else freeK n 0 k (bd ++ knownZ old i) out)
    have h2 := freeK_len k n 0 (bd ++ knownZ old i) out
    have h3 := addL_len out n.a.data.toList
    have h4 : (if n.kind = 5 then (if memB (bd ++ knownZ old i) n.a then out else addL out n.a.data.toList) else freeK n 0 k (bd ++ knownZ old i) out).length ≤ out.length + 1 + k.flat.length := by
      repeat' split
      all_goals omega
    simp only [Fo.flat, List.length_cons, List.length_append]
    omega

theorem freeN_len (n : Nd) (k : Fo) (bd : List ByteArray) (out : List Tx) : (freeN n k bd out).length ≤ out.length + 1 + k.flat.length := by
  have h2 := freeK_len k n 0 bd out
  have h3 := addL_len out n.a.data.toList
  unfold freeN
  repeat' split
  all_goals omega

set_option maxHeartbeats 4000000 in
set_option maxRecDepth 100000 in
theorem free_calls (b off cap : Nat) (ns : List Nd) (hm : ns.length ≤ 300) (hok : ∀ m ∈ ns, m.kind = 9 → m.kids ≤ 2) : ∀ (N : Nat) (n : Nd) (k : Fo) (suf : List Nd) (p : Nat) (bd : List ByteArray) (out : List Tx) (bv ov : Value) (w : World), b < w.heap.size → NodesAt w b off ns → ns.drop p = n :: (k.flat ++ suf) → n.kids = k.count → k.wf → k.flat.length < N → NamesV w bv bd → NamesV w ov (bys out) → bd.length + 2 * k.flat.length ≤ 1000 → out.length + k.flat.length ≤ 1000 →
    Calls Tryz.prog 18 #[.slice (some ⟨b, off, none⟩) ns.length cap, .int .i64 (p : Int), bv, ov] w fun e w' => ∃ u, e = .returned u ∧ NamesV w' u (bys (freeN n k bd out)) ∧ Below w.heap.size w w' := by
  intro N
  induction N with
  | zero => intro n k suf p bd out bv ov w _ _ _ _ _ h; omega
  | succ N ih =>
    intro n k suf p bd out bv ov w hbw hn hp hkc hk hN hbd hov hbl hol
    obtain ⟨hpl, hpn, hp1⟩ := at_drop hp
    have c0 := hn p hpl 0 (by omega)
    have c1 := hn p hpl 1 (by omega)
    have c2 := hn p hpl 2 (by omega)
    have c3 := hn p hpl 3 (by omega)
    have c4 := hn p hpl 4 (by omega)
    have c5 := hn p hpl 5 (by omega)
    rw [hpn] at c0 c1 c2 c3 c4 c5
    simp only [Nd.cell, Nat.add_zero] at c0 c1 c2 c3 c4 c5
    have HIH := hid ih
    have HN := hid hn
    have HM := hid hm
    have HP1 := hid hp1
    have HWf := hid hk
    have HNl := hid hN
    have HBd := hid hbd
    have HOv := hid hov
    have HLs := hid (And.intro hbl hol)
    have HK9 := hid (hok n (by rw [← List.take_append_drop p ns, hp]; simp))
    have HPl := hid hpl
    have HCt : Hid (k.count ≤ 1000) := by
      show _ ≤ _
      have := Fo.count_le k
      omega
    obtain ⟨ad3, cp3, rfl⟩ := hov.slice
    obtain ⟨ad2, cp2, rfl⟩ := hbd.slice
    obtain ⟨kd, num, a, bb, cc, kids⟩ := n
    dsimp only at *
    obtain ⟨kc, hkc'⟩ : ∃ kc, k.count = kc := ⟨_, rfl⟩
    rw [hkc'] at hkc
    have HKc := hid hkc'
    subst hkc
    obtain ⟨len, hlen⟩ : ∃ len, ns.length = len := ⟨_, rfl⟩
    have Hlen := hid hlen
    rw [hlen] at hpl ⊢
    have hpl2 : (p : Int) < (len : Int) := by omega
    have hp0 : (0 : Int) ≤ (p : Int) := by omega
    obtain ⟨bl, hbl2⟩ : ∃ bl, bd.length = bl := ⟨_, rfl⟩
    obtain ⟨ol, hol2⟩ : ∃ ol, (bys out).length = ol := ⟨_, rfl⟩
    rw [hbl2, hol2]
    rw [hbl2] at HBd
    rw [hol2] at HOv
    clear ih hn hm hp1 hk hN hbd hov hbl hol hp hpn hkc' hlen hok hbl2 hol2
    go_enter Tryz.func18, Tryz.ntmps18
    by_cases k5 : (kd == 5) = true
    · have hba := (Below.refl w.heap.size w).alloc (Nat.le_refl _) (.cells #[.int .i64 kd, .int .i64 num, .string a, .string bb, .string cc, .int .i64 (kc : Int)] 29)
      have HIn := hid (in_any a _ (HBd.out.below hba) (by have := HLs.out.1; omega))
      have HAd := hid (fun X (hb : Below w.heap.size w X) => add_calls a X (HOv.out.below hb) (by have := HLs.out.2; omega))
      have e5 := hid (show kd = 5 from eq_of_beq k5)
      have HBa := hid hba
      clear hba HIH
      go_wp2_with fail
      refine HIn.out.mono ?_
      rintro e w2 ⟨rfl, rfl⟩
      cases hmb : memB bd a with
      | true =>
        have HT : Hid (freeN ⟨kd, num, a, bb, cc, kc⟩ k bd out = out) := by
          show _ = _
          unfold freeN
          rw [if_pos e5.out, if_pos hmb]
        go_wp2_with fail
        go_ret
        refine ⟨_, rfl, ?_, HBa.out⟩
        rw [HT.out]
        exact HOv.out.below HBa.out
      | false =>
        have HT : Hid (freeN ⟨kd, num, a, bb, cc, kc⟩ k bd out = addL out a.data.toList) := by
          show _ = _
          unfold freeN
          rw [if_pos e5.out, if_neg (by rw [hmb]; decide)]
        go_wp2_with fail
        refine (HAd.out _ HBa.out).mono ?_
        rintro e w3 ⟨u, rfl, hu, hb3⟩
        have HU := hid (And.intro hu hb3)
        clear hu hb3
        go_wp2_with fail
        go_ret
        refine ⟨_, rfl, ?_, HBa.out.trans (HU.out.2.mono HBa.out.size)⟩
        rw [HT.out]
        exact HU.out.1
    · have hne5 := hid (show kd ≠ 5 from fun e => k5 (by rw [e]; rfl))
      obtain ⟨TG, hTG⟩ : ∃ TG, freeN ⟨kd, num, a, bb, cc, kc⟩ k bd out = TG := ⟨_, rfl⟩
      have HTG : Hid (freeK ⟨kd, num, a, bb, cc, kc⟩ 0 k bd out = TG) := by
        show _ = _
        rw [← hTG]
        unfold freeN
        rw [if_neg hne5.out]
      rw [hTG]
      clear hTG
      have hA := (MapKept.heap_alloc w (.cells #[.int .i64 kd, .int .i64 num, .string a, .string bb, .string cc, .int .i64 (kc : Int)] 29)).1
      have hba := (Below.refl w.heap.size w).alloc (Nat.le_refl _) (.cells #[.int .i64 kd, .int .i64 num, .string a, .string bb, .string cc, .int .i64 (kc : Int)] 29)
      have HA := hid (And.intro hA hba)
      clear hA hba
      go_wp2_with fail
      clear c0 c1 c2 c3 c4 c5
      generalize w.alloc (.cells #[.int .i64 kd, .int .i64 num, .string a, .string bb, .string cc, .int .i64 (kc : Int)] 29) = wA at *
      rw [wrap_succ (by have := HPl.out; have := HM.out; omega)]
      generalize p + 1 = p1 at *
      go_loopw [3, 10, 11] (fun o q i wr => ∃ (q' i' : Nat) (r : Fo) (ot : List Tx), q = .int .i64 q' ∧ i = .int .i64 i' ∧ Hid (ns.drop q' = r.flat ++ suf ∧ r.wf ∧ i' + r.count = kc ∧ r.flat.length < N + 1 ∧ r.flat.length ≤ k.flat.length ∧ freeK ⟨kd, num, a, bb, cc, kc⟩ i' r bd ot = TG ∧ ot.length + r.flat.length ≤ 1000) ∧ Hid (NamesV wr o (bys ot)) ∧ Hid (Below wA.heap.size wA wr)) (fun _ _ i _ => kc - (intOf i).toNat)
      case atStart => exact ⟨p1, 0, k, out, rfl, rfl, ⟨HP1.out, HWf.out, by rw [HKc.out]; omega, HNl.out, Nat.le_refl _, HTG.out, by have := HLs.out.2; omega⟩, HOv.out.below HA.out.2, Below.refl _ _⟩
      case round =>
        obtain ⟨q', i', r, ot, rfl, rfl, HR, HOt, HB⟩ := hrel
        have hx := (HB.out.block _ (heap_lt HA.out.1)).trans HA.out.1
        have c0 := cell_of_heap hx 0
        have c1 := cell_of_heap hx 1
        have c2 := cell_of_heap hx 2
        have c3 := cell_of_heap hx 3
        have c4 := cell_of_heap hx 4
        have c5 := cell_of_heap hx 5
        simp at c0 c1 c2 c3 c4 c5
        have HX := hid hx
        clear hx
        cases r with
        | none =>
          obtain ⟨_, _, h1, _, _, h2, _⟩ := HR.out
          simp only [Fo.count, freeK] at h1 h2
          have h1' : i' = kc := by omega
          subst h1'
          subst h2
          clear HR h1
          go_wp2_with fail
          go_ret
          exact ⟨_, rfl, HOt.out, HA.out.2.trans (HB.out.mono HA.out.2.size)⟩
        | tree n' k' r' =>
          obtain ⟨h0, hw, h1, h3, h3', h4, h5⟩ := HR.out
          obtain ⟨hw0, hw1, hw2⟩ := hw
          simp only [Fo.count, Fo.flat, List.length_cons, List.length_append] at h1 h3 h3' h5
          simp only [Fo.flat, List.cons_append, List.append_assoc] at h0
          obtain ⟨hql, hqn, hq1⟩ := at_drop h0
          have hend : treeEnd ns q' = _ := treeEnd_at h0 hw0 hw1
          have hnew := drop_past hq1
          rw [freeK_tree] at h4
          have hi : (i' : Int) < (kc : Int) := by omega
          have hfl := freeN_len n' k' (bd ++ knownZ ⟨kd, num, a, bb, cc, kc⟩ i') ot
          have HNx : Hid (ns.drop (q' + 1 + k'.flat.length) = r'.flat ++ suf ∧ r'.wf ∧ i' + 1 + r'.count = kc ∧ r'.flat.length < N + 1 ∧ r'.flat.length ≤ k.flat.length ∧ freeK ⟨kd, num, a, bb, cc, kc⟩ (i' + 1) r' bd (freeN n' k' (bd ++ knownZ ⟨kd, num, a, bb, cc, kc⟩ i') ot) = TG ∧ (freeN n' k' (bd ++ knownZ ⟨kd, num, a, bb, cc, kc⟩ i') ot).length + r'.flat.length ≤ 1000) := ⟨hnew, hw2, by omega, by omega, by omega, h4, by omega⟩
          have hkl := knownZ_len ⟨kd, num, a, bb, cc, kc⟩ i'
          have HC := hid (fun (X : World) (bv ov : Value) (h1 : b < X.heap.size) (h2 : NodesAt X b off ns) (h3 : NamesV X bv (bd ++ knownZ ⟨kd, num, a, bb, cc, kc⟩ i')) (h4 : NamesV X ov (bys ot)) => HIH.out n' k' (r'.flat ++ suf) q' (bd ++ knownZ ⟨kd, num, a, bb, cc, kc⟩ i') ot bv ov X h1 h2 h0 hw0 hw1 (by omega) h3 h4 (by rw [List.length_append]; have := HLs.out.1; omega) (by omega))
          have HQ := hid (And.intro hql hend)
          have HBi := hid (fun X => binds_calls ⟨kd, num, a, bb, cc, kc⟩ i' X (fun e => by have := HK9.out e; omega))
          unfold ndV at HBi
          dsimp only at HBi
          have HKl : Hid (bd.length + (knownZ ⟨kd, num, a, bb, cc, kc⟩ i').length ≤ 2000) := by show _ ≤ _; have := HLs.out.1; omega
          clear HR h0 hw0 hw1 hw2 hql hqn hq1 hend hnew h4 h1 h3 h3' h5 hfl hkl
          obtain ⟨ad5, cp5, ho5⟩ := HOt.out.slice
          rw [Hlen.out] at HC
          subst ho5
          have hS : Below wr.heap.size wr wr.drew := (Below.refl _ _).drew
          have q0 := fun (y : World) (h : Below wr.heap.size wr y) => (h.cell (p := ⟨w.heap.size, 0, none⟩) (heap_lt HX.out)).trans c0
          have q1 := fun (y : World) (h : Below wr.heap.size wr y) => (h.cell (p := ⟨w.heap.size, 1, none⟩) (heap_lt HX.out)).trans c1
          have q2 := fun (y : World) (h : Below wr.heap.size wr y) => (h.cell (p := ⟨w.heap.size, 2, none⟩) (heap_lt HX.out)).trans c2
          have q3 := fun (y : World) (h : Below wr.heap.size wr y) => (h.cell (p := ⟨w.heap.size, 3, none⟩) (heap_lt HX.out)).trans c3
          have q4 := fun (y : World) (h : Below wr.heap.size wr y) => (h.cell (p := ⟨w.heap.size, 4, none⟩) (heap_lt HX.out)).trans c4
          have q5 := fun (y : World) (h : Below wr.heap.size wr y) => (h.cell (p := ⟨w.heap.size, 5, none⟩) (heap_lt HX.out)).trans c5
          go_upto_region 1 with fail
          refine pick_begin (S := fun w' => Below wr.heap.size wr w') (by kernel_rfl) rfl rfl ?_
          refine pick_op (i := 0) (v := .slice (some ⟨b, off, none⟩) len cap) (by kernel_rfl) rfl (by kernel_rfl) (by kernel_rfl) rfl rfl (fun w' hw' => by simp [go_sem]) hS (by simp [go_sem]; exact rfl) ?_
          refine pick_op (i := 1) (v := .int .i64 (q' : Int)) (by kernel_rfl) rfl (by kernel_rfl) (by kernel_rfl) rfl rfl (fun w' hw' => by simp [go_sem]) hS (by simp [go_sem]; exact rfl) ?_
          refine pick_op (i := 3) (v := .slice ad2 bl cp2) (by kernel_rfl) rfl (by kernel_rfl) (by kernel_rfl) rfl rfl (fun w' hw' => by simp [go_sem]) hS (by simp [go_sem]; exact rfl) ?_
          refine pick_op (i := 5) (v := .agg #[.int .i64 kd, .int .i64 num, .string a, .string bb, .string cc, .int .i64 (kc : Int)]) (by kernel_rfl) rfl (by kernel_rfl) (by kernel_rfl) rfl rfl (fun w' hw' => by simp [go_sem, q0 w' hw', q1 w' hw', q2 w' hw', q3 w' hw', q4 w' hw', q5 w' hw']) hS (by simp [go_sem]; exact rfl) ?_
          refine pick_op (i := 6) (v := .int .i64 (i' : Int)) (by kernel_rfl) rfl (by kernel_rfl) (by kernel_rfl) rfl rfl (fun w' hw' => by simp [go_sem]) hS (by simp [go_sem]; exact rfl) ?_
          refine pick_op (i := 9) (v := .slice ad5 (bys ot).length cp5) (by kernel_rfl) rfl (by kernel_rfl) (by kernel_rfl) rfl rfl (fun w' hw' => by simp [go_sem]) hS (by simp [go_sem]; exact rfl) ?_
          refine pick_make (i := 2) (v := .slice (some ⟨wr.heap.size, 0, none⟩) 0 0) (w1 := wr.drew.alloc (.cells #[] 9)) rfl (by kernel_rfl) rfl rfl (by simp [go_sem]) (hS.alloc (Nat.le_refl _) _) (by simp [go_sem]; exact rfl) ?_
          clear c0 c1 c2 c3 c4 c5 q0 q1 q2 q3 q4 q5
          have hX0 := hS.alloc (Nat.le_refl _) (.cells #[] 9)
          have hown0 : (wr.drew.alloc (.cells #[] 9)).ownsRow wr.heap.size 9 1 (.slice (some ⟨wr.heap.size, 0, none⟩) 0 0) 0 (strRow []) := World.ownsRow_made wr.drew #[] 0 (Nat.le_refl _) (Nat.zero_le _) rfl
          generalize wr.drew.alloc (.cells #[] 9) = X0 at *
          have HBdr := hid ((HBd.out.below HA.out.2).below HB.out)
          obtain ⟨v1, X1, hrun1, hown1, hg1, -⟩ := app_names (ss := []) (ys := bd) 25 hown0 (HBdr.out.below hX0) (by have := HKl.out; simp; omega) hX0.size
          have hX1 : Below wr.heap.size wr X1 := Below.grown hX0 hg1 hX0.size (fun j hj => (hown0.lt _ hj).1)
          refine pick_make (i := 4) (v := v1) (w1 := X1) rfl (by kernel_rfl) rfl rfl (append_run (s := .tmp 38) (x := .tmp 39) (t := 25) rfl rfl rfl hrun1) hX1 (by simp [go_sem]; exact rfl) ?_
          rw [List.nil_append] at hown1
          clear hrun1 hg1 hown0 hX0
          refine pick_enter (i := 7) (f := 37) (args := #[.agg #[.int .i64 kd, .int .i64 num, .string a, .string bb, .string cc, .int .i64 (kc : Int)], .int .i64 (i' : Int)]) rfl (by kernel_rfl) rfl rfl (by simp [go_sem]) ?_
          refine (HBi.out X1).mono ?_
          rintro e X2 ⟨sv, rfl, hnv, hb2⟩
          have hX2 := hX1.trans (hb2.mono hX1.size)
          refine ⟨sv, rfl, hX2, ?_⟩
          refine pick_frame (by simp [go_sem]; exact rfl) ?_
          have hown2 := owns_below hown1 hb2
          obtain ⟨v3, X3, hrun3, hown3, hg3, -⟩ := app_names 25 hown2 hnv (by have := HKl.out; omega) (Nat.le_trans hX1.size hb2.size)
          have hX3 : Below wr.heap.size wr X3 := Below.grown hX2 hg3 hX2.size (fun j hj => (hown2.lt _ hj).1)
          refine pick_make (i := 8) (v := v3) (w1 := X3) rfl (by kernel_rfl) rfl rfl (append_run (s := .tmp 40) (x := .tmp 43) (t := 25) rfl rfl rfl hrun3) hX3 (by simp [go_sem]; exact rfl) ?_
          clear hrun3 hg3 hown1 hown2 hnv hb2 hX2 hX1
          have hw3 := HA.out.2.trans ((HB.out.trans (hX3.mono HB.out.size)).mono HA.out.2.size)
          refine pick_enter (i := 10) (f := 18) (args := #[.slice (some ⟨b, off, none⟩) len cap, .int .i64 (q' : Int), v3, .slice ad5 (bys ot).length cp5]) rfl (by kernel_rfl) rfl rfl (by simp [go_sem]) ?_
          refine (HC.out X3 v3 _ (by have := hw3.size; omega) (HN.out.below hw3 hbw) (names_owns hown3).1 (HOt.out.below hX3)).mono ?_
          rintro e X4 ⟨u, rfl, hu, hb4⟩
          have hX4 := hX3.trans (hb4.mono hX3.size)
          refine ⟨u, rfl, hX4, ?_⟩
          refine pick_frame (by simp [go_sem]; exact rfl) ?_
          refine pick_make (i := 11) (v := u) (w1 := X4) rfl (by kernel_rfl) rfl rfl (by simp [go_sem]) hX4 (by simp [go_sem]; exact rfl) ?_
          refine pick_end (by kernel_rfl) ?_
          have hw4 := HB.out.trans (hX4.mono HB.out.size)
          have hw5 := HA.out.2.trans (hw4.mono HA.out.2.size)
          have hT := specEnd_calls b off cap ns q' X4 (HN.out.below hw5 hbw) (by have := HM.out; omega)
          rw [HQ.out.2, Hlen.out] at hT
          have HT := hid hT
          have HU := hid (And.intro hu hw4)
          clear hT hu hb4 hw3 hX3 hX4 hw4 hw5 hown3 HC HBi hS
          have hi9 : i' ≤ 1048576 := by have := HNx.out.2.2.1; have := HKc.out; have := HCt.out; omega
          generalize q' + 1 + k'.flat.length = ee at *
          go_wp2_with fail
          refine HT.out.mono ?_
          rintro e w6 ⟨rfl, rfl⟩
          go_wp2_with fail
          try rw [wrap_succ hi9]
          exact ⟨⟨ee, i' + 1, r', _, rfl, rfl, HNx, HU.out.1, HU.out.2⟩, lt_step hi⟩
end Go.Proofs.YtfmeldjkofoelaaGreatDoor

/- The specification's TreeFree: the names that the program's walk finds free, each once, sorted. -/
namespace Go.Proofs.YtfmeldjkofoelaaGreatDoor
open Go.RowKit Go.Deep

/-- A name's node bears no kids. -/
def leaf5 : Fo → Prop
  | .none => True
  | .tree n k r => (n.kind = 5 → k = .none) ∧ leaf5 k ∧ leaf5 r

theorem leaf5_of : ∀ (f : Fo), f.wf → (∀ m ∈ f.flat, m.kind = 5 → m.kids = 0) → leaf5 f
  | .none, _, _ => trivial
  | .tree n k r, hw, h => by
    obtain ⟨h1, h2, h3⟩ := hw
    refine ⟨fun e => ?_, leaf5_of k h2 (fun m hm => h m (by simp [Fo.flat, hm])), leaf5_of r h3 (fun m hm => h m (by simp [Fo.flat, hm]))⟩
    have h0 := h n (by simp [Fo.flat]) e
    cases k with
    | none => rfl
    | tree n' k' r' =>
      simp only [Fo.count] at h1
      omega

theorem findS_open : ∀ (xs ys : List ByteArray) (sc : Sco) (x : ByteArray), xs.length = ys.length → (findS ((xs.zip ys).foldl (fun s p => p :: s) sc) x ≠ none ↔ x ∈ xs ∨ findS sc x ≠ none)
  | [], ys, sc, x, _ => by simp
  | a :: xs, [], sc, x, h => by simp at h
  | a :: xs, b :: ys, sc, x, h => by
    rw [List.zip_cons_cons, List.foldl_cons, findS_open xs ys ((a, b) :: sc) x (by simpa using h), List.mem_cons]
    by_cases e : a = x
    · subst e
      simp [findS]
    · simp only [findS, if_neg e]
      constructor
      · rintro (h | h)
        · exact Or.inl (Or.inr h)
        · exact Or.inr h
      · rintro ((h | h) | h)
        · exact absurd h.symm e
        · exact Or.inl h
        · exact Or.inr h

theorem texts_app (a b : List ByteArray) : textsOf (a ++ b) = textsOf a ++ textsOf b := by unfold textsOf; rw [List.map_append]

theorem free_pure : ∀ (f : Fo) (old new : Nd) (i : Nat) (bd : List ByteArray) (sc : Sco) (s : Wst), leaf5 f → old.kind = new.kind → (∀ x, x ∈ bd ↔ findS sc x ≠ none) → freeK old i f bd ((textsOf s.free).foldl addL []) = (textsOf (kidsW old new i f sc s).free).foldl addL []
  | .none, _, _, _, _, _, _, _, _, _ => rfl
  | .tree n k r, old, new, i, bd, sc, s, hl, hk, hb => by
    obtain ⟨h1, h2, h3⟩ := hl
    have hb2 : ∀ x, x ∈ bd ++ knownZ old i ↔ findS (openS old new i sc) x ≠ none := fun x => by
      unfold openS
      rw [findS_open _ _ _ _ (knownZ_same hk i), List.mem_append, ← hb x, or_comm]
    rw [freeK, kidsW, ← free_pure r old new (i + 1) bd sc _ h3 hk hb]
    congr 1
    by_cases e : n.kind = 5
    · rw [if_pos e, h1 e]
      simp only [kidsW, stepW]
      unfold lostZ
      by_cases hf : findS (openS old new i sc) n.a = none
      · rw [if_neg (by rw [memB_iff, hb2]; exact fun h => h hf), if_pos ⟨e, hf⟩, texts_app, List.foldl_append]
        rfl
      · rw [if_pos (by rw [memB_iff, hb2]; exact hf), if_neg (fun h => hf h.2), List.append_nil]
    · rw [if_neg e, ← free_pure k n _ 0 _ _ _ h2 (renZ_kind _ _ _).symm hb2]
      congr 1
      unfold stepW lostZ
      rw [if_neg (fun h => e h.1)]
      simp

theorem free_whole (n : Nd) (k : Fo) (hl : leaf5 (.tree n k .none)) : freeN n k [] [] = freeOf (wholeW n k) := by
  obtain ⟨h1, h2, -⟩ := hl
  unfold freeN freeOf wholeW walkW
  by_cases e : n.kind = 5
  · rw [if_pos e, h1 e, if_neg (by rw [memB_iff]; simp)]
    simp only [kidsW, stepW, lostZ, findS]
    rw [if_pos ⟨e, trivial⟩]
    rfl
  · rw [if_neg e, ← free_pure k n _ 0 [] [] _ h2 (renZ_kind _ _ _).symm (fun x => by simp [findS])]
    congr 1
    unfold stepW lostZ
    rw [if_neg (fun h => e h.1)]
    rfl

theorem own_kids {m : Nd} (h : ownOk m = true) : (m.kind = 9 → m.kids ≤ 2) ∧ (m.kind = 5 → m.kids = 0) := by
  simp only [ownOk, Bool.and_eq_true] at h
  have hk := h.1
  constructor
  · intro e
    rw [e] at hk
    have : m.kids = 2 := of_decide_eq_true hk
    omega
  · intro e
    rw [e] at hk
    exact of_decide_eq_true hk

set_option maxRecDepth 100000 in
theorem specFree_calls {b off cap : Nat} {ns : List Nd} {n : Nd} {k : Fo} (w : World) (hm : ns.length ≤ 300) (hbw : b < w.heap.size) (hn : NodesAt w b off ns) (hA : SpecAns ns true) (hall : ns.all ownOk = true) (h1 : ns = n :: k.flat) (h2 : n.kids = k.count) (h3 : k.wf) :
    Calls Tryz.prog 7 #[.slice (some ⟨b, off, none⟩) ns.length cap] w fun e w' => ∃ u, e = .returned u ∧ NamesV w' u (bys (freeOf (wholeW n k))) ∧ Below w.heap.size w w' := by
  have HT := hid (specTree_calls b off cap ns w true (by omega) hbw hn hA)
  have hown : ∀ m ∈ ns, ownOk m = true := fun m hm => List.all_eq_true.1 hall m hm
  have hl : leaf5 (.tree n k .none) := leaf5_of _ ⟨h2, h3, trivial⟩ (fun m hm => (own_kids (hown m (by rw [h1]; simpa [Fo.flat] using hm))).2)
  have hkl : k.flat.length ≤ 300 := by rw [h1, List.length_cons] at hm; omega
  have HF := hid (fun X (hb : Below w.heap.size w X) => free_calls b off cap ns hm (fun m hm => (own_kids (hown m hm)).1) (k.flat.length + 1) n k [] 0 [] [] _ _ X (by have := hb.size; omega) (hn.below hb hbw) (by rw [h1]; simp) h2 h3 (Nat.lt_succ_self _) (names_none X) (names_none X) (by simp; omega) (by simp; omega))
  rw [← free_whole n k hl]
  clear hn hA hall hown hl hkl hm
  generalize ns.length = len at *
  go_enter Tryz.func7, Tryz.ntmps7
  go_wp2_with fail
  refine HT.out.mono ?_
  rintro e w2 ⟨rfl, hb2⟩
  go_wp2_with fail
  refine (HF.out w2 hb2).mono ?_
  rintro e w3 ⟨u, rfl, hu, hb3⟩
  have HU := hid (And.intro hu (hb2.trans (hb3.mono hb2.size)))
  clear hu hb3
  go_wp2_with fail
  go_ret
  exact ⟨_, rfl, HU.out.1, HU.out.2⟩

set_option maxRecDepth 100000 in
theorem specFree_bad {b off cap : Nat} {ns : List Nd} (w : World) (hm : ns.length ≤ 1048576) (hbw : b < w.heap.size) (hn : NodesAt w b off ns) (hA : SpecAns ns false) :
    Calls Tryz.prog 7 #[.slice (some ⟨b, off, none⟩) ns.length cap] w fun e w' => e = .returned (.slice none 0 0) ∧ Below w.heap.size w w' := by
  have HT := hid (specTree_calls b off cap ns w false hm hbw hn hA)
  clear hm hbw hn hA
  generalize ns.length = len at *
  go_enter Tryz.func7, Tryz.ntmps7
  go_wp2_with fail
  refine HT.out.mono ?_
  rintro e w2 ⟨rfl, hb2⟩
  go_wp2_with fail
  go_ret
  exact ⟨rfl, hb2⟩
end Go.Proofs.YtfmeldjkofoelaaGreatDoor

/- What is put behind a let of a name: the name is no more free in it. -/
namespace Go.Proofs.YtfmeldjkofoelaaGreatDoor
open Go.RowKit Go.Deep

theorem text_inj {a b : ByteArray} (h : a.data.toList = b.data.toList) : a = b := by
  cases a
  cases b
  congr 1
  exact Array.toList_inj.1 h

/-- One name more is bound. -/
theorem freeN_less_of (x : ByteArray) (n : Nd) (k : Fo) (bd bd' : List ByteArray) (out out' : List Tx) (hb : ∀ z, z ∈ bd' ↔ z ∈ bd ∨ z = x) (ho : ∀ y, y ∈ out' ↔ y ∈ out ∧ y ≠ x.data.toList) (hk : ∀ y, y ∈ freeK n 0 k bd' out' ↔ y ∈ freeK n 0 k bd out ∧ y ≠ x.data.toList) (y : Tx) : y ∈ freeN n k bd' out' ↔ y ∈ freeN n k bd out ∧ y ≠ x.data.toList := by
  unfold freeN
  by_cases e : n.kind = 5
  · rw [if_pos e, if_pos e]
    by_cases h1 : n.a ∈ bd
    · rw [if_pos ((memB_iff _ _).2 h1), if_pos ((memB_iff _ _).2 ((hb _).2 (Or.inl h1)))]
      exact ho y
    · rw [if_neg (fun h => h1 ((memB_iff _ _).1 h))]
      by_cases h2 : n.a = x
      · rw [if_pos ((memB_iff _ _).2 ((hb _).2 (Or.inr h2))), mem_addL, h2, ho y]
        constructor
        · exact fun h => ⟨Or.inr h.1, h.2⟩
        · rintro ⟨h | h, h3⟩
          · exact absurd h h3
          · exact ⟨h, h3⟩
      · rw [if_neg (fun h => ((hb _).1 ((memB_iff _ _).1 h)).elim h1 h2), mem_addL, mem_addL, ho y]
        constructor
        · rintro (h | h)
          · exact ⟨Or.inl h, fun e2 => h2 (text_inj (h.symm.trans e2))⟩
          · exact ⟨Or.inr h.1, h.2⟩
        · rintro ⟨h | h, h3⟩
          · exact Or.inl h
          · exact Or.inr ⟨h, h3⟩
  · rw [if_neg e, if_neg e]
    exact hk y

theorem freeK_less (x : ByteArray) : ∀ (f : Fo) (old : Nd) (i : Nat) (bd bd' : List ByteArray) (out out' : List Tx), (∀ z, z ∈ bd' ↔ z ∈ bd ∨ z = x) → (∀ y, y ∈ out' ↔ y ∈ out ∧ y ≠ x.data.toList) → ∀ (y : Tx), y ∈ freeK old i f bd' out' ↔ y ∈ freeK old i f bd out ∧ y ≠ x.data.toList
  | .none, old, i, bd, bd', out, out', _, ho, y => by
    rw [freeK, freeK]
    exact ho y
  | .tree n k r, old, i, bd, bd', out, out', hb, ho, y => by
    rw [freeK_tree, freeK_tree]
    have hb2 : ∀ z, z ∈ bd' ++ knownZ old i ↔ z ∈ bd ++ knownZ old i ∨ z = x := fun z => by
      rw [List.mem_append, List.mem_append, hb]
      constructor
      · rintro ((h | h) | h)
        · exact Or.inl (Or.inl h)
        · exact Or.inr h
        · exact Or.inl (Or.inr h)
      · rintro ((h | h) | h)
        · exact Or.inl (Or.inl h)
        · exact Or.inr h
        · exact Or.inl (Or.inr h)
    exact freeK_less x r old (i + 1) bd bd' _ _ hb (fun z => freeN_less_of x n k _ _ _ _ hb2 ho (freeK_less x k n 0 _ _ _ _ hb2 ho) z) y

theorem freeK_sorted : ∀ (f : Fo) (old : Nd) (i : Nat) (bd : List ByteArray) (out : List Tx), out.Pairwise (· < ·) → (freeK old i f bd out).Pairwise (· < ·)
  | .none, old, i, bd, out, h => by
    rw [freeK]
    exact h
  | .tree n k r, old, i, bd, out, h => by
    rw [freeK]
    refine freeK_sorted r old (i + 1) bd _ ?_
    split
    · split
      · exact h
      · exact addL_sorted h _
    · exact freeK_sorted k n 0 _ out h

theorem freeN_sorted (n : Nd) (k : Fo) (bd : List ByteArray) (out : List Tx) (h : out.Pairwise (· < ·)) : (freeN n k bd out).Pairwise (· < ·) := by
  unfold freeN
  split
  · split
    · exact h
    · exact addL_sorted h _
  · exact freeK_sorted k n 0 bd out h

theorem less_eq (x : ByteArray) (n : Nd) (k : Fo) : freeN n k [x] [] = (freeN n k [] []).filter (fun y => decide (y ≠ x.data.toList)) := by
  refine sorted_one _ _ (freeN_sorted n k _ _ List.Pairwise.nil) ((freeN_sorted n k _ _ List.Pairwise.nil).filter _) (fun y => ?_)
  rw [List.mem_filter, decide_eq_true_eq]
  exact freeN_less_of x n k [] [x] [] [] (fun z => by simp) (fun y => by simp) (freeK_less x k n 0 [] [x] [] [] (fun z => by simp) (fun y => by simp)) y

/-- A let of a name ahead of a tree. -/
def letN (x : ByteArray) : Nd := ⟨8, 0, x, ⟨#[]⟩, ⟨#[]⟩, 2⟩
def unitN : Nd := ⟨3, 0, ⟨#[]⟩, ⟨#[]⟩, ⟨#[]⟩, 0⟩

theorem free_let (x : ByteArray) (n : Nd) (k : Fo) : freeN (letN x) (.tree unitN .none (.tree n k .none)) [] [] = (freeN n k [] []).filter (fun y => decide (y ≠ x.data.toList)) := by
  rw [← less_eq]
  unfold freeN letN
  rw [if_neg (by simp), freeK_tree, freeK_tree, freeK]
  have h1 : knownZ ⟨8, 0, x, ⟨#[]⟩, ⟨#[]⟩, 2⟩ 0 = [] := by simp [knownZ]
  have h2 : knownZ ⟨8, 0, x, ⟨#[]⟩, ⟨#[]⟩, 2⟩ (0 + 1) = [x] := by simp [knownZ]
  rw [h1, h2]
  unfold freeN unitN
  simp [freeK]
end Go.Proofs.YtfmeldjkofoelaaGreatDoor

/- The names that stand free in a tree, told, wherever the tree lies; and whether it is a tree. -/
namespace Go.Proofs.YtfmeldjkofoelaaGreatDoor
open Go.RowKit Go.Deep

/-- A slice of nodes in a block, or none. -/
def TreeW (W : World) (v : Value) (ns : List Nd) : Prop :=
  (v = .slice none 0 0 ∧ ns = []) ∨ ∃ b off cap, v = .slice (some ⟨b, off, none⟩) ns.length cap ∧ b < W.heap.size ∧ NodesAt W b off ns

theorem TreeW.below {W W' : World} {v : Value} {ns : List Nd} (h : TreeW W v ns) (hb : Below W.heap.size W W') : TreeW W' v ns := by
  rcases h with h | ⟨b, off, cap, e, hbl, hn⟩
  · exact Or.inl h
  · exact Or.inr ⟨b, off, cap, e, Nat.lt_of_lt_of_le hbl hb.size, hn.below hb hbl⟩

theorem TreeW.is {W : World} {v : Value} {ns : List Nd} (h : TreeW W v ns) : ∃ ad cap, v = .slice ad ns.length cap := by
  rcases h with ⟨rfl, rfl⟩ | ⟨b, off, cap, rfl, -⟩
  · exact ⟨none, 0, rfl⟩
  · exact ⟨_, _, rfl⟩

set_option maxRecDepth 100000 in
theorem specOk_nil (w : World) : Calls Tryz.prog 9 #[.slice none 0 0] w fun e w' => e = .returned (.bool false) ∧ Below w.heap.size w w' := by
  go_enter Tryz.func9, Tryz.ntmps9
  go_wp2_with fail
  go_ret
  exact ⟨rfl, Below.refl _ _⟩

set_option maxRecDepth 100000 in
theorem implOk_nil (w : World) : Calls Tryz.prog 8 #[.slice none 0 0] w fun e w' => e = .returned (.bool false) ∧ Below w.heap.size w w' := by
  go_enter Tryz.func8, Tryz.ntmps8
  go_wp2_with fail
  go_ret
  exact ⟨rfl, Below.refl _ _⟩

theorem spec_empty {R : Bool} (h : SpecAns [] R) : R = false := by
  rcases h with ⟨-, h⟩ | ⟨-, -, -, h⟩ | ⟨h, -⟩
  · exact h
  · exact h
  · simp at h

theorem impl_empty {R : Bool} (h : ImplAns [] R) : R = false := by
  rcases h with ⟨-, h⟩ | ⟨-, -, -, h⟩ | ⟨h, -⟩
  · exact h
  · exact h
  · simp at h

theorem specOk_at {W : World} {v : Value} {ns : List Nd} {R : Bool} (h : TreeW W v ns) (hm : ns.length ≤ 1048576) (hA : SpecAns ns R) : Calls Tryz.prog 9 #[v] W fun e W' => e = .returned (.bool R) ∧ Below W.heap.size W W' := by
  rcases h with ⟨rfl, rfl⟩ | ⟨b, off, cap, rfl, hb, hn⟩
  · rw [spec_empty hA]
    exact specOk_nil W
  · exact specTree_calls b off cap ns W R hm hb hn hA

theorem implOk_at {W : World} {v : Value} {ns : List Nd} {R : Bool} (h : TreeW W v ns) (hm : ns.length ≤ 1048576) (hs : Short ns) (hA : ImplAns ns R) : Calls Tryz.prog 8 #[v] W fun e W' => e = .returned (.bool R) ∧ Below W.heap.size W W' := by
  rcases h with ⟨rfl, rfl⟩ | ⟨b, off, cap, rfl, hb, hn⟩
  · rw [impl_empty hA]
    exact implOk_nil W
  · exact implTree_calls b off cap ns W R hm hb hn hs hA

set_option maxRecDepth 100000 in
theorem specFree_nil (w : World) : Calls Tryz.prog 7 #[.slice none 0 0] w fun e w' => e = .returned (.slice none 0 0) ∧ Below w.heap.size w w' := by
  go_enter Tryz.func7, Tryz.ntmps7
  go_wp2_with fail
  refine (specOk_nil w).mono ?_
  rintro e w2 ⟨rfl, hb2⟩
  go_wp2_with fail
  go_ret
  exact ⟨rfl, hb2⟩

set_option maxRecDepth 100000 in
theorem implFree_nil (w : World) : Calls Tryz.prog 5 #[.slice none 0 0] w fun e w' => e = .returned (.slice none 0 0) ∧ Below w.heap.size w w' := by
  go_enter Tryz.func5, Tryz.ntmps5
  go_wp2_with fail
  refine (implOk_nil w).mono ?_
  rintro e w2 ⟨rfl, hb2⟩
  go_wp2_with fail
  go_ret
  exact ⟨rfl, hb2⟩

theorem names_free {B : Nat} {w : World} {v : Value} {l : List Tx} (h : w.ownsRow B 9 1 v l.length (l.map encStr)) : NamesV w v (bys l) := by
  have e : l.map encStr = strRow (bys l) := by
    unfold strRow bys
    rw [List.map_map]
    rfl
  rw [e] at h
  exact (names_owns h).1

/-- What is told of a list of nodes. -/
structure Told (ns : List Nd) (R : Bool) (l : List Tx) : Prop where
  sans : SpecAns ns R
  ians : ImplAns ns R
  len : l.length ≤ 1000
  bad : R = false → l = []
  good : R = true → ∃ n k, ns = n :: k.flat ∧ n.kids = k.count ∧ k.wf ∧ ns.length ≤ 300 ∧ l = freeN n k [] []
  spec : ∀ (W : World) (v : Value), TreeW W v ns → Calls Tryz.prog 7 #[v] W fun e W' => ∃ u, e = .returned u ∧ NamesV W' u (bys l) ∧ Below W.heap.size W W'
  impl : ∀ (W : World) (v : Value), TreeW W v ns → Laid W → Calls Tryz.prog 5 #[v] W fun e W' => ∃ u, e = .returned u ∧ NamesV W' u (bys l) ∧ Below W.heap.size W W'

theorem told (ns : List Nd) (hm : ns.length ≤ 1048576) (hs : Short ns) : ∃ R l, Told ns R l := by
  obtain ⟨R, hSA, hIA⟩ := answers ns
  cases R with
  | false =>
    refine ⟨false, [], hSA, hIA, Nat.zero_le _, fun _ => rfl, (fun h => by cases h), fun W v hv => ?_, fun W v hv _ => ?_⟩
    · rcases hv with ⟨rfl, rfl⟩ | ⟨b, off, cap, rfl, hb, hn⟩
      · refine (specFree_nil W).mono ?_
        rintro e W' ⟨rfl, hB⟩
        exact ⟨_, rfl, names_none _, hB⟩
      · refine (specFree_bad W hm hb hn hSA).mono ?_
        rintro e W' ⟨rfl, hB⟩
        exact ⟨_, rfl, names_none _, hB⟩
    · rcases hv with ⟨rfl, rfl⟩ | ⟨b, off, cap, rfl, hb, hn⟩
      · refine (implFree_nil W).mono ?_
        rintro e W' ⟨rfl, hB⟩
        exact ⟨_, rfl, names_none _, hB⟩
      · refine (implFree_bad W hm hb hn hs hIA).mono ?_
        rintro e W' ⟨rfl, hB⟩
        exact ⟨_, rfl, names_none _, hB⟩
  | true =>
    have hI := hIA
    have hS := hSA
    rcases hI with ⟨_, h⟩ | ⟨_, _, _, h⟩ | ⟨h1, h2, n, k, e1, e2, e3, hR⟩
    · cases h
    · cases h
    have hall : ns.all nodeOkZ = true := by
      have := hR.symm
      simp only [Bool.and_eq_true] at this
      exact this.1
    have hown : ns.all ownOk = true := by
      rcases hS with ⟨_, h⟩ | ⟨_, _, _, h⟩ | ⟨_, _, _, _, _, _, _, h⟩
      · cases h
      · cases h
      · have := h.symm
        simp only [Bool.and_eq_true] at this
        exact this.1
    have h5 : ∀ m ∈ ns, ownOk m = true := fun m hm => List.all_eq_true.1 hown m hm
    have hfw := free_whole n k (leaf5_of _ ⟨e2, e3, trivial⟩ (fun m hm => (own_kids (h5 m (by rw [e1]; simpa [Fo.flat] using hm))).2))
    have hl : (freeN n k [] []).length ≤ 1000 := by
      have := freeN_len n k [] []
      rw [e1, List.length_cons] at h2
      simp at this
      omega
    have hne : ∀ v W, TreeW W v ns → ∃ b off cap, v = .slice (some ⟨b, off, none⟩) ns.length cap ∧ b < W.heap.size ∧ NodesAt W b off ns := fun v W h => by
      rcases h with ⟨rfl, rfl⟩ | h
      · simp at h1
      · exact h
    refine ⟨true, freeN n k [] [], hSA, hIA, hl, (fun h => by cases h), fun _ => ⟨n, k, e1, e2, e3, h2, rfl⟩, fun W v hv => ?_, fun W v hv hL => ?_⟩
    · obtain ⟨b, off, cap, rfl, hb, hn⟩ := hne v W hv
      rw [hfw]
      exact specFree_calls W h2 hb hn hSA hown e1 e2 e3
    · obtain ⟨b, off, cap, rfl, hb, hn⟩ := hne v W hv
      rw [hfw]
      refine (implFree_calls W h2 hb hn hs hIA hall e1 e2 e3 hL).mono ?_
      rintro e W' ⟨u, rfl, hB, hu⟩
      exact ⟨u, rfl, names_free hu, hB⟩

/-- A let of a name ahead of a tree is told what is told of the tree, without the name. -/
theorem told_let {x : ByteArray} {ns : List Nd} {l lu : List Tx} (ht : Told ns true l) (hu : Told (letN x :: unitN :: ns) true lu) : lu = l.filter (fun y => decide (y ≠ x.data.toList)) := by
  obtain ⟨n, k, e1, e2, e3, -, rfl⟩ := ht.good rfl
  obtain ⟨n', k', f1, f2, f3, -, rfl⟩ := hu.good rfl
  obtain ⟨rfl, rfl⟩ := tree_inj (n := letN x) (k := .tree unitN .none (.tree n k .none)) (by rw [e1]; simp [Fo.flat]) rfl ⟨rfl, trivial, e2, e3, trivial⟩ f1 f2 f3
  exact free_let x n k
end Go.Proofs.YtfmeldjkofoelaaGreatDoor
