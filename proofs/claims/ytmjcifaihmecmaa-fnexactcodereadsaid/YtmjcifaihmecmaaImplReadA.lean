/- The program's iterator over bytes: the instructions that they hold, one behind the other; it keeps its place in a cell of its own. -/
import Derived.Test.YtmjcifaihmecmaaInsWith
import Derived.RangeFuncCalls
import Derived.RangeFuncLeaves
import Derived.OwnWalkIn
import Derived.TacticsInMore
import Derived.LoopNIn
import Derived.LoopIn
import Derived.Sort.CutIn
namespace Go.Proofs.Ytmjcifaihmecmaa
open Go.RowKit

attribute [local go_sem] Oper.semAt_some

/-- What the iterator tells of bytes: each instruction, and whether it is there to its end. -/
def tellsGo : Nat → List Int → List (In × Bool)
  | _, [] => []
  | 0, _ :: _ => []
  | f + 1, op :: r => if 4 * insMany op ≤ r.length then (insOf op r, true) :: tellsGo f (r.drop (4 * insMany op)) else [(⟨op, 0, 0, 0⟩, false)]

theorem tells_fuel : ∀ (f g : Nat) (l : List Int), l.length ≤ f → l.length ≤ g → tellsGo f l = tellsGo g l
  | _, _, [], _, _ => by simp [tellsGo]
  | 0, _, _ :: _, h, _ => by simp at h
  | _, 0, _ :: _, _, h => by simp at h
  | f + 1, g + 1, op :: r, h, h' => by
    simp only [List.length_cons] at h h'
    simp only [tellsGo]
    rw [tells_fuel f g (r.drop (4 * insMany op)) (by simp; omega) (by simp; omega)]

def tells (l : List Int) : List (In × Bool) := tellsGo l.length l

theorem tells_cons (op : Int) (r : List Int) : tells (op :: r) = if 4 * insMany op ≤ r.length then (insOf op r, true) :: tells (r.drop (4 * insMany op)) else [(⟨op, 0, 0, 0⟩, false)] := by
  unfold tells
  rw [List.length_cons, tellsGo, tells_fuel r.length (r.drop (4 * insMany op)).length (r.drop (4 * insMany op)) (by simp) (Nat.le_refl _)]

/-- What is told, and what is read. -/
theorem tells_parse : ∀ (n : Nat) (l : List Int), l.length ≤ n → (∃ c, parse l = some c ∧ tells l = c.map (fun i => (i, true))) ∨ (parse l = none ∧ ∃ (c : List In) (i : In), tells l = c.map (fun i => (i, true)) ++ [(i, false)])
  | _, [], _ => Or.inl ⟨[], rfl, rfl⟩
  | 0, _ :: _, h => by simp at h
  | n + 1, op :: r, h => by
    simp only [List.length_cons] at h
    rw [parse_cons, tells_cons]
    by_cases hl : 4 * insMany op ≤ r.length
    · rw [if_pos hl, if_pos hl]
      rcases tells_parse n (r.drop (4 * insMany op)) (by simp; omega) with ⟨c, h1, h2⟩ | ⟨h1, c, i, h2⟩
      · exact Or.inl ⟨insOf op r :: c, by rw [h1]; rfl, by rw [h2]; rfl⟩
      · exact Or.inr ⟨by rw [h1]; rfl, insOf op r :: c, i, by rw [h2]; rfl⟩
    · rw [if_neg hl, if_neg hl]
      exact Or.inr ⟨rfl, [], _, rfl⟩

theorem numsZ_nonneg (op : Int) : 0 ≤ numsZ op := by
  unfold numsZ
  repeat' split
  all_goals omega

/-- An instruction as a value. -/
def inV (i : In) : Value := .agg #[.int .i64 i.op, .int .i64 i.a, .int .i64 i.b, .int .i64 i.c]

/-- How much is left to tell, read off the world. -/
def iterLeft (Bn : Nat) (p : Value) (W : World) : Nat :=
  match p with
  | .bool true => (match W.cell? ⟨Bn, 0, none⟩ with
    | some (.slice _ n _) => n + 1
    | _ => 0)
  | _ => 0

theorem iterLeft_false (Bn : Nat) (W : World) : iterLeft Bn (.bool false) W = 0 := rfl

theorem iterLeft_true {Bn : Nat} {W : World} {a : Option Addr} {n c : Nat} (h : W.cell? ⟨Bn, 0, none⟩ = some (.slice a n c)) : iterLeft Bn (.bool true) W = n + 1 := by
  unfold iterLeft
  rw [h]

theorem upTo_insOf (op : Int) (r : List Int) : inV (insOf op r) = .agg #[.int .i64 op, .int .i64 (upTo (r.take (4 * insMany op)) (insMany op) 0), .int .i64 (upTo (r.take (4 * insMany op)) (insMany op) 1), .int .i64 (upTo (r.take (4 * insMany op)) (insMany op) 2)] := by
  have hn : ∀ j, j < insMany op → numAt (r.take (4 * insMany op)) (4 * j) = numAt r (4 * j) := fun j hj => by
    unfold numAt
    simp only [List.getD]
    rw [List.getElem?_take_of_lt (by omega), List.getElem?_take_of_lt (by omega), List.getElem?_take_of_lt (by omega), List.getElem?_take_of_lt (by omega)]
  have he : ∀ j, upTo (r.take (4 * insMany op)) (insMany op) j = if j < insMany op then numAt r (4 * j) else 0 := fun j => by
    unfold upTo
    by_cases h : j < insMany op
    · rw [if_pos h, if_pos h, hn j h]
    · rw [if_neg h, if_neg h]
  rw [he 0, he 1, he 2]
  rfl

theorem box4_set {w : World} {b : Nat} {t : TypeId} {x0 x1 x2 x3 : Value} (h : w.heap[b]? = some (.cells #[x0, x1, x2, x3] t)) (a0 a1 a2 a3 : Value) : ((((w.setCell ⟨b, 0, none⟩ a0).setCell ⟨b, 1, none⟩ a1).setCell ⟨b, 2, none⟩ a2).setCell ⟨b, 3, none⟩ a3).heap[b]? = some (.cells #[a0, a1, a2, a3] t) := by
  simp [World.setCell, Array.getElem?_modify, h]

theorem box1_set {w : World} {b : Nat} {t : TypeId} {x0 : Value} (h : w.heap[b]? = some (.cells #[x0] t)) (a0 : Value) : (w.setCell ⟨b, 0, none⟩ a0).heap[b]? = some (.cells #[a0] t) := by
  simp [World.setCell, Array.getElem?_modify, h]

set_option maxRecDepth 100000 in
set_option maxHeartbeats 2000000 in
theorem iter_in (g Bn l : Nat) (J Jx : List (In × Bool) → World → Prop) (rest : List Int) (hB : ∀ x ∈ rest, IsB x) (hlen : rest.length ≤ 20000) (hgB : g ≠ Bn)
    (hJb : ∀ s A B, J s A → Below A.heap.size A B → J s B) (hJs : ∀ s A v, J s A → J s (A.setCell ⟨Bn, 0, none⟩ v))
    (hY : ∀ pre x W, J pre W → (∃ post, tells rest = pre ++ x :: post) → YieldAt Fence.wide 0 Try.prog l #[inV x.1, .bool x.2] W fun e W' => (e = .returned (.bool true) ∧ J (pre ++ [x]) W' ∧ W'.heap[Bn]? = W.heap[Bn]? ∧ W'.heap[g]? = W.heap[g]? ∧ W.heap.size ≤ W'.heap.size) ∨ (e = .returned (.bool false) ∧ Jx (pre ++ [x]) W'))
    (W : World) (o c : Nat) (hc : W.heap[Bn]? = some (.cells #[.slice (some ⟨g, o, none⟩) rest.length c] 30)) (hr : rest.length ≤ c) (hbt : BytesAt W g o rest) (hgl : g < W.heap.size) (h0 : J [] W) :
    CallsIn Fence.wide 0 Try.prog 36 #[.func (.yield l) #[] #[], .pointer (some ⟨Bn, 0, none⟩)] W fun e W' => (∃ v, e = .returned v) ∧ (J (tells rest) W' ∨ ∃ pre x post, tells rest = pre ++ x :: post ∧ Jx (pre ++ [x]) W') := by
  have HB := hid hB
  have HLn := hid hlen
  have HJb := hid hJb
  have HJs := hid hJs
  have HY := hid hY
  have HBt := hid hbt
  have H0 := hid h0
  clear hB hlen hJb hJs hY hbt h0
  obtain ⟨hc0, hz0⟩ : W.cell? ⟨Bn, 0, none⟩ = some (.slice (some ⟨g, o, none⟩) rest.length c) ∧ W.frozen? ⟨Bn, 0, none⟩ = false := ⟨by simp [World.cell?, hc], by simp [World.frozen?, hc]⟩
  have hro : Fence.wide.round = none := rfl
  refine callsIn_of_wp Try.func36 rfl trivial ?_ hro
  simp only [Try.ntmps36, List.size_toArray, List.length_cons, List.length_nil, Nat.reduceAdd, Nat.reduceSub, Array.replicate_succ, Array.replicate_zero, List.push_toArray, List.append_toArray, List.nil_append, List.cons_append]
  gi_wp2
  gi_loopw [3] (fun p wr => ∃ (b : Bool) (pre : List (In × Bool)) (rst : List Int) (o c : Nat), p = .bool b ∧ Hid (tells rest = pre ++ (if b then tells rst else [])) ∧ wr.heap[Bn]? = some (.cells #[.slice (some ⟨g, o, none⟩) rst.length c] 30) ∧ Hid (rst.length ≤ c ∧ rst.length ≤ 20000) ∧ Hid (BytesAt wr g o rst) ∧ g < wr.heap.size ∧ Hid (∀ x ∈ rst, IsB x) ∧ Hid (J pre wr)) (fun p wr => iterLeft Bn p wr)
  case atStart => exact ⟨true, [], rest, o, c, rfl, by show _ = _; simp, hc, ⟨hr, HLn.out⟩, HBt, hgl, HB, H0⟩
  case round =>
    obtain ⟨b, pre, rst, o, c, rfl, HT, hcn, HRc, HBr, hgr, HBs, HJ⟩ := hrel
    have q0 : wr.cell? ⟨Bn, 0, none⟩ = some (.slice (some ⟨g, o, none⟩) rst.length c) := by simp [World.cell?, hcn]
    have z0 : wr.frozen? ⟨Bn, 0, none⟩ = false := by simp [World.frozen?, hcn]
    cases b with
    | false =>
      gi_wp2_with fail
      go_end0
      have e := HT.out
      simp at e
      exact ⟨⟨_, rfl⟩, Or.inl (by rw [e]; exact HJ.out)⟩
    | true =>
      cases rst with
      | nil =>
        simp only [List.length_nil] at q0
        gi_wp2_with fail
        go_end0
        have e := HT.out
        simp [tells, tellsGo] at e
        exact ⟨⟨_, rfl⟩, Or.inl (by unfold tells; rw [e]; exact HJ.out)⟩
      | cons op r =>
        simp only [List.length_cons] at q0
        have hln : (0 : Int) < ((r.length + 1 : Nat) : Int) := by omega
        have c1 : wr.cell? ⟨g, o, none⟩ = some (.int .u8 op) := by
          have e := HBr.out 0 (by simp)
          simpa using e
        have HOp : Hid (IsB op) := HBs.out op (by simp)
        obtain ⟨m, hm, hm3⟩ : ∃ m : Nat, insMany op = m ∧ m ≤ 3 := ⟨_, rfl, insMany_le op⟩
        have HMm := hid hm
        have HNz : Hid (numsZ op = (m : Int)) := by
          show _ = _
          have := numsZ_nonneg op
          rw [← hm]
          unfold insMany
          omega
        clear hm
        obtain ⟨n, hn⟩ : ∃ n, r.length = n := ⟨_, rfl⟩
        have HN := hid hn
        rw [hn] at q0 hln
        clear hn
        have hwo : wrap64 op = op := by
          have := HOp.out
          unfold IsB at this
          unfold wrap64
          omega
        gi_wp2_with fail
        refine ⟨trivial, rfl, (callsIn_wide.2 (insNumbers_calls op _)).mono ?_⟩
        rintro e _ ⟨rfl, rfl⟩
        rw [HNz.out]
        have hw1 : wrap64 (4 * (m : Int)) = 4 * (m : Int) := by unfold wrap64; omega
        have hw2 : wrap64 (1 + 4 * (m : Int)) = 1 + 4 * (m : Int) := by unfold wrap64; omega
        have hBnl : Bn < wr.heap.size := heap_lt hcn
        by_cases hfit : (1 + 4 * (m : Int)) ≤ (n : Int) + 1
        · have hs1 : (1 : Int) ≤ 1 + 4 * (m : Int) := by omega
          have hs2 : (1 + 4 * (m : Int)) ≤ (c : Int) := by have := HRc.out.1; have := HN.out; simp only [List.length_cons] at *; omega
          have hm4 : 4 * m ≤ r.length := by have := HN.out; omega
          obtain ⟨i1, i2, i3, i4, hi⟩ : ∃ i1 i2 i3 i4, insOf op r = ⟨i1, i2, i3, i4⟩ := ⟨_, _, _, _, rfl⟩
          have HI := hid hi
          have HKy : Hid (∀ (X : World) (ad cp : Nat), Below wr.heap.size wr X → (ad = o + 1 ∨ m = 0) → 4 * m ≤ cp → Calls Try.prog 37 #[.int .i64 op, .slice (some ⟨g, ad, none⟩) (4 * m) cp] X fun e w' => e = .returned (.agg #[.int .i64 i1, .int .i64 i2, .int .i64 i3, .int .i64 i4]) ∧ Below X.heap.size X w') := fun X ad cp hX had hcp => by
            have e1 := upTo_insOf op r
            rw [HMm.out, hi] at e1
            unfold inV at e1
            dsimp only at e1
            rw [e1]
            refine insWith_calls g ad cp m op (r.take (4 * m)) X (fun x hx => HBs.out x (List.mem_cons_of_mem _ (List.mem_of_mem_take hx))) (fun k hk => ?_) (by simp; omega) hm3 hcp (Nat.lt_of_lt_of_le hgr hX.size)
            have hk2 : k < 4 * m := by simp at hk; omega
            rcases had with rfl | h0
            · have e2 := (HBr.out.below hX hgr) (k + 1) (by simp; omega)
              rw [show o + 1 + k = o + (k + 1) by omega, e2]
              simp [List.getD, List.getElem?_take_of_lt hk2]
            · omega
          clear hi
          obtain ⟨rd, hrd⟩ : ∃ rd, r.drop (4 * m) = rd := ⟨_, rfl⟩
          have HRD := hid hrd
          clear hrd
          gi_upto_if 27 with fail
          gi_cut [] from 7 (fun X => Hid (X.heap[wr.heap.size]? = some (.cells #[.int .i64 i1, .int .i64 i2, .int .i64 i3, .int .i64 i4] 25) ∧ (∃ o' c', X.heap[Bn]? = some (.cells #[.slice (some ⟨g, o', none⟩) rd.length c'] 30) ∧ rd.length ≤ c' ∧ BytesAt X g o' rd) ∧ J pre X ∧ wr.heap.size < X.heap.size))
          case first =>
            gi_wp2_with fail
            all_goals
              refine ⟨trivial, rfl, (callsIn_wide.2 (HKy.out _ _ _ ((Below.refl _ _).alloc (Nat.le_refl _) _) (by omega) (by omega))).mono ?_⟩
              rintro e w1 ⟨rfl, hb1⟩
              obtain ⟨bx, hbw⟩ := one_kept hb1
              clear hb1
              have c0 := cell_of_heap bx 0
              have c1 := cell_of_heap bx 1
              have c2 := cell_of_heap bx 2
              have c3 := cell_of_heap bx 3
              simp at c0 c1 c2 c3
              have z1 := frozen_of_heap bx 0
              have z2 := frozen_of_heap bx 1
              have z3 := frozen_of_heap bx 2
              have z4 := frozen_of_heap bx 3
              have hn1 := (hbw.block Bn hBnl).trans hcn
              have q1 : w1.cell? ⟨Bn, 0, none⟩ = some (.slice (some ⟨g, o, none⟩) (n + 1) _) := (hbw.cell (p := ⟨Bn, 0, none⟩) hBnl).trans q0
              have z5 : w1.frozen? ⟨Bn, 0, none⟩ = false := by simp [World.frozen?, hn1]
              have hne : wr.heap.size ≠ Bn := by omega
              have HBx := hid bx
              clear bx
              gi_upto_region 8 with fail
              obtain ⟨W5, hW5, hx5, hn5, hb5⟩ : ∃ W5, ((((w1.setCell ⟨wr.heap.size, 0, none⟩ (.int .i64 i1)).setCell ⟨wr.heap.size, 1, none⟩ (.int .i64 i2)).setCell ⟨wr.heap.size, 2, none⟩ (.int .i64 i3)).setCell ⟨wr.heap.size, 3, none⟩ (.int .i64 i4)) = W5 ∧ W5.heap[wr.heap.size]? = some (.cells #[.int .i64 i1, .int .i64 i2, .int .i64 i3, .int .i64 i4] 25) ∧ W5.heap[Bn]? = wr.heap[Bn]? ∧ Below wr.heap.size wr W5 := ⟨_, rfl, box4_set HBx.out _ _ _ _, ((((hbw.setCell (p := ⟨wr.heap.size, 0, none⟩) (Nat.le_refl _) _).setCell (p := ⟨wr.heap.size, 1, none⟩) (Nat.le_refl _) _).setCell (p := ⟨wr.heap.size, 2, none⟩) (Nat.le_refl _) _).setCell (p := ⟨wr.heap.size, 3, none⟩) (Nat.le_refl _) _).block Bn hBnl, (((hbw.setCell (p := ⟨wr.heap.size, 0, none⟩) (Nat.le_refl _) _).setCell (p := ⟨wr.heap.size, 1, none⟩) (Nat.le_refl _) _).setCell (p := ⟨wr.heap.size, 2, none⟩) (Nat.le_refl _) _).setCell (p := ⟨wr.heap.size, 3, none⟩) (Nat.le_refl _) _⟩
              rw [hW5]
              clear hW5 HBx c0 c1 c2 c3 z1 z2 z3 z4 q1 z5 hn1 hbw q0 z0
              have hn6 := hn5.trans hcn
              have q2 := cell_of_heap hn6 0
              rw [List.length_cons, HN.out] at q2
              simp at q2
              have z6 := frozen_of_heap hn6 0
              have HN6 := hid hn6
              have HX5 := hid hx5
              have HB5 := hid hb5
              clear hn6 hx5 hn5 hb5
              gi_wp2_with gi_meet
            all_goals
              have hlr : n + 1 - (1 + 4 * m) = rd.length := by
                rw [← HRD.out, List.length_drop, HN.out]
                omega
              have hrc := HRc.out.1
              rw [List.length_cons, HN.out] at hrc
              rw [hlr]
              refine ⟨(Below.heap_setCell W5 ⟨Bn, 0, none⟩ _ _ hne).trans HX5.out, ⟨_, _, box1_set HN6.out _, by rw [← hlr]; omega, fun k hk => ?_⟩, HJs.out _ _ _ (HJb.out _ _ _ HJ.out HB5.out), ?_⟩
              rotate_left
              · exact Nat.lt_of_lt_of_le (heap_lt HX5.out) (by simp [World.setCell])
              rw [← hlr] at hk
              rw [World.cell?_of_block (w := W5) (Below.heap_setCell W5 ⟨Bn, 0, none⟩ _ g hgB)]
              first
                | (exfalso; omega)
                | (have e2 := (HBr.out.below HB5.out hgr) (k + (1 + 4 * m)) (by rw [List.length_cons, HN.out]; omega)
                   rw [show o + (1 + 4 * m) + k = o + (k + (1 + 4 * m)) by omega, e2, show k + (1 + 4 * m) = (4 * m + k) + 1 by omega]
                   rw [← HRD.out]
                   simp [List.getD])
          case rest =>
            obtain ⟨hx, ⟨o', c', hn', hc', hbt'⟩, hj, hsz⟩ := hcut.out
            have HBt' := hid hbt'
            have HRd : Hid (rd.length ≤ c' ∧ rd.length ≤ 20000) := ⟨hc', by have := HRc.out.2; rw [← HRD.out]; simp at this ⊢; omega⟩
            have HTn : Hid (tells rest = (pre ++ [(⟨i1, i2, i3, i4⟩, true)]) ++ tells rd) := by
              show _ = _
              have e := HT.out
              rw [if_pos (by trivial), tells_cons, HMm.out, if_pos hm4, HI.out, HRD.out] at e
              rw [e, List.append_assoc]
              rfl
            obtain ⟨fn, tmps, assign, body, hy, hR⟩ := HY.out pre (⟨i1, i2, i3, i4⟩, true) wc hj ⟨tells rd, by rw [HTn.out, List.append_assoc]; rfl⟩
            unfold inV at hy
            dsimp only at hy
            have c0 := cell_of_heap hx 0
            have c2 := cell_of_heap hx 1
            have c3 := cell_of_heap hx 2
            have c4 := cell_of_heap hx 3
            simp at c0 c2 c3 c4
            clear hcut hx hj hbt' hc' hs1 hs2 hfit hw1 hw2
            gi_wp2_with fail
            refine ⟨rfl, hR.mono ?_⟩
            rintro e W3 (⟨rfl, hJ3, hk3, hg3, hs3⟩ | ⟨rfl, hJx3⟩)
            · have hn3 := hk3.trans hn'
              have HJ3 := hid hJ3
              clear hy hR hJ3
              gi_wp2_with fail
              go_roundw
              case rel => exact ⟨true, _, rd, o', c', rfl, by show _ = _; rw [if_pos rfl]; exact HTn.out, hn3, HRd, fun k hk => (World.cell?_of_block (a := ⟨g, o' + k, none⟩) hg3).trans (HBt'.out k hk), by omega, fun x hx => HBs.out x (List.mem_cons_of_mem _ (List.mem_of_mem_drop (by rw [HRD.out]; exact hx))), HJ3⟩
              case measure =>
                have e3 := cell_of_heap hn3 0
                simp at e3
                rw [iterLeft_true e3, iterLeft_true q0, ← HRD.out, List.length_drop, HN.out]
                omega
            · clear hy hR
              gi_wp2_with fail
              refine bodyPost_ret (results_none rfl _ _ _) rfl ?_
              exact ⟨⟨_, rfl⟩, Or.inr ⟨pre, _, tells rd, by rw [HTn.out, List.append_assoc]; rfl, hJx3⟩⟩
        · gi_upto_if 27 with fail
          rw [decide_eq_false (show ¬ (1 + 4 * (m : Int)) ≤ (n : Int) + 1 by omega)]
          have hA := (MapKept.heap_alloc wr (.cells #[.int .i64 op, .int .i64 0, .int .i64 0, .int .i64 0] 25)).1
          have hbA := (Below.refl wr.heap.size wr).alloc (Nat.le_refl _) (.cells #[.int .i64 op, .int .i64 0, .int .i64 0, .int .i64 0] 25)
          generalize wr.alloc (.cells #[.int .i64 op, .int .i64 0, .int .i64 0, .int .i64 0] 25) = wc at *
          have HTn : Hid (tells rest = (pre ++ [(⟨op, 0, 0, 0⟩, false)])) := by
            show _ = _
            have e := HT.out
            rw [if_pos (by trivial), tells_cons, HMm.out, if_neg (by have := HN.out; omega)] at e
            exact e
          have hn' := (hbA.block Bn hBnl).trans hcn
          obtain ⟨fn, tmps, assign, body, hy, hR⟩ := HY.out pre (⟨op, 0, 0, 0⟩, false) wc (HJb.out _ _ _ HJ.out hbA) ⟨[], HTn.out⟩
          unfold inV at hy
          dsimp only at hy
          have c0 := cell_of_heap hA 0
          have c2 := cell_of_heap hA 1
          have c3 := cell_of_heap hA 2
          have c4 := cell_of_heap hA 3
          simp at c0 c2 c3 c4
          have HBA := hid hbA
          clear hA hbA hw1 hw2 hfit
          gi_wp2_with fail
          refine ⟨rfl, hR.mono ?_⟩
          rintro e W3 (⟨rfl, hJ3, hk3, hg3, hs3⟩ | ⟨rfl, hJx3⟩)
          · have hn3 := hk3.trans hn'
            have HJ3 := hid hJ3
            clear hy hR hJ3
            gi_wp2_with fail
            go_roundw
            case rel => exact ⟨false, _, op :: r, o, c, rfl, by show _ = _; rw [if_neg (by simp), List.append_nil]; exact HTn.out, hn3, HRc, fun k hk => (World.cell?_of_block (a := ⟨g, o + k, none⟩) hg3).trans ((HBr.out.below HBA.out hgr) k hk), Nat.lt_of_lt_of_le hgr (Nat.le_trans HBA.out.size hs3), HBs, HJ3⟩
            case measure =>
              rw [iterLeft_false, iterLeft_true q0]
              omega
          · clear hy hR
            gi_wp2_with fail
            refine bodyPost_ret (results_none rfl _ _ _) rfl ?_
            exact ⟨⟨_, rfl⟩, Or.inr ⟨pre, _, [], HTn.out, hJx3⟩⟩
end Go.Proofs.Ytmjcifaihmecmaa
