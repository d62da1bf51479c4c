/- The program goes through an instruction. -/
import Derived.Test.YtfmkgppkgmjpfaaDoorImplHandle
import Derived.Test.YtfmkgppkgmjpfaaDoorImplExitsB
import Derived.Test.YtfmkgppkgmjpfaaDoorImplExitsC
import Derived.Test.YtfmkgppkgmjpfaaDoorImplExitsD
namespace Go.Proofs.YtfmkgppkgmjpfaaDoor
open Go.RowKit Go.Conc

theorem okI_op {i : In} (hi : i.ok = true) : 0 ≤ i.op ∧ i.op ≤ 25 := by
  unfold In.ok insOkZ at hi
  split at hi
  · cases hi
  · rename_i hn
    have h0 : ¬ manyZ i.op < 0 := fun e => hn (Or.inl e)
    unfold manyZ at h0
    repeat' split at h0
    all_goals omega

theorem exits_calls {W0 W : World} {Fb bc oc cc gs ch : Nat} {is : List In} {T : List Sq} {wk : List Nat} {d : Int} {closed : Bool} (h : Fl W0 Fb (.slice (some ⟨bc, oc, none⟩) is.length cc) gs ch is.length T wk d closed W) (hC : CodeAt W0 bc oc cc is) (k : Nat) (hk : k < is.length) (hp : 1 ≤ (tg T k).p) (hn : needsZ is (is.getD k default) (tg T k) = true) :
    Calls Tryd.prog 35 #[.pointer (some ⟨Fb, 0, none⟩), .int .i64 (k : Int)] W (ExitsP (exitsZ is k (is.getD k default) (tg T k)) W) := by
  obtain ⟨hbc, hin, hcc, hN, hall⟩ := hC
  have hinW := hin.below h.bel hbc
  have hok := all_ok hall hk
  have f0 := cell_of_heap h.blk 0
  have f1 := cell_of_heap h.blk 1
  simp at f0 f1
  have f2 := hinW k hk 0 (by omega)
  have f3 := hinW k hk 1 (by omega)
  have f4 := hinW k hk 2 (by omega)
  have f5 := hinW k hk 3 (by omega)
  obtain ⟨f6, f7, f8, -, -, -⟩ := h.cells hk
  have hs := h.sane _ (tgF_mem (show k < T.length by rw [h.len]; exact hk))
  obtain ⟨⟨op, a, b, c⟩, hi⟩ : ∃ i, is.getD k default = i := ⟨_, rfl⟩
  obtain ⟨⟨n, v, p⟩, hx⟩ : ∃ s, tg T k = s := ⟨_, rfl⟩
  rw [hi] at f2 f3 f4 f5 hok hn ⊢
  rw [hx] at f6 f7 f8 hp hs hn ⊢
  simp only [In.cell, Nat.add_zero] at f2 f3 f4 f5
  unfold SaneS at hs
  dsimp only at f6 f7 f8 hp hs
  have hb : 0 ≤ n ∧ n ≤ 100 ∧ 0 ≤ v ∧ v ≤ 100 := by rcases hs with hs | hs <;> omega
  have ho := okI_op hok
  dsimp only at ho
  have k0 : (0 : Int) ≤ (k : Int) := by omega
  have k1 : (k : Int) < (is.length : Int) := by omega
  have k5 : k ≤ 1500 := by omega
  rcases ops_cases op with hz | hz
  · omega
  rcases hz with rfl | rfl | rfl | rfl | rfl | rfl | rfl | rfl | rfl | rfl | rfl | rfl | rfl | rfl | rfl | rfl | rfl | rfl | rfl | rfl | rfl | rfl | rfl | rfl | rfl | rfl
  · exact exits_0 k0 k1 k5 hb.1 hb.2.1 hb.2.2.1 hb.2.2.2 f0 f1 f2 f3 f4 f5 f6 f7 f8
  · exact exits_1 k0 k1 k5 hb.1 hb.2.1 hb.2.2.1 hb.2.2.2 f0 f1 f2 f3 f4 f5 f6 f7 f8
  · exact exits_2 k0 k1 k5 hb.1 hb.2.1 hb.2.2.1 hb.2.2.2 f0 f1 f2 f3 f4 f5 f6 f7 f8
  · exact exits_3 k0 k1 k5 hb.1 hb.2.1 hb.2.2.1 hb.2.2.2 f0 f1 f2 f3 f4 f5 f6 f7 f8
  · exact exits_4 k0 k1 k5 hb.1 hb.2.1 hb.2.2.1 hb.2.2.2 f0 f1 f2 f3 f4 f5 f6 f7 f8
  · exact exits_5 k0 k1 k5 hb.1 hb.2.1 hb.2.2.1 hb.2.2.2 f0 f1 f2 f3 f4 f5 f6 f7 f8
  · exact exits_6 k0 k1 k5 hb.1 hb.2.1 hb.2.2.1 hb.2.2.2 f0 f1 f2 f3 f4 f5 f6 f7 f8
  · exact exits_7 k0 k1 k5 hb.1 hb.2.1 hb.2.2.1 hb.2.2.2 f0 f1 f2 f3 f4 f5 f6 f7 f8
  · exact exits_8 k0 k1 k5 hb.1 hb.2.1 hb.2.2.1 hb.2.2.2 f0 f1 f2 f3 f4 f5 f6 f7 f8
  · exact exits_9 k0 k1 k5 hb.1 hb.2.1 hb.2.2.1 hb.2.2.2 f0 f1 f2 f3 f4 f5 f6 f7 f8
  · exact exits_10 k0 k1 k5 hb.1 hb.2.1 hb.2.2.1 hb.2.2.2 f0 f1 f2 f3 f4 f5 f6 f7 f8
  · exact exits_11 k0 k1 k5 hb.1 hb.2.1 hb.2.2.1 hb.2.2.2 f0 f1 f2 f3 f4 f5 f6 f7 f8
  · exact exits_12 k0 k1 k5 hb.1 hb.2.1 hb.2.2.1 hb.2.2.2 f0 f1 f2 f3 f4 f5 f6 f7 f8
  · exact exits_13 k0 k1 k5 hb.1 hb.2.1 hb.2.2.1 hb.2.2.2 f0 f1 f2 f3 f4 f5 f6 f7 f8
  · exact exits_14 k0 k1 k5 hb.1 hb.2.1 hb.2.2.1 hb.2.2.2 f0 f1 f2 f3 f4 f5 f6 f7 f8
  · exact exits_15 k0 k1 k5 hb.1 hb.2.1 hb.2.2.1 hb.2.2.2 f0 f1 f2 f3 f4 f5 f6 f7 f8
  · exact exits_16 k0 k1 k5 hb.1 hb.2.1 hb.2.2.1 hb.2.2.2 f0 f1 f2 f3 f4 f5 f6 f7 f8
  · exact exits_17 k0 k1 k5 hb.1 hb.2.1 hb.2.2.1 hb.2.2.2 f0 f1 f2 f3 f4 f5 f6 f7 f8
  · exact exits_18 k0 k1 k5 hb.1 hb.2.1 hb.2.2.1 hb.2.2.2 f0 f1 f2 f3 f4 f5 f6 f7 f8
  · exact exits_19 k0 k1 k5 hb.1 hb.2.1 hb.2.2.1 hb.2.2.2 f0 f1 f2 f3 f4 f5 f6 f7 f8
  · exact exits_20 k0 k1 k5 hb.1 hb.2.1 hb.2.2.1 hb.2.2.2 f0 f1 f2 f3 f4 f5 f6 f7 f8
  · have ht : tableZ is a = true := by simpa [needsZ] using hn
    have hnum := ok_nums hok (by dsimp only; decide) (by dsimp only; decide) (by dsimp only; decide)
    refine exits_21 k0 k1 k5 hb.1 hb.2.1 hb.2.2.1 hb.2.2.2 f0 f1 f2 f3 f4 f5 f6 f7 f8 (fun X hX => ?_)
    have e : exitsZ is k ⟨21, a, b, c⟩ ⟨n, v, p⟩ = handleZ is k ⟨21, a, b, c⟩ ⟨n, v, p⟩ := by simp [exitsZ]
    rw [e]
    have g : ∀ {q : Addr} {u : Value}, W.cell? q = some u → X.cell? q = some u := fun {q u} hq => (hX.cell (block_in0 hq)).trans hq
    exact handleI_calls k0 k1 k5 hb.1 hb.2.1 hb.2.2.1 hb.2.2.2 (g f0) (g f1) (g f2) (g f3) (g f4) (g f5) (g f6) (g f7) (g f8) rfl (hinW.below hX (Nat.lt_of_lt_of_le hbc h.bel.size)) hcc hN hall ht hnum.1
  · exact exits_22 k0 k1 k5 hb.1 hb.2.1 hb.2.2.1 hb.2.2.2 f0 f1 f2 f3 f4 f5 f6 f7 f8
  · exact exits_23 k0 k1 k5 hb.1 hb.2.1 hb.2.2.1 hb.2.2.2 f0 f1 f2 f3 f4 f5 f6 f7 f8
  · exact exits_24 k0 k1 k5 hb.1 hb.2.1 hb.2.2.1 hb.2.2.2 f0 f1 f2 f3 f4 f5 f6 f7 f8
  · exact exits_25 k0 k1 k5 hb.1 hb.2.1 hb.2.2.1 hb.2.2.2 f0 f1 f2 f3 f4 f5 f6 f7 f8

/-- What comes of going through an instruction. -/
def stepI (is : List In) (T : List Sq) (wk : List Nat) (k : Nat) : Option (List Sq × List Nat) := if needsZ is (is.getD k default) (tg T k) = true then comesZ is.length T wk (exitsZ is k (is.getD k default) (tg T k)) else none

def FollowP (W0 : World) (Fb : Nat) (vc : Value) (gs ch N : Nat) (d : Int) (r : Option (List Sq × List Nat)) (e : Ending) (W' : World) : Prop :=
  Below W0.heap.size W0 W' ∧ (r = none → IsBad e) ∧ ∀ x, r = some x → e = .returned .nilIface ∧ Fl W0 Fb vc gs ch N x.1 x.2 d false W'

theorem comes_take (N : Nat) : ∀ (es : List (Int × Sq)) (T : List Sq) (w : List Nat) (j : Nat), j < es.length → comesZ N T w (es.take (j + 1)) = (comesZ N T w (es.take j)).bind fun x => comeZ N x.1 x.2 (es.getD j (0, ⟨0, 0, 0⟩))
  | [], _, _, _, h => absurd h (by simp)
  | e :: r, T, w, 0, _ => by
    simp only [List.take_succ_cons, List.take_zero, comesZ, Option.bind_some]
    show _ = comeZ N T w e
    cases comeZ N T w e with
    | none => rfl
    | some x => rfl
  | e :: r, T, w, j + 1, h => by
    have ih := fun T w => comes_take N r T w j (by simpa using h)
    simp only [List.take_succ_cons, comesZ]
    cases hc : comeZ N T w e with
    | none => rfl
    | some x => exact ih x.1 x.2

theorem exits_len (is : List In) (k : Nat) (i : In) (s : Sq) : (exitsZ is k i s).length ≤ is.length + 3 := by
  have hc : (clausesZ is i.a).length ≤ is.length := by
    unfold clausesZ
    rw [List.length_take, List.length_drop]
    omega
  unfold exitsZ
  repeat' split
  all_goals (try unfold handleZ)
  all_goals simp only [List.length_cons, List.length_nil, List.length_append, List.length_map]
  all_goals omega

theorem comes_none (N : Nat) : ∀ (es : List (Int × Sq)) (T : List Sq) (w : List Nat) (j : Nat), comesZ N T w (es.take j) = none → comesZ N T w es = none
  | [], T, w, j, h => by
    simp only [List.take_nil, comesZ] at h
    cases h
  | e :: r, T, w, 0, h => by
    simp only [List.take_zero, comesZ] at h
    cases h
  | e :: r, T, w, j + 1, h => by
    simp only [List.take_succ_cons, comesZ] at h ⊢
    cases hc : comeZ N T w e with
    | none => rfl
    | some x =>
      rw [hc] at h
      exact comes_none N r x.1 x.2 j h

set_option maxRecDepth 100000 in
set_option maxHeartbeats 8000000 in
theorem follow_calls {W0 W : World} {Fb bc oc cc gs ch : Nat} {is : List In} {T : List Sq} {wk : List Nat} {d : Int} (h : Fl W0 Fb (.slice (some ⟨bc, oc, none⟩) is.length cc) gs ch is.length T wk d false W) (hC : CodeAt W0 bc oc cc is) (k : Nat) (hk : k < is.length) (hp : 1 ≤ (tg T k).p) :
    Calls Tryd.prog 26 #[.pointer (some ⟨Fb, 0, none⟩), .int .i64 (k : Int)] W (FollowP W0 Fb (.slice (some ⟨bc, oc, none⟩) is.length cc) gs ch is.length d (stepI is T wk k)) := by
  obtain ⟨hbc, hin, hcc, hN, hall⟩ := id hC
  have hinW := hin.below h.bel hbc
  have hok := all_ok hall hk
  have f0 := cell_of_heap h.blk 0
  have f1 := cell_of_heap h.blk 1
  simp at f0 f1
  have f2 := hinW k hk 0 (by omega)
  have f3 := hinW k hk 1 (by omega)
  have f4 := hinW k hk 2 (by omega)
  have f5 := hinW k hk 3 (by omega)
  obtain ⟨f6, f7, f8, -, -, -⟩ := h.cells hk
  have hs := h.sane _ (tgF_mem (show k < T.length by rw [h.len]; exact hk))
  have hbcW : bc < W.heap.size := Nat.lt_of_lt_of_le hbc h.bel.size
  have HNd := hid (fun (X : World) (hX : Below W.heap.size W X) => needs_calls (Fb := Fb) ((hX.cell (block_in0 f0)).trans f0) (hinW.below hX hbcW) (Nat.lt_of_lt_of_le hbcW hX.size) hcc hN hall (is.getD k default) hok (tg T k))
  have HEx := hid (fun (X : World) (hX : Below W.heap.size W X) hn => exits_calls (h.below hX) hC k hk hp hn)
  have HH := hid h
  have HC := hid hC
  have HSt : Hid (∀ es, exitsZ is k (is.getD k default) (tg T k) = es → needsZ is (is.getD k default) (tg T k) = true → (∀ e ∈ es, 1 ≤ e.2.p ∧ e.2.p ≤ 3 ∧ 0 ≤ e.1 ∧ 0 ≤ e.2.n ∧ 0 ≤ e.2.v)) := fun es he hn => by
    subst he
    have hs' := hs
    unfold SaneS at hs'
    exact exits_right hall hk (by rcases hs' with h1 | h1 <;> omega) (by rcases hs' with h1 | h1 <;> omega) ⟨hp, by rcases hs' with h1 | h1 <;> omega⟩ hn
  obtain ⟨⟨op, a, b, c⟩, hi⟩ : ∃ i, is.getD k default = i := ⟨_, rfl⟩
  obtain ⟨⟨n, v, p⟩, hx⟩ : ∃ s, tg T k = s := ⟨_, rfl⟩
  have HSI : Hid (stepI is T wk k = if needsZ is ⟨op, a, b, c⟩ ⟨n, v, p⟩ = true then comesZ is.length T wk (exitsZ is k ⟨op, a, b, c⟩ ⟨n, v, p⟩) else none) := by
    show _ = _
    unfold stepI
    rw [hi, hx]
  rw [hi] at f2 f3 f4 f5 HNd HEx HSt
  rw [hx] at f6 f7 f8 HNd HEx HSt
  simp only [In.cell, Nat.add_zero] at f2 f3 f4 f5
  dsimp only at f6 f7 f8 HNd
  obtain ⟨nd, hnd⟩ : ∃ nd, needsZ is ⟨op, a, b, c⟩ ⟨n, v, p⟩ = nd := ⟨_, rfl⟩
  obtain ⟨es, hes⟩ : ∃ es, exitsZ is k ⟨op, a, b, c⟩ ⟨n, v, p⟩ = es := ⟨_, rfl⟩
  have HEr := hid (HSt.out es hes)
  have HLn : Hid (es.length ≤ 2000) := by
    show _ ≤ _
    rw [← hes]
    have := exits_len is k ⟨op, a, b, c⟩ ⟨n, v, p⟩
    omega
  rw [hnd, hes] at HSI
  rw [hnd] at HNd HEr
  simp only [hes, hnd] at HEx
  have k0 : (0 : Int) ≤ (k : Int) := by omega
  have k1 : (k : Int) < (is.length : Int) := by omega
  have q0 : ∀ y : Later W.heap.size W, y.w.cell? ⟨Fb, 0, none⟩ = _ := fun y => y.cell (block_in0 f0) f0
  have q1 : ∀ y : Later W.heap.size W, y.w.cell? ⟨Fb, 1, none⟩ = _ := fun y => y.cell (block_in0 f1) f1
  have q2 : ∀ y : Later W.heap.size W, y.w.cell? ⟨bc, oc + k * 4, none⟩ = _ := fun y => y.cell (block_in0 f2) f2
  have q3 : ∀ y : Later W.heap.size W, y.w.cell? ⟨bc, oc + k * 4 + 1, none⟩ = _ := fun y => y.cell (block_in0 f3) f3
  have q4 : ∀ y : Later W.heap.size W, y.w.cell? ⟨bc, oc + k * 4 + 2, none⟩ = _ := fun y => y.cell (block_in0 f4) f4
  have q5 : ∀ y : Later W.heap.size W, y.w.cell? ⟨bc, oc + k * 4 + 3, none⟩ = _ := fun y => y.cell (block_in0 f5) f5
  have q6 : ∀ y : Later W.heap.size W, y.w.cell? ⟨gs, k * 3, none⟩ = _ := fun y => y.cell (block_in0 f6) f6
  have q7 : ∀ y : Later W.heap.size W, y.w.cell? ⟨gs, k * 3 + 1, none⟩ = _ := fun y => y.cell (block_in0 f7) f7
  have q8 : ∀ y : Later W.heap.size W, y.w.cell? ⟨gs, k * 3 + 2, none⟩ = _ := fun y => y.cell (block_in0 f8) f8
  clear h hC hbc hin hcc hN hall hinW hok f0 f1 f2 f3 f4 f5 f6 f7 f8 hs hbcW hi hx hnd hes HSt hk hp
  go_enter Tryd.func26, Tryd.ntmps26
  go_wp2_with fail
  refine wp_region_calm W.heap.size (by kernel_rfl) (by kernel_rfl) ?_
  repeat (go_big_quiet_step (first | (rename_i y; go_at_call 34; refine (HNd.out _ y.h).mono ?_; rintro e w5 ⟨rfl, hb5⟩; exact ⟨rfl, ⟨w5, y.h.trans (hb5.mono y.h.size)⟩, rfl⟩)))
  refine wpQuiet_nil ?_
  rintro w5 ⟨y, rfl⟩
  have HY := hid y.h
  generalize y.w = X at *
  clear q0 q1 q2 q3 q4 q5 q6 q7 q8 HNd
  have HBW : Hid (Below W0.heap.size W0 X) := HH.out.bel.trans (HY.out.mono HH.out.bel.size)
  cases nd with
  | false =>
    go_wp2_with fail
    go_ret
    rw [HSI.out]
    exact ⟨HBW.out.alloc HBW.out.size _, fun _ => ⟨X.heap.size, rfl⟩, fun x hx => by simp at hx⟩
  | true =>
    have HEx1 := hid (HEx.out X HY.out rfl)
    have HFX := hid (HH.out.below HY.out)
    go_wp2_with fail
    refine HEx1.out.mono ?_
    rintro e X2 ⟨hb2, ad, cp, rfl, hor⟩
    have HF2 := hid (HFX.out.below hb2)
    have HOr := hid hor
    clear hb2 hor HEx HEx1 HFX
    obtain ⟨M, hM⟩ : ∃ M, es.length = M := ⟨_, rfl⟩
    have HM := hid hM
    rw [hM]
    clear hM
    go_wp2_with fail
    go_loopw [33] (fun i wr => ∃ (j : Nat) (T' : List Sq) (w' : List Nat), i = .int .i64 (j : Int) ∧ j ≤ M ∧ Hid (comesZ is.length T wk (es.take j) = some (T', w')) ∧ Hid (Fl W0 Fb (.slice (some ⟨bc, oc, none⟩) is.length cc) gs ch is.length T' w' d false wr) ∧ Hid (Fz X2 wr)) (fun i _ => M - (intOf i).toNat)
    case atStart => exact ⟨0, T, wk, rfl, Nat.zero_le _, rfl, HF2, Fz.refl _⟩
    case round =>
      obtain ⟨j, T', w', rfl, hj, HCo, HFl, HFz⟩ := hrel
      by_cases hlt : (j : Int) < (M : Int)
      · have hjM : j < es.length := by have := HM.out; omega
        obtain ⟨g, hg, cur, hcur, hcs⟩ := HOr.out.resolve_left (fun e => by rw [e] at hjM; cases hjM)
        subst hg
        have hcw := (HFz.out.block g cur _ hcur (by decide) (by decide)).trans hcur
        obtain ⟨c0, c1, c2, c3⟩ := hcs j hjM
        have d0 := (cell_of_heap hcw (j * 4)).trans c0
        have d1 := (cell_of_heap hcw (j * 4 + 1)).trans c1
        have d2 := (cell_of_heap hcw (j * 4 + 2)).trans c2
        have d3 := (cell_of_heap hcw (j * 4 + 3)).trans c3
        have htk := comes_take is.length es T wk j hjM
        have her := HEr.out trivial (es.getD j (0, ⟨0, 0, 0⟩)) (by
          rw [List.getD_eq_getElem?_getD, List.getElem?_eq_getElem hjM]
          exact List.getElem_mem _)
        obtain ⟨⟨tt, n1, v1, p1⟩, het⟩ : ∃ e, es.getD j (0, ⟨0, 0, 0⟩) = e := ⟨_, rfl⟩
        rw [het] at d0 d1 d2 d3 htk her
        dsimp only at d0 d1 d2 d3 her
        have hj0 : (0 : Int) ≤ (j : Int) := by omega
        have hst : M - (intOf (.int .i64 ((j + 1 : Nat) : Int))).toNat < M - (intOf (.int .i64 (j : Int))).toNat := by simp only [intOf, Int.toNat_natCast]; omega
        have HSt := hid hst
        have HJ : Hid (j < M ∧ M ≤ 1048576) := ⟨by omega, by have := HM.out; have := HLn.out; omega⟩
        have hB5 := (Below.refl wr.heap.size wr).alloc (Nat.le_refl _) (.cells #[.int .i64 tt, .int .i64 n1, .int .i64 v1, .int .i64 p1] 64)
        have hA5 := (MapKept.heap_alloc wr (.cells #[.int .i64 tt, .int .i64 n1, .int .i64 v1, .int .i64 p1] 64)).1
        obtain ⟨V, hV⟩ : ∃ V, wr.alloc (.cells #[.int .i64 tt, .int .i64 n1, .int .i64 v1, .int .i64 p1] 64) = V := ⟨_, rfl⟩
        rw [hV] at hA5 hB5
        have HFv := hid (HFl.out.below hB5)
        have HZv := hid (HFz.out.trans (Fz.of_below hB5))
        have HCome := hid (comeI_calls HFv.out tt n1 v1 p1 her.2.2.1 her.2.2.2.1 her.2.2.2.2 her.1 her.2.1)
        have htk2 : comesZ is.length T wk (es.take (j + 1)) = comeZ is.length T' w' (tt, ⟨n1, v1, p1⟩) := by rw [htk, HCo.out]; rfl
        have HTk := hid htk2
        have HV := hid hV
        have HJM := hid hjM
        clear hcur hcs hcw c0 c1 c2 c3 htk htk2 het hst hB5 hA5 hV hjM hj her
        go_wp2_with fail
        rw [HV.out]
        refine HCome.out.mono ?_
        rintro e V2 ⟨hbl, hfz, hnone, hsome⟩
        have HBl := hid hbl
        have HZ2 := hid (HZv.out.trans hfz)
        clear d0 d1 d2 d3 hbl hfz HV
        cases hc : comeZ is.length T' w' (tt, ⟨n1, v1, p1⟩) with
        | none =>
          obtain ⟨pb, rfl⟩ := hnone hc
          have HNo : Hid (comesZ is.length T wk es = none) := comes_none is.length es T wk (j + 1) (HTk.out.trans hc)
          clear hnone hsome hc
          go_wp2_with fail
          go_ret
          rw [HSI.out, if_pos trivial, HNo.out]
          exact ⟨HBl.out, fun _ => ⟨pb, rfl⟩, fun x hx => by cases hx⟩
        | some x =>
          obtain ⟨rfl, hfl⟩ := hsome x hc
          have HFn := hid hfl
          have HCn : Hid (comesZ is.length T wk (es.take (j + 1)) = some (x.1, x.2)) := HTk.out.trans hc
          clear hnone hsome hc hfl
          go_wp2_with fail
          try rw [wrap_inc HJ.out.1 HJ.out.2]
          exact ⟨⟨j + 1, x.1, x.2, rfl, HJ.out.1, HCn, HFn, HZ2⟩, HSt.out⟩
      · have hjM : j = M := by omega
        have HAll : Hid (comesZ is.length T wk es = some (T', w')) := by
          show _ = _
          rw [← HCo.out, hjM, ← HM.out, List.take_length]
        clear hj hjM
        go_wp2_with fail
        go_ret
        rw [HSI.out, if_pos trivial, HAll.out]
        refine ⟨HFl.out.bel, fun hx => (by cases hx), fun x hx => ?_⟩
        cases hx
        exact ⟨rfl, HFl.out⟩
end Go.Proofs.YtfmkgppkgmjpfaaDoor
