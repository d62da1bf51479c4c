/- The specification's decimals of a number that is not negative. -/
import Derived.Test.YtlhdicichdihfaaGreatDoorOwnRow
import Derived.Laws.IdiomStrings
import Derived.Lib.ItoaLen
import Derived.Test.YtlhdicichdihfaaGreatDoorPlainPureMP
namespace Go.Proofs.YtlhdicichdihfaaGreatDoor
open Go.RowKit

theorem dec_append (a b : List UInt8) : (⟨a.toArray⟩ : ByteArray) ++ ⟨b.toArray⟩ = ⟨(a ++ b).toArray⟩ := by
  apply ByteArray.ext
  simp

theorem dec_size (a : List UInt8) : (⟨a.toArray⟩ : ByteArray).size = a.length := by
  simp [ByteArray.size]

def tx (l : List UInt8) : ByteArray := ⟨l.toArray⟩
theorem tx_size (l : List UInt8) : (tx l).size = l.length := dec_size l
theorem tx_append (a b : List UInt8) : tx a ++ tx b = tx (a ++ b) := dec_append a b

/-- Numbers of 64 bits. -/
def Long (n : Int) : Prop := -9223372036854775808 ≤ n ∧ n ≤ 9223372036854775807

/-- The digits of a number, put ahead one by one. -/
def decGo : Nat → Nat → List UInt8 → List UInt8
  | 0, _, out => out
  | f + 1, u, out => if u = 0 then out else decGo f (u / 10) (UInt8.ofNat (48 + u % 10) :: out)

theorem decGo_eq : ∀ (f u : Nat) (out : List UInt8), 0 < u → u < 10 ^ f → decGo f u out = Lib.decDigits u ++ out
  | 0, u, out, h0, h1 => by simp at h1; omega
  | f + 1, u, out, h0, h1 => by
    rw [decGo, if_neg (by omega)]
    by_cases h : u < 10
    · rw [Lib.decDigits_one h, show u / 10 = 0 by omega, show u % 10 = u by omega]
      cases f with
      | zero => rfl
      | succ f => rw [decGo, if_pos rfl]; rfl
    · rw [decGo_eq f (u / 10) _ (by omega) (by rw [Nat.pow_succ] at h1; omega)]
      conv => rhs; rw [Lib.decDigits, dif_neg h]
      simp

theorem itoa_zero : Lib.itoa 0 = [48] := by
  unfold Lib.itoa
  rw [if_neg (by omega)]
  exact Lib.decDigits_one (by decide)

def digB (u : Nat) : ByteArray := ⟨#[UInt8.ofNat (48 + u % 10)]⟩

theorem digB_run (j : Nat) (w : World) : (convert 71 9 (.slice (some ⟨w.heap.size, 0, none⟩) 1 1)).run Tryz.prog (w.alloc (.cells #[.int .u8 (48 + (j : Int) % 10)] 5)) = .ok (.string (digB j)) (w.alloc (.cells #[.int .u8 (48 + (j : Int) % 10)] 5)) := by
  have h := run_convert_bytes_back (P := Tryz.prog) (w.alloc (.cells #[.int .u8 (48 + (j : Int) % 10)] 5)) 71 9 5 ⟨w.heap.size, 0, none⟩ 1 [UInt8.ofNat (48 + j % 10)] Tryz.underlying71 Tryz.underlying5 Tryz.underlying9 (fun i hi => by
    have h0 : i = 0 := by simpa using hi
    subst h0
    simp [Addr.add]
    omega)
  exact h

theorem digB_append (j : Nat) (l : List UInt8) : digB j ++ ⟨l.toArray⟩ = ⟨(UInt8.ofNat (48 + j % 10) :: l).toArray⟩ := dec_append [UInt8.ofNat (48 + j % 10)] l

set_option maxHeartbeats 1000000 in
set_option maxRecDepth 100000 in
theorem l2Dec_pos (u : Nat) (w : World) (hu : 0 < u) (hn : u ≤ 9223372036854775808) :
    Calls Tryz.prog 52 #[.int .i64 (u : Int)] w fun e w' => e = .returned (.string ⟨(Lib.decDigits u).toArray⟩) ∧ Below w.heap.size w w' := by
  obtain ⟨R, hR⟩ : ∃ R, Lib.decDigits u = R := ⟨_, rfl⟩
  have HR : Hid (decGo 19 u [] = R) := by
    show _ = _
    rw [decGo_eq 19 u [] hu (by omega), hR]
    simp
  rw [hR]
  have HN : Hid (u < 10 ^ 19) := by show _ < _; omega
  clear hR hn
  have hb0 : ((u : Int) == 0) = false := by simp; omega
  have hneg : ¬ (u : Int) < 0 := by omega
  go_enter Tryz.func52, Tryz.ntmps52
  go_wp2_with fail
  go_loopw [0, 3] (fun a o wr => ∃ (v f : Nat) (l : List UInt8), a = .int .i64 (v : Int) ∧ o = .string ⟨l.toArray⟩ ∧ Hid (v < 10 ^ f) ∧ Hid (l.length + f ≤ 19) ∧ Hid (decGo f v l = R) ∧ Below w.heap.size w wr) (fun a _ _ => (intOf a).toNat)
  case atStart => exact ⟨u, 19, [], rfl, rfl, HN, by simp [Hid], HR, Below.refl _ _⟩
  case round =>
    obtain ⟨v, f, l, rfl, rfl, HVF, HF, HE, hnx⟩ := hrel
    clear HR hb0 hneg
    by_cases hv0 : v = 0
    · subst hv0
      have hE : l = R := by
        have := HE.out
        cases f with
        | zero => exact this
        | succ f => simpa [decGo] using this
      subst hE
      clear HE
      go_wp2_with fail
      go_ret
      exact ⟨rfl, hnx⟩
    · obtain ⟨f, rfl⟩ : ∃ f', f = f' + 1 := ⟨f - 1, by have h := HVF.out; cases f with | zero => simp at h; omega | succ f => simp⟩
      have HV2 : Hid (v / 10 < 10 ^ f ∧ v < 10000000000000000000) := by
        have h := HVF.out
        have h2 := HF.out
        refine ⟨by rw [Nat.pow_succ] at h; omega, ?_⟩
        exact Nat.lt_of_lt_of_le h (Nat.pow_le_pow_right (n := 10) (j := 19) (by decide) (by omega))
      have hE := HE.out
      rw [decGo, if_neg hv0] at hE
      have HE' : Hid (decGo f (v / 10) (UInt8.ofNat (48 + v % 10) :: l) = R) := hE
      have hb0 : ((v : Int) == 0) = false := by simp; omega
      have hd : ¬ ((v : Int) % 10 < 0) := by omega
      have hcv := digB_run v wr
      have HA : Hid (digB v ++ ⟨l.toArray⟩ = ⟨(UInt8.ofNat (48 + v % 10) :: l).toArray⟩) := digB_append v l
      have hdz : (digB v).size = 1 := rfl
      have hcat : ¬ 9223372036854775807 < 1 + l.length := by have := HF.out; omega
      clear HE hE
      generalize digB v = dj at *
      go_wp2_with fail
      have ew : wrap64 ((v : Int) / 10) = ((v / 10 : Nat) : Int) := by have := HV2.out; unfold wrap64; omega
      rw [HA.out, ew]
      refine ⟨⟨v / 10, f, _, rfl, rfl, HV2.out.1, ?_, HE', hnx.alloc hnx.size _⟩, by simp only [intOf, Int.toNat_natCast]; omega⟩
      show (_ :: l).length + f ≤ _
      have := HF.out
      simp only [List.length_cons]
      omega

set_option maxRecDepth 100000 in
theorem l2Dec_zero (w : World) : Calls Tryz.prog 52 #[.int .i64 0] w fun e w' => e = .returned (.string ⟨#[48]⟩) ∧ w = w' := by
  go_enter Tryz.func52, Tryz.ntmps52
  go_wp2_with fail
  go_ret
  exact ⟨rfl, rfl⟩
end Go.Proofs.YtlhdicichdihfaaGreatDoor

/- What the specification's plainer keeps in memory; its small functions. -/
namespace Go.Proofs.YtlhdicichdihfaaGreatDoor
open Go.RowKit Go.Deep

/-- The plainer, as it lies. -/
structure Pls (W0 : World) (Pb : Nat) (tv : Value) (s : Wst) (vo : Value) (W : World) : Prop where
  blk : W.heap[Pb]? = some (.cells #[tv, vo, .int .i64 (s.made : Int)] 40)
  row : W.ownsRow W0.heap.size 42 6 vo s.plain.length (ndRow s.plain)
  os : W.os = W0.os
  tape : W.tape = W0.tape
  output : W.output = W0.output
  size : W0.heap.size ≤ W.heap.size
  kept : ∀ q, q < W0.heap.size → q ≠ Pb → W.heap[q]? = W0.heap[q]?
  nb : Pb < W0.heap.size

theorem Pls.below {W0 : World} {Pb : Nat} {tv : Value} {s : Wst} {vo : Value} {W W' : World} (h : Pls W0 Pb tv s vo W) (hb : Below W.heap.size W W') : Pls W0 Pb tv s vo W' := by
  have hs := h.size
  exact ⟨(hb.block _ (heap_lt h.blk)).trans h.blk, own_same h.row (fun g e => by obtain ⟨-, c, hc⟩ := own_type h.row e; exact hb.block g (heap_lt hc)), hb.os.trans h.os, hb.tape.trans h.tape, hb.output.trans h.output, Nat.le_trans h.size hb.size, fun q hq hn => (hb.block q (by omega)).trans (h.kept q hq hn), h.nb⟩

theorem Pls.apart {W0 : World} {Pb : Nat} {tv : Value} {s : Wst} {vo : Value} {W : World} (h : Pls W0 Pb tv s vo W) {q : Nat} {c : Array Value} {t : TypeId} (hq : W.heap[q]? = some (.cells c t)) : t ≠ 42 → vo.ownBlock ≠ some q := by
  intro ht e
  obtain ⟨-, cur, hc⟩ := own_type h.row e
  rw [hq] at hc
  cases hc
  exact ht rfl

/-- What the plainer's functions leave as it was. -/
abbrev Pfr (Pb : Nat) (vo : Value) (W W' : World) : Prop := Nfr Pb vo (.slice none 0 0) W W'

theorem movd_none (W : World) : Movd W (.slice none 0 0) (.slice none 0 0) := Or.inl rfl

theorem Pfr.trans {Pb : Nat} {vo vo' : Value} {W W' W'' : World} (h : Pfr Pb vo W W') (hp : Movd W vo vo') (h' : Pfr Pb vo' W' W'') : Pfr Pb vo W W'' := Nfr.trans h hp (movd_none W) h'

/-- A slice of names in a row of names. -/
def NamesT (W : World) (v : Value) (ss : List ByteArray) : Prop :=
  (v = .slice none 0 0 ∧ ss = []) ∨ ∃ g c cur, v = .slice (some ⟨g, 0, none⟩) ss.length c ∧ ss.length ≤ c ∧ W.heap[g]? = some (.cells cur 9) ∧ ∀ j, j < ss.length → cur[j]? = some (.string (ss.getD j ⟨#[]⟩))

theorem NamesT.names {W : World} {v : Value} {ss : List ByteArray} (h : NamesT W v ss) : NamesV W v ss := by
  rcases h with h | ⟨g, c, cur, e, -, hg, hc⟩
  · exact Or.inl h
  · exact Or.inr ⟨g, 0, c, e, heap_lt hg, fun j hj => by rw [Nat.zero_add, cell_of_heap hg j]; exact hc j hj⟩

theorem NamesT.below {W W' : World} {v : Value} {ss : List ByteArray} (h : NamesT W v ss) (hb : Below W.heap.size W W') : NamesT W' v ss := by
  rcases h with h | ⟨g, c, cur, e, hl, hg, hc⟩
  · exact Or.inl h
  · exact Or.inr ⟨g, c, cur, e, hl, (hb.block g (heap_lt hg)).trans hg, hc⟩

theorem NamesT.frame {W0 : World} {Pb : Nat} {tv : Value} {s : Wst} {vo : Value} {W W' : World} {v : Value} {ss : List ByteArray} (h : NamesT W v ss) (st : Pls W0 Pb tv s vo W) (hf : Pfr Pb vo W W') : NamesT W' v ss := by
  rcases h with h | ⟨g, c, cur, e, hl, hg, hc⟩
  · exact Or.inl h
  · exact Or.inr ⟨g, c, cur, e, hl, (hf.block g (heap_lt hg) (fun e2 => by subst e2; rw [st.blk] at hg; cases hg) (st.apart hg (by decide)) (by simp [Value.ownBlock])).trans hg, hc⟩

theorem NamesT.slice {W : World} {v : Value} {ss : List ByteArray} (h : NamesT W v ss) : ∃ ad c, v = .slice ad ss.length c := h.names.slice

theorem namesT_owns {W : World} {B : Nat} {v : Value} {n : Nat} {ss : List ByteArray} (h : W.ownsRow B 9 1 v n (strRow ss)) : NamesT W v ss := by
  have hl : n = ss.length := (names_owns h).2
  subst hl
  obtain ⟨-, ⟨rfl, h0⟩ | ⟨g, cap, cur, rfl, hB, hg, h1, h2, h3, h4⟩⟩ := h
  · exact Or.inl ⟨rfl, List.eq_nil_of_length_eq_zero h0⟩
  · refine Or.inr ⟨g, cap, cur, rfl, h1, hg, fun j hj => ?_⟩
    have e := congrArg (fun l => l[j]?) h4
    simp only [List.getElem?_take_of_lt (show j < ss.length * 1 by omega), strRow_get ss j hj, Array.getElem?_toList] at e
    exact e

theorem namesZ_makes (k : Int) : (k ≠ 5 → k ≠ 22 → k ≠ 26 → namesZ k = (makesZ k : Int)) ∧ (k = 26 → namesZ k = 3 ∧ makesZ k = 2) ∧ (k = 22 → namesZ k = 1 ∧ makesZ k = 0) ∧ (k = 5 → namesZ k = 1 ∧ makesZ k = 0) := by
  rcases kinds k with rfl | rfl | rfl | rfl | rfl | rfl | rfl | rfl | rfl | rfl | rfl | rfl | rfl | rfl | rfl | rfl | rfl | rfl | rfl | rfl | rfl | rfl | rfl | rfl | rfl | rfl | h
  all_goals try decide
  have e : namesZ k = 0 := tab_other h
  have e2 : makesZ k = 0 := by
    unfold makesZ
    rw [if_neg (by omega), if_neg (by omega)]
  exact ⟨fun _ _ _ => by rw [e, e2]; rfl, fun _ => by omega, fun _ => by omega, fun _ => by omega⟩

theorem l2Dec_nat (m : Nat) (hm : m ≤ 1000000) (w : World) : Calls Tryz.prog 52 #[.int .i64 (m : Int)] w fun e w' => e = .returned (.string ⟨(Lib.itoa (m : Int)).toArray⟩) ∧ Below w.heap.size w w' := by
  cases m with
  | zero =>
    refine (l2Dec_zero w).mono ?_
    rintro e w' ⟨rfl, rfl⟩
    refine ⟨?_, Below.refl _ _⟩
    rw [show Lib.itoa ((0 : Nat) : Int) = [48] from itoa_zero]
  | succ u =>
    have e : Lib.itoa ((u + 1 : Nat) : Int) = Lib.decDigits (u + 1) := by
      unfold Lib.itoa
      rw [if_neg (by omega), Int.toNat_natCast]
    rw [e]
    exact l2Dec_pos (u + 1) w (by omega) (by omega)

/-- The plainer's third cell is set. -/
theorem pls_made {W0 : World} {Pb : Nat} {tv : Value} {s : Wst} {vo : Value} {W : World} (h : Pls W0 Pb tv s vo W) (m : Nat) : Pls W0 Pb tv { s with made := m } vo (W.setCell ⟨Pb, 2, none⟩ (.int .i64 (m : Int))) ∧ Pfr Pb vo W (W.setCell ⟨Pb, 2, none⟩ (.int .i64 (m : Int))) := by
  have e : ∀ q, q ≠ Pb → (W.setCell ⟨Pb, 2, none⟩ (.int .i64 (m : Int))).heap[q]? = W.heap[q]? := fun q hq => Below.heap_setCell W ⟨Pb, 2, none⟩ _ q hq
  have hs : (W.setCell ⟨Pb, 2, none⟩ (.int .i64 (m : Int))).heap.size = W.heap.size := by simp [World.setCell]
  have ap := h.apart h.blk (by decide)
  refine ⟨⟨?_, own_same h.row (fun g eg => e g (fun e2 => by subst e2; exact ap eg)), h.os, h.tape, h.output, by rw [hs]; exact h.size, fun q hq hn => (e q hn).trans (h.kept q hq hn), h.nb⟩, ⟨rfl, rfl, rfl, by rw [hs]; exact Nat.le_refl _, fun q _ hn _ _ => e q hn⟩⟩
  have hb := h.blk
  simp [World.setCell, Array.getElem?_modify, hb]

set_option maxHeartbeats 1000000 in
set_option maxRecDepth 100000 in
theorem fresh_spec {W0 : World} {Pb : Nat} {tv : Value} {s : Wst} {vo : Value} (W : World) (n : Pls W0 Pb tv s vo W) (hm : s.made ≤ 100000) :
    Calls Tryz.prog 35 #[.pointer (some ⟨Pb, 0, none⟩)] W fun e W' => e = .returned (.string (freshZ s.made)) ∧ Pls W0 Pb tv { s with made := s.made + 1 } vo W' ∧ Pfr Pb vo W W' := by
  obtain ⟨sp, sf, m⟩ := s
  dsimp only at *
  have c2 := cell_of_heap n.blk 2
  have z2 := frozen_of_heap n.blk 2
  simp at c2
  have hw1 : wrap64 ((m : Int) + 1) = (m : Int) + 1 := by unfold wrap64; omega
  have hw2 : wrap64 ((m : Int) + 1 - 1) = (m : Int) := by unfold wrap64; omega
  obtain ⟨n1, f1⟩ := pls_made n (m + 1)
  have hcast : ((m + 1 : Nat) : Int) = (m : Int) + 1 := by omega
  dsimp only at n1 f1
  rw [hcast] at n1 f1
  have HN := hid n1
  have HF := hid f1
  have HI := hid (fun X => l2Dec_nat m (by omega) X)
  have d2 := cell_of_heap n1.blk 2
  simp at d2
  clear n n1 f1 hcast
  go_enter Tryz.func35, Tryz.ntmps35
  go_wp2_with fail
  refine (HI.out _).mono ?_
  rintro e W2 ⟨rfl, hb2⟩
  have HN2 := hid (HN.out.below hb2)
  have HF2 := hid (HF.out.trans (Or.inl rfl) (Nfr.of_below hb2))
  have hva := hid (v_append (Lib.itoa (m : Int)))
  have hds : (⟨(Lib.itoa (m : Int)).toArray⟩ : ByteArray).size ≤ 21 := by
    have := Lib.itoa_length_le (m : Int) (by omega) (by omega)
    simp [ByteArray.size]
    omega
  generalize (⟨(Lib.itoa (m : Int)).toArray⟩ : ByteArray) = D at *
  clear HI HN HF c2 d2 hb2
  go_wp2_with fail
  go_ret
  refine ⟨?_, HN2.out, HF2.out⟩
  have e := hva.out
  unfold freshZ
  rw [← e]
  rfl

theorem from_get (sc : Sco) (m : Nat) (h : m < sc.length) : (fromZ sc).getD m ⟨#[]⟩ = (sc[sc.length - 1 - m]'(by omega)).1 ∧ (toZ sc).getD m ⟨#[]⟩ = (sc[sc.length - 1 - m]'(by omega)).2 := by
  unfold fromZ toZ
  constructor
  · rw [List.getD, List.getElem?_reverse (by simpa using h)]
    simp [show sc.length - 1 - m < sc.length by omega]
  · rw [List.getD, List.getElem?_reverse (by simpa using h)]
    simp [show sc.length - 1 - m < sc.length by omega]

set_option maxHeartbeats 1000000 in
set_option maxRecDepth 100000 in
theorem now_calls {fv tv : Value} {sc : Sco} (s : ByteArray) (w : World) (hf : NamesV w fv (fromZ sc)) (ht : NamesV w tv (toZ sc)) (hl : sc.length ≤ 1000000) :
    Calls Tryz.prog 34 #[fv, tv, .string s] w fun e w' => e = .returned (.string ((findS sc s).getD s)) ∧ w = w' := by
  obtain ⟨ad, c, rfl⟩ := hf.slice
  obtain ⟨ad', c', rfl⟩ := ht.slice
  rw [from_len] at hf ⊢
  rw [to_len] at ht ⊢
  obtain ⟨R, hR⟩ : ∃ R, findS sc s = R := ⟨_, rfl⟩
  rw [hR]
  obtain ⟨L, hL⟩ : ∃ L, sc.length = L := ⟨_, rfl⟩
  rw [hL] at hf ht hl ⊢
  have HR := hid hR
  have HF := hid hf
  have HT := hid ht
  have HL := hid (And.intro hL hl)
  have HW0 : Hid (wrap64 ((L : Int) - 1) = (L : Int) - 1) := by show _ = _; unfold wrap64; omega
  clear hR hf ht hL hl
  go_enter Tryz.func34, Tryz.ntmps34
  go_wp2_with fail
  rw [HW0.out]
  go_loop [7] (fun i => ∃ (z : Int) (m : Nat), i = .int .i64 z ∧ Hid (z = (m : Int) - 1 ∧ m ≤ L ∧ findS (sc.drop (L - m)) s = R)) (fun i => (intOf i + 1).toNat)
  case atStart => exact ⟨_, L, rfl, rfl, Nat.le_refl _, by rw [Nat.sub_self]; exact HR.out⟩
  case round =>
    obtain ⟨z, m, rfl, HZ⟩ := hrel
    cases m with
    | zero =>
      have hz : z = -1 := by have := HZ.out.1; omega
      have hr : R = none := by
        have := HZ.out.2.2
        rw [List.drop_eq_nil_of_le (by have := HL.out.1; omega)] at this
        exact this.symm
      subst hz
      subst hr
      clear HZ HR
      go_wp2_with fail
      go_ret
      exact ⟨rfl, rfl⟩
    | succ m =>
      have hz : z = (m : Int) := by have := HZ.out.1; omega
      subst hz
      have hmL : m < L := by have := HZ.out.2.1; omega
      have hLs := HL.out.1
      obtain ⟨-, g, o, rfl, hg, hc⟩ := HF.out.cell (by omega)
      obtain ⟨-, g', o', rfl, hg', hc'⟩ := HT.out.cell (by omega)
      have c0 := hc m hmL
      have d0 := hc' m hmL
      obtain ⟨e1, e2⟩ := from_get sc m (by omega)
      rw [e1] at c0
      rw [e2] at d0
      have hd : sc.drop (L - (m + 1)) = sc[sc.length - 1 - m]'(by omega) :: sc.drop (L - m) := by
        rw [List.drop_eq_getElem_cons (by omega), show L - (m + 1) + 1 = L - m by omega]
        congr 2
        omega
      have hfd := HZ.out.2.2
      rw [hd] at hfd
      obtain ⟨pr, hpr⟩ : ∃ pr, sc[sc.length - 1 - m]'(by omega) = pr := ⟨_, rfl⟩
      rw [hpr] at c0 d0 hfd
      obtain ⟨x, y⟩ := pr
      dsimp only at c0 d0
      have HFd := hid hfd
      clear e1 e2 hd hfd hpr hc hc' HZ HR
      have hi0 : (0 : Int) ≤ (m : Int) := by omega
      have hiL : (m : Int) < (L : Int) := by omega
      have hge : ((m : Int) ≥ 0) := hi0
      cases he : (x.toList == s.toList) with
      | true =>
        have hxs : x = s := by rw [str_eq, decide_eq_true_eq] at he; exact he
        have hr : R = some y := by
          have := HFd.out
          unfold findS at this
          rw [if_pos hxs] at this
          exact this.symm
        subst hr
        clear hxs HFd
        go_wp2_with fail
        go_ret
        exact ⟨rfl, rfl⟩
      | false =>
        have hxs : x ≠ s := by rw [str_eq, decide_eq_false_iff_not] at he; exact he
        have HN : Hid (findS (sc.drop (L - m)) s = R) := by
          have := HFd.out
          unfold findS at this
          rw [if_neg hxs] at this
          exact this
        have HW : Hid (wrap64 ((m : Int) - 1) = (m : Int) - 1) := by show _ = _; have := HL.out.2; unfold wrap64; omega
        clear hxs HFd hLs
        go_wp2_with fail
        rw [HW.out]
        refine ⟨⟨(m : Int) - 1, m, rfl, rfl, by omega, HN.out⟩, ?_⟩
        simp [intOf]
end Go.Proofs.YtlhdicichdihfaaGreatDoor

/- Two rows of names side by side; the plainer's row of nodes grows. -/
namespace Go.Proofs.YtlhdicichdihfaaGreatDoor
open Go.RowKit Go.Deep

/-- Two rows of names of one's own, in two blocks. -/
structure Two (B : Nat) (X : World) (v : Value) (ss : List ByteArray) (u : Value) (ys : List ByteArray) : Prop where
  one : X.ownsRow B 9 1 v ss.length (strRow ss)
  two : X.ownsRow B 9 1 u ys.length (strRow ys)
  ap : ∀ q, v.ownBlock = some q → u.ownBlock ≠ some q

theorem Two.symm {B : Nat} {X : World} {v u : Value} {ss ys : List ByteArray} (h : Two B X v ss u ys) : Two B X u ys v ss := ⟨h.two, h.one, fun q e e' => h.ap q e' e⟩

theorem own_empty {B : Nat} (X : World) (h : B ≤ X.heap.size) : (X.alloc (.cells #[] 9)).ownsRow B 9 1 (.slice (some ⟨X.heap.size, 0, none⟩) 0 0) ([] : List ByteArray).length (strRow []) := World.ownsRow_made X #[] 0 h (Nat.zero_le _) rfl

theorem two_new {B : Nat} {X : World} {v : Value} {ss : List ByteArray} (h : X.ownsRow B 9 1 v ss.length (strRow ss)) (hB : B ≤ X.heap.size) : Two B (X.alloc (.cells #[] 9)) v ss (.slice (some ⟨X.heap.size, 0, none⟩) 0 0) [] :=
  ⟨h.alloc _, own_empty X hB, fun q e e' => by
    have := (h.lt q e).2
    simp [Value.ownBlock] at e'
    omega⟩

theorem Two.app {B : Nat} {X : World} {v u : Value} {ss ys : List ByteArray} (h : Two B X v ss u ys) (ty : TypeId) {xv : Value} {zs : List ByteArray} (hx : NamesV X xv zs) (hm : ss.length + zs.length ≤ 200000) (hB : B ≤ X.heap.size) :
    ∃ v' X', (Builtin.append_ #[30, 30] ty #[v, xv]).run Tryz.prog X = .ok v' X' ∧ Two B X' v' (ss ++ zs) u ys ∧ (∀ w0, Below B w0 X → Below B w0 X') := by
  obtain ⟨v', X', hr, ho, hg, hat⟩ := app_names ty h.one hx hm hB
  refine ⟨v', X', hr, ⟨ho, ?_, fun q e e' => ?_⟩, fun w0 hb => Below.grown hb hg hB (fun j hj => (h.one.lt j hj).1)⟩
  · exact own_same h.two (fun g e => hg.block g (h.two.lt g e).2 (fun e2 => h.ap g e2.symm e))
  · rcases hat with h1 | h1
    · exact h.ap q (h1 ▸ e) e'
    · rw [h1] at e
      cases e
      have := (h.two.lt _ e').2
      omega

theorem own_app {B : Nat} {X : World} {v : Value} {ss : List ByteArray} (h : X.ownsRow B 9 1 v ss.length (strRow ss)) (ty : TypeId) {xv : Value} {zs : List ByteArray} (hx : NamesV X xv zs) (hm : ss.length + zs.length ≤ 200000) (hB : B ≤ X.heap.size) :
    ∃ v' X', (Builtin.append_ #[30, 30] ty #[v, xv]).run Tryz.prog X = .ok v' X' ∧ X'.ownsRow B 9 1 v' (ss ++ zs).length (strRow (ss ++ zs)) ∧ (∀ w0, Below B w0 X → Below B w0 X') := by
  obtain ⟨v', X', hr, ho, hg, -⟩ := app_names ty h hx hm hB
  exact ⟨v', X', hr, ho, fun w0 hb => Below.grown hb hg hB (fun j hj => (h.lt j hj).1)⟩

/-- A block that is neither the plainer's nor its row's. -/
theorem free_newP {W0 : World} {Pb : Nat} {tv : Value} {s : Wst} {vo : Value} {X Y : World} (st : Pls W0 Pb tv s vo X) {q : Nat} (h1 : X.heap.size ≤ q) (h2 : q < Y.heap.size) : Free Pb q vo (.slice none 0 0) Y :=
  ⟨h2, by have := st.nb; have := st.size; omega, fun e => by obtain ⟨-, c, hc⟩ := own_type st.row e; have := heap_lt hc; omega, by simp [Value.ownBlock]⟩

/-- The row of nodes grew, and the plainer was told so. -/
theorem pls_plain {W0 : World} {Pb : Nat} {tv : Value} {s : Wst} {vo vo' : Value} {W W' : World} {m : Nd} (h : Pls W0 Pb tv s vo W) (ho : W'.ownsRow W0.heap.size 42 6 vo' (s.plain.length + 1) (ndRow s.plain ++ [.int .i64 m.kind, .int .i64 m.num, .string m.a, .string m.b, .string m.c, .int .i64 m.kids])) (hg : W.grownBy W' vo.ownBlock) (hat : vo'.ownBlock = vo.ownBlock ∨ vo'.ownBlock = some W.heap.size) :
    Pls W0 Pb tv { s with plain := s.plain ++ [m] } vo' (W'.setCell ⟨Pb, 1, none⟩ vo') ∧ Pfr Pb vo W (W'.setCell ⟨Pb, 1, none⟩ vo') ∧ Movd W vo vo' := by
  have e : ∀ q, q ≠ Pb → (W'.setCell ⟨Pb, 1, none⟩ vo').heap[q]? = W'.heap[q]? := fun q hq => Below.heap_setCell W' ⟨Pb, 1, none⟩ _ q hq
  have hs : (W'.setCell ⟨Pb, 1, none⟩ vo').heap.size = W'.heap.size := by simp [World.setCell]
  have ap := h.apart h.blk (by decide)
  have hlt := heap_lt h.blk
  have hb' : W'.heap[Pb]? = some (.cells #[tv, vo, .int .i64 (s.made : Int)] 40) := (hg.block Pb hlt (fun e => ap e.symm)).trans h.blk
  have hne : ∀ q, vo'.ownBlock = some q → q ≠ Pb := fun q eq e2 => by
    subst e2
    obtain ⟨-, cur, hc⟩ := own_type ho eq
    rw [hb'] at hc
    cases hc
  have hnb := h.nb
  have hsz := h.size
  refine ⟨⟨by simp [World.setCell, Array.getElem?_modify, hb'], ?_, hg.os.trans h.os, hg.tape.trans h.tape, hg.output.trans h.output, by rw [hs]; exact Nat.le_trans h.size hg.size, fun q hq hn => ?_, h.nb⟩, ⟨hg.os, hg.tape, hg.output, by rw [hs]; exact hg.size, fun q hq hn hv _ => (e q hn).trans (hg.block q hq (fun e2 => hv e2.symm))⟩, ?_⟩
  · have e3 : ndRow (s.plain ++ [m]) = ndRow s.plain ++ [.int .i64 m.kind, .int .i64 m.num, .string m.a, .string m.b, .string m.c, .int .i64 m.kids] := ndRow_snoc _ _
    dsimp only
    rw [e3, List.length_append]
    exact own_same ho (fun g eg => e g (hne g eg))
  · refine (e q hn).trans ((hg.block q (by omega) (fun e2 => ?_)).trans (h.kept q hq hn))
    have := (own_type h.row e2.symm).1
    omega
  · rcases hat with h1 | h1
    · exact Or.inl h1
    · exact Or.inr ⟨_, h1, Nat.le_refl _⟩

theorem Pls.grown {W0 : World} {Pb : Nat} {tv : Value} {s : Wst} {vo : Value} {X X' : World} {row : Option Nat} (h : Pls W0 Pb tv s vo X) (hg : X.grownBy X' row) (hr : ∀ q, row = some q → W0.heap.size ≤ q ∧ vo.ownBlock ≠ some q) : Pls W0 Pb tv s vo X' := by
  have hnb := h.nb
  have hsz := h.size
  have hne : ∀ q, q < W0.heap.size → some q ≠ row := fun q hq e => by have := (hr q e.symm).1; omega
  exact ⟨(hg.block Pb (by omega) (hne Pb hnb)).trans h.blk, own_same h.row (fun g e => hg.block g (h.row.lt g e).2 (fun e2 => (hr g e2.symm).2 e)), hg.os.trans h.os, hg.tape.trans h.tape, hg.output.trans h.output, Nat.le_trans hsz hg.size, fun q hq hn => (hg.block q (by omega) (hne q hq)).trans (h.kept q hq hn), hnb⟩

theorem Pls.free {W0 : World} {Pb : Nat} {tv : Value} {s s' : Wst} {vo : Value} {W : World} (h : Pls W0 Pb tv s vo W) (h1 : s'.plain = s.plain) (h2 : s'.made = s.made) : Pls W0 Pb tv s' vo W :=
  ⟨by rw [h2]; exact h.blk, by rw [h1]; exact h.row, h.os, h.tape, h.output, h.size, h.kept, h.nb⟩

/-- Where the making of names stands: what is not the names. -/
structure Mkg (W0 : World) (Pb : Nat) (tv : Value) (s : Wst) (vo : Value) (W W3 : World) (ab d : Nat) (X : World) : Prop where
  st : Pls W0 Pb tv { s with made := s.made + d } vo X
  fr : Pfr Pb vo W X
  size : W3.heap.size ≤ X.heap.size
  blk : ∀ q, W.heap.size ≤ q → q < W3.heap.size → q ≠ ab → X.heap[q]? = W3.heap[q]?
  vlt : ∀ q, vo.ownBlock = some q → q < W.heap.size
  w0 : W0.heap.size ≤ W.heap.size
  ablt : W.heap.size ≤ ab ∧ ab < W3.heap.size

theorem Mkg.grown {W0 : World} {Pb : Nat} {tv : Value} {s : Wst} {vo : Value} {W W3 : World} {ab d : Nat} {X X' : World} {row : Option Nat} (h : Mkg W0 Pb tv s vo W W3 ab d X) (hg : X.grownBy X' row) (hr : ∀ q, row = some q → q = ab ∨ W3.heap.size ≤ q) : Mkg W0 Pb tv s vo W W3 ab d X' := by
  have h1 := h.w0
  have h2 := h.ablt
  have h3 := h.size
  have hlo : ∀ q, row = some q → W.heap.size ≤ q := fun q e => by
    rcases hr q e with rfl | h
    · omega
    · omega
  refine ⟨h.st.grown hg (fun q e => ⟨by have := hlo q e; omega, fun e2 => by have := h.vlt q e2; have := hlo q e; omega⟩), ⟨hg.os.trans h.fr.os, hg.tape.trans h.fr.tape, hg.output.trans h.fr.output, Nat.le_trans h.fr.size hg.size, fun q hq h4 h5 h6 => (hg.block q (Nat.lt_of_lt_of_le hq h.fr.size) (fun e => by have := hlo q e.symm; omega)).trans (h.fr.block q hq h4 h5 h6)⟩, Nat.le_trans h.size hg.size, fun q hq hq' hne => (hg.block q (by omega) (fun e => by rcases hr q e.symm with h | h; exact hne h; omega)).trans (h.blk q hq hq' hne), h.vlt, h.w0, h.ablt⟩

theorem Mkg.apart {W0 : World} {Pb : Nat} {tv : Value} {s : Wst} {vo : Value} {W W3 : World} {ab d : Nat} {X : World} (h : Mkg W0 Pb tv s vo W W3 ab d X) {q : Nat} (hq : W.heap.size ≤ q) : q ≠ Pb ∧ vo.ownBlock ≠ some q := by
  have h1 := h.w0
  have h2 := h.st.nb
  exact ⟨by omega, fun e => by have := h.vlt q e; omega⟩

theorem Mkg.fresh {W0 : World} {Pb : Nat} {tv : Value} {s : Wst} {vo : Value} {W W3 : World} {ab d : Nat} {X X' : World} (h : Mkg W0 Pb tv s vo W W3 ab d X) (st : Pls W0 Pb tv { s with made := s.made + d + 1 } vo X') (f : Pfr Pb vo X X') : Mkg W0 Pb tv s vo W W3 ab (d + 1) X' :=
  ⟨st, h.fr.trans (Or.inl rfl) f, Nat.le_trans h.size f.size, fun q hq hq' hne => (f.block q (Nat.lt_of_lt_of_le hq' h.size) (h.apart hq).1 (h.apart hq).2 (by simp [Value.ownBlock])).trans (h.blk q hq hq' hne), h.vlt, h.w0, h.ablt⟩

/-- The last cell of a row of names. -/
theorem own_last {X : World} {B n : Nat} {v : Value} {xs : List Value} (h : X.ownsRow B 9 1 v (n + 1) xs) : ∃ g cp, v = .slice (some ⟨g, 0, none⟩) (n + 1) cp ∧ X.cell? ⟨g, n, none⟩ = xs[n]? ∧ B ≤ g ∧ g < X.heap.size := by
  have h' := h
  obtain ⟨-, ⟨_, h0⟩ | ⟨g, cap, cur, rfl, hB, hc, -⟩⟩ := h
  · omega
  · exact ⟨g, cap, rfl, h'.cellAt n (by omega), hB, heap_lt hc⟩
end Go.Proofs.YtlhdicichdihfaaGreatDoor

/- A slice's first names. -/
namespace Go.Proofs.YtlhdicichdihfaaGreatDoor
open Go.RowKit Go.Deep

theorem take_slice {W : World} {nad : Option Addr} {L ncp l : Nat} {ss : List ByteArray} (h : NamesT W (.slice nad L ncp) ss) (hl : l ≤ ss.length) :
    ∃ v', (∀ (a : Act) (o : Oper) (x y : Operand), o.op = .slice 30 x none (some y) none → a.eval x = .slice nad L ncp → a.eval y = .int .i64 (l : Int) → ∀ X, (execOp a.eval o).run Tryz.prog X = .ok (.value v') X) ∧ ∀ X, Below W.heap.size W X → NamesV X v' (ss.take l) := by
  rcases h with ⟨e, rfl⟩ | ⟨g, c, cur, e, hlc, hg, hc⟩
  · cases e
    have h0 : l = 0 := by simpa using hl
    subst h0
    refine ⟨.slice none 0 0, fun a o x y ho hx hy X => ?_, fun X _ => Or.inl ⟨rfl, rfl⟩⟩
    unfold execOp
    simp only [ho, Option.map_none, Option.map_some, hx, hy]
    simp [go_sem, Tryz.underlying30]
  · cases e
    refine ⟨.slice (some ⟨g, 0, none⟩) l ncp, fun a o x y ho hx hy X => ?_, fun X hX => Or.inr ⟨g, 0, ncp, ?_, Nat.lt_of_lt_of_le (heap_lt hg) hX.size, fun j hj => ?_⟩⟩
    · unfold execOp
      simp only [ho, Option.map_none, Option.map_some, hx, hy]
      simp [go_sem, Tryz.underlying30]
      omega
    · rw [List.length_take, Nat.min_eq_left hl]
    · rw [List.length_take, Nat.min_eq_left hl] at hj
      rw [Nat.zero_add, hX.cell (p := ⟨g, j, none⟩) (heap_lt hg), cell_of_heap hg j, hc j (by omega)]
      congr 2
      simp [List.getD, List.getElem?_take_of_lt hj]
end Go.Proofs.YtlhdicichdihfaaGreatDoor
