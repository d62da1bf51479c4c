/- Whether an operation is among those of a list: the specification's place of it, the program's test. -/
import Derived.Test.YtkdipppeljpgmaaGreatDoorEffWalks
import Derived.BigQuiet
namespace Go.Proofs.YtkdipppeljpgmaaGreatDoor
open Go.RowKit Go.Deep

def effIn (es : List Ef) (s : ByteArray) : Bool := es.any (fun e => e.name.toList == s.toList)

def effPlace : List Ef → ByteArray → Nat → Int
  | [], _, _ => -1
  | e :: r, s, i => if (e.name.toList == s.toList) = true then i else effPlace r s (i + 1)

theorem effPlace_lt : ∀ (es : List Ef) (s : ByteArray) (i : Nat), effPlace es s i < 0 ↔ effIn es s = false
  | [], s, i => by simp [effPlace, effIn]
  | e :: r, s, i => by
    have ih := effPlace_lt r s (i + 1)
    unfold effPlace
    simp only [effIn, List.any_cons] at *
    split
    · rename_i h
      rw [h]
      simp
    · rename_i h
      have h' : (e.name.toList == s.toList) = false := by simpa using h
      rw [h', Bool.false_or]
      exact ih

theorem effs_drop {es : List Ef} {i : Nat} (hi : i < es.length) : es.drop i = es.getD i default :: es.drop (i + 1) := by
  rw [List.drop_eq_getElem_cons hi]
  simp [List.getD, List.getElem?_eq_getElem hi]

set_option maxHeartbeats 1000000 in
set_option maxRecDepth 100000 in
theorem l2Eff_calls (a0 : Option Addr) (cap : Nat) (es : List Ef) (s : ByteArray) (w : World) (hm : es.length ≤ 1000000) (hn : es ≠ [] → ∃ b off, a0 = some ⟨b, off, none⟩ ∧ EffsAt w b off es) :
    Calls Tryz.prog 37 #[.slice a0 es.length cap, .string s] w fun e w' => e = .returned (.int .i64 (effPlace es s 0)) ∧ w = w' := by
  obtain ⟨len, hlen⟩ : ∃ len, es.length = len := ⟨_, rfl⟩
  have Hlen : Hid (es.length = len) := hlen
  have HM : Hid (len ≤ 1000000) := by show _ ≤ _; omega
  obtain ⟨R, hR⟩ : ∃ R, effPlace es s 0 = R := ⟨_, rfl⟩
  have HR : Hid (effPlace es s 0 = R) := hR
  have HN : Hid (es ≠ [] → ∃ b off, a0 = some ⟨b, off, none⟩ ∧ EffsAt w b off es) := hn
  rw [hlen, hR]
  clear hlen hR hm hn
  go_enter Tryz.func37, Tryz.ntmps37
  go_wp2_with fail
  go_loop [5] (fun i => ∃ k : Nat, i = .int .i64 k ∧ k ≤ len ∧ Hid (effPlace (es.drop k) s k = R)) (fun i => len - (intOf i).toNat)
  case atStart => exact ⟨0, rfl, Nat.zero_le _, HR.out⟩
  case round =>
    obtain ⟨k, rfl, hle, HT⟩ := hrel
    by_cases hlt : (k : Int) < (len : Int)
    · have hil : k < es.length := by rw [Hlen.out]; omega
      obtain ⟨b, off, rfl, hE⟩ := HN.out (fun h => by rw [h] at hil; cases hil)
      have c0 := hE k hil 0 (by omega)
      have hT := HT.out
      rw [effs_drop hil] at hT
      obtain ⟨n, hnd⟩ : ∃ n, es.getD k default = n := ⟨_, rfl⟩
      rw [hnd] at c0 hT
      simp only [Ef.cell, Nat.add_zero] at c0
      clear HT HN hil hE hnd
      cases he : (n.name.toList == s.toList) with
      | true =>
        simp only [effPlace, he, if_true] at hT
        have HT2 : Hid ((k : Int) = R) := hT
        clear hT
        go_wp2_with fail
        go_ret
        exact ⟨by rw [← HT2.out]; rfl, rfl⟩
      | false =>
        have HT2 : Hid (effPlace (es.drop (k + 1)) s (k + 1) = R) := by
          show _ = _
          rw [← hT, effPlace, he]
          simp
        clear hT
        go_wp2_with fail
        have hs : len - (intOf (.int .i64 ((k + 1 : Nat) : Int))).toNat < len - (intOf (.int .i64 (k : Int))).toNat := by simp only [intOf, Int.toNat_natCast]; omega
        try rw [show wrap64 ((k : Int) + 1) = ((k + 1 : Nat) : Int) by have := HM.out; unfold wrap64; omega]
        exact ⟨⟨k + 1, rfl, by omega, HT2⟩, hs⟩
    · have hT := HT.out
      rw [List.drop_eq_nil_of_le (by rw [Hlen.out]; omega)] at hT
      have HT2 : Hid ((-1 : Int) = R) := hT
      clear hT HT HN
      go_wp2_with fail
      go_ret
      exact ⟨by rw [← HT2.out]; rfl, rfl⟩

set_option maxRecDepth 100000 in
theorem closure_calls (a s : ByteArray) (x y : Int) (P : Nat) (w : World) (hP : w.cell? ⟨P, 0, none⟩ = some (.string s)) (hlt : P < w.heap.size) :
    Calls Tryz.prog 81 #[.agg #[.string a, .int .i64 x, .int .i64 y], .pointer (some ⟨P, 0, none⟩)] w fun e w' => e = .returned (.bool (a.toList == s.toList)) ∧ Below w.heap.size w w' := by
  go_enter Tryz.func81, Tryz.ntmps81
  go_wp2_with fail
  go_ret
  exact ⟨rfl, (Below.refl _ _).alloc (Nat.le_refl _) _⟩

set_option maxHeartbeats 1000000 in
set_option maxRecDepth 100000 in
theorem indexFunc_calls (a0 : Option Addr) (cap P : Nat) (es : List Ef) (s : ByteArray) (w : World) (hP : w.cell? ⟨P, 0, none⟩ = some (.string s)) (hPl : P < w.heap.size) (hm : es.length ≤ 1000000) (hn : es ≠ [] → ∃ b off, a0 = some ⟨b, off, none⟩ ∧ b < w.heap.size ∧ EffsAt w b off es) :
    Calls Tryz.prog 101 #[.slice a0 es.length cap, .func (.func 81) #[] #[.pointer (some ⟨P, 0, none⟩)]] w fun e w' => e = .returned (.int .i64 (effPlace es s 0)) ∧ Below w.heap.size w w' := by
  obtain ⟨len, hlen⟩ : ∃ len, es.length = len := ⟨_, rfl⟩
  have Hlen : Hid (es.length = len) := hlen
  have HM : Hid (len ≤ 1000000) := by show _ ≤ _; omega
  obtain ⟨R, hR⟩ : ∃ R, effPlace es s 0 = R := ⟨_, rfl⟩
  have HR : Hid (effPlace es s 0 = R) := hR
  have HN : Hid (es ≠ [] → ∃ b off, a0 = some ⟨b, off, none⟩ ∧ b < w.heap.size ∧ EffsAt w b off es) := hn
  have HP : Hid (w.cell? ⟨P, 0, none⟩ = some (.string s) ∧ P < w.heap.size) := ⟨hP, hPl⟩
  rw [hlen, hR]
  clear hlen hR hm hn hP hPl
  go_enter Tryz.func101, Tryz.ntmps101
  go_wp2_with fail
  go_loopw [8] (fun i wr => ∃ k : Nat, i = .int .i64 k ∧ k ≤ len ∧ Hid (effPlace (es.drop k) s k = R) ∧ Below w.heap.size w wr) (fun i _ => len - (intOf i).toNat)
  case atStart => exact ⟨0, rfl, Nat.zero_le _, HR.out, Below.refl _ _⟩
  case round =>
    obtain ⟨k, rfl, hle, HT, hbx⟩ := hrel
    by_cases hlt : (k : Int) < (len : Int)
    · have hil : k < es.length := by rw [Hlen.out]; omega
      obtain ⟨b, off, rfl, hbw, hE0⟩ := HN.out (fun h => by rw [h] at hil; cases hil)
      have hE := hE0.below hbx hbw
      have c0 := hE k hil 0 (by omega)
      have c1 := hE k hil 1 (by omega)
      have c2 := hE k hil 2 (by omega)
      have hT := HT.out
      rw [effs_drop hil] at hT
      obtain ⟨n, hnd⟩ : ∃ n, es.getD k default = n := ⟨_, rfl⟩
      rw [hnd] at c0 c1 c2 hT
      simp only [Ef.cell, Nat.add_zero] at c0 c1 c2
      have HC : Hid (∀ a x y, _) := fun a x y => closure_calls a s x y P wr ((hbx.cell (p := ⟨P, 0, none⟩) HP.out.2).trans HP.out.1) (Nat.lt_of_lt_of_le HP.out.2 hbx.size)
      have HT1 : Hid (effPlace (n :: es.drop (k + 1)) s k = R) := hT
      clear HT HN hil hE hE0 hnd hT
      go_wp2_with fail
      refine (HC.out _ _ _).mono ?_
      rintro e w2 ⟨rfl, hb2⟩
      have hb3 := hbx.trans (hb2.mono hbx.size)
      clear c0 c1 c2 HC hb2
      cases he : (n.name.toList == s.toList) with
      | true =>
        have HT2 : Hid ((k : Int) = R) := by
          show _ = _
          rw [← HT1.out, effPlace, he]
          simp
        clear HT1
        go_wp2_with fail
        go_ret
        exact ⟨by rw [← HT2.out]; rfl, hb3⟩
      | false =>
        have HT2 : Hid (effPlace (es.drop (k + 1)) s (k + 1) = R) := by
          show _ = _
          rw [← HT1.out, effPlace, he]
          simp
        clear HT1
        go_wp2_with fail
        have hs : len - (intOf (.int .i64 ((k + 1 : Nat) : Int))).toNat < len - (intOf (.int .i64 (k : Int))).toNat := by simp only [intOf, Int.toNat_natCast]; omega
        try rw [show wrap64 ((k : Int) + 1) = ((k + 1 : Nat) : Int) by have := HM.out; unfold wrap64; omega]
        exact ⟨⟨k + 1, rfl, by omega, HT2, hb3⟩, hs⟩
    · have hT := HT.out
      rw [List.drop_eq_nil_of_le (by rw [Hlen.out]; omega)] at hT
      have HT2 : Hid ((-1 : Int) = R) := hT
      clear hT HT HN
      go_wp2_with fail
      go_ret
      exact ⟨by rw [← HT2.out]; rfl, hbx⟩

theorem place_ge (es : List Ef) (s : ByteArray) : decide (0 ≤ effPlace es s 0) = effIn es s := by
  have := effPlace_lt es s 0
  cases h : effIn es s with
  | false => rw [decide_eq_false]; have := this.2 h; omega
  | true =>
    rw [decide_eq_true]
    rcases Int.lt_or_le (effPlace es s 0) 0 with h' | h'
    · rw [this.1 h'] at h; cases h
    · exact h'

set_option maxHeartbeats 1000000 in
set_option maxRecDepth 100000 in
theorem hasEff_calls (a0 : Option Addr) (cap : Nat) (es : List Ef) (s : ByteArray) (w : World) (hm : es.length ≤ 1000000) (hn : es ≠ [] → ∃ b off, a0 = some ⟨b, off, none⟩ ∧ b < w.heap.size ∧ EffsAt w b off es) :
    Calls Tryz.prog 48 #[.slice a0 es.length cap, .string s] w fun e w' => e = .returned (.bool (effIn es s)) ∧ Below w.heap.size w w' := by
  have HW : Hid (w.heap.size < (w.alloc (.cells #[.string s] 9)).heap.size ∧ Below w.heap.size w (w.alloc (.cells #[.string s] 9))) := ⟨by simp, (Below.refl _ _).alloc (Nat.le_refl _) _⟩
  have HX : Hid (Calls _ _ _ _ _) := indexFunc_calls a0 cap w.heap.size es s (w.alloc (.cells #[.string s] 9)) (by simp [go_sem]) HW.out.1 hm (fun h => by
    obtain ⟨b, off, e, hb, hE⟩ := hn h
    exact ⟨b, off, e, Nat.lt_trans hb HW.out.1, hE.below HW.out.2 hb⟩)
  rw [← place_ge]
  clear hm hn
  generalize es.length = len at *
  generalize effPlace es s 0 = R at *
  go_enter Tryz.func48, Tryz.ntmps48
  go_wp2_with fail
  have HY : Hid (Calls Tryz.prog 80 #[.slice a0 len cap, .func (.func 81) #[] #[.pointer (some ⟨w.heap.size, 0, none⟩)]] (w.alloc (.cells #[.string s] 9)) fun e w' => e = .returned (.bool (decide (0 ≤ R))) ∧ Below w.heap.size w w') := by
    show Calls _ _ _ _ _
    go_enter Tryz.func80, Tryz.ntmps80
    go_wp2_with fail
    refine HX.out.mono ?_
    rintro e w2 ⟨rfl, hb2⟩
    have hb3 := HW.out.2.trans (hb2.mono HW.out.2.size)
    clear hb2
    go_wp2_with fail
    go_ret
    exact ⟨rfl, hb3⟩
  refine HY.out.mono ?_
  rintro e w2 ⟨rfl, hb2⟩
  go_wp2_with fail
  go_ret
  exact ⟨rfl, hb2⟩

set_option maxRecDepth 100000 in
theorem baseOk_calls (x : Int) (w : World) :
    Calls Tryz.prog 47 #[.int .i64 x] w fun e w' => e = .returned (.bool (decide (1 ≤ x ∧ x ≤ 4))) ∧ w = w' := by
  have hx : (1 ≤ x ∧ x ≤ 4) ∨ x < 1 ∨ (1 ≤ x ∧ 4 < x) := by omega
  rcases hx with ⟨h1, h2⟩ | h1 | ⟨h1, h2⟩
  · rw [decide_eq_true ⟨h1, h2⟩]
    go_enter Tryz.func47, Tryz.ntmps47
    go_wp2
    all_goals
      go_ret
      exact ⟨by simp_all, rfl⟩
  · rw [decide_eq_false (by omega)]
    go_enter Tryz.func47, Tryz.ntmps47
    go_wp2
    all_goals
      go_ret
      exact ⟨by simp_all, rfl⟩
  · rw [decide_eq_false (by omega)]
    go_enter Tryz.func47, Tryz.ntmps47
    go_wp2
    all_goals
      go_ret
      exact ⟨by simp_all, rfl⟩
end Go.Proofs.YtkdipppeljpgmaaGreatDoor
