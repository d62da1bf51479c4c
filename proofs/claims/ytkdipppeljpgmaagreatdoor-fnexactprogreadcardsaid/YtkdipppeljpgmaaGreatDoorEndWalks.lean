/- The end of a node and all beneath it: the specification's count and the program's come to the same place. -/
import Derived.Test.YtkdipppeljpgmaaGreatDoorNodeWalks
namespace Go.Proofs.YtkdipppeljpgmaaGreatDoor
open Go.RowKit

/-- From a place on, so many nodes owed: the place behind, -1 where the list ends within or a number of kids is none. -/
def endGo (L : Nat) : List Nd → Nat → Nat → Int
  | _, 0, pos => pos
  | [], _ + 1, _ => -1
  | n :: r, owed + 1, pos => if n.kids < 0 ∨ (L : Int) < n.kids then -1 else endGo L r (owed + n.kids.toNat) (pos + 1)

def treeEnd (ns : List Nd) (at_ : Int) : Int := if at_ < 0 ∨ (ns.length : Int) ≤ at_ then -1 else endGo ns.length (ns.drop at_.toNat) 1 at_.toNat

theorem endGo_zero (L : Nat) (r : List Nd) (pos : Nat) : endGo L r 0 pos = pos := by cases r <;> rfl

theorem endGo_short (L : Nat) : ∀ (r : List Nd) (owed pos : Nat), r.length < owed → endGo L r owed pos = -1
  | r, 0, pos, h => by omega
  | [], o + 1, pos, _ => rfl
  | n :: r, o + 1, pos, h => by
    unfold endGo
    split
    · rfl
    · exact endGo_short L r _ _ (by simp at h; omega)

theorem drop_at {ns : List Nd} {p : Nat} (hp : p < ns.length) : ns.drop p = ns.getD p default :: ns.drop (p + 1) := by
  rw [List.drop_eq_getElem_cons hp]
  simp [List.getD, List.getElem?_eq_getElem hp]

theorem endGo_bad {L : Nat} {ns : List Nd} {o p : Nat} (ho : 0 < o) (hp : p < ns.length) (hk : (ns.getD p default).kids < 0 ∨ (L : Int) < (ns.getD p default).kids) : endGo L (ns.drop p) o p = -1 := by
  obtain ⟨o', rfl⟩ : ∃ o', o = o' + 1 := ⟨o - 1, by omega⟩
  rw [drop_at hp]
  unfold endGo
  rw [if_pos hk]

theorem endGo_step {L : Nat} {ns : List Nd} {o p : Nat} (ho : 0 < o) (hp : p < ns.length) (hk : ¬ ((ns.getD p default).kids < 0 ∨ (L : Int) < (ns.getD p default).kids)) :
    endGo L (ns.drop (p + 1)) (o - 1 + (ns.getD p default).kids.toNat) (p + 1) = endGo L (ns.drop p) o p := by
  obtain ⟨o', rfl⟩ : ∃ o', o = o' + 1 := ⟨o - 1, by omega⟩
  rw [drop_at hp]
  show _ = endGo L (_ :: _) (o' + 1) p
  rw [endGo, if_neg hk]
  rfl

set_option maxRecDepth 100000 in
theorem specEnd_calls (b off cap : Nat) (ns : List Nd) (at_ : Int) (w : World) (hn : NodesAt w b off ns) (hm : ns.length ≤ 1048576) :
    Calls Tryz.prog 34 #[.slice (some ⟨b, off, none⟩) ns.length cap, .int .i64 at_] w fun e w' => e = .returned (.int .i64 (treeEnd ns at_)) ∧ w = w' := by
  obtain ⟨R, hR⟩ : ∃ R, treeEnd ns at_ = R := ⟨_, rfl⟩
  rw [hR]
  obtain ⟨len, hlen⟩ : ∃ len, ns.length = len := ⟨_, rfl⟩
  rw [hlen] at hm ⊢
  unfold treeEnd at hR
  rw [hlen] at hR
  by_cases h0 : at_ < 0
  · rw [if_pos (Or.inl h0)] at hR
    subst hR
    go_enter Tryz.func34, Tryz.ntmps34
    go_wp2_with fail
    go_ret
    exact ⟨rfl, rfl⟩
  obtain ⟨p0, rfl⟩ := Int.eq_ofNat_of_zero_le (show 0 ≤ at_ by omega)
  by_cases h1 : (len : Int) ≤ (p0 : Int)
  · rw [if_pos (Or.inr h1)] at hR
    subst hR
    go_enter Tryz.func34, Tryz.ntmps34
    go_wp2_with fail
    go_ret
    exact ⟨rfl, rfl⟩
  rw [if_neg (by omega), Int.toNat_natCast] at hR
  have HR : Hid (endGo len (ns.drop p0) 1 p0 = R) := hR
  have Hlen : Hid (ns.length = len) := hlen
  clear hR hlen
  go_enter Tryz.func34, Tryz.ntmps34
  go_wp2_with fail
  go_loop [1, 5] (fun a o => ∃ p q : Nat, a = .int .i64 p ∧ o = .int .i64 q ∧ p ≤ len ∧ q ≤ 1 + p * 1048576 ∧ Hid (endGo len (ns.drop p) q p = R)) (fun a _ => len - (intOf a).toNat)
  case atStart => exact ⟨p0, 1, rfl, rfl, by omega, by omega, HR⟩
  case round =>
    obtain ⟨p, q, rfl, rfl, hp, hq, HE⟩ := hrel
    clear HR
    by_cases hq0 : q = 0
    · subst hq0
      have hE := HE.out
      rw [endGo_zero] at hE
      subst hE
      clear HE
      go_wp2_with fail
      go_ret
      exact ⟨rfl, rfl⟩
    have hqp : (0 : Int) < (q : Int) := by omega
    by_cases hpl : p < len
    · have c5 := hn p (by rw [Hlen.out]; exact hpl) 5 (by omega)
      obtain ⟨n, hnd⟩ : ∃ n, ns.getD p default = n := ⟨_, rfl⟩
      rw [hnd] at c5
      have hpl' : p < ns.length := by rw [Hlen.out]; exact hpl
      have hbad : (n.kids < 0 ∨ (len : Int) < n.kids) → Hid (R = -1) := fun h => by
        rw [← HE.out]
        exact endGo_bad (by omega) hpl' (by rw [hnd]; exact h)
      have hstep : ¬ (n.kids < 0 ∨ (len : Int) < n.kids) → Hid (endGo len (ns.drop (p + 1)) (q - 1 + n.kids.toNat) (p + 1) = R) := fun h => by
        rw [← HE.out, ← hnd]
        exact endGo_step (by omega) hpl' (by rw [hnd]; exact h)
      simp only [Nd.cell] at c5
      clear hn HE hnd hq0
      by_cases hk0 : n.kids < 0
      · have HB := hbad (Or.inl hk0)
        clear hbad hstep
        go_wp2_with fail
        go_ret
        exact ⟨by rw [HB.out]; rfl, rfl⟩
      by_cases hk1 : (len : Int) < n.kids
      · have HB := hbad (Or.inr hk1)
        clear hbad hstep
        go_wp2_with fail
        go_ret
        exact ⟨by rw [HB.out]; rfl, rfl⟩
      have HS := hstep (by omega)
      clear hbad hstep
      go_wp2_with fail
      refine ⟨⟨p + 1, q - 1 + n.kids.toNat, by simp, ?_, by omega, by omega, HS⟩, by simp [intOf]; omega⟩
      congr 1
      omega
    · have HB : Hid (R = -1) := by
        have hE := HE.out
        rw [endGo_short len _ q p (by rw [List.length_drop, Hlen.out]; omega)] at hE
        exact hE.symm
      clear HE
      go_wp2_with fail
      go_ret
      exact ⟨by rw [HB.out]; rfl, rfl⟩

set_option maxRecDepth 100000 in
theorem implEnd_calls (b off cap : Nat) (ns : List Nd) (at_ : Int) (w : World) (hn : NodesAt w b off ns) (hm : ns.length ≤ 1048576) (hat : at_ ≤ 9223372036854775807) :
    Calls Tryz.prog 76 #[.slice (some ⟨b, off, none⟩) ns.length cap, .int .i64 at_] w fun e w' => e = .returned (.int .i64 (treeEnd ns at_)) ∧ w = w' := by
  obtain ⟨R, hR⟩ : ∃ R, treeEnd ns at_ = R := ⟨_, rfl⟩
  rw [hR]
  obtain ⟨len, hlen⟩ : ∃ len, ns.length = len := ⟨_, rfl⟩
  rw [hlen] at hm ⊢
  unfold treeEnd at hR
  rw [hlen] at hR
  by_cases h0 : at_ < 0
  · rw [if_pos (Or.inl h0)] at hR
    subst hR
    clear hat
    go_enter Tryz.func76, Tryz.ntmps76
    go_wp2_with fail
    go_ret
    exact ⟨rfl, rfl⟩
  obtain ⟨p0, rfl⟩ := Int.eq_ofNat_of_zero_le (show 0 ≤ at_ by omega)
  by_cases h1 : (len : Int) ≤ (p0 : Int)
  · rw [if_pos (Or.inr h1)] at hR
    subst hR
    have hw : Hid (wrap64 ((len : Int) - (p0 : Int)) = (len : Int) - (p0 : Int)) := by
      show wrap64 _ = _
      unfold wrap64
      omega
    have hgt : wrap64 ((len : Int) - (p0 : Int)) < 1 := by rw [hw.out]; omega
    clear hat hw
    go_enter Tryz.func76, Tryz.ntmps76
    go_wp2_with fail
    go_loop [1, 5] (fun a o => a = .int .i64 p0 ∧ o = .int .i64 1) (fun _ _ => 0)
    case atStart => exact ⟨rfl, rfl⟩
    case round =>
      obtain ⟨rfl, rfl⟩ := hrel
      go_wp2_with fail
      go_ret
      exact ⟨rfl, rfl⟩
  rw [if_neg (by omega), Int.toNat_natCast] at hR
  have HR : Hid (endGo len (ns.drop p0) 1 p0 = R) := hR
  have Hlen : Hid (ns.length = len) := hlen
  clear hR hlen hat
  go_enter Tryz.func76, Tryz.ntmps76
  go_wp2_with fail
  go_loop [1, 5] (fun a o => ∃ p q : Nat, a = .int .i64 p ∧ o = .int .i64 q ∧ p ≤ len ∧ q ≤ 1 + p * 1048576 ∧ Hid (endGo len (ns.drop p) q p = R)) (fun a _ => len - (intOf a).toNat)
  case atStart => exact ⟨p0, 1, rfl, rfl, by omega, by omega, HR⟩
  case round =>
    obtain ⟨p, q, rfl, rfl, hp, hq, HE⟩ := hrel
    clear HR
    by_cases hq0 : q = 0
    · subst hq0
      have hE := HE.out
      rw [endGo_zero] at hE
      subst hE
      clear HE
      go_wp2_with fail
      go_ret
      exact ⟨rfl, rfl⟩
    have hqp : (0 : Int) < (q : Int) := by omega
    by_cases hpl : (len : Int) - (p : Int) < (q : Int)
    · have HB : Hid (R = -1) := by
        have hE := HE.out
        rw [endGo_short len _ q p (by rw [List.length_drop, Hlen.out]; omega)] at hE
        exact hE.symm
      clear HE
      go_wp2_with fail
      go_ret
      exact ⟨by rw [HB.out]; rfl, rfl⟩
    · have hpl' : p < ns.length := by rw [Hlen.out]; omega
      have c5 := hn p hpl' 5 (by omega)
      obtain ⟨n, hnd⟩ : ∃ n, ns.getD p default = n := ⟨_, rfl⟩
      rw [hnd] at c5
      have hbad : (n.kids < 0 ∨ (len : Int) < n.kids) → Hid (R = -1) := fun h => by
        rw [← HE.out]
        exact endGo_bad (by omega) hpl' (by rw [hnd]; exact h)
      have hstep : ¬ (n.kids < 0 ∨ (len : Int) < n.kids) → Hid (endGo len (ns.drop (p + 1)) (q - 1 + n.kids.toNat) (p + 1) = R) := fun h => by
        rw [← HE.out, ← hnd]
        exact endGo_step (by omega) hpl' (by rw [hnd]; exact h)
      simp only [Nd.cell] at c5
      have hpl2 : p < len := by omega
      clear hn HE hnd hq0 hpl'
      by_cases hk0 : n.kids < 0
      · have HB := hbad (Or.inl hk0)
        clear hbad hstep
        go_wp2_with fail
        go_ret
        exact ⟨by rw [HB.out]; rfl, rfl⟩
      by_cases hk1 : (len : Int) < n.kids
      · have HB := hbad (Or.inr hk1)
        clear hbad hstep
        go_wp2_with fail
        go_ret
        exact ⟨by rw [HB.out]; rfl, rfl⟩
      have HS := hstep (by omega)
      clear hbad hstep
      go_wp2_with fail
      refine ⟨⟨p + 1, q - 1 + n.kids.toNat, by simp, ?_, by omega, by omega, HS⟩, by simp [intOf]; omega⟩
      congr 1
      omega
end Go.Proofs.YtkdipppeljpgmaaGreatDoor
