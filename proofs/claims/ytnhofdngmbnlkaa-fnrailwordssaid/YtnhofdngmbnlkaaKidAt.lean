/- Where a kid stands, and the specification's way to it. -/
import Derived.Test.YtnhofdngmbnlkaaCompBound
namespace Go.Proofs.Ytnhofdngmbnlkaa
open Go.RowKit Go.Deep

theorem kidsAt_first (f : Fo) (p : Nat) (h : 0 < f.count) : ((kidsAt f p).getD 0 default).at_ = p := by
  cases f with
  | none => simp [Fo.count] at h
  | tree n k r => rfl

theorem kidsAt_next : ∀ (f : Fo) (p i : Nat), i + 1 < f.count → ((kidsAt f p).getD (i + 1) default).at_ = ((kidsAt f p).getD i default).at_ + 1 + ((kidsAt f p).getD i default).k.flat.length
  | .none, p, i, h => by simp [Fo.count] at h
  | .tree n k r, p, 0, h => by
    have h1 := kidsAt_first r (p + 1 + k.flat.length) (by simp only [Fo.count] at h; omega)
    simp only [kidsAt, List.getD_cons_succ, List.getD_cons_zero]
    exact h1
  | .tree n k r, p, i + 1, h => by
    have h1 := kidsAt_next r (p + 1 + k.flat.length) i (by simp only [Fo.count] at h; omega)
    simp only [kidsAt, List.getD_cons_succ]
    exact h1

theorem Stands.end {ns : List Nd} {t : Tp} (h : Stands ns t) : treeEnd ns (t.at_ : Int) = ((t.at_ + 1 + t.k.flat.length : Nat) : Int) := by
  obtain ⟨suf, hd⟩ := h.drop
  exact treeEnd_at hd h.kids h.good.wf

theorem Stands.first {ns : List Nd} {t : Tp} (_h : Stands ns t) (h0 : 0 < t.k.count) : (t.kid 0).at_ = t.at_ + 1 := kidsAt_first t.k _ h0
theorem Stands.next {ns : List Nd} {t : Tp} (h : Stands ns t) {i : Nat} (hi : i + 1 < t.k.count) : treeEnd ns ((t.kid i).at_ : Int) = ((t.kid (i + 1)).at_ : Int) := by
  rw [(h.kid (by omega)).end]
  exact congrArg _ (kidsAt_next t.k _ i hi).symm

theorem Stands.lt {ns : List Nd} {t : Tp} (h : Stands ns t) : t.at_ < ns.length ∧ ns.getD t.at_ default = t.n ∧ t.at_ + t.size ≤ ns.length := by
  obtain ⟨suf, hd⟩ := h.drop
  have hl := congrArg List.length hd
  simp only [List.length_drop, List.length_cons, List.length_append] at hl
  refine ⟨by omega, ?_, by unfold Tp.size; omega⟩
  have : ns.getD t.at_ default = (ns.drop t.at_).getD 0 default := by simp [List.getD, List.getElem?_drop]
  rw [this, hd]
  rfl

set_option maxHeartbeats 2000000 in
set_option maxRecDepth 100000 in
theorem kid_calls {b off cap : Nat} {ns : List Nd} {t : Tp} (i : Nat) (W : World) (hn : NodesAt W b off ns) (hm : ns.length ≤ 300) (h : Stands ns t) (hi : i < t.k.count) :
    Calls Try.prog 56 #[.slice (some ⟨b, off, none⟩) ns.length cap, .int .i64 (t.at_ : Int), .int .i64 (i : Int)] W fun e W' => e = .returned (.int .i64 ((t.kid i).at_ : Int)) ∧ W = W' := by
  have HE := hid (fun (at_ : Int) => specEnd_calls b off cap ns at_ W hn (by omega))
  have HS := hid (And.intro h (And.intro hi hm))
  have hlt := h.lt.1
  have HW : Hid (wrap64 ((t.at_ : Int) + 1) = ((t.kid 0).at_ : Int)) := by
    show _ = _
    rw [h.first (by omega)]
    unfold wrap64
    omega
  have HI : Hid (i ≤ 300) := by
    show _ ≤ _
    have h1 := t.kids_len
    have h2 := Fo.count_le t.k
    have h3 := h.lt.2.2
    unfold Tp.size at h3
    omega
  clear hn hm h hi hlt
  generalize ns.length = len at *
  generalize t.at_ = p at *
  go_enter Try.func56, Try.ntmps56
  go_wp2_with fail
  rw [HW.out]
  go_loopw [1, 7] (fun at_ j wr => ∃ (k : Nat), k ≤ i ∧ at_ = .int .i64 ((t.kid k).at_ : Int) ∧ j = .int .i64 (k : Int) ∧ wr = W) (fun _ j _ => i - (intOf j).toNat)
  case atStart => exact ⟨0, Nat.zero_le _, rfl, rfl, rfl⟩
  case round =>
    obtain ⟨k, hk, rfl, rfl, rfl⟩ := hrel
    by_cases hki : (k : Int) < (i : Int)
    · have hnx := HS.out.1.next (i := k) (by have := HS.out.2.1; omega)
      have HC := hid (HE.out ((t.kid k).at_ : Int))
      rw [hnx] at HC
      have hstep : i - (intOf (.int .i64 ((k + 1 : Nat) : Int))).toNat < i - (intOf (.int .i64 (k : Int))).toNat := by simp only [intOf, Int.toNat_natCast]; omega
      clear hnx
      go_wp2_with fail
      refine HC.out.mono ?_
      rintro e W1 ⟨rfl, rfl⟩
      go_wp2_with fail
      try rw [wrap_succ (by have := HI.out; omega)]
      exact ⟨⟨k + 1, by omega, rfl, rfl, trivial⟩, hstep⟩
    · have e : k = i := by omega
      subst e
      go_wp2_with fail
      go_ret
      exact ⟨rfl, rfl⟩
end Go.Proofs.Ytnhofdngmbnlkaa
