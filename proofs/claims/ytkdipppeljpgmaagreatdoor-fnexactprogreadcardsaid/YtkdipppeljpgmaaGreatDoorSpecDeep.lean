/- How deep a tree is, as the specification counts it. -/
import Derived.Test.YtkdipppeljpgmaaGreatDoorPureForest
namespace Go.Proofs.YtkdipppeljpgmaaGreatDoor
open Go.RowKit

theorem at_drop {ns : List Nd} {p : Nat} {n : Nd} {r : List Nd} (h : ns.drop p = n :: r) : p < ns.length ∧ ns.getD p default = n ∧ ns.drop (p + 1) = r := by
  have hp : p < ns.length := by
    have : (ns.drop p).length = r.length + 1 := by rw [h]; rfl
    rw [List.length_drop] at this
    omega
  rw [drop_at hp] at h
  exact ⟨hp, (List.cons.inj h).1, (List.cons.inj h).2⟩

theorem drop_past {ns : List Nd} {p : Nat} {a r : List Nd} (h : ns.drop p = a ++ r) : ns.drop (p + a.length) = r := by
  rw [← List.drop_drop, h, List.drop_left']
  rfl

theorem wrap_succ {x : Nat} (h : x ≤ 1048576) : wrap64 ((x : Int) + 1) = ((x + 1 : Nat) : Int) := by
  unfold wrap64
  omega

theorem lt_step {i kc : Nat} (h : (i : Int) < (kc : Int)) : kc - (intOf (.int .i64 ((i + 1 : Nat) : Int))).toNat < kc - (intOf (.int .i64 (i : Int))).toNat := by
  simp only [intOf, Int.toNat_natCast]
  omega

set_option maxHeartbeats 1000000 in
set_option maxRecDepth 100000 in
theorem deep_calls (b off cap : Nat) (ns : List Nd) (hm : ns.length ≤ 1048576) : ∀ (N : Nat) (n : Nd) (k : Fo) (suf : List Nd) (p : Nat) (w : World), NodesAt w b off ns → ns.drop p = n :: (k.flat ++ suf) → n.kids = k.count → k.wf → k.flat.length < N →
    Calls Tryz.prog 13 #[.slice (some ⟨b, off, none⟩) ns.length cap, .int .i64 p] w fun e w' => e = .returned (.int .i64 ((k.deep + 1 : Nat) : Int)) ∧ w = w' := by
  intro N
  induction N with
  | zero => intro n k suf p w _ _ _ _ h; omega
  | succ N ih =>
    intro n k suf p w hn hp hkc hk hN
    obtain ⟨hpl, hnd, hp1⟩ := at_drop hp
    have hkl : k.flat.length ≤ ns.length := by
      have : (ns.drop (p + 1)).length = k.flat.length + suf.length := by rw [hp1, List.length_append]
      rw [List.length_drop] at this
      omega
    have hkd := Fo.deep_le k
    have hkk := Fo.count_le k
    have c5 := hn p hpl 5 (by omega)
    rw [hnd] at c5
    simp only [Nd.cell] at c5
    rw [hkc] at c5
    have HI : Hid (∀ (n : Nd) (k : Fo) (suf : List Nd) (p : Nat) (w : World), _) := ih
    have HN : Hid (NodesAt w b off ns) := hn
    have HE : Hid (∀ at_ : Int, _) := fun at_ => specEnd_calls b off cap ns at_ w hn hm
    have H1 : Hid (ns.drop (p + 1) = k.flat ++ suf) := hp1
    have Hk : Hid k.wf := hk
    obtain ⟨len, hlen⟩ : ∃ len, ns.length = len := ⟨_, rfl⟩
    have Hlen : Hid (ns.length = len) := hlen
    rw [hlen] at hm hpl hkl ⊢
    clear ih hn hp hp1 hk hnd hlen hkc
    obtain ⟨kc, hkc⟩ : ∃ kc, k.count = kc := ⟨_, rfl⟩
    obtain ⟨kd, hkd'⟩ : ∃ kd, k.deep = kd := ⟨_, rfl⟩
    have Hkc : Hid (k.count = kc) := hkc
    have Hkd : Hid (k.deep = kd) := hkd'
    rw [hkc] at c5 hkk
    rw [hkd'] at hkd ⊢
    have HP : Hid (len ≤ 1048576 ∧ p < len ∧ k.flat.length ≤ len ∧ kc ≤ k.flat.length ∧ kd ≤ k.flat.length ∧ k.flat.length < N + 1) := ⟨hm, hpl, hkl, hkk, hkd, hN⟩
    clear hkc hkd' hm hkl hkk hkd hN
    go_enter Tryz.func13, Tryz.ntmps13
    go_wp2_with fail
    go_loop [5, 6, 7] (fun m q i => ∃ (m' q' i' : Nat) (r : Fo), m = .int .i64 m' ∧ q = .int .i64 q' ∧ i = .int .i64 i' ∧ Hid (ns.drop q' = r.flat ++ suf ∧ r.wf ∧ i' + r.count = kc ∧ max m' r.deep = kd ∧ r.flat.length < N + 1)) (fun _ _ i => kc - (intOf i).toNat)
    case atStart => exact ⟨0, p + 1, 0, k, rfl, by rw [wrap_succ (by have := HP.out; omega)], rfl, H1.out, Hk.out, by rw [Hkc.out]; omega, by rw [Hkd.out]; omega, HP.out.2.2.2.2.2⟩
    case round =>
      obtain ⟨m', q', i', r, rfl, rfl, rfl, HR⟩ := hrel
      cases r with
      | none =>
        obtain ⟨_, _, h1, h2, _⟩ := HR.out
        simp only [Fo.count, Fo.deep] at h1 h2
        have h1' : i' = kc := by omega
        have h2' : m' = kd := by omega
        subst h1' h2'
        clear HR h1 h2
        go_wp2_with fail
        go_ret
        exact ⟨by rw [wrap_succ (by have := HP.out; omega)]; rfl, rfl⟩
      | tree n' k' r' =>
        obtain ⟨h0, hw, h1, h2, h3⟩ := HR.out
        obtain ⟨hw0, hw1, hw2⟩ := hw
        simp only [Fo.count, Fo.deep, Fo.flat, List.length_cons, List.length_append] at h1 h2 h3
        simp only [Fo.flat, List.cons_append, List.append_assoc] at h0
        obtain ⟨hql, hqn, hq1⟩ := at_drop h0
        have hend : Hid (treeEnd ns q' = _) := treeEnd_at h0 hw0 hw1
        have hIH := HI.out n' k' (r'.flat ++ suf) q' w HN.out h0 hw0 hw1 (by omega)
        have hEn := HE.out q'
        rw [hend.out] at hEn
        rw [Hlen.out] at hEn hIH hql
        have hnew := drop_past hq1
        have hkd2 := Fo.deep_le k'
        have HC : Hid (Calls _ _ _ _ _) := hIH
        have HT : Hid (Calls _ _ _ _ _) := hEn
        have Hnew : Hid (ns.drop (q' + 1 + k'.flat.length) = r'.flat ++ suf ∧ r'.wf ∧ i' + 1 + r'.count = kc ∧ r'.flat.length < N + 1) := ⟨hnew, hw2, by omega, by omega⟩
        have hi : (i' : Int) < (kc : Int) := by omega
        have H2 : Hid (max m' (max (k'.deep + 1) r'.deep) = kd) := h2
        clear h1 h2 h3 hqn hkd2 hIH hEn HR hnew h0 hw0 hw1 hw2 hq1 hend HI HE HN Hkc Hkd H1 Hk Hlen
        clear hql
        generalize k'.deep + 1 = dd at *
        generalize q' + 1 + k'.flat.length = ee at *
        by_cases hgt : (m' : Int) < (dd : Int)
        · go_wp2_with (first | (go_at_call 13; refine HC.out.mono ?_; rintro e w2 ⟨rfl, rfl⟩) | (go_at_call 34; refine HT.out.mono ?_; rintro e w2 ⟨rfl, rfl⟩))
          have hi9 : i' ≤ 1048576 := by have := HP.out; omega
          rw [wrap_succ hi9]
          exact ⟨⟨dd, ee, i' + 1, r', rfl, rfl, rfl, Hnew.out.1, Hnew.out.2.1, Hnew.out.2.2.1, by have := H2.out; omega, Hnew.out.2.2.2⟩, lt_step hi⟩
        · go_wp2_with (first | (go_at_call 13; refine HC.out.mono ?_; rintro e w2 ⟨rfl, rfl⟩) | (go_at_call 34; refine HT.out.mono ?_; rintro e w2 ⟨rfl, rfl⟩))
          have hi9 : i' ≤ 1048576 := by have := HP.out; omega
          rw [wrap_succ hi9]
          exact ⟨⟨m', ee, i' + 1, r', rfl, rfl, rfl, Hnew.out.1, Hnew.out.2.1, Hnew.out.2.2.1, by have := H2.out; omega, Hnew.out.2.2.2⟩, lt_step hi⟩
end Go.Proofs.YtkdipppeljpgmaaGreatDoor
