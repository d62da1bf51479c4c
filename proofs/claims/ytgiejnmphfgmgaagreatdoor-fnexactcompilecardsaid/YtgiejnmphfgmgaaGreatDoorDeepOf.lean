/- How deep a form is. -/
import Derived.Test.YtgiejnmphfgmgaaGreatDoorKidsOf
namespace Go.Proofs.YtgiejnmphfgmgaaGreatDoor
open Go.RowKit Go.Deep

theorem max_step (d x : Nat) : (if d < x then (x : Int) else (d : Int)) = ((max d x : Nat) : Int) := by
  split <;> omega

set_option maxHeartbeats 4000000 in
set_option maxRecDepth 100000 in
theorem deepOf_calls : ∀ (N B : Nat) (n : Nd) (k : Fo) (us : List Value) (v : Value) (w : World), Forms B w k us → Shape B w n us v → k.flat.length ≤ 300 → k.flat.length < N →
    Calls Tryz.prog 82 #[v] w fun e w' => e = .returned (.int .i64 ((k.deep + 1 : Nat) : Int)) ∧ Below w.heap.size w w' := by
  intro N
  induction N with
  | zero => intro B n k us v w _ _ _ h; omega
  | succ N ih =>
    intro B n k us v w hF hS hm hN
    obtain ⟨T, pv, g, rv, rfl, hmth, hcf, hK⟩ := kidsOf hS hF.ifaces
    have hlen := hF.length
    have hd := Fo.deep_le k
    have HI : Hid (∀ (B : Nat) (n : Nd) (k : Fo) (us : List Value) (v : Value) (w : World), _) := ih
    have HF : Hid (Forms B w k us ∧ us.length = k.count ∧ k.flat.length ≤ 300 ∧ k.flat.length < N + 1 ∧ k.deep ≤ k.flat.length) := ⟨hF, hlen, hm, hN, hd⟩
    have HK : Hid (Calls _ _ _ _ _) := hK
    clear ih hF hS hm hN hlen hd hK
    go_enter Tryz.func82, Tryz.ntmps82
    go_wp2_with fail
    refine HK.out.mono ?_
    rintro e w1 ⟨sv, rfl, hsl, hb1⟩
    clear HK hmth hcf
    rcases hsl with ⟨rfl, ad, c, rfl⟩ | ⟨g0, o, cap, rfl, _, hg0, hc0⟩
    · have hk : k = .none := by
        have := HF.out.2.1
        cases k with
        | none => rfl
        | tree => simp [Fo.count] at this
      subst hk
      go_wp2_with fail
      refine wp_loop_rounds 1 ?_
      rw [rounds_succ]
      go_wp2_with fail
      go_ret
      exact ⟨rfl, hb1⟩
    · obtain ⟨L, hL⟩ : ∃ L, us.length = L := ⟨_, rfl⟩
      have HC0 : Hid (us.length = L ∧ ∀ j, j < us.length → w1.cell? ⟨g0, o + j, none⟩ = us[j]?) := ⟨hL, hc0⟩
      rw [hL]
      clear hc0 hL
      go_wp2_with fail
      go_loopw [3, 9] (fun d i wr => ∃ (d' i' : Nat) (r : Fo) (rest : List Value), d = .int .i64 d' ∧ i = .int .i64 i' ∧ Hid (Forms B wr r rest ∧ us.drop i' = rest ∧ i' + r.count = L ∧ max d' r.deep = k.deep ∧ r.flat.length < N + 1 ∧ r.flat.length ≤ 300) ∧ Below w1.heap.size w1 wr) (fun _ i _ => L - (intOf i).toNat)
      case atStart =>
        obtain ⟨f1, f2, f3, f4, f5⟩ := HF.out
        exact ⟨0, 0, k, us, rfl, rfl, ⟨f1.below hb1, rfl, by rw [← f2, HC0.out.1]; omega, by omega, f4, f3⟩, Below.refl _ _⟩
      case round =>
        obtain ⟨d', i', r, rest, rfl, rfl, HR, hbr⟩ := hrel
        have hB := hb1.trans (hbr.mono hb1.size)
        have HD : Hid (k.deep ≤ 300) := by show _ ≤ _; have := HF.out; omega
        cases r with
        | none =>
          obtain ⟨_, _, h1, h2, _⟩ := HR.out
          simp only [Fo.count, Fo.deep] at h1 h2
          have h1' : i' = L := by omega
          have h2' : d' = k.deep := by omega
          subst h1'
          have HD2 : Hid (d' = k.deep) := h2'
          clear HR h1 h2 h2' HI HF
          go_wp2_with fail
          try rw [wrap_succ (by rw [HD2.out]; have := HD.out; omega)]
          go_ret
          exact ⟨by rw [← HD2.out]; rfl, hB⟩
        | tree n' k' r' =>
          obtain ⟨⟨v', us', rest', e1, hF1, hS1, hF2⟩, e2, h1, h2, h3, h4⟩ := HR.out
          simp only [Fo.count, Fo.deep, Fo.flat, List.length_cons, List.length_append] at h1 h2 h3 h4
          rw [e1] at e2
          have hi : (i' : Int) < (L : Int) := by omega
          have hil : i' < us.length := by rw [HC0.out.1]; omega
          have hcell : wr.cell? ⟨g0, o + i', none⟩ = some v' := by
            rw [hbr.cell (p := ⟨g0, o + i', none⟩) hg0, HC0.out.2 i' hil]
            rw [List.drop_eq_getElem_cons hil] at e2
            rw [List.getElem?_eq_getElem hil, (List.cons.inj e2).1]
          have hdrop : us.drop (i' + 1) = rest' := by
            rw [List.drop_eq_getElem_cons hil] at e2
            exact (List.cons.inj e2).2
          obtain ⟨T', p', rfl⟩ := hS1.iface
          have hIH := HI.out B n' k' us' _ wr hF1 hS1 (by omega) (by omega)
          have HC : Hid (Calls _ _ _ _ _) := hIH
          have HX : Hid (Forms B wr r' rest' ∧ us.drop (i' + 1) = rest' ∧ i' + 1 + r'.count = L ∧ max (max d' (k'.deep + 1)) r'.deep = k.deep ∧ r'.flat.length < N + 1 ∧ r'.flat.length ≤ 300) := ⟨hF2, hdrop, by omega, by omega, by omega, by omega⟩
          clear HR hF1 hS1 hF2 e1 e2 h1 h2 h3 h4 hil hdrop hIH
          generalize k'.deep + 1 = x at *
          go_wp2_with fail
          refine HC.out.mono ?_
          rintro e w2 ⟨rfl, hb2⟩
          have hbr2 := hbr.trans (hb2.mono hbr.size)
          have HB2 : Hid (Below wr.heap.size wr w2) := hb2
          clear hb2
          go_wp2_with fail
          have hi9 : i' ≤ 1048576 := by have := HF.out; have := HC0.out.1; have := Fo.count_le k; omega
          rw [wrap_succ hi9]
          obtain ⟨x1, x2, x3, x4, x5, x6⟩ := HX.out
          exact ⟨⟨max d' x, i' + 1, r', rest', by rw [max_step], rfl, ⟨x1.below HB2.out, x2, x3, x4, x5, x6⟩, hbr2⟩, lt_step hi⟩
end Go.Proofs.YtgiejnmphfgmgaaGreatDoor
