/- Whether nodes are a tree, as the specification asks it. -/
import Derived.Test.YtnhofdngmbnlkaaTreeAns
import Derived.Test.YtnhofdngmbnlkaaSpecOwnB
namespace Go.Proofs.Ytnhofdngmbnlkaa
open Go.RowKit Go.Deep

set_option maxHeartbeats 4000000 in
set_option maxRecDepth 100000 in
theorem specTree_calls (b off cap : Nat) (ns : List Nd) (w : World) (R : Bool) (hm : ns.length ≤ 1048576) (hbw : b < w.heap.size) (hn : NodesAt w b off ns) (hA : SpecAns ns R) :
    Calls Try.prog 40 #[.slice (some ⟨b, off, none⟩) ns.length cap] w fun e w' => e = .returned (.bool R) ∧ Below w.heap.size w w' := by
  by_cases hl : 1 ≤ ns.length ∧ ns.length ≤ 300
  · have hrest := hA.rest hl
    obtain ⟨len, hlen⟩ : ∃ len, ns.length = len := ⟨_, rfl⟩
    have Hlen : Hid (ns.length = len) := hlen
    have HR : Hid (Rest ns R ownOk (fun n k => specTree n k 0)) := hrest
    have HN : Hid (NodesAt w b off ns) := hn
    have HL : Hid (1 ≤ len ∧ len ≤ 300) := by show _ ∧ _; omega
    have h1 : (1 : Int) ≤ (len : Int) := by omega
    have h2 : (len : Int) ≤ 300 := by omega
    rw [hlen]
    clear hrest hn hA hl hm hlen
    go_enter Try.func40, Try.ntmps40
    go_wp2_with fail
    clear h1 h2
    go_loopw [3] (fun i wr => ∃ i' : Nat, i = .int .i64 i' ∧ i' ≤ len ∧ Hid ((ns.take i').all ownOk = true) ∧ Below w.heap.size w wr) (fun i _ => len - (intOf i).toNat)
    case atStart => exact ⟨0, rfl, Nat.zero_le _, rfl, Below.refl _ _⟩
    case round =>
      obtain ⟨i', rfl, hle, HT, hbx⟩ := hrel
      have hnx := HN.out.below hbx hbw
      by_cases hlt : (i' : Int) < (len : Int)
      · have hil : i' < ns.length := by rw [Hlen.out]; omega
        have c0 := hnx i' hil 0 (by omega)
        have c1 := hnx i' hil 1 (by omega)
        have c2 := hnx i' hil 2 (by omega)
        have c3 := hnx i' hil 3 (by omega)
        have c4 := hnx i' hil 4 (by omega)
        have c5 := hnx i' hil 5 (by omega)
        obtain ⟨n, hnn⟩ : ∃ n, ns.getD i' default = n := ⟨_, rfl⟩
        have hF : ownOk n = false → Hid (R = false) := fun h => HR.out.1 (all_false hil (by rw [hnn]; exact h))
        have hT : ownOk n = true → Hid ((ns.take (i' + 1)).all ownOk = true) := fun h => all_take_succ hil HT.out (by rw [hnn]; exact h)
        rw [hnn] at c0 c1 c2 c3 c4 c5
        simp only [Nd.cell, Nat.add_zero] at c0 c1 c2 c3 c4 c5
        have HO : Hid (∀ w, _) := own_calls n
        clear hnx hil hnn HT
        obtain ⟨kd, num, a, bb, cc, kids⟩ := n
        dsimp only at *
        go_wp2_with fail
        refine (HO.out _).mono ?_
        rintro e w2 ⟨rfl, hb2⟩
        have hb3 := hbx.trans (hb2.mono hbx.size)
        clear c0 c1 c2 c3 c4 c5 hb2 HO
        cases ho : ownOk ⟨kd, num, a, bb, cc, kids⟩ with
        | false =>
          have HF := hF ho
          clear hF hT
          go_wp2_with fail
          go_ret
          exact ⟨by rw [HF.out]; rfl, hb3⟩
        | true =>
          have HT := hT ho
          clear hF hT
          go_wp2_with fail
          have hs := lt_step hlt
          try rw [wrap_succ (by have := HL.out; omega)]
          exact ⟨⟨i' + 1, rfl, by omega, HT, hb3⟩, hs⟩
      · have e : i' = len := by omega
        subst e
        have hall : ns.all ownOk = true := by
          have := HT.out
          rwa [List.take_of_length_le (by rw [Hlen.out]; exact Nat.le_refl _)] at this
        have HX : Hid (∀ w, NodesAt w b off ns → _) := fun w h => specEnd_calls b off cap ns 0 w h (by rw [Hlen.out]; have := HL.out; omega)
        rw [Hlen.out] at HX
        rcases HR.out.2 hall with ⟨hne, hR⟩ | ⟨n, k, g1, g2, g3, g4, hR⟩
        · have hne' : (treeEnd ns 0 == (i' : Int)) = false := by rw [beq_eq_false_iff_ne]; rw [Hlen.out] at hne; exact hne
          clear HT hall hne
          generalize treeEnd ns 0 = te at *
          subst hR
          go_wp2_with fail
          refine (HX.out wr hnx).mono ?_
          rintro e w2 ⟨rfl, rfl⟩
          go_wp2_with fail
          go_ret
          exact ⟨rfl, hbx⟩
        · have hdr : ns.drop 0 = n :: (k.flat ++ []) := by rw [g1]; simp
          have HD : Hid (∀ w, NodesAt w b off ns → _) := fun w h => deep_calls b off cap ns (by rw [Hlen.out]; have := HL.out; omega) (k.flat.length + 1) n k [] 0 w h hdr g2 g3 (Nat.lt_succ_self _)
          have HC : Hid (∀ w, b < w.heap.size → NodesAt w b off ns → _) := fun w hb h => clauses_calls b off cap ns (by rw [Hlen.out]; have := HL.out; omega) (k.flat.length + 1) n k [] 0 0 w (by omega) hb h hdr g2 g3 (Nat.lt_succ_self _)
          rw [Hlen.out] at HD HC
          rw [g4, Hlen.out] at HX
          have HE : Hid (R = (specTree n k 0 && decide (k.deep + 1 ≤ 40))) := hR
          have hee : (((i' : Int)) == (i' : Int)) = true := by simp
          clear HT hall g1 g2 g3 g4 hdr hR HR
          generalize k.deep + 1 = dd at *
          go_wp2_with fail
          refine (HX.out wr hnx).mono ?_
          rintro e w2 ⟨rfl, rfl⟩
          go_wp2_with fail
          refine (HD.out wr hnx).mono ?_
          rintro e w2 ⟨rfl, rfl⟩
          by_cases hdd : (dd : Int) ≤ 40
          · go_wp2_with fail
            refine (HC.out wr (by have := hbx.size; omega) hnx).mono ?_
            rintro e w2 ⟨rfl, hb2⟩
            go_wp2_with fail
            go_ret
            refine ⟨?_, hbx.trans (hb2.mono hbx.size)⟩
            rw [HE.out, decide_eq_true (show dd ≤ 40 by omega), Bool.and_true]
            rfl
          · go_wp2_with fail
            go_ret
            refine ⟨?_, hbx⟩
            rw [HE.out, decide_eq_false (show ¬ dd ≤ 40 by omega), Bool.and_false]
            rfl
  · have hR : R = false := by
      rcases hA with ⟨_, h⟩ | ⟨h1, h2, _⟩ | ⟨h1, h2, _⟩
      · exact h
      · exact absurd ⟨h1, h2⟩ hl
      · exact absurd ⟨h1, h2⟩ hl
    subst hR
    have hl' : (ns.length : Int) < 1 ∨ ((1 : Int) ≤ (ns.length : Int) ∧ (300 : Int) < (ns.length : Int)) := by omega
    clear hA hm hn hl
    generalize ns.length = len at *
    rcases hl' with h | ⟨h, h'⟩
    all_goals
      go_enter Try.func40, Try.ntmps40
      go_wp2_with fail
      go_ret
      exact ⟨rfl, Below.refl _ _⟩
end Go.Proofs.Ytnhofdngmbnlkaa
