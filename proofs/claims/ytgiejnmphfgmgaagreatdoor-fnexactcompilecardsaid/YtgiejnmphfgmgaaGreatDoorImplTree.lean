/- Whether nodes are a tree, as the program asks it. -/
import Derived.Test.YtgiejnmphfgmgaaGreatDoorTreeAns
import Derived.Test.YtgiejnmphfgmgaaGreatDoorNodeArgs
namespace Go.Proofs.YtgiejnmphfgmgaaGreatDoor
open Go.RowKit Go.Deep

set_option maxHeartbeats 1000000 in
set_option maxRecDepth 100000 in
theorem formOfTree_calls (b off cap : Nat) (ns : List Nd) (n : Nd) (k : Fo) (w : World) (hm : ns.length ≤ 300) (hfit : ∀ m ∈ ns, Fits m m.kids.toNat) (hbw : b < w.heap.size) (hn : NodesAt w b off ns)
    (h1 : ns = n :: k.flat) (h2 : n.kids = k.count) (h3 : k.wf) :
    Calls Tryz.prog 25 #[.slice (some ⟨b, off, none⟩) ns.length cap] w fun e w' => ∃ v us, e = .returned v ∧ Forms w.heap.size w' k us ∧ Shape w.heap.size w' n us v ∧ Below w.heap.size w w' := by
  have hdr : ns.drop 0 = n :: (k.flat ++ []) := by rw [h1]; simp
  have HC : Hid (Calls _ _ _ _ _) := formAt_calls b off cap ns hm hfit (k.flat.length + 1) n k [] 0 w hbw hn hdr h2 h3 (Nat.lt_succ_self _)
  clear hdr hm hfit hn h1 h2 h3
  generalize ns.length = len at *
  go_enter Tryz.func25, Tryz.ntmps25
  go_wp2_with fail
  refine HC.out.mono ?_
  rintro e w2 ⟨v, us, rfl, hF, hS, hb⟩
  have HX : Hid (Forms w.heap.size w2 k us ∧ Shape w.heap.size w2 n us v ∧ Below w.heap.size w w2) := ⟨hF, hS, hb⟩
  clear hF hS hb
  go_wp2_with fail
  go_ret
  exact ⟨v, us, rfl, HX.out⟩

set_option maxHeartbeats 4000000 in
set_option maxRecDepth 100000 in
theorem implTree_calls (b off cap : Nat) (ns : List Nd) (w : World) (R : Bool) (hm : ns.length ≤ 1048576) (hbw : b < w.heap.size) (hn : NodesAt w b off ns) (hs : Short ns) (hA : ImplAns ns R) :
    Calls Tryz.prog 47 #[.slice (some ⟨b, off, none⟩) ns.length cap] w fun e w' => e = .returned (.bool R) ∧ Below w.heap.size w w' := by
  by_cases hl : 1 ≤ ns.length ∧ ns.length ≤ 300
  · have hrest := hA.rest hl
    obtain ⟨len, hlen⟩ : ∃ len, ns.length = len := ⟨_, rfl⟩
    have Hlen : Hid (ns.length = len) := hlen
    have HR : Hid (Rest ns R nodeOkZ implTree) := hrest
    have HN : Hid (NodesAt w b off ns) := hn
    have HL : Hid (1 ≤ len ∧ len ≤ 300) := by show _ ∧ _; omega
    have HS : Hid (Short ns) := hs
    have h1 : (1 : Int) ≤ (len : Int) := by omega
    have h2 : (len : Int) ≤ 300 := by omega
    rw [hlen]
    clear hrest hn hA hl hm hlen hs
    go_enter Tryz.func47, Tryz.ntmps47
    go_wp2_with fail
    clear h1 h2
    go_loopw [15] (fun i wr => ∃ i' : Nat, i = .int .i64 i' ∧ i' ≤ len ∧ Hid ((ns.take i').all nodeOkZ = true) ∧ Below w.heap.size w wr) (fun i _ => len - (intOf i).toNat)
    case atStart => exact ⟨0, rfl, Nat.zero_le _, rfl, Below.refl _ _⟩
    case round =>
      obtain ⟨i', rfl, hle, HT, hbx⟩ := hrel
      have hnx := HN.out.below hbx hbw
      by_cases hlt : (i' : Int) < (len : Int)
      · have hil : i' < ns.length := by rw [Hlen.out]; omega
        have c0 := hnx i' hil 0 (by omega)
        have c1 := hnx i' hil 1 (by omega)
        have c2 := hnx i' hil 2 (by omega)
        have c3 := hnx i' hil 3 (by omega)
        have c4 := hnx i' hil 4 (by omega)
        have c5 := hnx i' hil 5 (by omega)
        obtain ⟨n, hnn⟩ : ∃ n, ns.getD i' default = n := ⟨_, rfl⟩
        have hF : nodeOkZ n = false → Hid (R = false) := fun h => HR.out.1 (all_false hil (by rw [hnn]; exact h))
        have hT : nodeOkZ n = true → Hid ((ns.take (i' + 1)).all nodeOkZ = true) := fun h => all_take_succ hil HT.out (by rw [hnn]; exact h)
        rw [hnn] at c0 c1 c2 c3 c4 c5
        simp only [Nd.cell, Nat.add_zero] at c0 c1 c2 c3 c4 c5
        have hsh := HS.out n (by rw [← hnn, List.getD, List.getElem?_eq_getElem hil]; exact List.getElem_mem _)
        have HO : Hid (∀ w, _) := fun w => nodeOk_calls n w hsh.1 hsh.2.1 hsh.2.2
        clear hnx hil hnn HT hsh
        obtain ⟨kd, num, a, bb, cc, kids⟩ := n
        dsimp only at *
        go_wp2_with fail
        refine (HO.out _).mono ?_
        rintro e w2 ⟨rfl, hb2⟩
        have hb3 : Below w.heap.size w w2 := (hbx.alloc (by have := hbx.size; omega) _).trans (hb2.mono (by have := hbx.size; simp; omega))
        clear c0 c1 c2 c3 c4 c5 hb2 HO
        cases ho : nodeOkZ ⟨kd, num, a, bb, cc, kids⟩ with
        | false =>
          have HF := hF ho
          clear hF hT
          go_wp2_with fail
          go_ret
          exact ⟨by rw [HF.out]; rfl, hb3⟩
        | true =>
          have HT := hT ho
          clear hF hT
          go_wp2_with fail
          have hs := lt_step hlt
          try rw [wrap_succ (by have := HL.out; omega)]
          exact ⟨⟨i' + 1, rfl, by omega, HT, hb3⟩, hs⟩
      · have e : i' = len := by omega
        subst e
        have hall : ns.all nodeOkZ = true := by
          have := HT.out
          rwa [List.take_of_length_le (by rw [Hlen.out]; exact Nat.le_refl _)] at this
        have HX : Hid (∀ w, NodesAt w b off ns → _) := fun w h => implEnd_calls b off cap ns 0 w h (by rw [Hlen.out]; have := HL.out; omega) (by omega)
        rw [Hlen.out] at HX
        rcases HR.out.2 hall with ⟨hne, hR⟩ | ⟨n, k, g1, g2, g3, g4, hR⟩
        · have hne' : (treeEnd ns 0 != (i' : Int)) = true := by rw [bne_iff_ne]; rw [Hlen.out] at hne; exact hne
          clear HT hall hne
          generalize treeEnd ns 0 = te at *
          subst hR
          go_wp2_with fail
          refine (HX.out wr hnx).mono ?_
          rintro e w2 ⟨rfl, rfl⟩
          go_wp2_with fail
          go_ret
          exact ⟨rfl, hbx⟩
        · have hfit : ∀ m ∈ ns, Fits m m.kids.toNat := fun m hm => by
            have := List.all_eq_true.1 hall m hm
            simp only [nodeOkZ, Bool.and_eq_true] at this
            exact fits_of_own this.1
          have hkl : k.flat.length ≤ 300 := by
            have := HL.out
            have e := Hlen.out
            rw [g1, List.length_cons] at e
            omega
          have HC : Hid (∀ w, b < w.heap.size → NodesAt w b off ns → _) := fun w hb h => clausesOk_calls b off cap ns n k w (by rw [Hlen.out]; have := HL.out; omega) hb h g1 g2 g3
          have HG : Hid (∀ w, b < w.heap.size → NodesAt w b off ns → _) := fun w hb h => formOfTree_calls b off cap ns n k w (by rw [Hlen.out]; have := HL.out; omega) hfit hb h g1 g2 g3
          rw [Hlen.out] at HC HG
          rw [g4, Hlen.out] at HX
          have HE : Hid (R = (implTree n k && decide (k.deep + 1 ≤ 40))) := hR
          have HKL : Hid (k.flat.length ≤ 300) := hkl
          have hee : (((i' : Int)) != (i' : Int)) = false := by simp
          clear HT hall g1 g2 g3 g4 hR HR hfit hkl
          go_wp2_with fail
          refine (HX.out wr hnx).mono ?_
          rintro e w2 ⟨rfl, rfl⟩
          go_wp2_with fail
          refine (HC.out wr (by have := hbx.size; omega) hnx).mono ?_
          rintro e w2 ⟨rfl, hb2⟩
          have hb3 := hbx.trans (hb2.mono hbx.size)
          have hn3 := HN.out.below hb3 hbw
          clear hb2 HX HC
          cases hit : implTree n k with
          | false =>
            go_wp2_with fail
            go_ret
            refine ⟨?_, hb3⟩
            rw [HE.out, hit, Bool.false_and]
            rfl
          | true =>
            go_wp2_with fail
            refine (HG.out w2 (by have := hb3.size; omega) hn3).mono ?_
            rintro e w4 ⟨v, us, rfl, hF4, hS4, hb4⟩
            have hb5 := hb3.trans (hb4.mono hb3.size)
            have HD : Hid (Calls _ _ _ _ _) := deepOf_calls (k.flat.length + 1) _ n k us v w4 hF4 hS4 HKL.out (Nat.lt_succ_self _)
            clear hF4 hS4 hb4 HG hn3
            generalize k.deep + 1 = dd at *
            go_wp2_with fail
            refine HD.out.mono ?_
            rintro e w6 ⟨rfl, hb6⟩
            go_wp2_with fail
            go_ret
            refine ⟨?_, hb5.trans (hb6.mono hb5.size)⟩
            rw [HE.out, hit, Bool.true_and]
            show Ending.returned (Value.bool (decide ((dd : Int) ≤ 40))) = _
            congr 2
            exact decide_eq_decide.2 (by omega)
  · have hR : R = false := by
      rcases hA with ⟨_, h⟩ | ⟨h1, h2, _⟩ | ⟨h1, h2, _⟩
      · exact h
      · exact absurd ⟨h1, h2⟩ hl
      · exact absurd ⟨h1, h2⟩ hl
    subst hR
    have hl' : (ns.length : Int) < 1 ∨ ((1 : Int) ≤ (ns.length : Int) ∧ (300 : Int) < (ns.length : Int)) := by omega
    clear hA hm hn hl hs
    generalize ns.length = len at *
    rcases hl' with h | ⟨h, h'⟩
    all_goals
      go_enter Tryz.func47, Tryz.ntmps47
      go_wp2_with fail
      go_ret
      exact ⟨rfl, Below.refl _ _⟩
end Go.Proofs.YtgiejnmphfgmgaaGreatDoor
