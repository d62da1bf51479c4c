/- A program without operations: the specification's ProgOk. -/
import Derived.Test.YtnhofdngmbnlkaaSpecProgC
import Derived.Test.YtnhofdngmbnlkaaSpecTree
namespace Go.Proofs.Ytnhofdngmbnlkaa
open Go.RowKit Go.Deep

set_option maxHeartbeats 8000000 in
set_option maxRecDepth 100000 in
theorem specProgN_calls (bt cn : Nat) (ns : List Nd) (T : Bool) (w : World) (hbt : bt < w.heap.size) (hN : NodesAt w bt 0 ns) (mn : ns.length ≤ 1048576) (hTT : ∀ w' : World, bt < w'.heap.size → NodesAt w' bt 0 ns → Calls Try.prog 40 #[.slice (some ⟨bt, 0, none⟩) ns.length cn] w' fun e w'' => e = .returned (.bool T) ∧ Below w'.heap.size w' w'') :
    Calls Try.prog 26 #[.agg #[.slice none 0 0, .slice (some ⟨bt, 0, none⟩) ns.length cn]] w fun e w' => e = .returned (.bool (progZ [] ns T)) ∧ Below w.heap.size w w' := by
  have hb1 : Below w.heap.size w (w.alloc (.cells #[.slice none 0 0, .slice (some ⟨bt, 0, none⟩) ns.length cn] 45)) := (Below.refl _ _).alloc (Nat.le_refl _) _
  have HT : Hid (Calls _ _ _ _ _) := hTT (w.alloc (.cells #[.slice none 0 0, .slice (some ⟨bt, 0, none⟩) ns.length cn] 45)) (Nat.lt_of_lt_of_le hbt hb1.size) (hN.below hb1 hbt)
  have HB1 : Hid (Below w.heap.size w (w.alloc (.cells #[.slice none 0 0, .slice (some ⟨bt, 0, none⟩) ns.length cn] 45))) := hb1
  have HK1 : Hid ((w.alloc (.cells #[.slice none 0 0, .slice (some ⟨bt, 0, none⟩) ns.length cn] 45)).heap[w.heap.size]? = some (.cells #[.slice none 0 0, .slice (some ⟨bt, 0, none⟩) ns.length cn] 45)) := (MapKept.heap_alloc w _).1
  obtain ⟨R, hR⟩ : ∃ R, progZ [] ns T = R := ⟨_, rfl⟩
  have HR8 : Hid ((T && ns.all (nodeHas [])) = R) := by
    show _ = R
    rw [← hR]
    simp [progZ]
  have HN : Hid (NodesAt w bt 0 ns) := hN
  rw [hR]
  obtain ⟨ln, hln⟩ : ∃ ln, ns.length = ln := ⟨_, rfl⟩
  have Hlen : Hid (ns.length = ln) := hln
  rw [hln] at HT HB1 HK1 ⊢
  have HM : Hid (ln ≤ 1048576) := by show _ ≤ _; omega
  clear hb1 hR hN mn hTT hln
  go_enter Try.func26, Try.ntmps26
  go_wp2_with fail
  refine HT.out.mono ?_
  rintro e w2 ⟨rfl, hb2⟩
  have hbw2 := HB1.out.trans (hb2.mono HB1.out.size)
  have kp2 := (hb2.block w.heap.size (by simp)).trans HK1.out
  clear HT HB1 HK1 hb2
  cases T with
  | false =>
    go_wp2_with fail
    go_ret
    exact ⟨by rw [← HR8.out]; rfl, hbw2⟩
  | true =>
    have HR2 : Hid (ns.all (nodeHas []) = R) := HR8.out
    clear HR8
    have pA := cell_of_heap kp2 0
    have pB := cell_of_heap kp2 1
    simp at pA pB
    go_wp2_with fail
    refine wp_loop_rounds 1 ?_
    rw [rounds_succ]
    go_wp2_with fail
    clear pA pB
    go_loopw [5] (fun j wr => ∃ k : Nat, j = .int .i64 k ∧ k ≤ ln ∧ Hid ((ns.take k).all (nodeHas []) = true) ∧ wr.heap[w.heap.size]? = some (.cells #[.slice none 0 0, .slice (some ⟨bt, 0, none⟩) ln cn] 45) ∧ Below w.heap.size w wr) (fun j _ => ln - (intOf j).toNat)
    case atStart => exact ⟨0, rfl, Nat.zero_le _, rfl, kp2, hbw2⟩
    case round =>
      clear kp2 hbw2
      obtain ⟨k, rfl, hk, HI, kp, hbx⟩ := hrel
      have hAlt := heap_lt kp
      have pA := cell_of_heap kp 0
      have pB := cell_of_heap kp 1
      simp at pA pB
      by_cases hlt : (k : Int) < (ln : Int)
      · have hil : k < ns.length := by rw [Hlen.out]; omega
        have hNx := HN.out.below hbx hbt
        have c0 := hNx k hil 0 (by omega)
        have c1 := hNx k hil 1 (by omega)
        have c2 := hNx k hil 2 (by omega)
        have c3 := hNx k hil 3 (by omega)
        have c4 := hNx k hil 4 (by omega)
        have c5 := hNx k hil 5 (by omega)
        obtain ⟨nd, hnd⟩ : ∃ nd, ns.getD k default = nd := ⟨_, rfl⟩
        have hF : nodeHas [] nd = false → Hid (R = false) := fun h => by
          show R = false
          rw [← HR2.out]
          exact has_false hil (by rw [hnd]; exact h)
        have hS : nodeHas [] nd = true → Hid ((ns.take (k + 1)).all (nodeHas []) = true) := fun h => has_step hil HI.out (by rw [hnd]; exact h)
        rw [hnd] at c0 c1 c2 c3 c4 c5
        simp only [Nd.cell, Nat.add_zero, Nat.zero_add] at c0 c1 c2 c3 c4 c5
        obtain ⟨kd, num, a, bb, cc, kids⟩ := nd
        dsimp only at *
        have hpl := effPlace_lt [] a 0
        have hszx := hbx.size
        have HP : Hid (∀ w', _) := fun w' => l2Eff_calls none 0 [] a w' (by simp) (fun h => absurd rfl h)
        simp only [nodeHas] at hF hS
        clear hNx hil hnd HI
        generalize effPlace [] a 0 = pl at *
        generalize effIn [] a = ein at *
        have hq : (kd == 22) = true ∨ ((kd == 22) = false ∧ (kd == 26) = true) ∨ ((kd == 22) = false ∧ (kd == 26) = false) := by
          cases (kd == 22) <;> cases (kd == 26) <;> simp
        rcases hq with k22 | ⟨k22, k26⟩ | ⟨k22, k26⟩
        · by_cases hp : pl < 0
          · have hei : ein = false := hpl.1 hp
            have HF := hF (by rw [hei, k22]; rfl)
            clear hF hS hpl
            go_wp2_with fail
            refine (HP.out _).mono ?_
            rintro e w6 ⟨rfl, rfl⟩
            go_wp2_with fail
            go_ret
            exact ⟨by rw [HF.out]; rfl, hbx.alloc hszx _⟩
          · have hei : ein = true := by
              cases hx : ein with
              | true => rfl
              | false => exact absurd (hpl.2 hx) hp
            have HS := hS (by rw [hei]; simp)
            clear hF hS hpl
            go_wp2_with fail
            refine (HP.out _).mono ?_
            rintro e w6 ⟨rfl, rfl⟩
            go_wp2_with fail
            have hs : ln - (intOf (.int .i64 ((k + 1 : Nat) : Int))).toNat < ln - (intOf (.int .i64 (k : Int))).toNat := by simp only [intOf, Int.toNat_natCast]; omega
            try rw [show wrap64 ((k : Int) + 1) = ((k + 1 : Nat) : Int) by have := HM.out; unfold wrap64; omega]
            exact ⟨⟨k + 1, rfl, by omega, HS, (Below.heap_alloc _ _ _ hAlt).trans kp, hbx.alloc hszx _⟩, hs⟩
        · by_cases hp : pl < 0
          · have hei : ein = false := hpl.1 hp
            have HF := hF (by rw [hei, k26]; simp)
            clear hF hS hpl
            go_wp2_with fail
            refine (HP.out _).mono ?_
            rintro e w6 ⟨rfl, rfl⟩
            go_wp2_with fail
            go_ret
            exact ⟨by rw [HF.out]; rfl, hbx.alloc hszx _⟩
          · have hei : ein = true := by
              cases hx : ein with
              | true => rfl
              | false => exact absurd (hpl.2 hx) hp
            have HS := hS (by rw [hei]; simp)
            clear hF hS hpl
            go_wp2_with fail
            refine (HP.out _).mono ?_
            rintro e w6 ⟨rfl, rfl⟩
            go_wp2_with fail
            have hs : ln - (intOf (.int .i64 ((k + 1 : Nat) : Int))).toNat < ln - (intOf (.int .i64 (k : Int))).toNat := by simp only [intOf, Int.toNat_natCast]; omega
            try rw [show wrap64 ((k : Int) + 1) = ((k + 1 : Nat) : Int) by have := HM.out; unfold wrap64; omega]
            exact ⟨⟨k + 1, rfl, by omega, HS, (Below.heap_alloc _ _ _ hAlt).trans kp, hbx.alloc hszx _⟩, hs⟩
        · have HS := hS (by rw [k22, k26]; rfl)
          clear hF hS hpl HP
          go_wp2_with fail
          have hs : ln - (intOf (.int .i64 ((k + 1 : Nat) : Int))).toNat < ln - (intOf (.int .i64 (k : Int))).toNat := by simp only [intOf, Int.toNat_natCast]; omega
          try rw [show wrap64 ((k : Int) + 1) = ((k + 1 : Nat) : Int) by have := HM.out; unfold wrap64; omega]
          exact ⟨⟨k + 1, rfl, by omega, HS, (Below.heap_alloc _ _ _ hAlt).trans kp, hbx.alloc hszx _⟩, hs⟩
      · have e : k = ln := by omega
        have HT : Hid (R = true) := by
          show R = true
          rw [← HR2.out]
          have := HI.out
          rwa [List.take_of_length_le (by rw [Hlen.out]; omega)] at this
        clear HI
        go_wp2_with fail
        go_ret
        exact ⟨by rw [HT.out]; rfl, hbx⟩

/-- The operations of a program, as they lie. -/
def EffW (W : World) (ae : Option Addr) (ce : Nat) (es : List Ef) : Prop := (ae = none ∧ es = [] ∧ ce = 0) ∨ ∃ be, ae = some ⟨be, 0, none⟩ ∧ be < W.heap.size ∧ EffsAt W be 0 es ∧ es.length ≤ ce

theorem progOk_at {W : World} {ae : Option Addr} {ce bt cn : Nat} {es : List Ef} {ns : List Nd} {T : Bool} (hE : EffW W ae ce es) (hel : es.length ≤ 1000) (hbt : bt < W.heap.size) (hN : NodesAt W bt 0 ns) (hl : ns.length ≤ 300) (hA : SpecAns ns T) :
    Calls Try.prog 26 #[.agg #[.slice ae es.length ce, .slice (some ⟨bt, 0, none⟩) ns.length cn]] W fun e W' => e = .returned (.bool (progZ es ns T)) ∧ Below W.heap.size W W' := by
  rcases hE with ⟨rfl, rfl, rfl⟩ | ⟨be, rfl, hbe, hEA, hce⟩
  · exact specProgN_calls bt cn ns T W hbt hN (by omega) (fun w' hb hn => specTree_calls bt 0 cn ns w' T (by omega) hb hn hA)
  · exact specProgC_calls be bt ce cn es ns T W hce hbe hbt hEA hN (by omega) (by omega) (fun w' hb hn => specTree_calls bt 0 cn ns w' T (by omega) hb hn hA)

theorem EffW.below {W W' : World} {ae : Option Addr} {ce : Nat} {es : List Ef} (h : EffW W ae ce es) (hb : Below W.heap.size W W') : EffW W' ae ce es := by
  rcases h with h | ⟨be, e, hbe, hEA, hce⟩
  · exact Or.inl h
  · exact Or.inr ⟨be, e, Nat.lt_of_lt_of_le hbe hb.size, hEA.below hb hbe, hce⟩
end Go.Proofs.Ytnhofdngmbnlkaa
