/- Whether a program may be, as the specification asks it. -/
import Derived.Test.YtkdipppeljpgmaaGreatDoorProgPure
import Derived.Test.YtkdipppeljpgmaaGreatDoorKept
import Derived.Test.YtkdipppeljpgmaaGreatDoorCalm
import Derived.Test.YtkdipppeljpgmaaGreatDoorNameWalks
import Derived.Test.YtkdipppeljpgmaaGreatDoorNodeWalks
import Derived.Test.YtkdipppeljpgmaaGreatDoorPureForest
import Derived.BigQuiet
import Derived.Test.YtkdipppeljpgmaaGreatDoorSpecDeep
import Derived.Deep.OwnRows
import Derived.Test.YtkdipppeljpgmaaGreatDoorKeyWalks
import Derived.Laws.OwnMore
namespace Go.Proofs.YtkdipppeljpgmaaGreatDoor
open Go.RowKit Go.Deep

set_option maxHeartbeats 8000000 in
set_option maxRecDepth 100000 in
theorem specProgC_calls (be bt ce cn : Nat) (es : List Ef) (ns : List Nd) (T : Bool) (w : World) (hce : es.length ≤ ce) (hbe : be < w.heap.size) (hbt : bt < w.heap.size) (hE : EffsAt w be 0 es) (hN : NodesAt w bt 0 ns) (me : es.length ≤ 1048576) (mn : ns.length ≤ 1048576) (hTT : ∀ w' : World, bt < w'.heap.size → NodesAt w' bt 0 ns → Calls Tryz.prog 35 #[.slice (some ⟨bt, 0, none⟩) ns.length cn] w' fun e w'' => e = .returned (.bool T) ∧ Below w'.heap.size w' w'') :
    Calls Tryz.prog 14 #[.agg #[.slice (some ⟨be, 0, none⟩) es.length ce, .slice (some ⟨bt, 0, none⟩) ns.length cn]] w fun e w' => e = .returned (.bool (progZ es ns T)) ∧ Below w.heap.size w w' := by
  have hb1 : Below w.heap.size w (w.alloc (.cells #[.slice (some ⟨be, 0, none⟩) es.length ce, .slice (some ⟨bt, 0, none⟩) ns.length cn] 25)) := (Below.refl _ _).alloc (Nat.le_refl _) _
  have HT : Hid (Calls _ _ _ _ _) := hTT (w.alloc (.cells #[.slice (some ⟨be, 0, none⟩) es.length ce, .slice (some ⟨bt, 0, none⟩) ns.length cn] 25)) (Nat.lt_of_lt_of_le hbt hb1.size) (hN.below hb1 hbt)
  have HB1 : Hid (Below w.heap.size w (w.alloc (.cells #[.slice (some ⟨be, 0, none⟩) es.length ce, .slice (some ⟨bt, 0, none⟩) ns.length cn] 25))) := hb1
  have HK1 : Hid ((w.alloc (.cells #[.slice (some ⟨be, 0, none⟩) es.length ce, .slice (some ⟨bt, 0, none⟩) ns.length cn] 25)).heap[w.heap.size]? = some (.cells #[.slice (some ⟨be, 0, none⟩) es.length ce, .slice (some ⟨bt, 0, none⟩) ns.length cn] 25)) := (MapKept.heap_alloc w _).1
  obtain ⟨R, hR⟩ : ∃ R, progZ es ns T = R := ⟨_, rfl⟩
  have HR : Hid (progZ es ns T = R) := hR
  have HE : Hid (EffsAt w be 0 es) := hE
  have HN : Hid (NodesAt w bt 0 ns) := hN
  have HMN : Hid (ns.length ≤ 1048576) := mn
  rw [hR]
  obtain ⟨len, hlen⟩ : ∃ len, es.length = len := ⟨_, rfl⟩
  obtain ⟨ln, hln⟩ : ∃ ln, ns.length = ln := ⟨_, rfl⟩
  have Hlen : Hid (es.length = len ∧ ns.length = ln) := ⟨hlen, hln⟩
  rw [hlen, hln] at HT HB1 HK1 ⊢
  have HCe : Hid (len ≤ ce) := by show _ ≤ _; omega
  clear hce
  have HM : Hid (len ≤ 1048576 ∧ ln ≤ 1048576) := by show _ ∧ _; omega
  clear hb1 hR hE hN me mn hTT hlen hln
  by_cases h8 : (8 : Int) < (len : Int)
  · have HF : Hid (R = false) := by
      show R = false
      rw [← HR.out, progZ, Hlen.out.1, decide_eq_false (by omega), Bool.false_and]
    clear HT HE HN HK1
    go_enter Tryz.func14, Tryz.ntmps14
    go_wp2_with fail
    go_ret
    exact ⟨by rw [HF.out]; rfl, HB1.out⟩
  have h8' : (len : Int) ≤ 8 := by omega
  have HR8 : Hid ((T && ((List.range len).all (effOk es) && ns.all (nodeHas es))) = R) := by
    show _ = R
    rw [← HR.out, progZ, Hlen.out.1, decide_eq_true (by omega), Bool.true_and]
  clear h8
  go_enter Tryz.func14, Tryz.ntmps14
  go_wp2_with fail
  refine HT.out.mono ?_
  rintro e w2 ⟨rfl, hb2⟩
  have hbw2 := HB1.out.trans (hb2.mono HB1.out.size)
  have kp2 := (hb2.block w.heap.size (by simp)).trans HK1.out
  clear HT HB1 HK1 hb2
  cases T with
  | false =>
    go_wp2_with fail
    go_ret
    exact ⟨by rw [← HR8.out]; rfl, hbw2⟩
  | true =>
    have HRR : Hid (((List.range len).all (effOk es) && ns.all (nodeHas es)) = R) := HR8.out
    clear HR8 HR
    go_wp2_with fail
    go_loopw [3] (fun i wr => ∃ i' : Nat, i = .int .i64 i' ∧ i' ≤ len ∧ Hid ((List.range i').all (effOk es) = true) ∧ wr.heap[w.heap.size]? = some (.cells #[.slice (some ⟨be, 0, none⟩) len ce, .slice (some ⟨bt, 0, none⟩) ln cn] 25) ∧ Below w.heap.size w wr) (fun i _ => len - (intOf i).toNat)
    case atStart => exact ⟨0, rfl, Nat.zero_le _, rfl, kp2, hbw2⟩
    case round =>
      obtain ⟨i', rfl, hle, HI, kp, hbx⟩ := hrel
      have hAlt := heap_lt kp
      have pA := cell_of_heap kp 0
      have pB := cell_of_heap kp 1
      simp at pA pB
      have hEx := HE.out.below hbx hbe
      by_cases hlt : (i' : Int) < (len : Int)
      · have hic : (i' : Int) ≤ (ce : Int) := by have := HCe.out; omega
        have hil : i' < es.length := by rw [Hlen.out.1]; omega
        have c0 := hEx i' hil 0 (by omega)
        have c1 := hEx i' hil 1 (by omega)
        have c2 := hEx i' hil 2 (by omega)
        obtain ⟨ef, hef⟩ : ∃ ef, es.getD i' default = ef := ⟨_, rfl⟩
        have hF : effOk es i' = false → Hid (R = false) := fun h => by
          show R = false
          have := range_false hil h
          rw [Hlen.out.1] at this
          rw [← HRR.out, this, Bool.false_and]
        have hS : effOk es i' = true → Hid ((List.range (i' + 1)).all (effOk es) = true) := fun h => range_step HI.out h
        have hdef : effOk es i' = (nameOk ef.name && (!effIn (es.take i') ef.name && (decide (1 ≤ ef.arg ∧ ef.arg ≤ 4) && decide (1 ≤ ef.res ∧ ef.res ≤ 4)))) := by rw [effOk, hef]
        rw [hdef] at hF hS
        rw [hef] at c0 c1 c2
        simp only [Ef.cell, Nat.add_zero, Nat.zero_add] at c0 c1 c2
        have hpl := effPlace_lt (es.take i') ef.name 0
        have htl : (es.take i').length = i' := by simp; omega
        have HP : Hid (∀ w, EffsAt w be 0 es → _) := fun w h => l2Eff_calls (some ⟨be, 0, none⟩) ce (es.take i') ef.name w (by rw [htl]; have := HM.out; omega) (fun _ => ⟨be, 0, rfl, effsTake h⟩)
        rw [htl] at HP
        have hLn : ∀ w, _ := fun w => specName_calls ef.name w
        have hbW : Below w.heap.size w (wr.alloc (.cells #[.string ef.name, .int .i64 ef.arg, .int .i64 ef.res] 59)) := hbx.alloc (by have := hbx.size; omega) _
        have HEW : Hid (EffsAt (wr.alloc (.cells #[.string ef.name, .int .i64 ef.arg, .int .i64 ef.res] 59)) be 0 es) := HE.out.below hbW hbe
        obtain ⟨nm, ar, rs⟩ := ef
        dsimp only at *
        clear hEx hil hdef hef HI HE htl
        generalize effPlace (es.take i') nm 0 = pl at *
        generalize effIn (es.take i') nm = ein at *
        go_wp2_with fail
        have u0 : (wr.alloc (.cells #[.string nm, .int .i64 ar, .int .i64 rs] 59)).cell? ⟨wr.heap.size, 0, none⟩ = some (.string nm) := by simp [go_sem]
        have u1 : (wr.alloc (.cells #[.string nm, .int .i64 ar, .int .i64 rs] 59)).cell? ⟨wr.heap.size, 1, none⟩ = some (.int .i64 ar) := by simp [go_sem]
        have u2 : (wr.alloc (.cells #[.string nm, .int .i64 ar, .int .i64 rs] 59)).cell? ⟨wr.heap.size, 2, none⟩ = some (.int .i64 rs) := by simp [go_sem]
        have kpW := (Below.heap_alloc wr (.cells #[.string nm, .int .i64 ar, .int .i64 rs] 59) _ hAlt).trans kp
        have uA := cell_of_heap kpW 0
        simp at uA
        have hEW : wr.heap.size < (wr.alloc (.cells #[.string nm, .int .i64 ar, .int .i64 rs] 59)).heap.size := by simp
        have hAW : w.heap.size < (wr.alloc (.cells #[.string nm, .int .i64 ar, .int .i64 rs] 59)).heap.size := by simp; omega
        have hbeW : be < (wr.alloc (.cells #[.string nm, .int .i64 ar, .int .i64 rs] 59)).heap.size := by simp; omega
        generalize (wr.alloc (.cells #[.string nm, .int .i64 ar, .int .i64 rs] 59)) = W at *
        have HED : Hid (EffsAt W be 0 es) := HEW.out
        have v0 : ∀ x : Later W.heap.size W, x.w.cell? ⟨wr.heap.size, 0, none⟩ = some (.string nm) := fun x => x.cell hEW u0
        have v1 : ∀ x : Later W.heap.size W, x.w.cell? ⟨wr.heap.size, 1, none⟩ = some (.int .i64 ar) := fun x => x.cell hEW u1
        have v2 : ∀ x : Later W.heap.size W, x.w.cell? ⟨wr.heap.size, 2, none⟩ = some (.int .i64 rs) := fun x => x.cell hEW u2
        have vA : ∀ x : Later W.heap.size W, x.w.cell? ⟨w.heap.size, 0, none⟩ = some (.slice (some ⟨be, 0, none⟩) len ce) := fun x => x.cell hAW uA
        clear c0 c1 c2 pA pB kp HEW
        cases hno : nameOk nm with
        | false =>
          have HF := hF (by rw [hno]; rfl)
          rw [hno] at hLn
          have HL : Hid (∀ w, _) := hLn
          clear hF hS hLn hpl
          refine wp_region_calm W.heap.size (by kernel_rfl) (by kernel_rfl) ?_
          repeat (go_big_quiet_step (first
            | (rename_i x; go_at_call 36; refine (HL.out _).mono ?_; rintro e w5 ⟨rfl, hb5⟩; exact ⟨rfl, ⟨w5, x.h.trans (hb5.mono x.h.size)⟩, rfl⟩)
            | (rename_i x; go_at_call 37; refine (HP.out _ (HED.out.below x.h hbeW)).mono ?_; rintro e w6 ⟨rfl, rfl⟩; exact ⟨rfl, x, rfl⟩)))
          refine wpQuiet_nil ?_
          rintro w5 ⟨x, rfl⟩
          all_goals
            have hx := hbW.trans (x.h.mono hbW.size)
            clear u0 u1 u2 uA v0 v1 v2 vA
            go_wp2_with fail
            go_ret
            exact ⟨by rw [HF.out]; rfl, hx⟩
        | true =>
          rw [hno] at hLn
          have HL : Hid (∀ w, _) := hLn
          rw [hno] at hF hS
          clear hLn
          by_cases hp0 : 0 ≤ pl
          · have hei : ein = true := by
              cases hx : ein with
              | true => rfl
              | false => have := hpl.2 hx; omega
            have HF := hF (by rw [hei]; rfl)
            clear hF hS hpl hei
            refine wp_region_calm W.heap.size (by kernel_rfl) (by kernel_rfl) ?_
            repeat (go_big_quiet_step (first
              | (rename_i x; go_at_call 36; refine (HL.out _).mono ?_; rintro e w5 ⟨rfl, hb5⟩; exact ⟨rfl, ⟨w5, x.h.trans (hb5.mono x.h.size)⟩, rfl⟩)
              | (rename_i x; go_at_call 37; refine (HP.out _ (HED.out.below x.h hbeW)).mono ?_; rintro e w6 ⟨rfl, rfl⟩; exact ⟨rfl, x, rfl⟩)))
            refine wpQuiet_nil ?_
            rintro w5 ⟨x, rfl⟩
            all_goals
              have hx := hbW.trans (x.h.mono hbW.size)
              clear u0 u1 u2 uA v0 v1 v2 vA
              go_wp2_with fail
              go_ret
              exact ⟨by rw [HF.out]; rfl, hx⟩
          · have hei : ein = false := hpl.1 (by omega)
            have hp0 : pl < 0 := by omega
            rw [hei] at hF hS
            clear hpl hei
            by_cases g1 : ar < 1
            · have HF := hF (by rw [decide_eq_false (show ¬ (1 ≤ ar ∧ ar ≤ 4) by omega)]; rfl)
              clear hF hS
              refine wp_region_calm W.heap.size (by kernel_rfl) (by kernel_rfl) ?_
              repeat (go_big_quiet_step (first
                | (rename_i x; go_at_call 36; refine (HL.out _).mono ?_; rintro e w5 ⟨rfl, hb5⟩; exact ⟨rfl, ⟨w5, x.h.trans (hb5.mono x.h.size)⟩, rfl⟩)
                | (rename_i x; go_at_call 37; refine (HP.out _ (HED.out.below x.h hbeW)).mono ?_; rintro e w6 ⟨rfl, rfl⟩; exact ⟨rfl, x, rfl⟩)))
              refine wpQuiet_nil ?_
              rintro w5 ⟨x, rfl⟩
              all_goals
                have hx := hbW.trans (x.h.mono hbW.size)
                clear u0 u1 u2 uA v0 v1 v2 vA
                go_wp2_with fail
                go_ret
                exact ⟨by rw [HF.out]; rfl, hx⟩
            · have g1 : 1 ≤ ar := by omega
              by_cases g2 : 4 < ar
              · have HF := hF (by rw [decide_eq_false (show ¬ (1 ≤ ar ∧ ar ≤ 4) by omega)]; rfl)
                clear hF hS
                refine wp_region_calm W.heap.size (by kernel_rfl) (by kernel_rfl) ?_
                repeat (go_big_quiet_step (first
                  | (rename_i x; go_at_call 36; refine (HL.out _).mono ?_; rintro e w5 ⟨rfl, hb5⟩; exact ⟨rfl, ⟨w5, x.h.trans (hb5.mono x.h.size)⟩, rfl⟩)
                  | (rename_i x; go_at_call 37; refine (HP.out _ (HED.out.below x.h hbeW)).mono ?_; rintro e w6 ⟨rfl, rfl⟩; exact ⟨rfl, x, rfl⟩)))
                refine wpQuiet_nil ?_
                rintro w5 ⟨x, rfl⟩
                all_goals
                  have hx := hbW.trans (x.h.mono hbW.size)
                  clear u0 u1 u2 uA v0 v1 v2 vA
                  go_wp2_with fail
                  go_ret
                  exact ⟨by rw [HF.out]; rfl, hx⟩
              · have g2 : ar ≤ 4 := by omega
                by_cases g3 : rs < 1
                · have HF := hF (by rw [decide_eq_false (show ¬ (1 ≤ rs ∧ rs ≤ 4) by omega), Bool.and_false]; rfl)
                  clear hF hS
                  refine wp_region_calm W.heap.size (by kernel_rfl) (by kernel_rfl) ?_
                  repeat (go_big_quiet_step (first
                    | (rename_i x; go_at_call 36; refine (HL.out _).mono ?_; rintro e w5 ⟨rfl, hb5⟩; exact ⟨rfl, ⟨w5, x.h.trans (hb5.mono x.h.size)⟩, rfl⟩)
                    | (rename_i x; go_at_call 37; refine (HP.out _ (HED.out.below x.h hbeW)).mono ?_; rintro e w6 ⟨rfl, rfl⟩; exact ⟨rfl, x, rfl⟩)))
                  refine wpQuiet_nil ?_
                  rintro w5 ⟨x, rfl⟩
                  all_goals
                    have hx := hbW.trans (x.h.mono hbW.size)
                    clear u0 u1 u2 uA v0 v1 v2 vA
                    go_wp2_with fail
                    go_ret
                    exact ⟨by rw [HF.out]; rfl, hx⟩
                · have g3 : 1 ≤ rs := by omega
                  by_cases g4 : 4 < rs
                  · have HF := hF (by rw [decide_eq_false (show ¬ (1 ≤ rs ∧ rs ≤ 4) by omega), Bool.and_false]; rfl)
                    clear hF hS
                    refine wp_region_calm W.heap.size (by kernel_rfl) (by kernel_rfl) ?_
                    repeat (go_big_quiet_step (first
                      | (rename_i x; go_at_call 36; refine (HL.out _).mono ?_; rintro e w5 ⟨rfl, hb5⟩; exact ⟨rfl, ⟨w5, x.h.trans (hb5.mono x.h.size)⟩, rfl⟩)
                      | (rename_i x; go_at_call 37; refine (HP.out _ (HED.out.below x.h hbeW)).mono ?_; rintro e w6 ⟨rfl, rfl⟩; exact ⟨rfl, x, rfl⟩)))
                    refine wpQuiet_nil ?_
                    rintro w5 ⟨x, rfl⟩
                    all_goals
                      have hx := hbW.trans (x.h.mono hbW.size)
                      clear u0 u1 u2 uA v0 v1 v2 vA
                      go_wp2_with fail
                      go_ret
                      exact ⟨by rw [HF.out]; rfl, hx⟩
                  · have g4 : rs ≤ 4 := by omega
                    have HS := hS (by rw [decide_eq_true (show 1 ≤ ar ∧ ar ≤ 4 from ⟨g1, g2⟩), decide_eq_true (show 1 ≤ rs ∧ rs ≤ 4 from ⟨g3, g4⟩)]; rfl)
                    clear hF hS
                    refine wp_region_calm W.heap.size (by kernel_rfl) (by kernel_rfl) ?_
                    repeat (go_big_quiet_step (first
                      | (rename_i x; go_at_call 36; refine (HL.out _).mono ?_; rintro e w5 ⟨rfl, hb5⟩; exact ⟨rfl, ⟨w5, x.h.trans (hb5.mono x.h.size)⟩, rfl⟩)
                      | (rename_i x; go_at_call 37; refine (HP.out _ (HED.out.below x.h hbeW)).mono ?_; rintro e w6 ⟨rfl, rfl⟩; exact ⟨rfl, x, rfl⟩)))
                    refine wpQuiet_nil ?_
                    rintro w5 ⟨x, rfl⟩
                    all_goals
                      have hx := hbW.trans (x.h.mono hbW.size)
                      have kp5 := (x.h.block w.heap.size hAW).trans kpW
                      clear u0 u1 u2 uA v0 v1 v2 vA
                      go_wp2_with fail
                      have hs : len - (intOf (.int .i64 ((i' + 1 : Nat) : Int))).toNat < len - (intOf (.int .i64 (i' : Int))).toNat := by simp only [intOf, Int.toNat_natCast]; omega
                      try rw [show wrap64 ((i' : Int) + 1) = ((i' + 1 : Nat) : Int) by have := HM.out; unfold wrap64; omega]
                      exact ⟨⟨i' + 1, rfl, by omega, HS, kp5, hx⟩, hs⟩
      · have e : i' = len := by omega
        subst e
        have HR2 : Hid (ns.all (nodeHas es) = R) := by
          show _ = R
          rw [← HRR.out, HI.out, Bool.true_and]
        clear HRR HI hEx
        go_wp2_with fail
        clear pA pB
        go_loopw [5] (fun j wr => ∃ k : Nat, j = .int .i64 k ∧ k ≤ ln ∧ Hid ((ns.take k).all (nodeHas es) = true) ∧ wr.heap[w.heap.size]? = some (.cells #[.slice (some ⟨be, 0, none⟩) i' ce, .slice (some ⟨bt, 0, none⟩) ln cn] 25) ∧ Below w.heap.size w wr) (fun j _ => ln - (intOf j).toNat)
        case atStart => exact ⟨0, rfl, Nat.zero_le _, rfl, kp, hbx⟩
        case round =>
          clear kp hbx hAlt
          obtain ⟨k, rfl, hk, HI, kp, hbx⟩ := hrel
          have hAlt := heap_lt kp
          have pA := cell_of_heap kp 0
          have pB := cell_of_heap kp 1
          simp at pA pB
          by_cases hlt : (k : Int) < (ln : Int)
          · have hil : k < ns.length := by rw [Hlen.out.2]; omega
            have hNx := HN.out.below hbx hbt
            have c0 := hNx k hil 0 (by omega)
            have c1 := hNx k hil 1 (by omega)
            have c2 := hNx k hil 2 (by omega)
            have c3 := hNx k hil 3 (by omega)
            have c4 := hNx k hil 4 (by omega)
            have c5 := hNx k hil 5 (by omega)
            obtain ⟨nd, hnd⟩ : ∃ nd, ns.getD k default = nd := ⟨_, rfl⟩
            have hF : nodeHas es nd = false → Hid (R = false) := fun h => by
              show R = false
              rw [← HR2.out]
              exact has_false hil (by rw [hnd]; exact h)
            have hS : nodeHas es nd = true → Hid ((ns.take (k + 1)).all (nodeHas es) = true) := fun h => has_step hil HI.out (by rw [hnd]; exact h)
            rw [hnd] at c0 c1 c2 c3 c4 c5
            simp only [Nd.cell, Nat.add_zero, Nat.zero_add] at c0 c1 c2 c3 c4 c5
            obtain ⟨kd, num, a, bb, cc, kids⟩ := nd
            dsimp only at *
            have hpl := effPlace_lt es a 0
            have hszx := hbx.size
            have HP : Hid (∀ w', EffsAt w' be 0 es → _) := fun w' h => l2Eff_calls (some ⟨be, 0, none⟩) ce es a w' (by rw [Hlen.out.1]; have := HM.out; omega) (fun _ => ⟨be, 0, rfl, h⟩)
            rw [Hlen.out.1] at HP
            have HEx : Hid (EffsAt wr be 0 es) := HE.out.below hbx hbe
            have hbeR : be < wr.heap.size := by omega
            simp only [nodeHas] at hF hS
            clear hNx hil hnd HI
            generalize effPlace es a 0 = pl at *
            generalize effIn es a = ein at *
            have hq : (kd == 22) = true ∨ ((kd == 22) = false ∧ (kd == 26) = true) ∨ ((kd == 22) = false ∧ (kd == 26) = false) := by
              cases (kd == 22) <;> cases (kd == 26) <;> simp
            rcases hq with k22 | ⟨k22, k26⟩ | ⟨k22, k26⟩
            · by_cases hp : pl < 0
              · have hei : ein = false := hpl.1 hp
                have HF := hF (by rw [hei, k22]; rfl)
                clear hF hS hpl
                go_wp2_with fail
                refine (HP.out _ (HEx.out.below ((Below.refl _ _).alloc (Nat.le_refl _) _) hbeR)).mono ?_
                rintro e w6 ⟨rfl, rfl⟩
                go_wp2_with fail
                go_ret
                exact ⟨by rw [HF.out]; rfl, hbx.alloc hszx _⟩
              · have hei : ein = true := by
                  cases hx : ein with
                  | true => rfl
                  | false => exact absurd (hpl.2 hx) hp
                have HS := hS (by rw [hei]; simp)
                clear hF hS hpl
                go_wp2_with fail
                refine (HP.out _ (HEx.out.below ((Below.refl _ _).alloc (Nat.le_refl _) _) hbeR)).mono ?_
                rintro e w6 ⟨rfl, rfl⟩
                go_wp2_with fail
                have hs : ln - (intOf (.int .i64 ((k + 1 : Nat) : Int))).toNat < ln - (intOf (.int .i64 (k : Int))).toNat := by simp only [intOf, Int.toNat_natCast]; omega
                try rw [show wrap64 ((k : Int) + 1) = ((k + 1 : Nat) : Int) by have := HM.out; unfold wrap64; omega]
                exact ⟨⟨k + 1, rfl, by omega, HS, (Below.heap_alloc _ _ _ hAlt).trans kp, hbx.alloc hszx _⟩, hs⟩
            · by_cases hp : pl < 0
              · have hei : ein = false := hpl.1 hp
                have HF := hF (by rw [hei, k26]; simp)
                clear hF hS hpl
                go_wp2_with fail
                refine (HP.out _ (HEx.out.below ((Below.refl _ _).alloc (Nat.le_refl _) _) hbeR)).mono ?_
                rintro e w6 ⟨rfl, rfl⟩
                go_wp2_with fail
                go_ret
                exact ⟨by rw [HF.out]; rfl, hbx.alloc hszx _⟩
              · have hei : ein = true := by
                  cases hx : ein with
                  | true => rfl
                  | false => exact absurd (hpl.2 hx) hp
                have HS := hS (by rw [hei]; simp)
                clear hF hS hpl
                go_wp2_with fail
                refine (HP.out _ (HEx.out.below ((Below.refl _ _).alloc (Nat.le_refl _) _) hbeR)).mono ?_
                rintro e w6 ⟨rfl, rfl⟩
                go_wp2_with fail
                have hs : ln - (intOf (.int .i64 ((k + 1 : Nat) : Int))).toNat < ln - (intOf (.int .i64 (k : Int))).toNat := by simp only [intOf, Int.toNat_natCast]; omega
                try rw [show wrap64 ((k : Int) + 1) = ((k + 1 : Nat) : Int) by have := HM.out; unfold wrap64; omega]
                exact ⟨⟨k + 1, rfl, by omega, HS, (Below.heap_alloc _ _ _ hAlt).trans kp, hbx.alloc hszx _⟩, hs⟩
            · have HS := hS (by rw [k22, k26]; rfl)
              clear hF hS hpl HP
              go_wp2_with fail
              have hs : ln - (intOf (.int .i64 ((k + 1 : Nat) : Int))).toNat < ln - (intOf (.int .i64 (k : Int))).toNat := by simp only [intOf, Int.toNat_natCast]; omega
              try rw [show wrap64 ((k : Int) + 1) = ((k + 1 : Nat) : Int) by have := HM.out; unfold wrap64; omega]
              exact ⟨⟨k + 1, rfl, by omega, HS, (Below.heap_alloc _ _ _ hAlt).trans kp, hbx.alloc hszx _⟩, hs⟩
          · have e : k = ln := by omega
            have HT : Hid (R = true) := by
              show R = true
              rw [← HR2.out]
              have := HI.out
              rwa [List.take_of_length_le (by rw [Hlen.out.2]; omega)] at this
            clear HI
            go_wp2_with fail
            go_ret
            exact ⟨by rw [HT.out]; rfl, hbx⟩
end Go.Proofs.YtkdipppeljpgmaaGreatDoor

/- What a node's kind asks of its fields, as plain tables. -/
namespace Go.Proofs.YtkdipppeljpgmaaGreatDoor
open Go.RowKit

def tab (l : List Int) (k : Int) (other : Int) : Int := if k < 1 ∨ 26 < k then other else l.getD k.toNat 0

/-- How many kids a kind has; -2: two to six; -1: it is none. -/
def arityZ (k : Int) : Int := tab [0, 0, 0, 0, 0, 0, 1, 2, 2, 2, 3, 2, 2, 2, 2, 2, 2, 1, 1, 2, 3, 1, 1, -2, -2, 1, 1] k (-1)

/-- How many names a kind has. -/
def namesZ (k : Int) : Int := tab [0, 0, 0, 0, 0, 1, 1, 0, 1, 2, 0, 0, 0, 0, 0, 0, 0, 0, 0, 0, 2, 0, 1, 0, 0, 1, 3] k 0

/-- The greatest number that a kind has. -/
def mostZ (k : Int) : Int := tab [0, 999999999, 1, 0, 0, 0, 0, 0, 0, 0, 0, 0, 0, 0, 0, 0, 0, 0, 0, 0, 0, 0, 0, 0, 0, 0, 0] k 0

theorem kinds (k : Int) : k = 1 ∨ k = 2 ∨ k = 3 ∨ k = 4 ∨ k = 5 ∨ k = 6 ∨ k = 7 ∨ k = 8 ∨ k = 9 ∨ k = 10 ∨ k = 11 ∨ k = 12 ∨ k = 13 ∨ k = 14 ∨ k = 15 ∨ k = 16 ∨ k = 17 ∨ k = 18 ∨ k = 19 ∨ k = 20 ∨ k = 21 ∨ k = 22 ∨ k = 23 ∨ k = 24 ∨ k = 25 ∨ k = 26 ∨ (k < 1 ∨ 26 < k) := by omega

theorem tab_other {l : List Int} {k o : Int} (h : k < 1 ∨ 26 < k) : tab l k o = o := by rw [tab, if_pos h]

set_option maxRecDepth 100000 in
theorem arity_calls (k : Int) (w : World) : Calls Tryz.prog 86 #[.int .i64 k] w fun e w' => e = .returned (.int .i64 (arityZ k)) ∧ w = w' := by
  rcases kinds k with rfl | rfl | rfl | rfl | rfl | rfl | rfl | rfl | rfl | rfl | rfl | rfl | rfl | rfl | rfl | rfl | rfl | rfl | rfl | rfl | rfl | rfl | rfl | rfl | rfl | rfl | h
  all_goals try (
    go_enter Tryz.func86, Tryz.ntmps86
    go_wp2
    go_ret
    exact ⟨rfl, rfl⟩)
  have e : arityZ k = -1 := tab_other h
  rw [e]
  go_enter Tryz.func86, Tryz.ntmps86
  go_wp2
  go_ret
  exact ⟨rfl, rfl⟩

set_option maxRecDepth 100000 in
theorem names_calls (k : Int) (w : World) : Calls Tryz.prog 87 #[.int .i64 k] w fun e w' => e = .returned (.int .i64 (namesZ k)) ∧ w = w' := by
  rcases kinds k with rfl | rfl | rfl | rfl | rfl | rfl | rfl | rfl | rfl | rfl | rfl | rfl | rfl | rfl | rfl | rfl | rfl | rfl | rfl | rfl | rfl | rfl | rfl | rfl | rfl | rfl | h
  all_goals try (
    go_enter Tryz.func87, Tryz.ntmps87
    go_wp2
    go_ret
    exact ⟨rfl, rfl⟩)
  have e : namesZ k = 0 := tab_other h
  rw [e]
  go_enter Tryz.func87, Tryz.ntmps87
  go_wp2
  go_ret
  exact ⟨rfl, rfl⟩

/-- How few kids a kind has, and how many. -/
def leastZ (k : Int) : Int := if arityZ k = -2 then 2 else arityZ k
def greatZ (k : Int) : Int := if arityZ k = -2 then 6 else arityZ k

/-- What the program says of a kind's shape. -/
def shapeVal (k : Int) : Value :=
  if k < 1 ∨ 26 < k then .tuple #[.agg #[.int .i64 0, .int .i64 0, .int .i64 0, .int .i64 0], .bool false]
  else .tuple #[.agg #[.int .i64 (namesZ k), .int .i64 (mostZ k), .int .i64 (leastZ k), .int .i64 (greatZ k)], .bool true]

set_option maxHeartbeats 1000000 in
set_option maxRecDepth 100000 in
theorem shape_calls (k : Int) (w : World) : Calls Tryz.prog 96 #[.int .i64 k] w fun e w' => e = .returned (shapeVal k) ∧ Below w.heap.size w w' := by
  rcases kinds k with rfl | rfl | rfl | rfl | rfl | rfl | rfl | rfl | rfl | rfl | rfl | rfl | rfl | rfl | rfl | rfl | rfl | rfl | rfl | rfl | rfl | rfl | rfl | rfl | rfl | rfl | h
  all_goals try (
    go_enter Tryz.func96, Tryz.ntmps96
    go_wp2
    refine bodyPost_ret (v := shapeVal _) (by simp [results, Tryz.results96, go_sem]; rfl) rfl ⟨rfl, ?_⟩
    repeat (first | exact Below.refl _ _ | refine Below.alloc ?_ (by first | (simp; done) | (simp; omega)) _))
  have e : shapeVal k = .tuple #[.agg #[.int .i64 0, .int .i64 0, .int .i64 0, .int .i64 0], .bool false] := by rw [shapeVal, if_pos h]
  rw [e]
  go_enter Tryz.func96, Tryz.ntmps96
  go_wp2
  refine bodyPost_ret (v := .tuple #[.agg #[.int .i64 0, .int .i64 0, .int .i64 0, .int .i64 0], .bool false]) (by simp [results, Tryz.results96, go_sem]) rfl ⟨rfl, ?_⟩
  repeat (first | exact Below.refl _ _ | refine Below.alloc ?_ (by first | (simp; done) | (simp; omega)) _)
end Go.Proofs.YtkdipppeljpgmaaGreatDoor

/- The program's forms: what value stands for a node and its kids. -/
namespace Go.Proofs.YtkdipppeljpgmaaGreatDoor
open Go.RowKit

/-- A slice of these values, in a block that is not below 'B'. -/
def RowAt (B : Nat) (w : World) (sl : Value) (us : List Value) : Prop :=
  ∃ g o cap, sl = .slice (some ⟨g, o, none⟩) us.length cap ∧ B ≤ g ∧ g < w.heap.size ∧ ∀ j, j < us.length → w.cell? ⟨g, o + j, none⟩ = us[j]?

/-- This value is the form of a node whose kids' forms are these. -/
inductive Shape (B : Nat) (w : World) : Nd → List Value → Value → Prop
  | int {num : Int} {a b c : ByteArray} {kids : Int} : Shape B w ⟨1, num, a, b, c, kids⟩ [] (.iface 140 (.agg #[.int .i64 num]))
  | bool {num : Int} {a b c : ByteArray} {kids : Int} : Shape B w ⟨2, num, a, b, c, kids⟩ [] (.iface 141 (.agg #[.int .i64 num]))
  | unit {num : Int} {a b c : ByteArray} {kids : Int} : Shape B w ⟨3, num, a, b, c, kids⟩ [] (.iface 143 (.agg #[]))
  | nil {num : Int} {a b c : ByteArray} {kids : Int} : Shape B w ⟨4, num, a, b, c, kids⟩ [] (.iface 144 (.agg #[]))
  | var {num : Int} {a b c : ByteArray} {kids : Int} : Shape B w ⟨5, num, a, b, c, kids⟩ [] (.iface 146 (.agg #[.string a]))
  | fn {num : Int} {a b c : ByteArray} {kids : Int} {u : Value} : Shape B w ⟨6, num, a, b, c, kids⟩ [u] (.iface 98 (.agg #[.string a, u]))
  | app {num : Int} {a b c : ByteArray} {kids : Int} {u v : Value} : Shape B w ⟨7, num, a, b, c, kids⟩ [u, v] (.iface 148 (.agg #[u, v]))
  | bind {num : Int} {a b c : ByteArray} {kids : Int} {u v : Value} : Shape B w ⟨8, num, a, b, c, kids⟩ [u, v] (.iface 112 (.agg #[.string a, u, v]))
  | recur {num : Int} {a b c : ByteArray} {kids : Int} {u v : Value} : Shape B w ⟨9, num, a, b, c, kids⟩ [u, v] (.iface 129 (.agg #[.string a, .string b, u, v]))
  | cond {num : Int} {a b c : ByteArray} {kids : Int} {u v x : Value} : Shape B w ⟨10, num, a, b, c, kids⟩ [u, v, x] (.iface 114 (.agg #[u, v, x]))
  | sign {k num : Int} {a b c : ByteArray} {kids : Int} {u v : Value} (h : k = 11 ∨ k = 12 ∨ k = 13 ∨ k = 14 ∨ k = 15) : Shape B w ⟨k, num, a, b, c, kids⟩ [u, v] (.iface 131 (.agg #[.int .i64 k, u, v]))
  | pair {num : Int} {a b c : ByteArray} {kids : Int} {u v : Value} : Shape B w ⟨16, num, a, b, c, kids⟩ [u, v] (.iface 150 (.agg #[u, v]))
  | take {k num : Int} {a b c : ByteArray} {kids : Int} {u : Value} (h : k = 17 ∨ k = 18 ∨ k = 21) : Shape B w ⟨k, num, a, b, c, kids⟩ [u] (.iface 152 (.agg #[.int .i64 k, u]))
  | cons {num : Int} {a b c : ByteArray} {kids : Int} {u v : Value} : Shape B w ⟨19, num, a, b, c, kids⟩ [u, v] (.iface 118 (.agg #[u, v]))
  | case {num : Int} {a b c : ByteArray} {kids : Int} {u v x : Value} : Shape B w ⟨20, num, a, b, c, kids⟩ [u, v, x] (.iface 116 (.agg #[u, v, .string a, .string b, x]))
  | perform {num : Int} {a b c : ByteArray} {kids : Int} {u : Value} : Shape B w ⟨22, num, a, b, c, kids⟩ [u] (.iface 154 (.agg #[.string a, u]))
  | handler {k num : Int} {a b c : ByteArray} {kids : Int} {u sl : Value} {us : List Value} (h : k = 23 ∨ k = 24) (hs : RowAt B w sl us) (hl : us.length ≤ 1500) : Shape B w ⟨k, num, a, b, c, kids⟩ (u :: us) (.iface 156 (.agg #[.int .i64 k, u, sl]))
  | ret {num : Int} {a b c : ByteArray} {kids : Int} {u : Value} : Shape B w ⟨25, num, a, b, c, kids⟩ [u] (.iface 157 (.agg #[.string a, u]))
  | op {num : Int} {a b c : ByteArray} {kids : Int} {u : Value} : Shape B w ⟨26, num, a, b, c, kids⟩ [u] (.iface 159 (.agg #[.string a, .string b, .string c, u]))

/-- These values are the forms of a forest's trees. -/
def Forms (B : Nat) (w : World) : Fo → List Value → Prop
  | .none, vs => vs = []
  | .tree n k r, vs => ∃ v us rest, vs = v :: rest ∧ Forms B w k us ∧ Shape B w n us v ∧ Forms B w r rest

theorem RowAt.kept {B B' : Nat} {w w' : World} {sl : Value} {us : List Value} (h : RowAt B w sl us) (hB : B' ≤ B) (hs : w.heap.size ≤ w'.heap.size) (hc : ∀ a : Addr, B ≤ a.block → a.block < w.heap.size → w'.cell? a = w.cell? a) : RowAt B' w' sl us := by
  obtain ⟨g, o, cap, e, h1, h2, h3⟩ := h
  refine ⟨g, o, cap, e, Nat.le_trans hB h1, Nat.lt_of_lt_of_le h2 hs, fun j hj => ?_⟩
  rw [hc ⟨g, o + j, none⟩ h1 h2]
  exact h3 j hj

theorem Shape.kept {B B' : Nat} {w w' : World} {n : Nd} {us : List Value} {v : Value} (h : Shape B w n us v) (hB : B' ≤ B) (hs : w.heap.size ≤ w'.heap.size) (hc : ∀ a : Addr, B ≤ a.block → a.block < w.heap.size → w'.cell? a = w.cell? a) : Shape B' w' n us v := by
  cases h with
  | int => exact .int
  | bool => exact .bool
  | unit => exact .unit
  | nil => exact .nil
  | var => exact .var
  | fn => exact .fn
  | app => exact .app
  | bind => exact .bind
  | recur => exact .recur
  | cond => exact .cond
  | sign h => exact .sign h
  | pair => exact .pair
  | take h => exact .take h
  | cons => exact .cons
  | case => exact .case
  | perform => exact .perform
  | handler h h1 h2 => exact .handler h (h1.kept hB hs hc) h2
  | ret => exact .ret
  | op => exact .op

theorem Forms.kept {B B' : Nat} {w w' : World} (hB : B' ≤ B) (hs : w.heap.size ≤ w'.heap.size) (hc : ∀ a : Addr, B ≤ a.block → a.block < w.heap.size → w'.cell? a = w.cell? a) : ∀ {f : Fo} {vs : List Value}, Forms B w f vs → Forms B' w' f vs
  | .none, _, h => h
  | .tree _ _ _, _, ⟨v, us, rest, e, h1, h2, h3⟩ => ⟨v, us, rest, e, Forms.kept hB hs hc h1, h2.kept hB hs hc, Forms.kept hB hs hc h3⟩

theorem Forms.below {B : Nat} {w w' : World} {f : Fo} {vs : List Value} (h : Forms B w f vs) (hb : Below w.heap.size w w') : Forms B w' f vs :=
  Forms.kept (Nat.le_refl _) hb.size (fun _ _ ha => hb.cell ha) h

theorem Shape.below {B : Nat} {w w' : World} {n : Nd} {us : List Value} {v : Value} (h : Shape B w n us v) (hb : Below w.heap.size w w') : Shape B w' n us v :=
  h.kept (Nat.le_refl _) hb.size (fun _ _ ha => hb.cell ha)

theorem Forms.length {B : Nat} {w : World} : ∀ {f : Fo} {vs : List Value}, Forms B w f vs → vs.length = f.count
  | .none, _, h => by rw [show _ = [] from h]; rfl
  | .tree _ _ _, _, ⟨_, _, _, e, _, _, h3⟩ => by rw [e, List.length_cons, Forms.length h3]; rfl

/-- A node has as many kids as its kind asks. -/
def Fits (n : Nd) (m : Nat) : Prop := leastZ n.kind ≤ m ∧ (m : Int) ≤ greatZ n.kind ∧ 1 ≤ n.kind ∧ n.kind ≤ 26

theorem below_draws (B : Nat) (w : World) (n : Nat) : Below B w (w.drewN n) := ⟨rfl, rfl, rfl, Nat.le_refl _, fun _ _ => rfl⟩

theorem len0 {us : List Value} (h : us.length = 0) : us = [] := List.eq_nil_of_length_eq_zero h

theorem len1 {us : List Value} (h : us.length = 1) : ∃ u, us = [u] := by
  match us, h with
  | [u], _ => exact ⟨u, rfl⟩

theorem len2 {us : List Value} (h : us.length = 2) : ∃ u v, us = [u, v] := by
  match us, h with
  | [u, v], _ => exact ⟨u, v, rfl⟩

theorem len3 {us : List Value} (h : us.length = 3) : ∃ u v x, us = [u, v, x] := by
  match us, h with
  | [u, v, x], _ => exact ⟨u, v, x, rfl⟩
end Go.Proofs.YtkdipppeljpgmaaGreatDoor

/- A node's form, made of its kids' forms. -/
namespace Go.Proofs.YtkdipppeljpgmaaGreatDoor
open Go.RowKit

/-- A node as a value. -/
def nodeVal (n : Nd) : Value := .agg #[.int .i64 n.kind, .int .i64 n.num, .string n.a, .string n.b, .string n.c, .int .i64 n.kids]

def FormPost (n : Nd) (G : Nat) (us : List Value) (w : World) (e : Ending) (w' : World) : Prop :=
  ∃ v, e = .returned v ∧ Shape G w' n us v ∧ Below w.heap.size w w'

set_option maxHeartbeats 1000000 in
set_option maxRecDepth 100000 in
theorem formOf_leaf (n : Nd) (G : Nat) (sv : Value) (w : World) (h : n.kind = 1 ∨ n.kind = 2 ∨ n.kind = 3 ∨ n.kind = 4 ∨ n.kind = 5) :
    Calls Tryz.prog 110 #[nodeVal n, sv] w (FormPost n G [] w) := by
  obtain ⟨k, num, a, b, c, kids⟩ := n
  unfold nodeVal
  dsimp only at *
  rcases h with rfl | rfl | rfl | rfl | rfl
  all_goals
    go_enter Tryz.func110, Tryz.ntmps110
    go_wp2_with fail
    go_ret
    exact ⟨_, rfl, by constructor, (Below.refl _ _).alloc (Nat.le_refl _) _⟩

set_option maxHeartbeats 4000000 in
set_option maxRecDepth 100000 in
theorem formOf_one (n : Nd) (G cap : Nat) (T0 : TypeId) (p0 : Value) (w : World) (hG : G < w.heap.size) (h0 : w.cell? ⟨G, 0, none⟩ = some (.iface T0 p0))
    (h : n.kind = 6 ∨ n.kind = 17 ∨ n.kind = 18 ∨ n.kind = 21 ∨ n.kind = 22 ∨ n.kind = 25 ∨ n.kind = 26) :
    Calls Tryz.prog 110 #[nodeVal n, .slice (some ⟨G, 0, none⟩) 1 cap] w (FormPost n G [.iface T0 p0] w) := by
  obtain ⟨k, num, a, b, c, kids⟩ := n
  unfold nodeVal
  dsimp only at *
  rcases h with rfl | rfl | rfl | rfl | rfl | rfl | rfl
  all_goals
    go_enter Tryz.func110, Tryz.ntmps110
    go_wp2_with fail
    go_quiet (fail)
    go_wp2_with fail
    go_ret
    exact ⟨_, rfl, by constructor <;> simp, ((Below.refl _ _).alloc (Nat.le_refl _) _).trans (below_draws _ _ _)⟩

set_option maxHeartbeats 4000000 in
set_option maxRecDepth 100000 in
theorem formOf_two (n : Nd) (G cap : Nat) (T0 T1 : TypeId) (p0 p1 : Value) (w : World) (hG : G < w.heap.size) (h0 : w.cell? ⟨G, 0, none⟩ = some (.iface T0 p0)) (h1 : w.cell? ⟨G, 1, none⟩ = some (.iface T1 p1))
    (h : n.kind = 7 ∨ n.kind = 8 ∨ n.kind = 9 ∨ n.kind = 11 ∨ n.kind = 12 ∨ n.kind = 13 ∨ n.kind = 14 ∨ n.kind = 15 ∨ n.kind = 16 ∨ n.kind = 19) :
    Calls Tryz.prog 110 #[nodeVal n, .slice (some ⟨G, 0, none⟩) 2 cap] w (FormPost n G [.iface T0 p0, .iface T1 p1] w) := by
  obtain ⟨k, num, a, b, c, kids⟩ := n
  unfold nodeVal
  dsimp only at *
  rcases h with rfl | rfl | rfl | rfl | rfl | rfl | rfl | rfl | rfl | rfl
  all_goals
    go_enter Tryz.func110, Tryz.ntmps110
    go_wp2_with fail
    go_quiet (fail)
    go_wp2_with fail
    go_ret
    exact ⟨_, rfl, by constructor <;> simp, ((Below.refl _ _).alloc (Nat.le_refl _) _).trans (below_draws _ _ _)⟩

set_option maxHeartbeats 4000000 in
set_option maxRecDepth 100000 in
theorem formOf_three (n : Nd) (G cap : Nat) (T0 T1 T2 : TypeId) (p0 p1 p2 : Value) (w : World) (hG : G < w.heap.size) (h0 : w.cell? ⟨G, 0, none⟩ = some (.iface T0 p0)) (h1 : w.cell? ⟨G, 1, none⟩ = some (.iface T1 p1)) (h2 : w.cell? ⟨G, 2, none⟩ = some (.iface T2 p2))
    (h : n.kind = 10 ∨ n.kind = 20) :
    Calls Tryz.prog 110 #[nodeVal n, .slice (some ⟨G, 0, none⟩) 3 cap] w (FormPost n G [.iface T0 p0, .iface T1 p1, .iface T2 p2] w) := by
  obtain ⟨k, num, a, b, c, kids⟩ := n
  unfold nodeVal
  dsimp only at *
  rcases h with rfl | rfl
  all_goals
    go_enter Tryz.func110, Tryz.ntmps110
    go_wp2_with fail
    go_quiet (fail)
    go_wp2_with fail
    go_ret
    exact ⟨_, rfl, by constructor, ((Below.refl _ _).alloc (Nat.le_refl _) _).trans (below_draws _ _ _)⟩

set_option maxHeartbeats 4000000 in
set_option maxRecDepth 100000 in
theorem formOf_handler (n : Nd) (G L cap : Nat) (T0 : TypeId) (p0 : Value) (us : List Value) (w : World) (hG : G < w.heap.size) (h0 : w.cell? ⟨G, 0, none⟩ = some (.iface T0 p0)) (hc : ∀ j, j < us.length → w.cell? ⟨G, 1 + j, none⟩ = us[j]?)
    (hL : L = us.length + 1) (hl : us.length ≤ 5) (_hcap : L ≤ cap) (hcap2 : 2 ≤ cap) (h : n.kind = 23 ∨ n.kind = 24) :
    Calls Tryz.prog 110 #[nodeVal n, .slice (some ⟨G, 0, none⟩) L cap] w (FormPost n G (.iface T0 p0 :: us) w) := by
  obtain ⟨k, num, a, b, c, kids⟩ := n
  unfold nodeVal
  dsimp only at *
  have hL1 : 1 ≤ L := by omega
  have HL : Hid (L = us.length + 1) := hL
  have HC : Hid (∀ j, j < us.length → w.cell? ⟨G, 1 + j, none⟩ = us[j]?) := hc
  clear hL hc
  rcases h with rfl | rfl
  all_goals
    go_enter Tryz.func110, Tryz.ntmps110
    go_wp2_with fail
    go_quiet (fail)
    go_wp2_with fail
    go_ret
    have e : L - 1 = us.length := by have := HL.out; omega
    have hb : ∀ o q, Below w.heap.size w ((w.alloc o).drewN q) := fun o q => ((Below.refl _ _).alloc (Nat.le_refl _) _).trans (below_draws _ _ _)
    refine ⟨_, rfl, Shape.handler (by simp) ?_ (Nat.le_trans hl (by decide)), hb _ _⟩
    show RowAt G _ (.slice (some ⟨G, 1, none⟩) (L - 1) (cap - 1)) us
    rw [e]
    refine ⟨G, 1, cap - 1, rfl, Nat.le_refl _, Nat.lt_of_lt_of_le hG (hb _ _).size, fun j hj => ?_⟩
    rw [← HC.out j hj]
    exact (hb _ _).cell (p := ⟨G, 1 + j, none⟩) hG

theorem fits_cases {n : Nd} {m : Nat} (h : Fits n m) :
    (m = 0 ∧ (n.kind = 1 ∨ n.kind = 2 ∨ n.kind = 3 ∨ n.kind = 4 ∨ n.kind = 5)) ∨
    (m = 1 ∧ (n.kind = 6 ∨ n.kind = 17 ∨ n.kind = 18 ∨ n.kind = 21 ∨ n.kind = 22 ∨ n.kind = 25 ∨ n.kind = 26)) ∨
    (m = 2 ∧ (n.kind = 7 ∨ n.kind = 8 ∨ n.kind = 9 ∨ n.kind = 11 ∨ n.kind = 12 ∨ n.kind = 13 ∨ n.kind = 14 ∨ n.kind = 15 ∨ n.kind = 16 ∨ n.kind = 19)) ∨
    (m = 3 ∧ (n.kind = 10 ∨ n.kind = 20)) ∨
    (2 ≤ m ∧ m ≤ 6 ∧ (n.kind = 23 ∨ n.kind = 24)) := by
  obtain ⟨h1, h2, h3, h4⟩ := h
  rcases kinds n.kind with h | h | h | h | h | h | h | h | h | h | h | h | h | h | h | h | h | h | h | h | h | h | h | h | h | h | h
  all_goals try (
    rw [h] at h1 h2
    simp [leastZ, greatZ, arityZ, tab] at h1 h2
    omega)
  omega

theorem formOf_calls (n : Nd) (G cap : Nat) (us : List Value) (sv : Value) (w : World) (hsv : us ≠ [] → sv = .slice (some ⟨G, 0, none⟩) us.length cap) (hG : us ≠ [] → G < w.heap.size)
    (hc : ∀ j, j < us.length → w.cell? ⟨G, j, none⟩ = us[j]?) (hi : ∀ u ∈ us, ∃ T p, u = .iface T p) (hf : Fits n us.length) (hcap : us.length ≤ cap) :
    Calls Tryz.prog 110 #[nodeVal n, sv] w (FormPost n G us w) := by
  rcases fits_cases hf with ⟨hm, hk⟩ | ⟨hm, hk⟩ | ⟨hm, hk⟩ | ⟨hm, hk⟩ | ⟨hm, hm', hk⟩
  · have := len0 hm
    subst this
    exact formOf_leaf n G sv w hk
  · obtain ⟨u, rfl⟩ := len1 hm
    obtain ⟨T0, p0, rfl⟩ := hi u (by simp)
    rw [hsv (by simp)]
    exact formOf_one n G cap T0 p0 w (hG (by simp)) (hc 0 (by simp)) hk
  · obtain ⟨u, v, rfl⟩ := len2 hm
    obtain ⟨T0, p0, rfl⟩ := hi u (by simp)
    obtain ⟨T1, p1, rfl⟩ := hi v (by simp)
    rw [hsv (by simp)]
    exact formOf_two n G cap T0 T1 p0 p1 w (hG (by simp)) (hc 0 (by simp)) (hc 1 (by simp)) hk
  · obtain ⟨u, v, x, rfl⟩ := len3 hm
    obtain ⟨T0, p0, rfl⟩ := hi u (by simp)
    obtain ⟨T1, p1, rfl⟩ := hi v (by simp)
    obtain ⟨T2, p2, rfl⟩ := hi x (by simp)
    rw [hsv (by simp)]
    exact formOf_three n G cap T0 T1 T2 p0 p1 p2 w (hG (by simp)) (hc 0 (by simp)) (hc 1 (by simp)) (hc 2 (by simp)) hk
  · match us, hm, hm' with
    | u :: us', hm, hm' =>
      obtain ⟨T0, p0, rfl⟩ := hi u (by simp)
      rw [hsv (by simp)]
      simp only [List.length_cons] at hm hm' hcap
      refine formOf_handler n G _ cap T0 p0 us' w (hG (by simp)) (hc 0 (by simp)) (fun j hj => ?_) rfl (by omega) hcap (by omega) hk
      have := hc (1 + j) (by simp; omega)
      rw [this, Nat.add_comm 1 j]
      simp
end Go.Proofs.YtkdipppeljpgmaaGreatDoor

/- The form of the tree at a place. -/
namespace Go.Proofs.YtkdipppeljpgmaaGreatDoor
open Go.RowKit Go.Deep

theorem Shape.iface {B : Nat} {w : World} {n : Nd} {us : List Value} {v : Value} (h : Shape B w n us v) : ∃ T p, v = .iface T p := by
  cases h <;> exact ⟨_, _, rfl⟩

theorem Forms.ifaces {B : Nat} {w : World} : ∀ {f : Fo} {vs : List Value}, Forms B w f vs → ∀ u ∈ vs, ∃ T p, u = .iface T p
  | .none, _, h, u, hu => by rw [show _ = [] from h] at hu; cases hu
  | .tree _ _ _, _, ⟨v, _, rest, e, _, h2, h3⟩, u, hu => by
    rw [e] at hu
    rcases List.mem_cons.1 hu with rfl | hu
    · exact h2.iface
    · exact Forms.ifaces h3 u hu

theorem Forms.app {B : Nat} {w : World} {g : Fo} {vs : List Value} (hg : Forms B w g vs) : ∀ {f : Fo} {us : List Value}, Forms B w f us → Forms B w (f.app g) (us ++ vs)
  | .none, _, h => by rw [show _ = [] from h]; exact hg
  | .tree _ _ _, _, ⟨v, us, rest, e, h1, h2, h3⟩ => ⟨v, us, rest ++ vs, by rw [e]; rfl, h1, h2, Forms.app hg h3⟩

theorem Fo.app_snoc (n : Nd) (k r : Fo) : ∀ g : Fo, g.app (.tree n k r) = (g.app (.tree n k .none)).app r
  | .none => rfl
  | .tree n' k' r' => by simp only [Fo.app, app_snoc n k r r']

theorem Fo.app_none : ∀ g : Fo, g.app .none = g
  | .none => rfl
  | .tree n' k' r' => by simp only [Fo.app, app_none r']

theorem info_form : (Tryz.prog.info? 47).map (fun i => (i.zero, i.size, i.bytes)) = some (some .nilIface, 1, 16) := by kernel_rfl

set_option maxHeartbeats 4000000 in
set_option maxRecDepth 100000 in
theorem formAt_calls (b off cap : Nat) (ns : List Nd) (hm : ns.length ≤ 300) (hfit : ∀ m ∈ ns, Fits m m.kids.toNat) : ∀ (N : Nat) (n : Nd) (k : Fo) (suf : List Nd) (p : Nat) (w : World), b < w.heap.size → NodesAt w b off ns → ns.drop p = n :: (k.flat ++ suf) → n.kids = k.count → k.wf → k.flat.length < N →
    Calls Tryz.prog 100 #[.slice (some ⟨b, off, none⟩) ns.length cap, .int .i64 p] w fun e w' => ∃ v us, e = .returned (.tuple #[v, .int .i64 ((p + 1 + k.flat.length : Nat) : Int)]) ∧ Forms w.heap.size w' k us ∧ Shape w.heap.size w' n us v ∧ Below w.heap.size w w' := by
  intro N
  induction N with
  | zero => intro n k suf p w _ _ _ _ _ h; omega
  | succ N ih =>
    intro n k suf p w hbw hn hp hkc hk hN
    obtain ⟨hpl, hnd, hp1⟩ := at_drop hp
    have c0 := hn p hpl 0 (by omega)
    have c1 := hn p hpl 1 (by omega)
    have c2 := hn p hpl 2 (by omega)
    have c3 := hn p hpl 3 (by omega)
    have c4 := hn p hpl 4 (by omega)
    have c5 := hn p hpl 5 (by omega)
    rw [hnd] at c0 c1 c2 c3 c4 c5
    simp only [Nd.cell, Nat.add_zero] at c0 c1 c2 c3 c4 c5
    have hFit : Fits n k.count := by
      have := hfit n (by rw [← hnd, List.getD, List.getElem?_eq_getElem hpl]; exact List.getElem_mem _)
      rw [hkc] at this
      simpa using this
    have hkl : k.flat.length ≤ ns.length := by
      have : (ns.drop (p + 1)).length = k.flat.length + suf.length := by rw [hp1, List.length_append]
      rw [List.length_drop] at this
      omega
    have hkk := Fo.count_le k
    rw [hkc] at c5
    have HI : Hid (∀ (n : Nd) (k : Fo) (suf : List Nd) (p : Nat) (w : World), _) := ih
    have HN : Hid (NodesAt w b off ns) := hn
    have H1 : Hid (ns.drop (p + 1) = k.flat ++ suf) := hp1
    have Hk : Hid k.wf := hk
    obtain ⟨len, hlen⟩ : ∃ len, ns.length = len := ⟨_, rfl⟩
    have Hlen : Hid (ns.length = len) := hlen
    rw [hlen] at hm hpl hkl ⊢
    obtain ⟨kc, hkcc⟩ : ∃ kc, k.count = kc := ⟨_, rfl⟩
    have Hkc : Hid (k.count = kc) := hkcc
    rw [hkcc] at c5 hkk hFit hkc
    have HFit : Hid (Fits n kc) := hFit
    have HP : Hid (len ≤ 300 ∧ p < len ∧ k.flat.length ≤ len ∧ kc ≤ k.flat.length ∧ k.flat.length < N + 1) := ⟨hm, hpl, hkl, hkk, hN⟩
    have hkb : kc ≤ 6 := by rcases fits_cases hFit with h | h | h | h | h <;> omega
    clear ih hn hp hp1 hk hnd hlen hkcc hm hkl hkk hN hFit hfit
    obtain ⟨kd, num, a, bb, cc, kids⟩ := n
    dsimp only at *
    subst hkc
    have hmk := run_make_row' (P := Tryz.prog) 75 47 .nilIface 16 Tryz.underlying75 info_form rfl .i64 .i64 kc (by omega) (by omega)
    go_enter Tryz.func100, Tryz.ntmps100
    go_wp2_with fail
    rw [wrap_succ (by have := HP.out; omega)]
    clear c0 c1 c2 c3 c4 c5 hmk
    generalize hp1 : p + 1 = p1
    have HP1 : Hid (p + 1 = p1) := hp1
    clear hp1
    go_loopw [1, 20] (fun q i wr => ∃ (q' i' : Nat) (r g : Fo) (us : List Value) (f : Nat → Value), q = .int .i64 q' ∧ i = .int .i64 i' ∧ Hid (ns.drop q' = r.flat ++ suf ∧ r.wf ∧ i' + r.count = kc ∧ r.flat.length < N + 1 ∧ q' + r.flat.length = p1 + k.flat.length ∧ k = g.app r ∧ Forms (w.heap.size + 2) wr g us ∧ us.length = i' ∧ ∀ j, j < i' → us[j]? = some (f j)) ∧ wr.rowIs (w.heap.size + 1) 47 kc f ∧ wr.heap[w.heap.size]? = some (.cells #[.int .i64 kd, .int .i64 num, .string a, .string bb, .string cc, .int .i64 kc] 64) ∧ Below w.heap.size w wr) (fun _ i _ => kc - (intOf i).toNat)
    case atStart =>
      refine ⟨p1, 0, k, .none, [], fun _ => .nilIface, rfl, rfl, ⟨by rw [← HP1.out]; exact H1.out, Hk.out, by rw [Hkc.out]; omega, HP.out.2.2.2.2, rfl, rfl, rfl, rfl, fun j hj => absurd hj (Nat.not_lt_zero _)⟩, ?_, ?_, ?_⟩
      · have := World.rowIs_made (w.alloc (.cells #[.int .i64 kd, .int .i64 num, .string a, .string bb, .string cc, .int .i64 kc] 64)) .nilIface kc 47
        simpa using this
      · rw [Below.heap_alloc _ _ _ (by simp)]
        exact (MapKept.heap_alloc w _).1
      · exact ((Below.refl _ _).alloc (Nat.le_refl _) _).alloc (by simp) _
    case round =>
      obtain ⟨q', i', r, g, us, f, rfl, rfl, HR, hrow, eA, hnx⟩ := hrel
      have hltA := heap_lt eA
      cases r with
      | none =>
        obtain ⟨_, _, h1, _, h5, h6, h7, h8, h9⟩ := HR.out
        simp only [Fo.count, Fo.flat, List.length_nil, Nat.add_zero] at h1 h5
        rw [Fo.app_none] at h6
        subst h6 h1
        have a0 := cell_of_heap eA 0
        have a1 := cell_of_heap eA 1
        have a2 := cell_of_heap eA 2
        have a3 := cell_of_heap eA 3
        have a4 := cell_of_heap eA 4
        have a5 := cell_of_heap eA 5
        simp at a0 a1 a2 a3 a4 a5
        have HH : Hid (Forms (w.heap.size + 2) wr k us ∧ us.length = i' ∧ (∀ j, j < i' → us[j]? = some (f j)) ∧ q' = p1 + k.flat.length) := ⟨h7, h8, h9, h5⟩
        clear HR h5 h7 h8 h9
        go_wp2_with fail
        obtain ⟨h7, h8, h9, h5⟩ := HH.out
        have hS := formOf_calls ⟨kd, num, a, bb, cc, (i' : Int)⟩ (w.heap.size + 1) i' us (.slice (some ⟨w.heap.size + 1, 0, none⟩) i' i') wr (fun _ => by rw [h8]) (fun _ => hrow.lt)
          (fun j hj => by rw [hrow.cell (by omega), h9 j (by omega)]) h7.ifaces (by rw [h8]; exact HFit.out) (by omega)
        have HS : Hid (Calls _ _ _ _ _) := hS
        clear hS h5 h7 h8 h9
        refine HS.out.mono ?_
        rintro e w4 ⟨v, rfl, hv, hb4⟩
        have hb5 := hnx.trans (hb4.mono hnx.size)
        have HV : Hid (Shape (w.heap.size + 1) w4 ⟨kd, num, a, bb, cc, (i' : Int)⟩ us v ∧ Below wr.heap.size wr w4) := ⟨hv, hb4⟩
        clear hv hb4 a0 a1 a2 a3 a4 a5 HS
        go_wp2_with fail
        refine bodyPost_ret (results_tmp2 (fn := Tryz.f100) rfl _ _ _) rfl ⟨v, us, ?_, ?_, ?_, hb5⟩
        · have e : p + 1 + k.flat.length = q' := by rw [HP1.out, HH.out.2.2.2]
          rw [e]
          rfl
        · exact Forms.kept (by omega) HV.out.2.size (fun _ _ h => HV.out.2.cell h) HH.out.1
        · exact HV.out.1.kept (by omega) (Nat.le_refl _) (fun _ _ _ => rfl)
      | tree n' k' r' =>
        obtain ⟨h0, hw, h1, h3, h5, h6, h7, h8, h9⟩ := HR.out
        obtain ⟨hw0, hw1, hw2⟩ := hw
        simp only [Fo.count, Fo.flat, List.length_cons, List.length_append] at h1 h3 h5
        simp only [Fo.flat, List.cons_append, List.append_assoc] at h0
        obtain ⟨hql, hqn, hq1⟩ := at_drop h0
        have hnw : NodesAt wr b off ns := HN.out.below hnx hbw
        have hnew := drop_past hq1
        have hIH := HI.out n' k' (r'.flat ++ suf) q' wr (by have := hnx.size; omega) hnw h0 hw0 hw1 (by omega)
        rw [Hlen.out] at hIH
        have HC : Hid (Calls _ _ _ _ _) := hIH
        have hi : (i' : Int) < (kc : Int) := by omega
        have HX : Hid (ns.drop (q' + 1 + k'.flat.length) = r'.flat ++ suf ∧ r'.wf ∧ i' + 1 + r'.count = kc ∧ r'.flat.length < N + 1 ∧ q' + 1 + k'.flat.length + r'.flat.length = p1 + k.flat.length ∧ k = (g.app (.tree n' k' .none)).app r' ∧ Forms (w.heap.size + 2) wr g us ∧ us.length = i' ∧ ∀ j, j < i' → us[j]? = some (f j)) :=
          ⟨hnew, hw2, by omega, by omega, by omega, by rw [h6]; exact Fo.app_snoc _ _ _ _, h7, h8, h9⟩
        clear HR h0 hw0 hw1 hw2 hql hqn hq1 hnw hnew hIH h1 h3 h5 h6 h7 h8 h9
        generalize q' + 1 + k'.flat.length = ee at *
        go_wp2_with fail
        refine HC.out.mono ?_
        rintro e w3 ⟨v, us', rfl, hF3, hS3, hb3⟩
        obtain ⟨T, pv, rfl⟩ := hS3.iface
        have hrow3 : w3.rowIs (w.heap.size + 1) 47 kc f := hrow.of_block (hb3.block _ hrow.lt)
        have hc3 := hrow3.cell (i := i') (by omega)
        have hz3 := hrow3.frozen i'
        have eA3 := (hb3.block w.heap.size hltA).trans eA
        have hnx3 := hnx.trans (hb3.mono hnx.size)
        have HF3 : Hid (Forms wr.heap.size w3 k' us' ∧ Shape wr.heap.size w3 n' us' (.iface T pv)) := ⟨hF3, hS3⟩
        have HB3 : Hid (Below wr.heap.size wr w3) := hb3
        clear hF3 hS3 hb3
        go_wp2_with fail
        obtain ⟨x1, x2, x3, x4, x5, x6, x7, x8, x9⟩ := HX.out
        have hbig : w.heap.size + 2 ≤ wr.heap.size := hrow.lt
        have hsz : w3.heap.size ≤ (w3.setCell ⟨w.heap.size + 1, i', none⟩ (.iface T pv)).heap.size := ((Below.refl 0 w3).setCell (Nat.zero_le _) _).size
        have hcell : ∀ ad : Addr, ad.block ≠ w.heap.size + 1 → (w3.setCell ⟨w.heap.size + 1, i', none⟩ (.iface T pv)).cell? ad = w3.cell? ad := fun ad h => World.cell?_of_block (w := w3) (Below.heap_setCell w3 _ _ ad.block h)
        have y1 : Forms (w.heap.size + 2) (w3.setCell ⟨w.heap.size + 1, i', none⟩ (.iface T pv)) g us := Forms.kept (Nat.le_refl _) (Nat.le_trans HB3.out.size hsz) (fun ad h1 h2 => by rw [hcell ad (by omega)]; exact HB3.out.cell h2) x7
        have y2 : Forms (w.heap.size + 2) (w3.setCell ⟨w.heap.size + 1, i', none⟩ (.iface T pv)) k' us' := Forms.kept hbig hsz (fun ad h1 h2 => hcell ad (by omega)) HF3.out.1
        have y3 : Shape (w.heap.size + 2) (w3.setCell ⟨w.heap.size + 1, i', none⟩ (.iface T pv)) n' us' (.iface T pv) := Shape.kept HF3.out.2 hbig hsz (fun ad h1 h2 => hcell ad (by omega))
        refine ⟨⟨ee, i' + 1, r', g.app (.tree n' k' .none), us ++ [.iface T pv], _, rfl, rfl, ⟨x1, x2, x3, x4, x5, x6, Forms.app (g := .tree n' k' .none) ⟨_, us', [], rfl, y2, y3, rfl⟩ y1, by rw [List.length_append, x8]; rfl, ?_⟩, hrow3.set i' _, ?_, hnx3.setCell (by simp) _⟩, lt_step hi⟩
        · intro j hj
          by_cases hji : j = i'
          · rw [if_pos hji, hji, List.getElem?_append_right (by omega), x8, Nat.sub_self]
            rfl
          · rw [if_neg hji, List.getElem?_append_left (by omega)]
            exact x9 j (by omega)
        · rw [Below.heap_setCell _ _ _ _ (by simp)]
          exact eA3
end Go.Proofs.YtkdipppeljpgmaaGreatDoor

/- Where clauses stand: the specification's walk from the top, and the program's over every node's kids, come to the same. -/
namespace Go.Proofs.YtkdipppeljpgmaaGreatDoor
open Go.RowKit

/-- What a kid must be: 1 what a handler gives, 2 an operation, 0 an expression. -/
def role (pk : Int) (i : Nat) : Nat := if pk = 23 ∨ pk = 24 then (if 2 < i then 2 else i) else 0

/-- An operation's two names differ. -/
def ok26 (n : Nd) : Bool := !(n.kind == 26 && n.b.toList == n.c.toList)

def headOk (n : Nd) (c : Nat) : Bool := ((n.kind == 25) == (c == 1)) && ((n.kind == 26) == (c == 2)) && ok26 n

def isIn (ops : List ByteArray) (s : ByteArray) : Bool := ops.any (fun x => x.toList == s.toList)

def specKids : Fo → Int → Nat → List ByteArray → Bool
  | .none, _, _, _ => true
  | .tree n k r, pk, i, ops => headOk n (role pk i) && (specKids k n.kind 0 [] && (if role pk i = 2 then !isIn ops n.a && specKids r pk (i + 1) (ops ++ [n.a]) else specKids r pk (i + 1) ops))

def clauseZ (k : Int) : Int := if k = 25 ∨ k = 26 then k else 0

def wantedZ (pk : Int) (i : Nat) : Int := if ¬ (pk = 23 ∨ pk = 24) ∨ i = 0 then 0 else if i = 1 then 25 else 26

def implKids : Fo → Int → Nat → List ByteArray → Bool
  | .none, _, _, _ => true
  | .tree n _ r, pk, i, ops => (clauseZ n.kind == wantedZ pk i) && (!isIn ops n.a && implKids r pk (i + 1) (if n.kind = 26 then ops ++ [n.a] else ops))

def implAll : Fo → Bool
  | .none => true
  | .tree n k r => implKids k n.kind 0 [] && (implAll k && implAll r)

theorem role_le (pk : Int) (i : Nat) : role pk i ≤ 2 := by
  unfold role
  split <;> (try split) <;> omega

theorem role_next {pk : Int} {i : Nat} (h : role pk i = 2) : role pk (i + 1) = 2 := by
  unfold role at *
  split at h
  · rename_i hp
    rw [if_pos hp]
    split at h <;> split <;> omega
  · omega

theorem wanted_role (pk : Int) (i : Nat) : wantedZ pk i = if role pk i = 1 then 25 else if role pk i = 2 then 26 else 0 := by
  unfold wantedZ role
  by_cases hp : pk = 23 ∨ pk = 24
  · simp only [hp, not_true_eq_false, false_or, if_true]
    by_cases h0 : i = 0
    · simp [h0]
    · by_cases h1 : i = 1
      · simp [h1]
      · have h2 : (if 2 < i then 2 else i) = 2 := by split <;> omega
        simp [h0, h1, h2]
  · simp [hp]

theorem head_eq (n : Nd) (pk : Int) (i : Nat) (h : ok26 n = true) : headOk n (role pk i) = (clauseZ n.kind == wantedZ pk i) := by
  have hr := role_le pk i
  rw [wanted_role, headOk, h, Bool.and_true]
  unfold clauseZ
  generalize role pk i = c at *
  have hc : c = 0 ∨ c = 1 ∨ c = 2 := by omega
  by_cases h5 : n.kind = 25
  · rw [h5]
    rcases hc with rfl | rfl | rfl <;> rfl
  · by_cases h6 : n.kind = 26
    · rw [h6]
      rcases hc with rfl | rfl | rfl <;> rfl
    · have e5 : (n.kind == 25) = false := by rw [beq_eq_false_iff_ne]; exact h5
      have e6 : (n.kind == 26) = false := by rw [beq_eq_false_iff_ne]; exact h6
      rw [e5, e6, if_neg (by omega)]
      rcases hc with rfl | rfl | rfl <;> rfl

theorem head_op {n : Nd} {c : Nat} (h : headOk n c = true) : n.kind = 26 ↔ c = 2 := by
  simp only [headOk, Bool.and_eq_true, beq_iff_eq] at h
  have := h.1.2
  constructor
  · intro hk
    rw [hk] at this
    simpa using this
  · intro hc
    rw [hc] at this
    simpa using this

theorem clauses_eq : ∀ (f : Fo) (pk : Int) (i : Nat) (ops : List ByteArray), f.flat.all ok26 = true → (ops = [] ∨ role pk i = 2) → specKids f pk i ops = (implKids f pk i ops && implAll f)
  | .none, _, _, _, _, _ => rfl
  | .tree n k r, pk, i, ops, ha, ho => by
    simp only [Fo.flat, List.all_cons, List.all_append, Bool.and_eq_true] at ha
    obtain ⟨hn, hk, hr⟩ := ha
    simp only [specKids, implKids, implAll]
    rw [clauses_eq k n.kind 0 [] hk (Or.inl rfl), ← head_eq n pk i hn]
    cases hh : headOk n (role pk i) with
    | false => simp
    | true =>
      have hop := head_op hh
      by_cases hc : role pk i = 2
      · rw [if_pos hc, if_pos (hop.2 hc), clauses_eq r pk (i + 1) _ hr (Or.inr (role_next hc))]
        cases isIn ops n.a <;> cases implKids k n.kind 0 [] <;> cases implAll k <;> cases implAll r <;> cases implKids r pk (i + 1) (ops ++ [n.a]) <;> rfl
      · have he : ops = [] := ho.resolve_right hc
        subst he
        rw [if_neg hc, if_neg (fun x => hc (hop.1 x)), clauses_eq r pk (i + 1) _ hr (Or.inl rfl)]
        have : isIn [] n.a = false := rfl
        rw [this]
        cases implKids k n.kind 0 [] <;> cases implAll k <;> cases implAll r <;> cases implKids r pk (i + 1) [] <;> rfl

theorem spec_unlike : ∀ (f : Fo) (pk : Int) (i : Nat) (ops : List ByteArray), specKids f pk i ops = true → f.flat.all ok26 = true
  | .none, _, _, _, _ => rfl
  | .tree n k r, pk, i, ops, h => by
    simp only [specKids, Bool.and_eq_true] at h
    obtain ⟨h1, h2, h3⟩ := h
    have e1 : ok26 n = true := by
      simp only [headOk, Bool.and_eq_true] at h1
      exact h1.2
    have e2 := spec_unlike k _ _ _ h2
    have e3 : r.flat.all ok26 = true := by
      split at h3
      · simp only [Bool.and_eq_true] at h3
        exact spec_unlike r _ _ _ h3.2
      · exact spec_unlike r _ _ _ h3
    simp only [Fo.flat, List.all_cons, List.all_append, e1, e2, e3, Bool.and_self]

/-- The whole tree: its top an expression. -/
def specTree (n : Nd) (k : Fo) (c : Nat) : Bool := headOk n c && specKids k n.kind 0 []

def implTree (n : Nd) (k : Fo) : Bool := (clauseZ n.kind == 0) && (implKids k n.kind 0 [] && implAll k)

theorem trees_eq (n : Nd) (k : Fo) : specTree n k 0 = (implTree n k && (n :: k.flat).all ok26) := by
  unfold specTree implTree
  rw [List.all_cons]
  cases hn : ok26 n with
  | false => simp [headOk, hn]
  | true =>
    have e : headOk n 0 = (clauseZ n.kind == 0) := head_eq n 0 0 hn
    rw [e]
    cases hk : k.flat.all ok26 with
    | true =>
      rw [clauses_eq k n.kind 0 [] hk (Or.inl rfl)]
      simp
    | false =>
      have : specKids k n.kind 0 [] = false := by
        cases hs : specKids k n.kind 0 [] with
        | false => rfl
        | true => rw [spec_unlike k _ _ _ hs] at hk; cases hk
      rw [this]
      simp
end Go.Proofs.YtkdipppeljpgmaaGreatDoor

/- Where clauses stand, as the specification asks it. -/
namespace Go.Proofs.YtkdipppeljpgmaaGreatDoor
open Go.RowKit

def strs (ops : List ByteArray) : List Value := ops.map Value.string

set_option maxRecDepth 100000 in
/-- Whether a name is among those of a list of the call's own. -/
theorem isIn_calls (B : Nat) (v : Value) (ops : List ByteArray) (s : ByteArray) (w : World) (hl : ops.length ≤ 1000000) (hown : w.ownsRow B 9 1 v ops.length (strs ops)) :
    Calls Tryz.prog 82 #[v, .string s] w fun e w' => e = .returned (.bool (isIn ops s)) ∧ w = w' := by
  cases ops with
  | nil =>
    obtain ⟨a, c, rfl⟩ : ∃ a c, v = .slice a 0 c := by
      rcases hown.2 with ⟨h, _⟩ | ⟨g, c, cur, h, _⟩
      · exact ⟨none, 0, h⟩
      · exact ⟨_, _, h⟩
    clear hown
    go_enter Tryz.func82, Tryz.ntmps82
    go_wp2_with fail
    go_loop [5] (fun i => i = .int .i64 0) (fun _ => 0)
    case atStart => rfl
    case round =>
      subst hrel
      go_wp2_with fail
      go_ret
      exact ⟨rfl, rfl⟩
  | cons x r =>
    obtain ⟨g, c, rfl⟩ : ∃ g c, v = .slice (some ⟨g, 0, none⟩) (x :: r).length c := by
      rcases hown.2 with ⟨_, h⟩ | ⟨g, c, cur, h, _⟩
      · simp at h
      · exact ⟨_, _, h⟩
    refine (in_calls g 0 (x :: r).length c (x :: r) s w (Nat.le_refl _) hl (fun j hj => ?_)).mono ?_
    · rw [Nat.zero_add, hown.cellAt j (by omega)]
      rw [strs, List.getElem?_map, List.getElem?_eq_getElem hj, List.getD, List.getElem?_eq_getElem hj]
      rfl
    · rintro e w' ⟨rfl, rfl⟩
      exact ⟨by rw [List.take_length]; rfl, rfl⟩

set_option maxHeartbeats 1000000 in
set_option maxRecDepth 100000 in
/-- A node that may not stand there. -/
theorem clauses_bad (b off len cap : Nat) (n : Nd) (k : Fo) (p c : Nat) (w : World) (hpl : p < len)
    (c0 : w.cell? ⟨b, off + p * 6, none⟩ = some (.int .i64 n.kind)) (c1 : w.cell? ⟨b, off + p * 6 + 1, none⟩ = some (.int .i64 n.num)) (c2 : w.cell? ⟨b, off + p * 6 + 2, none⟩ = some (.string n.a))
    (c3 : w.cell? ⟨b, off + p * 6 + 3, none⟩ = some (.string n.b)) (c4 : w.cell? ⟨b, off + p * 6 + 4, none⟩ = some (.string n.c)) (c5 : w.cell? ⟨b, off + p * 6 + 5, none⟩ = some (.int .i64 n.kids)) (hc : c ≤ 2) (hh : headOk n c = false) :
    Calls Tryz.prog 59 #[.slice (some ⟨b, off, none⟩) len cap, .int .i64 p, .int .i64 c] w fun e w' => e = .returned (.bool (specTree n k c)) ∧ Below w.heap.size w w' := by
  have HO : Hid (specTree n k c = false) := by show _ = _; rw [specTree, hh]; rfl
  obtain ⟨kd, num, a, bb, cc, kids⟩ := n
  dsimp only at *
  have hc3 : c = 0 ∨ c = 1 ∨ c = 2 := by omega
  by_cases h5 : kd = 25
  · subst h5
    rcases hc3 with rfl | rfl | rfl
    all_goals first
      | (exfalso; simp [headOk, ok26] at hh; done)
      | (clear hh hc
         go_enter Tryz.func59, Tryz.ntmps59
         go_wp2_with fail
         go_ret
         exact ⟨by rw [HO.out]; rfl, (Below.refl _ _).alloc (Nat.le_refl _) _⟩)
  · by_cases h6 : kd = 26
    · subst h6
      clear h5
      rcases hc3 with rfl | rfl | rfl
      · clear hh hc
        go_enter Tryz.func59, Tryz.ntmps59
        go_wp2_with fail
        go_ret
        exact ⟨by rw [HO.out]; rfl, (Below.refl _ _).alloc (Nat.le_refl _) _⟩
      · clear hh hc
        go_enter Tryz.func59, Tryz.ntmps59
        go_wp2_with fail
        go_ret
        exact ⟨by rw [HO.out]; rfl, (Below.refl _ _).alloc (Nat.le_refl _) _⟩
      · have h4 : (bb.toList == cc.toList) = true := by
          simp [headOk, ok26] at hh
          simpa using hh
        clear hh hc
        go_enter Tryz.func59, Tryz.ntmps59
        go_wp2_with fail
        go_ret
        exact ⟨by rw [HO.out]; rfl, (Below.refl _ _).alloc (Nat.le_refl _) _⟩
    · have k5 : (kd == 25) = false := by rw [beq_eq_false_iff_ne]; exact h5
      have k6 : (kd == 26) = false := by rw [beq_eq_false_iff_ne]; exact h6
      rcases hc3 with rfl | rfl | rfl
      · exfalso
        simp [headOk, ok26, k5, k6] at hh
      all_goals
        clear hh hc h5 h6
        go_enter Tryz.func59, Tryz.ntmps59
        go_wp2_with fail
        go_ret
        exact ⟨by rw [HO.out]; rfl, (Below.refl _ _).alloc (Nat.le_refl _) _⟩
end Go.Proofs.YtkdipppeljpgmaaGreatDoor

/- Where clauses stand, as the specification asks it: the kids one after the other. -/
namespace Go.Proofs.YtkdipppeljpgmaaGreatDoor
open Go.RowKit

theorem info_str : (Tryz.prog.info? 9).map (fun i => (i.zero, i.size, i.bytes)) = some (some (.string ⟨#[]⟩), 1, 16) := by kernel_rfl

theorem cell_one_new (w : World) (n : Nat) (hn : n = w.heap.size) (a : Value) (t : TypeId) : ∀ j u, [a][j]? = some u → (w.alloc (.cells #[a] t)).cell? ((⟨n, 0, none⟩ : Addr).add j) = some u := by
  subst hn
  intro j u hj
  match j, hj with
  | 0, hj => simp at hj; subst hj; simp [Addr.add]
  | j + 1, hj => simp at hj

theorem kids_false {n : Nd} {k r : Fo} {pk : Int} {i : Nat} {ops : List ByteArray} (h : specTree n k (role pk i) = false) : specKids (.tree n k r) pk i ops = false := by
  simp only [specKids]
  unfold specTree at h
  rw [← Bool.and_assoc, h, Bool.false_and]

theorem kids_next {n : Nd} {k r : Fo} {pk : Int} {i : Nat} {ops : List ByteArray} (h : specTree n k (role pk i) = true) (hc : role pk i ≠ 2) : specKids (.tree n k r) pk i ops = specKids r pk (i + 1) ops := by
  simp only [specKids]
  unfold specTree at h
  rw [← Bool.and_assoc, h, Bool.true_and, if_neg hc]

theorem kids_in_false {n : Nd} {k r : Fo} {pk : Int} {i : Nat} {ops : List ByteArray} (hc : role pk i = 2) (hi : isIn ops n.a = true) : specKids (.tree n k r) pk i ops = false := by
  simp only [specKids]
  rw [if_pos hc, hi, Bool.not_true, Bool.false_and, Bool.and_false, Bool.and_false]

theorem kids_in_next {n : Nd} {k r : Fo} {pk : Int} {i : Nat} {ops : List ByteArray} (h : specTree n k (role pk i) = true) (hc : role pk i = 2) (hi : isIn ops n.a = false) : specKids (.tree n k r) pk i ops = specKids r pk (i + 1) (ops ++ [n.a]) := by
  simp only [specKids]
  unfold specTree at h
  rw [← Bool.and_assoc, h, Bool.true_and, if_pos hc, hi, Bool.not_false, Bool.true_and]

theorem role_cases (pk : Int) (i : Nat) (h : role pk i ≠ 2) : ((pk == 23) = false ∧ (pk == 24) = false ∧ role pk i = 0) ∨ ((pk == 23) = true ∧ (i : Int) ≤ 2 ∧ ((i : Int) == 2) = false ∧ role pk i = i) ∨ ((pk == 23) = false ∧ (pk == 24) = true ∧ (i : Int) ≤ 2 ∧ ((i : Int) == 2) = false ∧ role pk i = i) := by
  simp only [beq_iff_eq, beq_eq_false_iff_ne]
  unfold role at *
  split at h
  · rename_i hp
    rw [if_pos hp]
    split at h
    · exact absurd rfl h
    · rename_i h2
      rw [if_neg h2]
      omega
  · rename_i hp
    rw [if_neg hp]
    omega

theorem role_cases2 (pk : Int) (i : Nat) (h : role pk i = 2) : ((pk == 23) = true ∧ (i : Int) ≤ 2 ∧ ((i : Int) == 2) = true ∧ role pk i = i) ∨ ((pk == 23) = true ∧ (2 : Int) < (i : Int)) ∨ ((pk == 23) = false ∧ (pk == 24) = true ∧ (i : Int) ≤ 2 ∧ ((i : Int) == 2) = true ∧ role pk i = i) ∨ ((pk == 23) = false ∧ (pk == 24) = true ∧ (2 : Int) < (i : Int)) := by
  rw [h]
  simp only [beq_iff_eq, beq_eq_false_iff_ne]
  unfold role at h
  split at h
  · split at h <;> omega
  · omega

set_option maxHeartbeats 4000000 in
set_option maxRecDepth 100000 in
theorem clauses_calls (b off cap : Nat) (ns : List Nd) (hm : ns.length ≤ 1000000) : ∀ (N : Nat) (n : Nd) (k : Fo) (suf : List Nd) (p c : Nat) (w : World), c ≤ 2 → b < w.heap.size → NodesAt w b off ns → ns.drop p = n :: (k.flat ++ suf) → n.kids = k.count → k.wf → k.flat.length < N →
    Calls Tryz.prog 59 #[.slice (some ⟨b, off, none⟩) ns.length cap, .int .i64 p, .int .i64 c] w fun e w' => e = .returned (.bool (specTree n k c)) ∧ Below w.heap.size w w' := by
  intro N
  induction N with
  | zero => intro n k suf p c w _ _ _ _ _ _ h; omega
  | succ N ih =>
    intro n k suf p c w hc hbw hn hp hkc hk hN
    obtain ⟨hpl, hnd, hp1⟩ := at_drop hp
    have c0 := hn p hpl 0 (by omega)
    have c1 := hn p hpl 1 (by omega)
    have c2 := hn p hpl 2 (by omega)
    have c3 := hn p hpl 3 (by omega)
    have c4 := hn p hpl 4 (by omega)
    have c5 := hn p hpl 5 (by omega)
    rw [hnd] at c0 c1 c2 c3 c4 c5
    simp only [Nd.cell, Nat.add_zero] at c0 c1 c2 c3 c4 c5
    cases hh : headOk n c with
    | false => exact clauses_bad b off ns.length cap n k p c w hpl c0 c1 c2 c3 c4 c5 hc hh
    | true =>
      have hR : specTree n k c = specKids k n.kind 0 [] := by rw [specTree, hh]; rfl
      rw [hR]
      obtain ⟨R, hRd⟩ : ∃ R, specKids k n.kind 0 [] = R := ⟨_, rfl⟩
      rw [hRd]
      have hkl : k.flat.length ≤ ns.length := by
        have : (ns.drop (p + 1)).length = k.flat.length + suf.length := by rw [hp1, List.length_append]
        rw [List.length_drop] at this
        omega
      have hkk := Fo.count_le k
      rw [hkc] at c5
      have HS : Hid (specKids k n.kind 0 [] = R) := hRd
      have HI : Hid (∀ (n : Nd) (k : Fo) (suf : List Nd) (p c : Nat) (w : World), _) := ih
      have HN : Hid (NodesAt w b off ns) := hn
      have HM : Hid (ns.length ≤ 1048576) := by show _ ≤ _; omega
      have H1 : Hid (ns.drop (p + 1) = k.flat ++ suf) := hp1
      have Hk : Hid k.wf := hk
      obtain ⟨len, hlen⟩ : ∃ len, ns.length = len := ⟨_, rfl⟩
      have Hlen : Hid (ns.length = len) := hlen
      rw [hlen] at hm hpl hkl ⊢
      clear ih hn hp hp1 hk hnd hlen hkc hR hRd
      obtain ⟨kc, hkc⟩ : ∃ kc, k.count = kc := ⟨_, rfl⟩
      have Hkc : Hid (k.count = kc) := hkc
      rw [hkc] at c5 hkk
      have HP : Hid (len ≤ 1000000 ∧ p < len ∧ k.flat.length ≤ len ∧ kc ≤ k.flat.length ∧ k.flat.length < N + 1) := ⟨hm, hpl, hkl, hkk, hN⟩
      clear hkc hm hkl hkk hN
      have cases3 : (n.kind == 25) = true ∧ (n.kind == 26) = false ∧ c = 1 ∨ (n.kind == 25) = false ∧ (n.kind == 26) = true ∧ c = 2 ∧ (n.b.toList == n.c.toList) = false ∨ (n.kind == 25) = false ∧ (n.kind == 26) = false ∧ c = 0 := by
        have hc3 : c = 0 ∨ c = 1 ∨ c = 2 := by omega
        have hx : ¬ ((n.kind == 25) = true ∧ (n.kind == 26) = true) := by
          simp only [beq_iff_eq]
          omega
        simp only [headOk, ok26] at hh
        revert hh hx
        rcases hc3 with rfl | rfl | rfl <;> cases (n.kind == 25) <;> cases (n.kind == 26) <;> cases (n.b.toList == n.c.toList) <;> decide
      have cases4 : (n.kind == 25) = true ∧ (n.kind == 26) = false ∧ (c : Int) = 1 ∨ (n.kind == 25) = false ∧ (n.kind == 26) = true ∧ (c : Int) = 2 ∧ (n.b.toList == n.c.toList) = false ∨ (n.kind == 25) = false ∧ (n.kind == 26) = false ∧ (c : Int) = 0 := by
        rcases cases3 with ⟨k5, k6, rfl⟩ | ⟨k5, k6, rfl, h4⟩ | ⟨k5, k6, rfl⟩
        · exact Or.inl ⟨k5, k6, rfl⟩
        · exact Or.inr (Or.inl ⟨k5, k6, rfl, h4⟩)
        · exact Or.inr (Or.inr ⟨k5, k6, rfl⟩)
      clear hh hc cases3
      generalize (c : Int) = ci at cases4 ⊢
      clear c
      obtain ⟨kd, num, a, bb, cc, kids⟩ := n
      dsimp only at *
      have htt : (true != true) = false := rfl
      have hff : (false != false) = false := rfl
      rcases cases4 with ⟨k5, k6, rfl⟩ | ⟨k5, k6, rfl, h4⟩ | ⟨k5, k6, rfl⟩
      all_goals
        go_enter Tryz.func59, Tryz.ntmps59
        go_wp2_with fail
      all_goals
        clear c0 c1 c2 c3 c4 c5 htt hff
        go_loopw [8, 9, 10] (fun q o i wr => ∃ (q' i' : Nat) (r : Fo) (ops : List ByteArray), q = .int .i64 q' ∧ i = .int .i64 i' ∧ Hid (ns.drop q' = r.flat ++ suf ∧ r.wf ∧ i' + r.count = kc ∧ r.flat.length < N + 1 ∧ specKids r kd i' ops = R ∧ ops.length ≤ i') ∧ wr.ownsRow (w.heap.size + 1) 9 1 o ops.length (strs ops) ∧ wr.heap[w.heap.size]? = some (.cells #[.int .i64 kd, .int .i64 num, .string a, .string bb, .string cc, .int .i64 kc] 64) ∧ Below w.heap.size w wr) (fun _ _ i _ => kc - (intOf i).toNat)
        case atStart =>
          rw [wrap_succ (by have := HP.out; omega)]
          exact ⟨p + 1, 0, k, [], rfl, rfl, ⟨H1.out, Hk.out, by rw [Hkc.out]; omega, HP.out.2.2.2.2, HS.out, Nat.le_refl _⟩, World.ownsRow_nil _ _ _ _, (MapKept.heap_alloc w _).1, (Below.refl _ _).alloc (Nat.le_refl _) _⟩
        case round =>
          obtain ⟨q', i', r, ops, rfl, rfl, HR, hown, eA, hnx⟩ := hrel
          have a0 := cell_of_heap eA 0
          have a5 := cell_of_heap eA 5
          simp at a0 a5
          have hltA := heap_lt eA
          cases r with
          | none =>
            obtain ⟨_, _, h1, _, h2, _⟩ := HR.out
            simp only [Fo.count, specKids] at h1 h2
            have h1' : i' = kc := by omega
            subst h1' h2
            clear HR h1 HI HN HM H1 Hk Hlen Hkc HS eA hown
            go_wp2_with fail
            go_ret
            exact ⟨rfl, hnx⟩
          | tree n' k' r' =>
            obtain ⟨h0, hw, h1, h3, h4', h5'⟩ := HR.out
            obtain ⟨hw0, hw1, hw2⟩ := hw
            simp only [Fo.count, Fo.flat, List.length_cons, List.length_append] at h1 h3
            simp only [Fo.flat, List.cons_append, List.append_assoc] at h0
            obtain ⟨hql, hqn, hq1⟩ := at_drop h0
            have hnw : NodesAt wr b off ns := HN.out.below hnx hbw
            have hend : treeEnd ns q' = _ := treeEnd_at h0 hw0 hw1
            have hnew := drop_past hq1
            have hrl := role_le kd i'
            have hIH := fun w (hb : b < w.heap.size) (hn : NodesAt w b off ns) => HI.out n' k' (r'.flat ++ suf) q' (role kd i') w hrl hb hn h0 hw0 hw1 (by omega)
            have hi : (i' : Int) < (kc : Int) := by omega
            have HX : Hid (ns.drop (q' + 1 + k'.flat.length) = r'.flat ++ suf ∧ r'.wf ∧ i' + 1 + r'.count = kc ∧ r'.flat.length < N + 1 ∧ ops.length ≤ i') := ⟨hnew, hw2, by omega, by omega, h5'⟩
            have HC : Hid (∀ w, _) := hIH
            have HQ : Hid (q' < ns.length ∧ ns.getD q' default = n' ∧ treeEnd ns q' = ((q' + 1 + k'.flat.length : Nat) : Int)) := ⟨hql, hqn, hend⟩
            have HV : Hid (specKids (.tree n' k' r') kd i' ops = R) := h4'
            have HW : Hid (NodesAt wr b off ns) := hnw
            clear HR h0 hw0 hw1 hw2 hql hqn hq1 hnw hend hnew hIH h4' h5' h1 h3 HI
            rw [Hlen.out] at HC
            by_cases hc2 : role kd i' = 2
            · have hf : specTree n' k' (role kd i') = false → Hid (R = false) := fun h => by rw [← HV.out]; exact kids_false h
              have ht : specTree n' k' (role kd i') = true → isIn ops n'.a = false → Hid (specKids r' kd (i' + 1) (ops ++ [n'.a]) = R) := fun h h' => by rw [← HV.out]; exact (kids_in_next h hc2 h').symm
              have hin : isIn ops n'.a = true → Hid (R = false) := fun h => by rw [← HV.out]; exact kids_in_false hc2 h
              rcases role_cases2 kd i' hc2 with ⟨k23, hi2, heq, hr⟩ | ⟨k23, hgt⟩ | ⟨k23, k24, hi2, heq, hr⟩ | ⟨k23, k24, hgt⟩
              all_goals
                try (exfalso; have e := eq_of_beq k23; subst e; revert k5 k6; decide)
                try (exfalso; have e := eq_of_beq k24; subst e; revert k5 k6; decide)
              all_goals
                first
                  | rw [hr] at HC hf ht
                  | rw [hc2] at HC hf ht
                try clear hr
                clear hc2 hrl HV
                go_wp2_with fail
                refine (HC.out wr (by have := hnx.size; omega) HW.out).mono ?_
                rintro e w3 ⟨rfl, hb3⟩
                have eA3 := (hb3.block w.heap.size hltA).trans eA
                have hltA3 := heap_lt eA3
                have hown3 := owns_below hown hb3
                have hnx3 := hnx.trans (hb3.mono hnx.size)
                have HT : Hid (∀ w, NodesAt w b off ns → _) := fun w h => specEnd_calls b off cap ns q' w h HM.out
                rw [HQ.out.2.2, Hlen.out] at HT
                have hqi : q' < len := by have := HQ.out.1; rw [Hlen.out] at this; exact this
                have q2 := HN.out.below hnx3 hbw q' HQ.out.1 2 (by omega)
                rw [HQ.out.2.1] at q2
                simp only [Nd.cell] at q2
                have hA := isIn_calls _ _ ops n'.a w3 (by have := HP.out; have := HX.out; omega) hown3
                clear HC HW hb3 eA hown hnx a0 a5 hltA
                generalize q' + 1 + k'.flat.length = ee at *
                cases hst : specTree n' k' _ with
                | false =>
                  have HF := hf hst
                  clear hf ht hin hA
                  go_wp2_with fail
                  go_ret
                  exact ⟨by rw [HF.out]; rfl, hnx3⟩
                | true =>
                  cases hii : isIn ops n'.a with
                  | true =>
                    have HF := hin hii
                    rw [hii] at hA
                    have HA : Hid (Calls _ _ _ _ _) := hA
                    clear hf ht hin hA
                    go_wp2_with fail
                    refine HA.out.mono ?_
                    rintro e w4 ⟨rfl, rfl⟩
                    go_wp2_with fail
                    go_ret
                    exact ⟨by rw [HF.out]; rfl, hnx3⟩
                  | false =>
                    have HG := ht hst hii
                    rw [hii] at hA
                    have HA : Hid (Calls _ _ _ _ _) := hA
                    clear hf ht hin hA
                    go_wp2_with fail
                    refine HA.out.mono ?_
                    rintro e w4 ⟨rfl, rfl⟩
                    have hol : Hid (ops.length ≤ 1048576) := by show _ ≤ _; have := HP.out; have := HX.out; omega
                    obtain ⟨i0, hinf, hz0, hz1, hz2⟩ := info_parts info_str
                    go_wp2_with (first
                      | (at_builtin; refine wpList_append_own _ rfl _ _ 105 rfl (w.heap.size + 1) 9 i0 (.string ⟨#[]⟩) 1 16 Tryz.underlying105 hinf hz0 hz1 hz2 rfl (by decide) _ _ _ rfl (hown3.alloc _) ⟨w3.heap.size, 0, none⟩ 1 1 [.string n'.a] rfl rfl (cell_one_new _ _ rfl _ _) (fun x hx => by simp at hx; subst hx; rfl) (by have := hol.out; unfold maxLen; omega) (by have := hol.out; omega) (by simp; omega) ?_
                         intro v' w5 hown' hgrow hnil
                         have eA5 : Hid (w5.heap[w.heap.size]? = some (.cells #[.int .i64 kd, .int .i64 num, .string a, .string bb, .string cc, .int .i64 kc] 64)) := by
                           show w5.heap[w.heap.size]? = _
                           rw [hgrow.block w.heap.size (by simp; omega) (fun h => by have := (hown3.lt _ h.symm).1; omega), Below.heap_alloc _ _ _ hltA3]
                           exact eA3
                         have hnx5 : Below w.heap.size w w5 := Below.grown (hnx3.alloc (by omega) _) hgrow (by simp; omega) (fun j hj => by have := (hown3.lt _ hj).1; omega)
                         clear hgrow hnil eA3 hown3 hnx3 q2))
                    refine (HT.out w5 (HN.out.below hnx5 hbw)).mono ?_
                    rintro e w6 ⟨rfl, rfl⟩
                    go_wp2_with fail
                    have hi9 : i' ≤ 1048576 := by have := HP.out; omega
                    try rw [wrap_succ hi9]
                    refine ⟨⟨ee, i' + 1, r', ops ++ [n'.a], rfl, rfl, ⟨HX.out.1, HX.out.2.1, HX.out.2.2.1, HX.out.2.2.2.1, HG.out, ?_⟩, ?_, eA5.out, hnx5⟩, lt_step hi⟩
                    · rw [List.length_append]
                      exact Nat.succ_le_succ HX.out.2.2.2.2
                    · rw [List.length_append, strs, List.map_append]
                      exact hown'
            · have hf : specTree n' k' (role kd i') = false → Hid (R = false) := fun h => by rw [← HV.out]; exact kids_false h
              have ht : specTree n' k' (role kd i') = true → Hid (specKids r' kd (i' + 1) ops = R) := fun h => by rw [← HV.out]; exact (kids_next h hc2).symm
              rcases role_cases kd i' hc2 with ⟨k23, k24, hr⟩ | ⟨k23, hi2, hne, hr⟩ | ⟨k23, k24, hi2, hne, hr⟩
              all_goals
                try (exfalso; have e := eq_of_beq k23; subst e; revert k5 k6; decide)
                try (exfalso; have e := eq_of_beq k24; subst e; revert k5 k6; decide)
              all_goals
                rw [hr] at HC hf ht
                clear hc2 hrl hr HV
                go_wp2_with fail
                refine (HC.out wr (by have := hnx.size; omega) HW.out).mono ?_
                rintro e w3 ⟨rfl, hb3⟩
                have eA3 := (hb3.block w.heap.size hltA).trans eA
                have hown3 := owns_below hown hb3
                have hnx3 := hnx.trans (hb3.mono hnx.size)
                have hE := specEnd_calls b off cap ns q' w3 (HN.out.below hnx3 hbw) HM.out
                rw [HQ.out.2.2, Hlen.out] at hE
                have HT : Hid (Calls _ _ _ _ _) := hE
                clear HC HW hb3 eA hown hnx hE a0 a5 hltA
                generalize q' + 1 + k'.flat.length = ee at *
                cases hst : specTree n' k' _ with
                | false =>
                  have HF := hf hst
                  clear hf ht
                  go_wp2_with fail
                  go_ret
                  exact ⟨by rw [HF.out]; rfl, hnx3⟩
                | true =>
                  have HG := ht hst
                  clear hf ht
                  go_wp2_with fail
                  refine HT.out.mono ?_
                  rintro e w4 ⟨rfl, rfl⟩
                  go_wp2_with fail
                  have hi9 : i' ≤ 1048576 := by have := HP.out; omega
                  try rw [wrap_succ hi9]
                  exact ⟨⟨ee, i' + 1, r', ops, rfl, rfl, ⟨HX.out.1, HX.out.2.1, HX.out.2.2.1, HX.out.2.2.2.1, HG.out, Nat.le_succ_of_le HX.out.2.2.2.2⟩, hown3, eA3, hnx3⟩, lt_step hi⟩
end Go.Proofs.YtkdipppeljpgmaaGreatDoor

/- The kids of a form, as its method tells them. -/
namespace Go.Proofs.YtkdipppeljpgmaaGreatDoor
open Go.RowKit Go.Deep

/-- A slice of these values; the empty one may lie anywhere. -/
def SliceOf (B : Nat) (w : World) (sv : Value) (us : List Value) : Prop := (us = [] ∧ ∃ a c, sv = .slice a 0 c) ∨ RowAt B w sv us

def KidsPost (us : List Value) (w : World) (e : Ending) (w' : World) : Prop := ∃ sv, e = .returned sv ∧ SliceOf w.heap.size w' sv us ∧ Below w.heap.size w w'

/-- A call of the method 'kids' of this value tells these. -/
def KidsOf (w : World) (v : Value) (us : List Value) : Prop :=
  ∃ T pv g rv, v = .iface T pv ∧ (∀ w, (method 312 T pv "loop.example/handrail/impl.kids").run Tryz.prog w = .ok (g, rv) w) ∧ (∀ args w, (callFunc g args).run Tryz.prog w = .ok (.enter g args) w) ∧ Calls Tryz.prog g #[rv] w (KidsPost us w)

theorem row_new (w : World) (o1 : Obj) (us : List Value) (t : TypeId) : SliceOf w.heap.size ((w.alloc o1).alloc (.cells us.toArray t)) (.slice (some ⟨w.heap.size + 1, 0, none⟩) us.length us.length) us := by
  have e := (MapKept.heap_alloc (w.alloc o1) (.cells us.toArray t)).1
  have hs : (w.alloc o1).heap.size = w.heap.size + 1 := by simp
  rw [hs] at e
  refine Or.inr ⟨w.heap.size + 1, 0, us.length, rfl, Nat.le_succ _, heap_lt e, fun j hj => ?_⟩
  rw [Nat.zero_add, cell_of_heap e j]
  simp

theorem below_two (w : World) (o1 o2 : Obj) : Below w.heap.size w ((w.alloc o1).alloc o2) := ((Below.refl _ _).alloc (Nat.le_refl _) o1).alloc (by simp) o2

theorem sliceOf_own {w : World} {base B : Nat} {e : TypeId} {v : Value} {n : Nat} {xs : List Value} (h : w.ownsRow base e 1 v n xs) (hb0 : B ≤ base) : SliceOf B w v xs := by
  have hl := h.1
  rw [Nat.mul_one] at hl
  rcases h.2 with ⟨hv, h0⟩ | ⟨g, cap, cur, hv, hbg, hg, _⟩
  · exact Or.inl ⟨List.eq_nil_of_length_eq_zero (by omega), none, 0, hv⟩
  · subst hv
    refine Or.inr ⟨g, 0, cap, by rw [hl], Nat.le_trans hb0 hbg, heap_lt hg, fun j hj => ?_⟩
    rw [Nat.zero_add]
    exact h.cellAt j (by omega)

set_option maxRecDepth 100000 in
theorem kids_leaf (w : World) : Calls Tryz.prog 196 #[.agg #[]] w (KidsPost [] w) := by
  go_enter Tryz.func196, Tryz.ntmps196
  go_wp2_with fail
  go_ret
  exact ⟨_, rfl, Or.inl ⟨rfl, none, 0, rfl⟩, (Below.refl _ _).alloc (Nat.le_refl _) _⟩

set_option maxRecDepth 100000 in
theorem kids_fn (a : ByteArray) (T0 : TypeId) (p0 : Value) (w : World) : Calls Tryz.prog 173 #[.agg #[.string a, .iface T0 p0]] w (KidsPost [.iface T0 p0] w) := by
  go_enter Tryz.func173, Tryz.ntmps173
  go_wp2_with fail
  go_ret
  exact ⟨_, rfl, row_new w _ [.iface T0 p0] _, below_two w _ _⟩

set_option maxRecDepth 100000 in
theorem kids_app (T0 T1 : TypeId) (p0 p1 : Value) (w : World) : Calls Tryz.prog 208 #[.agg #[.iface T0 p0, .iface T1 p1]] w (KidsPost [.iface T0 p0, .iface T1 p1] w) := by
  go_enter Tryz.func208, Tryz.ntmps208
  go_wp2_with fail
  go_ret
  exact ⟨_, rfl, row_new w _ [.iface T0 p0, .iface T1 p1] _, below_two w _ _⟩

set_option maxRecDepth 100000 in
theorem kids_bind (a : ByteArray) (T0 T1 : TypeId) (p0 p1 : Value) (w : World) : Calls Tryz.prog 176 #[.agg #[.string a, .iface T0 p0, .iface T1 p1]] w (KidsPost [.iface T0 p0, .iface T1 p1] w) := by
  go_enter Tryz.func176, Tryz.ntmps176
  go_wp2_with fail
  go_ret
  exact ⟨_, rfl, row_new w _ [.iface T0 p0, .iface T1 p1] _, below_two w _ _⟩

set_option maxRecDepth 100000 in
theorem kids_recur (a b : ByteArray) (T0 T1 : TypeId) (p0 p1 : Value) (w : World) : Calls Tryz.prog 189 #[.agg #[.string a, .string b, .iface T0 p0, .iface T1 p1]] w (KidsPost [.iface T0 p0, .iface T1 p1] w) := by
  go_enter Tryz.func189, Tryz.ntmps189
  go_wp2_with fail
  go_ret
  exact ⟨_, rfl, row_new w _ [.iface T0 p0, .iface T1 p1] _, below_two w _ _⟩

set_option maxRecDepth 100000 in
theorem kids_cond (T0 T1 T2 : TypeId) (p0 p1 p2 : Value) (w : World) : Calls Tryz.prog 179 #[.agg #[.iface T0 p0, .iface T1 p1, .iface T2 p2]] w (KidsPost [.iface T0 p0, .iface T1 p1, .iface T2 p2] w) := by
  go_enter Tryz.func179, Tryz.ntmps179
  go_wp2_with fail
  go_ret
  exact ⟨_, rfl, row_new w _ [.iface T0 p0, .iface T1 p1, .iface T2 p2] _, below_two w _ _⟩

set_option maxRecDepth 100000 in
theorem kids_sign (k : Int) (T0 T1 : TypeId) (p0 p1 : Value) (w : World) : Calls Tryz.prog 192 #[.agg #[.int .i64 k, .iface T0 p0, .iface T1 p1]] w (KidsPost [.iface T0 p0, .iface T1 p1] w) := by
  go_enter Tryz.func192, Tryz.ntmps192
  go_wp2_with fail
  go_ret
  exact ⟨_, rfl, row_new w _ [.iface T0 p0, .iface T1 p1] _, below_two w _ _⟩

set_option maxRecDepth 100000 in
theorem kids_pair (T0 T1 : TypeId) (p0 p1 : Value) (w : World) : Calls Tryz.prog 212 #[.agg #[.iface T0 p0, .iface T1 p1]] w (KidsPost [.iface T0 p0, .iface T1 p1] w) := by
  go_enter Tryz.func212, Tryz.ntmps212
  go_wp2_with fail
  go_ret
  exact ⟨_, rfl, row_new w _ [.iface T0 p0, .iface T1 p1] _, below_two w _ _⟩

set_option maxRecDepth 100000 in
theorem kids_take (k : Int) (T0 : TypeId) (p0 : Value) (w : World) : Calls Tryz.prog 216 #[.agg #[.int .i64 k, .iface T0 p0]] w (KidsPost [.iface T0 p0] w) := by
  go_enter Tryz.func216, Tryz.ntmps216
  go_wp2_with fail
  go_ret
  exact ⟨_, rfl, row_new w _ [.iface T0 p0] _, below_two w _ _⟩

set_option maxRecDepth 100000 in
theorem kids_cons (T0 T1 : TypeId) (p0 p1 : Value) (w : World) : Calls Tryz.prog 185 #[.agg #[.iface T0 p0, .iface T1 p1]] w (KidsPost [.iface T0 p0, .iface T1 p1] w) := by
  go_enter Tryz.func185, Tryz.ntmps185
  go_wp2_with fail
  go_ret
  exact ⟨_, rfl, row_new w _ [.iface T0 p0, .iface T1 p1] _, below_two w _ _⟩

set_option maxRecDepth 100000 in
theorem kids_case (a b : ByteArray) (T0 T1 T2 : TypeId) (p0 p1 p2 : Value) (w : World) : Calls Tryz.prog 182 #[.agg #[.iface T0 p0, .iface T1 p1, .string a, .string b, .iface T2 p2]] w (KidsPost [.iface T0 p0, .iface T1 p1, .iface T2 p2] w) := by
  go_enter Tryz.func182, Tryz.ntmps182
  go_wp2_with fail
  go_ret
  exact ⟨_, rfl, row_new w _ [.iface T0 p0, .iface T1 p1, .iface T2 p2] _, below_two w _ _⟩

set_option maxRecDepth 100000 in
theorem kids_perform (a : ByteArray) (T0 : TypeId) (p0 : Value) (w : World) : Calls Tryz.prog 220 #[.agg #[.string a, .iface T0 p0]] w (KidsPost [.iface T0 p0] w) := by
  go_enter Tryz.func220, Tryz.ntmps220
  go_wp2_with fail
  go_ret
  exact ⟨_, rfl, row_new w _ [.iface T0 p0] _, below_two w _ _⟩

set_option maxRecDepth 100000 in
theorem kids_ret (a : ByteArray) (T0 : TypeId) (p0 : Value) (w : World) : Calls Tryz.prog 228 #[.agg #[.string a, .iface T0 p0]] w (KidsPost [.iface T0 p0] w) := by
  go_enter Tryz.func228, Tryz.ntmps228
  go_wp2_with fail
  go_ret
  exact ⟨_, rfl, row_new w _ [.iface T0 p0] _, below_two w _ _⟩

set_option maxRecDepth 100000 in
theorem kids_op (a b c : ByteArray) (T0 : TypeId) (p0 : Value) (w : World) : Calls Tryz.prog 231 #[.agg #[.string a, .string b, .string c, .iface T0 p0]] w (KidsPost [.iface T0 p0] w) := by
  go_enter Tryz.func231, Tryz.ntmps231
  go_wp2_with fail
  go_ret
  exact ⟨_, rfl, row_new w _ [.iface T0 p0] _, below_two w _ _⟩

set_option maxHeartbeats 1000000 in
set_option maxRecDepth 100000 in
theorem kids_handler (k : Int) (T0 : TypeId) (p0 sl : Value) (us : List Value) (w : World) (hs : RowAt 0 w sl us) (hl : us.length ≤ 1500) (hi : ∀ u ∈ us, ∃ T p, u = .iface T p) :
    Calls Tryz.prog 224 #[.agg #[.int .i64 k, .iface T0 p0, sl]] w (KidsPost (.iface T0 p0 :: us) w) := by
  obtain ⟨g, o, cap, rfl, _, hg, hc⟩ := hs
  obtain ⟨i0, hinf, hz0, hz1, hz2⟩ := info_parts info_form
  obtain ⟨WA, hWA⟩ : ∃ WA, w.alloc (.cells #[.int .i64 k, .iface T0 p0, .slice (some ⟨g, o, none⟩) us.length cap] 156) = WA := ⟨_, rfl⟩
  have hb1 : Below w.heap.size w WA := by rw [← hWA]; exact (Below.refl _ _).alloc (Nat.le_refl _) _
  have hsz : WA.heap.size = w.heap.size + 1 := by rw [← hWA]; simp
  have hb2 : Below w.heap.size w (WA.alloc (.cells #[.iface T0 p0] 47)) := hb1.alloc (by omega) _
  have hown : (WA.alloc (.cells #[.iface T0 p0] 47)).ownsRow (w.heap.size + 1) 47 1 (.slice (some ⟨WA.heap.size, 0, none⟩) 1 1) 1 [.iface T0 p0] := World.ownsRow_lit WA #[.iface T0 p0] 1 (by omega) (by unfold maxLen; omega) rfl
  rw [hsz] at hown
  have hcs : ∀ j u, us[j]? = some u → (WA.alloc (.cells #[.iface T0 p0] 47)).cell? ((⟨g, o, none⟩ : Addr).add j) = some u := by
    intro j u hj
    have hjl : j < us.length := by
      rcases Nat.lt_or_ge j us.length with h | h
      · exact h
      · rw [List.getElem?_eq_none h] at hj; cases hj
    rw [WideShapes.add_plain, hb2.cell (p := ⟨g, o + j, none⟩) hg, hc j hjl, hj]
  have HO : Hid (World.ownsRow _ _ _ _ _ _ _) := hown
  have HC : Hid (∀ j u, _) := hcs
  have HI : Hid (∀ u ∈ us, ∃ T p, u = .iface T p) := hi
  have HL : Hid (us.length ≤ 1500) := hl
  have HB2 : Hid (Below _ _ _) := hb2
  have HSZ : Hid (WA.heap.size = w.heap.size + 1) := hsz
  have HWA : Hid (_ = WA) := hWA
  clear hown hcs hi hl hc hb2 hb1 hsz hWA
  go_enter Tryz.func224, Tryz.ntmps224
  go_wp2_with (first
    | (at_builtin; rw [HWA.out]; refine wpList_append_own _ rfl _ _ 75 rfl (w.heap.size + 1) 47 i0 .nilIface 1 16 Tryz.underlying75 hinf hz0 hz1 hz2 rfl (by decide) _ _ _ rfl HO.out ⟨g, o, none⟩ us.length cap us rfl (by simp) HC.out (fun x hx => by obtain ⟨T, p, rfl⟩ := HI.out x hx; rfl) (by have := HL.out; unfold maxLen; omega) (by have := HL.out; omega) (by have := HSZ.out; simp; omega) ?_
       intro v' w5 hown' hgrow hnil
       have hB5 : Below w.heap.size w w5 := HB2.out.grown hgrow HB2.out.size (fun j hj => by have := (HO.out.lt _ hj).1; omega)
       clear hgrow hnil))
  go_ret
  exact ⟨_, rfl, sliceOf_own hown' (Nat.le_succ _), hB5⟩

theorem kidsOf_mk {w : World} {v : Value} {us : List Value} (T : TypeId) (pv : Value) (g : FuncId) (hv : v = .iface T pv) (hm : ∀ w, (method 312 T pv "loop.example/handrail/impl.kids").run Tryz.prog w = .ok (g, pv) w)
    (hc : ∀ args w, (callFunc g args).run Tryz.prog w = .ok (.enter g args) w) (hK : Calls Tryz.prog g #[pv] w (KidsPost us w)) : KidsOf w v us := ⟨T, pv, g, pv, hv, hm, hc, hK⟩

theorem kidsOf {B : Nat} {w : World} {n : Nd} {us : List Value} {v : Value} (h : Shape B w n us v) (hi : ∀ u ∈ us, ∃ T p, u = .iface T p) : KidsOf w v us := by
  cases h with
  | int => exact ⟨_, _, 196, .agg #[], rfl, fun w => by kernel_rfl, fun args w => by kernel_rfl, kids_leaf w⟩
  | bool => exact ⟨_, _, 196, .agg #[], rfl, fun w => by kernel_rfl, fun args w => by kernel_rfl, kids_leaf w⟩
  | unit => exact ⟨_, _, 196, .agg #[], rfl, fun w => by kernel_rfl, fun args w => by kernel_rfl, kids_leaf w⟩
  | nil => exact ⟨_, _, 196, .agg #[], rfl, fun w => by kernel_rfl, fun args w => by kernel_rfl, kids_leaf w⟩
  | var => exact ⟨_, _, 196, .agg #[], rfl, fun w => by kernel_rfl, fun args w => by kernel_rfl, kids_leaf w⟩
  | fn =>
    obtain ⟨T0, p0, rfl⟩ := hi _ (List.mem_of_getElem? (i := 0) rfl)
    exact kidsOf_mk _ _ 173 rfl (fun w => by kernel_rfl) (fun args w => by kernel_rfl) (kids_fn _ _ _ w)
  | app =>
    obtain ⟨T0, p0, rfl⟩ := hi _ (List.mem_of_getElem? (i := 0) rfl)
    obtain ⟨T1, p1, rfl⟩ := hi _ (List.mem_of_getElem? (i := 1) rfl)
    exact kidsOf_mk _ _ 208 rfl (fun w => by kernel_rfl) (fun args w => by kernel_rfl) (kids_app _ _ _ _ w)
  | bind =>
    obtain ⟨T0, p0, rfl⟩ := hi _ (List.mem_of_getElem? (i := 0) rfl)
    obtain ⟨T1, p1, rfl⟩ := hi _ (List.mem_of_getElem? (i := 1) rfl)
    exact kidsOf_mk _ _ 176 rfl (fun w => by kernel_rfl) (fun args w => by kernel_rfl) (kids_bind _ _ _ _ _ w)
  | recur =>
    obtain ⟨T0, p0, rfl⟩ := hi _ (List.mem_of_getElem? (i := 0) rfl)
    obtain ⟨T1, p1, rfl⟩ := hi _ (List.mem_of_getElem? (i := 1) rfl)
    exact kidsOf_mk _ _ 189 rfl (fun w => by kernel_rfl) (fun args w => by kernel_rfl) (kids_recur _ _ _ _ _ _ w)
  | cond =>
    obtain ⟨T0, p0, rfl⟩ := hi _ (List.mem_of_getElem? (i := 0) rfl)
    obtain ⟨T1, p1, rfl⟩ := hi _ (List.mem_of_getElem? (i := 1) rfl)
    obtain ⟨T2, p2, rfl⟩ := hi _ (List.mem_of_getElem? (i := 2) rfl)
    exact kidsOf_mk _ _ 179 rfl (fun w => by kernel_rfl) (fun args w => by kernel_rfl) (kids_cond _ _ _ _ _ _ w)
  | sign _ =>
    obtain ⟨T0, p0, rfl⟩ := hi _ (List.mem_of_getElem? (i := 0) rfl)
    obtain ⟨T1, p1, rfl⟩ := hi _ (List.mem_of_getElem? (i := 1) rfl)
    exact kidsOf_mk _ _ 192 rfl (fun w => by kernel_rfl) (fun args w => by kernel_rfl) (kids_sign _ _ _ _ _ w)
  | pair =>
    obtain ⟨T0, p0, rfl⟩ := hi _ (List.mem_of_getElem? (i := 0) rfl)
    obtain ⟨T1, p1, rfl⟩ := hi _ (List.mem_of_getElem? (i := 1) rfl)
    exact kidsOf_mk _ _ 212 rfl (fun w => by kernel_rfl) (fun args w => by kernel_rfl) (kids_pair _ _ _ _ w)
  | take _ =>
    obtain ⟨T0, p0, rfl⟩ := hi _ (List.mem_of_getElem? (i := 0) rfl)
    exact kidsOf_mk _ _ 216 rfl (fun w => by kernel_rfl) (fun args w => by kernel_rfl) (kids_take _ _ _ w)
  | cons =>
    obtain ⟨T0, p0, rfl⟩ := hi _ (List.mem_of_getElem? (i := 0) rfl)
    obtain ⟨T1, p1, rfl⟩ := hi _ (List.mem_of_getElem? (i := 1) rfl)
    exact kidsOf_mk _ _ 185 rfl (fun w => by kernel_rfl) (fun args w => by kernel_rfl) (kids_cons _ _ _ _ w)
  | case =>
    obtain ⟨T0, p0, rfl⟩ := hi _ (List.mem_of_getElem? (i := 0) rfl)
    obtain ⟨T1, p1, rfl⟩ := hi _ (List.mem_of_getElem? (i := 1) rfl)
    obtain ⟨T2, p2, rfl⟩ := hi _ (List.mem_of_getElem? (i := 2) rfl)
    exact kidsOf_mk _ _ 182 rfl (fun w => by kernel_rfl) (fun args w => by kernel_rfl) (kids_case _ _ _ _ _ _ _ _ w)
  | perform =>
    obtain ⟨T0, p0, rfl⟩ := hi _ (List.mem_of_getElem? (i := 0) rfl)
    exact kidsOf_mk _ _ 220 rfl (fun w => by kernel_rfl) (fun args w => by kernel_rfl) (kids_perform _ _ _ w)
  | handler _ hs hl =>
    obtain ⟨T0, p0, rfl⟩ := hi _ (List.mem_of_getElem? (i := 0) rfl)
    exact kidsOf_mk _ _ 224 rfl (fun w => by kernel_rfl) (fun args w => by kernel_rfl) (kids_handler _ _ _ _ _ w (hs.kept (Nat.zero_le _) (Nat.le_refl _) (fun _ _ _ => rfl)) hl (fun u hu => hi u (List.mem_cons_of_mem _ hu)))
  | ret =>
    obtain ⟨T0, p0, rfl⟩ := hi _ (List.mem_of_getElem? (i := 0) rfl)
    exact kidsOf_mk _ _ 228 rfl (fun w => by kernel_rfl) (fun args w => by kernel_rfl) (kids_ret _ _ _ w)
  | op =>
    obtain ⟨T0, p0, rfl⟩ := hi _ (List.mem_of_getElem? (i := 0) rfl)
    exact kidsOf_mk _ _ 231 rfl (fun w => by kernel_rfl) (fun args w => by kernel_rfl) (kids_op _ _ _ _ _ w)
end Go.Proofs.YtkdipppeljpgmaaGreatDoor

/- How deep a form is. -/
namespace Go.Proofs.YtkdipppeljpgmaaGreatDoor
open Go.RowKit Go.Deep

theorem max_step (d x : Nat) : (if d < x then (x : Int) else (d : Int)) = ((max d x : Nat) : Int) := by
  split <;> omega

set_option maxHeartbeats 4000000 in
set_option maxRecDepth 100000 in
theorem deepOf_calls : ∀ (N B : Nat) (n : Nd) (k : Fo) (us : List Value) (v : Value) (w : World), Forms B w k us → Shape B w n us v → k.flat.length ≤ 300 → k.flat.length < N →
    Calls Tryz.prog 18 #[v] w fun e w' => e = .returned (.int .i64 ((k.deep + 1 : Nat) : Int)) ∧ Below w.heap.size w w' := by
  intro N
  induction N with
  | zero => intro B n k us v w _ _ _ h; omega
  | succ N ih =>
    intro B n k us v w hF hS hm hN
    obtain ⟨T, pv, g, rv, rfl, hmth, hcf, hK⟩ := kidsOf hS hF.ifaces
    have hlen := hF.length
    have hd := Fo.deep_le k
    have HI : Hid (∀ (B : Nat) (n : Nd) (k : Fo) (us : List Value) (v : Value) (w : World), _) := ih
    have HF : Hid (Forms B w k us ∧ us.length = k.count ∧ k.flat.length ≤ 300 ∧ k.flat.length < N + 1 ∧ k.deep ≤ k.flat.length) := ⟨hF, hlen, hm, hN, hd⟩
    have HK : Hid (Calls _ _ _ _ _) := hK
    clear ih hF hS hm hN hlen hd hK
    go_enter Tryz.func18, Tryz.ntmps18
    go_wp2_with fail
    refine HK.out.mono ?_
    rintro e w1 ⟨sv, rfl, hsl, hb1⟩
    clear HK hmth hcf
    rcases hsl with ⟨rfl, ad, c, rfl⟩ | ⟨g0, o, cap, rfl, _, hg0, hc0⟩
    · have hk : k = .none := by
        have := HF.out.2.1
        cases k with
        | none => rfl
        | tree => simp [Fo.count] at this
      subst hk
      go_wp2_with fail
      refine wp_loop_rounds 1 ?_
      rw [rounds_succ]
      go_wp2_with fail
      go_ret
      exact ⟨rfl, hb1⟩
    · obtain ⟨L, hL⟩ : ∃ L, us.length = L := ⟨_, rfl⟩
      have HC0 : Hid (us.length = L ∧ ∀ j, j < us.length → w1.cell? ⟨g0, o + j, none⟩ = us[j]?) := ⟨hL, hc0⟩
      rw [hL]
      clear hc0 hL
      go_wp2_with fail
      go_loopw [3, 9] (fun d i wr => ∃ (d' i' : Nat) (r : Fo) (rest : List Value), d = .int .i64 d' ∧ i = .int .i64 i' ∧ Hid (Forms B wr r rest ∧ us.drop i' = rest ∧ i' + r.count = L ∧ max d' r.deep = k.deep ∧ r.flat.length < N + 1 ∧ r.flat.length ≤ 300) ∧ Below w1.heap.size w1 wr) (fun _ i _ => L - (intOf i).toNat)
      case atStart =>
        obtain ⟨f1, f2, f3, f4, f5⟩ := HF.out
        exact ⟨0, 0, k, us, rfl, rfl, ⟨f1.below hb1, rfl, by rw [← f2, HC0.out.1]; omega, by omega, f4, f3⟩, Below.refl _ _⟩
      case round =>
        obtain ⟨d', i', r, rest, rfl, rfl, HR, hbr⟩ := hrel
        have hB := hb1.trans (hbr.mono hb1.size)
        have HD : Hid (k.deep ≤ 300) := by show _ ≤ _; have := HF.out; omega
        cases r with
        | none =>
          obtain ⟨_, _, h1, h2, _⟩ := HR.out
          simp only [Fo.count, Fo.deep] at h1 h2
          have h1' : i' = L := by omega
          have h2' : d' = k.deep := by omega
          subst h1'
          have HD2 : Hid (d' = k.deep) := h2'
          clear HR h1 h2 h2' HI HF
          go_wp2_with fail
          try rw [wrap_succ (by rw [HD2.out]; have := HD.out; omega)]
          go_ret
          exact ⟨by rw [← HD2.out]; rfl, hB⟩
        | tree n' k' r' =>
          obtain ⟨⟨v', us', rest', e1, hF1, hS1, hF2⟩, e2, h1, h2, h3, h4⟩ := HR.out
          simp only [Fo.count, Fo.deep, Fo.flat, List.length_cons, List.length_append] at h1 h2 h3 h4
          rw [e1] at e2
          have hi : (i' : Int) < (L : Int) := by omega
          have hil : i' < us.length := by rw [HC0.out.1]; omega
          have hcell : wr.cell? ⟨g0, o + i', none⟩ = some v' := by
            rw [hbr.cell (p := ⟨g0, o + i', none⟩) hg0, HC0.out.2 i' hil]
            rw [List.drop_eq_getElem_cons hil] at e2
            rw [List.getElem?_eq_getElem hil, (List.cons.inj e2).1]
          have hdrop : us.drop (i' + 1) = rest' := by
            rw [List.drop_eq_getElem_cons hil] at e2
            exact (List.cons.inj e2).2
          obtain ⟨T', p', rfl⟩ := hS1.iface
          have hIH := HI.out B n' k' us' _ wr hF1 hS1 (by omega) (by omega)
          have HC : Hid (Calls _ _ _ _ _) := hIH
          have HX : Hid (Forms B wr r' rest' ∧ us.drop (i' + 1) = rest' ∧ i' + 1 + r'.count = L ∧ max (max d' (k'.deep + 1)) r'.deep = k.deep ∧ r'.flat.length < N + 1 ∧ r'.flat.length ≤ 300) := ⟨hF2, hdrop, by omega, by omega, by omega, by omega⟩
          clear HR hF1 hS1 hF2 e1 e2 h1 h2 h3 h4 hil hdrop hIH
          generalize k'.deep + 1 = x at *
          go_wp2_with fail
          refine HC.out.mono ?_
          rintro e w2 ⟨rfl, hb2⟩
          have hbr2 := hbr.trans (hb2.mono hbr.size)
          have HB2 : Hid (Below wr.heap.size wr w2) := hb2
          clear hb2
          go_wp2_with fail
          have hi9 : i' ≤ 1048576 := by have := HF.out; have := HC0.out.1; have := Fo.count_le k; omega
          rw [wrap_succ hi9]
          obtain ⟨x1, x2, x3, x4, x5, x6⟩ := HX.out
          exact ⟨⟨max d' x, i' + 1, r', rest', by rw [max_step], rfl, ⟨x1.below HB2.out, x2, x3, x4, x5, x6⟩, hbr2⟩, lt_step hi⟩
end Go.Proofs.YtkdipppeljpgmaaGreatDoor
