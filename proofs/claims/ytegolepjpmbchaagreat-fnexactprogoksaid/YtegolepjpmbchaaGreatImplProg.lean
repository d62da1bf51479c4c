/- Whether a program may be, as the program asks it. -/
import Derived.Test.YtegolepjpmbchaaGreatProgPure
import Derived.Test.YtegolepjpmbchaaGreatKept
import Derived.Test.YtegolepjpmbchaaGreatCalm
namespace Go.Proofs.YtegolepjpmbchaaGreat
open Go.RowKit Go.Deep

set_option maxHeartbeats 8000000 in
set_option maxRecDepth 100000 in
theorem implProg_calls (be bt : Nat) (es : List Ef) (ns : List Nd) (T : Bool) (w : World) (hbe : be < w.heap.size) (hbt : bt < w.heap.size) (hE : EffsAt w be 0 es) (hN : NodesAt w bt 0 ns) (me : es.length ≤ 1048576) (mn : ns.length ≤ 1048576) (hsh : ∀ e ∈ es, e.name.size ≤ maxLen) (hTT : ∀ w' : World, bt < w'.heap.size → NodesAt w' bt 0 ns → Calls Tryz.prog 16 #[.slice (some ⟨bt, 0, none⟩) ns.length ns.length] w' fun e w'' => e = .returned (.bool T) ∧ Below w'.heap.size w' w'') :
    Calls Tryz.prog 7 #[.agg #[.slice (some ⟨be, 0, none⟩) es.length es.length, .slice (some ⟨bt, 0, none⟩) ns.length ns.length]] w fun e w' => e = .returned (.bool (progZ es ns T)) ∧ Below w.heap.size w w' := by
  have hb1 : Below w.heap.size w (w.alloc (.cells #[.slice (some ⟨be, 0, none⟩) es.length es.length, .slice (some ⟨bt, 0, none⟩) ns.length ns.length] 31)) := (Below.refl _ _).alloc (Nat.le_refl _) _
  have HT : Hid (Calls _ _ _ _ _) := hTT (w.alloc (.cells #[.slice (some ⟨be, 0, none⟩) es.length es.length, .slice (some ⟨bt, 0, none⟩) ns.length ns.length] 31)) (Nat.lt_of_lt_of_le hbt hb1.size) (hN.below hb1 hbt)
  have HB1 : Hid (Below w.heap.size w (w.alloc (.cells #[.slice (some ⟨be, 0, none⟩) es.length es.length, .slice (some ⟨bt, 0, none⟩) ns.length ns.length] 31))) := hb1
  have HK1 : Hid ((w.alloc (.cells #[.slice (some ⟨be, 0, none⟩) es.length es.length, .slice (some ⟨bt, 0, none⟩) ns.length ns.length] 31)).heap[w.heap.size]? = some (.cells #[.slice (some ⟨be, 0, none⟩) es.length es.length, .slice (some ⟨bt, 0, none⟩) ns.length ns.length] 31)) := (MapKept.heap_alloc w _).1
  obtain ⟨R, hR⟩ : ∃ R, progZ es ns T = R := ⟨_, rfl⟩
  have HR : Hid (progZ es ns T = R) := hR
  have HE : Hid (EffsAt w be 0 es) := hE
  have HN : Hid (NodesAt w bt 0 ns) := hN
  have HMN : Hid (ns.length ≤ 1048576) := mn
  rw [hR]
  obtain ⟨len, hlen⟩ : ∃ len, es.length = len := ⟨_, rfl⟩
  obtain ⟨ln, hln⟩ : ∃ ln, ns.length = ln := ⟨_, rfl⟩
  have Hlen : Hid (es.length = len ∧ ns.length = ln) := ⟨hlen, hln⟩
  rw [hlen, hln] at HT HB1 HK1 ⊢
  have HM : Hid (len ≤ 1048576 ∧ ln ≤ 1048576) := by show _ ∧ _; omega
  have HSH : Hid (∀ e ∈ es, e.name.size ≤ maxLen) := hsh
  clear hb1 hR hE hN me mn hTT hlen hln hsh
  by_cases h8 : (8 : Int) < (len : Int)
  · have HF : Hid (R = false) := by
      show R = false
      rw [← HR.out, progZ, Hlen.out.1, decide_eq_false (by omega), Bool.false_and]
    clear HT HE HN HK1
    go_enter Tryz.func7, Tryz.ntmps7
    go_wp2_with fail
    go_ret
    exact ⟨by rw [HF.out]; rfl, HB1.out⟩
  have h8' : (len : Int) ≤ 8 := by omega
  have HR8 : Hid ((T && ((List.range len).all (effOk es) && ns.all (nodeHas es))) = R) := by
    show _ = R
    rw [← HR.out, progZ, Hlen.out.1, decide_eq_true (by omega), Bool.true_and]
  clear h8
  go_enter Tryz.func7, Tryz.ntmps7
  go_wp2_with fail
  refine HT.out.mono ?_
  rintro e w2 ⟨rfl, hb2⟩
  have hbw2 := HB1.out.trans (hb2.mono HB1.out.size)
  have kp2 := (hb2.block w.heap.size (by simp)).trans HK1.out
  clear HT HB1 HK1 hb2
  cases T with
  | false =>
    go_wp2_with fail
    go_ret
    exact ⟨by rw [← HR8.out]; rfl, hbw2⟩
  | true =>
    have HRR : Hid (((List.range len).all (effOk es) && ns.all (nodeHas es)) = R) := HR8.out
    clear HR8 HR
    have pA0 := cell_of_heap kp2 0
    simp at pA0
    go_wp2_with fail
    clear pA0
    go_loopw [20] (fun i wr => ∃ i' : Nat, i = .int .i64 i' ∧ i' ≤ len ∧ Hid ((List.range i').all (effOk es) = true) ∧ wr.heap[w.heap.size]? = some (.cells #[.slice (some ⟨be, 0, none⟩) len len, .slice (some ⟨bt, 0, none⟩) ln ln] 31) ∧ Below w.heap.size w wr) (fun i _ => len - (intOf i).toNat)
    case atStart => exact ⟨0, rfl, Nat.zero_le _, rfl, kp2, hbw2⟩
    case round =>
      obtain ⟨i', rfl, hle, HI, kp, hbx⟩ := hrel
      have hAlt := heap_lt kp
      have pA := cell_of_heap kp 0
      have pB := cell_of_heap kp 1
      simp at pA pB
      have hEx := HE.out.below hbx hbe
      by_cases hlt : (i' : Int) < (len : Int)
      · have hil : i' < es.length := by rw [Hlen.out.1]; omega
        have c0 := hEx i' hil 0 (by omega)
        have c1 := hEx i' hil 1 (by omega)
        have c2 := hEx i' hil 2 (by omega)
        obtain ⟨ef, hef⟩ : ∃ ef, es.getD i' default = ef := ⟨_, rfl⟩
        have hF : effOk es i' = false → Hid (R = false) := fun h => by
          show R = false
          have := range_false hil h
          rw [Hlen.out.1] at this
          rw [← HRR.out, this, Bool.false_and]
        have hS : effOk es i' = true → Hid ((List.range (i' + 1)).all (effOk es) = true) := fun h => range_step HI.out h
        have hdef : effOk es i' = (nameOk ef.name && (!effIn (es.take i') ef.name && (decide (1 ≤ ef.arg ∧ ef.arg ≤ 4) && decide (1 ≤ ef.res ∧ ef.res ≤ 4)))) := by rw [effOk, hef]
        rw [hdef] at hF hS
        rw [hef] at c0 c1 c2
        simp only [Ef.cell, Nat.add_zero, Nat.zero_add] at c0 c1 c2
        have htl : (es.take i').length = i' := by simp; omega
        have HP : Hid (∀ w, be < w.heap.size → EffsAt w be 0 es → _) := fun w hb h => hasEff_calls (some ⟨be, 0, none⟩) len (es.take i') ef.name w (by rw [htl]; have := HM.out; omega) (fun _ => ⟨be, 0, rfl, hb, effsTake h⟩)
        rw [htl] at HP
        have hshe : ef.name.size ≤ maxLen := by
          rw [← hef]
          exact HSH.out _ (by simp [List.getD, List.getElem?_eq_getElem hil])
        have hLn : ∀ w, _ := fun w => implName_calls ef.name hshe w
        have hbW : Below w.heap.size w (wr.alloc (.cells #[.string ef.name, .int .i64 ef.arg, .int .i64 ef.res] 39)) := hbx.alloc (by have := hbx.size; omega) _
        have HEW : Hid (EffsAt (wr.alloc (.cells #[.string ef.name, .int .i64 ef.arg, .int .i64 ef.res] 39)) be 0 es) := HE.out.below hbW hbe
        obtain ⟨nm, ar, rs⟩ := ef
        dsimp only at *
        clear hEx hil hdef hef HI HE htl hshe
        generalize effIn (es.take i') nm = ein at *
        have hA1 : ∀ w, _ := fun w => baseOk_calls ar w
        have hA2 : ∀ w, _ := fun w => baseOk_calls rs w
        generalize decide (1 ≤ ar ∧ ar ≤ 4) = okA at *
        generalize decide (1 ≤ rs ∧ rs ≤ 4) = okR at *
        generalize nameOk nm = okN at *
        go_wp2_with fail
        have u0 : (wr.alloc (.cells #[.string nm, .int .i64 ar, .int .i64 rs] 39)).cell? ⟨wr.heap.size, 0, none⟩ = some (.string nm) := by simp [go_sem]
        have u1 : (wr.alloc (.cells #[.string nm, .int .i64 ar, .int .i64 rs] 39)).cell? ⟨wr.heap.size, 1, none⟩ = some (.int .i64 ar) := by simp [go_sem]
        have u2 : (wr.alloc (.cells #[.string nm, .int .i64 ar, .int .i64 rs] 39)).cell? ⟨wr.heap.size, 2, none⟩ = some (.int .i64 rs) := by simp [go_sem]
        have kpW := (Below.heap_alloc wr (.cells #[.string nm, .int .i64 ar, .int .i64 rs] 39) _ hAlt).trans kp
        have uA := cell_of_heap kpW 0
        simp at uA
        have hEW : wr.heap.size < (wr.alloc (.cells #[.string nm, .int .i64 ar, .int .i64 rs] 39)).heap.size := by simp
        have hAW : w.heap.size < (wr.alloc (.cells #[.string nm, .int .i64 ar, .int .i64 rs] 39)).heap.size := by simp; omega
        have hbeW : be < (wr.alloc (.cells #[.string nm, .int .i64 ar, .int .i64 rs] 39)).heap.size := by simp; omega
        generalize (wr.alloc (.cells #[.string nm, .int .i64 ar, .int .i64 rs] 39)) = W at *
        have HED : Hid (EffsAt W be 0 es) := HEW.out
        have v0 : ∀ x : Later W.heap.size W, x.w.cell? ⟨wr.heap.size, 0, none⟩ = some (.string nm) := fun x => x.cell hEW u0
        have v1 : ∀ x : Later W.heap.size W, x.w.cell? ⟨wr.heap.size, 1, none⟩ = some (.int .i64 ar) := fun x => x.cell hEW u1
        have v2 : ∀ x : Later W.heap.size W, x.w.cell? ⟨wr.heap.size, 2, none⟩ = some (.int .i64 rs) := fun x => x.cell hEW u2
        have vA : ∀ x : Later W.heap.size W, x.w.cell? ⟨w.heap.size, 0, none⟩ = some (.slice (some ⟨be, 0, none⟩) len len) := fun x => x.cell hAW uA
        clear c0 c1 c2 pA pB kp HEW
        have HL : Hid (∀ w, _) := hLn
        have H1 : Hid (∀ w, _) := hA1
        have H2 : Hid (∀ w, _) := hA2
        clear hLn hA1 hA2
        have HFF : Hid ((okN && (!ein && (okA && okR))) = false → Hid (R = false)) := hF
        have HSS : Hid ((okN && (!ein && (okA && okR))) = true → Hid ((List.range (i' + 1)).all (effOk es) = true)) := hS
        clear hF hS
        cases okN
        · have HF := HFF.out rfl
          clear HFF HSS
          refine wp_region_calm W.heap.size (by kernel_rfl) (by kernel_rfl) ?_
          repeat (go_big_quiet_step (first
            | (rename_i x; go_at_call 17; refine (HL.out _).mono ?_; rintro e w5 ⟨rfl, hb5⟩; exact ⟨rfl, ⟨w5, x.h.trans (hb5.mono x.h.size)⟩, rfl⟩)
            | (rename_i x; go_at_call 18; refine (H1.out _).mono ?_; rintro e w6 ⟨rfl, rfl⟩; exact ⟨rfl, x, rfl⟩)
            | (rename_i x; go_at_call 18; refine (H2.out _).mono ?_; rintro e w6 ⟨rfl, rfl⟩; exact ⟨rfl, x, rfl⟩)
            | (rename_i x; go_at_call 19; refine (HP.out _ (Nat.lt_of_lt_of_le hbeW x.h.size) (HED.out.below x.h hbeW)).mono ?_; rintro e w5 ⟨rfl, hb5⟩; exact ⟨rfl, ⟨w5, x.h.trans (hb5.mono x.h.size)⟩, rfl⟩)))
          refine wpQuiet_nil ?_
          rintro w5 ⟨x, rfl⟩
          have hx := hbW.trans (x.h.mono hbW.size)
          clear u0 u1 u2 uA v0 v1 v2 vA
          go_wp2_with fail
          go_ret
          exact ⟨by rw [HF.out]; rfl, hx⟩
        cases okA
        · have HF := HFF.out (by cases ein <;> rfl)
          clear HFF HSS
          refine wp_region_calm W.heap.size (by kernel_rfl) (by kernel_rfl) ?_
          repeat (go_big_quiet_step (first
            | (rename_i x; go_at_call 17; refine (HL.out _).mono ?_; rintro e w5 ⟨rfl, hb5⟩; exact ⟨rfl, ⟨w5, x.h.trans (hb5.mono x.h.size)⟩, rfl⟩)
            | (rename_i x; go_at_call 18; refine (H1.out _).mono ?_; rintro e w6 ⟨rfl, rfl⟩; exact ⟨rfl, x, rfl⟩)
            | (rename_i x; go_at_call 18; refine (H2.out _).mono ?_; rintro e w6 ⟨rfl, rfl⟩; exact ⟨rfl, x, rfl⟩)
            | (rename_i x; go_at_call 19; refine (HP.out _ (Nat.lt_of_lt_of_le hbeW x.h.size) (HED.out.below x.h hbeW)).mono ?_; rintro e w5 ⟨rfl, hb5⟩; exact ⟨rfl, ⟨w5, x.h.trans (hb5.mono x.h.size)⟩, rfl⟩)))
          refine wpQuiet_nil ?_
          rintro w5 ⟨x, rfl⟩
          have hx := hbW.trans (x.h.mono hbW.size)
          clear u0 u1 u2 uA v0 v1 v2 vA
          go_wp2_with fail
          go_ret
          exact ⟨by rw [HF.out]; rfl, hx⟩
        cases okR
        · have HF := HFF.out (by cases ein <;> rfl)
          clear HFF HSS
          refine wp_region_calm W.heap.size (by kernel_rfl) (by kernel_rfl) ?_
          repeat (go_big_quiet_step (first
            | (rename_i x; go_at_call 17; refine (HL.out _).mono ?_; rintro e w5 ⟨rfl, hb5⟩; exact ⟨rfl, ⟨w5, x.h.trans (hb5.mono x.h.size)⟩, rfl⟩)
            | (rename_i x; go_at_call 18; refine (H1.out _).mono ?_; rintro e w6 ⟨rfl, rfl⟩; exact ⟨rfl, x, rfl⟩)
            | (rename_i x; go_at_call 18; refine (H2.out _).mono ?_; rintro e w6 ⟨rfl, rfl⟩; exact ⟨rfl, x, rfl⟩)
            | (rename_i x; go_at_call 19; refine (HP.out _ (Nat.lt_of_lt_of_le hbeW x.h.size) (HED.out.below x.h hbeW)).mono ?_; rintro e w5 ⟨rfl, hb5⟩; exact ⟨rfl, ⟨w5, x.h.trans (hb5.mono x.h.size)⟩, rfl⟩)))
          refine wpQuiet_nil ?_
          rintro w5 ⟨x, rfl⟩
          have hx := hbW.trans (x.h.mono hbW.size)
          clear u0 u1 u2 uA v0 v1 v2 vA
          go_wp2_with fail
          go_ret
          exact ⟨by rw [HF.out]; rfl, hx⟩
        cases ein
        · have HS := HSS.out rfl
          clear HFF HSS
          refine wp_region_calm W.heap.size (by kernel_rfl) (by kernel_rfl) ?_
          repeat (go_big_quiet_step (first
            | (rename_i x; go_at_call 17; refine (HL.out _).mono ?_; rintro e w5 ⟨rfl, hb5⟩; exact ⟨rfl, ⟨w5, x.h.trans (hb5.mono x.h.size)⟩, rfl⟩)
            | (rename_i x; go_at_call 18; refine (H1.out _).mono ?_; rintro e w6 ⟨rfl, rfl⟩; exact ⟨rfl, x, rfl⟩)
            | (rename_i x; go_at_call 18; refine (H2.out _).mono ?_; rintro e w6 ⟨rfl, rfl⟩; exact ⟨rfl, x, rfl⟩)
            | (rename_i x; go_at_call 19; refine (HP.out _ (Nat.lt_of_lt_of_le hbeW x.h.size) (HED.out.below x.h hbeW)).mono ?_; rintro e w5 ⟨rfl, hb5⟩; exact ⟨rfl, ⟨w5, x.h.trans (hb5.mono x.h.size)⟩, rfl⟩)))
          refine wpQuiet_nil ?_
          rintro w5 ⟨x, rfl⟩
          have hx := hbW.trans (x.h.mono hbW.size)
          have kp5 := (x.h.block w.heap.size hAW).trans kpW
          clear u0 u1 u2 uA v0 v1 v2 vA
          go_wp2_with fail
          have hs : len - (intOf (.int .i64 ((i' + 1 : Nat) : Int))).toNat < len - (intOf (.int .i64 (i' : Int))).toNat := by simp only [intOf, Int.toNat_natCast]; omega
          try rw [show wrap64 ((i' : Int) + 1) = ((i' + 1 : Nat) : Int) by have := HM.out; unfold wrap64; omega]
          exact ⟨⟨i' + 1, rfl, by omega, HS, kp5, hx⟩, hs⟩
        · have HF := HFF.out rfl
          clear HFF HSS
          refine wp_region_calm W.heap.size (by kernel_rfl) (by kernel_rfl) ?_
          repeat (go_big_quiet_step (first
            | (rename_i x; go_at_call 17; refine (HL.out _).mono ?_; rintro e w5 ⟨rfl, hb5⟩; exact ⟨rfl, ⟨w5, x.h.trans (hb5.mono x.h.size)⟩, rfl⟩)
            | (rename_i x; go_at_call 18; refine (H1.out _).mono ?_; rintro e w6 ⟨rfl, rfl⟩; exact ⟨rfl, x, rfl⟩)
            | (rename_i x; go_at_call 18; refine (H2.out _).mono ?_; rintro e w6 ⟨rfl, rfl⟩; exact ⟨rfl, x, rfl⟩)
            | (rename_i x; go_at_call 19; refine (HP.out _ (Nat.lt_of_lt_of_le hbeW x.h.size) (HED.out.below x.h hbeW)).mono ?_; rintro e w5 ⟨rfl, hb5⟩; exact ⟨rfl, ⟨w5, x.h.trans (hb5.mono x.h.size)⟩, rfl⟩)))
          refine wpQuiet_nil ?_
          rintro w5 ⟨x, rfl⟩
          have hx := hbW.trans (x.h.mono hbW.size)
          clear u0 u1 u2 uA v0 v1 v2 vA
          go_wp2_with fail
          go_ret
          exact ⟨by rw [HF.out]; rfl, hx⟩
      · have e : i' = len := by omega
        subst e
        have HR2 : Hid (ns.all (nodeHas es) = R) := by
          show _ = R
          rw [← HRR.out, HI.out, Bool.true_and]
        clear HRR HI hEx
        go_wp2_with fail
        clear pA pB
        go_loopw [54] (fun j wr => ∃ k : Nat, j = .int .i64 k ∧ k ≤ ln ∧ Hid ((ns.take k).all (nodeHas es) = true) ∧ wr.heap[w.heap.size]? = some (.cells #[.slice (some ⟨be, 0, none⟩) i' i', .slice (some ⟨bt, 0, none⟩) ln ln] 31) ∧ Below w.heap.size w wr) (fun j _ => ln - (intOf j).toNat)
        case atStart => exact ⟨0, rfl, Nat.zero_le _, rfl, kp, hbx⟩
        case round =>
          clear kp hbx hAlt
          obtain ⟨k, rfl, hk, HI, kp, hbx⟩ := hrel
          have hAlt := heap_lt kp
          have pA := cell_of_heap kp 0
          have pB := cell_of_heap kp 1
          simp at pA pB
          by_cases hlt : (k : Int) < (ln : Int)
          · have hil : k < ns.length := by rw [Hlen.out.2]; omega
            have hNx := HN.out.below hbx hbt
            have c0 := hNx k hil 0 (by omega)
            have c1 := hNx k hil 1 (by omega)
            have c2 := hNx k hil 2 (by omega)
            have c3 := hNx k hil 3 (by omega)
            have c4 := hNx k hil 4 (by omega)
            have c5 := hNx k hil 5 (by omega)
            obtain ⟨nd, hnd⟩ : ∃ nd, ns.getD k default = nd := ⟨_, rfl⟩
            have hF : nodeHas es nd = false → Hid (R = false) := fun h => by
              show R = false
              rw [← HR2.out]
              exact has_false hil (by rw [hnd]; exact h)
            have hS : nodeHas es nd = true → Hid ((ns.take (k + 1)).all (nodeHas es) = true) := fun h => has_step hil HI.out (by rw [hnd]; exact h)
            rw [hnd] at c0 c1 c2 c3 c4 c5
            simp only [Nd.cell, Nat.add_zero, Nat.zero_add] at c0 c1 c2 c3 c4 c5
            obtain ⟨kd, num, a, bb, cc, kids⟩ := nd
            dsimp only at *
            have hszx := hbx.size
            have HP : Hid (∀ w', be < w'.heap.size → EffsAt w' be 0 es → _) := fun w' hb h => hasEff_calls (some ⟨be, 0, none⟩) i' es a w' (by rw [Hlen.out.1]; have := HM.out; omega) (fun _ => ⟨be, 0, rfl, hb, h⟩)
            rw [Hlen.out.1] at HP
            have HEx : Hid (EffsAt wr be 0 es) := HE.out.below hbx hbe
            have hbeR : be < wr.heap.size := by omega
            simp only [nodeHas] at hF hS
            clear hNx hil hnd HI
            generalize effIn es a = ein at *
            have hq : (kd == 22) = true ∨ ((kd == 22) = false ∧ (kd == 26) = true) ∨ ((kd == 22) = false ∧ (kd == 26) = false) := by
              cases (kd == 22) <;> cases (kd == 26) <;> simp
            rcases hq with k22 | ⟨k22, k26⟩ | ⟨k22, k26⟩
            · cases ein
              · have HF := hF (by rw [k22]; simp)
                clear hF hS
                go_wp2_with fail
                refine (HP.out _ (by simp; omega) (HEx.out.below ((Below.refl _ _).alloc (Nat.le_refl _) _) hbeR)).mono ?_
                rintro e w6 ⟨rfl, hb6⟩
                have hx6 := (hbx.alloc hszx _).trans (hb6.mono (by simp; omega))
                clear hb6
                go_wp2_with fail
                go_ret
                exact ⟨by rw [HF.out]; rfl, hx6⟩
              · have HS := hS (by simp)
                clear hF hS
                go_wp2_with fail
                refine (HP.out _ (by simp; omega) (HEx.out.below ((Below.refl _ _).alloc (Nat.le_refl _) _) hbeR)).mono ?_
                rintro e w6 ⟨rfl, hb6⟩
                have hx6 := (hbx.alloc hszx _).trans (hb6.mono (by simp; omega))
                have kp6 := (hb6.block w.heap.size (by simp; omega)).trans ((Below.heap_alloc _ _ _ hAlt).trans kp)
                clear hb6
                go_wp2_with fail
                have hs : ln - (intOf (.int .i64 ((k + 1 : Nat) : Int))).toNat < ln - (intOf (.int .i64 (k : Int))).toNat := by simp only [intOf, Int.toNat_natCast]; omega
                try rw [show wrap64 ((k : Int) + 1) = ((k + 1 : Nat) : Int) by have := HM.out; unfold wrap64; omega]
                exact ⟨⟨k + 1, rfl, by omega, HS, kp6, hx6⟩, hs⟩
            · cases ein
              · have HF := hF (by rw [k26]; simp)
                clear hF hS
                go_wp2_with fail
                refine (HP.out _ (by simp; omega) (HEx.out.below ((Below.refl _ _).alloc (Nat.le_refl _) _) hbeR)).mono ?_
                rintro e w6 ⟨rfl, hb6⟩
                have hx6 := (hbx.alloc hszx _).trans (hb6.mono (by simp; omega))
                clear hb6
                go_wp2_with fail
                go_ret
                exact ⟨by rw [HF.out]; rfl, hx6⟩
              · have HS := hS (by simp)
                clear hF hS
                go_wp2_with fail
                refine (HP.out _ (by simp; omega) (HEx.out.below ((Below.refl _ _).alloc (Nat.le_refl _) _) hbeR)).mono ?_
                rintro e w6 ⟨rfl, hb6⟩
                have hx6 := (hbx.alloc hszx _).trans (hb6.mono (by simp; omega))
                have kp6 := (hb6.block w.heap.size (by simp; omega)).trans ((Below.heap_alloc _ _ _ hAlt).trans kp)
                clear hb6
                go_wp2_with fail
                have hs : ln - (intOf (.int .i64 ((k + 1 : Nat) : Int))).toNat < ln - (intOf (.int .i64 (k : Int))).toNat := by simp only [intOf, Int.toNat_natCast]; omega
                try rw [show wrap64 ((k : Int) + 1) = ((k + 1 : Nat) : Int) by have := HM.out; unfold wrap64; omega]
                exact ⟨⟨k + 1, rfl, by omega, HS, kp6, hx6⟩, hs⟩
            · have HS := hS (by rw [k22, k26]; rfl)
              clear hF hS HP
              go_wp2_with fail
              have hs : ln - (intOf (.int .i64 ((k + 1 : Nat) : Int))).toNat < ln - (intOf (.int .i64 (k : Int))).toNat := by simp only [intOf, Int.toNat_natCast]; omega
              try rw [show wrap64 ((k : Int) + 1) = ((k + 1 : Nat) : Int) by have := HM.out; unfold wrap64; omega]
              exact ⟨⟨k + 1, rfl, by omega, HS, (Below.heap_alloc _ _ _ hAlt).trans kp, hbx.alloc hszx _⟩, hs⟩
          · have e : k = ln := by omega
            have HT : Hid (R = true) := by
              show R = true
              rw [← HR2.out]
              have := HI.out
              rwa [List.take_of_length_le (by rw [Hlen.out.2]; omega)] at this
            clear HI
            go_wp2_with fail
            go_ret
            exact ⟨by rw [HT.out]; rfl, hbx⟩
end Go.Proofs.YtegolepjpmbchaaGreat
