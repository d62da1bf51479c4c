/- At every bytes the promise on numbers holds: the program reckons as the specification, and what is added is taken off again; the bytes unchanged; no condition. -/
import Derived.Test.YthlbbmnebnafjaaRows
import Derived.Test.YthlbbmnebnafjaaArithWalks
import Derived.Test.YthlbbmnebnafjaaArithDraw
import Derived.WalkKit
import Derived.ProofKit
import Derived.OpenShut
namespace Go.Proofs.Ythlbbmnebnafjaa.fnMeanArith
open Go.ChangeShapes Go.WideShapes Go.ChangeAt Go.RowKit
set_option linter.unusedVariables false

theorem own : ownKnob Try.prog.godebug = none := by kernel_rfl

theorem back (a b : Int) : (arithZ 12 (arithZ 11 a b) b == arithZ 11 a 0) = true := by
  simp only [arithZ, beq_iff_eq]
  simp
  unfold wrap32
  omega

theorem swap_add (a b : Int) : (arithZ 11 a b == arithZ 11 b a) = true := by
  simp [arithZ, Int.add_comm]

theorem swap_mul (a b : Int) : (arithZ 13 a b == arithZ 13 b a) = true := by
  simp [arithZ, Int.mul_comm]

theorem three (a b : Int) : arithZ 15 a b + arithZ 15 b a + arithZ 14 a b = 1 := by
  simp [arithZ, oneIf]
  split <;> split <;> split <;> omega

theorem one15 (a b : Int) : 0 ≤ arithZ 15 a b ∧ arithZ 15 a b ≤ 1 := by
  simp [arithZ, oneIf]
  split <;> omega

theorem four (a b : Int) : (wrap64 (wrap64 (arithZ 15 a b + arithZ 15 b a) + arithZ 14 a b) == 1) = true := by
  have h1 := one15 a b
  have h2 := one15 b a
  rw [IntWalk.wrap64_in (arithZ 15 a b + arithZ 15 b a) ⟨by omega, by omega⟩, three a b, IntWalk.wrap64_in 1 ⟨by omega, by omega⟩]
  rfl

set_option maxHeartbeats 2000000 in
set_option maxRecDepth 100000 in
theorem walk (a0 : Option Addr) (len cap : Nat) (w : World) (hb : len ≤ cap) (hlen : len ≤ 9223372036854775807) (hB : BytesAt w a0 len) :
    Calls Try.prog 3 #[.slice a0 len cap] w fun e w' => e = .returned (.bool true) ∧ Below w.heap.size w w' := by
  by_cases hbig : (len : Int) > 1048576
  · go_enter Try.func3, Try.ntmps3
    go_wp2_with fail
    go_ret
    exact ⟨rfl, Below.refl _ _⟩
  · go_enter Try.func3, Try.ntmps3
    go_wp2_with fail
    refine (draw_calls a0 len cap w (by omega) hb hB).mono ?_
    rintro e w1 ⟨⟨x, a, b, rfl⟩, hb1⟩
    go_wp2_with fail
    have h1 := back a b
    have h2 := swap_add a b
    have h3 := swap_mul a b
    have h4 : Hid (arithZ 15 a b + arithZ 15 b a + arithZ 14 a b = 1) := three a b
    clear hB hbig hlen hb
    go_loop [6] (fun i => ∃ k : Int, i = .int .i64 k ∧ 10 ≤ k ∧ k ≤ 17) (fun i => (17 - intOf i).toNat)
    case atStart => exact ⟨10, rfl, by omega, by omega⟩
    case round =>
      obtain ⟨k, rfl, hk0, hk1⟩ := hrel
      go_wp2_with (first | (go_at_call 6; refine (implArith_calls _ _ _ _).mono ?_; rintro e w2 ⟨rfl, rfl⟩) | (go_at_call 7; refine (specArith_calls _ _ _ _).mono ?_; rintro e w2 ⟨rfl, rfl⟩))
      · refine ⟨⟨k + 1, rfl, by omega, by omega⟩, ?_⟩
        show (17 - (k + 1)).toNat < (17 - k).toNat
        omega
      · go_ret
        refine ⟨?_, hb1⟩
        show Ending.returned (Value.bool (wrap64 (wrap64 (arithZ 15 a b + arithZ 15 b a) + arithZ 14 a b) == 1)) = _
        rw [four a b]

theorem spot_none {W : World} {a : Addr} {v : Value} (h : W.cell? a = some v) : a.spot = none := by
  unfold World.cell? at h
  split at h
  · by_cases hs : a.spot.isSome
    · simp [hs] at h
    · simpa using hs
  · cases h

theorem block_lt {W : World} {a : Addr} {v : Value} (h : W.cell? a = some v) : a.block < W.heap.size := by
  unfold World.cell? at h
  split at h
  · rename_i e
    obtain ⟨hlt, _⟩ := Array.getElem?_eq_some_iff.mp e
    exact hlt
  · cases h

theorem le_of_max {n : Nat} (h : n ≤ maxLen) : n ≤ 9223372036854775807 := by
  unfold maxLen at h
  omega

theorem cells_u8 : Try.prog.cellsOf 5 = 1 := by kernel_rfl
theorem laidOut : laidOutB Try.prog = true := by kernel_rfl

theorem open_bytes {H : Type} {enc : TypeId × Value → H} {W : World} {sp : Nat → Bool} {held : Bool} {fuel : Nat} {v : Value} {x : DataW H × List MemPlace}
    (h : DataW.trod enc Try.prog W 0 sp held fuel 22 [v] = some x) :
    ∃ a0 len cap, v = .slice a0 len cap ∧ len ≤ cap ∧ len ≤ maxLen ∧ BytesAt W a0 len := by
  rcases open_ints Try.underlying22 Try.underlying5 cells_u8 h with ⟨hc, _⟩ | ⟨a, len, cap, zs, hc, _, hl, hm, hz, _, hcell, hwf⟩
  · simp at hc
    subst hc
    exact ⟨none, 0, 0, rfl, Nat.le_refl _, Nat.zero_le _, fun h => absurd h (by omega)⟩
  · simp at hc
    subst hc
    have hlm : len ≤ zs.length := by rw [hz]; split <;> omega
    refine ⟨some a, len, cap, rfl, hl, by omega, fun h0 => ?_⟩
    have hc0 := hcell 0 (by omega)
    have hs := spot_none hc0
    have hb := block_lt hc0
    obtain ⟨b, off, spot⟩ := a
    have hspot : spot = none := by simpa [Addr.add] using hs
    subst hspot
    refine ⟨b, off, rfl, by simpa [Addr.add] using hb, fun i hi => ?_⟩
    have hci := hcell i (by omega)
    have e : (Addr.add ⟨b, off, none⟩ i) = ⟨b, off + i, none⟩ := by
      unfold Addr.add
      split
      · rename_i h
        subst h
        rfl
      · rfl
    rw [e] at hci
    have hin : zs.getD i 0 ∈ zs := by
      rw [List.getD, List.getElem?_eq_getElem (show i < zs.length by omega)]
      exact List.getElem_mem _
    have hw := hwf _ hin
    simp only [Lit.wf, Bool.and_eq_true, decide_eq_true_eq] at hw
    exact ⟨_, hci, hw.1, hw.2⟩

set_option maxRecDepth 100000 in
theorem lifted (os : Os) (started : os.Started) (H : Type) (enc : TypeId × Value → H) :
    ReturnsInHanded {} Try.checked os 3 .any (Rows.fnMeanArithSpec.pre6 enc Try.prog Try.f3 Rows.fnMeanArithRow.domain false) (Rows.fnMeanArithSpec.post enc Try.prog Try.f3 false true false false) := by
  refine returnsInHanded_of_change (C := Try.checked) own started (by kernel_rfl) Try.func3
    (ChangeSpec.witness6 (enc := enc) (C := Try.checked) false ⟨#[], #[.slice none 0 0], []⟩ 8 (by kernel_rfl) (by kernel_rfl) (by kernel_rfl) (by kernel_rfl)) ?_
  intro W base args ds gs before hval0 hW hcnd _
  have hval : ∀ (j : Nat) t v, Try.f3.params[j]? = some t → args[j]? = some v → Value.okWide Try.prog W .any base t v := hval0
  have hW' := hW
  obtain ⟨p, q, hA0, hV, rfl, hfz, hnd⟩ := hW
  have hA : DataW.TrodAll enc Try.prog W 0 (fun _ => true) true Try.f3.params.toList args.toList ds p := hA0
  rw [Try.params3] at hA hval
  obtain ⟨v0, vs0, d0, ds0, p0, q0, hargs, rfl, rfl, h0, r0⟩ := trodAll_cons hA
  obtain ⟨rfl, rfl, rfl⟩ := trodAll_nil r0
  obtain rfl : args = #[v0] := by cases args; simp_all
  obtain ⟨rfl, rfl⟩ := trodVars_none hV
  clear hA0 hval0
  simp only [List.append_nil] at hW'
  have hlt : ∀ y ∈ p0, y.block < W.heap.size := fun y hy => by simpa using hW'.lt y (by simpa using hy)
  have h0k := h0
  obtain ⟨fuel, hf⟩ := h0
  obtain ⟨a1, len1, cap1, rfl⟩ := okWide_slice Try.underlying22 (hval 0 22 v0 rfl rfl)
  obtain ⟨a0, len, cap, hv, hl, hm, hB⟩ := open_bytes (by simpa [Value.cells] using hf)
  cases hv
  refine (walk _ _ _ W hl (le_of_max hm) hB).mono fun e W' ⟨he, hg⟩ => ?_
  subst he
  refine ⟨_, rfl, _, _, _, [], p0, [], hW', ?_, ?_, rfl, hg.frame _, fun h => by cases h⟩
  · exact trodAll_cons_mk (shut_bool Try.underlying4 _) trodAll_mk0
  · exact trodAll_mk1 (Below.trod laidOut (by kernel_rfl) (of_decide_eq_true (by kernel_rfl)) h0k hg hlt)

theorem over : Rows.fnMeanArithRow.holds Try.pinned (OpenSpec.ofChange Rows.fnMeanArithSpec) :=
  OpenClaim.holds_of_wide 3 Try.f3 rfl rfl rfl rfl rfl rfl rfl ⟨rfl, rfl, rfl, rfl, rfl⟩ rfl rfl rfl rfl rfl (by kernel_rfl) Try.func3 (by kernel_rfl)
    (of_decide_eq_true (by kernel_rfl)) (by unfold Func.isWrapper; first | (rw [if_pos (by decide +kernel)]; kernel_rfl) | (rw [if_neg (by decide +kernel)]; exact ⟨rfl, rfl⟩))
    (fun os started H enc _ => lifted os started H enc)

theorem proved : Rows.FnMeanArithSaid :=
  over
#print axioms proved
end Go.Proofs.Ythlbbmnebnafjaa.fnMeanArith
