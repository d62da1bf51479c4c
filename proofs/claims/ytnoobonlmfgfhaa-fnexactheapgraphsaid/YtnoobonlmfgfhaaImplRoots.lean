/- The program asks whether words lead to objects in use. -/
import Derived.Test.YtnoobonlmfgfhaaImplHeapF
import Derived.Test.YtnoobonlmfgfhaaHeapFacts
namespace Go.Proofs.Ytnoobonlmfgfhaa
open Go.RowKit

def implRoots (S : List Int) (h : HpN) (xs : List Int) : Bool := (List.range xs.length).all (fun k => wordOkZ S h (xs.getD k 0))

theorem roots_same {ws S : List Int} {h : HpN} (ok : OkHeap ws S h) (xs : List Int) : implRoots S h xs = (List.range xs.length).all (fun k => specLeads ws S h (xs.getD k 0) false) := by
  unfold implRoots
  simp only [used_same ok]

set_option maxRecDepth 100000 in
theorem okClosure_calls (b off cap gb N P : Nat) (ws S : List Int) (h : HpN) (x : Int) (w : World) (ho : Ordered h N) (hs : ISt b off gb N ws S w) (hP : LayBlk w P (.slice (some ⟨b, off, none⟩) N cap) h (.slice (some ⟨gb, 0, none⟩) N N)) :
    Calls Try.prog 74 #[.int .i64 x, .pointer (some ⟨P, 0, none⟩)] w fun e w' => e = .returned (.bool (!wordOkZ S h x)) ∧ Below w.heap.size w w' := by
  have HW := hid (wordOk_st (gcap := N) hs (.slice (some ⟨b, off, none⟩) N cap) h ho x)
  obtain ⟨c0, c1, c2, c3, c4, c5, c6, c7, c8, c9, c10⟩ := hP.cells
  clear hP hs ho
  obtain ⟨g1, g2, g3, g4, g5, g6, g7, g8, g9⟩ := h
  unfold layV at HW
  dsimp only at *
  go_enter Try.func74, Try.ntmps74
  go_wp2_with fail
  refine HW.out.mono ?_
  rintro e w2 ⟨rfl, hb2⟩
  go_wp2_with fail
  go_ret
  exact ⟨rfl, hb2⟩

theorem all_yes2 {P : Nat → Bool} {m : Nat} (H : ∀ k, k < m → P k = true) : (List.range m).all P = true := by
  rw [List.all_eq_true]
  exact fun k hk => H k (List.mem_range.1 hk)

theorem all_no2 {P : Nat → Bool} {m j : Nat} (hj : j < m) (hf : P j = false) : (List.range m).all P = false := by
  rw [List.all_eq_false]
  exact ⟨j, List.mem_range.2 hj, by simp [hf]⟩

set_option maxHeartbeats 1000000 in
set_option maxRecDepth 100000 in
theorem okIndex_calls (ad : Option Addr) (c b off cap gb N P : Nat) (ws S : List Int) (h : HpN) (xs : List Int) (w : World) (ho : Ordered h N) (hs : ISt b off gb N ws S w) (hP : LayBlk w P (.slice (some ⟨b, off, none⟩) N cap) h (.slice (some ⟨gb, 0, none⟩) N N)) (hv : IntSlice w (.slice ad xs.length c) xs) (hm : xs.length ≤ 20) :
    Calls Try.prog 91 #[.slice ad xs.length c, .func (.func 74) #[] #[.pointer (some ⟨P, 0, none⟩)]] w fun e w' => (∃ r : Int, e = .returned (.int .i64 r) ∧ decide (0 ≤ r) = !implRoots S h xs) ∧ Below w.heap.size w w' := by
  have HC := hid (fun (X : World) (hX : Below w.heap.size w X) (x : Int) => okClosure_calls b off cap gb N P ws S h x X ho (hs.kept hX) (hP.below hX))
  have HV := hid hv
  obtain ⟨len, hlen⟩ : ∃ len, xs.length = len := ⟨_, rfl⟩
  have Hlen := hid hlen
  have HM : Hid (len ≤ 20) := by show _ ≤ _; omega
  obtain ⟨R, hR⟩ : ∃ R, implRoots S h xs = R := ⟨_, rfl⟩
  have HR := hid hR
  rw [hlen, hR]
  rw [hlen] at HV
  clear hlen hR hm hv hs hP ho
  go_enter Try.func91, Try.ntmps91
  go_wp2_with fail
  go_loopw [8] (fun i wr => ∃ (ii : Int) (k : Nat), i = .int .i64 ii ∧ Hid (ii = (k : Int) ∧ k ≤ len) ∧ Hid (∀ j, j < k → wordOkZ S h (xs.getD j 0) = true) ∧ Hid (Below w.heap.size w wr)) (fun i _ => len - (intOf i).toNat)
  case atStart => exact ⟨0, 0, rfl, ⟨rfl, by omega⟩, fun j hj => by omega, Below.refl _ _⟩
  case round =>
    obtain ⟨ii, k, rfl, HQ, HA, HB⟩ := hrel
    have hi0 : 0 ≤ ii := by have := HQ.out; omega
    by_cases hlt : ii < (len : Int)
    · have hkn : k < len := by have := HQ.out; omega
      have hik : ii.toNat = k := by have := HQ.out; omega
      obtain ⟨ad', c', e, hh⟩ := HV.out
      have hl2 := Hlen.out
      obtain ⟨rfl, -, rfl⟩ : ad = ad' ∧ len = xs.length ∧ c = c' := by cases e; exact ⟨rfl, hl2.symm, rfl⟩
      have hkx : k < xs.length := by omega
      obtain ⟨b', o', rfl, hb', hc⟩ := hh.resolve_left (fun h => by rw [h] at hkx; cases hkx)
      have q0 := (HB.out.cell (p := ⟨b', o' + k, none⟩) hb').trans (hc k (by omega))
      clear hh hc hb' e
      have HL := hid (HC.out wr HB.out (xs.getD k 0))
      obtain ⟨y, hy⟩ : ∃ y, wordOkZ S h (xs.getD k 0) = y := ⟨_, rfl⟩
      rw [hy] at HL
      have HY := hid hy
      clear hy
      generalize hx : xs.getD k 0 = x at *
      clear hl2
      go_wp2_with fail
      refine HL.out.mono ?_
      rintro e w2 ⟨rfl, hb2⟩
      have HB2 := hid (HB.out.trans (hb2.mono HB.out.size))
      clear hb2 HL q0
      cases y with
      | false =>
        have HF : Hid (R = false) := by
          show _ = _
          rw [← HR.out]
          unfold implRoots
          exact all_no2 (j := k) hkx (by rw [hx]; exact HY.out)
        go_wp2_with fail
        go_ret
        exact ⟨⟨_, rfl, by rw [HF.out]; exact decide_eq_true hi0⟩, HB2.out⟩
      | true =>
        go_wp2_with fail
        have hw : wrap64 (ii + 1) = ii + 1 := by have := HQ.out; have := HM.out; unfold wrap64; omega
        try rw [hw]
        have hs : len - (intOf (.int .i64 (ii + 1))).toNat < len - (intOf (.int .i64 ii)).toNat := by simp only [intOf]; omega
        refine ⟨⟨ii + 1, k + 1, rfl, ⟨by have := HQ.out; push_cast; omega, by omega⟩, fun j hj => ?_, HB2.out⟩, hs⟩
        by_cases hjk : j = k
        · rw [hjk, hx]
          exact HY.out
        · exact HA.out j (by omega)
    · have HF : Hid (R = true) := by
        show _ = _
        rw [← HR.out]
        unfold implRoots
        exact all_yes2 (fun j hj => HA.out j (by have := HQ.out; have := Hlen.out; omega))
      go_wp2_with fail
      go_ret
      exact ⟨⟨-1, rfl, by rw [HF.out]; rfl⟩, HB.out⟩

set_option maxHeartbeats 1000000 in
set_option maxRecDepth 100000 in
theorem allOk_calls (ad : Option Addr) (c b off cap gb N : Nat) (ws S : List Int) (h : HpN) (xs : List Int) (w : World) (ho : Ordered h N) (hs : ISt b off gb N ws S w) (hv : IntSlice w (.slice ad xs.length c) xs) (hm : xs.length ≤ 20) :
    Calls Try.prog 47 #[layV (.slice (some ⟨b, off, none⟩) N cap) h (.slice (some ⟨gb, 0, none⟩) N N), .slice ad xs.length c] w fun e w' => e = .returned (.bool (implRoots S h xs)) ∧ Below w.heap.size w w' := by
  have hL := LayBlk.new w (.slice (some ⟨b, off, none⟩) N cap) h (.slice (some ⟨gb, 0, none⟩) N N)
  have k1 := (Below.refl w.heap.size w).alloc (Nat.le_refl _) (.cells #[.slice (some ⟨b, off, none⟩) N cap, .int .i64 h.size, .int .i64 h.to, .int .i64 h.bottom, .int .i64 h.top, .int .i64 h.scan, .int .i64 h.fb, .int .i64 h.ft, .int .i64 h.flips, .int .i64 h.touched, .slice (some ⟨gb, 0, none⟩) N N] 59)
  have HX := hid (okIndex_calls ad c b off cap gb N w.heap.size ws S h xs _ ho (hs.kept k1) hL (hv.below k1) hm)
  have HK := hid k1
  clear hL k1 hs hv hm ho
  obtain ⟨g1, g2, g3, g4, g5, g6, g7, g8, g9⟩ := h
  generalize implRoots S ⟨g1, g2, g3, g4, g5, g6, g7, g8, g9⟩ xs = R at *
  generalize xs.length = len at *
  unfold layV
  dsimp only at *
  generalize hW : w.alloc (.cells #[.slice (some ⟨b, off, none⟩) N cap, .int .i64 g1, .int .i64 g2, .int .i64 g3, .int .i64 g4, .int .i64 g5, .int .i64 g6, .int .i64 g7, .int .i64 g8, .int .i64 g9, .slice (some ⟨gb, 0, none⟩) N N] 59) = W1 at *
  have HY : Hid (Calls Try.prog 73 #[.slice ad len c, .func (.func 74) #[] #[.pointer (some ⟨w.heap.size, 0, none⟩)]] W1 fun e w' => e = .returned (.bool (!R)) ∧ Below w.heap.size w w') := by
    show Calls _ _ _ _ _
    go_enter Try.func73, Try.ntmps73
    go_wp2_with fail
    refine HX.out.mono ?_
    rintro e w2 ⟨⟨r, rfl, hr⟩, hb2⟩
    have Hr : Hid (decide (0 ≤ r) = !R) := hr
    have HB := hid (HK.out.trans (hb2.mono HK.out.size))
    clear hr hb2
    go_wp2_with fail
    go_ret
    exact ⟨by rw [← Hr.out]; rfl, HB.out⟩
  clear HX
  have HW := hid hW
  clear hW
  go_enter Try.func47, Try.ntmps47
  go_wp2_with fail
  rw [HW.out]
  refine HY.out.mono ?_
  rintro e w2 ⟨rfl, hb2⟩
  have HB := hid hb2
  clear hb2 HY
  cases R
  all_goals
    go_wp2_with fail
    go_ret
    exact ⟨rfl, HB.out⟩

set_option maxHeartbeats 1000000 in
set_option maxRecDepth 100000 in
theorem rootsOk_calls (ad : Option Addr) (c b off cap gb N : Nat) (ws S : List Int) (h : HpN) (xs : List Int) (w : World) (ho : Ordered h N) (hs : ISt b off gb N ws S w) (hv : IntSlice w (.slice ad xs.length c) xs) (hm : xs.length ≤ 1048576) :
    Calls Try.prog 46 #[layV (.slice (some ⟨b, off, none⟩) N cap) h (.slice (some ⟨gb, 0, none⟩) N N), .slice ad xs.length c] w fun e w' => e = .returned (.bool (decide (xs.length ≤ 20) && implRoots S h xs)) ∧ Below w.heap.size w w' := by
  have k1 := (Below.refl w.heap.size w).alloc (Nat.le_refl _) (.cells #[.slice (some ⟨b, off, none⟩) N cap, .int .i64 h.size, .int .i64 h.to, .int .i64 h.bottom, .int .i64 h.top, .int .i64 h.scan, .int .i64 h.fb, .int .i64 h.ft, .int .i64 h.flips, .int .i64 h.touched, .slice (some ⟨gb, 0, none⟩) N N] 59)
  have HX := hid (fun hm => allOk_calls ad c b off cap gb N ws S h xs _ ho (hs.kept k1) (hv.below k1) hm)
  have HX0 := hid (fun hm => allOk_calls ad c b off cap gb N ws S h xs _ ho hs hv hm)
  have HK := hid k1
  clear k1 hs hv ho
  obtain ⟨g1, g2, g3, g4, g5, g6, g7, g8, g9⟩ := h
  generalize implRoots S ⟨g1, g2, g3, g4, g5, g6, g7, g8, g9⟩ xs = R at *
  generalize xs.length = len at *
  unfold layV at *
  dsimp only at *
  by_cases h20 : (len : Int) ≤ 20
  · rw [decide_eq_true (show len ≤ 20 by omega), Bool.true_and]
    go_enter Try.func46, Try.ntmps46
    go_wp2_with fail
    first
      | refine (HX.out (by omega)).mono ?_
      | refine (HX0.out (by omega)).mono ?_
    rintro e w2 ⟨rfl, hb2⟩
    have HB := hid (HK.out.trans (hb2.mono HK.out.size))
    clear hb2
    go_wp2_with fail
    go_ret
    exact ⟨rfl, HB.out⟩
  · rw [decide_eq_false (show ¬ len ≤ 20 by omega), Bool.false_and]
    go_enter Try.func46, Try.ntmps46
    go_wp2_with fail
    go_ret
    exact ⟨rfl, by first | exact HK.out | exact Below.refl _ _⟩
end Go.Proofs.Ytnoobonlmfgfhaa
