/- The specification asks whether words lead to objects in use. -/
import Derived.Test.YtnoobonlmfgfhaaSpecHeapE
import Derived.Test.YtnoobonlmfgfhaaHeapArgs
import Derived.Test.YtnoobonlmfgfhaaImplHeapA
namespace Go.Proofs.Ytnoobonlmfgfhaa
open Go.RowKit

def specRoots (ws S : List Int) (h : HpN) (xs : List Int) : Bool := (List.range xs.length).all (fun k => specLeads ws S h (xs.getD k 0) false)

theorem roots_upto {P : Nat → Bool} {m : Nat} (H : ∀ k, k < m → P k = true) : (List.range m).all P = true := by
  rw [List.all_eq_true]
  exact fun k hk => H k (List.mem_range.1 hk)

theorem roots_not {P : Nat → Bool} {m j : Nat} (hj : j < m) (hf : P j = false) : (List.range m).all P = false := by
  rw [List.all_eq_false]
  exact ⟨j, List.mem_range.2 hj, by simp [hf]⟩

set_option maxHeartbeats 2000000 in
set_option maxRecDepth 100000 in
theorem specRoots_calls (b off cap N : Nat) (ws S : List Int) (h : HpN) (v : Value) (xs : List Int) (w : World) (hN : ws.length = N) (ho : Ordered h N) (hS : specLay ws h = some S)
    (hb : b < w.heap.size) (hw : ∀ k, k < N → w.cell? ⟨b, off + k, none⟩ = some (.int .i64 (ws.getD k 0))) (hv : IntSlice w v xs) (hx : xs.length ≤ 20) :
    Calls Try.prog 42 #[heapV (.slice (some ⟨b, off, none⟩) N cap) h, v] w fun e w' => e = .returned (.bool (specRoots ws S h xs)) ∧ Below w.heap.size w w' := by
  have HBg := hid (fun (X : World) (hX : Below w.heap.size w X) => specBegins_calls b off cap N ws h X hN ho (Nat.lt_of_lt_of_le hb hX.size) (fun k hk => (hX.cell (p := ⟨b, off + k, none⟩) hb).trans (hw k hk)))
  rw [hS] at HBg
  have HO := hid ho
  have HW := hid hw
  have HV := hid hv
  have HNN := hid hN
  obtain ⟨ad, c, rfl, -⟩ := hv
  clear hw hS ho hN
  obtain ⟨g1, g2, g3, g4, g5, g6, g7, g8, g9⟩ := h
  unfold heapV at *
  dsimp only at *
  generalize hR : specRoots ws S ⟨g1, g2, g3, g4, g5, g6, g7, g8, g9⟩ xs = R
  have HR := hid hR
  clear hR
  go_enter Try.func42, Try.ntmps42
  go_wp2_with fail
  have k0 := (Below.refl w.heap.size w).alloc (Nat.le_refl _) (.cells #[.slice (some ⟨b, off, none⟩) N cap, .int .i64 g1, .int .i64 g2, .int .i64 g3, .int .i64 g4, .int .i64 g5, .int .i64 g6, .int .i64 g7, .int .i64 g8, .int .i64 g9] 27)
  refine (HBg.out _ k0).mono ?_
  rintro e W1 ⟨⟨gb, gcap, ok, rfl, hlow, hlt, hh⟩, hb0⟩
  have hH := (HeapBlk.new w (.slice (some ⟨b, off, none⟩) N cap) ⟨g1, g2, g3, g4, g5, g6, g7, g8, g9⟩).below hb0
  have hb1 := k0.trans (hb0.mono k0.size)
  clear hb0 k0
  obtain ⟨S', hS', rfl, hl, hr⟩ := hh.resolve_left (by simp)
  obtain rfl := Option.some.inj hS'
  clear hh hS' HBg
  have HH := hid hH
  have HLd := hid (fun (X : World) (hX : Below W1.heap.size W1 X) (x : Int) => by
    have e := specLeads_calls b off cap gb gcap ws S ⟨g1, g2, g3, g4, g5, g6, g7, g8, g9⟩ x false X (by rw [HNN.out]; exact HO.out) (by rw [HNN.out]; exact hl) (Nat.lt_of_lt_of_le hb (Nat.le_trans hb1.size hX.size)) (fun k hk => (hX.cell (p := ⟨b, off + k, none⟩) (Nat.lt_of_lt_of_le hb hb1.size)).trans ((hb1.cell (p := ⟨b, off + k, none⟩) hb).trans (HW.out k (by rw [← HNN.out]; exact hk)))) (Nat.lt_of_lt_of_le hlt hX.size) (fun k hk => (hX.cell (p := ⟨gb, k, none⟩) hlt).trans (hr.cell (by rw [← hl]; exact hk)))
    rw [HNN.out, hl] at e
    exact e)
  unfold heapV at HLd
  dsimp only at HLd
  have HB1 := hid hb1
  clear hb1 hr hlow hl hH
  go_wp2_with fail
  go_loopw [7] (fun i wr => ∃ k : Nat, i = .int .i64 k ∧ k ≤ xs.length ∧ Hid (∀ j, j < k → specLeads ws S ⟨g1, g2, g3, g4, g5, g6, g7, g8, g9⟩ (xs.getD j 0) false = true) ∧ Hid (Below W1.heap.size W1 wr)) (fun i _ => xs.length - (intOf i).toNat)
  case atStart => exact ⟨0, rfl, Nat.zero_le _, fun j hj => by omega, Below.refl _ _⟩
  case round =>
    obtain ⟨k, rfl, hk, HJ, HB⟩ := hrel
    by_cases hlt2 : (k : Int) < (xs.length : Int)
    · obtain ⟨ad', c', e, hh⟩ := HV.out
      cases e
      obtain ⟨b', o', rfl, hb', hc⟩ := hh.resolve_left (by rintro rfl; simp at hlt2; omega)
      clear hh
      have q0 := (HB.out.cell (p := ⟨b', o' + k, none⟩) (Nat.lt_of_lt_of_le hb' HB1.out.size)).trans ((HB1.out.cell (p := ⟨b', o' + k, none⟩) hb').trans (hc k (by omega)))
      clear hc hb'
      have hH3 := HH.out.below HB.out
      obtain ⟨v0, v1, v2, v3, v4, v5, v6, v7, v8, v9⟩ := hH3.later (B := wr.heap.size) (heap_lt hH3)
      dsimp only at v0 v1 v2 v3 v4 v5 v6 v7 v8 v9
      have q1 : ∀ x : Later wr.heap.size wr, x.w.cell? ⟨b', o' + k, none⟩ = some (.int .i64 (xs.getD k 0)) := fun x => x.cell (block_in q0) q0
      have HL := hid (fun x : Later wr.heap.size wr => HLd.out x.w (HB.out.trans (x.h.mono HB.out.size)) (xs.getD k 0))
      have HX : Hid (∃ y, specLeads ws S ⟨g1, g2, g3, g4, g5, g6, g7, g8, g9⟩ (xs.getD k 0) false = y) := ⟨_, rfl⟩
      clear q0 hH3
      obtain ⟨y, hy⟩ := HX.out
      rw [hy] at HL
      have HY := hid hy
      clear hy HX
      go_wp2_with fail
      refine wp_region_calm wr.heap.size (by kernel_rfl) (by kernel_rfl) ?_
      repeat (go_big_quiet_step (first | (rename_i x; go_at_call 37; refine (HL.out x).mono ?_; rintro e w5 ⟨rfl, hb5⟩; exact ⟨rfl, ⟨w5, x.h.trans (hb5.mono x.h.size)⟩, rfl⟩)))
      refine wpQuiet_nil ?_
      rintro w5 ⟨x, rfl⟩
      have HB3 := hid (HB.out.trans (x.h.mono HB.out.size))
      clear HL q1 v0 v1 v2 v3 v4 v5 v6 v7 v8 v9
      generalize x.w = W3 at *
      cases y with
      | false =>
        go_wp2_with fail
        go_ret
        refine ⟨?_, HB1.out.trans (HB3.out.mono HB1.out.size)⟩
        rw [← HR.out]
        unfold specRoots
        rw [roots_not (j := k) (by omega) HY.out]
        rfl
      | true =>
        go_wp2_with fail
        have hs : xs.length - (intOf (.int .i64 ((k : Int) + 1))).toNat < xs.length - (intOf (.int .i64 (k : Int))).toNat := by simp only [intOf, Int.toNat_natCast]; omega
        refine ⟨⟨k + 1, by push_cast; rfl, by omega, fun j hj => ?_, HB3.out⟩, hs⟩
        by_cases hjk : j = k
        · rw [hjk]
          exact HY.out
        · exact HJ.out j (by omega)
    · obtain rfl : k = xs.length := by omega
      go_wp2_with fail
      go_ret
      refine ⟨?_, HB1.out.trans (HB.out.mono HB1.out.size)⟩
      rw [← HR.out]
      unfold specRoots
      rw [roots_upto HJ.out]
      rfl
end Go.Proofs.Ytnoobonlmfgfhaa
