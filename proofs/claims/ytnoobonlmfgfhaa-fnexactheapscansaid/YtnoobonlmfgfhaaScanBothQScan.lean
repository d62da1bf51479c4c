/- HeapScan: both sides answer the same, whatever they are given. -/
import Derived.Test.YtnoobonlmfgfhaaImplScanBQScan
import Derived.Test.YtnoobonlmfgfhaaGHeapScan0
namespace Go.Proofs.Ytnoobonlmfgfhaa
open Go.RowKit

/-- A heap and a bool are told; the heap's words are new. -/
def Told2 (W : World) (ans : List Int) (H : HpN) (ok : Bool) (e : Ending) (w' : World) : Prop :=
  (∃ v, e = .returned (.tuple #[heapV v H, .bool ok]) ∧ SliceR 3 1 W.heap.size w' v ans.length (intCells ans)) ∧ Below W.heap.size W w'

theorem told2_none {W w' : World} {e : Ending} (h : e = .returned (.tuple #[noHeap, .bool false]) ∧ Below W.heap.size W w') : Told2 W [] ⟨0, 0, 0, 0, 0, 0, 0, 0, 0⟩ false e w' :=
  ⟨⟨_, h.1, none, 0, rfl, Or.inl rfl⟩, h.2⟩

theorem told2_some {N : Nat} {W w' : World} {ws : List Int} {H : HpN} {e : Ending} (hl : ws.length = N) (h : HeapTold N W ws H e w') : Told2 W ws H true e w' := by
  obtain ⟨bw, cap, rfl, hr, hlow, hb⟩ := h
  subst hl
  exact ⟨⟨_, rfl, some ⟨bw, 0, none⟩, cap, rfl, Or.inr ⟨bw, rfl, hlow, by rw [Nat.mul_one]; exact hr⟩⟩, hb⟩

/-- Words in a row of their own, at a later world. -/
theorem row_at {B g N : Nat} {bs : List Int} {W X : World} (h0 : N ≠ 0) (hs : SliceR 3 1 B W (.slice (some ⟨g, 0, none⟩) N N) N (intCells bs)) (hX : Below W.heap.size W X) :
    g < X.heap.size ∧ ∀ k, k < N → X.cell? ⟨g, 0 + k, none⟩ = some (.int .i64 (bs.getD k 0)) := by
  obtain ⟨ad, cap, e, hh⟩ := hs
  obtain ⟨g', e2, hB, hr⟩ := hh.resolve_left h0
  cases e
  cases e2
  rw [Nat.mul_one] at hr
  exact ⟨Nat.lt_of_lt_of_le hr.lt hX.size, fun k hk => by rw [Nat.zero_add]; exact (hX.cell (p := ⟨g, k, none⟩) hr.lt).trans (hr.cell hk)⟩

theorem told_same (t r q : Int) : wrap64 (wrap64 (t + r) + q) = wrap64 (t + (r + q)) := by
  unfold wrap64
  omega

theorem scan_both (bs : List Int) (h : HpN) (ht : h.touched < 9223372036854775808) (hm : bs.length ≤ 1048576) (x : Int) : ∃ ans H ok, ans.length ≤ 1048576 ∧
    (∀ B g W, SliceR 3 1 B W (.slice (some ⟨g, 0, none⟩) bs.length bs.length) bs.length (intCells bs) → Calls Try.prog 24 #[heapV (.slice (some ⟨g, 0, none⟩) bs.length bs.length) h, .int .i64 x] W (Told2 W ans H ok)) ∧
    (∀ B g W, SliceR 3 1 B W (.slice (some ⟨g, 0, none⟩) bs.length bs.length) bs.length (intCells bs) → Calls Try.prog 25 #[heapV (.slice (some ⟨g, 0, none⟩) bs.length bs.length) h, .int .i64 x] W (Told2 W ans H ok)) := by
  have IOk : ∀ B g W, SliceR 3 1 B W (.slice (some ⟨g, 0, none⟩) bs.length bs.length) bs.length (intCells bs) → ∀ X, Below W.heap.size W X → Calls Try.prog 12 #[heapV (.slice (some ⟨g, 0, none⟩) bs.length bs.length) h] X fun e w' => e = .returned (.bool (if Ordered h bs.length then implOk bs h else false)) ∧ Below X.heap.size X w' := fun B g W hs X hX => by
    refine iOk_calls (fun w hb => ?_)
    have hXw := hX.trans (hb.mono hX.size)
    by_cases ho : Ordered h bs.length
    · rw [if_pos ho]
      have h0 : bs.length ≠ 0 := by obtain ⟨o1, o2, o3, _⟩ := ho; omega
      refine (layOut_calls g 0 bs.length bs.length bs h w rfl ho (Nat.le_refl _) (row_at h0 hs hXw).1 (row_at h0 hs hXw).2).mono ?_
      rintro e w' ⟨hres, hb'⟩
      refine ⟨?_, hb'⟩
      rcases hres with ⟨e1, rfl⟩ | ⟨S, gb, _, e1, rfl, _⟩
      · rw [e1]
        exact ⟨_, _, _, _, _, _, _, rfl⟩
      · rw [e1]
        exact ⟨_, _, _, _, _, _, _, rfl⟩
    · rw [if_neg ho]
      refine (layOut_bad _ _ _ h w ho).mono ?_
      rintro e w' ⟨rfl, hb'⟩
      exact ⟨⟨_, _, _, _, _, _, _, rfl⟩, hb'⟩
  have SOk : ∀ B g W, SliceR 3 1 B W (.slice (some ⟨g, 0, none⟩) bs.length bs.length) bs.length (intCells bs) → ∀ X, Below W.heap.size W X → Calls Try.prog 10 #[heapV (.slice (some ⟨g, 0, none⟩) bs.length bs.length) h] X fun e w' => e = .returned (.bool (if Ordered h bs.length then implOk bs h else false)) ∧ Below X.heap.size X w' := fun B g W hs X hX => by
    by_cases ho : Ordered h bs.length
    · rw [if_pos ho, ← ok_same ho]
      have h0 : bs.length ≠ 0 := by obtain ⟨o1, o2, o3, _⟩ := ho; omega
      exact specOk_calls g 0 bs.length bs.length bs h X rfl ho (row_at h0 hs hX).1 (row_at h0 hs hX).2
    · rw [if_neg ho]
      exact specOk_bad _ _ _ h X hm ho
  by_cases hx0 : x < 0
  · cases hk : (if Ordered h bs.length then implOk bs h else false) with
    | false =>
      rw [hk] at SOk
      exact ⟨[], _, _, by simp, fun B g W hs => (sScan_notOk g 0 bs.length bs.length h x W (SOk B g W hs)).mono (fun _ _ => told2_none), fun B g W hs => (iScan_below g 0 bs.length bs.length h x W hx0).mono (fun _ _ => told2_none)⟩
    | true =>
      rw [hk] at SOk
      exact ⟨[], _, _, by simp, fun B g W hs => (sScan_below g 0 bs.length bs.length h x W hx0 (SOk B g W hs)).mono (fun _ _ => told2_none), fun B g W hs => (iScan_below g 0 bs.length bs.length h x W hx0).mono (fun _ _ => told2_none)⟩
  have hd : decide (x < 0) = false := decide_eq_false hx0
  by_cases hx4 : 4000 < x
  · cases hk : (if Ordered h bs.length then implOk bs h else false) with
    | false =>
      rw [hk] at SOk
      exact ⟨[], _, _, by simp, fun B g W hs => (sScan_notOk g 0 bs.length bs.length h x W (SOk B g W hs)).mono (fun _ _ => told2_none), fun B g W hs => (iScan_above g 0 bs.length bs.length h x W hx4 hd).mono (fun _ _ => told2_none)⟩
    | true =>
      rw [hk] at SOk
      exact ⟨[], _, _, by simp, fun B g W hs => (sScan_above g 0 bs.length bs.length h x W hx4 hd (SOk B g W hs)).mono (fun _ _ => told2_none), fun B g W hs => (iScan_above g 0 bs.length bs.length h x W hx4 hd).mono (fun _ _ => told2_none)⟩
  have hd2 : decide (4000 < x) = false := decide_eq_false hx4
  cases hk : (if Ordered h bs.length then implOk bs h else false) with
  | false =>
    rw [hk] at SOk IOk
    exact ⟨[], _, _, by simp, fun B g W hs => (sScan_notOk g 0 bs.length bs.length h x W (SOk B g W hs)).mono (fun _ _ => told2_none), fun B g W hs => (iScan_notOk g 0 bs.length bs.length h x W hd hd2 (IOk B g W hs)).mono (fun _ _ => told2_none)⟩
  | true =>
    rw [hk] at SOk IOk
    have ho : Ordered h bs.length := by
      by_cases ho : Ordered h bs.length
      · exact ho
      · rw [if_neg ho] at hk
        cases hk
    rw [if_pos ho] at hk
    obtain ⟨S, ok⟩ := ok_facts ho (by rw [ok_same ho]; exact hk)
    have hstart := scn_start ok
    obtain ⟨o1, o2, o3, o4, o5, o6, o7, o8, o9, o10, o11, o12, o13⟩ := id ho
    have hN0 : bs.length ≠ 0 := by omega
    have hN8 : bs.length ≤ 8000 := by omega
    obtain ⟨n, hn⟩ := Int.eq_ofNat_of_zero_le (show 0 ≤ x by omega)
    have SOp : ∀ B g W, SliceR 3 1 B W (.slice (some ⟨g, 0, none⟩) bs.length bs.length) bs.length (intCells bs) → ∀ X, Below W.heap.size W X → Calls Try.prog 43 #[heapV (.slice (some ⟨g, 0, none⟩) bs.length bs.length) h] X fun e w' => ∃ bm bw cap' : Nat, e = .returned (.pointer (some ⟨bm, 0, none⟩)) ∧ Wk X bm bw bs.length cap' ⟨bs, h, 0, 0⟩ false w' ∧ X.heap.size ≤ bm ∧ X.heap.size ≤ bw := fun B g W hs X hX => open_calls g 0 bs.length bs.length bs h X (by omega) rfl hN8 (row_at hN0 hs hX).1 (row_at hN0 hs hX).2 o6 ht
    have IOp : ∀ B g W, SliceR 3 1 B W (.slice (some ⟨g, 0, none⟩) bs.length bs.length) bs.length (intCells bs) → ∀ X, Below W.heap.size W X → Calls Try.prog 48 #[heapV (.slice (some ⟨g, 0, none⟩) bs.length bs.length) h] X fun e w' => ∃ bc bw cap' : Nat, e = .returned (.pointer (some ⟨bc, 0, none⟩)) ∧ ColAt X bc bw bs.length cap' ⟨bs, h, 0, 0⟩ w' ∧ X.heap.size ≤ bc ∧ X.heap.size ≤ bw := fun B g W hs X hX => collectorOf_calls g 0 bs.length bs.length bs h X (by omega) rfl hN8 (row_at hN0 hs hX).1 (row_at hN0 hs hX).2
    have sS := fun B g W hs => sScan_good g 0 bs.length bs.length h x W n hn (by omega) hd hd2 ⟨bs, h, 0, 0⟩ (SOk B g W hs) (SOp B g W hs) (fun q s' X w0 bm bw cap' hq hX => sscan_calls hX (scanRun_scn hstart q s' hq))
    have sI := fun B g W hs => iScan_good g 0 bs.length bs.length h x W hd hd2 ⟨bs, h, 0, 0⟩ (scanRun n ⟨bs, h, 0, 0⟩) (IOk B g W hs) (IOp B g W hs) (fun X w0 bc bw cap' hX => by rw [hn]; exact look_calls ⟨bs, h, 0, 0⟩ hX hstart n (by omega)) (fun s1 X w0 bc bw cap' _ hX => by
      have e := told_calls hX
      rw [told_same] at e
      exact e)
    cases hr : scanRun n ⟨bs, h, 0, 0⟩ with
    | none =>
      rw [hr] at sS sI
      exact ⟨[], _, _, by simp, fun B g W hs => (sS B g W hs).mono (fun _ _ => told2_none), fun B g W hs => (sI B g W hs).mono (fun _ _ => told2_none)⟩
    | some s1 =>
      rw [hr] at sS sI
      have hl := (scanRun_scn hstart n s1 hr).len
      exact ⟨s1.ws, _, _, by omega, fun B g W hs => (sS B g W hs).mono (fun _ _ h => told2_some hl h), fun B g W hs => (sI B g W hs).mono (fun _ _ h => told2_some hl h)⟩
end Go.Proofs.Ytnoobonlmfgfhaa
