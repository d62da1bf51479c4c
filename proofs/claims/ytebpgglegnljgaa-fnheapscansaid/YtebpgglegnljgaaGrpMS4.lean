/- HeapScan: what both sides answer, whatever they are given. -/
import Derived.Test.YtebpgglegnljgaaGrpMS3
import Derived.Test.YtebpgglegnljgaaGrpMS2
import Derived.Test.YtebpgglegnljgaaIntRows
import Derived.Test.YtebpgglegnljgaaSpecWkB
import Derived.Test.YtebpgglegnljgaaRows
import Derived.WalkKit
import Derived.ProofKit
import Derived.OpenShut
namespace Go.Proofs.Ytebpgglegnljgaa
open Go.RowKit

/-- The words and the numbers that are answered. -/
def ansW : Option CN → List Int
  | none => []
  | some s => s.ws
def ansH : Option CN → HpN
  | none => ⟨0, 0, 0, 0, 0, 0, 0, 0, 0⟩
  | some s => { s.h with touched := touchZ s }

/-- Looking through, as it is asked for. -/
def scanA (bs : List Int) (h : HpN) (x : Int) : Option CN := if 0 ≤ x ∧ x ≤ 4000 ∧ Ordered h bs.length ∧ specOk bs h = true then scanRun x.toNat ⟨bs, h, 0, 0⟩ else none

/-- Words in a row of their own, with room or without, at a later world. -/
theorem row_atC {B g N cp : Nat} {bs : List Int} {W X : World} (h0 : N ≠ 0) (hs : SliceR 3 1 B W (.slice (some ⟨g, 0, none⟩) N cp) N (intCells bs)) (hX : Below W.heap.size W X) :
    g < X.heap.size ∧ ∀ k, k < N → X.cell? ⟨g, 0 + k, none⟩ = some (.int .i64 (bs.getD k 0)) := by
  obtain ⟨ad, cap, e, hh⟩ := hs
  obtain ⟨g', e2, hB, hr⟩ := hh.resolve_left h0
  cases e
  cases e2
  rw [Nat.mul_one] at hr
  exact ⟨Nat.lt_of_lt_of_le hr.lt hX.size, fun k hk => by rw [Nat.zero_add]; exact (hX.cell (p := ⟨g, k, none⟩) hr.lt).trans (hr.cell hk)⟩

theorem scan_told (bs : List Int) (h : HpN) (ht : h.touched < 9223372036854775808) (hm : bs.length ≤ 1048576) (x : Int) :
    (∀ B g cp W, bs.length ≤ cp → SliceR 3 1 B W (.slice (some ⟨g, 0, none⟩) bs.length cp) bs.length (intCells bs) → Calls Try.prog 25 #[heapV (.slice (some ⟨g, 0, none⟩) bs.length cp) h, .int .i64 x] W (Told2 W (ansW (scanA bs h x)) (ansH (scanA bs h x)) (scanA bs h x).isSome)) ∧
    (∀ B g cp W, bs.length ≤ cp → SliceR 3 1 B W (.slice (some ⟨g, 0, none⟩) bs.length cp) bs.length (intCells bs) → Calls Try.prog 19 #[heapV (.slice (some ⟨g, 0, none⟩) bs.length cp) h, .int .i64 x] W (Told2 W (ansW (scanA bs h x)) (ansH (scanA bs h x)) (scanA bs h x).isSome)) := by
  have IOk : ∀ B g cp W, bs.length ≤ cp → SliceR 3 1 B W (.slice (some ⟨g, 0, none⟩) bs.length cp) bs.length (intCells bs) → ∀ X, Below W.heap.size W X → Calls Try.prog 15 #[heapV (.slice (some ⟨g, 0, none⟩) bs.length cp) h] X fun e w' => e = .returned (.bool (if Ordered h bs.length then implOk bs h else false)) ∧ Below X.heap.size X w' := fun B g cp W hcp hs X hX => by
    refine iOk_calls (fun w hb => ?_)
    have hXw := hX.trans (hb.mono hX.size)
    by_cases ho : Ordered h bs.length
    · rw [if_pos ho]
      have h0 : bs.length ≠ 0 := by obtain ⟨o1, o2, o3, _⟩ := ho; omega
      refine (layOut_calls g 0 cp bs.length bs h w rfl ho hcp (row_atC h0 hs hXw).1 (row_atC h0 hs hXw).2).mono ?_
      rintro e w' ⟨hres, hb'⟩
      refine ⟨?_, hb'⟩
      rcases hres with ⟨e1, rfl⟩ | ⟨S, gb, _, e1, rfl, _⟩
      · rw [e1]
        exact ⟨_, _, _, _, _, _, _, rfl⟩
      · rw [e1]
        exact ⟨_, _, _, _, _, _, _, rfl⟩
    · rw [if_neg ho]
      refine (layOut_bad _ _ _ h w ho).mono ?_
      rintro e w' ⟨rfl, hb'⟩
      exact ⟨⟨_, _, _, _, _, _, _, rfl⟩, hb'⟩
  have SOk : ∀ B g cp W, bs.length ≤ cp → SliceR 3 1 B W (.slice (some ⟨g, 0, none⟩) bs.length cp) bs.length (intCells bs) → ∀ X, Below W.heap.size W X → Calls Try.prog 35 #[heapV (.slice (some ⟨g, 0, none⟩) bs.length cp) h] X fun e w' => e = .returned (.bool (if Ordered h bs.length then implOk bs h else false)) ∧ Below X.heap.size X w' := fun B g cp W hcp hs X hX => by
    by_cases ho : Ordered h bs.length
    · rw [if_pos ho, ← ok_same ho]
      have h0 : bs.length ≠ 0 := by obtain ⟨o1, o2, o3, _⟩ := ho; omega
      exact specOk_calls g 0 cp bs.length bs h X rfl ho (row_atC h0 hs hX).1 (row_atC h0 hs hX).2
    · rw [if_neg ho]
      exact specOk_bad _ _ _ h X hm ho
  by_cases hx0 : x < 0
  · cases hk : (if Ordered h bs.length then implOk bs h else false) with
    | false =>
      rw [hk] at SOk
      have eN : scanA bs h x = none := by
        unfold scanA
        rw [if_neg]
        rintro ⟨a1, a2, a3, a4⟩
        first
        | omega
        | (rw [if_pos a3, ← ok_same a3, a4] at hk; cases hk)
      rw [eN]
      exact ⟨fun B g cp W hcp hs => (sScan_notOk g 0 cp bs.length h x W (SOk B g cp W hcp hs)).mono (fun _ _ => told2_none), fun B g cp W hcp hs => (iScan_below g 0 cp bs.length h x W hx0).mono (fun _ _ => told2_none)⟩
    | true =>
      rw [hk] at SOk
      have eN : scanA bs h x = none := by
        unfold scanA
        rw [if_neg]
        rintro ⟨a1, a2, a3, a4⟩
        first
        | omega
        | (rw [if_pos a3, ← ok_same a3, a4] at hk; cases hk)
      rw [eN]
      exact ⟨fun B g cp W hcp hs => (sScan_below g 0 cp bs.length h x W hx0 (SOk B g cp W hcp hs)).mono (fun _ _ => told2_none), fun B g cp W hcp hs => (iScan_below g 0 cp bs.length h x W hx0).mono (fun _ _ => told2_none)⟩
  have hd : decide (x < 0) = false := decide_eq_false hx0
  by_cases hx4 : 4000 < x
  · cases hk : (if Ordered h bs.length then implOk bs h else false) with
    | false =>
      rw [hk] at SOk
      have eN : scanA bs h x = none := by
        unfold scanA
        rw [if_neg]
        rintro ⟨a1, a2, a3, a4⟩
        first
        | omega
        | (rw [if_pos a3, ← ok_same a3, a4] at hk; cases hk)
      rw [eN]
      exact ⟨fun B g cp W hcp hs => (sScan_notOk g 0 cp bs.length h x W (SOk B g cp W hcp hs)).mono (fun _ _ => told2_none), fun B g cp W hcp hs => (iScan_above g 0 cp bs.length h x W hx4 hd).mono (fun _ _ => told2_none)⟩
    | true =>
      rw [hk] at SOk
      have eN : scanA bs h x = none := by
        unfold scanA
        rw [if_neg]
        rintro ⟨a1, a2, a3, a4⟩
        first
        | omega
        | (rw [if_pos a3, ← ok_same a3, a4] at hk; cases hk)
      rw [eN]
      exact ⟨fun B g cp W hcp hs => (sScan_above g 0 cp bs.length h x W hx4 hd (SOk B g cp W hcp hs)).mono (fun _ _ => told2_none), fun B g cp W hcp hs => (iScan_above g 0 cp bs.length h x W hx4 hd).mono (fun _ _ => told2_none)⟩
  have hd2 : decide (4000 < x) = false := decide_eq_false hx4
  cases hk : (if Ordered h bs.length then implOk bs h else false) with
  | false =>
    rw [hk] at SOk IOk
    have eN : scanA bs h x = none := by
      unfold scanA
      rw [if_neg]
      rintro ⟨a1, a2, a3, a4⟩
      first
      | omega
      | (rw [if_pos a3, ← ok_same a3, a4] at hk; cases hk)
    rw [eN]
    exact ⟨fun B g cp W hcp hs => (sScan_notOk g 0 cp bs.length h x W (SOk B g cp W hcp hs)).mono (fun _ _ => told2_none), fun B g cp W hcp hs => (iScan_notOk g 0 cp bs.length h x W hd hd2 (IOk B g cp W hcp hs)).mono (fun _ _ => told2_none)⟩
  | true =>
    rw [hk] at SOk IOk
    have ho : Ordered h bs.length := by
      by_cases ho : Ordered h bs.length
      · exact ho
      · rw [if_neg ho] at hk
        cases hk
    rw [if_pos ho] at hk
    obtain ⟨S, ok⟩ := ok_facts ho (by rw [ok_same ho]; exact hk)
    have hstart := scn_start ok
    obtain ⟨o1, o2, o3, o4, o5, o6, o7, o8, o9, o10, o11, o12, o13⟩ := id ho
    have hN0 : bs.length ≠ 0 := by omega
    have hN8 : bs.length ≤ 8000 := by omega
    obtain ⟨n, hn⟩ := Int.eq_ofNat_of_zero_le (show 0 ≤ x by omega)
    have SOp : ∀ B g cp W, bs.length ≤ cp → SliceR 3 1 B W (.slice (some ⟨g, 0, none⟩) bs.length cp) bs.length (intCells bs) → ∀ X, Below W.heap.size W X → Calls Try.prog 46 #[heapV (.slice (some ⟨g, 0, none⟩) bs.length cp) h] X fun e w' => ∃ bm bw cap' : Nat, e = .returned (.pointer (some ⟨bm, 0, none⟩)) ∧ Wk X bm bw bs.length cap' ⟨bs, h, 0, 0⟩ false w' ∧ X.heap.size ≤ bm ∧ X.heap.size ≤ bw := fun B g cp W hcp hs X hX => open_calls g 0 cp bs.length bs h X (by omega) rfl hN8 (row_atC hN0 hs hX).1 (row_atC hN0 hs hX).2 o6 ht
    have IOp : ∀ B g cp W, bs.length ≤ cp → SliceR 3 1 B W (.slice (some ⟨g, 0, none⟩) bs.length cp) bs.length (intCells bs) → ∀ X, Below W.heap.size W X → Calls Try.prog 42 #[heapV (.slice (some ⟨g, 0, none⟩) bs.length cp) h] X fun e w' => ∃ bc bw cap' : Nat, e = .returned (.pointer (some ⟨bc, 0, none⟩)) ∧ ColAt X bc bw bs.length cap' ⟨bs, h, 0, 0⟩ w' ∧ X.heap.size ≤ bc ∧ X.heap.size ≤ bw := fun B g cp W hcp hs X hX => collectorOf_calls g 0 cp bs.length bs h X (by omega) rfl hN8 (row_atC hN0 hs hX).1 (row_atC hN0 hs hX).2
    have sS := fun B g cp W hcp hs => sScan_good g 0 cp bs.length h x W n hn (by omega) hd hd2 ⟨bs, h, 0, 0⟩ (SOk B g cp W hcp hs) (SOp B g cp W hcp hs) (fun q s' X w0 bm bw cap' hq hX => sscan_calls hX (scanRun_scn hstart q s' hq))
    have sI := fun B g cp W hcp hs => iScan_good g 0 cp bs.length h x W hd hd2 ⟨bs, h, 0, 0⟩ (scanRun n ⟨bs, h, 0, 0⟩) (IOk B g cp W hcp hs) (IOp B g cp W hcp hs) (fun X w0 bc bw cap' hX => by rw [hn]; exact look_calls ⟨bs, h, 0, 0⟩ hX hstart n (by omega)) (fun s1 X w0 bc bw cap' _ hX => by
      have e := told_calls hX
      rw [told_same] at e
      exact e)
    cases hr : scanRun n ⟨bs, h, 0, 0⟩ with
    | none =>
      rw [hr] at sS sI
      have eN : scanA bs h x = none := by
        unfold scanA
        rw [if_pos ⟨by omega, by omega, ho, by rw [ok_same ho]; exact hk⟩, hn, Int.toNat_natCast]
        exact hr
      rw [eN]
      exact ⟨fun B g cp W hcp hs => (sS B g cp W hcp hs).mono (fun _ _ => told2_none), fun B g cp W hcp hs => (sI B g cp W hcp hs).mono (fun _ _ => told2_none)⟩
    | some s1 =>
      rw [hr] at sS sI
      have hl := (scanRun_scn hstart n s1 hr).len
      have eN : scanA bs h x = some s1 := by
        unfold scanA
        rw [if_pos ⟨by omega, by omega, ho, by rw [ok_same ho]; exact hk⟩, hn, Int.toNat_natCast]
        exact hr
      rw [eN]
      exact ⟨fun B g cp W hcp hs => (sS B g cp W hcp hs).mono (fun _ _ h => told2_some hl h), fun B g cp W hcp hs => (sI B g cp W hcp hs).mono (fun _ _ h => told2_some hl h)⟩
end Go.Proofs.Ytebpgglegnljgaa

/- Looking through goes on, and touches few words. -/
namespace Go.Proofs.Ytebpgglegnljgaa
open Go.RowKit

theorem field_cnt {S : List Int} {s s' : CN} {p i : Nat} {y : Int} (d : Dyn True S s.ws s.h) (hp : S.getD p 0 ≠ 0) (hi : InS s.h p) (h1 : 1 ≤ i) (h2 : (i : Int) < S.getD p 0) (he : fieldZ s (p + i) = (some y, s')) : s'.r + s'.t ≤ s.r + s.t + 16 ∧ s.r + s.t ≤ s'.r + s'.t := by
  have pq := (d.flds p hp (d.unm p hp hi) i h1 h2).pts
  obtain ⟨o1, o2, o3, o4, -⟩ := id d.ord
  unfold fieldZ at he
  cases hl : lateZ s.h (s.ws.getD (p + i) 0) with
  | false =>
    rw [if_pos hl] at he
    cases he
    dsimp only
    omega
  | true =>
    rw [if_neg (by rw [hl]; decide)] at he
    obtain ⟨hx, hx0, hold⟩ := late_old hl (by omega)
    have hS := (pq.2 hx).2.2
    have e3 := d.head hS
    have h3 := d.three hS
    unfold moveZ at he
    dsimp only at he
    rw [hl, if_neg (by decide)] at he
    split at he
    · rename_i hm
      split at hm
      · cases hm
        cases he
        dsimp only
        omega
      · split at hm
        · cases hm
          cases he
          dsimp only
          omega
        · cases hm
    · cases he

theorem fields_cnt {S : List Int} {s : CN} {p : Nat} (d : Dyn True S s.ws s.h) (hp : S.getD p 0 ≠ 0) (hi : InS s.h p) : ∀ k : Nat, (k : Int) < S.getD p 0 → ∀ s', fieldsRun p k s = some s' → s'.r + s'.t ≤ s.r + s.t + 16 * k ∧ s.r + s.t ≤ s'.r + s'.t
  | 0, _, s', he => by
    cases he
    omega
  | k + 1, hk, s', he => by
    unfold fieldsRun at he
    cases h1 : fieldsRun p k s with
    | none => rw [h1] at he; cases he
    | some s1 =>
      rw [h1] at he
      dsimp only at he
      obtain ⟨S1, f1, t1⟩ := dyn_fields d hp hi k (by push_cast at hk; omega) s1 h1
      have c1 := fields_cnt d hp hi k (by push_cast at hk; omega) s1 h1
      cases h2 : fieldZ s1 (p + (k + 1)) with
      | mk o s2 =>
        rw [h2] at he
        cases o with
        | none => cases he
        | some y =>
          cases he
          have e1 := t1.step.ext p hp
          have c2 := field_cnt t1.step.dyn (by rw [e1]; exact hp) ((t1.step.ins p).2 hi) (by omega) (by rw [e1]; exact hk) h2
          push_cast
          omega

theorem scan_grow {S : List Int} {s s' : CN} (d : Dyn True S s.ws s.h) (he : scanOne s = some s') : s.h.scan ≤ s'.h.scan ∧ s.h.bottom ≤ s'.h.bottom ∧ s'.r + s'.t ≤ s.r + s.t + 90 ∧ s.r + s.t ≤ s'.r + s'.t := by
  unfold scanOne at he
  by_cases hb : s.h.scan = s.h.bottom
  · rw [if_pos hb] at he
    cases he
    omega
  · rw [if_neg hb] at he
    obtain ⟨o1, o2, o3, o4, o5, o6, o7, o8, o9, o10, o11, o12, o13⟩ := id d.ord
    obtain ⟨p, hp, hS, hi, hd⟩ := d.begin (by omega)
    have h3 := d.three hS
    rw [hp, Int.toNat_natCast, hd] at he
    obtain ⟨n, hn⟩ := Int.eq_ofNat_of_zero_le (show 0 ≤ S.getD p 0 by omega)
    rw [hn, Int.toNat_natCast] at he
    cases h1 : fieldsRun p (n - 1) { s with r := s.r + 1 } with
    | none => rw [h1] at he; cases he
    | some s1 =>
      rw [h1] at he
      cases he
      obtain ⟨S1, f, t⟩ := dyn_fields (s := { s with r := s.r + 1 }) d hS hi (n - 1) (by omega) s1 h1
      have c := fields_cnt (s := { s with r := s.r + 1 }) d hS hi (n - 1) (by omega) s1 h1
      have hg := t.step.grow
      dsimp only at c hg ⊢
      omega

theorem scans_grow {S : List Int} {s : CN} (d : Dyn True S s.ws s.h) : ∀ k s', scanRun k s = some s' → s.h.scan ≤ s'.h.scan ∧ s.h.bottom ≤ s'.h.bottom
  | 0, s', he => by
    cases he
    omega
  | k + 1, s', he => by
    unfold scanRun at he
    cases h1 : scanRun k s with
    | none => rw [h1] at he; cases he
    | some s1 =>
      rw [h1] at he
      obtain ⟨S1, f1, t1⟩ := dyn_scans d k s1 h1
      have g1 := scans_grow d k s1 h1
      have g2 := scan_grow t1.dyn he
      omega

theorem scanA_some {bs : List Int} {h : HpN} {x : Int} {s1 : CN} (he : scanA bs h x = some s1) : ∃ S, OkHeap bs S h ∧ scanRun x.toNat ⟨bs, h, 0, 0⟩ = some s1 := by
  unfold scanA at he
  split at he
  · rename_i hc
    obtain ⟨S, ok⟩ := ok_facts hc.2.2.1 hc.2.2.2
    exact ⟨S, ok, he⟩
  · cases he

/-- Looking through goes on. -/
theorem scan_facts {bs : List Int} {h : HpN} {x : Int} {s1 : CN} (he : scanA bs h x = some s1) : h.scan ≤ s1.h.scan ∧ h.bottom ≤ s1.h.bottom ∧ s1.h.top = h.top := by
  obtain ⟨S, ok, hr⟩ := scanA_some he
  obtain ⟨c, S1, f, p⟩ := phase_scans ok hr
  have ht : s1.h.top = h.top := by rw [p.num]
  by_cases hb : h.scan < h.bottom
  · have g := scans_grow (s := ⟨bs, h, 0, 0⟩) ((dyn_of_ok ok).of_iff ⟨fun _ => trivial, fun _ => hb⟩) _ s1 hr
    exact ⟨g.1, g.2, ht⟩
  · obtain ⟨o1, o2, o3, o4, o5, o6, o7, o8, -⟩ := id ok.ord
    have e := scanRun_end (s := ⟨bs, h, 0, 0⟩) (k := 0) rfl (by dsimp only; omega) x.toNat
    rw [Nat.zero_add, hr] at e
    cases e
    exact ⟨Int.le_refl _, Int.le_refl _, rfl⟩

/-- To look through one object touches few words. -/
theorem scan_one {bs : List Int} {h : HpN} {s1 : CN} (he : scanA bs h 1 = some s1) : wrap64 (touchZ s1 - h.touched) ≤ 100 := by
  obtain ⟨S, ok, hr⟩ := scanA_some he
  obtain ⟨c, S1, f, p⟩ := phase_scans ok hr
  have ht : s1.h.touched = h.touched := by rw [p.num]
  have hc : 0 ≤ s1.r + s1.t ∧ s1.r + s1.t ≤ 90 := by
    by_cases hb : h.scan < h.bottom
    · have hr1 : scanOne ⟨bs, h, 0, 0⟩ = some s1 := hr
      have g := scan_grow (s := ⟨bs, h, 0, 0⟩) ((dyn_of_ok ok).of_iff ⟨fun _ => trivial, fun _ => hb⟩) hr1
      dsimp only at g
      omega
    · obtain ⟨o1, o2, o3, o4, o5, o6, o7, o8, -⟩ := id ok.ord
      have e := scanRun_end (s := ⟨bs, h, 0, 0⟩) (k := 0) rfl (by dsimp only; omega) (1 : Int).toNat
      rw [Nat.zero_add, hr] at e
      cases e
      dsimp only
      omega
  unfold touchZ wrap64
  rw [ht]
  omega
end Go.Proofs.Ytebpgglegnljgaa

/- laws.hrInts at two lists of the same numbers. -/
namespace Go.Proofs.Ytebpgglegnljgaa
open Go.RowKit

set_option maxRecDepth 100000 in
theorem hrInts_none (ad ad' : Option Addr) (cap cap' : Nat) (w : World) :
    Calls Try.prog 11 #[.slice ad 0 cap, .slice ad' 0 cap'] w fun e w' => e = .returned (.bool true) ∧ Below w.heap.size w w' := by
  go_enter Try.func11, Try.ntmps11
  go_wp2
  refine wp_loop_rounds 1 ?_
  rw [rounds_succ]
  go_wp2
  go_ret
  exact ⟨rfl, Below.refl _ _⟩

set_option maxHeartbeats 1000000 in
set_option maxRecDepth 100000 in
theorem hrInts_rows (b off b' off' len cap cap' : Nat) (bs : List Int) (w : World) (hn : ∀ k, k < len → w.cell? ⟨b, off + k, none⟩ = some (.int .i64 (bs.getD k 0))) (hn' : ∀ k, k < len → w.cell? ⟨b', off' + k, none⟩ = some (.int .i64 (bs.getD k 0))) (hm : len ≤ 1048576) :
    Calls Try.prog 11 #[.slice (some ⟨b, off, none⟩) len cap, .slice (some ⟨b', off', none⟩) len cap'] w fun e w' => e = .returned (.bool true) ∧ Below w.heap.size w w' := by
  have HM : Hid (len ≤ 1048576) := hm
  have HN : Hid ((∀ k, k < len → w.cell? ⟨b, off + k, none⟩ = some (.int .i64 (bs.getD k 0))) ∧ ∀ k, k < len → w.cell? ⟨b', off' + k, none⟩ = some (.int .i64 (bs.getD k 0))) := ⟨hn, hn'⟩
  clear hm hn hn'
  go_enter Try.func11, Try.ntmps11
  go_wp2_with fail
  go_loopw [5] (fun i wr => ∃ k : Nat, k ≤ len ∧ i = .int .i64 k ∧ Below w.heap.size w wr ∧ ∀ a, wr.cell? a = w.cell? a) (fun i _ => len - (intOf i).toNat)
  case atStart => exact ⟨0, Nat.zero_le _, rfl, Below.refl _ _, fun _ => rfl⟩
  case round =>
    obtain ⟨k, hk, rfl, hnx, hce⟩ := hrel
    by_cases hkl : (k : Int) < (len : Int)
    · have c0 := (hce _).trans (HN.out.1 k (by omega))
      have d0 := (hce _).trans (HN.out.2 k (by omega))
      generalize bs.getD k 0 = n at c0 d0
      have hi0 : (0 : Int) ≤ (k : Int) := by omega
      have Hce : Hid (∀ a, wr.cell? a = w.cell? a) := hce
      clear hce
      go_wp2_with fail
      go_region
      all_goals
        go_wp2_with fail
        have hs : len - (intOf (.int .i64 ((k + 1 : Nat) : Int))).toNat < len - (intOf (.int .i64 (k : Int))).toNat := by simp only [intOf, Int.toNat_natCast]; omega
        try rw [wrap_inc (n := len) (by omega) HM.out]
        exact ⟨⟨k + 1, by omega, rfl, hnx.drew, Hce.out⟩, hs⟩
    · go_wp2_with fail
      go_ret
      exact ⟨rfl, hnx⟩

theorem hrInts_any {v v' : Value} {bs : List Int} (w : World) (hm : bs.length ≤ 1048576) (h : IntSlice w v bs) (h' : IntSlice w v' bs) :
    Calls Try.prog 11 #[v, v'] w fun e w' => e = .returned (.bool true) ∧ Below w.heap.size w w' := by
  obtain ⟨ad, cap, rfl, h⟩ := h
  obtain ⟨ad', cap', rfl, h'⟩ := h'
  by_cases h0 : bs = []
  · subst h0
    exact hrInts_none ad ad' cap cap' w
  · obtain ⟨g, o, rfl, -, hr⟩ := h.resolve_left h0
    obtain ⟨g', o', rfl, -, hr'⟩ := h'.resolve_left h0
    exact hrInts_rows g o g' o' _ cap cap' bs w hr hr' hm
end Go.Proofs.Ytebpgglegnljgaa

/- laws.hrHeap at two heaps of the same words and numbers. -/
namespace Go.Proofs.Ytebpgglegnljgaa
open Go.RowKit

set_option maxHeartbeats 4000000 in
set_option maxRecDepth 100000 in
theorem hrHeap_any {v v' : Value} {bs : List Int} {h : HpN} (w : World) (hm : bs.length ≤ 1048576) (h1 : IntSlice w v bs) (h2 : IntSlice w v' bs) :
    Calls Try.prog 14 #[heapV v h, heapV v' h] w fun e w' => e = .returned (.bool true) ∧ Below w.heap.size w w' := by
  have HI : Hid (∀ X, Below w.heap.size w X → Calls Try.prog 11 #[v, v'] X fun e w' => e = .returned (.bool true) ∧ Below X.heap.size X w') := fun X hX => hrInts_any X hm (h1.below hX) (h2.below hX)
  obtain ⟨a, c, hv, -⟩ := h1
  obtain ⟨a', c', hv', -⟩ := h2
  obtain ⟨g1, g2, g3, g4, g5, g6, g7, g8, g9⟩ := h
  unfold heapV
  dsimp only
  clear hm
  subst hv hv'
  generalize bs.length = n at *
  go_enter Try.func14, Try.ntmps14
  go_wp2_with fail
  have hb := ((Below.refl w.heap.size w).alloc (Nat.le_refl _) (.cells #[.slice a n c, .int .i64 g1, .int .i64 g2, .int .i64 g3, .int .i64 g4, .int .i64 g5, .int .i64 g6, .int .i64 g7, .int .i64 g8, .int .i64 g9] 25)).alloc (by simp) (.cells #[.slice a' n c', .int .i64 g1, .int .i64 g2, .int .i64 g3, .int .i64 g4, .int .i64 g5, .int .i64 g6, .int .i64 g7, .int .i64 g8, .int .i64 g9] 25)
  obtain ⟨eA, eB, eS⟩ := heap_alloc2 w (.cells #[.slice a n c, .int .i64 g1, .int .i64 g2, .int .i64 g3, .int .i64 g4, .int .i64 g5, .int .i64 g6, .int .i64 g7, .int .i64 g8, .int .i64 g9] 25) (.cells #[.slice a' n c', .int .i64 g1, .int .i64 g2, .int .i64 g3, .int .i64 g4, .int .i64 g5, .int .i64 g6, .int .i64 g7, .int .i64 g8, .int .i64 g9] 25)
  refine (HI.out _ hb).mono ?_
  rintro e W1 ⟨rfl, hb1⟩
  have k1 : HeapBlk W1 w.heap.size (.slice a n c) ⟨g1, g2, g3, g4, g5, g6, g7, g8, g9⟩ := (hb1.block _ (by rw [eS]; omega)).trans eA
  have k2 : HeapBlk W1 (w.heap.size + 1) (.slice a' n c') ⟨g1, g2, g3, g4, g5, g6, g7, g8, g9⟩ := (hb1.block _ (by rw [eS]; omega)).trans eB
  obtain ⟨c0, c1, c2, c3, c4, c5, c6, c7, c8, c9⟩ := k1.cells
  obtain ⟨d0, d1, d2, d3, d4, d5, d6, d7, d8, d9⟩ := k2.cells
  have HB := hid (hb.trans (hb1.mono hb.size))
  clear hb hb1 eA eB eS k1 k2 HI
  dsimp only at c0 c1 c2 c3 c4 c5 c6 c7 c8 c9 d0 d1 d2 d3 d4 d5 d6 d7 d8 d9
  go_wp2_with fail
  go_ret
  exact ⟨rfl, HB.out⟩
end Go.Proofs.Ytebpgglegnljgaa

/- The law on looking through, walked: whatever heap is drawn. -/
namespace Go.Proofs.Ytebpgglegnljgaa
open Go.RowKit Go.Deep

theorem told2_int {W w' : World} {v : Value} {ans : List Int} (h : SliceR 3 1 W.heap.size w' v ans.length (intCells ans)) : IntSlice w' v ans := h.intSlice

set_option maxHeartbeats 16000000 in
set_option maxRecDepth 100000 in
theorem scan_walk (a0 : Option Addr) (len cap : Nat) (W : World) (hcap : len ≤ cap) (hB : BytesAt W a0 len) :
    Calls Try.prog 6 #[.slice a0 len cap] W fun e W' => e = .returned (.bool true) ∧ Below W.heap.size W W' := by
  by_cases hl : (1048576 : Int) < (len : Int)
  · go_enter Try.func6, Try.ntmps6
    go_wp2_with fail
    go_ret
    exact ⟨rfl, Below.refl _ _⟩
  have HD := hid (drawScan_calls a0 len cap W (by omega) hcap hB)
  have hl' : (len : Int) ≤ 1048576 := by omega
  clear hB hl hcap
  go_enter Try.func6, Try.ntmps6
  go_wp2_with fail
  refine HD.out.mono ?_
  rintro e W1 ⟨bw, cp, ws, h, x, rfl, hr⟩
  have hx := scan_told ws h hr.tc (by have := hr.l8; omega) x
  have h1 := scan_told ws h hr.tc (by have := hr.l8; omega) 1
  obtain ⟨o, ho⟩ : ∃ o, scanA ws h x = o := ⟨_, rfl⟩
  obtain ⟨o1, ho1⟩ : ∃ o, scanA ws h 1 = o := ⟨_, rfl⟩
  rw [ho] at hx
  rw [ho1] at h1
  have HX := hid hx
  have H1 := hid h1.2
  have HO := hid (And.intro ho ho1)
  have HR := hid hr
  have HLn : Hid ((ansW o).length ≤ 1048576) := by
    show _ ≤ _
    cases o with
    | none => exact Nat.zero_le _
    | some s =>
      obtain ⟨S, ok, he⟩ := scanA_some ho
      obtain ⟨c, S1, f, p⟩ := phase_scans ok he
      have := p.len
      have := hr.l8
      show s.ws.length ≤ _
      omega
  clear HD hx h1 ho ho1 hr hl'
  unfold heapV
  obtain ⟨L, hL⟩ : ∃ L, ws.length = L := ⟨_, rfl⟩
  have HLL := hid hL
  rw [hL]
  rw [hL] at HX H1
  clear hL
  go_wp2_with fail
  have hbA := (Below.refl W1.heap.size W1).alloc (Nat.le_refl _) (.cells #[.slice (some ⟨bw, 0, none⟩) L cp, .int .i64 h.size, .int .i64 h.to, .int .i64 h.bottom, .int .i64 h.top, .int .i64 h.scan, .int .i64 h.fb, .int .i64 h.ft, .int .i64 h.flips, .int .i64 h.touched] 25)
  have HR2 := hid (HR.out.keep hbA)
  have HH2 : Hid (HeapBlk _ W1.heap.size (.slice (some ⟨bw, 0, none⟩) L cp) h) := HeapBlk.new W1 (.slice (some ⟨bw, 0, none⟩) L cp) h
  obtain ⟨hv, hhv⟩ : ∃ hv, W1.heap.size = hv := ⟨_, rfl⟩
  obtain ⟨W2, hW2⟩ : ∃ X, W1.alloc (.cells #[.slice (some ⟨bw, 0, none⟩) L cp, .int .i64 h.size, .int .i64 h.to, .int .i64 h.bottom, .int .i64 h.top, .int .i64 h.scan, .int .i64 h.fb, .int .i64 h.ft, .int .i64 h.flips, .int .i64 h.touched] 25) = X := ⟨_, rfl⟩
  rw [hW2] at HR2 HH2 ⊢
  rw [hhv] at HH2 ⊢
  clear hhv hW2 hbA HR
  have HRow : Hid (∀ X, HpR W bw cp ws h X → L ≤ cp ∧ SliceR 3 1 W.heap.size X (.slice (some ⟨bw, 0, none⟩) L cp) L (intCells ws)) := fun X hX => by
    have h1 := hX.cw
    have h2 := hX.row
    rw [HLL.out] at h1 h2
    exact ⟨h1, h2⟩
  refine (HX.out.2 W.heap.size bw cp W2 (HRow.out _ HR2.out).1 (HRow.out _ HR2.out).2).mono ?_
  rintro e W3 ⟨⟨vg, rfl, hvg⟩, hb3⟩
  have HF : Hid ((o.isSome = false → (ansW o).length = 0) ∧ (o.isSome = true → h.scan ≤ (ansH o).scan ∧ h.bottom ≤ (ansH o).bottom ∧ (ansH o).top = h.top)) := by
    cases o with
    | none => exact ⟨fun _ => rfl, fun k => by cases k⟩
    | some s => exact ⟨(fun k => by cases k), fun _ => scan_facts HO.out.1⟩
  have HF1 : Hid (o1.isSome = true → wrap64 ((ansH o1).touched - h.touched) ≤ 100) := by
    cases o1 with
    | none => exact fun k => by cases k
    | some s => exact fun _ => scan_one HO.out.2
  obtain ⟨A, hA⟩ : ∃ A, ansW o = A := ⟨_, rfl⟩
  obtain ⟨H, hH⟩ : ∃ H, ansH o = H := ⟨_, rfl⟩
  obtain ⟨ok, hok⟩ : ∃ ok, o.isSome = ok := ⟨_, rfl⟩
  obtain ⟨A1, hA1⟩ : ∃ A, ansW o1 = A := ⟨_, rfl⟩
  obtain ⟨H1', hH1⟩ : ∃ H, ansH o1 = H := ⟨_, rfl⟩
  obtain ⟨k1, hk1⟩ : ∃ ok, o1.isSome = ok := ⟨_, rfl⟩
  rw [hA, hH, hok] at HF
  rw [hA, hH, hok] at HX
  rw [hA] at HLn hvg
  rw [hH, hok]
  rw [hH1, hk1] at HF1
  rw [hA1, hH1, hk1] at H1
  clear hA hH hok hA1 hH1 hk1 HO
  obtain ⟨ag, cg, hvge, -⟩ := id hvg
  subst hvge
  have HG3 := hid hvg
  have HR3 := hid (HR2.out.keep hb3)
  have HH3 := hid (HH2.out.below hb3)
  obtain ⟨n, hn⟩ : ∃ n, A.length = n := ⟨_, rfl⟩
  have HN := hid hn
  rw [hn] at HG3 HF ⊢
  clear hvg hb3 HR2 HH2 hn
  unfold heapV
  dsimp only
  have hbB := (Below.refl W3.heap.size W3).alloc (Nat.le_refl _) (.cells #[.slice ag n cg, .int .i64 H.size, .int .i64 H.to, .int .i64 H.bottom, .int .i64 H.top, .int .i64 H.scan, .int .i64 H.fb, .int .i64 H.ft, .int .i64 H.flips, .int .i64 H.touched] 25)
  have HR4 := hid (HR3.out.keep hbB)
  have HH4 := hid (HH3.out.below hbB)
  have HG4 := hid (HG3.out.below hbB)
  obtain ⟨c0, c1, c2, c3, c4, c5, c6, c7, c8, c9⟩ := HH4.out.cells
  go_wp2_with fail
  clear c0 c1 c2 c3 c4 c5 c6 c7 c8 c9
  have HV4 : Hid (HeapBlk _ W3.heap.size (.slice ag n cg) H) := HeapBlk.new W3 (.slice ag n cg) H
  obtain ⟨gv, hgv⟩ : ∃ gv, W3.heap.size = gv := ⟨_, rfl⟩
  obtain ⟨W4, hW4⟩ : ∃ X, W3.alloc (.cells #[.slice ag n cg, .int .i64 H.size, .int .i64 H.to, .int .i64 H.bottom, .int .i64 H.top, .int .i64 H.scan, .int .i64 H.fb, .int .i64 H.ft, .int .i64 H.flips, .int .i64 H.touched] 25) = X := ⟨_, rfl⟩
  rw [hW4] at HR4 HH4 HG4 HV4 ⊢
  rw [hgv] at HV4 ⊢
  clear hgv hW4 hbB HR3 HH3 HG3
  refine (HX.out.1 W.heap.size bw cp W4 (HRow.out _ HR4.out).1 (HRow.out _ HR4.out).2).mono ?_
  rintro e W5 ⟨⟨vw, rfl, hvw⟩, hb5⟩
  obtain ⟨aw, cw, hvwe, -⟩ := id hvw
  subst hvwe
  have HWs := hid hvw
  have HR5 := hid (HR4.out.keep hb5)
  have HH5 := hid (HH4.out.below hb5)
  have HG5 := hid (HG4.out.below hb5)
  have HV5 := hid (HV4.out.below hb5)
  rw [HN.out] at HWs ⊢
  clear hvw hb5 HR4 HH4 HG4 HV4 HX
  have hRR : (ok != ok) = false := by cases ok <;> rfl
  unfold heapV
  dsimp only
  have hbC := (Below.refl W5.heap.size W5).alloc (Nat.le_refl _) (.cells #[.slice aw n cw, .int .i64 H.size, .int .i64 H.to, .int .i64 H.bottom, .int .i64 H.top, .int .i64 H.scan, .int .i64 H.fb, .int .i64 H.ft, .int .i64 H.flips, .int .i64 H.touched] 25)
  have HR6 := hid (HR5.out.keep hbC)
  have HH6 := hid (HH5.out.below hbC)
  have HV6 := hid (HV5.out.below hbC)
  have HG6 := hid (HG5.out.below hbC)
  have HW6 := hid (HWs.out.below hbC)
  obtain ⟨c0, c1, c2, c3, c4, c5, c6, c7, c8, c9⟩ := HV6.out.cells
  go_wp2_with fail
  clear c0 c1 c2 c3 c4 c5 c6 c7 c8 c9
  obtain ⟨W6, hW6⟩ : ∃ X, W5.alloc (.cells #[.slice aw n cw, .int .i64 H.size, .int .i64 H.to, .int .i64 H.bottom, .int .i64 H.top, .int .i64 H.scan, .int .i64 H.fb, .int .i64 H.ft, .int .i64 H.flips, .int .i64 H.touched] 25) = X := ⟨_, rfl⟩
  rw [hW6] at HR6 HH6 HV6 HG6 HW6 ⊢
  clear hW6 hbC HR5 HH5 HV5 HG5 HWs
  refine (hrHeap_any (v := .slice ag n cg) (v' := .slice aw n cw) (bs := A) (h := H) W6 HLn.out (by have := HG6.out; rw [← HN.out] at this ⊢; exact this.intSlice) (by have := HW6.out; rw [← HN.out] at this ⊢; exact this.intSlice)).mono ?_
  rintro e W7 ⟨rfl, hb7⟩
  have HR7 := hid (HR6.out.keep hb7)
  have HH7 := hid (HH6.out.below hb7)
  have HV7 := hid (HV6.out.below hb7)
  clear hb7 HR6 HH6 HV6 HG6 HW6 hRR
  obtain ⟨c0, c1, c2, c3, c4, c5, c6, c7, c8, c9⟩ := HH7.out.cells
  obtain ⟨d0, d1, d2, d3, d4, d5, d6, d7, d8, d9⟩ := HV7.out.cells
  cases ok with
  | false =>
    have h0 := HF.out.1 rfl
    subst h0
    go_wp2_with fail
    go_ret
    exact ⟨rfl, HR7.out.below⟩
  | true =>
    have hf := HF.out.2 rfl
    have HFt := hid hf
    clear hf HF
    go_wp2_with fail
    refine (H1.out W.heap.size bw cp W7 (HRow.out _ HR7.out).1 (HRow.out _ HR7.out).2).mono ?_
    rintro e W8 ⟨⟨v1, rfl, hv1⟩, hb8⟩
    obtain ⟨a1, cc1, hv1e, -⟩ := hv1
    subst hv1e
    have HR8 := hid (HR7.out.keep hb8)
    have HH8 := hid (HH7.out.below hb8)
    have HV8 := hid (HV7.out.below hb8)
    clear hb8 HR7 HH7 HV7 c0 c1 c2 c3 c4 c5 c6 c7 c8 c9 d0 d1 d2 d3 d4 d5 d6 d7 d8 d9 H1
    obtain ⟨n1, hn1⟩ : ∃ n, A1.length = n := ⟨_, rfl⟩
    rw [hn1]
    clear hn1
    have e1 : decide (h.scan ≤ H.scan) = true := decide_eq_true HFt.out.1
    have e2 : decide (h.bottom ≤ H.bottom) = true := decide_eq_true HFt.out.2.1
    have e3 : (H.top == h.top) = true := by simpa using HFt.out.2.2
    have hbE := (Below.refl W8.heap.size W8).alloc (Nat.le_refl _) (.cells #[.slice a1 n1 cc1, .int .i64 H1'.size, .int .i64 H1'.to, .int .i64 H1'.bottom, .int .i64 H1'.top, .int .i64 H1'.scan, .int .i64 H1'.fb, .int .i64 H1'.ft, .int .i64 H1'.flips, .int .i64 H1'.touched] 25)
    obtain ⟨c0, c1, c2, c3, c4, c5, c6, c7, c8, c9⟩ := (HH8.out.below hbE).cells
    obtain ⟨d0, d1, d2, d3, d4, d5, d6, d7, d8, d9⟩ := (HV8.out.below hbE).cells
    have HB9 := hid (HR8.out.keep hbE).below
    clear hbE HH8 HV8 HR8
    unfold heapV
    dsimp only
    obtain ⟨td, htd⟩ : ∃ t, wrap64 (H1'.touched - h.touched) = t := ⟨_, rfl⟩
    rw [htd] at HF1
    cases k1 with
    | false =>
      go_wp2_with fail
      go_ret
      exact ⟨rfl, HB9.out⟩
    | true =>
      have e4 : decide (td ≤ 100) = true := decide_eq_true (HF1.out rfl)
      go_wp2_with fail
      go_ret
      exact ⟨rfl, HB9.out⟩
end Go.Proofs.Ytebpgglegnljgaa

/- At every bytes the promise on looking through holds: it goes on object by object, and one object touches at most a hundred words; the bytes unchanged; no condition. -/
namespace Go.Proofs.Ytebpgglegnljgaa.fnHeapScan
open Go.ChangeShapes Go.WideShapes Go.ChangeAt Go.RowKit
set_option linter.unusedVariables false

theorem own : ownKnob Try.prog.godebug = none := by kernel_rfl

theorem spot_none {W : World} {a : Addr} {v : Value} (h : W.cell? a = some v) : a.spot = none := by
  unfold World.cell? at h
  split at h
  · by_cases hs : a.spot.isSome
    · simp [hs] at h
    · simpa using hs
  · cases h

theorem block_lt {W : World} {a : Addr} {v : Value} (h : W.cell? a = some v) : a.block < W.heap.size := by
  unfold World.cell? at h
  split at h
  · rename_i e
    obtain ⟨hlt, _⟩ := Array.getElem?_eq_some_iff.mp e
    exact hlt
  · cases h

theorem le_of_max {n : Nat} (h : n ≤ maxLen) : n ≤ 9223372036854775807 := by
  unfold maxLen at h
  omega

theorem cells_u8 : Try.prog.cellsOf 5 = 1 := by kernel_rfl
theorem laidOut : laidOutB Try.prog = true := by kernel_rfl

theorem open_bytes {H : Type} {enc : TypeId × Value → H} {W : World} {sp : Nat → Bool} {held : Bool} {fuel : Nat} {v : Value} {x : DataW H × List MemPlace}
    (h : DataW.trod enc Try.prog W 0 sp held fuel 22 [v] = some x) :
    ∃ a0 len cap, v = .slice a0 len cap ∧ len ≤ cap ∧ len ≤ maxLen ∧ BytesAt W a0 len := by
  rcases open_ints Try.underlying22 Try.underlying5 cells_u8 h with ⟨hc, _⟩ | ⟨a, len, cap, zs, hc, _, hl, hm, hz, _, hcell, hwf⟩
  · simp at hc
    subst hc
    exact ⟨none, 0, 0, rfl, Nat.le_refl _, Nat.zero_le _, fun h => absurd h (by omega)⟩
  · simp at hc
    subst hc
    have hlm : len ≤ zs.length := by rw [hz]; split <;> omega
    refine ⟨some a, len, cap, rfl, hl, by omega, fun h0 => ?_⟩
    have hc0 := hcell 0 (by omega)
    have hs := spot_none hc0
    have hb := block_lt hc0
    obtain ⟨b, off, spot⟩ := a
    have hspot : spot = none := by simpa [Addr.add] using hs
    subst hspot
    refine ⟨b, off, rfl, by simpa [Addr.add] using hb, fun i hi => ?_⟩
    have hci := hcell i (by omega)
    have e : (Addr.add ⟨b, off, none⟩ i) = ⟨b, off + i, none⟩ := by
      unfold Addr.add
      split
      · rename_i h
        subst h
        rfl
      · rfl
    rw [e] at hci
    have hin : zs.getD i 0 ∈ zs := by
      rw [List.getD, List.getElem?_eq_getElem (show i < zs.length by omega)]
      exact List.getElem_mem _
    have hw := hwf _ hin
    simp only [Lit.wf, Bool.and_eq_true, decide_eq_true_eq] at hw
    exact ⟨_, hci, hw.1, hw.2⟩

set_option maxRecDepth 100000 in
theorem lifted (os : Os) (started : os.Started) (H : Type) (enc : TypeId × Value → H) :
    ReturnsInHanded {} Try.checked os 6 .any (Rows.fnHeapScanSpec.pre6 enc Try.prog Try.f6 Rows.fnHeapScanRow.domain false) (Rows.fnHeapScanSpec.post enc Try.prog Try.f6 false true false false) := by
  refine returnsInHanded_of_change (C := Try.checked) own started (by kernel_rfl) Try.func6
    (ChangeSpec.witness6 (enc := enc) (C := Try.checked) false ⟨#[], #[.slice none 0 0], []⟩ 8 (by kernel_rfl) (by kernel_rfl) (by kernel_rfl) (by kernel_rfl)) ?_
  intro W base args ds gs before hval0 hW hcnd _
  have hval : ∀ (j : Nat) t v, Try.f6.params[j]? = some t → args[j]? = some v → Value.okWide Try.prog W .any base t v := hval0
  have hW' := hW
  obtain ⟨p, q, hA0, hV, rfl, hfz, hnd⟩ := hW
  have hA : DataW.TrodAll enc Try.prog W 0 (fun _ => true) true Try.f6.params.toList args.toList ds p := hA0
  rw [Try.params6] at hA hval
  obtain ⟨v0, vs0, d0, ds0, p0, q0, hargs, rfl, rfl, h0, r0⟩ := trodAll_cons hA
  obtain ⟨rfl, rfl, rfl⟩ := trodAll_nil r0
  obtain rfl : args = #[v0] := by cases args; simp_all
  obtain ⟨rfl, rfl⟩ := trodVars_none hV
  clear hA0 hval0
  simp only [List.append_nil] at hW'
  have hlt : ∀ y ∈ p0, y.block < W.heap.size := fun y hy => by simpa using hW'.lt y (by simpa using hy)
  have h0k := h0
  obtain ⟨fuel, hf⟩ := h0
  obtain ⟨a1, len1, cap1, rfl⟩ := okWide_slice Try.underlying22 (hval 0 22 v0 rfl rfl)
  obtain ⟨a0, len, cap, hv, hl, hm, hB⟩ := open_bytes (by simpa [Value.cells] using hf)
  cases hv
  refine (scan_walk _ _ _ W hl hB).mono fun e W' ⟨he, hg⟩ => ?_
  subst he
  refine ⟨_, rfl, _, _, _, [], p0, [], hW', ?_, ?_, rfl, hg.frame _, fun h => by cases h⟩
  · exact trodAll_cons_mk (shut_bool Try.underlying4 _) trodAll_mk0
  · exact trodAll_mk1 (Below.trod laidOut (by kernel_rfl) (of_decide_eq_true (by kernel_rfl)) h0k hg hlt)

theorem over : Rows.fnHeapScanRow.holds Try.pinned (OpenSpec.ofChange Rows.fnHeapScanSpec) :=
  OpenClaim.holds_of_wide 6 Try.f6 rfl rfl rfl rfl rfl rfl rfl ⟨rfl, rfl, rfl, rfl, rfl⟩ rfl rfl rfl rfl rfl (by kernel_rfl) Try.func6 (by kernel_rfl)
    (of_decide_eq_true (by kernel_rfl)) (by unfold Func.isWrapper; first | (rw [if_pos (by decide +kernel)]; kernel_rfl) | (rw [if_neg (by decide +kernel)]; exact ⟨rfl, rfl⟩))
    (fun os started H enc _ => lifted os started H enc)

theorem proved : Rows.FnHeapScanSaid :=
  over
#print axioms proved
end Go.Proofs.Ytebpgglegnljgaa.fnHeapScan
