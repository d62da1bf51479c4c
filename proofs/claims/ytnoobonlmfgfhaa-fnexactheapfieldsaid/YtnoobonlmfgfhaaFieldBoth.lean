/- HeapField: both sides answer the same, whatever they are given. -/
import Derived.Test.YtnoobonlmfgfhaaSpecWkG
import Derived.Test.YtnoobonlmfgfhaaImplWkB
import Derived.Test.YtnoobonlmfgfhaaHeapFacts
namespace Go.Proofs.Ytnoobonlmfgfhaa
open Go.RowKit

/-- A heap, a number and a bool are told; the heap's words are new. -/
def Told3 (W : World) (ans : List Int) (H : HpN) (u : Int) (ok : Bool) (e : Ending) (w' : World) : Prop :=
  (∃ v, e = .returned (.tuple #[heapV v H, .int .i64 u, .bool ok]) ∧ SliceR 3 1 W.heap.size w' v ans.length (intCells ans)) ∧ Below W.heap.size W w'

theorem told_none {W w' : World} {e : Ending} (h : e = .returned (.tuple #[noHeap, .int .i64 0, .bool false]) ∧ Below W.heap.size W w') : Told3 W [] ⟨0, 0, 0, 0, 0, 0, 0, 0, 0⟩ 0 false e w' :=
  ⟨⟨_, h.1, none, 0, rfl, Or.inl rfl⟩, h.2⟩

theorem told_some {N : Nat} {W w' : World} {ws : List Int} {H : HpN} {u : Int} {e : Ending} (hl : ws.length = N) (h : FieldTold N W ws H u e w') : Told3 W ws H u true e w' := by
  obtain ⟨bw, cap, rfl, hr, hlow, hb⟩ := h
  subst hl
  exact ⟨⟨_, rfl, some ⟨bw, 0, none⟩, cap, rfl, Or.inr ⟨bw, rfl, hlow, by rw [Nat.mul_one]; exact hr⟩⟩, hb⟩

/-- Words in a row of their own, at a later world. -/
theorem row_words {B g N : Nat} {bs : List Int} {W X : World} (h0 : N ≠ 0) (hs : SliceR 3 1 B W (.slice (some ⟨g, 0, none⟩) N N) N (intCells bs)) (hX : Below W.heap.size W X) :
    g < X.heap.size ∧ ∀ k, k < N → X.cell? ⟨g, 0 + k, none⟩ = some (.int .i64 (bs.getD k 0)) := by
  obtain ⟨ad, cap, e, hh⟩ := hs
  obtain ⟨g', e2, hB, hr⟩ := hh.resolve_left h0
  cases e
  cases e2
  rw [Nat.mul_one] at hr
  exact ⟨Nat.lt_of_lt_of_le hr.lt hX.size, fun k hk => by rw [Nat.zero_add]; exact (hX.cell (p := ⟨g, k, none⟩) hr.lt).trans (hr.cell hk)⟩

theorem moveZ_len (s : CN) (x : Int) : (moveZ s x).2.ws.length = s.ws.length := by
  unfold moveZ
  split
  · rfl
  · split
    · rfl
    · split
      · simp only [List.length_set, copyW_length]
      · rfl

theorem fieldZ_len (s : CN) (q : Nat) : (fieldZ s q).2.ws.length = s.ws.length := by
  unfold fieldZ
  split
  · rfl
  · have e := moveZ_len { s with r := s.r + 1 } (s.ws.getD q 0)
    generalize moveZ { s with r := s.r + 1 } (s.ws.getD q 0) = m at e
    obtain ⟨o, s2⟩ := m
    cases o with
    | some y => simpa using e
    | none => exact e

theorem told_touch (t r q : Int) : wrap64 (wrap64 (t + r) + q) = wrap64 (t + (r + q)) := by
  unfold wrap64
  omega

theorem field_both (bs : List Int) (h : HpN) (ht : h.touched < 9223372036854775808) (hm : bs.length ≤ 1048576) (x i : Int) : ∃ ans H u ok, ans.length ≤ 1048576 ∧
    (∀ B g W, SliceR 3 1 B W (.slice (some ⟨g, 0, none⟩) bs.length bs.length) bs.length (intCells bs) → Calls Try.prog 22 #[heapV (.slice (some ⟨g, 0, none⟩) bs.length bs.length) h, .int .i64 x, .int .i64 i] W (Told3 W ans H u ok)) ∧
    (∀ B g W, SliceR 3 1 B W (.slice (some ⟨g, 0, none⟩) bs.length bs.length) bs.length (intCells bs) → Calls Try.prog 23 #[heapV (.slice (some ⟨g, 0, none⟩) bs.length bs.length) h, .int .i64 x, .int .i64 i] W (Told3 W ans H u ok)) := by
  by_cases ho : Ordered h bs.length
  case neg =>
    refine ⟨[], _, _, _, by simp, fun B g W _ => (sField_notOk g 0 bs.length bs.length h x i W (fun X _ => specOk_bad _ _ _ h X hm ho)).mono (fun _ _ => told_none), fun B g W _ => (iField_notOk g 0 bs.length bs.length h x i W (fun X _ => layOut_bad _ _ _ h X ho)).mono (fun _ _ => told_none)⟩
  have hN0 : bs.length ≠ 0 := by obtain ⟨o1, o2, o3, _⟩ := ho; omega
  have hN8 : bs.length ≤ 8000 := by obtain ⟨o1, o2, o3, _⟩ := ho; omega
  -- the specification's and the program's own looks
  have SOk : ∀ B g W, SliceR 3 1 B W (.slice (some ⟨g, 0, none⟩) bs.length bs.length) bs.length (intCells bs) → ∀ X, Below W.heap.size W X → Calls Try.prog 10 #[heapV (.slice (some ⟨g, 0, none⟩) bs.length bs.length) h] X fun e w' => e = .returned (.bool (specOk bs h)) ∧ Below X.heap.size X w' := fun B g W hs X hX =>
    specOk_calls g 0 bs.length bs.length bs h X rfl ho (row_words hN0 hs hX).1 (row_words hN0 hs hX).2
  have ILy : ∀ B g W, SliceR 3 1 B W (.slice (some ⟨g, 0, none⟩) bs.length bs.length) bs.length (intCells bs) → ∀ X, Below W.heap.size W X → Calls Try.prog 40 #[heapV (.slice (some ⟨g, 0, none⟩) bs.length bs.length) h] X (LayTold g 0 bs.length bs.length bs h X) := fun B g W hs X hX =>
    layOut_calls g 0 bs.length bs.length bs h X rfl ho (Nat.le_refl _) (row_words hN0 hs hX).1 (row_words hN0 hs hX).2
  cases hk : specOk bs h with
  | false =>
    have hki : implOk bs h = false := by rw [← ok_same ho]; exact hk
    rw [hk] at SOk
    refine ⟨[], _, _, _, by simp, fun B g W hs => (sField_notOk g 0 bs.length bs.length h x i W (SOk B g W hs)).mono (fun _ _ => told_none), fun B g W hs => (iField_notOk g 0 bs.length bs.length h x i W (fun X hX => (ILy B g W hs X hX).mono ?_)).mono (fun _ _ => told_none)⟩
    rintro e w' ⟨hres, hb'⟩
    rcases hres with ⟨_, e1⟩ | ⟨S, gb, _, e2, _⟩
    · exact ⟨e1, hb'⟩
    · rw [hki] at e2
      cases e2
  | true =>
    have hki : implOk bs h = true := by rw [← ok_same ho]; exact hk
    rw [hk] at SOk
    obtain ⟨S, ok⟩ := ok_facts ho hk
    have ILg : ∀ B g W, SliceR 3 1 B W (.slice (some ⟨g, 0, none⟩) bs.length bs.length) bs.length (intCells bs) → ∀ X, Below W.heap.size W X → Calls Try.prog 40 #[heapV (.slice (some ⟨g, 0, none⟩) bs.length bs.length) h] X fun e w' => ∃ gb, e = .returned (.tuple #[layV (.slice (some ⟨g, 0, none⟩) bs.length bs.length) h (.slice (some ⟨gb, 0, none⟩) bs.length bs.length), .bool true]) ∧ Hid (ISt g 0 gb bs.length bs S w') ∧ Below X.heap.size X w' := fun B g W hs X hX => (ILy B g W hs X hX).mono (by
      rintro e w' ⟨hres, hb'⟩
      rcases hres with ⟨e1, _⟩ | ⟨S', gb, e1, _, e2, _, e3⟩
      · rw [hki] at e1
        cases e1
      · rw [ok.impl] at e1
        cases e1
        exact ⟨gb, e2, e3, hb'⟩)
    have ILd : ∀ g, ∀ (X : World) (gb : Nat), ISt g 0 gb bs.length bs S X → Calls Try.prog 53 #[layV (.slice (some ⟨g, 0, none⟩) bs.length bs.length) h (.slice (some ⟨gb, 0, none⟩) bs.length bs.length), .int .i64 x, .int .i64 h.to] X fun e w' => e = .returned (.bool (leadsZ S h.size x h.to)) ∧ Below X.heap.size X w' := fun g X gb hI => leads_st hI _ h ho x h.to (Or.inl rfl)
    have STg := fun w => specTag_calls x w
    unfold tagZ at STg
    by_cases hx : x % 8 = 0
    case neg =>
      have hl : leadsZ S h.size x h.to = false := by unfold leadsZ; rw [decide_eq_false hx]; rfl
      rw [hl] at ILd
      exact ⟨[], _, _, _, by simp, fun B g W hs => (sField_noPtr g 0 bs.length bs.length h x i W (x % 8) (by simpa using hx) (SOk B g W hs) STg).mono (fun _ _ => told_none), fun B g W hs => (iField_noRoot g 0 bs.length bs.length h x i W bs S (ILg B g W hs) (ILd g)).mono (fun _ _ => told_none)⟩
    rw [hx] at STg
    have SRt : ∀ B g W, SliceR 3 1 B W (.slice (some ⟨g, 0, none⟩) bs.length bs.length) bs.length (intCells bs) → ∀ X, Below W.heap.size W X → ∀ g', X.cell? ⟨g', 0, none⟩ = some (.int .i64 x) → Calls Try.prog 42 #[heapV (.slice (some ⟨g, 0, none⟩) bs.length bs.length) h, .slice (some ⟨g', 0, none⟩) 1 1] X fun e w' => e = .returned (.bool (specLeads bs S h x false)) ∧ Below X.heap.size X w' := fun B g W hs X hX g' hg' => by
      have e := specRoots_calls g 0 bs.length bs.length bs S h (.slice (some ⟨g', 0, none⟩) 1 1) [x] X rfl ho ok.spec (row_words hN0 hs hX).1 (row_words hN0 hs hX).2 ⟨_, 1, rfl, Or.inr ⟨g', 0, rfl, block_in hg', fun k hk => by
        obtain rfl : k = 0 := by simpa using hk
        exact hg'⟩⟩ (by simp)
      have e2 : specRoots bs S h [x] = specLeads bs S h x false := by simp [specRoots]
      rw [e2] at e
      exact e
    have hsame : leadsZ S h.size x h.to = specLeads bs S h x false := by
      rw [← used_same ok x]
      unfold wordOkZ
      rw [if_pos hx]
    rw [hsame] at ILd
    cases hl : specLeads bs S h x false with
    | false =>
      rw [hl] at SRt ILd
      exact ⟨[], _, _, _, by simp, fun B g W hs => (sField_noRoot g 0 bs.length bs.length h x i W (SOk B g W hs) STg (SRt B g W hs)).mono (fun _ _ => told_none), fun B g W hs => (iField_noRoot g 0 bs.length bs.length h x i W bs S (ILg B g W hs) (ILd g)).mono (fun _ _ => told_none)⟩
    | true =>
      rw [hl] at SRt ILd
      by_cases hi : i < 0
      · exact ⟨[], _, _, _, by simp, fun B g W hs => (sField_below g 0 bs.length bs.length h x i W hi (SOk B g W hs) STg (SRt B g W hs)).mono (fun _ _ => told_none), fun B g W hs => (iField_below g 0 bs.length bs.length h x i W bs S hi (ILg B g W hs) (ILd g)).mono (fun _ _ => told_none)⟩
      obtain ⟨l1, l2, l3, l4⟩ := specLeads_at hx hl
      have hin : inZ h (x / 8) = true := by
        rcases l4 with ⟨e, _⟩ | ⟨_, e⟩
        · exact e
        · cases e
      obtain ⟨k, hkx⟩ := Int.eq_ofNat_of_zero_le l1
      rw [hkx, Int.toNat_natCast] at l3
      rw [hkx] at l2 hin
      obtain ⟨hd3, hdl, hdh⟩ := (heads_noted ok.noted).2 k l3
      have hst := used_stays ok l3 hin
      have hd : decide (i < 0) = false := decide_eq_false hi
      have SNum := fun w => specNum_calls x w
      have INum := fun w => implNum_calls x w
      unfold numZ at SNum INum
      rw [hkx] at SNum INum
      have hkN : k < bs.length := by omega
      have HF : ∀ B g W, SliceR 3 1 B W (.slice (some ⟨g, 0, none⟩) bs.length bs.length) bs.length (intCells bs) → W.cell? ⟨g, 0 + k, none⟩ = some (.int .i64 (bs.getD k 0)) := fun B g W hs => (row_words hN0 hs (Below.refl _ _)).2 k hkN
      have HG : ∀ B g W, SliceR 3 1 B W (.slice (some ⟨g, 0, none⟩) bs.length bs.length) bs.length (intCells bs) → g < W.heap.size := fun B g W hs => (row_words hN0 hs (Below.refl _ _)).1
      by_cases hp : S.getD k 0 - 1 ≤ i
      · exact ⟨[], _, _, _, by simp, fun B g W hs => (sField_past g 0 bs.length bs.length h x i W k hkN (HG B g W hs) (bs.getD k 0) (S.getD k 0) (HF B g W hs) hdh (by omega) (by omega) hd hp (SOk B g W hs) STg (SRt B g W hs) SNum).mono (fun _ _ => told_none), fun B g W hs => (iField_past g 0 bs.length bs.length h x i W bs S k hkN (S.getD k 0) rfl (by omega) (by omega) hd hp (ILg B g W hs) (ILd g) INum).mono (fun _ _ => told_none)⟩
      -- a field that is there
      obtain ⟨j, rfl⟩ := Int.eq_ofNat_of_zero_le (show 0 ≤ i by omega)
      obtain ⟨o1, o2, o3, o4, o5, o6, o7, o8, o9, o10, o11, o12, o13⟩ := id ho
      have hq : k + 1 + j < bs.length := by omega
      have hgood := field_good ok l3 hst (i := j) (by omega)
      have hmv := good_move (h := h) (heads_noted ok.noted) hgood
      have hhe := good_here ho hgood
      have SOp : ∀ B g W, SliceR 3 1 B W (.slice (some ⟨g, 0, none⟩) bs.length bs.length) bs.length (intCells bs) → ∀ X, Below W.heap.size W X → Calls Try.prog 43 #[heapV (.slice (some ⟨g, 0, none⟩) bs.length bs.length) h] X fun e w' => ∃ bm bw cap' : Nat, e = .returned (.pointer (some ⟨bm, 0, none⟩)) ∧ Wk X bm bw bs.length cap' ⟨bs, h, 0, 0⟩ false w' ∧ X.heap.size ≤ bm ∧ X.heap.size ≤ bw := fun B g W hs X hX => open_calls g 0 bs.length bs.length bs h X (by omega) rfl hN8 (row_words hN0 hs hX).1 (row_words hN0 hs hX).2 o6 ht
      have IOp : ∀ B g W, SliceR 3 1 B W (.slice (some ⟨g, 0, none⟩) bs.length bs.length) bs.length (intCells bs) → ∀ X, Below W.heap.size W X → Calls Try.prog 48 #[heapV (.slice (some ⟨g, 0, none⟩) bs.length bs.length) h] X fun e w' => ∃ bc bw cap' : Nat, e = .returned (.pointer (some ⟨bc, 0, none⟩)) ∧ Col X bc bw bs.length cap' bs h 0 0 w' ∧ X.heap.size ≤ bc ∧ X.heap.size ≤ bw := fun B g W hs X hX => collectorOf_calls g 0 bs.length bs.length bs h X (by omega) rfl hN8 (row_words hN0 hs hX).1 (row_words hN0 hs hX).2
      have SFd : ∀ (X w0 : World) (bm bw cap' : Nat), Wk w0 bm bw bs.length cap' ⟨bs, h, 0, 0⟩ false X → Calls Try.prog 52 #[.pointer (some ⟨bm, 0, none⟩), .int .i64 x, .int .i64 (j : Int)] X fun e w' => (∃ z : Int, e = .returned (.int .i64 z) ∧ ∀ u, (fieldZ ⟨bs, h, 0, 0⟩ (k + 1 + j)).1 = some u → z = u) ∧ Wk w0 bm bw bs.length cap' (fieldZ ⟨bs, h, 0, 0⟩ (k + 1 + j)).2 (fieldZ ⟨bs, h, 0, 0⟩ (k + 1 + j)).1.isNone w' := fun X w0 bm bw cap' hX => sfield_calls hX x j (k + 1 + j) hq (by omega) (by omega) (by omega) (by omega) (by omega) (show 0 ≤ h.to by omega) (show h.to ≤ h.size by omega) o2 (show 0 ≤ h.bottom by omega) o9 (show h.top ≤ (bs.length : Int) by omega) hN8 hmv hhe
      have IFd : ∀ (X w0 : World) (bc bw cap' : Nat), Col w0 bc bw bs.length cap' bs h 0 0 X → Calls Try.prog 55 #[.pointer (some ⟨bc, 0, none⟩), .int .i64 ((k : Int) + 1 + (j : Int))] X fun e w' => e = .returned (moveV (fieldZ ⟨bs, h, 0, 0⟩ (k + 1 + j)).1) ∧ Col w0 bc bw bs.length cap' (fieldZ ⟨bs, h, 0, 0⟩ (k + 1 + j)).2.ws (fieldZ ⟨bs, h, 0, 0⟩ (k + 1 + j)).2.h (fieldZ ⟨bs, h, 0, 0⟩ (k + 1 + j)).2.r (fieldZ ⟨bs, h, 0, 0⟩ (k + 1 + j)).2.t w' := fun X w0 bc bw cap' hX => by
        have e := field_calls ⟨bs, h, 0, 0⟩ hX (k + 1 + j) hq (show 0 ≤ h.to by omega) (show h.to ≤ h.size by omega) o2 (show 0 ≤ h.bottom by omega) o9 (show h.top ≤ (bs.length : Int) by omega) hN8 (show (0 : Int) ≤ 0 by omega) (show (0 : Int) ≤ 60000 by omega) (show (0 : Int) ≤ 0 by omega) (show (0 : Int) ≤ 60000 by omega) hmv
        rw [show ((k + 1 + j : Nat) : Int) = (k : Int) + 1 + (j : Int) from rfl] at e
        exact e
      have hlen := fieldZ_len ⟨bs, h, 0, 0⟩ (k + 1 + j)
      generalize fieldZ ⟨bs, h, 0, 0⟩ (k + 1 + j) = R at *
      obtain ⟨o, s1⟩ := R
      dsimp only at hlen SFd IFd
      cases o with
      | none =>
        exact ⟨[], _, _, _, by simp, fun B g W hs => (sField_full g 0 bs.length bs.length h x j W k hkN (HG B g W hs) (bs.getD k 0) (S.getD k 0) (HF B g W hs) hdh (by omega) (by omega) hd (by omega) (SOk B g W hs) STg (SRt B g W hs) SNum ⟨bs, h, 0, 0⟩ s1 (SOp B g W hs) (fun X w0 bm bw cap' hX => (SFd X w0 bm bw cap' hX).mono (by rintro e w' ⟨⟨z, hz, -⟩, hW⟩; exact ⟨⟨z, hz⟩, hW⟩))).mono (fun _ _ => told_none), fun B g W hs => (iField_full g 0 bs.length bs.length h x j W bs S k hkN (S.getD k 0) rfl (by omega) (by omega) hd (by omega) hN8 (by omega) ⟨bs, h, 0, 0⟩ s1 (ILg B g W hs) (ILd g) INum (IOp B g W hs) IFd).mono (fun _ _ => told_none)⟩
      | some u =>
        refine ⟨s1.ws, { s1.h with touched := touchZ s1 }, u, true, by omega, fun B g W hs => (sField_good g 0 bs.length bs.length h x j W k hkN (HG B g W hs) (bs.getD k 0) (S.getD k 0) (HF B g W hs) hdh (by omega) (by omega) hd (by omega) (SOk B g W hs) STg (SRt B g W hs) SNum ⟨bs, h, 0, 0⟩ s1 (SOp B g W hs) u (fun X w0 bm bw cap' hX => (SFd X w0 bm bw cap' hX).mono (by rintro e w' ⟨⟨z, hz, hu⟩, hW⟩; rw [hu u rfl] at hz; exact ⟨hz, hW⟩))).mono (fun _ _ h => told_some hlen h), fun B g W hs => (iField_good g 0 bs.length bs.length h x j W bs S k hkN (S.getD k 0) rfl (by omega) (by omega) hd (by omega) hN8 (by omega) u ⟨bs, h, 0, 0⟩ s1 { s1.h with touched := touchZ s1 } (ILg B g W hs) (ILd g) INum (IOp B g W hs) IFd (fun X w0 bc bw cap' hX => ?_)).mono (fun _ _ h => told_some hlen h)⟩
        have e := told_calls hX
        rw [told_touch] at e
        exact e
end Go.Proofs.Ytnoobonlmfgfhaa
