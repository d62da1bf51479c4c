/- HeapGraph: both sides answer the same, whatever they are given. -/
import Derived.Test.YtebpgglegnljgaaGrpMQ1
import Derived.Test.YtebpgglegnljgaaGrpMQ0
import Derived.Test.YtebpgglegnljgaaRows
import Derived.WalkKit
import Derived.ProofKit
import Derived.Laws.Bits64
import Derived.OwnWalk
import Derived.Deep.RegionHeld
import Derived.Test.YtebpgglegnljgaaHeapVal
import Derived.Test.YtebpgglegnljgaaSpecWkBD
import Derived.Test.YtebpgglegnljgaaStagesC
import Derived.IntWalk
namespace Go.Proofs.Ytebpgglegnljgaa
open Go.RowKit

theorem SliceR.congr {t : TypeId} {sz B : Nat} {w : World} {v : Value} {n : Nat} {F G : Nat → Value} (h : SliceR t sz B w v n F) (e : ∀ i, i < n * sz → F i = G i) : SliceR t sz B w v n G := by
  obtain ⟨ad, cap, hv, h⟩ := h
  exact ⟨ad, cap, hv, h.imp id (fun ⟨g, h1, h2, h3⟩ => ⟨g, h1, h2, h3.congr e⟩)⟩

theorem pairs_len (a b : Nat → Value) : ∀ n, ((List.range n).flatMap (fun i => [a i, b i])).length = n * 2
  | 0 => rfl
  | n + 1 => by
    rw [List.range_succ, List.flatMap_append, List.length_append, pairs_len a b n]
    simp
    omega

theorem pairs_at (a b : Nat → Value) : ∀ n c, c < n * 2 → ((List.range n).flatMap (fun i => [a i, b i])).getD c undef = if c % 2 = 0 then a (c / 2) else b (c / 2)
  | 0, c, h => by omega
  | n + 1, c, h => by
    have hl := pairs_len a b n
    rw [List.range_succ, List.flatMap_append, List.getD_eq_getElem?_getD]
    by_cases hc : c < n * 2
    · rw [List.getElem?_append_left (by omega), ← List.getD_eq_getElem?_getD]
      exact pairs_at a b n c hc
    · rw [List.getElem?_append_right (by omega), hl]
      have h2 : c = n * 2 ∨ c = n * 2 + 1 := by omega
      rcases h2 with rfl | rfl
      · rw [if_pos (by omega), show n * 2 - n * 2 = 0 by omega, show n * 2 / 2 = n by omega]
        simp
      · rw [if_neg (by omega), show n * 2 + 1 - n * 2 = 1 by omega, show (n * 2 + 1) / 2 = n by omega]
        simp

theorem words_at (ys : List Int) : ∀ i, i < ys.length → (ys.map (fun x => Value.int .i64 x)).getD i undef = intCells ys i := by
  intro i hi
  unfold intCells
  simp [List.getD, hi]

/-- The kinds and the fields that are told. -/
def kindOf (os : List (Int × List Int)) (i : Nat) : Int := (os.getD i (0, [])).1
def fieldsOf (os : List (Int × List Int)) (i : Nat) : List Int := (os.getD i (0, [])).2

/-- Objects, a list and a bool are told, in new memory. -/
def ToldG (W : World) (os : List (Int × List Int)) (ys : List Int) (ok : Bool) (e : Ending) (w' : World) : Prop :=
  (∃ v u fv, e = .returned (.tuple #[v, u, .bool ok]) ∧ ObR W.heap.size w' v os.length (kindOf os) fv (fun i => (fieldsOf os i).length) (fun i => intCells (fieldsOf os i)) ∧ SliceR 3 1 W.heap.size w' u ys.length (intCells ys)) ∧ Below W.heap.size W w'

/-- Beside: no two of its rows are one. -/
def ToldGI (W : World) (os : List (Int × List Int)) (ys : List Int) (ok : Bool) (e : Ending) (w' : World) : Prop :=
  (∃ v u fv, e = .returned (.tuple #[v, u, .bool ok]) ∧ ObR W.heap.size w' v os.length (kindOf os) fv (fun i => (fieldsOf os i).length) (fun i => intCells (fieldsOf os i)) ∧ SliceR 3 1 W.heap.size w' u ys.length (intCells ys) ∧ ObA v os.length fv (fun i => (fieldsOf os i).length) ∧ (∀ q, ObB v os.length fv (fun i => (fieldsOf os i).length) q → ys.length ≠ 0 → u.ownBlock ≠ some q)) ∧ Below W.heap.size W w'

theorem toldG_none {W w' : World} {e : Ending} (h : e = .returned (.tuple #[.slice none 0 0, .slice none 0 0, .bool false]) ∧ Below W.heap.size W w') : ToldG W [] [] false e w' :=
  ⟨⟨_, _, fun _ => .slice none 0 0, h.1, ⟨⟨none, 0, rfl, Or.inl rfl⟩, fun i hi => absurd hi (by simp)⟩, ⟨none, 0, rfl, Or.inl rfl⟩⟩, h.2⟩

theorem toldGI_none {W w' : World} {e : Ending} (h : e = .returned (.tuple #[.slice none 0 0, .slice none 0 0, .bool false]) ∧ Below W.heap.size W w') : ToldGI W [] [] false e w' :=
  ⟨⟨_, _, fun _ => .slice none 0 0, h.1, ⟨⟨none, 0, rfl, Or.inl rfl⟩, fun i hi => absurd hi (by simp)⟩, ⟨none, 0, rfl, Or.inl rfl⟩, ⟨fun i hi => absurd hi (by simp), fun i j hi => absurd hi (by simp)⟩, fun q _ h => absurd rfl h⟩, h.2⟩

/-- How many objects are told. -/
def Ends (ws xs : List Int) (K : Nat) : Prop := (∀ j, j < K → j < (graphRun ws j (tellsRun ws xs xs.length []).1).1.length) ∧ (graphRun ws K (tellsRun ws xs xs.length []).1).1.length ≤ K

theorem Ends.one {ws xs : List Int} {K K' : Nat} (h : Ends ws xs K) (h' : Ends ws xs K') : K = K' := by
  rcases Nat.lt_trichotomy K K' with hlt | rfl | hlt
  · have := h'.1 K hlt
    have := h.2
    omega
  · rfl
  · have := h.1 K' hlt
    have := h'.2
    omega

theorem ends_some {ws S xs : List Int} {h : HpN} (ok : OkHeap ws S h) (hx : ∀ i, i < xs.length → Leads ws S (xs.getD i 0)) : ∃ K, Ends ws xs K := by
  have hm := (Met.tells ok (met := []) ⟨List.nodup_nil, fun a ha => by cases ha⟩ hx xs.length (Nat.le_refl _)).1
  have hall : ∀ k, (∀ j, j < k → j < (graphRun ws j (tellsRun ws xs xs.length []).1).1.length) ∨ ∃ K, Ends ws xs K := by
    intro k
    induction k with
    | zero => exact Or.inl (fun j hj => by omega)
    | succ k ih =>
      rcases ih with ih | ih
      · by_cases hk : k < (graphRun ws k (tellsRun ws xs xs.length []).1).1.length
        · refine Or.inl (fun j hj => ?_)
          by_cases hjk : j = k
          · subst hjk
            exact hk
          · exact ih j (by omega)
        · exact Or.inr ⟨k, ih, by omega⟩
      · exact Or.inr ih
  rcases hall (ws.length + 1) with h1 | h1
  · exfalso
    have h2 := (hm.graph ok ws.length (fun j hj => h1 j (by omega))).1.short ok
    have h3 := h1 ws.length (by omega)
    omega
  · exact h1

/-- How many there are, and how many fields each has. -/
theorem graph_small {ws S : List Int} {h : HpN} {met : List Nat} (ok : OkHeap ws S h) (m : Met ws S met) : ∀ k, (∀ j, j < k → j < (graphRun ws j met).1.length) → ∀ i, i < k → (fieldsOf (graphRun ws k met).2 i).length ≤ 5
  | 0, _, i, hi => by omega
  | k + 1, hj, i, hi => by
    obtain ⟨h1, -, h3⟩ := m.graph ok k (fun j h => hj j (by omega))
    have hk := hj k (by omega)
    have hn : Node ws S ((graphRun ws k met).1.getD k 0) := h1.nodes _ (by simp [List.getD, hk])
    obtain ⟨hsz, -, hf⟩ := node_at ok hn
    obtain ⟨-, -, h6⟩ := h1.tells ok (xs := fieldsAtZ ws ((graphRun ws k met).1.getD k 0)) (fun i hi => by
      rw [fieldsAtZ_len] at hi
      rw [fieldsAtZ_get hi]
      exact hf i hi) _ (Nat.le_refl _)
    unfold fieldsOf graphRun
    dsimp only
    rw [List.getD_eq_getElem?_getD]
    by_cases hik : i < k
    · rw [List.getElem?_append_left (by omega), ← List.getD_eq_getElem?_getD]
      exact graph_small ok m k (fun j h => hj j (by omega)) i hik
    · rw [List.getElem?_append_right (by omega), show i - (graphRun ws k met).2.length = 0 by omega]
      simp only [List.getElem?_cons_zero, Option.getD_some]
      rw [h6, fieldsAtZ_len]
      omega

theorem toldG_some {ws xs : List Int} {K : Nat} (hK : Ends ws xs K) (hyl : (tellsRun ws xs xs.length []).2.length = xs.length) {W w' : World} {e : Ending} (h : SGraphTold W ws xs e w') : ToldG W (graphRun ws K (tellsRun ws xs xs.length []).1).2 (tellsRun ws xs xs.length []).2 true e w' := by
  obtain ⟨K', vo, vt, vs, h1, h2, rfl, hr, hf, ht, hb⟩ := h
  obtain rfl := hK.one ⟨h1, h2⟩
  generalize (graphRun ws K (tellsRun ws xs xs.length []).1).2 = os at *
  generalize (tellsRun ws xs xs.length []).2 = ys at *
  refine ⟨⟨vo, vt, vs, rfl, ⟨(sliceR_of_owns hr).congr (fun c hc => ?_), fun i hi => (sliceR_of_owns (hf i hi)).congr (fun c hc => ?_)⟩, ?_⟩, hb⟩
  · rw [pairs_at (fun i => .int .i64 (os.getD i (0, [])).1) vs os.length c hc]
    rfl
  · exact words_at _ c (by rw [Nat.mul_one] at hc; exact hc)
  · rw [hyl]
    exact (sliceR_of_owns ht).congr (fun c hc => words_at _ c (by omega))

theorem toldGI_some {ws xs : List Int} {K : Nat} (hK : Ends ws xs K) (hyl : (tellsRun ws xs xs.length []).2.length = xs.length) {W w' : World} {e : Ending} (h : GraphTold W ws xs e w') : ToldGI W (graphRun ws K (tellsRun ws xs xs.length []).1).2 (tellsRun ws xs xs.length []).2 true e w' := by
  obtain ⟨K', vo, gs, gt, h1, h2, rfl, hr, hf, hg, ht, hlt, hne, hb⟩ := h
  obtain rfl := hK.one ⟨h1, h2⟩
  generalize (graphRun ws K (tellsRun ws xs xs.length []).1).2 = os at *
  generalize (tellsRun ws xs xs.length []).2 = ys at *
  refine ⟨⟨vo, _, fun i => .slice (some ⟨gs i, 0, none⟩) (os.getD i (0, [])).2.length (os.getD i (0, [])).2.length, rfl, ⟨(sliceR_of_owns hr).congr (fun c hc => ?_), fun i hi => ?_⟩, ?_, ⟨fun i hi h0 e => ?_, fun i j hi hj hij h0 h0' e => ?_⟩, fun q hq h0 e => ?_⟩, hb⟩
  · unfold objCells
    rw [pairs_at (fun i => .int .i64 (os.getD i (0, [])).1) (fun i => .slice (some ⟨gs i, 0, none⟩) (os.getD i (0, [])).2.length (os.getD i (0, [])).2.length) os.length c hc]
    rfl
  · obtain ⟨f1, f2, -, -⟩ := hf i hi
    exact ⟨_, _, rfl, Or.inr ⟨gs i, rfl, f2, by rw [Nat.mul_one]; exact f1⟩⟩
  · rw [hyl]
    exact ⟨_, _, rfl, Or.inr ⟨gt, rfl, hlt, by rw [Nat.mul_one]; exact ht⟩⟩
  · obtain ⟨-, -, f3, -⟩ := hf i hi
    exact f3 e.symm
  · have e1 : gs i = gs j := Option.some.inj e
    rcases Nat.lt_or_gt_of_ne hij with hlt2 | hlt2
    · exact hg i j hlt2 hj e1
    · exact hg j i hlt2 hi e1.symm
  · have e1 : gt = q := Option.some.inj e
    subst e1
    rcases hq with ⟨-, h3⟩ | ⟨i, hi, -, h3⟩
    · exact hne h3
    · exact (hf i hi).2.2.2 (Option.some.inj h3)

theorem graph_both (bs xs : List Int) (h : HpN) (hm : bs.length ≤ 1048576) (hx : xs.length ≤ 1048576) : ∃ os ys ok, os.length ≤ 8000 ∧ (∀ i, i < os.length → (fieldsOf os i).length ≤ 5) ∧ ys.length ≤ 20 ∧
    (∀ B g B2 rg W, SliceR 3 1 B W (.slice (some ⟨g, 0, none⟩) bs.length bs.length) bs.length (intCells bs) → SliceR 3 1 B2 W (.slice (some ⟨rg, 0, none⟩) xs.length xs.length) xs.length (intCells xs) → Calls Try.prog 9 #[heapV (.slice (some ⟨g, 0, none⟩) bs.length bs.length) h, .slice (some ⟨rg, 0, none⟩) xs.length xs.length] W (ToldG W os ys ok)) ∧
    (∀ B g B2 rg W, SliceR 3 1 B W (.slice (some ⟨g, 0, none⟩) bs.length bs.length) bs.length (intCells bs) → SliceR 3 1 B2 W (.slice (some ⟨rg, 0, none⟩) xs.length xs.length) xs.length (intCells xs) → Calls Try.prog 8 #[heapV (.slice (some ⟨g, 0, none⟩) bs.length bs.length) h, .slice (some ⟨rg, 0, none⟩) xs.length xs.length] W (ToldGI W os ys ok)) := by
  by_cases ho : Ordered h bs.length
  case neg =>
    exact ⟨[], [], _, by simp, by simp, by simp, fun B g B2 rg W _ _ => (sGraph_notOk g 0 bs.length bs.length h rg xs.length xs.length W (fun X _ => specOk_bad _ _ _ h X hm ho)).mono (fun _ _ => toldG_none), fun B g B2 rg W _ _ => (iGraph_notOk g 0 bs.length bs.length h rg xs.length xs.length W (fun X _ => layOut_bad _ _ _ h X ho)).mono (fun _ _ => toldGI_none)⟩
  obtain ⟨o1, o2, o3, o4, o5, o6, o7, o8, o9, o10, o11, o12, o13⟩ := id ho
  have hN0 : bs.length ≠ 0 := by omega
  have hN8 : bs.length ≤ 8000 := by omega
  have SOk : ∀ B g W, SliceR 3 1 B W (.slice (some ⟨g, 0, none⟩) bs.length bs.length) bs.length (intCells bs) → ∀ X, Below W.heap.size W X → Calls Try.prog 35 #[heapV (.slice (some ⟨g, 0, none⟩) bs.length bs.length) h] X fun e w' => e = .returned (.bool (specOk bs h)) ∧ Below X.heap.size X w' := fun B g W hs X hX =>
    specOk_calls g 0 bs.length bs.length bs h X rfl ho (row_kept hN0 hs hX).1 (row_kept hN0 hs hX).2
  have ILy : ∀ B g W, SliceR 3 1 B W (.slice (some ⟨g, 0, none⟩) bs.length bs.length) bs.length (intCells bs) → ∀ X, Below W.heap.size W X → Calls Try.prog 30 #[heapV (.slice (some ⟨g, 0, none⟩) bs.length bs.length) h] X (LayTold g 0 bs.length bs.length bs h X) := fun B g W hs X hX =>
    layOut_calls g 0 bs.length bs.length bs h X rfl ho (Nat.le_refl _) (row_kept hN0 hs hX).1 (row_kept hN0 hs hX).2
  cases hk : specOk bs h with
  | false =>
    have hki : implOk bs h = false := by rw [← ok_same ho]; exact hk
    rw [hk] at SOk
    refine ⟨[], [], _, by simp, by simp, by simp, fun B g B2 rg W hs _ => (sGraph_notOk g 0 bs.length bs.length h rg xs.length xs.length W (SOk B g W hs)).mono (fun _ _ => toldG_none), fun B g B2 rg W hs _ => (iGraph_notOk g 0 bs.length bs.length h rg xs.length xs.length W (fun X hX => (ILy B g W hs X hX).mono ?_)).mono (fun _ _ => toldGI_none)⟩
    rintro e w' ⟨hres, hb'⟩
    rcases hres with ⟨_, e1⟩ | ⟨S, gb, _, e2, _⟩
    · exact ⟨e1, hb'⟩
    · rw [hki] at e2
      cases e2
  | true =>
    have hki : implOk bs h = true := by rw [← ok_same ho]; exact hk
    rw [hk] at SOk
    obtain ⟨S, ok⟩ := ok_facts ho hk
    have ILg : ∀ B g W, SliceR 3 1 B W (.slice (some ⟨g, 0, none⟩) bs.length bs.length) bs.length (intCells bs) → ∀ X, Below W.heap.size W X → Calls Try.prog 30 #[heapV (.slice (some ⟨g, 0, none⟩) bs.length bs.length) h] X fun e w' => ∃ gb, e = .returned (.tuple #[layV (.slice (some ⟨g, 0, none⟩) bs.length bs.length) h (.slice (some ⟨gb, 0, none⟩) bs.length bs.length), .bool true]) ∧ Hid (ISt g 0 gb bs.length bs S w') ∧ Below X.heap.size X w' := fun B g W hs X hX => (ILy B g W hs X hX).mono (by
      rintro e w' ⟨hres, hb'⟩
      rcases hres with ⟨e1, _⟩ | ⟨S', gb, e1, _, e2, _, e3⟩
      · rw [hki] at e1
        cases e1
      · rw [ok.impl] at e1
        cases e1
        exact ⟨gb, e2, e3, hb'⟩)
    have IRt : ∀ g B2 rg W, SliceR 3 1 B2 W (.slice (some ⟨rg, 0, none⟩) xs.length xs.length) xs.length (intCells xs) → ∀ (X : World) (gb : Nat), Below W.heap.size W X → ISt g 0 gb bs.length bs S X → Calls Try.prog 31 #[layV (.slice (some ⟨g, 0, none⟩) bs.length bs.length) h (.slice (some ⟨gb, 0, none⟩) bs.length bs.length), .slice (some ⟨rg, 0, none⟩) xs.length xs.length] X fun e w' => e = .returned (.bool (decide (xs.length ≤ 20) && implRoots S h xs)) ∧ Below X.heap.size X w' := fun g B2 rg W hr X gb hX hI => rootsOk_calls (some ⟨rg, 0, none⟩) xs.length g 0 bs.length gb bs.length bs S h xs X ho hI (hr.below hX).intSlice hx
    by_cases hn : xs.length ≤ 20
    case neg =>
      rw [decide_eq_false hn, Bool.false_and] at IRt
      exact ⟨[], [], _, by simp, by simp, by simp, fun B g B2 rg W hs _ => (sGraph_many g 0 bs.length bs.length h rg xs.length xs.length W (by omega) (SOk B g W hs)).mono (fun _ _ => toldG_none), fun B g B2 rg W hs hr => (iGraph_noRoot g 0 bs.length bs.length h rg xs.length xs.length W bs S (ILg B g W hs) (IRt g B2 rg W hr)).mono (fun _ _ => toldGI_none)⟩
    have hn2 : ¬ (20 : Int) < (xs.length : Int) := by omega
    rw [decide_eq_true hn, Bool.true_and] at IRt
    have SRt : ∀ B g B2 rg W, SliceR 3 1 B W (.slice (some ⟨g, 0, none⟩) bs.length bs.length) bs.length (intCells bs) → SliceR 3 1 B2 W (.slice (some ⟨rg, 0, none⟩) xs.length xs.length) xs.length (intCells xs) → ∀ X, Below W.heap.size W X → Calls Try.prog 36 #[heapV (.slice (some ⟨g, 0, none⟩) bs.length bs.length) h, .slice (some ⟨rg, 0, none⟩) xs.length xs.length] X fun e w' => e = .returned (.bool (specRoots bs S h xs)) ∧ Below X.heap.size X w' := fun B g B2 rg W hs hr X hX => specRoots_calls g 0 bs.length bs.length bs S h _ xs X rfl ho ok.spec (row_kept hN0 hs hX).1 (row_kept hN0 hs hX).2 (hr.below hX).intSlice hn
    have hsame : specRoots bs S h xs = implRoots S h xs := (roots_same ok xs).symm
    have hsame2 := hsame
    rw [hsame] at SRt
    cases hro : implRoots S h xs with
    | false =>
      rw [hro] at SRt IRt
      exact ⟨[], [], _, by simp, by simp, by simp, fun B g B2 rg W hs hr => (sGraph_noRoot g 0 bs.length bs.length h rg xs.length xs.length W hn2 (SOk B g W hs) (SRt B g B2 rg W hs hr)).mono (fun _ _ => toldG_none), fun B g B2 rg W hs hr => (iGraph_noRoot g 0 bs.length bs.length h rg xs.length xs.length W bs S (ILg B g W hs) (IRt g B2 rg W hr)).mono (fun _ _ => toldGI_none)⟩
    | true =>
      rw [hro] at SRt IRt hsame2
      have hle : ∀ i, i < xs.length → Leads bs S (xs.getD i 0) := fun i hi => by
        unfold specRoots at hsame2
        rw [List.all_eq_true] at hsame2
        exact leads_of (hsame2 i (List.mem_range.2 hi))
      obtain ⟨K, hK⟩ := ends_some ok hle
      have ht := Met.tells ok (met := []) ⟨List.nodup_nil, fun a ha => by cases ha⟩ hle xs.length (Nat.le_refl _)
      have hyl := ht.2.2
      have hg := ht.1.graph ok K hK.1
      have hKN : (graphRun bs K (tellsRun bs xs xs.length []).1).2.length ≤ 8000 := by
        rw [hg.2.2]
        by_cases h0 : K = 0
        · omega
        · have h1 := hK.1 (K - 1) (by omega)
          have h2 := (ht.1.graph ok (K - 1) (fun j hj => hK.1 j (by omega))).1.short ok
          omega
      have HW : ∀ B g W, SliceR 3 1 B W (.slice (some ⟨g, 0, none⟩) bs.length bs.length) bs.length (intCells bs) → Wds g 0 bs.length bs W := fun B g W hs => ⟨rfl, (row_kept hN0 hs (Below.refl _ _)).1, (row_kept hN0 hs (Below.refl _ _)).2⟩
      have HLs : ∀ B2 rg W, SliceR 3 1 B2 W (.slice (some ⟨rg, 0, none⟩) xs.length xs.length) xs.length (intCells xs) → ListAt rg 0 xs W := fun B2 rg W hr => ⟨fun h0 => (row_kept (by omega) hr (Below.refl _ _)).1, fun k hk => (row_kept (by omega) hr (Below.refl _ _)).2 k hk⟩
      refine ⟨_, _, true, hKN, fun i hi => graph_small ok ht.1 K hK.1 i (by rw [hg.2.2] at hi; exact hi), by rw [hyl]; exact hn, fun B g B2 rg W hs hr => (sGraph_good g 0 bs.length bs.length h rg xs.length xs.length W bs S xs ok (HW B g W hs) hN8 (HLs B2 rg W hr) rfl hn hle (SOk B g W hs) (SRt B g B2 rg W hs hr)).mono (fun _ _ => toldG_some hK hyl), fun B g B2 rg W hs hr => (iGraph_good g 0 bs.length bs.length h rg xs.length xs.length W bs S xs ok (HW B g W hs) hN8 (Nat.le_refl _) (HLs B2 rg W hr) rfl hn hle (ILg B g W hs) (IRt g B2 rg W hr)).mono (fun _ _ => toldGI_some hK hyl)⟩
end Go.Proofs.Ytebpgglegnljgaa

/- From a heap that may be to one that may be: what roots lead to is the same. -/
namespace Go.Proofs.Ytebpgglegnljgaa
open Go.RowKit

/-- Roots lead to the same. -/
def SameG (ws xs ws' xs' : List Int) : Prop := xs'.length = xs.length ∧ ∃ (P : Nat → Prop) (f : Nat → Nat), Iso P ws ws' f ∧ ∀ i, i < xs.length → WordR P ws ws' f (xs.getD i 0) (xs'.getD i 0)

theorem SameG.told {ws xs ws' xs' : List Int} (h : SameG ws xs ws' xs') : (tellsRun ws' xs' xs'.length []).2 = (tellsRun ws xs xs.length []).2 ∧ ∀ K, Ends ws xs K → Ends ws' xs' K ∧ (graphRun ws' K (tellsRun ws' xs' xs'.length []).1).2 = (graphRun ws K (tellsRun ws xs xs.length []).1).2 := by
  obtain ⟨hl, P, f, iso, hw⟩ := h
  obtain ⟨t1, t2⟩ := tells_same (xs := xs) (xs' := xs') iso (met := []) (fun a ha => by cases ha) xs.length hw
  rw [List.map_nil] at t1
  rw [hl, t1]
  refine ⟨rfl, fun K hK => ?_⟩
  have g := fun k hk => graph_same iso t2 k hk
  refine ⟨⟨fun j hj => ?_, ?_⟩, ?_⟩
  · rw [hl, t1]
    dsimp only
    rw [(g j (fun i hi => hK.1 i (by omega))).1]
    dsimp only
    rw [List.length_map]
    exact hK.1 j hj
  · rw [hl, t1]
    dsimp only
    rw [(g K hK.1).1]
    dsimp only
    rw [List.length_map]
    exact hK.2
  · dsimp only
    rw [(g K hK.1).1]

theorem used_iff {ws S : List Int} {h : HpN} (ok : OkHeap ws S h) (x : Int) : wordOkZ S h x = true ↔ Led S h ws.length False x := by
  rw [used_same ok]
  constructor
  · intro e
    refine ⟨fun hx => ?_, fun hx => ?_⟩
    · unfold specLeads at e
      rw [if_pos hx] at e
      exact of_decide_eq_true e
    · obtain ⟨a1, a2, a3, a4⟩ := specLeads_at hx e
      rcases a4 with ⟨a4, -⟩ | ⟨-, a4⟩
      · exact ⟨a1, a2, a3, Or.inl (ins_iff.2 (by rw [Int.toNat_of_nonneg a1]; exact a4))⟩
      · cases a4
  · intro l
    by_cases hx : x % 8 = 0
    · obtain ⟨l1, l2, l3, l4⟩ := l.2 hx
      have hi := l4.resolve_right id
      refine specLeads_mk hx l1 l2 l3 (Or.inl ⟨?_, used_stays ok l3 (ins_iff.1 hi)⟩)
      have := ins_iff.1 hi
      rw [Int.toNat_of_nonneg l1] at this
      exact this
    · unfold specLeads
      rw [if_pos hx]
      exact decide_eq_true (l.1 hx)

/-- What is known is what a heap that may be asks. -/
theorem dyn_norm {c : Prop} {S ws : List Int} {h : HpN} (d : Dyn c S ws h) : ∃ S', Dyn (h.scan < h.bottom) S' ws h ∧ (∀ N x, Led S h N False x → Led S' h N False x) ∧ ∀ a, InS h a → S'.getD a 0 = S.getD a 0 := by
  by_cases hb : h.scan < h.bottom
  · exact ⟨S, d.of_iff ⟨fun _ => hb, fun _ => (d.scan hb).2⟩, fun _ _ l => l, fun _ _ => rfl⟩
  · exact ⟨dropS S h, (dyn_drop d hb).of_iff ⟨fun k => k.elim, fun k => hb k⟩, fun _ _ l => l.drop, fun _ hi => dropS_in hi⟩

/-- Looking through, from a heap that may be on. -/
structure Phase (S ws : List Int) (h : HpN) (c : Prop) (S1 ws1 : List Int) (h1 : HpN) (f : Nat → Nat) : Prop where
  dyn : Dyn c S1 ws1 h1
  len : ws1.length = ws.length
  iso : Iso (Node ws S) ws ws1 f
  node : ∀ a, Node ws S a → Node ws1 S1 (f a)
  word : ∀ x, Pts S ws.length x → WordR (Node ws S) ws ws1 f x x
  num : h1 = { h with bottom := h1.bottom, scan := h1.scan }
  ext : ∀ a : Nat, S.getD a 0 ≠ 0 → S1.getD a 0 = S.getD a 0

theorem Step.phase {S ws : List Int} {h : HpN} {S' ws' : List Int} {h' : HpN} {f : Nat → Nat} (s : Step S ws h S' ws' h' f) : Phase S ws h True S' ws' h' f := ⟨s.dyn, s.len, s.iso, s.node, s.word, s.num, s.ext⟩

theorem phase_same {c : Prop} {S ws : List Int} {h : HpN} (d : Dyn c S ws h) : Phase S ws h c S ws h id := by
  refine ⟨d, rfl, ⟨fun _ _ => rfl, fun a ha i h1 h2 => ?_, fun _ _ _ _ e => e⟩, fun _ ha => ha, fun x hx => d.same hx, rfl, fun _ _ => rfl⟩
  have e := d.head ha.here
  exact d.same (d.flds a ha.here ha.kind i h1 (by omega)).pts

theorem Phase.led {S ws : List Int} {h : HpN} {c : Prop} {S1 ws1 : List Int} {h1 : HpN} {f : Nat → Nat} (p : Phase S ws h c S1 ws1 h1 f) {x : Int} (l : Led S h ws.length False x) : Led S1 h1 ws1.length False x := by
  rw [p.len]
  refine l.mono (fun a ha => by rw [p.ext a ha]; exact ha) (fun a ha => ha.imp (fun k => ?_) id)
  rw [p.num]
  exact k

theorem phase_scans {ws S : List Int} {h : HpN} (ok : OkHeap ws S h) {m : Nat} {s1 : CN} (he : scanRun m ⟨ws, h, 0, 0⟩ = some s1) : ∃ c S1 f, Phase S ws h c S1 s1.ws s1.h f := by
  by_cases hb : h.scan < h.bottom
  · obtain ⟨S1, f, t⟩ := dyn_scans (s := ⟨ws, h, 0, 0⟩) ((dyn_of_ok ok).of_iff ⟨fun _ => trivial, fun _ => hb⟩) m s1 he
    exact ⟨True, S1, f, t.phase⟩
  · have o := ok.ord
    obtain ⟨o1, o2, o3, o4, o5, o6, o7, o8, -⟩ := o
    have e := scanRun_end (s := ⟨ws, h, 0, 0⟩) (k := 0) rfl (by dsimp only; omega) m
    rw [Nat.zero_add, he] at e
    cases e
    exact ⟨_, S, id, phase_same (dyn_of_ok ok)⟩

/-- The heap may be again, roots lead to objects in use, and to the same as before. -/
structure StillOk (ws xs ws' xs' : List Int) (S' : List Int) (h' : HpN) : Prop where
  len : ws'.length = ws.length
  same : SameG ws xs ws' xs'
  ok : OkHeap ws' S' h'
  roots : ∀ i, i < xs'.length → wordOkZ S' h' (xs'.getD i 0) = true

theorem keep_scan {ws S xs : List Int} {h : HpN} (ok : OkHeap ws S h) (hx : ∀ i, i < xs.length → wordOkZ S h (xs.getD i 0) = true) {m : Nat} {s1 : CN} (he : scanRun m ⟨ws, h, 0, 0⟩ = some s1) {t : Int} (ht : 0 ≤ t) : ∃ S', StillOk ws xs s1.ws xs S' { s1.h with touched := t } := by
  obtain ⟨c, S1, f, p⟩ := phase_scans ok he
  obtain ⟨S2, d2, l2, -⟩ := dyn_norm (p.dyn.touch ht)
  have ok2 := ok_of_dyn d2
  refine ⟨S2, p.len, ⟨rfl, _, f, p.iso, fun i hi => p.word _ ((used_iff ok _).1 (hx i hi)).pts⟩, ok2, fun i hi => ?_⟩
  rw [used_iff ok2]
  exact l2 _ _ (p.led ((used_iff ok _).1 (hx i hi)))

/-- Words are moved behind a change of spaces. -/
theorem flip_moves {ws S : List Int} {h : HpN} {c : Prop} (d : Dyn c S ws h) (hb : ¬ h.scan < h.bottom) (hf : h.flips < 4000000000) {xs : List Int} (hx : ∀ i, i < xs.length → Led S h ws.length False (xs.getD i 0)) {r t : Int} {ys : List Int} {s' : CN} (he : movesRun xs xs.length ⟨ws, flipH h, r, t⟩ = some (ys, s')) : ∃ S' f, MovesT (dropS S h) ⟨ws, flipH h, r, t⟩ xs xs.length ys S' s' f :=
  dyn_moves (s := ⟨ws, flipH h, r, t⟩) (dyn_flip d hb hf) (fun i hi => (hx i hi).drop.pts) xs.length (Nat.le_refl _) ys s' he

theorem keep_flip {ws S xs : List Int} {h : HpN} (ok : OkHeap ws S h) (hx : ∀ i, i < xs.length → wordOkZ S h (xs.getD i 0) = true) (hb : h.scan = h.bottom) (hf : h.flips < 4000000000) {r t : Int} {ys : List Int} {s' : CN} (he : movesRun xs xs.length ⟨ws, flipH h, r, t⟩ = some (ys, s')) {t' : Int} (ht : 0 ≤ t') : ∃ S', StillOk ws xs s'.ws ys S' { s'.h with touched := t' } ∧ s'.h.flips = h.flips + 1 := by
  have d := dyn_of_ok ok
  have o := ok.ord
  obtain ⟨o1, o2, o3, o4, o5, -⟩ := o
  obtain ⟨S1, f, m⟩ := flip_moves d (by omega) hf (fun i hi => (used_iff ok _).1 (hx i hi)) he
  have m1 := m.step
  have m2 := m.done
  dsimp only at m1 m2
  obtain ⟨S2, d2, l2, -⟩ := dyn_norm (m1.dyn.touch ht)
  have ok2 := ok_of_dyn d2
  refine ⟨S2, ⟨m1.len, ⟨m.len, _, f, m1.iso, fun i hi => (m2 i hi).2⟩, ok2, fun i hi => ?_⟩, ?_⟩
  · rw [used_iff ok2, m1.len]
    exact l2 _ _ ((m2 i (by rw [← m.len]; exact hi)).1.mono (fun _ k => k) (fun _ k => k))
  · rw [m1.num]
    unfold flipH
    dsimp only
    unfold wrap64
    omega

/-- What making an object leaves. -/
structure Made (ws xs : List Int) (h : HpN) (n : Nat) (ys : List Int) (s' : CN) (t : Int) (S' : List Int) : Prop where
  still : StillOk ws xs s'.ws ys S' { s'.h with touched := t }
  word : wordOkZ S' { s'.h with touched := t } (8 * s'.h.top) = true
  size : S'.getD s'.h.top.toNat 0 = n
  flips : s'.h.flips ≤ h.flips + 1

theorem put_made {ws xs S S1 : List Int} {h : HpN} {c : Prop} {s1 s' : CN} {n : Nat} {ys : List Int} {P : Nat → Prop} {f : Nat → Nat} {t : Int} (hn : n ≠ 0) (ht : 0 ≤ t) (hl : s1.ws.length = ws.length) (hy : ys.length = xs.length) (p : PutT c S1 s1 n S s') (iso : Iso P ws s1.ws f) (hp : ∀ a, P a → Node s1.ws S1 (f a)) (hw : ∀ i, i < xs.length → Led S1 s1.h s1.ws.length False (ys.getD i 0) ∧ WordR P ws s1.ws f (xs.getD i 0) (ys.getD i 0)) (hf : s1.h.flips ≤ h.flips + 1) : ∃ S', Made ws xs h n ys s' t S' := by
  obtain ⟨S2, d2, l2, g2⟩ := dyn_norm (p.dyn.touch ht)
  have ok2 := ok_of_dyn d2
  have hlen : s'.ws.length = ws.length := p.len.trans hl
  obtain ⟨o1, o2, o3, o4, o5, o6, o7, o8, o9, o10, o11, o12, o13⟩ := id p.dyn.ord
  have hS : S.getD s'.h.top.toNat 0 ≠ 0 := by rw [p.new]; omega
  have hbe := p.dyn.below hS
  have h3 := p.dyn.three hS
  have hin : InS s'.h s'.h.top.toNat := p.inn
  have led : ∀ x, Led S1 s1.h s1.ws.length False x → Led S2 { s'.h with touched := t } s'.ws.length False x := fun x l => by
    refine l2 _ _ ?_
    rw [p.len]
    refine l.mono (fun a ha => by rw [p.ext a ha]; exact ha) (fun a ha => ha.imp (fun k => ?_) id)
    rw [p.num]
    exact k
  refine ⟨S2, ⟨⟨hlen, ⟨hy, P, _, iso.comp p.iso hp, fun i hi => (hw i hi).2.comp (p.word _ (hw i hi).1.pts)⟩, ok2, fun i hi => ?_⟩, ?_, ?_, ?_⟩⟩
  · rw [used_iff ok2]
    exact led _ (hw i (by omega)).1
  · rw [used_iff ok2]
    refine l2 _ _ ⟨fun k => absurd (by omega) k, fun _ => ?_⟩
    rw [show 8 * s'.h.top / 8 = s'.h.top by omega]
    exact ⟨by omega, by omega, hS, Or.inl hin⟩
  · rw [g2 _ hin]
    exact p.new
  · rw [p.num]
    exact hf

set_option maxHeartbeats 1000000 in
theorem keep_make {ws S xs fs : List Int} {h : HpN} (ok : OkHeap ws S h) (hx : ∀ i, i < xs.length → wordOkZ S h (xs.getD i 0) = true) (hfs : ∀ i, i < fs.length → wordOkZ S h (fs.getD i 0) = true) {kind : Int} (hk : fieldsZ kind = fs.length) (hn : fs.length = 2 ∨ fs.length = 5) (h0 : 0 ≤ kind) (h15 : kind < 15) (hf : h.flips < 4000000000) {m : Nat} {ys : List Int} {s' : CN} (he : makeRun xs fs kind m ⟨ws, h, 0, 0⟩ = some (ys, s')) {t : Int} (ht : 0 ≤ t) : ∃ S', Made ws xs h (1 + fs.length) ys s' t S' := by
  unfold makeRun at he
  have lx := fun i hi => (used_iff ok _).1 (hx i hi)
  have lf := fun i hi => (used_iff ok _).1 (hfs i hi)
  cases h1 : scanRun m ⟨ws, h, 0, 0⟩ with
  | none => rw [h1] at he; cases he
  | some s1 =>
    rw [h1] at he
    dsimp only at he
    obtain ⟨c, S1, f, p⟩ := phase_scans ok h1
    have hfl : s1.h.flips = h.flips := by rw [p.num]
    by_cases hr : s1.h.top - s1.h.bottom < (1 + fs.length : Nat)
    · rw [if_pos hr] at he
      by_cases hb : s1.h.scan = s1.h.bottom
      · rw [if_pos hb] at he
        cases h2 : movesRun xs xs.length { s1 with h := flipH s1.h } with
        | none => rw [h2] at he; cases he
        | some q =>
          obtain ⟨ys', s2⟩ := q
          rw [h2] at he
          dsimp only at he
          cases h3 : movesRun fs fs.length s2 with
          | none => rw [h3] at he; cases he
          | some q3 =>
            obtain ⟨fs', s3⟩ := q3
            rw [h3] at he
            dsimp only at he
            by_cases hr2 : s3.h.top - s3.h.bottom < (1 + fs.length : Nat)
            · rw [if_pos hr2] at he
              cases he
            · rw [if_neg hr2] at he
              cases he
              obtain ⟨S2, f2, m2⟩ := flip_moves p.dyn (by omega) (by omega) (fun i hi => p.led (lx i hi)) h2
              have m2s := m2.step
              have m2d := m2.done
              dsimp only at m2s m2d
              have pf : ∀ i, i < fs.length → Pts S2 s2.ws.length (fs.getD i 0) := fun i hi => by
                rw [m2s.len]
                exact m2s.pts (p.led (lf i hi)).drop.pts
              obtain ⟨S3, f3, m3⟩ := dyn_moves m2s.dyn pf fs.length (Nat.le_refl _) fs' s3 h3
              have hfl' := m3.len
              obtain ⟨S4, pt⟩ := dyn_put (fs := fs') (kind := kind) m3.step.dyn (by rw [hfl']; exact hk) (by rw [hfl']; exact hn) h0 h15 (by rw [hfl']; exact hr2) (fun i hi => by rw [m3.step.len]; exact (m3.done i (by omega)).1)
              rw [hfl'] at pt
              have hnb : ¬ s1.h.scan < s1.h.bottom := by omega
              have cut := p.iso.cut (drop_closed p.dyn hnb)
              refine put_made (by omega) ht (m3.step.len.trans (m2s.len.trans p.len)) m2.len pt ((cut.comp m2s.iso (fun a ha => ha.2)).comp m3.step.iso (fun a ha => m2s.node _ ha.2)) (fun a ha => m3.step.node _ (m2s.node _ ha.2)) (fun i hi => ?_) ?_
              · obtain ⟨l2, w2⟩ := m2d i hi
                refine ⟨by rw [m3.step.len, m2s.len]; exact m3.step.led l2, ?_⟩
                have w1 := p.word _ (lx i hi).pts
                have w1' : WordR (fun a => Node ws S a ∧ Node s1.ws (dropS S1 s1.h) (f a)) ws s1.ws f (xs.getD i 0) (xs.getD i 0) := by
                  refine ⟨w1.1, fun hx8 => ?_⟩
                  obtain ⟨a1, a2, a3⟩ := w1.2 hx8
                  refine ⟨a1, ⟨a2, ?_⟩, a3⟩
                  rw [← a3]
                  exact (dyn_drop p.dyn hnb).now (((p.led (lx i hi)).drop.2 hx8).2.2.1)
                exact (w1'.comp w2).comp (m3.step.word _ (by rw [m2s.len]; exact l2.pts))
              · have e3 : s3.h.flips = s2.h.flips := by rw [m3.step.num]
                have e2 : s2.h.flips = wrap64 (s1.h.flips + 1) := by
                  rw [m2s.num]
                  rfl
                have o := ok.ord
                obtain ⟨o1, o2, o3, o4, o5, -⟩ := o
                have ew : wrap64 (s1.h.flips + 1) = s1.h.flips + 1 := by unfold wrap64; omega
                omega
      · rw [if_neg hb] at he
        cases he
    · rw [if_neg hr] at he
      cases he
      obtain ⟨S4, pt⟩ := dyn_put (fs := fs) (kind := kind) p.dyn hk hn h0 h15 hr (fun i hi => p.led (lf i hi))
      refine put_made (by omega) ht p.len rfl pt p.iso p.node (fun i hi => ⟨p.led (lx i hi), p.word _ (lx i hi).pts⟩) (by omega)

/-- What reading a field leaves. -/
structure ReadT (ws xs : List Int) (q : Nat) (y : Int) (s' : CN) (t : Int) (S' : List Int) : Prop where
  still : StillOk ws xs s'.ws xs S' { s'.h with touched := t }
  word : wordOkZ S' { s'.h with touched := t } y = true
  at_ : s'.ws.getD q 0 = y
  plain : y % 8 ≠ 0 → ws.getD q 0 = y

theorem keep_field {ws S xs : List Int} {h : HpN} (ok : OkHeap ws S h) (hx : ∀ i, i < xs.length → wordOkZ S h (xs.getD i 0) = true) {p i : Nat} (hp : S.getD p 0 ≠ 0) (hi : InS h p) (h1 : 1 ≤ i) (h2 : (i : Int) < S.getD p 0) {y : Int} {s' : CN} (he : fieldZ ⟨ws, h, 0, 0⟩ (p + i) = (some y, s')) {t : Int} (ht : 0 ≤ t) : ∃ S', ReadT ws xs (p + i) y s' t S' ∧ s'.h.flips = h.flips := by
  have lx := fun i hi => (used_iff ok _).1 (hx i hi)
  by_cases hb : h.scan < h.bottom
  · have d : Dyn True S ws h := (dyn_of_ok ok).of_iff ⟨fun _ => trivial, fun _ => hb⟩
    obtain ⟨S1, f, T⟩ := dyn_field (s := ⟨ws, h, 0, 0⟩) d hp hi h1 h2 he
    have t1 := T.step
    have t2 := T.led
    have t3 := T.word
    dsimp only at t1 t2 t3
    have ph := t1.phase
    obtain ⟨S2, d2, l2, -⟩ := dyn_norm (t1.dyn.touch ht)
    have ok2 := ok_of_dyn d2
    refine ⟨S2, ⟨⟨t1.len, ⟨rfl, _, f, t1.iso, fun i hi => t1.word _ (lx i hi).pts⟩, ok2, fun i hi => ?_⟩, ?_, T.at_, fun hy => ?_⟩, ?_⟩
    · rw [used_iff ok2]
      exact l2 _ _ (ph.led (lx i hi))
    · rw [used_iff ok2, t1.len]
      exact l2 _ _ (t2.mono (fun _ k => k) (fun _ k => k))
    · by_cases hw : ws.getD (p + i) 0 % 8 = 0
      · exact absurd (t3.2 hw).1 hy
      · exact (t3.1 hw).symm
    · rw [t1.num]
  · have d := dyn_of_ok ok
    have li := d.inner hb hp hi h1 h2
    have hl : lateZ h (ws.getD (p + i) 0) = false := by
      unfold lateZ
      by_cases hx8 : ws.getD (p + i) 0 % 8 = 0
      · obtain ⟨l1, l2, l3, l4⟩ := li.2 hx8
        have hin := l4.resolve_right id
        unfold InS at hin
        have o := ok.ord
        obtain ⟨o1, o2, o3, o4, -⟩ := o
        rw [decide_eq_true hx8, Bool.true_and, decide_eq_false_iff_not]
        omega
      · rw [decide_eq_false hx8]
        rfl
    unfold fieldZ at he
    dsimp only at he
    rw [if_pos hl] at he
    cases he
    obtain ⟨S2, d2, l2, -⟩ := dyn_norm (d.touch ht)
    have ok2 := ok_of_dyn d2
    refine ⟨S2, ⟨⟨rfl, ⟨rfl, _, id, (phase_same d).iso, fun i hi => (phase_same d).word _ (lx i hi).pts⟩, ok2, fun i hi => ?_⟩, ?_, rfl, fun _ => rfl⟩, rfl⟩
    · rw [used_iff ok2]
      exact l2 _ _ (lx i hi)
    · rw [used_iff ok2]
      exact l2 _ _ li
end Go.Proofs.Ytebpgglegnljgaa

/- A number drawn out of bytes is from 0 on and below its bound. -/
namespace Go.Proofs.Ytebpgglegnljgaa
open Go.RowKit

structure Picked (B : Nat) (p : Nat) (w w' : World) : Prop where
  cell0 : w'.cell? ⟨B, 0, none⟩ = w.cell? ⟨B, 0, none⟩
  cell1 : w'.cell? ⟨B, 1, none⟩ = some (.int .i64 ((p : Int) + 1))
  frozen : w'.frozen? ⟨B, 1, none⟩ = w.frozen? ⟨B, 1, none⟩
  other : ∀ a : Addr, a.block ≠ B → w'.cell? a = w.cell? a
  below : ∀ n, n ≤ B → Below n w w'
  how : w' = w.setCell ⟨B, 1, none⟩ (.int .i64 ((p : Int) + 1)) ∨ w' = (w.setCell ⟨B, 1, none⟩ (.int .i64 ((p : Int) + 1))).drew

theorem picked_set (B p : Nat) (w : World) (h1 : w.cell? ⟨B, 1, none⟩ = some (.int .i64 p)) : Picked B p w (w.setCell ⟨B, 1, none⟩ (.int .i64 ((p : Int) + 1))) where
  cell0 := by simp [go_sem]
  cell1 := World.cell?_setCell_same' _ _ _ (by rw [h1]; rfl)
  frozen := by simp
  other := fun a ha => World.cell?_of_block (w := w) (Below.heap_setCell w _ _ a.block ha)
  below := fun n hn => (Below.refl n w).setCell hn _
  how := Or.inl rfl

theorem picked_drew (B p : Nat) (w : World) (h1 : w.cell? ⟨B, 1, none⟩ = some (.int .i64 p)) : Picked B p w (w.setCell ⟨B, 1, none⟩ (.int .i64 ((p : Int) + 1))).drew where
  cell0 := (picked_set B p w h1).cell0
  cell1 := (picked_set B p w h1).cell1
  frozen := (picked_set B p w h1).frozen
  other := (picked_set B p w h1).other
  below := fun n hn => ((picked_set B p w h1).below n hn).drew
  how := Or.inr rfl

theorem xor_i64 (a b : Nat) (ha : a < 4611686018427387904) (hb : b < 4611686018427387904) :
    bits .xor .i64 (a : Int) (b : Int) = ((a ^^^ b : Nat) : Int) := by
  have hx : a ^^^ b < 2 ^ 62 := Nat.xor_lt_two_pow (by omega) (by omega)
  have h1 : (BitVec.ofInt 64 (a : Int)).toNat = a := by
    rw [BitVec.ofInt_natCast, BitVec.toNat_ofNat]; exact Nat.mod_eq_of_lt (by omega)
  have h2 : (BitVec.ofInt 64 (b : Int)).toNat = b := by
    rw [BitVec.ofInt_natCast, BitVec.toNat_ofNat]; exact Nat.mod_eq_of_lt (by omega)
  show IntKind.i64.wrap ((BitVec.ofInt 64 (a : Int) ^^^ BitVec.ofInt 64 (b : Int)).toNat : Int) = _
  rw [BitVec.toNat_xor, h1, h2, IntKind.wrap_i64]
  omega

def PickPost (B p : Nat) (n : Int) (w : World) (e : Ending) (w' : World) : Prop :=
  (∃ r, e = .returned (.int .i64 r) ∧ 0 ≤ r ∧ (0 < n → r < n)) ∧ Picked B p w w'

set_option maxRecDepth 100000 in
theorem pick_none (B : Nat) (a0 : Option Addr) (len cap : Nat) (p : Nat) (n : Int) (w : World)
    (h0 : w.cell? ⟨B, 0, none⟩ = some (.slice a0 len cap)) (h1 : w.cell? ⟨B, 1, none⟩ = some (.int .i64 p))
    (hfz : w.frozen? ⟨B, 1, none⟩ = false) (hp : p ≤ 1000000) (hn : n < 1 ∨ len = 0) :
    Calls Try.prog 28 #[.pointer (some ⟨B, 0, none⟩), .int .i64 n] w (PickPost B p n w) := by
  have hn' : n < 1 ∨ ((len : Int) == 0) = true := by
    rcases hn with h | h
    · exact Or.inl h
    · exact Or.inr (by simp [h])
  rcases hn' with hn' | hn'
  all_goals
    go_enter Try.func28, Try.ntmps28
    go_wp2
    all_goals
      go_ret
      exact ⟨⟨0, rfl, Int.le_refl _, fun h => h⟩, picked_set B p w h1⟩

set_option maxRecDepth 100000 in
theorem pick_near (B b off : Nat) (len cap : Nat) (p : Nat) (z n : Int) (w : World)
    (h0 : w.cell? ⟨B, 0, none⟩ = some (.slice (some ⟨b, off, none⟩) len cap)) (h1 : w.cell? ⟨B, 1, none⟩ = some (.int .i64 p))
    (hfz : w.frozen? ⟨B, 1, none⟩ = false) (hp : p ≤ 1000000) (hn : 1 ≤ n) (hlt : p < len) (hbB : b ≠ B)
    (hz : w.cell? ⟨b, off + p, none⟩ = some (.int .u8 z)) (hz0 : 0 ≤ z) (hz1 : z ≤ 255) :
    Calls Try.prog 28 #[.pointer (some ⟨B, 0, none⟩), .int .i64 n] w (PickPost B p n w) := by
  have hl : ((len : Int) == 0) = false := by simp; omega
  go_enter Try.func28, Try.ntmps28
  go_wp2
  go_ret
  exact ⟨⟨z % n, rfl, Int.emod_nonneg _ (by omega), fun h => Int.emod_lt_of_pos _ h⟩, picked_set B p w h1⟩

theorem far_sum (z y : Int) (p len : Nat) (hp : p ≤ 1000000) (hz0 : 0 ≤ z) (hz1 : z ≤ 255) (hy0 : 0 ≤ y) (hy1 : y ≤ 255) :
    ∃ x : Nat, x ≤ 1000000000000 ∧ wrap64 (z * 131 + y * 1117 + (p : Int) * 29 + wrap64 (wrap64 ((p : Int) / (len : Int)) * 53)) = (x : Int) := by
  have hq : ((p : Int) / (len : Int)) = ((p / len : Nat) : Int) := by omega
  have hq2 : p / len ≤ p := Nat.div_le_self _ _
  rw [hq]
  generalize p / len = q at hq2
  rw [IntWalk.wrap64_in (q : Int) ⟨by omega, by omega⟩, IntWalk.wrap64_in ((q : Int) * 53) ⟨by omega, by omega⟩, IntWalk.wrap64_in _ ⟨by omega, by omega⟩]
  exact ⟨(z * 131 + y * 1117 + (p : Int) * 29 + (q : Int) * 53).toNat, by omega, by omega⟩

theorem far_nat (x : Nat) (hx : x ≤ 1000000000000) : bits .xor .i64 (x : Int) (wrap64 ((x : Int) / 64)) = ((x ^^^ (x / 64) : Nat) : Int) := by
  rw [show ((x : Int) / 64) = ((x / 64 : Nat) : Int) by omega, IntWalk.wrap64_in _ ⟨by omega, by omega⟩]
  exact xor_i64 _ _ (by omega) (by omega)

theorem far_low (x : Nat) (hx : x ≤ 1000000000000) (n : Int) : 0 ≤ (bits .xor .i64 (x : Int) (wrap64 ((x : Int) / 64))).tmod n := by
  rw [far_nat x hx]
  exact Int.tmod_nonneg _ (Int.natCast_nonneg _)

theorem far_high (x : Nat) (hx : x ≤ 1000000000000) (n : Int) (hn : 0 < n) : (bits .xor .i64 (x : Int) (wrap64 ((x : Int) / 64))).tmod n < n := by
  rw [far_nat x hx]
  exact Int.tmod_lt_of_pos _ hn

set_option maxRecDepth 100000 in
theorem pick_far (B b off : Nat) (len cap : Nat) (p : Nat) (z y n : Int) (w : World)
    (h0 : w.cell? ⟨B, 0, none⟩ = some (.slice (some ⟨b, off, none⟩) len cap)) (h1 : w.cell? ⟨B, 1, none⟩ = some (.int .i64 p))
    (hfz : w.frozen? ⟨B, 1, none⟩ = false) (hp : p ≤ 1000000) (hn : 1 ≤ n) (hl1 : 1 ≤ len) (hlt : len ≤ p) (hbB : b ≠ B)
    (i j : Nat) (hi : ((p : Int)) % (len : Int) = i) (hj : ((p : Int) * 7 + 3) % (len : Int) = j) (hil : i < len) (hjl : j < len)
    (hz : w.cell? ⟨b, off + i, none⟩ = some (.int .u8 z)) (hz0 : 0 ≤ z) (hz1 : z ≤ 255)
    (hy : w.cell? ⟨b, off + j, none⟩ = some (.int .u8 y)) (hy0 : 0 ≤ y) (hy1 : y ≤ 255) :
    Calls Try.prog 28 #[.pointer (some ⟨B, 0, none⟩), .int .i64 n] w (PickPost B p n w) := by
  have hl : ((len : Int) == 0) = false := by simp; omega
  obtain ⟨x, hx, ex⟩ := far_sum z y p len hp hz0 hz1 hy0 hy1
  have hx' : Hid (x ≤ 1000000000000) := hx
  have ex' : Hid (wrap64 (z * 131 + y * 1117 + (p : Int) * 29 + wrap64 (wrap64 ((p : Int) / (len : Int)) * 53)) = (x : Int)) := ex
  clear ex hx
  go_enter Try.func28, Try.ntmps28
  go_wp2
  go_region
  rw [ex'.out]
  go_wp2
  go_ret
  refine ⟨⟨_, rfl, ?_, ?_⟩, picked_drew B p w h1⟩
  · exact far_low x hx'.out n
  · exact far_high x hx'.out n

theorem pick_calls (B : Nat) (a0 : Option Addr) (len cap : Nat) (p : Nat) (n : Int) (w : World)
    (h0 : w.cell? ⟨B, 0, none⟩ = some (.slice a0 len cap)) (h1 : w.cell? ⟨B, 1, none⟩ = some (.int .i64 p))
    (hfz : w.frozen? ⟨B, 1, none⟩ = false) (hp : p ≤ 1000000)
    (hc : 0 < len → ∃ b off, a0 = some ⟨b, off, none⟩ ∧ b ≠ B ∧ ∀ i, i < len → ∃ z, w.cell? ⟨b, off + i, none⟩ = some (.int .u8 z) ∧ 0 ≤ z ∧ z ≤ 255) :
    Calls Try.prog 28 #[.pointer (some ⟨B, 0, none⟩), .int .i64 n] w (PickPost B p n w) := by
  by_cases hn : n < 1 ∨ len = 0
  · exact pick_none B a0 len cap p n w h0 h1 hfz hp hn
  · have hl : 0 < len := by omega
    obtain ⟨b, off, rfl, hbB, hz⟩ := hc hl
    by_cases hlt : p < len
    · obtain ⟨z, hz, hz0, hz1⟩ := hz p hlt
      exact pick_near B b off len cap p z n w h0 h1 hfz hp (by omega) hlt hbB hz hz0 hz1
    · obtain ⟨z, hzc, hz0, hz1⟩ := hz (p % len) (Nat.mod_lt _ hl)
      obtain ⟨y, hyc, hy0, hy1⟩ := hz ((p * 7 + 3) % len) (Nat.mod_lt _ hl)
      exact pick_far B b off len cap p z y n w h0 h1 hfz hp (by omega) hl (by omega) hbB (p % len) ((p * 7 + 3) % len) (by omega) (by first | (push_cast; rfl) | simp)
        (Nat.mod_lt _ hl) (Nat.mod_lt _ hl) hzc hz0 hz1 hyc hy0 hy1
end Go.Proofs.Ytebpgglegnljgaa

/- The reader of drawn numbers: opened over bytes, and drawn from. -/
namespace Go.Proofs.Ytebpgglegnljgaa
open Go.RowKit

/-- A slice of bytes in a world. -/
def BytesAt (w : World) (a0 : Option Addr) (len : Nat) : Prop :=
  0 < len → ∃ b off, a0 = some ⟨b, off, none⟩ ∧ b < w.heap.size ∧ ∀ i, i < len → ∃ z, w.cell? ⟨b, off + i, none⟩ = some (.int .u8 z) ∧ 0 ≤ z ∧ z ≤ 255

set_option maxRecDepth 100000 in
theorem ropen_calls (a0 : Option Addr) (len cap : Nat) (w : World) (hlen : len ≤ 1000000000) (hb : len ≤ cap) :
    Calls Try.prog 26 #[.slice a0 len cap] w fun e w' => e = .returned (.pointer (some ⟨w.heap.size, 0, none⟩)) ∧
      ∃ n : Nat, n ≤ len ∧ w' = w.alloc (.cells #[.slice a0 n cap, .int .i64 0] 88) := by
  by_cases h : (2000 : Int) < (len : Int)
  · go_enter Try.func26, Try.ntmps26
    go_wp2
    go_ret
    exact ⟨rfl, 2000, by omega, rfl⟩
  · go_enter Try.func26, Try.ntmps26
    go_wp2
    go_ret
    exact ⟨rfl, len, Nat.le_refl _, rfl⟩

/-- The reader of bytes in block 'B', 'q' numbers drawn. -/
structure RdSt (w0 : World) (B : Nat) (a0 : Option Addr) (n cap : Nat) (q : Nat) (w' : World) : Prop where
  cell0 : w'.cell? ⟨B, 0, none⟩ = some (.slice a0 n cap)
  cell1 : w'.cell? ⟨B, 1, none⟩ = some (.int .i64 q)
  frozen : w'.frozen? ⟨B, 1, none⟩ = false
  bytes : 0 < n → ∃ b off, a0 = some ⟨b, off, none⟩ ∧ b ≠ B ∧ ∀ i, i < n → ∃ z, w'.cell? ⟨b, off + i, none⟩ = some (.int .u8 z) ∧ 0 ≤ z ∧ z ≤ 255
  low : w0.heap.size ≤ B
  below : Below w0.heap.size w0 w'

theorem RdSt.drew {w0 : World} {B : Nat} {a0 : Option Addr} {n cap : Nat} {q : Nat} {w' : World} (h : RdSt w0 B a0 n cap q w') : RdSt w0 B a0 n cap q w'.drew :=
  ⟨h.cell0, h.cell1, h.frozen, h.bytes, h.low, h.below.drew⟩

theorem rd_pick {w0 : World} {B : Nat} {a0 : Option Addr} {n cap : Nat} {q : Nat} {w' : World} (h : RdSt w0 B a0 n cap q w') (hq : q ≤ 1000) (k : Nat) (hk : 0 < k) :
    Calls Try.prog 28 #[.pointer (some ⟨B, 0, none⟩), .int .i64 k] w' fun e w2 => ∃ m : Nat, e = .returned (.int .i64 m) ∧ m < k ∧ RdSt w0 B a0 n cap (q + 1) w2 := by
  refine (pick_calls B a0 n cap q k w' h.cell0 h.cell1 h.frozen (by omega) h.bytes).mono ?_
  rintro e w2 ⟨⟨r, rfl, hr0, hr1⟩, hP⟩
  have hr1 := hr1 (by omega)
  refine ⟨r.toNat, by rw [Int.toNat_of_nonneg hr0], by omega, ?_⟩
  refine ⟨hP.cell0.trans h.cell0, by rw [hP.cell1]; push_cast; rfl, hP.frozen.trans h.frozen, ?_, h.low, h.below.trans (hP.below _ h.low)⟩
  intro hn
  obtain ⟨b, off, ea, hb, hz⟩ := h.bytes hn
  refine ⟨b, off, ea, hb, fun i hi => ?_⟩
  rw [hP.other _ hb]
  exact hz i hi

theorem rd_start (w : World) (a0 : Option Addr) (len cap n : Nat) (hn : n ≤ len) (hB : BytesAt w a0 len) :
    RdSt w w.heap.size a0 n cap 0 (w.alloc (.cells #[.slice a0 n cap, .int .i64 0] 88)) where
  cell0 := by simp [go_sem]
  cell1 := by simp [go_sem]
  frozen := by simp [go_sem]
  bytes := by
    intro h
    obtain ⟨b, off, ea, hb, hz⟩ := hB (by omega)
    refine ⟨b, off, ea, by omega, fun i hi => ?_⟩
    obtain ⟨z, hz, h0, h1⟩ := hz i (by omega)
    refine ⟨z, ?_, h0, h1⟩
    rw [← hz]
    exact (((Below.refl w.heap.size w).alloc (Nat.le_refl _) _).cell (p := ⟨b, off + i, none⟩) hb)
  low := Nat.le_refl _
  below := (Below.refl _ _).alloc (Nat.le_refl _) _

theorem rd_open (a0 : Option Addr) (len cap : Nat) (w : World) (hlen : len ≤ 1000000000) (hb : len ≤ cap) (hB : BytesAt w a0 len) :
    Calls Try.prog 26 #[.slice a0 len cap] w fun e w' => e = .returned (.pointer (some ⟨w.heap.size, 0, none⟩)) ∧
      ∃ n : Nat, n ≤ len ∧ RdSt w w.heap.size a0 n cap 0 w' := by
  refine (ropen_calls a0 len cap w hlen hb).mono ?_
  rintro e w' ⟨rfl, n, hn, rfl⟩
  exact ⟨rfl, n, hn, rd_start w a0 len cap n hn hB⟩

theorem BytesAt.below {w w' : World} {a0 : Option Addr} {len : Nat} (h : BytesAt w a0 len) (hb : Below w.heap.size w w') : BytesAt w' a0 len := by
  intro h0
  obtain ⟨b, off, ea, hlt, hz⟩ := h h0
  refine ⟨b, off, ea, Nat.lt_of_lt_of_le hlt hb.size, fun i hi => ?_⟩
  obtain ⟨z, hz, h0, h1⟩ := hz i hi
  exact ⟨z, by rw [← hz]; exact hb.cell (p := ⟨b, off + i, none⟩) hlt, h0, h1⟩
end Go.Proofs.Ytebpgglegnljgaa

/- A new heap: the specification and the program make the same, each in memory of its own. -/
namespace Go.Proofs.Ytebpgglegnljgaa
open Go.RowKit

def newHeap (s : Int) : HpN := ⟨s, 0, 0, s, 0, s, 2 * s, 0, 0⟩

set_option maxRecDepth 100000 in
theorem newSize_calls (s : Int) (w : World) :
    Calls Try.prog 86 #[.int .i64 s] w fun e w' => e = .returned (.bool (decide (20 ≤ s ∧ s ≤ 4000))) ∧ w = w' := by
  go_enter Try.func86, Try.ntmps86
  go_wp2
  all_goals
    go_ret
    refine ⟨?_, rfl⟩
    simp_all
    try omega

set_option maxRecDepth 100000 in
theorem specNew_bad (s : Int) (w : World) (h : ¬ (20 ≤ s ∧ s ≤ 4000)) :
    Calls Try.prog 83 #[.int .i64 s] w fun e w' => e = .returned (.tuple #[noHeap, .bool false]) ∧ Below w.heap.size w w' := by
  go_enter Try.func83, Try.ntmps83
  go_wp2_with fail
  all_goals
    exact bodyPost_ret (v := .tuple #[noHeap, .bool false]) (by simp [results, Try.results83, go_sem, noHeap, heapV]) rfl ⟨rfl, (Below.refl _ _).alloc (Nat.le_refl _) _⟩

/-- What a call leaves that makes a heap of s words a space. -/
def NewHPost (s : Nat) (w : World) (e : Ending) (w' : World) : Prop :=
  (∃ v, e = .returned (.tuple #[heapV v (newHeap s), .bool true]) ∧ SliceR 3 1 w.heap.size w' v (List.replicate (2 * s) (0 : Int)).length (intCells (List.replicate (2 * s) 0))) ∧ Below w.heap.size w w'

theorem zeros_at (n i : Nat) (h : i < n) : (madeCells #[.int .i64 0] n)[i]? = some (intCells (List.replicate n 0) i) := by
  simp [madeCells, h, Nat.mod_one, intCells, List.getD]

theorem new_post (s : Nat) (w : World) (o : Obj) :
    NewHPost s w (.returned (.tuple #[heapV (.slice (some ⟨w.heap.size + 1, 0, none⟩) (2 * s) (2 * s)) (newHeap s), .bool true])) ((w.alloc o).alloc (.cells (madeCells #[.int .i64 0] (2 * s)) 3)) := by
  have hrow := World.rowIs_alloc (w.alloc o) (madeCells #[.int .i64 0] (2 * s)) 3 (intCells (List.replicate (2 * s) 0)) (fun i hi => zeros_at _ _ (by simpa [size_madeCells] using hi))
  have hsz : (madeCells #[(.int .i64 0 : Value)] (2 * s)).size = 2 * s := by rw [size_madeCells]
  rw [hsz] at hrow
  have e1 : (w.alloc o).heap.size = w.heap.size + 1 := by simp
  rw [e1] at hrow
  refine ⟨⟨_, rfl, ?_⟩, ((Below.refl _ _).alloc (Nat.le_refl _) _).alloc (by simp) _⟩
  rw [List.length_replicate]
  exact ⟨_, _, rfl, Or.inr ⟨_, rfl, by omega, _, _, rw_of_row hrow _, by omega, fun i _ => rfl⟩⟩

set_option maxRecDepth 100000 in
theorem specNew_ok (s : Nat) (w : World) (h0 : 20 ≤ s) (h1 : s ≤ 4000) :
    Calls Try.prog 83 #[.int .i64 s] w (NewHPost s w) := by
  have hmk := run_make_row' (P := Try.prog) 23 3 (.int .i64 0) 8 Try.underlying23 info_int rfl .i64 .i64 (2 * s) (by omega) (by omega)
  rw [show ((2 * s : Nat) : Int) = 2 * (s : Int) by omega] at hmk
  go_enter Try.func83, Try.ntmps83
  go_wp2_with fail
  exact bodyPost_ret (v := .tuple #[heapV (.slice (some ⟨w.heap.size + 1, 0, none⟩) (2 * s) (2 * s)) (newHeap s), .bool true]) (by simp [results, Try.results83, go_sem, newHeap, heapV]) rfl (new_post s w _)
end Go.Proofs.Ytebpgglegnljgaa

/- The drawer of heaps at work: what lies where. -/
namespace Go.Proofs.Ytebpgglegnljgaa
open Go.RowKit

/-- The reader: its block, its bytes. -/
structure Rd (B : Nat) (a0 : Option Addr) (n cap q : Nat) (W : World) : Prop where
  blk : W.heap[B]? = some (.cells #[.slice a0 n cap, .int .i64 (q : Int)] 88)
  bytes : 0 < n → ∃ b off, a0 = some ⟨b, off, none⟩ ∧ b < B ∧ ∀ i, i < n → ∃ z, W.cell? ⟨b, off + i, none⟩ = some (.int .u8 z) ∧ 0 ≤ z ∧ z ≤ 255

/-- Only one block has changed. -/
structure Only (B : Nat) (W W' : World) : Prop where
  os : W'.os = W.os
  tape : W'.tape = W.tape
  output : W'.output = W.output
  size : W'.heap.size = W.heap.size
  block : ∀ k, k ≠ B → W'.heap[k]? = W.heap[k]?

theorem Only.below {B m : Nat} {W W' : World} (o : Only B W W') (h : m ≤ B) : Below m W W' := ⟨o.os, o.tape, o.output, Nat.le_of_eq o.size.symm, fun k hk => o.block k (by omega)⟩

/-- All that was there stays, but for one block. -/
structure Grw (B : Nat) (w W : World) : Prop where
  os : W.os = w.os
  tape : W.tape = w.tape
  output : W.output = w.output
  size : w.heap.size ≤ W.heap.size
  block : ∀ k, k < w.heap.size → k ≠ B → W.heap[k]? = w.heap[k]?

theorem Grw.refl (B : Nat) (w : World) : Grw B w w := ⟨rfl, rfl, rfl, Nat.le_refl _, fun _ _ _ => rfl⟩

theorem Grw.step {B : Nat} {w W W' : World} (g : Grw B w W) (h : Below w.heap.size W W') : Grw B w W' := ⟨h.os.trans g.os, h.tape.trans g.tape, h.output.trans g.output, Nat.le_trans g.size h.size, fun k hk hB => (h.block k hk).trans (g.block k hk hB)⟩

theorem Grw.keep {B : Nat} {w W W' : World} (g : Grw B w W) (h : Below W.heap.size W W') : Grw B w W' := g.step (h.mono g.size)

theorem Grw.only {B : Nat} {w W W' : World} (g : Grw B w W) (o : Only B W W') : Grw B w W' := ⟨o.os.trans g.os, o.tape.trans g.tape, o.output.trans g.output, by rw [o.size]; exact g.size, fun k hk hB => (o.block k hB).trans (g.block k hk hB)⟩

theorem Grw.trans {B : Nat} {w W W' : World} (g : Grw B w W) (h : Grw B W W') : Grw B w W' := ⟨h.os.trans g.os, h.tape.trans g.tape, h.output.trans g.output, Nat.le_trans g.size h.size, fun k hk hB => (h.block k (Nat.lt_of_lt_of_le hk g.size) hB).trans (g.block k hk hB)⟩

theorem Grw.below {B m : Nat} {w W : World} (g : Grw B w W) (h : m ≤ B) (h2 : m ≤ w.heap.size) : Below m w W := ⟨g.os, g.tape, g.output, g.size, fun k hk => g.block k (by omega) (by omega)⟩

theorem Rd.same {B : Nat} {a0 : Option Addr} {n cap q : Nat} {W W' : World} (r : Rd B a0 n cap q W) (e : ∀ k, k ≤ B → W'.heap[k]? = W.heap[k]?) : Rd B a0 n cap q W' := by
  refine ⟨(e B (Nat.le_refl _)).trans r.blk, fun hn => ?_⟩
  obtain ⟨b, off, ea, hb, hz⟩ := r.bytes hn
  refine ⟨b, off, ea, hb, fun i hi => ?_⟩
  obtain ⟨z, hz, h1⟩ := hz i hi
  exact ⟨z, (World.cell?_of_block (a := ⟨b, off + i, none⟩) (e b (by omega))).trans hz, h1⟩

theorem rd_picks {B : Nat} {a0 : Option Addr} {n cap q : Nat} {W : World} (h : Rd B a0 n cap q W) (hq : q ≤ 100000) (k : Int) (hk : 0 < k) :
    Calls Try.prog 28 #[.pointer (some ⟨B, 0, none⟩), .int .i64 k] W fun e W' => ∃ m : Int, e = .returned (.int .i64 m) ∧ 0 ≤ m ∧ m < k ∧ Rd B a0 n cap (q + 1) W' ∧ Only B W W' := by
  have hc0 := cell_of_heap h.blk 0
  have hc1 := cell_of_heap h.blk 1
  refine (pick_calls B a0 n cap q k W (by simpa using hc0) (by simpa using hc1) (frozen_of_heap h.blk 1) (by omega) (fun hl => ?_)).mono ?_
  · obtain ⟨b, off, ea, hb, hz⟩ := h.bytes hl
    exact ⟨b, off, ea, by omega, hz⟩
  · rintro e W' ⟨⟨r, rfl, hr0, hr1⟩, hP⟩
    have hw := hP.how
    have hs : W'.heap.size = W.heap.size := by rcases hw with rfl | rfl <;> simp [World.setCell, World.drew]
    have ho : ∀ q, q ≠ B → W'.heap[q]? = W.heap[q]? := fun q hq => by
      rcases hw with rfl | rfl
      · exact Below.heap_setCell W ⟨B, 1, none⟩ _ q hq
      · exact Below.heap_setCell W ⟨B, 1, none⟩ _ q hq
    refine ⟨r, rfl, hr0, hr1 hk, ⟨?_, fun hl => ?_⟩, ⟨by rcases hw with rfl | rfl <;> rfl, by rcases hw with rfl | rfl <;> rfl, by rcases hw with rfl | rfl <;> rfl, hs, ho⟩⟩
    · rcases hw with rfl | rfl
      · simp [World.setCell, Array.getElem?_modify, h.blk]
      · simp [World.setCell, World.drew, Array.getElem?_modify, h.blk]
    · obtain ⟨b, off, ea, hb, hz⟩ := h.bytes hl
      refine ⟨b, off, ea, hb, fun i hi => ?_⟩
      obtain ⟨z, hz, h1⟩ := hz i hi
      exact ⟨z, (World.cell?_of_block (a := ⟨b, off + i, none⟩) (ho b (by omega))).trans hz, h1⟩

/-- Where things lie while heaps are drawn. -/
structure Pl where
  w0 : World
  B : Nat
  a0 : Option Addr
  n : Nat
  cap : Nat
  bm : Nat
  bw : Nat
  cp : Nat
  g : Nat
  N : Nat

/-- The drawer's blocks: reader, worker, its words, roots. -/
structure Sw (p : Pl) (q : Nat) (ws : List Int) (h : HpN) (full : Bool) (rs : List Int) (W : World) : Prop where
  rd : Rd p.B p.a0 p.n p.cap q W
  wk : WkBlk W p.bm (.slice (some ⟨p.bw, 0, none⟩) p.N p.cp) h h.touched full
  row : CellRow 3 W p.bw p.N (intCells ws)
  len : ws.length = p.N
  rt : CellRow 3 W p.g 4 (intCells rs)
  rl : rs.length = 4
  o1 : p.w0.heap.size ≤ p.bm
  o2 : p.w0.heap.size ≤ p.bw
  o3 : p.w0.heap.size ≤ p.g
  n1 : p.bm ≠ p.bw
  n2 : p.bm ≠ p.g
  n3 : p.bw ≠ p.g
  low : p.B < p.w0.heap.size
  below : Grw p.B p.w0 W

theorem Sw.same {p : Pl} {q : Nat} {ws : List Int} {h : HpN} {full : Bool} {rs : List Int} {W W' : World} (s : Sw p q ws h full rs W) (e : ∀ k, k < W.heap.size → W'.heap[k]? = W.heap[k]?) (hb : Grw p.B p.w0 W') : Sw p q ws h full rs W' := by
  have k1 := heap_lt s.wk
  have k2 := s.row.lt
  have k3 := s.rt.lt
  have k4 := heap_lt s.rd.blk
  exact ⟨s.rd.same (fun k hk => e k (by omega)), (e _ k1).trans s.wk, s.row.of_block (e _ k2), s.len, s.rt.of_block (e _ k3), s.rl, s.o1, s.o2, s.o3, s.n1, s.n2, s.n3, s.low, hb⟩

theorem Sw.keep {p : Pl} {q : Nat} {ws : List Int} {h : HpN} {full : Bool} {rs : List Int} {W W' : World} (s : Sw p q ws h full rs W) (hb : Below W.heap.size W W') : Sw p q ws h full rs W' :=
  s.same (fun k hk => hb.block k hk) (s.below.keep hb)

theorem Sw.pick {p : Pl} {q : Nat} {ws : List Int} {h : HpN} {full : Bool} {rs : List Int} {W : World} (s : Sw p q ws h full rs W) (hq : q ≤ 100000) (k : Int) (hk : 0 < k) :
    Calls Try.prog 28 #[.pointer (some ⟨p.B, 0, none⟩), .int .i64 k] W fun e W' => ∃ m : Int, e = .returned (.int .i64 m) ∧ 0 ≤ m ∧ m < k ∧ Sw p (q + 1) ws h full rs W' ∧ Only p.B W W' := by
  refine (rd_picks s.rd hq k hk).mono ?_
  rintro e W' ⟨m, rfl, h0, h1, hr, ho⟩
  have := s.o1
  have := s.o2
  have := s.o3
  have := s.low
  exact ⟨m, rfl, h0, h1, ⟨hr, (ho.block _ (by omega)).trans s.wk, s.row.of_block (ho.block _ (by omega)), s.len, s.rt.of_block (ho.block _ (by omega)), s.rl, s.o1, s.o2, s.o3, s.n1, s.n2, s.n3, s.low, s.below.only ho⟩, ho⟩

/-- The drawer's blocks alone decide. -/
theorem Sw.blocks {p : Pl} {q : Nat} {ws : List Int} {h : HpN} {full : Bool} {rs : List Int} {W W' : World} (s : Sw p q ws h full rs W) (e : ∀ k, k ≤ p.B ∨ k = p.bm ∨ k = p.bw ∨ k = p.g → W'.heap[k]? = W.heap[k]?) (hb : Grw p.B p.w0 W') : Sw p q ws h full rs W' :=
  ⟨s.rd.same (fun k hk => e k (Or.inl hk)), (e _ (Or.inr (Or.inl rfl))).trans s.wk, s.row.of_block (e _ (Or.inr (Or.inr (Or.inl rfl)))), s.len, s.rt.of_block (e _ (Or.inr (Or.inr (Or.inr rfl)))), s.rl, s.o1, s.o2, s.o3, s.n1, s.n2, s.n3, s.low, hb⟩

theorem Sw.lt {p : Pl} {q : Nat} {ws : List Int} {h : HpN} {full : Bool} {rs : List Int} {W : World} (s : Sw p q ws h full rs W) : p.B < W.heap.size ∧ p.bm < W.heap.size ∧ p.bw < W.heap.size ∧ p.g < W.heap.size := ⟨heap_lt s.rd.blk, heap_lt s.wk, s.row.lt, s.rt.lt⟩

/-- A number was drawn: the other drawer's blocks stay. -/
theorem Sw.beside {p p2 : Pl} {q q' : Nat} {ws ws2 : List Int} {h h2 : HpN} {full full2 : Bool} {rs rs2 : List Int} {W W' : World} (s2 : Sw p2 q ws2 h2 full2 rs2 W) (s : Sw p q' ws h full rs W') (o : Only p.B W W') (e1 : p2.B = p.B) (e2 : p2.a0 = p.a0) (e3 : p2.n = p.n) (e4 : p2.cap = p.cap) : Sw p2 q' ws2 h2 full2 rs2 W' := by
  have := s2.o1
  have := s2.o2
  have := s2.o3
  have := s2.low
  refine ⟨by rw [e1, e2, e3, e4]; exact s.rd, (o.block _ (by omega)).trans s2.wk, s2.row.of_block (o.block _ (by omega)), s2.len, s2.rt.of_block (o.block _ (by omega)), s2.rl, s2.o1, s2.o2, s2.o3, s2.n1, s2.n2, s2.n3, s2.low, s2.below.only (by rw [e1]; exact o)⟩

/-- A row of one's own grows: the drawer's blocks stay. -/
theorem Sw.grown {p : Pl} {q M : Nat} {ws : List Int} {h : HpN} {full : Bool} {rs : List Int} {W W' : World} {row : Option Nat} (s : Sw p q ws h full rs W) (hM : p.B < M ∧ p.bm < M ∧ p.bw < M ∧ p.g < M) (hg : W.grownBy W' row) (hr : ∀ k, row = some k → M ≤ k) : Sw p q ws h full rs W' := by
  obtain ⟨k1, k2, k3, k4⟩ := s.lt
  have ho := s.o1
  refine s.blocks (fun k hk => ?_) (s.below.step ⟨hg.os, hg.tape, hg.output, hg.size, fun k hk => hg.block k (by omega) (fun e => by have := hr k e.symm; omega)⟩)
  have hkM : k < M := by rcases hk with hk | hk | hk | hk <;> omega
  have hkW : k < W.heap.size := by rcases hk with hk | hk | hk | hk <;> omega
  exact hg.block k hkW (fun e => by have := hr k e.symm; omega)

theorem own_sl {W : World} {B : Nat} {e : TypeId} {sz : Nat} {v : Value} {n : Nat} {xs : List Value} (h : W.ownsRow B e sz v n xs) : ∃ ad c, v = .slice ad n c := by
  obtain ⟨-, ⟨rfl, h0⟩ | ⟨g', cap, cur, rfl, -⟩⟩ := h
  · exact ⟨none, 0, by rw [h0]⟩
  · exact ⟨_, _, rfl⟩

theorem own_only {W W' : World} {B M : Nat} {e : TypeId} {sz : Nat} {v : Value} {n : Nat} {xs : List Value} (h : W.ownsRow M e sz v n xs) (o : Only B W W') (hB : B < M) : W'.ownsRow M e sz v n xs := by
  obtain ⟨h0, ⟨rfl, h1⟩ | ⟨g, cap, cur, rfl, hg, hc, hr⟩⟩ := h
  · exact ⟨h0, Or.inl ⟨rfl, h1⟩⟩
  · exact ⟨h0, Or.inr ⟨g, cap, cur, rfl, hg, (o.block g (by omega)).trans hc, hr⟩⟩

theorem cell_one_new (W : World) (x : Int) (j : Nat) (u : Value) (h : [Value.int .i64 x][j]? = some u) : (W.alloc (.cells #[.int .i64 x] 3)).cell? ((⟨W.heap.size, 0, none⟩ : Addr).add j) = some u := by
  have hj : j = 0 := by
    have := (List.getElem?_eq_some_iff.1 h).1
    simp at this
    exact this
  subst hj
  simp at h
  subst h
  simp [Addr.add, go_sem]

/-- A worker out of the drawer's block. -/
theorem Sw.worker {p : Pl} {q : Nat} {ws : List Int} {h : HpN} {full : Bool} {rs : List Int} {W : World} (s : Sw p q ws h full rs W) (h0 : 0 ≤ h.touched) (h1 : h.touched < 9223372036854775808) : Wk W p.bm p.bw p.N p.cp ⟨ws, h, 0, 0⟩ full W := by
  refine ⟨?_, s.row, s.len, s.n1, Frm.refl _ _ _⟩
  have e : touchZ ⟨ws, h, 0, 0⟩ = h.touched := by
    unfold touchZ wrap64
    dsimp only
    omega
  rw [e]
  exact s.wk

/-- The drawer's block out of a worker. -/
theorem Sw.worked {p : Pl} {q : Nat} {ws : List Int} {h : HpN} {full : Bool} {rs : List Int} {W W' : World} (s : Sw p q ws h full rs W) {s' : CN} {full' : Bool} {rs' : List Int} (k : Wk W' p.bm p.bw p.N p.cp s' full' W') (r : CellRow 3 W' p.g 4 (intCells rs')) (hl : rs'.length = 4) (hr : ∀ k, k ≤ p.B → W'.heap[k]? = W.heap[k]?) (hb : Grw p.B p.w0 W') : Sw p q s'.ws { s'.h with touched := touchZ s' } full' rs' W' :=
  ⟨s.rd.same hr, k.blk, k.row, k.len, r, hl, s.o1, s.o2, s.o3, s.n1, s.n2, s.n3, s.low, hb⟩

theorem getD_setN (S : List Int) (p a : Nat) (x : Int) (hp : p < S.length) : (S.set p x).getD a 0 = if a = p then x else S.getD a 0 := by
  rw [getD_set]
  by_cases e : a = p
  · rw [if_pos ⟨e, hp⟩, if_pos e]
  · rw [if_neg (by omega), if_neg e]

/-- A root is set. -/
theorem Sw.root {p : Pl} {q : Nat} {ws : List Int} {h : HpN} {full : Bool} {rs : List Int} {W : World} (s : Sw p q ws h full rs W) {k : Nat} (hk : k < 4) (x : Int) : Sw p q ws h full (rs.set k x) (W.setCell ⟨p.g, k, none⟩ (.int .i64 x)) := by
  have e : ∀ j, j ≠ p.g → (W.setCell ⟨p.g, k, none⟩ (.int .i64 x)).heap[j]? = W.heap[j]? := fun j hj => Below.heap_setCell W ⟨p.g, k, none⟩ _ j hj
  have := s.o3
  have := s.n2
  have := s.n3
  have := s.low
  have hl := s.rl
  refine ⟨s.rd.same (fun j hj => e j (by omega)), (e _ s.n2).trans s.wk, s.row.of_block (e _ s.n3), s.len, ?_, by rw [List.length_set]; exact hl, s.o1, s.o2, s.o3, s.n1, s.n2, s.n3, s.low, s.below.step ((Below.refl _ _).setCell (show p.w0.heap.size ≤ p.g from s.o3) _)⟩
  obtain ⟨N, f, hr, h1, h2⟩ := s.rt
  refine ⟨N, _, hr.set k _, h1, fun i hi => ?_⟩
  unfold intCells
  rw [getD_setN _ _ _ _ (by omega)]
  by_cases e : i = k
  · rw [if_pos e, if_pos e]
  · rw [if_neg e, if_neg e]
    exact h2 i hi

/-- A heap that may be, roots that lead to objects in use, and numbers that are small. -/
structure Gd (ws : List Int) (h : HpN) (rs : List Int) (k : Nat) : Prop where
  ok : ∃ S, OkHeap ws S h ∧ ∀ i, i < rs.length → wordOkZ S h (rs.getD i 0) = true
  fl : h.flips ≤ k
  tc : h.touched ≤ 300000 * k

theorem fieldsZ_kind {k : Int} (h0 : 1 ≤ k) (h1 : k ≤ 8) : (fieldsZ k = 2 ∨ fieldsZ k = 5) := by
  have h : k = 1 ∨ k = 2 ∨ k = 3 ∨ k = 4 ∨ k = 5 ∨ k = 6 ∨ k = 7 ∨ k = 8 := by omega
  rcases h with rfl | rfl | rfl | rfl | rfl | rfl | rfl | rfl <;> decide

/-- How much is counted while an object is made. -/
theorem make_count {ws S rs fs ys : List Int} {h : HpN} {kind : Int} {m : Nat} {s' : CN} (ok : OkHeap ws S h) (hr : ∀ i, i < rs.length → wordOkZ S h (rs.getD i 0) = true) (hf : ∀ i, i < fs.length → wordOkZ S h (fs.getD i 0) = true) (hl : rs.length ≤ 20) (_hn : fs.length = 2 ∨ fs.length = 5) (he : makeRun rs fs kind m ⟨ws, h, 0, 0⟩ = some (ys, s')) : 0 ≤ s'.r + s'.t ∧ s'.r + s'.t ≤ 150000 ∧ s'.h.touched = h.touched := by
  unfold makeRun at he
  cases h1 : scanRun m ⟨ws, h, 0, 0⟩ with
  | none => rw [h1] at he; cases he
  | some s1 =>
    rw [h1] at he
    dsimp only at he
    have c := scanRun_scn (scn_start ok) m s1 h1
    have mv := mvs_scanned ok h1
    obtain ⟨c0, S1, f, p⟩ := phase_scans ok h1
    have ht : s1.h.touched = h.touched := by rw [p.num]
    have pk : ∀ (fs : List Int) (s : CN), (putZ kind fs s).r = s.r ∧ (putZ kind fs s).t = s.t + 1 + fs.length ∧ (putZ kind fs s).h.touched = s.h.touched := fun fs s => by
      unfold putZ
      obtain ⟨-, k2, k3, k4⟩ := writesRun_keeps fs (s.h.top - (1 + fs.length : Nat)).toNat (headZ kind (1 + fs.length) (s.h.top - (1 + fs.length : Nat)).toNat s) fs.length
      rw [k2, k3, k4]
      exact ⟨rfl, rfl, rfl⟩
    have o1 := c.nums.s0
    have o2 := c.nums.s1
    have o4 := c.nums.to
    have o5 := c.nums.b0
    have o6 := c.nums.bt
    have o7 := c.nums.te
    have o8 := c.row.le
    have o9 := c.sc0
    by_cases hr1 : s1.h.top - s1.h.bottom < (1 + fs.length : Nat)
    · rw [if_pos hr1] at he
      by_cases hb : s1.h.scan = s1.h.bottom
      · rw [if_pos hb] at he
        cases h2 : movesRun rs rs.length { s1 with h := flipH s1.h } with
        | none => rw [h2] at he; cases he
        | some q =>
          obtain ⟨rs', s2⟩ := q
          rw [h2] at he
          dsimp only at he
          cases h3 : movesRun fs fs.length s2 with
          | none => rw [h3] at he; cases he
          | some q3 =>
            obtain ⟨fs', s3⟩ := q3
            rw [h3] at he
            dsimp only at he
            by_cases hr2 : s3.h.top - s3.h.bottom < (1 + fs.length : Nat)
            · rw [if_pos hr2] at he
              cases he
            · rw [if_neg hr2] at he
              cases he
              obtain ⟨m2, l2, -⟩ := movesRun_mvs mv (fun i hi => used_aim_any ok (hr i hi) _) rs.length (Nat.le_refl _) _ s2 h2
              obtain ⟨m3, l3, -⟩ := movesRun_mvs m2 (fun i hi => used_aim_any ok (hf i hi) _) fs.length (Nat.le_refl _) _ s3 h3
              obtain ⟨k1, k2, k3⟩ := pk fs' s3
              have e1 := m3.r0
              have e2 := m3.r1
              have e3 := m3.t0
              have e4 := m3.t1
              have e5 := m3.nums.bt
              have e6 := m3.nums.te
              have e7 := m3.nums.to
              have e8 := m3.nums.s1
              have hnb : ¬ s1.h.scan < s1.h.bottom := by omega
              have tt : ∀ (xs : List Int) (s : CN) k (ys : List Int) (s' : CN), movesRun xs k s = some (ys, s') → s'.h.touched = s.h.touched := fun xs s k => by
                induction k with
                | zero => intro ys s' hh; cases hh; rfl
                | succ k ih =>
                  intro ys s' hh
                  unfold movesRun at hh
                  cases g1 : movesRun xs k s with
                  | none => rw [g1] at hh; cases hh
                  | some r =>
                    obtain ⟨zs, z⟩ := r
                    rw [g1] at hh
                    dsimp only at hh
                    have i1 := ih zs z g1
                    cases g2 : moveZ z (zs.getD k 0) with
                    | mk o z2 =>
                      rw [g2] at hh
                      cases o with
                      | none => cases hh
                      | some y =>
                        cases hh
                        have : (moveZ z (zs.getD k 0)).2.h.touched = z.h.touched := by
                          unfold moveZ
                          split
                          · rfl
                          · split
                            · rfl
                            · split <;> rfl
                        rw [g2] at this
                        exact this.trans i1
              have t3 := tt _ _ _ _ _ h3
              have t2 := tt _ _ _ _ _ h2
              refine ⟨by omega, by push_cast at e2; omega, ?_⟩
              rw [k3, t3, t2]
              exact ht
      · rw [if_neg hb] at he
        cases he
    · rw [if_neg hr1] at he
      cases he
      obtain ⟨k1, k2, k3⟩ := pk fs s1
      have e1 := c.r0
      have e2 := c.r1
      have e3 := c.t0
      have e4 := c.t1
      exact ⟨by omega, by omega, k3.trans ht⟩

theorem field_count {ws : List Int} {h : HpN} {q N : Nat} (hm : MoveOk ws h N (ws.getD q 0)) : 0 ≤ (fieldZ ⟨ws, h, 0, 0⟩ q).2.r + (fieldZ ⟨ws, h, 0, 0⟩ q).2.t ∧ (fieldZ ⟨ws, h, 0, 0⟩ q).2.r + (fieldZ ⟨ws, h, 0, 0⟩ q).2.t ≤ 100 ∧ (fieldZ ⟨ws, h, 0, 0⟩ q).2.h.touched = h.touched ∧ (fieldZ ⟨ws, h, 0, 0⟩ q).2.h.flips = h.flips := by
  unfold fieldZ
  dsimp only
  cases hl : lateZ h (ws.getD q 0) with
  | false =>
    rw [if_pos rfl]
    dsimp only
    exact ⟨by omega, by omega, rfl, rfl⟩
  | true =>
    rw [if_neg (by decide)]
    obtain ⟨-, h2⟩ := hm hl
    unfold moveZ
    dsimp only
    rw [hl, if_neg (by decide)]
    split
    · rename_i o y s2 e
      split at e
      · cases e
        dsimp only
        exact ⟨by omega, by omega, rfl, rfl⟩
      · rename_i hk
        have h3 := (h2 hk).1
        split at e
        · cases e
          dsimp only
          exact ⟨by omega, by omega, rfl, rfl⟩
        · cases e
    · rename_i o s2 e
      split at e
      · cases e
      · split at e
        · cases e
        · cases e
          dsimp only
          exact ⟨by omega, by omega, rfl, rfl⟩
end Go.Proofs.Ytebpgglegnljgaa

/- A region in stages, more: ahead of the cut an operation that makes something; at the cut an operation of the language's own. -/
namespace Go.Proofs.Ytebpgglegnljgaa
open Go.RowKit
section
variable {P : Program} {l0 : List Oper} {Q : Exit → Act → World → Prop} {S : World → Prop}

/-- One operation ahead of the cut that is alone ready and makes something. -/
theorem till_make {c k : Nat} {o : Oper} {v : Value} {a a' : Act} {w w1 : World} (hkc : k ≠ c) (ho : l0[k]? = some o) (hr : (Region.ready .any l0.toArray (upTo l0.length k) == [k]) = true) (hw : Region.wanted o (yielded l0.toArray a.tmps) = true)
    (hrun : (execOp a.eval o).run P w = .ok (.value v) w1) (hS : S w1) (hput : a.put o.dst v = a') (h : wpTill P l0.toArray (NoPanic Q) S c (wpAny P .any l0.toArray (NoPanic Q)) (l0.length - (k + 1)) (upTo l0.length (k + 1)) a' w1) :
    wpTill P l0.toArray (NoPanic Q) S c (wpAny P .any l0.toArray (NoPanic Q)) (l0.length - k) (upTo l0.length k) a w := by
  have hk : k < l0.length := (List.getElem?_eq_some_iff.1 ho).1
  have e : l0.length - k = l0.length - (k + 1) + 1 := by omega
  have ho' : l0.toArray[k]? = some o := by simpa using ho
  have hr' : Region.ready .any l0.toArray (upTo l0.length k) = [k] := by simpa using hr
  rw [e]
  refine ⟨by rw [hr']; simp, fun i hi => ?_⟩
  rw [hr', List.mem_singleton] at hi
  subst hi
  rw [if_neg hkc]
  unfold wpOp
  rw [ho', upTo_next]
  dsimp only
  rw [if_pos hw]
  refine Or.inl ?_
  unfold Oper.wp
  rw [hrun]
  subst hput
  exact ⟨hS, h⟩

/-- The operation at the cut: behind it another class, for what follows it. -/
theorem till_cut {c : Nat} {o : Oper} {v : Value} {a a' : Act} {w w1 : World} (ho : l0[c]? = some o) (hr : (Region.ready .any l0.toArray (upTo l0.length c) == [c]) = true) (hw : Region.wanted o (yielded l0.toArray a.tmps) = true)
    (hrun : (execOp a.eval o).run P w = .ok (.value v) w1) (hput : a.put o.dst v = a') (h : wpAny P .any l0.toArray (NoPanic Q) (l0.length - (c + 1)) (upTo l0.length (c + 1)) a' w1) :
    wpTill P l0.toArray (NoPanic Q) S c (wpAny P .any l0.toArray (NoPanic Q)) (l0.length - c) (upTo l0.length c) a w := by
  have hk : c < l0.length := (List.getElem?_eq_some_iff.1 ho).1
  have e : l0.length - c = l0.length - (c + 1) + 1 := by omega
  have ho' : l0.toArray[c]? = some o := by simpa using ho
  have hr' : Region.ready .any l0.toArray (upTo l0.length c) = [c] := by simpa using hr
  rw [e]
  refine ⟨by rw [hr']; simp, fun i hi => ?_⟩
  rw [hr', List.mem_singleton] at hi
  subst hi
  rw [if_pos rfl]
  unfold wpOp
  rw [ho', upTo_next]
  dsimp only
  rw [if_pos hw]
  refine Or.inl ?_
  unfold Oper.wp
  rw [hrun]
  subst hput
  exact h

/-- A store that is alone ready. -/
theorem stage_skip {k : Nat} {o : Oper} {a : Act} {w w1 : World} (hd : o.dst = none) (ho : l0[k]? = some o) (hr : (Region.ready .any l0.toArray (upTo l0.length k) == [k]) = true) (hw : Region.wanted o (yielded l0.toArray a.tmps) = true)
    (hrun : (execOp a.eval o).run P w = .ok .skip w1) (hS : S w1) (h : wpAnyH P .any l0.toArray (NoPanic Q) S (l0.length - (k + 1)) (upTo l0.length (k + 1)) a w1) :
    wpAnyH P .any l0.toArray (NoPanic Q) S (l0.length - k) (upTo l0.length k) a w := by
  have hk : k < l0.length := (List.getElem?_eq_some_iff.1 ho).1
  have e : l0.length - k = l0.length - (k + 1) + 1 := by omega
  have ho' : l0.toArray[k]? = some o := by simpa using ho
  rw [e]
  refine wpAnyH_all (rs := [k]) (by simpa using hr) (by simp) (fun i hi => ?_)
  rw [List.mem_singleton] at hi
  subst hi
  unfold wpOp
  rw [ho', upTo_next]
  dsimp only
  rw [if_pos hw]
  refine Or.inl ?_
  have hp : a.put o.dst undef = a := by rw [hd]; rfl
  unfold Oper.wp
  rw [hrun]
  refine ⟨hS, ?_⟩
  rw [hp]
  exact h

theorem append_runN {P : Program} {a : Act} {o : Oper} {s x : Operand} {t : TypeId} (ho : o.op = .call { callee := .builtin .append, args := #[s, x], argTypes := #[t, t] }) {v vx : Value} (hs : a.eval s = v) (hx : a.eval x = vx) {w w' : World} {v' : Value} (hr : (Builtin.append_ #[t, t] o.type #[v, vx]).run P w = .ok v' w') : (execOp a.eval o).run P w = .ok (.value v') w' := by
  unfold execOp
  simp only [ho, resolve, invoke, builtin, Sem.run_bind, Sem.run_pure, Result.andThen_ok, List.map_toArray, List.map_cons, List.map_nil, hs, hx, hr]
end
end Go.Proofs.Ytebpgglegnljgaa

/- A region in stages, more: what only reads may be taken first wherever it stands in the text; then each that makes something is alone ready. -/
namespace Go.Proofs.Ytebpgglegnljgaa
open Go.RowKit
section
variable {P : Program} {l0 : List Oper} {Q : Exit → Act → World → Prop} {S : World → Prop}

theorem pick_begin {id n : Nat} {ls : Array Bool} {a : Act} {w : World} (hm : P.follows .mixedOrders = true) (hn : l0.length = n) (hl : Array.replicate l0.length false = ls) (h : wpAnyH P .any l0.toArray (NoPanic Q) S n ls a w.drew) : (Code.region id l0.toArray true).wp P Q a w := by
  refine wp_region_noPanic (wp_region_held (S := S) hm ?_)
  subst hn
  subst hl
  simpa using h

/-- One that only reads. -/
theorem pick_op {i n : Nat} {o : Oper} {v : Value} {ls ls' : Array Bool} {a a' : Act} {w : World} (hs : Region.noSelect l0.toArray = true) (ho : l0[i]? = some o) (hf : Region.free .any l0.toArray ls i = true) (hr : (Region.ready .any l0.toArray ls).contains i = true) (hl : ls.setIfInBounds i true = ls')
    (hw : Region.wanted o (yielded l0.toArray a.tmps) = true) (hy : ∀ w', S w' → (execOp a.eval o).run P w' = .ok (.value v) w') (hS : S w) (hput : a.put o.dst v = a') (h : wpAnyH P .any l0.toArray (NoPanic Q) S n ls' a' w) : wpAnyH P .any l0.toArray (NoPanic Q) S (n + 1) ls a w := by
  subst hl
  subst hput
  exact wpAnyH_take (v := v) (by simpa using ho) hs hf hr (fun c a w h => h) (Or.inl ⟨hw, hy⟩) hS h

/-- One that is alone ready, and makes something or not. -/
theorem pick_make {i n : Nat} {o : Oper} {v : Value} {ls ls' : Array Bool} {a a' : Act} {w w1 : World} (ho : l0[i]? = some o) (hr : (Region.ready .any l0.toArray ls == [i]) = true) (hl : ls.setIfInBounds i true = ls')
    (hw : Region.wanted o (yielded l0.toArray a.tmps) = true) (hrun : (execOp a.eval o).run P w = .ok (.value v) w1) (hS : S w1) (hput : a.put o.dst v = a') (h : wpAnyH P .any l0.toArray (NoPanic Q) S n ls' a' w1) : wpAnyH P .any l0.toArray (NoPanic Q) S (n + 1) ls a w := by
  subst hl
  subst hput
  have ho' : l0.toArray[i]? = some o := by simpa using ho
  refine wpAnyH_all (rs := [i]) (by simpa using hr) (by simp) (fun j hj => ?_)
  rw [List.mem_singleton] at hj
  subst hj
  unfold wpOp
  rw [ho']
  dsimp only
  rw [if_pos hw]
  refine Or.inl ?_
  unfold Oper.wp
  rw [hrun]
  exact ⟨hS, h⟩

/-- A call that is alone ready. -/
theorem pick_enter {i n : Nat} {o : Oper} {f : FuncId} {args : Array Value} {ls ls' : Array Bool} {a : Act} {w : World} (ho : l0[i]? = some o) (hr : (Region.ready .any l0.toArray ls == [i]) = true) (hl : ls.setIfInBounds i true = ls') (hw : Region.wanted o (yielded l0.toArray a.tmps) = true)
    (hrun : (execOp a.eval o).run P w = .ok (.enter f args) w) (h : Calls P f args w fun e w' => ∃ v, e = .returned v ∧ S w' ∧ wpAnyH P .any l0.toArray (NoPanic Q) S n ls' (a.put o.dst v) w') : wpAnyH P .any l0.toArray (NoPanic Q) S (n + 1) ls a w := by
  subst hl
  have ho' : l0.toArray[i]? = some o := by simpa using ho
  refine wpAnyH_all (rs := [i]) (by simpa using hr) (by simp) (fun j hj => ?_)
  rw [List.mem_singleton] at hj
  subst hj
  unfold wpOp
  rw [ho']
  dsimp only
  rw [if_pos hw]
  refine Or.inl ?_
  unfold Oper.wp
  rw [hrun]
  refine Calls.mono h ?_
  rintro e w3 ⟨v, rfl, hS, hn⟩
  exact ⟨hS, hn⟩

/-- One of two that are ready, each of which makes something. -/
def PickMk (P : Program) (l0 : List Oper) (Q : Exit → Act → World → Prop) (S : World → Prop) (n : Nat) (ls : Array Bool) (a : Act) (w : World) (i : Nat) : Prop :=
  ∃ o v w1, l0[i]? = some o ∧ Region.wanted o (yielded l0.toArray a.tmps) = true ∧ (execOp a.eval o).run P w = .ok (.value v) w1 ∧ S w1 ∧ wpAnyH P .any l0.toArray (NoPanic Q) S n (ls.setIfInBounds i true) (a.put o.dst v) w1

theorem pick_fork {i j n : Nat} {ls : Array Bool} {a : Act} {w : World} (hr : (Region.ready .any l0.toArray ls == [i, j]) = true) (h1 : PickMk P l0 Q S n ls a w i) (h2 : PickMk P l0 Q S n ls a w j) : wpAnyH P .any l0.toArray (NoPanic Q) S (n + 1) ls a w := by
  refine wpAnyH_all (rs := [i, j]) (by simpa using hr) (by simp) (fun k hk => ?_)
  have hk' : PickMk P l0 Q S n ls a w k := by
    simp only [List.mem_cons, List.not_mem_nil, or_false] at hk
    rcases hk with rfl | rfl
    · exact h1
    · exact h2
  obtain ⟨o, v, w1, ho, hw, hrun, hS, h⟩ := hk'
  have ho' : l0.toArray[k]? = some o := by simpa using ho
  unfold wpOp
  rw [ho']
  dsimp only
  rw [if_pos hw]
  refine Or.inl ?_
  unfold Oper.wp
  rw [hrun]
  exact ⟨hS, h⟩

/-- The frame, written out. -/
theorem pick_frame {n : Nat} {ls : Array Bool} {a a' : Act} {w : World} (ha : a = a') (h : wpAnyH P .any l0.toArray (NoPanic Q) S n ls a' w) : wpAnyH P .any l0.toArray (NoPanic Q) S n ls a w := by
  subst ha
  exact h

theorem pick_end {n : Nat} {ls : Array Bool} {a : Act} {w : World} (hr : (Region.ready .any l0.toArray ls).isEmpty = true) (h : Q .normal a w) : wpAnyH P .any l0.toArray (NoPanic Q) S n ls a w :=
  wpAnyH_done (Q := NoPanic Q) (by simpa using hr) (NoPanic.normal h) _
end
end Go.Proofs.Ytebpgglegnljgaa

/- A region in stages, more: what must hold of the world may grow on the way; one that makes something beside a call. -/
namespace Go.Proofs.Ytebpgglegnljgaa
open Go.RowKit

theorem held_more {P : Program} {md : Region.Mode} {ops : Array Oper} {Q : Exit → Act → World → Prop} {S S' : World → Prop} (h : ∀ w, S' w → S w) : ∀ (n : Nat) (ls : Array Bool) (a : Act) (w : World), wpAnyH P md ops Q S' n ls a w → wpAnyH P md ops Q S n ls a w
  | 0, _, _, _, x => x
  | n + 1, _, _, _, x => ⟨x.1, fun i hi => wpOp_mono (fun a' w' y => ⟨h w' y.1, held_more h n _ a' w' y.2⟩) (x.2 i hi)⟩

section
variable {P : Program} {l0 : List Oper} {Q : Exit → Act → World → Prop} {S : World → Prop}

/-- From here on more holds of the world. -/
theorem pick_more (S' : World → Prop) {n : Nat} {ls : Array Bool} {a : Act} {w : World} (hi : ∀ w, S' w → S w) (h : wpAnyH P .any l0.toArray (NoPanic Q) S' n ls a w) : wpAnyH P .any l0.toArray (NoPanic Q) S n ls a w := held_more hi n ls a w h

/-- A call that may come up. -/
def PickCl (P : Program) (l0 : List Oper) (Q : Exit → Act → World → Prop) (S : World → Prop) (n : Nat) (ls : Array Bool) (a : Act) (w : World) (i : Nat) : Prop :=
  ∃ o f args, l0[i]? = some o ∧ Region.wanted o (yielded l0.toArray a.tmps) = true ∧ (execOp a.eval o).run P w = .ok (.enter f args) w ∧ Calls P f args w fun e w' => ∃ v, e = .returned v ∧ S w' ∧ wpAnyH P .any l0.toArray (NoPanic Q) S n (ls.setIfInBounds i true) (a.put o.dst v) w'

theorem PickMk.op {n i : Nat} {ls : Array Bool} {a : Act} {w : World} (h : PickMk P l0 Q S n ls a w i) : wpOp P l0.toArray (NoPanic Q) i (fun a' w' => S w' ∧ wpAnyH P .any l0.toArray (NoPanic Q) S n (ls.setIfInBounds i true) a' w') a w := by
  obtain ⟨o, v, w1, ho, hw, hrun, hS, h⟩ := h
  have ho' : l0.toArray[i]? = some o := by simpa using ho
  unfold wpOp
  rw [ho']
  dsimp only
  rw [if_pos hw]
  refine Or.inl ?_
  unfold Oper.wp
  rw [hrun]
  exact ⟨hS, h⟩

theorem PickCl.op {n i : Nat} {ls : Array Bool} {a : Act} {w : World} (h : PickCl P l0 Q S n ls a w i) : wpOp P l0.toArray (NoPanic Q) i (fun a' w' => S w' ∧ wpAnyH P .any l0.toArray (NoPanic Q) S n (ls.setIfInBounds i true) a' w') a w := by
  obtain ⟨o, f, args, ho, hw, hrun, h⟩ := h
  have ho' : l0.toArray[i]? = some o := by simpa using ho
  unfold wpOp
  rw [ho']
  dsimp only
  rw [if_pos hw]
  refine Or.inl ?_
  unfold Oper.wp
  rw [hrun]
  refine Calls.mono h ?_
  rintro e w3 ⟨v, rfl, hS, hn⟩
  exact ⟨hS, hn⟩

/-- A store that is alone ready. -/
theorem pick_skip {i n : Nat} {o : Oper} {ls ls' : Array Bool} {a : Act} {w w1 : World} (hd : o.dst = none) (ho : l0[i]? = some o) (hr : (Region.ready .any l0.toArray ls == [i]) = true) (hl : ls.setIfInBounds i true = ls') (hw : Region.wanted o (yielded l0.toArray a.tmps) = true)
    (hrun : (execOp a.eval o).run P w = .ok .skip w1) (hS : S w1) (h : wpAnyH P .any l0.toArray (NoPanic Q) S n ls' a w1) : wpAnyH P .any l0.toArray (NoPanic Q) S (n + 1) ls a w := by
  subst hl
  have ho' : l0.toArray[i]? = some o := by simpa using ho
  refine wpAnyH_all (rs := [i]) (by simpa using hr) (by simp) (fun j hj => ?_)
  rw [List.mem_singleton] at hj
  subst hj
  unfold wpOp
  rw [ho']
  dsimp only
  rw [if_pos hw]
  refine Or.inl ?_
  have hp : a.put o.dst undef = a := by rw [hd]; rfl
  unfold Oper.wp
  rw [hrun]
  refine ⟨hS, ?_⟩
  rw [hp]
  exact h

/-- One that makes something, or a call: whichever comes up. -/
theorem pick_either {i j n : Nat} {ls : Array Bool} {a : Act} {w : World} (hr : (Region.ready .any l0.toArray ls == [i, j]) = true) (h1 : PickMk P l0 Q S n ls a w i) (h2 : PickCl P l0 Q S n ls a w j) : wpAnyH P .any l0.toArray (NoPanic Q) S (n + 1) ls a w := by
  refine wpAnyH_all (rs := [i, j]) (by simpa using hr) (by simp) (fun k hk => ?_)
  simp only [List.mem_cons, List.not_mem_nil, or_false] at hk
  rcases hk with rfl | rfl
  · exact h1.op
  · exact h2.op
end
end Go.Proofs.Ytebpgglegnljgaa

/- The specification opens a worker, told with the room of its words. -/
namespace Go.Proofs.Ytebpgglegnljgaa
open Go.RowKit

set_option maxHeartbeats 1000000 in
set_option maxRecDepth 100000 in
theorem open_cap (b off cap N : Nat) (ws : List Int) (h : HpN) (w : World) (hN0 : 0 < N) (hl : ws.length = N) (hN : N ≤ 8000) (hb : b < w.heap.size)
    (hw : ∀ k, k < N → w.cell? ⟨b, off + k, none⟩ = some (.int .i64 (ws.getD k 0))) (ht0 : 0 ≤ h.touched) (ht1 : h.touched < 9223372036854775808) :
    Calls Try.prog 46 #[heapV (.slice (some ⟨b, off, none⟩) N cap) h] w fun e w' => ∃ bm bw cap' : Nat, e = .returned (.pointer (some ⟨bm, 0, none⟩)) ∧ (Wk w bm bw N cap' ⟨ws, h, 0, 0⟩ false w' ∧ N ≤ cap') ∧ w.heap.size ≤ bm ∧ w.heap.size ≤ bw := by
  obtain ⟨g1, g2, g3, g4, g5, g6, g7, g8, g9⟩ := h
  unfold heapV
  dsimp only at *
  have HW := hid hw
  have HT : Hid (touchZ ⟨ws, ⟨g1, g2, g3, g4, g5, g6, g7, g8, g9⟩, 0, 0⟩ = g9) := by
    show _ = _
    unfold touchZ wrap64
    dsimp only
    omega
  clear hw ht0 ht1
  obtain ⟨i0, hi, hz0, hz1, hz2⟩ := info_parts info_int
  obtain ⟨eA, eB, eS⟩ := heap_alloc2 w (.cells #[.slice (some ⟨b, off, none⟩) N cap, .int .i64 g1, .int .i64 g2, .int .i64 g3, .int .i64 g4, .int .i64 g5, .int .i64 g6, .int .i64 g7, .int .i64 g8, .int .i64 g9] 25) (.cells #[] 3)
  have k2 := ((Below.refl w.heap.size w).alloc (Nat.le_refl _) (.cells #[.slice (some ⟨b, off, none⟩) N cap, .int .i64 g1, .int .i64 g2, .int .i64 g3, .int .i64 g4, .int .i64 g5, .int .i64 g6, .int .i64 g7, .int .i64 g8, .int .i64 g9] 25)).alloc (by simp) (.cells #[] 3)
  have HEA := hid eA
  have HEB := hid eB
  have HES := hid eS
  have HK2 := hid k2
  clear eA eB eS k2
  go_enter Try.func46, Try.ntmps46
  go_wp2_with (first
    | (at_builtin; refine wpList_append_own _ rfl _ _ 23 rfl w.heap.size 3 i0 (.int .i64 0) 1 8 Try.underlying23 hi hz0 hz1 hz2 rfl (by decide) (.slice (some ⟨w.heap.size + 1, 0, none⟩) 0 0) 0 [] rfl ⟨rfl, Or.inr ⟨w.heap.size + 1, 0, #[], rfl, by omega, HEB.out, by omega, by decide, rfl, rfl⟩⟩ ⟨b, off, none⟩ N cap (ws.map (fun x => Value.int .i64 x)) rfl (by simp [hl]) (fun j u hu => ?_) (fun u hu => ?_) (by unfold maxLen; omega) (by omega) (by rw [HES.out]; omega) ?_))
  · rw [List.getElem?_map] at hu
    obtain ⟨x, hx, rfl⟩ := Option.map_eq_some_iff.1 hu
    have hj : j < N := by have := (List.getElem?_eq_some_iff.1 hx).1; omega
    have e := (HK2.out.cell (p := ⟨b, off + j, none⟩) hb).trans (HW.out j hj)
    rw [show ws.getD j 0 = x by simp [List.getD, hx]] at e
    have ea : (⟨b, off, none⟩ : Addr).add j = ⟨b, off + j, none⟩ := by
      unfold Addr.add
      split
      · simp_all
      · rfl
    rw [ea]
    exact e
  · simp only [List.mem_map] at hu
    obtain ⟨x, _, rfl⟩ := hu
    rfl
  · intro v' w3 hown hgrow hnil
    obtain ⟨-, hh | ⟨g, cp, cur, rfl, hg, hcur, hcp, hcm, hcs, htk⟩⟩ := id hown
    · exact absurd hh.1 hnil
    obtain ⟨hrow, hlow⟩ := row_of_owns hl hown
    have hH : HeapBlk w3 w.heap.size (.slice (some ⟨b, off, none⟩) N cap) ⟨g1, g2, g3, g4, g5, g6, g7, g8, g9⟩ := (hgrow.block w.heap.size (by rw [HES.out]; omega) (by simp [Value.ownBlock])).trans HEA.out
    have hbw : Below w.heap.size w w3 := Below.grown HK2.out hgrow (by rw [HES.out]; omega) (fun j hj => by simp [Value.ownBlock] at hj; omega)
    have hne : g ≠ w.heap.size := by
      rintro rfl
      have e := hH
      unfold HeapBlk at e
      rw [hcur] at e
      simp at e
    obtain ⟨c0, c1, c2, c3, c4, c5, c6, c7, c8, c9⟩ := hH.cells
    dsimp only at c0 c1 c2 c3 c4 c5 c6 c7 c8 c9
    have f0 := frozen_of_heap hH 0
    have HCP : Hid (N ≤ cp) := by show _ ≤ _; omega
    have HB := hid hbw
    have HR := hid hrow
    have HH := hid hH
    have hsz := hbw.size
    clear hown hgrow hnil hcur hcp hcm hcs htk hbw hrow hH HK2 HEA HEB HES HW
    go_wp2_with fail
    go_ret
    have hs : (w3.setCell ⟨w.heap.size, 0, none⟩ (.slice (some ⟨g, 0, none⟩) N cp)).heap.size = w3.heap.size := by simp [World.setCell]
    have hgl := HR.out.lt
    refine ⟨w3.heap.size, g, cp, rfl, ⟨⟨?_, ?_, hl, by omega, Frm.of_below ((HB.out.setCell (Nat.le_refl _) _).alloc (by rw [hs]; exact hsz) _)⟩, HCP.out⟩, hsz, hlow⟩
    · have e := (MapKept.heap_alloc (w3.setCell ⟨w.heap.size, 0, none⟩ (.slice (some ⟨g, 0, none⟩) N cp)) (.cells #[.slice (some ⟨g, 0, none⟩) N cp, .int .i64 g1, .int .i64 g2, .int .i64 g3, .int .i64 g4, .int .i64 g5, .int .i64 g6, .int .i64 g7, .int .i64 g8, .int .i64 g9, .bool false] 82)).1
      rw [hs] at e
      unfold WkBlk
      rw [HT.out]
      exact e
    · refine HR.out.of_block ?_
      have e1 := ((Below.refl (w3.setCell ⟨w.heap.size, 0, none⟩ (.slice (some ⟨g, 0, none⟩) N cp)).heap.size _).alloc (Nat.le_refl _) (.cells #[.slice (some ⟨g, 0, none⟩) N cp, .int .i64 g1, .int .i64 g2, .int .i64 g3, .int .i64 g4, .int .i64 g5, .int .i64 g6, .int .i64 g7, .int .i64 g8, .int .i64 g9, .bool false] 82)).block g (by rw [hs]; exact hgl)
      exact e1.trans (Below.heap_setCell _ _ _ _ hne)
end Go.Proofs.Ytebpgglegnljgaa

/- The drawer of heaps: whatever is drawn, a heap and four roots come of it. -/
namespace Go.Proofs.Ytebpgglegnljgaa
open Go.RowKit Go.Deep

set_option maxRecDepth 100000 in
theorem unit_calls (w : World) : Calls Try.prog 84 #[] w fun e w' => e = .returned (.int .i64 3) ∧ w = w' := by
  go_enter Try.func84, Try.ntmps84
  go_wp2_with fail
  have e1 := specMake_calls 3 0 w
  rw [show makeZ 3 0 = 3 by unfold makeZ wrap64; omega] at e1
  refine e1.mono ?_
  rintro e w1 ⟨rfl, rfl⟩
  go_wp2_with fail
  go_ret
  exact ⟨rfl, rfl⟩

set_option maxRecDepth 100000 in
theorem five_calls (w : World) : Calls Try.prog 85 #[.int .i64 5] w fun e w' => e = .returned (.int .i64 41) ∧ w = w' := by
  go_enter Try.func85, Try.ntmps85
  go_wp2_with fail
  have e1 := specMake_calls 1 5 w
  rw [show makeZ 1 5 = 41 by unfold makeZ wrap64; omega] at e1
  refine e1.mono ?_
  rintro e w1 ⟨rfl, rfl⟩
  go_wp2_with fail
  go_ret
  exact ⟨rfl, rfl⟩

/-- A new heap is one that may be. -/
theorem new_ok {s : Nat} (h0 : 20 ≤ s) (h1 : s ≤ 4000) : OkHeap (List.replicate (2 * s) 0) (List.replicate (2 * s) 0) (newHeap s) := by
  refine ok_of_dyn ?_
  have z : ∀ a : Nat, (List.replicate (2 * s) (0 : Int)).getD a 0 = 0 := zeros_getD _
  unfold newHeap
  refine ⟨?_, rfl, fun a ha => absurd (z a) ha, fun a ha => absurd (z a) ha, fun a b _ ha _ => absurd (z a) ha, LayRow.nil _, ?_, fun k => ?_, fun k => ?_, fun a ha => absurd (z a) ha, fun a ha => absurd (z a) ha, fun a ha => absurd (z a) ha⟩
  · unfold Ordered
    rw [List.length_replicate]
    dsimp only
    omega
  · dsimp only
    rw [show (0 + (s : Int)).toNat = (s : Int).toNat by omega]
    exact LayRow.nil _
  · dsimp only at k
    omega
  · dsimp only at k
    omega

/-- What drawing comes to: a worker and four roots. -/
def WorkP (p : Pl) (e : Ending) (W' : World) : Prop :=
  ∃ (bm bw cp g q : Nat) (ws : List Int) (h : HpN) (full : Bool) (rs : List Int) (gc : Nat), e = .returned (.tuple #[.pointer (some ⟨bm, 0, none⟩), .slice (some ⟨g, 0, none⟩) 4 gc]) ∧ Sw { p with bm := bm, bw := bw, cp := cp, g := g, N := ws.length } q ws h full rs W' ∧ q ≤ 1000 ∧ (4 ≤ gc ∧ ws.length ≤ cp) ∧ ws.length ≤ 8000 ∧ 0 < ws.length ∧ h.flips ≤ 100 ∧ h.touched ≤ 100000000

theorem frm_below {X W : World} {b1 b2 : Nat} (f : Frm X b1 b2 W) (h1 : X.heap.size ≤ b1) (h2 : X.heap.size ≤ b2) : Below X.heap.size X W := ⟨f.os, f.tape, f.output, f.size, fun k hk => f.block k hk (by omega) (by omega)⟩

theorem four_row (W : World) (a b c d : Int) : CellRow 3 (W.alloc (.cells #[.int .i64 a, .int .i64 b, .int .i64 c, .int .i64 d] 3)) W.heap.size 4 (intCells [a, b, c, d]) := by
  refine ⟨4, intCells [a, b, c, d], rw_of_row (World.rowIs_alloc W _ 3 (intCells [a, b, c, d]) (fun i hi => ?_)) 4, Nat.le_refl _, fun _ _ => rfl⟩
  have h : i = 0 ∨ i = 1 ∨ i = 2 ∨ i = 3 := by
    have : i < 4 := hi
    omega
  rcases h with rfl | rfl | rfl | rfl <;> rfl

/-- What is known at the head of the loop. -/
structure Hd (p : Pl) (k q : Nat) (ws : List Int) (h : HpN) (full : Bool) (rs : List Int) (W : World) : Prop where
  sw : Sw p q ws h full rs W
  k0 : k ≤ 60
  q0 : q ≤ 2 + 16 * k
  good : full = false → Gd ws h rs k
  fl : h.flips ≤ 100
  tc : h.touched ≤ 100000000

theorem plain_ok {S : List Int} {h : HpN} {x : Int} (h1 : x % 8 ≠ 0) (h2 : x % 8 ≤ 4) : wordOkZ S h x = true := by
  unfold wordOkZ
  rw [if_neg h1]
  exact decide_eq_true h2

/-- A call, or one that makes something: whichever comes up. -/
theorem pick_callOr {P : Program} {l0 : List Oper} {Q : Exit → Act → World → Prop} {S : World → Prop} {i j n : Nat} {ls : Array Bool} {a : Act} {w : World} (hr : (Region.ready .any l0.toArray ls == [i, j]) = true) (h1 : PickCl P l0 Q S n ls a w i) (h2 : PickMk P l0 Q S n ls a w j) : wpAnyH P .any l0.toArray (NoPanic Q) S (n + 1) ls a w := by
  refine wpAnyH_all (rs := [i, j]) (by simpa using hr) (by simp) (fun k hk => ?_)
  simp only [List.mem_cons, List.not_mem_nil, or_false] at hk
  rcases hk with rfl | rfl
  · exact h1.op
  · exact h2.op

theorem Sw.rootcell {p : Pl} {q : Nat} {ws : List Int} {h : HpN} {full : Bool} {rs : List Int} {W : World} (s : Sw p q ws h full rs W) {k : Nat} (hk : k < 4) : W.cell? ⟨p.g, k, none⟩ = some (.int .i64 (rs.getD k 0)) ∧ W.frozen? ⟨p.g, k, none⟩ = false := by
  refine ⟨s.rt.cell hk, ?_⟩
  obtain ⟨N, f, hr, h1, h2⟩ := s.rt
  exact hr.frozen k hk

/-- What reading a field comes to, and a root that is set behind it. -/
def FldEnd (P : Pl) (k q : Nat) (rs : List Int) (z : Int) (X : World) : Prop := ∃ ws2 h2 fu, Sw P q ws2 h2 fu rs X ∧ h2.flips ≤ 100 ∧ h2.touched ≤ 100000000 ∧ ∀ r, r < 4 → fu = false → Gd ws2 h2 (rs.set r z) (k + 1)

theorem roots_set {S rs : List Int} {h : HpN} {r : Nat} {z : Int} (hr : ∀ i, i < rs.length → wordOkZ S h (rs.getD i 0) = true) (hz : wordOkZ S h z = true) : ∀ i, i < (rs.set r z).length → wordOkZ S h ((rs.set r z).getD i 0) = true := fun i hi => by
  rw [List.length_set] at hi
  rw [getD_set]
  split
  · exact hz
  · exact hr i hi

theorem sw_field {P : Pl} {q : Nat} {ws S rs : List Int} {h : HpN} {X : World} {x0 : Int} {mi n k : Nat} (s : Sw P q ws h false rs X) (ok : OkHeap ws S h) (hr : ∀ i, i < rs.length → wordOkZ S h (rs.getD i 0) = true) (hx : wordOkZ S h x0 = true) (hx8 : x0 % 8 = 0) (hs : S.getD (x0 / 8).toNat 0 = ((1 + n : Nat) : Int)) (hmi : mi < n) (hfl : h.flips ≤ (k + 1 : Nat)) (hk : k ≤ 60) (htc : h.touched ≤ 300000 * k + 150000) :
    Calls Try.prog 55 #[.pointer (some ⟨P.bm, 0, none⟩), .int .i64 x0, .int .i64 (mi : Int)] X fun e Xd => ∃ z, e = .returned (.int .i64 z) ∧ FldEnd P k q rs z Xd := by
  obtain ⟨l1, l2, l3, l4⟩ := ((used_iff ok x0).1 hx).2 hx8
  have hin := l4.resolve_right id
  obtain ⟨a, ha⟩ := Int.eq_ofNat_of_zero_le l1
  rw [ha, Int.toNat_natCast] at l3 hin hs
  have hst := used_stays ok l3 (ins_iff.1 hin)
  have hgood := field_good ok l3 hst (i := mi) (by omega)
  have hmv := good_move (h := h) (heads_noted ok.noted) hgood
  have hhe := good_here ok.ord hgood
  have hbe := (dyn_of_ok ok).below l3
  obtain ⟨o1, o2, o3, o4, o5, o6, o7, o8, o9, o10, o11, o12, o13⟩ := id ok.ord
  have hN := s.len
  have hcnt := field_count (h := h) hmv
  rw [hN] at hmv o3 hbe
  refine (sfield_calls (s.worker o6 (by omega)) x0 mi (a + 1 + mi) (by omega) (by omega) (by omega) (by omega) (by omega) (by omega) (show 0 ≤ h.to by omega) (show h.to ≤ h.size by omega) o2 (show 0 ≤ h.bottom by omega) o9 (show h.top ≤ (P.N : Int) by omega) (by omega) hmv hhe).mono ?_
  rintro e Xd ⟨⟨z, rfl, hz⟩, hwk⟩
  have hke := fun (u : Int) (s2 : CN) (he : fieldZ ⟨ws, h, 0, 0⟩ (a + (1 + mi)) = (some u, s2)) (ht : 0 ≤ touchZ s2) => keep_field ok hr l3 hin (by omega) (by rw [hs]; omega) he ht
  rw [show a + (1 + mi) = a + 1 + mi by omega] at hke
  generalize fieldZ ⟨ws, h, 0, 0⟩ (a + 1 + mi) = R at *
  obtain ⟨o, s2⟩ := R
  dsimp only at hz hwk hcnt hke
  obtain ⟨k1, k2, k3, k4⟩ := hcnt
  have et : touchZ s2 = h.touched + (s2.r + s2.t) := by
    unfold touchZ wrap64
    omega
  have fr := hwk.frame
  have hb := s.o1
  have hb2 := s.o2
  have hlow := s.low
  obtain ⟨g1, g2, g3, g4⟩ := s.lt
  have bel : Grw P.B P.w0 Xd := s.below.step ⟨fr.os, fr.tape, fr.output, fr.size, fun j hj => fr.block j (by have := s.below.size; omega) (by omega) (by omega)⟩
  refine ⟨z, rfl, s2.ws, { s2.h with touched := touchZ s2 }, o.isNone, s.worked (hwk.rebase Xd (Frm.refl _ _ _)) (s.rt.of_block (fr.block _ g4 (Ne.symm s.n2) (Ne.symm s.n3))) s.rl (fun j hj => fr.block j (by omega) (by omega) (by omega)) bel, ?_, ?_, fun r hr4 hfu => ?_⟩
  · dsimp only
    omega
  · dsimp only
    omega
  · cases o with
    | none => cases hfu
    | some u =>
      obtain ⟨S', T, hfl'⟩ := hke u s2 rfl (by omega)
      have hzu := hz u rfl
      refine ⟨⟨S', T.still.ok, roots_set T.still.roots (by rw [hzu]; exact T.word)⟩, ?_, ?_⟩
      · dsimp only
        rw [hfl']
        exact hfl
      · dsimp only
        rw [et]
        push_cast
        omega

/-- What is known behind the making of an object. -/
structure Aft (ws : List Int) (h : HpN) (rs : List Int) (x0 : Int) (n k : Nat) : Prop where
  ok : ∃ S, OkHeap ws S h ∧ (∀ i, i < rs.length → wordOkZ S h (rs.getD i 0) = true) ∧ wordOkZ S h x0 = true ∧ S.getD (x0 / 8).toNat 0 = ((1 + n : Nat) : Int)
  x8 : x0 % 8 = 0
  fl : h.flips ≤ (k + 1 : Nat)
  tc : h.touched ≤ 300000 * k + 150000
  t0 : 0 ≤ h.touched

theorem Aft.set {ws : List Int} {h : HpN} {rs : List Int} {x0 : Int} {n k : Nat} (a : Aft ws h rs x0 n k) (r : Nat) {y : Int} (hy : y = x0 ∨ (y % 8 ≠ 0 ∧ y % 8 ≤ 4)) : Aft ws h (rs.set r y) x0 n k := by
  obtain ⟨S, ok, h1, h2, h3⟩ := a.ok
  refine ⟨⟨S, ok, roots_set h1 ?_, h2, h3⟩, a.x8, a.fl, a.tc, a.t0⟩
  rcases hy with rfl | hy
  · exact h2
  · exact plain_ok hy.1 hy.2

theorem Aft.good {ws : List Int} {h : HpN} {rs : List Int} {x0 : Int} {n k : Nat} (a : Aft ws h rs x0 n k) : Gd ws h rs (k + 1) := by
  obtain ⟨S, ok, h1, h2, h3⟩ := a.ok
  exact ⟨⟨S, ok, h1⟩, a.fl, by have := a.tc; push_cast; omega⟩

theorem makeZ_ptr {t : Int} (h0 : 0 ≤ t) (h1 : t ≤ 8000) : makeZ 0 t = 8 * t := by
  unfold makeZ wrap64
  rw [if_neg (by omega)]
  omega

set_option maxHeartbeats 16000000 in
set_option maxRecDepth 100000 in
theorem work_calls (p : Pl) (W : World) (hr : Rd p.B p.a0 p.n p.cap 0 W) (hlow : p.B < p.w0.heap.size) (hb : Grw p.B p.w0 W) : Calls Try.prog 57 #[.pointer (some ⟨p.B, 0, none⟩)] W (WorkP p) := by
  have HP := hid (rd_picks hr (by omega) 100 (by omega))
  have HL := hid hlow
  have HB := hid hb
  have HR := hid hr
  clear hr hlow hb
  go_enter Try.func57, Try.ntmps57
  go_wp2_with fail
  refine HP.out.mono ?_
  rintro e W1 ⟨m, rfl, h0, h1, hr1, ho1⟩
  obtain ⟨s, hs⟩ := Int.eq_ofNat_of_zero_le (show 0 ≤ 20 + m by omega)
  have HS : Hid (20 ≤ s ∧ s ≤ 119) := by show _ ∧ _; omega
  have hw1 : wrap64 (20 + m) = (s : Int) := by unfold wrap64; omega
  have R1 := hid hr1
  have B1 := hid (HB.out.only ho1)
  clear hr1 ho1 HP h0 h1 hs
  go_wp2_with fail
  try rw [hw1]
  refine (specNew_ok s W1 HS.out.1 (by have := HS.out; omega)).mono ?_
  rintro e W2 ⟨⟨v, rfl, hv⟩, hb2⟩
  rw [List.length_replicate] at hv
  have hs0 := HS.out.1
  obtain ⟨ad, cpv, rfl, hh⟩ := hv
  obtain ⟨gv, rfl, hgv, hrow⟩ := hh.resolve_left (by omega)
  rw [Nat.mul_one] at hrow
  have R2 := hid (R1.out.same (fun k hk => hb2.block k (by have := heap_lt R1.out.blk; omega)))
  have B2 := hid (B1.out.keep hb2)
  have HO : Hid (∀ X, Below W2.heap.size W2 X → Calls Try.prog 46 #[heapV (.slice (some ⟨gv, 0, none⟩) (2 * s) cpv) (newHeap s)] X fun e w' => ∃ bm bw cap' : Nat, e = .returned (.pointer (some ⟨bm, 0, none⟩)) ∧ (Wk X bm bw (2 * s) cap' ⟨List.replicate (2 * s) 0, newHeap s, 0, 0⟩ false w' ∧ 2 * s ≤ cap') ∧ X.heap.size ≤ bm ∧ X.heap.size ≤ bw) := fun X hX => open_cap gv 0 cpv (2 * s) (List.replicate (2 * s) 0) (newHeap s) X (by omega) (List.length_replicate ..) (by have := HS.out; omega) (Nat.lt_of_lt_of_le hrow.lt hX.size) (fun k hk => by rw [Nat.zero_add]; exact (hX.cell (p := ⟨gv, k, none⟩) hrow.lt).trans (hrow.cell hk)) (by show (0 : Int) ≤ 0; decide) (by show (0 : Int) < 9223372036854775808; decide)
  clear hh hgv hrow hb2 R1 B1 hw1 hs0
  unfold heapV newHeap at HO ⊢
  dsimp only at HO ⊢
  go_wp2_with fail
  refine (HO.out _ ((Below.refl _ _).alloc (Nat.le_refl _) _)).mono ?_
  rintro e W3 ⟨bm, bw, cp, rfl, ⟨hk, hcp⟩, hbm, hbw⟩
  have HCp := hid hcp
  clear hcp
  have hX := ((Below.refl W2.heap.size W2).alloc (Nat.le_refl _) (.cells #[.slice (some ⟨gv, 0, none⟩) (2 * s) cpv, .int .i64 (s : Int), .int .i64 0, .int .i64 0, .int .i64 (s : Int), .int .i64 0, .int .i64 (s : Int), .int .i64 (2 * (s : Int)), .int .i64 0, .int .i64 0] 25))
  have hX3 := hX.trans ((frm_below hk.frame hbm hbw).mono hX.size)
  have R3 := hid (R2.out.same (fun k hk => hX3.block k (by have := heap_lt R2.out.blk; omega)))
  have B3 := hid (B2.out.keep hX3)
  have HK := hid (hk.rebase W3 (Frm.refl _ _ _))
  have HM : Hid (p.w0.heap.size ≤ bm ∧ p.w0.heap.size ≤ bw) := by have h1 := B2.out.size; have h2 := hX.size; exact ⟨by omega, by omega⟩
  clear hX3 hX hk hbm hbw R2 B2 HO HB HR
  go_wp2_with fail
  refine (unit_calls W3).mono ?_
  rintro e W4 ⟨rfl, rfl⟩
  go_wp2_with fail
  refine (unit_calls W3).mono ?_
  rintro e W4 ⟨rfl, rfl⟩
  go_wp2_with fail
  refine (five_calls W3).mono ?_
  rintro e W4 ⟨rfl, rfl⟩
  go_wp2_with fail
  have e4 := specMake_calls 4 0 W3
  rw [show makeZ 4 0 = 4 by unfold makeZ wrap64; omega] at e4
  refine e4.mono ?_
  rintro e W4 ⟨rfl, rfl⟩
  clear e4
  have HSw : Hid (Sw { p with bm := bm, bw := bw, cp := cp, g := W3.heap.size, N := 2 * s } 1 (List.replicate (2 * s) 0) (newHeap s) false [3, 3, 41, 4] (W3.alloc (.cells #[.int .i64 3, .int .i64 3, .int .i64 41, .int .i64 4] 3))) := by
    have hb := (Below.refl W3.heap.size W3).alloc (Nat.le_refl _) (.cells #[.int .i64 3, .int .i64 3, .int .i64 41, .int .i64 4] 3)
    have K := HK.out.keep hb
    have hB := heap_lt R3.out.blk
    have et : touchZ ⟨List.replicate (2 * s) 0, newHeap s, 0, 0⟩ = (newHeap s).touched := by unfold touchZ wrap64 newHeap; dsimp only; omega
    have kb : WkBlk _ bm (.slice (some ⟨bw, 0, none⟩) (2 * s) cp) (newHeap s) (touchZ ⟨List.replicate (2 * s) 0, newHeap s, 0, 0⟩) false := K.blk
    rw [et] at kb
    exact ⟨R3.out.same (fun k hk => hb.block k (by omega)), kb, K.row, K.len, four_row W3 3 3 41 4, rfl, HM.out.1, HM.out.2, B3.out.size, K.ne, (by have := heap_lt HK.out.blk; dsimp only; omega), (by have := HK.out.row.lt; dsimp only; omega), HL.out, B3.out.keep hb⟩
  obtain ⟨W5, hW5⟩ : ∃ X, W3.alloc (.cells #[.int .i64 3, .int .i64 3, .int .i64 41, .int .i64 4] 3) = X := ⟨_, rfl⟩
  obtain ⟨g, hg⟩ : ∃ g, W3.heap.size = g := ⟨_, rfl⟩
  rw [hW5, hg] at HSw
  clear HK HM R3 B3
  go_wp2_with fail
  clear hW5 hg
  refine (HSw.out.pick (by omega) 60 (by omega)).mono ?_
  rintro e W6 ⟨n, rfl, hn0, hn1, hs6, -⟩
  have HN : Hid (n ≤ 60) := by show _ ≤ _; omega
  have H6 : Hid (Hd { p with bm := bm, bw := bw, cp := cp, g := g, N := 2 * s } 0 2 (List.replicate (2 * s) 0) (newHeap s) false [3, 3, 41, 4] W6) := by
    refine ⟨hs6, by omega, by omega, fun _ => ⟨⟨_, new_ok HS.out.1 (by have := HS.out; omega), fun i hi => ?_⟩, by show (0 : Int) ≤ 0; omega, by show (0 : Int) ≤ 300000 * 0; omega⟩, by show (0 : Int) ≤ 100; omega, by show (0 : Int) ≤ 100000000; omega⟩
    have h : i = 0 ∨ i = 1 ∨ i = 2 ∨ i = 3 := by
      have : i < 4 := hi
      omega
    rcases h with rfl | rfl | rfl | rfl <;> exact plain_ok (by decide) (by decide)
  clear hs6 HSw hn0 hn1
  go_wp2_with fail
  go_loopw [9] (fun i wr => ∃ (ii : Int) (k q : Nat) (ws : List Int) (h : HpN) (full : Bool) (rs : List Int), i = .int .i64 ii ∧ Hid (ii = (k : Int)) ∧ Hid (Hd { p with bm := bm, bw := bw, cp := cp, g := g, N := 2 * s } k q ws h full rs wr)) (fun i _ => 61 - (intOf i).toNat)
  case atStart => exact ⟨0, 0, 2, _, _, false, _, rfl, rfl, H6⟩
  case round =>
    clear H6
    obtain ⟨ii, k, q, ws, h, full, rs, rfl, HQ, HH⟩ := hrel
    rename World => wo
    have hend : ∀ (fu : Bool) (W' : World), Hd { p with bm := bm, bw := bw, cp := cp, g := g, N := 2 * s } k q ws h fu rs W' → WorkP p (.returned (.tuple #[.pointer (some ⟨bm, 0, none⟩), .slice (some ⟨g, 0, none⟩) 4 4])) W' := fun fu W' hd => by
      have hl : ws.length = 2 * s := hd.sw.len
      refine ⟨bm, bw, cp, g, q, ws, h, fu, rs, 4, rfl, ?_, by have := hd.q0; have := hd.k0; omega, ⟨by omega, by rw [hl]; exact HCp.out⟩, by have := HS.out; omega, by have := HS.out; omega, hd.fl, hd.tc⟩
      rw [hl]
      exact hd.sw
    have HEnd := hid hend
    clear hend
    by_cases hlt : ii < n
    · cases full with
      | true =>
        have c10 := HH.out.sw.wk.cells.2.2.2.2.2.2.2.2.2.2
        dsimp only at c10
        go_wp2_with fail
        exact bodyPost_ret (results_tmp2 (fn := Try.f57) rfl _ _ _) rfl (HEnd.out _ _ HH.out)
      | false =>
        have hG := HH.out.good rfl
        have c10 := HH.out.sw.wk.cells.2.2.2.2.2.2.2.2.2.2
        dsimp only at c10
        have HGd := hid hG
        clear hG
        have HB8 := hid (HH.out.sw.pick (by have := HH.out.q0; have := HH.out.k0; omega) 8 (by omega))
        go_wp2_with fail
        clear c10
        refine HB8.out.mono ?_
        rintro e W7 ⟨m8, rfl, h80, h81, hs7, -⟩
        have HS7 := hid hs7
        obtain ⟨kd, hkd⟩ : ∃ kd, 1 + m8 = kd := ⟨_, rfl⟩
        have HKd : Hid (1 ≤ kd ∧ kd ≤ 8) := by show _ ∧ _; omega
        have hw8 : wrap64 (1 + m8) = kd := by rw [← hkd]; unfold wrap64; omega
        have hF := fieldsZ_kind HKd.out.1 HKd.out.2
        obtain ⟨F, hFF⟩ : ∃ F, fieldsZ kd = F := ⟨_, rfl⟩
        have HF : Hid (fieldsZ kd = F ∧ (F = 2 ∨ F = 5)) := by show _ ∧ _; rw [← hFF]; exact ⟨rfl, hF⟩
        clear hF hFF h80 h81 hs7 HB8 hkd
        go_wp2_with fail
        rw [hw8]
        clear hw8
        have HM : Hid (p.B < W7.heap.size ∧ bm < W7.heap.size ∧ bw < W7.heap.size ∧ g < W7.heap.size) := HS7.out.lt
        have HQb : Hid (q ≤ 2 + 16 * k ∧ k ≤ 60) := ⟨HH.out.q0, HH.out.k0⟩
        have HQk : Hid (k < 60) := by show _ < _; have := HN.out; have := HQ.out; omega
        have HTc : Hid (0 ≤ h.touched ∧ h.touched < 9223372036854775808) := by
          obtain ⟨S, ok, -⟩ := HGd.out.ok
          exact ⟨ok.ord.2.2.2.2.2.1, by have := HH.out.tc; omega⟩
        have HTc8 : Hid (h.touched ≤ 100000000) := HH.out.tc
        clear HH HEnd
        go_loopw [11, 12] (fun fv kv wr => ∃ (fs : List Int) (j : Nat) (ji : Int) (af : Option Addr) (cf : Nat), fv = .slice af j cf ∧ kv = .int .i64 ji ∧ Hid (ji = (j : Int) ∧ (j : Int) ≤ F ∧ fs.length = j) ∧ Hid (wr.ownsRow W7.heap.size 3 1 (.slice af j cf) j (fs.map (fun x => Value.int .i64 x))) ∧ Hid (Sw { p with bm := bm, bw := bw, cp := cp, g := g, N := 2 * s } (q + 1 + j) ws h false rs wr) ∧ Hid (∀ i, i < fs.length → ∃ r, r < 4 ∧ fs.getD i 0 = rs.getD r 0) ∧ Hid (W7.heap.size ≤ wr.heap.size)) (fun _ kv _ => 6 - (intOf kv).toNat)
        case atStart => exact ⟨[], 0, 0, none, 0, rfl, rfl, ⟨rfl, by have := HF.out; omega, rfl⟩, ⟨rfl, Or.inl ⟨rfl, rfl⟩⟩, HS7, (fun i hi => (by cases hi)), Nat.le_refl _⟩
        case round =>
          clear HS7
          obtain ⟨fs, j, ji, af, cf, rfl, rfl, HJ, HOw, HSj, HFs, HLe⟩ := hrel
          have HFc : Hid (∀ w, Calls Try.prog 29 #[.int .i64 kd] w fun e w' => e = .returned (.int .i64 F) ∧ w = w') := fun w => by
            have e := specFields_calls kd w
            rw [HF.out.1] at e
            exact e
          by_cases hjF : ji < F
          · have HJ5 : Hid (j ≤ 4) := by show _ ≤ _; have := HJ.out; have := HF.out; omega
            have HPk := hid (HSj.out.pick (by have := HQb.out; have := HJ5.out; omega) 4 (by omega))
            go_wp2_with fail
            refine (HFc.out _).mono ?_
            rintro e w1 ⟨rfl, rfl⟩
            go_wp2_with fail
            refine HPk.out.mono ?_
            rintro e W8 ⟨m4, rfl, h40, h41, hs8, ho8⟩
            obtain ⟨mn, rfl⟩ := Int.eq_ofNat_of_zero_le h40
            have hmn : mn < 4 := by omega
            have cg := hs8.rt.cell hmn
            dsimp only at cg
            unfold intCells at cg
            have HFx : Hid (∃ r, r < 4 ∧ rs.getD mn 0 = rs.getD r 0) := ⟨mn, hmn, rfl⟩
            generalize rs.getD mn 0 = x at cg HFx
            have HS8 := hid hs8
            have HO8 := hid (own_only HOw.out ho8 HM.out.1)
            have HL8 : Hid (W7.heap.size ≤ W8.heap.size) := by show _ ≤ _; rw [ho8.size]; exact HLe.out
            have hstep : 6 - (intOf (.int .i64 (ji + 1))).toNat < 6 - (intOf (.int .i64 ji)).toNat := by have := HJ.out; simp only [intOf]; have := HJ5.out; omega
            have hwj : wrap64 (ji + 1) = ji + 1 := by have := HJ.out; have := HJ5.out; unfold wrap64; omega
            obtain ⟨i0, hi, hz0, hz1, hz2⟩ := info_parts info_int
            clear hs8 ho8 HPk HOw HSj HLe
            go_wp2_with (first
              | (at_builtin; refine wpList_append_own _ rfl _ _ 23 rfl W7.heap.size 3 i0 (.int .i64 0) 1 8 Try.underlying23 hi hz0 hz1 hz2 rfl (by decide) _ _ _ rfl (World.ownsRow.alloc HO8.out _) ⟨W8.heap.size, 0, none⟩ 1 1 [.int .i64 x] rfl rfl (cell_one_new W8 x) (fun u hu => by simp at hu; subst hu; rfl) (by have := HJ5.out; unfold maxLen; omega) (by have := HJ5.out; omega) (by have := HL8.out; simp; omega) ?_
                 intro v' w3 hown3 hgrow3 _
                 have HS3 := hid ((HS8.out.keep ((Below.refl _ _).alloc (Nat.le_refl _) _)).grown HM.out hgrow3 (fun k hk => (HO8.out.lt k hk).1))
                 have HL3 : Hid (W7.heap.size ≤ w3.heap.size) := by show _ ≤ _; have h1 := hgrow3.size; have h2 := HL8.out; simp at h1; omega
                 have HO3 := hid hown3
                 clear hown3 hgrow3
                 obtain ⟨av', cv', rfl⟩ := own_sl HO3.out))
            rw [hwj]
            refine ⟨⟨fs ++ [x], j + 1, ji + 1, av', cv', rfl, rfl, ⟨by have := HJ.out; push_cast; omega, by have := HJ.out; push_cast; omega, by rw [List.length_append, HJ.out.2.2]; rfl⟩, by rw [List.map_append]; exact HO3, HS3, (fun i hi => ?_), HL3⟩, hstep⟩
            by_cases hif : i < fs.length
            · obtain ⟨r, h1, h2⟩ := HFs.out i hif
              exact ⟨r, h1, by rw [← h2]; simp [List.getD, List.getElem?_append_left hif]⟩
            · have e : i = fs.length := by rw [List.length_append] at hi; simp at hi; omega
              obtain ⟨r, h1, h2⟩ := HFx.out
              exact ⟨r, h1, by rw [← h2, e]; simp [List.getD]⟩
          · have HJn : Hid (fieldsZ kd = (fs.length : Int) ∧ (fs.length = 2 ∨ fs.length = 5) ∧ fs.length = j) := by
              have h1 := HJ.out
              have h2 := HF.out
              refine ⟨by rw [h2.1]; omega, by omega, h1.2.2⟩
            obtain ⟨gf, rfl⟩ : ∃ gf, af = some ⟨gf, 0, none⟩ := by
              obtain ⟨-, ⟨h1, h2⟩ | ⟨g', cap', cur, h1, -⟩⟩ := HOw.out
              · have := HJn.out
                omega
              · cases h1
                exact ⟨g', rfl⟩
            have HRf := hid (row_of_owns HJn.out.2.2 HOw.out)
            obtain ⟨c0, c1, c2, c3, c4, c5, c6, c7, c8, c9, -⟩ := HSj.out.wk.cells
            have hS20 := HS.out
            have HOp := hid (open_cap bw 0 cp (2 * s) ws h wr (by omega) HSj.out.len (by omega) HSj.out.row.lt (fun i hi => by rw [Nat.zero_add]; exact HSj.out.row.cell hi) HTc.out.1 HTc.out.2)
            clear hS20 HOw HLe
            go_wp2_with fail
            refine (HFc.out _).mono ?_
            rintro e w1 ⟨rfl, rfl⟩
            try dsimp only at c0 c1 c2 c3 c4 c5 c6 c7 c8 c9
            go_wp2_with fail
            refine HOp.out.mono ?_
            rintro e W9 ⟨bm2, bw2, cp2, rfl, ⟨hk, hcp2⟩, hb1, hb2⟩
            have HCp2 := hid hcp2
            clear hcp2
            have hb9 := frm_below hk.frame hb1 hb2
            have HK2 := hid (hk.rebase W9 (Frm.refl _ _ _))
            have HS9 := hid (HSj.out.keep hb9)
            have HRf9 : Hid (CellRow 3 W9 gf j (intCells fs) ∧ W7.heap.size ≤ gf ∧ gf < wr.heap.size) := ⟨HRf.out.1.of_block (hb9.block _ HRf.out.1.lt), HRf.out.2, HRf.out.1.lt⟩
            have HB2 : Hid (wr.heap.size ≤ bm2 ∧ wr.heap.size ≤ bw2 ∧ wr.heap.size ≤ W9.heap.size) := ⟨hb1, hb2, hb9.size⟩
            have HM9 : Hid (p.B < wr.heap.size ∧ bm < wr.heap.size ∧ bw < wr.heap.size ∧ g < wr.heap.size) := HSj.out.lt
            clear hjF hk hb1 hb2 hb9 c0 c1 c2 c3 c4 c5 c6 c7 c8 c9 HOp HRf HSj HFc
            obtain ⟨i0, hi, hz0, hz1, hz2⟩ := info_parts info_int
            have HE9 := hid (MapKept.heap_alloc W9 (.cells #[] 3)).1
            have HA9 := hid ((Below.refl W9.heap.size W9).alloc (Nat.le_refl _) (.cells #[] 3))
            go_wp2_with (first
              | (at_builtin; refine wpList_append_own _ rfl _ _ 23 rfl W9.heap.size 3 i0 (.int .i64 0) 1 8 Try.underlying23 hi hz0 hz1 hz2 rfl (by decide) (.slice (some ⟨W9.heap.size, 0, none⟩) 0 0) 0 [] rfl ⟨rfl, Or.inr ⟨W9.heap.size, 0, #[], rfl, Nat.le_refl _, HE9.out, Nat.le_refl _, by decide, rfl, rfl⟩⟩ ⟨g, 0, none⟩ 4 4 (rs.map (fun x => Value.int .i64 x)) rfl (by rw [List.length_map, HS9.out.rl]) (fun j u hu => ?_) (fun u hu => ?_) (by unfold maxLen; omega) (by omega) (by simp) ?_))
            · rw [List.getElem?_map] at hu
              obtain ⟨x, hx, rfl⟩ := Option.map_eq_some_iff.1 hu
              have hj : j < 4 := by have := (List.getElem?_eq_some_iff.1 hx).1; rw [HS9.out.rl] at this; exact this
              have e := (HA9.out.cell (p := ⟨g, j, none⟩) HS9.out.rt.lt).trans (HS9.out.rt.cell hj)
              unfold intCells at e
              rw [show rs.getD j 0 = x by simp [List.getD, hx]] at e
              have ea : (⟨g, 0, none⟩ : Addr).add j = ⟨g, j, none⟩ := by
                unfold Addr.add
                split
                · simp_all
                · simp
              rw [ea]
              exact e
            · obtain ⟨x, -, rfl⟩ := List.mem_map.1 hu
              rfl
            intro v' W10 hown hgrow _
            obtain ⟨g2, gc2, rfl, h4⟩ : ∃ g2 gc2, v' = .slice (some ⟨g2, 0, none⟩) 4 gc2 ∧ 4 ≤ gc2 := by
              obtain ⟨-, ⟨-, h2⟩ | ⟨g', cap', cur, h1, -, -, h3, -⟩⟩ := hown
              · cases h2
              · exact ⟨g', cap', h1, h3⟩
            have hrg := row_of_owns (N := 4) HS9.out.rl (by simpa using hown)
            have hbl : Below W9.heap.size W9 W10 := HA9.out.grown hgrow (by simp) (fun k hk => by simp [Value.ownBlock] at hk; omega)
            have HS10 := hid (HS9.out.keep hbl)
            have HK10 := hid (HK2.out.keep hbl)
            have HR10 : Hid (CellRow 3 W10 gf j (intCells fs)) := HRf9.out.1.of_block (hbl.block _ HRf9.out.1.lt)
            have HB10 : Hid (W9.heap.size ≤ g2 ∧ 4 ≤ gc2) := ⟨hrg.2, h4⟩
            have HW2 : Hid (Sw { p with bm := bm2, bw := bw2, cp := cp2, g := g2, N := 2 * s } (q + 1 + j) ws h false rs W10) := by
              have k := HK10.out.blk
              have et : touchZ ⟨ws, h, 0, 0⟩ = h.touched := by
                have := HTc.out
                unfold touchZ wrap64
                dsimp only
                omega
              rw [et] at k
              have m9 := HM9.out
              have b2 := HB2.out
              have l1 := heap_lt HK2.out.blk
              have l2 := HK2.out.row.lt
              exact ⟨HS10.out.rd, k, HK10.out.row, HK10.out.len, hrg.1, HS9.out.rl, (by have hz := HS9.out.o1; dsimp only at hz ⊢; omega), (by have hz := HS9.out.o1; dsimp only at hz ⊢; omega), (by have hz := HS9.out.o1; dsimp only at hz ⊢; have := hrg.2; omega), HK10.out.ne, (by dsimp only; have := hrg.2; omega), (by dsimp only; have := hrg.2; omega), HL.out, HS10.out.below⟩
            clear hown hgrow hrg hbl h4 HE9 HA9 HS9 HK2 HK10
            go_wp2_with fail
            refine (HS10.out.pick (by have := HQb.out; have := HJn.out; omega) 3 (by omega)).mono ?_
            rintro e W11 ⟨m3, rfl, h30, h31, hs11, ho11⟩
            obtain ⟨mk, rfl⟩ := Int.eq_ofNat_of_zero_le h30
            have HS11 := hid hs11
            have HW11 := hid (HW2.out.beside hs11 ho11 rfl rfl rfl rfl)
            have HG := HRf9.out
            have HM9' := HM9.out
            have hm7 := HM.out
            have HR11 : CellRow 3 W11 gf j (intCells fs) := HR10.out.of_block (ho11.block _ (show gf ≠ p.B by have := HG.2; omega))
            obtain ⟨S, ok, hroots⟩ := HGd.out.ok
            have hfs : ∀ i, i < fs.length → wordOkZ S h (fs.getD i 0) = true := fun i hi => by
              obtain ⟨r, h1, h2⟩ := HFs.out i hi
              rw [h2]
              exact hroots r (by rw [hs11.rl]; exact h1)
            have hlen : ws.length = 2 * s := hs11.len
            have hrl : rs.length = 4 := hs11.rl
            have hkd := HKd.out
            have hjn := HJn.out
            have mok : MakeOk S (2 * s) 4 j mk ⟨ws, h, 0, 0⟩ rs fs kd := ⟨by rw [← hlen]; exact scn_start ok, fun s1 h1 => by rw [← hlen]; exact mvs_scanned ok h1, by omega, hrl, hjn.2.2, by omega, by omega, by omega, by omega, fun h' i hi => by rw [← hlen]; exact used_aim_any ok (hroots i hi) h', fun h' i hi => by rw [← hlen]; exact used_aim_any ok (hfs i hi) h'⟩
            have HMk := hid (snew_calls (gc := 4) (fc := cf) mok (hs11.worker HTc.out.1 HTc.out.2) (by have := HG.2; dsimp only; omega) (by have := HG.2; dsimp only; omega) (Ne.symm hs11.n2) (Ne.symm hs11.n3) (by have := HG.2; dsimp only; omega) HR11 hs11.rt)
            have HKp : Hid (∀ ys s', makeRun rs fs kd mk ⟨ws, h, 0, 0⟩ = some (ys, s') → ys.length = 4 ∧ 0 ≤ s'.h.top ∧ s'.h.top ≤ 8000 ∧ Aft s'.ws { s'.h with touched := touchZ s' } ys (8 * s'.h.top) j k) := fun ys s' he => by
              obtain ⟨c1, c2, c3⟩ := make_count ok hroots hfs (by omega) hjn.2.1 he
              have htc := HTc.out
              have hgt := HGd.out.tc
              have hgf := HGd.out.fl
              have hk6 := HQb.out.2
              have et : touchZ s' = h.touched + (s'.r + s'.t) := by
                unfold touchZ wrap64
                omega
              obtain ⟨S', md⟩ := keep_make ok hroots hfs hjn.1 hjn.2.1 (by omega) (by omega) (by omega) he (t := touchZ s') (by omega)
              have hy := md.still.same.1
              obtain ⟨o1, o2, o3, o4, o5, o6, o7, o8, o9, o10, o11, o12, o13⟩ := id md.still.ok.ord
              dsimp only at o1 o2 o3 o4 o5 o6 o7 o8 o9 o10 o11 o12 o13
              have hfl := md.flips
              refine ⟨by omega, by omega, by omega, ⟨⟨S', md.still.ok, md.still.roots, md.word, ?_⟩, by omega, by dsimp only; push_cast; omega, by dsimp only; omega, by dsimp only; omega⟩⟩
              rw [show 8 * s'.h.top / 8 = s'.h.top by omega, md.size, hjn.2.2]
            obtain ⟨o, ho⟩ : ∃ o, makeRun rs fs kd mk ⟨ws, h, 0, 0⟩ = o := ⟨_, rfl⟩
            rw [ho] at HMk HKp
            have HGe : Hid (W7.heap.size ≤ gf ∧ gf < wr.heap.size) := HG.2
            have HQk2 : Hid (q + 1 + j + 1 ≤ q + 7) := by show _ ≤ _; omega
            have HLn : Hid (ws.length = 2 * s ∧ h.flips ≤ 100) := ⟨hlen, by have := HGd.out.fl; have := HQb.out; omega⟩
            clear ho mok hkd hjn hrl hlen hfs hroots ok HR11 hm7 HM9' HG hs11 ho11 HS10 HW2 HRf9 HR10 HGd
            cases o with
            | none =>
              go_wp2_with fail
              refine HMk.out.mono ?_
              rintro e W12 ⟨rfl, ⟨s1, hwk⟩, f1, f2, f3, f4, f5⟩
              have c10 := hwk.blk.cells.2.2.2.2.2.2.2.2.2.2
              have HW12 : Hid (Sw { p with bm := bm2, bw := bw2, cp := cp2, g := g2, N := 2 * s } (q + 1 + j + 1) ws h false rs W12) := by
                have m9 := HM9.out
                have m7 := HM.out
                have b2 := HB2.out
                have b10 := HB10.out
                have ge := HGe.out
                obtain ⟨l1, l2, l3, l4⟩ := HW11.out.lt
                have lo := HL.out
                have q1 := HS11.out.o1
                have q2 := HS11.out.o2
                have q3 := HS11.out.o3
                dsimp only at l1 l2 l3 l4 q1 q2 q3
                refine HW11.out.blocks (fun x hx => f5 x ?_ ?_ ?_ ?_ ?_) (HW11.out.below.step ⟨f1, f2, f3, f4, fun x hx => f5 x ?_ ?_ ?_ ?_ ?_⟩)
                all_goals dsimp only at *
                all_goals omega
              clear hwk f1 f2 f3 f4 f5 HMk
              go_wp2_with fail
              refine bodyPost_ret (results_tmp2 (fn := Try.f57) rfl _ _ _) rfl ⟨bm2, bw2, cp2, g2, q + 1 + j + 1, ws, h, false, rs, gc2, rfl, ?_, by have := HQk2.out; have := HQb.out; omega, ⟨HB10.out.2, by rw [HLn.out.1]; exact HCp2.out⟩, by have := HLn.out; have := HS.out; omega, by have := HLn.out; have := HS.out; omega, HLn.out.2, HTc8.out⟩
              rw [HLn.out.1]
              exact HW12.out
            | some r =>
              obtain ⟨ys, s1⟩ := r
              obtain ⟨hy, ht0, ht8, haft⟩ := HKp.out ys s1 rfl
              go_wp2_with fail
              refine HMk.out.mono ?_
              rintro e W12 ⟨rfl, hwk, hrow, f1, f2, f3, f4, f5⟩
              rw [makeZ_ptr ht0 ht8]
              have HS12 : Hid (Sw { p with bm := bm, bw := bw, cp := cp, g := g, N := 2 * s } (q + 1 + j + 1) s1.ws { s1.h with touched := touchZ s1 } false ys W12) := by
                have m7 := HM.out
                have ge := HGe.out
                obtain ⟨l1, l2, l3, l4⟩ := HS11.out.lt
                have lo := HL.out
                have q1 := HS11.out.o1
                have q2 := HS11.out.o2
                have q3 := HS11.out.o3
                dsimp only at l1 l2 l3 l4 q1 q2 q3
                refine HS11.out.worked hwk hrow hy (fun x hx => f5 x ?_ ?_ ?_ ?_ ?_) (HS11.out.below.step ⟨f1, f2, f3, f4, fun x hx => f5 x ?_ ?_ ?_ ?_ ?_⟩)
                all_goals dsimp only at *
                all_goals omega
              have HAf := hid haft
              clear haft hwk hrow f1 f2 f3 f4 f5 HMk HKp HS11 HW11 ht0 ht8 hy
              obtain ⟨ws1, hws1⟩ : ∃ w, s1.ws = w := ⟨_, rfl⟩
              obtain ⟨h1, hh1⟩ : ∃ h, ({ s1.h with touched := touchZ s1 } : HpN) = h := ⟨_, rfl⟩
              obtain ⟨x0, hx0⟩ : ∃ x, 8 * s1.h.top = x := ⟨_, rfl⟩
              rw [hws1, hh1] at HS12 HAf
              rw [hx0] at HAf ⊢
              clear hws1 hh1 hx0
              have c10 := HS12.out.wk.cells.2.2.2.2.2.2.2.2.2.2
              dsimp only at c10
              go_wp2_with fail
              clear c10
              refine (HS12.out.pick (by have := HQk2.out; have := HQb.out; omega) 4 (by omega)).mono ?_
              rintro e W13 ⟨m4, rfl, h40, h41, hs13, -⟩
              obtain ⟨r4, rfl⟩ := Int.eq_ofNat_of_zero_le h40
              have hr4 : r4 < 4 := by omega
              obtain ⟨cr, zr⟩ := hs13.rootcell hr4
              dsimp only at cr zr
              have HS14 := hid (hs13.root hr4 x0)
              dsimp only at HS14
              have HA14 := hid (HAf.out.set r4 (Or.inl rfl))
              have HX14 : Hid ((ys.set r4 x0).getD r4 0 = x0 ∧ (ys.set r4 x0).length = 4) := ⟨by rw [getD_setN _ _ _ _ (by rw [hs13.rl]; exact hr4), if_pos rfl], by rw [List.length_set]; exact hs13.rl⟩
              clear hs13 HS12 HAf
              go_wp2_with fail
              clear cr zr
              obtain ⟨W14, hW14⟩ : ∃ X, W13.setCell ⟨g, r4, none⟩ (.int .i64 x0) = X := ⟨_, rfl⟩
              rw [hW14] at HS14 ⊢
              clear hW14
              refine (HS14.out.pick (by have := HQk2.out; have := HQb.out; omega) 4 (by omega)).mono ?_
              rintro e W15 ⟨m21, rfl, h210, h211, hs15, -⟩
              have HS15 := hid hs15
              clear hs15 HS14
              have HFc : Hid (∀ w, Calls Try.prog 29 #[.int .i64 kd] w fun e w' => e = .returned (.int .i64 F) ∧ w = w') := fun w => by
                have e := specFields_calls kd w
                rw [HF.out.1] at e
                exact e
              obtain ⟨yr, hyr⟩ : ∃ y, ys.set r4 x0 = y := ⟨_, rfl⟩
              rw [hyr] at HS15 HA14 HX14
              clear hyr
              by_cases h21 : m21 = 0
              case' pos =>
                subst h21
                go_wp2_with fail
                refine (HS15.out.pick (by have := HQk2.out; have := HQb.out; omega) 4 (by omega)).mono ?_
                rintro e W16 ⟨m5, rfl, h50, h51, hs16, -⟩
                obtain ⟨r5, rfl⟩ := Int.eq_ofNat_of_zero_le h50
                have hr5 : r5 < 4 := by omega
                have HS16 := hid hs16
                clear hs16 HS15
                go_wp2_with fail
                refine (HS16.out.pick (by have := HQk2.out; have := HQb.out; omega) 4 (by omega)).mono ?_
                rintro e W17 ⟨m6, rfl, h60, h61, hs17, -⟩
                have hw6 : wrap64 (1 + m6) = 1 + m6 := by unfold wrap64; omega
                have HS17 := hid hs17
                clear hs17 HS16
                go_wp2_with fail
                refine (HS17.out.pick (by have := HQk2.out; have := HQb.out; omega) 2 (by omega)).mono ?_
                rintro e W18 ⟨m7, rfl, h70, h71, hs18, -⟩
                try rw [hw6]
                have hsm := specMake_calls (1 + m6) m7 W18
                have hyv : (makeZ (1 + m6) m7) % 8 ≠ 0 ∧ (makeZ (1 + m6) m7) % 8 ≤ 4 := by
                  unfold makeZ wrap64
                  rw [if_neg (by omega)]
                  omega
                obtain ⟨yv, hyve⟩ : ∃ y, makeZ (1 + m6) m7 = y := ⟨_, rfl⟩
                rw [hyve] at hsm hyv
                have HSm := hid hsm
                obtain ⟨cr, zr⟩ := hs18.rootcell hr5
                dsimp only at cr zr
                have HS19 := hid (hs18.root hr5 yv)
                dsimp only at HS19
                have HA19 := hid (HA14.out.set r5 (Or.inr hyv))
                have HX19 : Hid (((yr.set r5 yv).getD r4 0 = x0 ∨ (yr.set r5 yv).getD r4 0 % 8 ≠ 0) ∧ (yr.set r5 yv).length = 4) := by
                  refine ⟨?_, by rw [List.length_set]; exact HX14.out.2⟩
                  rw [getD_setN _ _ _ _ (by rw [HX14.out.2]; exact hr5)]
                  by_cases e : r4 = r5
                  · rw [if_pos e]
                    exact Or.inr hyv.1
                  · rw [if_neg e]
                    exact Or.inl HX14.out.1
                clear hs18 hsm hyv hyve HS17
                go_wp2_with fail
                refine HSm.out.mono ?_
                rintro e w1 ⟨rfl, rfl⟩
                go_wp2_with fail
                clear cr zr hw6 h60 h61 h70 h71 h50 h51 HSm
                obtain ⟨WX, hWX⟩ : ∃ X, W18.setCell ⟨g, r5, none⟩ (.int .i64 yv) = X := ⟨_, rfl⟩
                rw [hWX] at HS19 ⊢
                clear hWX
                obtain ⟨rsX, hrsX⟩ : ∃ y, yr.set r5 yv = y := ⟨_, rfl⟩
                rw [hrsX] at HS19 HA19 HX19
                clear hrsX HA14 HX14
                have HSX := HS19
                have HAX := HA19
                have HXX := HX19
                clear HS19 HA19 HX19
                obtain ⟨qX, hqX⟩ : ∃ q', q + 1 + j + 1 + 1 + 1 + 1 + 1 + 1 = q' := ⟨_, rfl⟩
                rw [hqX] at HSX
                have HQX : Hid (qX + 4 ≤ 2 + 16 * (k + 1) ∧ qX ≤ 1000) := by show _ ∧ _; have := HQk2.out; have := HQb.out; omega
                clear hqX
              case' neg =>
                have h21' : (m21 == 0) = false := by simpa using h21
                go_wp2_with fail
                clear h21'
                obtain ⟨WX, hWX⟩ : ∃ X, W15 = X := ⟨_, rfl⟩
                rw [hWX] at HS15 ⊢
                clear hWX
                obtain ⟨rsX, hrsX⟩ : ∃ y, yr = y := ⟨_, rfl⟩
                rw [hrsX] at HS15 HA14 HX14
                clear hrsX
                have HSX := HS15
                have HAX := HA14
                have HXX : Hid ((rsX.getD r4 0 = x0 ∨ rsX.getD r4 0 % 8 ≠ 0) ∧ rsX.length = 4) := ⟨Or.inl HX14.out.1, HX14.out.2⟩
                clear HS15 HA14 HX14
                obtain ⟨qX, hqX⟩ : ∃ q', q + 1 + j + 1 + 1 + 1 = q' := ⟨_, rfl⟩
                rw [hqX] at HSX
                have HQX : Hid (qX + 4 ≤ 2 + 16 * (k + 1) ∧ qX ≤ 1000) := by show _ ∧ _; have := HQk2.out; have := HQb.out; omega
                clear hqX
              all_goals
                refine (HSX.out.pick (by have := HQX.out; omega) 5 (by omega)).mono ?_
                rintro e W20 ⟨m20, rfl, h200, h201, hs20, -⟩
                have HS20 := hid hs20
                have HEn : Hid (∀ W', Below W20.heap.size W20 W' → Hd { p with bm := bm, bw := bw, cp := cp, g := g, N := 2 * s } (k + 1) (qX + 1) ws1 h1 false rsX W') := fun W' hb => ⟨HS20.out.keep hb, by have := HQk.out; omega, by have := HQX.out; omega, fun _ => HAX.out.good, by have := HAX.out.fl; have := HQk.out; omega, by have := HAX.out.tc; have := HQk.out; omega⟩
                have hwi : wrap64 (ii + 1) = ii + 1 := by have := HQ.out; have := HQk.out; unfold wrap64; omega
                have hstepI : 61 - (intOf (.int .i64 (ii + 1))).toNat < 61 - (intOf (.int .i64 ii)).toNat := by have := HQ.out; have := HQk.out; simp only [intOf]; omega
                have HQ1 : Hid (ii + 1 = ((k + 1 : Nat) : Int)) := by show _ = _; have := HQ.out; push_cast; omega
                clear hs20 HSX
                have hk0 : (0 : Int) ≤ (r4 : Int) := by omega
                have hk1 : (r4 : Int) < 4 := by omega
                by_cases h20 : m20 = 0
                · subst h20
                  obtain ⟨cr, -⟩ := HS20.out.rootcell hr4
                  dsimp only at cr
                  rcases HXX.out.1 with hx | hx
                  · rw [hx] at cr
                    have HX0 := hid hx
                    have tg := fun w => specTag_calls x0 w
                    unfold tagZ at tg
                    rw [HAX.out.x8] at tg
                    have HTg := hid tg
                    clear tg hx
                    go_wp2_with fail
                    refine (HTg.out _).mono ?_
                    rintro e w1 ⟨rfl, rfl⟩
                    go_wp2_with fail
                    clear cr HTg
                    have HFd : Hid (∀ (mi : Nat), (mi : Int) < F → ∀ (q' : Nat) (X : World), Sw { p with bm := bm, bw := bw, cp := cp, g := g, N := 2 * s } q' ws1 h1 false rsX X → Calls Try.prog 55 #[.pointer (some ⟨bm, 0, none⟩), .int .i64 x0, .int .i64 (mi : Int)] X fun e Xd => ∃ z, e = .returned (.int .i64 z) ∧ FldEnd { p with bm := bm, bw := bw, cp := cp, g := g, N := 2 * s } k q' rsX z Xd) := fun mi hmi q' X hX => by
                      obtain ⟨S, ok, a1, a2, a3⟩ := HAX.out.ok
                      exact sw_field hX ok a1 a2 HAX.out.x8 a3 (by have := HJn.out; have := HF.out; omega) HAX.out.fl (by have := HQk.out; omega) HAX.out.tc
                    have hD : Below W20.heap.size W20 W20.drew := (Below.refl _ _).drew
                    obtain ⟨D, hDe⟩ : ∃ D, W20.drew = D := ⟨_, rfl⟩
                    rw [hDe] at hD
                    have SD := hid (HS20.out.keep hD)
                    have cX : D.cell? ⟨g, r4, none⟩ = some (.int .i64 x0) := by have := (SD.out.rootcell hr4).1; rw [HX0.out] at this; exact this
                    refine pick_begin (S := fun _ => True) (by kernel_rfl) rfl rfl ?_
                    rw [hDe]
                    clear hDe hD HS20 HEn
                    refine pick_op (i := 0) (v := .slice (some ⟨g, 0, none⟩) 4 4) (by kernel_rfl) rfl (by kernel_rfl) (by kernel_rfl) rfl rfl (fun w' _ => by simp [go_sem]) trivial (by simp [go_sem]; exact rfl) ?_
                    refine pick_op (i := 1) (v := .pointer (some ⟨p.B, 0, none⟩)) (by kernel_rfl) rfl (by kernel_rfl) (by kernel_rfl) rfl rfl (fun w' _ => by simp [go_sem]) trivial (by simp [go_sem]; exact rfl) ?_
                    refine pick_op (i := 3) (v := .pointer (some ⟨bm, 0, none⟩)) (by kernel_rfl) rfl (by kernel_rfl) (by kernel_rfl) rfl rfl (fun w' _ => by simp [go_sem]) trivial (by simp [go_sem]; exact rfl) ?_
                    refine pick_op (i := 4) (v := .slice (some ⟨g, 0, none⟩) 4 4) (by kernel_rfl) rfl (by kernel_rfl) (by kernel_rfl) rfl rfl (fun w' _ => by simp [go_sem]) trivial (by simp [go_sem]; exact rfl) ?_
                    refine pick_op (i := 5) (v := .int .i64 (r4 : Int)) (by kernel_rfl) rfl (by kernel_rfl) (by kernel_rfl) rfl rfl (fun w' _ => by simp [go_sem]) trivial (by simp [go_sem]; exact rfl) ?_
                    refine pick_op (i := 8) (v := .pointer (some ⟨p.B, 0, none⟩)) (by kernel_rfl) rfl (by kernel_rfl) (by kernel_rfl) rfl rfl (fun w' _ => by simp [go_sem]) trivial (by simp [go_sem]; exact rfl) ?_
                    refine pick_op (i := 9) (v := .int .i64 kd) (by kernel_rfl) rfl (by kernel_rfl) (by kernel_rfl) rfl rfl (fun w' _ => by simp [go_sem]) trivial (by simp [go_sem]; exact rfl) ?_
                    refine pick_op (i := 6) (v := .pointer (some ⟨g, r4, none⟩)) (by kernel_rfl) rfl (by kernel_rfl) (by kernel_rfl) rfl rfl (fun w' _ => by simp [go_sem, hk0, hk1]) trivial (by simp [go_sem]; exact rfl) ?_
                    refine pick_callOr (i := 2) (j := 7) (by kernel_rfl) ?_ ?_
                    · refine ⟨_, 28, #[.pointer (some ⟨p.B, 0, none⟩), .int .i64 4], rfl, rfl, by simp [go_sem], ?_⟩
                      refine (SD.out.pick (by have := HQX.out; omega) 4 (by omega)).mono ?_
                      rintro e Xa ⟨ma, rfl, ha0, ha1, hsa, -⟩
                      obtain ⟨r6, rfl⟩ := Int.eq_ofNat_of_zero_le ha0
                      have hr6 : r6 < 4 := by omega
                      have hr61 : (r6 : Int) < 4 := by omega
                      have Sa := hid hsa
                      have cX : Xa.cell? ⟨g, r4, none⟩ = some (.int .i64 x0) := by have := (hsa.rootcell hr4).1; rw [HX0.out] at this; exact this
                      clear hsa
                      refine ⟨_, rfl, trivial, ?_⟩
                      refine pick_frame (by simp [go_sem]; exact rfl) ?_
                      refine pick_either (i := 7) (j := 10) (by kernel_rfl) ?_ ?_
                      · refine ⟨_, .int .i64 x0, Xa, rfl, rfl, by simp [go_sem, cX], trivial, ?_⟩
                        refine pick_frame (by simp [go_sem]; exact rfl) ?_
                        refine pick_enter (i := 10) (f := 29) (args := #[.int .i64 kd]) rfl (by kernel_rfl) rfl rfl (by simp [go_sem]) ?_
                        refine (HFc.out Xa).mono ?_
                        rintro e Xb ⟨rfl, rfl⟩
                        have Sb := Sa
                        refine ⟨_, rfl, trivial, ?_⟩
                        refine pick_frame (by simp [go_sem]; exact rfl) ?_
                        refine pick_enter (i := 11) (f := 28) (args := #[.pointer (some ⟨p.B, 0, none⟩), .int .i64 F]) rfl (by kernel_rfl) rfl rfl (by simp [go_sem]) ?_
                        refine (Sb.out.pick (by have := HQX.out; omega) F (by have := HF.out; omega)).mono ?_
                        rintro e Xc ⟨mc, rfl, hc0, hc1, hsc, -⟩
                        obtain ⟨mi, rfl⟩ := Int.eq_ofNat_of_zero_le hc0
                        have Sc := hid hsc
                        have cX : Xc.cell? ⟨g, r4, none⟩ = some (.int .i64 x0) := by have := (hsc.rootcell hr4).1; rw [HX0.out] at this; exact this
                        clear hsc
                        refine ⟨_, rfl, trivial, ?_⟩
                        refine pick_frame (by simp [go_sem]; exact rfl) ?_
                        refine pick_enter (i := 12) (f := 55) (args := #[.pointer (some ⟨bm, 0, none⟩), .int .i64 x0, .int .i64 (mi : Int)]) rfl (by kernel_rfl) rfl rfl (by simp [go_sem]) ?_
                        refine (HFd.out mi (by omega) _ _ Sc.out).mono ?_
                        rintro e Xd ⟨z, rfl, ws2, h2, fu, hsd, hf2, ht2, hg2⟩
                        obtain ⟨cY, zY⟩ := hsd.rootcell hr6
                        dsimp only at cY zY
                        have HEn := hid (hsd.root hr6 z)
                        have HE2 : Hid (h2.flips ≤ 100 ∧ h2.touched ≤ 100000000 ∧ (fu = false → Gd ws2 h2 (rsX.set r6 z) (k + 1))) := ⟨hf2, ht2, hg2 r6 hr6⟩
                        clear hsd hf2 ht2 hg2
                        refine ⟨_, rfl, trivial, ?_⟩
                        refine pick_frame (by simp [go_sem]; exact rfl) ?_
                        refine pick_op (i := 13) (v := .pointer (some ⟨g, r6, none⟩)) (by kernel_rfl) rfl (by kernel_rfl) (by kernel_rfl) rfl rfl (fun w' _ => by simp [go_sem, ha0, hr61]) trivial (by simp [go_sem]; exact rfl) ?_
                        refine pick_skip (i := 14) rfl (w1 := Xd.setCell ⟨g, r6, none⟩ (.int .i64 z)) rfl (by kernel_rfl) rfl rfl (by simp [go_sem, cY, zY]) trivial ?_
                        refine pick_end (by kernel_rfl) ?_
                        clear cX cY zY
                        dsimp only at HEn
                        generalize Xd.setCell ⟨g, r6, none⟩ (.int .i64 z) = Z at *
                        go_wp2_with fail
                        rw [hwi]
                        exact ⟨⟨ii + 1, k + 1, _, ws2, h2, fu, rsX.set r6 z, rfl, HQ1, ⟨HEn.out, by have := HQk.out; omega, by have := HQX.out; omega, HE2.out.2.2, HE2.out.1, HE2.out.2.1⟩⟩, hstepI⟩
                      · refine ⟨_, 29, #[.int .i64 kd], rfl, rfl, by simp [go_sem], ?_⟩
                        refine (HFc.out Xa).mono ?_
                        rintro e Xb ⟨rfl, rfl⟩
                        have Sb := Sa
                        refine ⟨_, rfl, trivial, ?_⟩
                        refine pick_frame (by simp [go_sem]; exact rfl) ?_
                        refine pick_either (i := 7) (j := 11) (by kernel_rfl) ?_ ?_
                        · refine ⟨_, .int .i64 x0, Xa, rfl, rfl, by simp [go_sem, cX], trivial, ?_⟩
                          refine pick_frame (by simp [go_sem]; exact rfl) ?_
                          refine pick_enter (i := 11) (f := 28) (args := #[.pointer (some ⟨p.B, 0, none⟩), .int .i64 F]) rfl (by kernel_rfl) rfl rfl (by simp [go_sem]) ?_
                          refine (Sb.out.pick (by have := HQX.out; omega) F (by have := HF.out; omega)).mono ?_
                          rintro e Xc ⟨mc, rfl, hc0, hc1, hsc, -⟩
                          obtain ⟨mi, rfl⟩ := Int.eq_ofNat_of_zero_le hc0
                          have Sc := hid hsc
                          have cX : Xc.cell? ⟨g, r4, none⟩ = some (.int .i64 x0) := by have := (hsc.rootcell hr4).1; rw [HX0.out] at this; exact this
                          clear hsc
                          refine ⟨_, rfl, trivial, ?_⟩
                          refine pick_frame (by simp [go_sem]; exact rfl) ?_
                          refine pick_enter (i := 12) (f := 55) (args := #[.pointer (some ⟨bm, 0, none⟩), .int .i64 x0, .int .i64 (mi : Int)]) rfl (by kernel_rfl) rfl rfl (by simp [go_sem]) ?_
                          refine (HFd.out mi (by omega) _ _ Sc.out).mono ?_
                          rintro e Xd ⟨z, rfl, ws2, h2, fu, hsd, hf2, ht2, hg2⟩
                          obtain ⟨cY, zY⟩ := hsd.rootcell hr6
                          dsimp only at cY zY
                          have HEn := hid (hsd.root hr6 z)
                          have HE2 : Hid (h2.flips ≤ 100 ∧ h2.touched ≤ 100000000 ∧ (fu = false → Gd ws2 h2 (rsX.set r6 z) (k + 1))) := ⟨hf2, ht2, hg2 r6 hr6⟩
                          clear hsd hf2 ht2 hg2
                          refine ⟨_, rfl, trivial, ?_⟩
                          refine pick_frame (by simp [go_sem]; exact rfl) ?_
                          refine pick_op (i := 13) (v := .pointer (some ⟨g, r6, none⟩)) (by kernel_rfl) rfl (by kernel_rfl) (by kernel_rfl) rfl rfl (fun w' _ => by simp [go_sem, ha0, hr61]) trivial (by simp [go_sem]; exact rfl) ?_
                          refine pick_skip (i := 14) rfl (w1 := Xd.setCell ⟨g, r6, none⟩ (.int .i64 z)) rfl (by kernel_rfl) rfl rfl (by simp [go_sem, cY, zY]) trivial ?_
                          refine pick_end (by kernel_rfl) ?_
                          clear cX cY zY
                          dsimp only at HEn
                          generalize Xd.setCell ⟨g, r6, none⟩ (.int .i64 z) = Z at *
                          go_wp2_with fail
                          rw [hwi]
                          exact ⟨⟨ii + 1, k + 1, _, ws2, h2, fu, rsX.set r6 z, rfl, HQ1, ⟨HEn.out, by have := HQk.out; omega, by have := HQX.out; omega, HE2.out.2.2, HE2.out.1, HE2.out.2.1⟩⟩, hstepI⟩
                        · refine ⟨_, 28, #[.pointer (some ⟨p.B, 0, none⟩), .int .i64 F], rfl, rfl, by simp [go_sem], ?_⟩
                          refine (Sb.out.pick (by have := HQX.out; omega) F (by have := HF.out; omega)).mono ?_
                          rintro e Xc ⟨mc, rfl, hc0, hc1, hsc, -⟩
                          obtain ⟨mi, rfl⟩ := Int.eq_ofNat_of_zero_le hc0
                          have Sc := hid hsc
                          have cX : Xc.cell? ⟨g, r4, none⟩ = some (.int .i64 x0) := by have := (hsc.rootcell hr4).1; rw [HX0.out] at this; exact this
                          clear hsc
                          refine ⟨_, rfl, trivial, ?_⟩
                          refine pick_frame (by simp [go_sem]; exact rfl) ?_
                          refine pick_make (i := 7) (v := .int .i64 x0) (w1 := Xc) rfl (by kernel_rfl) rfl rfl (by simp [go_sem, cX]) trivial (by simp [go_sem]; exact rfl) ?_
                          refine pick_enter (i := 12) (f := 55) (args := #[.pointer (some ⟨bm, 0, none⟩), .int .i64 x0, .int .i64 (mi : Int)]) rfl (by kernel_rfl) rfl rfl (by simp [go_sem]) ?_
                          refine (HFd.out mi (by omega) _ _ Sc.out).mono ?_
                          rintro e Xd ⟨z, rfl, ws2, h2, fu, hsd, hf2, ht2, hg2⟩
                          obtain ⟨cY, zY⟩ := hsd.rootcell hr6
                          dsimp only at cY zY
                          have HEn := hid (hsd.root hr6 z)
                          have HE2 : Hid (h2.flips ≤ 100 ∧ h2.touched ≤ 100000000 ∧ (fu = false → Gd ws2 h2 (rsX.set r6 z) (k + 1))) := ⟨hf2, ht2, hg2 r6 hr6⟩
                          clear hsd hf2 ht2 hg2
                          refine ⟨_, rfl, trivial, ?_⟩
                          refine pick_frame (by simp [go_sem]; exact rfl) ?_
                          refine pick_op (i := 13) (v := .pointer (some ⟨g, r6, none⟩)) (by kernel_rfl) rfl (by kernel_rfl) (by kernel_rfl) rfl rfl (fun w' _ => by simp [go_sem, ha0, hr61]) trivial (by simp [go_sem]; exact rfl) ?_
                          refine pick_skip (i := 14) rfl (w1 := Xd.setCell ⟨g, r6, none⟩ (.int .i64 z)) rfl (by kernel_rfl) rfl rfl (by simp [go_sem, cY, zY]) trivial ?_
                          refine pick_end (by kernel_rfl) ?_
                          clear cX cY zY
                          dsimp only at HEn
                          generalize Xd.setCell ⟨g, r6, none⟩ (.int .i64 z) = Z at *
                          go_wp2_with fail
                          rw [hwi]
                          exact ⟨⟨ii + 1, k + 1, _, ws2, h2, fu, rsX.set r6 z, rfl, HQ1, ⟨HEn.out, by have := HQk.out; omega, by have := HQX.out; omega, HE2.out.2.2, HE2.out.1, HE2.out.2.1⟩⟩, hstepI⟩
                    · refine ⟨_, .int .i64 x0, D, rfl, rfl, by simp [go_sem, cX], trivial, ?_⟩
                      refine pick_frame (by simp [go_sem]; exact rfl) ?_
                      refine pick_enter (i := 2) (f := 28) (args := #[.pointer (some ⟨p.B, 0, none⟩), .int .i64 4]) rfl (by kernel_rfl) rfl rfl (by simp [go_sem]) ?_
                      refine (SD.out.pick (by have := HQX.out; omega) 4 (by omega)).mono ?_
                      rintro e Xa ⟨ma, rfl, ha0, ha1, hsa, -⟩
                      obtain ⟨r6, rfl⟩ := Int.eq_ofNat_of_zero_le ha0
                      have hr6 : r6 < 4 := by omega
                      have hr61 : (r6 : Int) < 4 := by omega
                      have Sa := hid hsa
                      have cX : Xa.cell? ⟨g, r4, none⟩ = some (.int .i64 x0) := by have := (hsa.rootcell hr4).1; rw [HX0.out] at this; exact this
                      clear hsa
                      refine ⟨_, rfl, trivial, ?_⟩
                      refine pick_frame (by simp [go_sem]; exact rfl) ?_
                      refine pick_enter (i := 10) (f := 29) (args := #[.int .i64 kd]) rfl (by kernel_rfl) rfl rfl (by simp [go_sem]) ?_
                      refine (HFc.out Xa).mono ?_
                      rintro e Xb ⟨rfl, rfl⟩
                      have Sb := Sa
                      refine ⟨_, rfl, trivial, ?_⟩
                      refine pick_frame (by simp [go_sem]; exact rfl) ?_
                      refine pick_enter (i := 11) (f := 28) (args := #[.pointer (some ⟨p.B, 0, none⟩), .int .i64 F]) rfl (by kernel_rfl) rfl rfl (by simp [go_sem]) ?_
                      refine (Sb.out.pick (by have := HQX.out; omega) F (by have := HF.out; omega)).mono ?_
                      rintro e Xc ⟨mc, rfl, hc0, hc1, hsc, -⟩
                      obtain ⟨mi, rfl⟩ := Int.eq_ofNat_of_zero_le hc0
                      have Sc := hid hsc
                      have cX : Xc.cell? ⟨g, r4, none⟩ = some (.int .i64 x0) := by have := (hsc.rootcell hr4).1; rw [HX0.out] at this; exact this
                      clear hsc
                      refine ⟨_, rfl, trivial, ?_⟩
                      refine pick_frame (by simp [go_sem]; exact rfl) ?_
                      refine pick_enter (i := 12) (f := 55) (args := #[.pointer (some ⟨bm, 0, none⟩), .int .i64 x0, .int .i64 (mi : Int)]) rfl (by kernel_rfl) rfl rfl (by simp [go_sem]) ?_
                      refine (HFd.out mi (by omega) _ _ Sc.out).mono ?_
                      rintro e Xd ⟨z, rfl, ws2, h2, fu, hsd, hf2, ht2, hg2⟩
                      obtain ⟨cY, zY⟩ := hsd.rootcell hr6
                      dsimp only at cY zY
                      have HEn := hid (hsd.root hr6 z)
                      have HE2 : Hid (h2.flips ≤ 100 ∧ h2.touched ≤ 100000000 ∧ (fu = false → Gd ws2 h2 (rsX.set r6 z) (k + 1))) := ⟨hf2, ht2, hg2 r6 hr6⟩
                      clear hsd hf2 ht2 hg2
                      refine ⟨_, rfl, trivial, ?_⟩
                      refine pick_frame (by simp [go_sem]; exact rfl) ?_
                      refine pick_op (i := 13) (v := .pointer (some ⟨g, r6, none⟩)) (by kernel_rfl) rfl (by kernel_rfl) (by kernel_rfl) rfl rfl (fun w' _ => by simp [go_sem, ha0, hr61]) trivial (by simp [go_sem]; exact rfl) ?_
                      refine pick_skip (i := 14) rfl (w1 := Xd.setCell ⟨g, r6, none⟩ (.int .i64 z)) rfl (by kernel_rfl) rfl rfl (by simp [go_sem, cY, zY]) trivial ?_
                      refine pick_end (by kernel_rfl) ?_
                      clear cX cY zY
                      dsimp only at HEn
                      generalize Xd.setCell ⟨g, r6, none⟩ (.int .i64 z) = Z at *
                      go_wp2_with fail
                      rw [hwi]
                      exact ⟨⟨ii + 1, k + 1, _, ws2, h2, fu, rsX.set r6 z, rfl, HQ1, ⟨HEn.out, by have := HQk.out; omega, by have := HQX.out; omega, HE2.out.2.2, HE2.out.1, HE2.out.2.1⟩⟩, hstepI⟩
                  · generalize rsX.getD r4 0 = xn at cr hx
                    have hx' : (xn % 8 == 0) = false := by simpa using hx
                    have tg := fun w => specTag_calls xn w
                    unfold tagZ at tg
                    have HTg := hid tg
                    clear tg hx
                    go_wp2_with fail
                    refine (HTg.out _).mono ?_
                    rintro e w1 ⟨rfl, rfl⟩
                    go_wp2_with fail
                    rw [hwi]
                    exact ⟨⟨ii + 1, k + 1, qX + 1, ws1, h1, false, rsX, rfl, HQ1, HEn.out _ (by first | exact Below.refl _ _ | exact below_drewN (Below.refl _ _) _)⟩, hstepI⟩
                · have h20' : (m20 == 0) = false := by simpa using h20
                  go_wp2_with fail
                  rw [hwi]
                  exact ⟨⟨ii + 1, k + 1, qX + 1, ws1, h1, false, rsX, rfl, HQ1, HEn.out _ (by first | exact Below.refl _ _ | exact below_drewN (Below.refl _ _) _)⟩, hstepI⟩
    · have c10 := HH.out.sw.wk.cells.2.2.2.2.2.2.2.2.2.2
      dsimp only at c10
      go_wp2_with fail
      exact bodyPost_ret (results_tmp2 (fn := Try.f57) rfl _ _ _) rfl (HEnd.out _ _ HH.out)
end Go.Proofs.Ytebpgglegnljgaa

/- The drawer of heaps: a heap and roots, spoilt now and then. -/
namespace Go.Proofs.Ytebpgglegnljgaa
open Go.RowKit Go.Deep

/-- A heap and four roots were drawn. -/
structure HpD (B : Nat) (a0 : Option Addr) (n cap q : Nat) (w0 : World) (bw cp g : Nat) (ws : List Int) (h : HpN) (rs : List Int) (W : World) : Prop where
  rd : Rd B a0 n cap q W
  row : CellRow 3 W bw ws.length (intCells ws)
  rt : CellRow 3 W g 4 (intCells rs)
  rl : rs.length = 4
  o2 : w0.heap.size ≤ bw
  o3 : w0.heap.size ≤ g
  n3 : bw ≠ g
  low : B < w0.heap.size
  below : Grw B w0 W
  q0 : q ≤ 1010
  cw : ws.length ≤ cp
  l8 : ws.length ≤ 8000
  l0 : 0 < ws.length
  fl : h.flips ≤ 100
  tc : h.touched ≤ 100000000

def HeapDP (B : Nat) (a0 : Option Addr) (n cap : Nat) (w0 : World) (e : Ending) (W' : World) : Prop :=
  ∃ (q bw cp g gc : Nat) (ws : List Int) (h : HpN) (rs : List Int), e = .returned (.tuple #[heapV (.slice (some ⟨bw, 0, none⟩) ws.length cp) h, .slice (some ⟨g, 0, none⟩) 4 gc]) ∧ HpD B a0 n cap q w0 bw cp g ws h rs W' ∧ 4 ≤ gc

theorem HpD.keep {B : Nat} {a0 : Option Addr} {n cap q : Nat} {w0 : World} {bw cp g : Nat} {ws : List Int} {h : HpN} {rs : List Int} {W W' : World} (s : HpD B a0 n cap q w0 bw cp g ws h rs W) (hb : Below W.heap.size W W') : HpD B a0 n cap q w0 bw cp g ws h rs W' :=
  ⟨s.rd.same (fun k hk => hb.block k (by have := heap_lt s.rd.blk; omega)), s.row.of_block (hb.block _ s.row.lt), s.rt.of_block (hb.block _ s.rt.lt), s.rl, s.o2, s.o3, s.n3, s.low, s.below.keep hb, s.q0, s.cw, s.l8, s.l0, s.fl, s.tc⟩

theorem HpD.only {B : Nat} {a0 : Option Addr} {n cap q q' : Nat} {w0 : World} {bw cp g : Nat} {ws : List Int} {h : HpN} {rs : List Int} {W W' : World} (s : HpD B a0 n cap q w0 bw cp g ws h rs W) (hr : Rd B a0 n cap q' W') (ho : Only B W W') (hq : q' ≤ 1010) : HpD B a0 n cap q' w0 bw cp g ws h rs W' := by
  have := s.o2
  have := s.o3
  have := s.low
  exact ⟨hr, s.row.of_block (ho.block _ (by omega)), s.rt.of_block (ho.block _ (by omega)), s.rl, s.o2, s.o3, s.n3, s.low, s.below.only ho, hq, s.cw, s.l8, s.l0, s.fl, s.tc⟩

theorem HpD.nums {B : Nat} {a0 : Option Addr} {n cap q : Nat} {w0 : World} {bw cp g : Nat} {ws : List Int} {h h' : HpN} {rs : List Int} {W : World} (s : HpD B a0 n cap q w0 bw cp g ws h rs W) (e1 : h'.flips = h.flips) (e2 : h'.touched = h.touched) : HpD B a0 n cap q w0 bw cp g ws h' rs W :=
  ⟨s.rd, s.row, s.rt, s.rl, s.o2, s.o3, s.n3, s.low, s.below, s.q0, s.cw, s.l8, s.l0, by rw [e1]; exact s.fl, by rw [e2]; exact s.tc⟩

/-- A block that is neither the reader's nor a row's is written into. -/
theorem HpD.side {B : Nat} {a0 : Option Addr} {n cap q : Nat} {w0 : World} {bw cp g : Nat} {ws : List Int} {h : HpN} {rs : List Int} {W : World} (s : HpD B a0 n cap q w0 bw cp g ws h rs W) {b : Nat} (hb : w0.heap.size ≤ b) (h1 : b ≠ bw) (h2 : b ≠ g) (i : Nat) (v : Value) : HpD B a0 n cap q w0 bw cp g ws h rs (W.setCell ⟨b, i, none⟩ v) := by
  have e : ∀ j, j ≠ b → (W.setCell ⟨b, i, none⟩ v).heap[j]? = W.heap[j]? := fun j hj => Below.heap_setCell W ⟨b, i, none⟩ _ j hj
  have := s.low
  exact ⟨s.rd.same (fun j hj => e j (by omega)), s.row.of_block (e _ (Ne.symm h1)), s.rt.of_block (e _ (Ne.symm h2)), s.rl, s.o2, s.o3, s.n3, s.low, s.below.step ((Below.refl _ _).setCell hb _), s.q0, s.cw, s.l8, s.l0, s.fl, s.tc⟩

/-- Another block is written anew. -/
theorem HpD.turned {B : Nat} {a0 : Option Addr} {n cap q : Nat} {w0 : World} {bw cp g : Nat} {ws : List Int} {h : HpN} {rs : List Int} {W W' : World} (s : HpD B a0 n cap q w0 bw cp g ws h rs W) {b : Nat} (hb : w0.heap.size ≤ b) (h1 : b ≠ bw) (h2 : b ≠ g) (e : ∀ j, j ≠ b → W'.heap[j]? = W.heap[j]?) (hbl : Below w0.heap.size W W') : HpD B a0 n cap q w0 bw cp g ws h rs W' := by
  have := s.low
  exact ⟨s.rd.same (fun j hj => e j (by omega)), s.row.of_block (e _ (Ne.symm h1)), s.rt.of_block (e _ (Ne.symm h2)), s.rl, s.o2, s.o3, s.n3, s.low, s.below.step hbl, s.q0, s.cw, s.l8, s.l0, s.fl, s.tc⟩

theorem rowi_set {W : World} {g n : Nat} {xs : List Int} (h : CellRow 3 W g n (intCells xs)) (hl : xs.length = n) {k : Nat} (hk : k < n) (x : Int) : CellRow 3 (W.setCell ⟨g, k, none⟩ (.int .i64 x)) g n (intCells (xs.set k x)) := by
  obtain ⟨N, f, hr, h1, h2⟩ := h
  refine ⟨N, _, hr.set k _, h1, fun i hi => ?_⟩
  unfold intCells
  rw [getD_setN _ _ _ _ (by omega)]
  by_cases e : i = k
  · rw [if_pos e, if_pos e]
  · rw [if_neg e, if_neg e]
    exact h2 i hi

theorem row_fz {W : World} {g n : Nat} {F : Nat → Value} (h : CellRow 3 W g n F) {k : Nat} (hk : k < n) : W.frozen? ⟨g, k, none⟩ = false := by
  obtain ⟨N, f, hr, h1, h2⟩ := h
  exact hr.frozen k hk

theorem HpD.word {B : Nat} {a0 : Option Addr} {n cap q : Nat} {w0 : World} {bw cp g : Nat} {ws : List Int} {h : HpN} {rs : List Int} {W : World} (s : HpD B a0 n cap q w0 bw cp g ws h rs W) {k : Nat} (hk : k < ws.length) (x : Int) : HpD B a0 n cap q w0 bw cp g (ws.set k x) h rs (W.setCell ⟨bw, k, none⟩ (.int .i64 x)) := by
  have e : ∀ j, j ≠ bw → (W.setCell ⟨bw, k, none⟩ (.int .i64 x)).heap[j]? = W.heap[j]? := fun j hj => Below.heap_setCell W ⟨bw, k, none⟩ _ j hj
  have := s.low
  have := s.o2
  have hl : (ws.set k x).length = ws.length := List.length_set
  exact ⟨s.rd.same (fun j hj => e j (by omega)), by rw [hl]; exact rowi_set s.row rfl hk x, s.rt.of_block (e _ (Ne.symm s.n3)), s.rl, s.o2, s.o3, s.n3, s.low, s.below.step ((Below.refl _ _).setCell s.o2 _), s.q0, by rw [hl]; exact s.cw, by rw [hl]; exact s.l8, by rw [hl]; exact s.l0, s.fl, s.tc⟩

theorem HpD.root {B : Nat} {a0 : Option Addr} {n cap q : Nat} {w0 : World} {bw cp g : Nat} {ws : List Int} {h : HpN} {rs : List Int} {W : World} (s : HpD B a0 n cap q w0 bw cp g ws h rs W) {k : Nat} (hk : k < 4) (x : Int) : HpD B a0 n cap q w0 bw cp g ws h (rs.set k x) (W.setCell ⟨g, k, none⟩ (.int .i64 x)) := by
  have e : ∀ j, j ≠ g → (W.setCell ⟨g, k, none⟩ (.int .i64 x)).heap[j]? = W.heap[j]? := fun j hj => Below.heap_setCell W ⟨g, k, none⟩ _ j hj
  have := s.low
  have := s.o3
  exact ⟨s.rd.same (fun j hj => e j (by omega)), s.row.of_block (e _ s.n3), rowi_set s.rt s.rl hk x, by rw [List.length_set]; exact s.rl, s.o2, s.o3, s.n3, s.low, s.below.step ((Below.refl _ _).setCell s.o3 _), s.q0, s.cw, s.l8, s.l0, s.fl, s.tc⟩

set_option maxHeartbeats 16000000 in
set_option maxRecDepth 100000 in
theorem heap_calls (B : Nat) (a0 : Option Addr) (n cap : Nat) (W : World) (hr : Rd B a0 n cap 0 W) : Calls Try.prog 27 #[.pointer (some ⟨B, 0, none⟩)] W (HeapDP B a0 n cap W) := by
  have HWk : Hid (∀ X, Below W.heap.size W X → Calls Try.prog 57 #[.pointer (some ⟨B, 0, none⟩)] X (WorkP ⟨X, B, a0, n, cap, 0, 0, 0, 0, 0⟩)) := fun X hX => by
    have hl := heap_lt hr.blk
    have hs := hX.size
    exact work_calls ⟨X, B, a0, n, cap, 0, 0, 0, 0, 0⟩ X (hr.same (fun k hk => hX.block k (by omega))) (by dsimp only; omega) (Grw.refl _ _)
  have HB := hid (heap_lt hr.blk)
  clear hr
  go_enter Try.func27, Try.ntmps27
  go_wp2_with fail
  refine (HWk.out _ ((Below.refl _ _).alloc (Nat.le_refl _) _)).mono ?_
  rintro e W1 ⟨bm, bw, cp, g, q, ws, h, full, rs, gc, rfl, hsw, hq, hgc, h8, h0, hfl, htc⟩
  have hX := (Below.refl W.heap.size W).alloc (Nat.le_refl _) (.cells #[.slice none 0 0, .int .i64 0, .int .i64 0, .int .i64 0, .int .i64 0, .int .i64 0, .int .i64 0, .int .i64 0, .int .i64 0, .int .i64 0] 25)
  have hXs : (W.alloc (.cells #[.slice none 0 0, .int .i64 0, .int .i64 0, .int .i64 0, .int .i64 0, .int .i64 0, .int .i64 0, .int .i64 0, .int .i64 0, .int .i64 0] 25)).heap.size = W.heap.size + 1 := by simp
  have hgw := hsw.below
  have hb1 := hsw.o1
  have hb2 := hsw.o2
  have hb3 := hsw.o3
  dsimp only at hgw hb1 hb2 hb3
  rw [hXs] at hb1 hb2 hb3
  have hrv : HeapBlk W1 W.heap.size (.slice none 0 0) ⟨0, 0, 0, 0, 0, 0, 0, 0, 0⟩ := (hgw.block W.heap.size (by rw [hXs]; omega) (by have := HB.out; omega)).trans (MapKept.heap_alloc W _).1
  have HS1 : Hid (HpD B a0 n cap q W bw cp g ws h rs W1) := ⟨hsw.rd, hsw.row, hsw.rt, hsw.rl, by omega, by omega, hsw.n3, HB.out, ((Grw.refl B W).keep hX).trans hgw, by omega, hgc.2, h8, h0, hfl, htc⟩
  obtain ⟨c0, c1, c2, c3, c4, c5, c6, c7, c8, c9, -⟩ := hsw.wk.cells
  obtain ⟨rv, hrve⟩ : ∃ rv, W.heap.size = rv := ⟨_, rfl⟩
  obtain ⟨L, hL⟩ : ∃ L, ws.length = L := ⟨_, rfl⟩
  have HLL := hid hL
  have HL0 : Hid (0 < L) := by show _ < _; omega
  have HQ0 : Hid (q ≤ 1000) := hq
  have HGc : Hid (4 ≤ gc) := hgc.1
  dsimp only at c0 c1 c2 c3 c4 c5 c6 c7 c8 c9
  rw [hL] at c0
  rw [hrve] at hrv
  have HR1 := hid hrv
  have HE := hid hrve
  have hbm : bm < W1.heap.size := heap_lt hsw.wk
  have hN : Hid (B < rv ∧ rv < bw ∧ rv < g ∧ rv < W1.heap.size ∧ bw < W1.heap.size ∧ g < W1.heap.size) := by
    have e1 := hsw.row.lt
    have e2 := hsw.rt.lt
    have := HB.out
    dsimp only at e1 e2
    exact ⟨by omega, by omega, by omega, by omega, e1, e2⟩
  clear hsw hq hgc h8 h0 hfl htc hX hXs hgw hb1 hb2 hb3 hrv hL HWk
  rw [hrve]
  clear hrve
  go_wp2_with fail
  have HS2 := hid (HS1.out.keep ((Below.refl W1.heap.size W1).alloc (Nat.le_refl _) (.cells #[.slice (some ⟨bw, 0, none⟩) L cp, .int .i64 h.size, .int .i64 h.to, .int .i64 h.bottom, .int .i64 h.top, .int .i64 h.scan, .int .i64 h.fb, .int .i64 h.ft, .int .i64 h.flips, .int .i64 h.touched] 25)))
  have HH2 : Hid (HeapBlk _ W1.heap.size (.slice (some ⟨bw, 0, none⟩) L cp) h) := HeapBlk.new W1 (.slice (some ⟨bw, 0, none⟩) L cp) h
  have HR2 := hid (HR1.out.below ((Below.refl W1.heap.size W1).alloc (Nat.le_refl _) (.cells #[.slice (some ⟨bw, 0, none⟩) L cp, .int .i64 h.size, .int .i64 h.to, .int .i64 h.bottom, .int .i64 h.top, .int .i64 h.scan, .int .i64 h.fb, .int .i64 h.ft, .int .i64 h.flips, .int .i64 h.touched] 25)))
  clear c0 c1 c2 c3 c4 c5 c6 c7 c8 c9 HS1 HR1 hbm
  obtain ⟨hv, hhv⟩ : ∃ hv, W1.heap.size = hv := ⟨_, rfl⟩
  obtain ⟨W2, hW2⟩ : ∃ X, W1.alloc (.cells #[.slice (some ⟨bw, 0, none⟩) L cp, .int .i64 h.size, .int .i64 h.to, .int .i64 h.bottom, .int .i64 h.top, .int .i64 h.scan, .int .i64 h.fb, .int .i64 h.ft, .int .i64 h.flips, .int .i64 h.touched] 25) = X := ⟨_, rfl⟩
  rw [hW2] at HS2 HH2 HR2 ⊢
  rw [hhv] at HH2 hN ⊢
  have HNe := hN
  clear hN hhv hW2
  refine (rd_picks HS2.out.rd (by have := HS2.out.q0; omega) 24 (by omega)).mono ?_
  rintro e W3 ⟨m24, rfl, h240, h241, hr3, ho3⟩
  have HQ : Hid (q + 3 ≤ 1010) := by show _ ≤ _; have := HQ0.out; omega
  have HS3 := hid (HS2.out.only hr3 ho3 (by have := HQ.out; omega))
  have HHv : Hid (HeapBlk W3 hv (.slice (some ⟨bw, 0, none⟩) L cp) h) := (ho3.block hv (by have := HNe.out; omega)).trans HH2.out
  have HRv : Hid (HeapBlk W3 rv (.slice none 0 0) ⟨0, 0, 0, 0, 0, 0, 0, 0, 0⟩) := (ho3.block rv (by have := HNe.out; omega)).trans HR2.out
  clear hr3 ho3 HS2 HH2 HR2 HQ0
  have HWz : Hid (W.heap.size = rv) := HE.out
  rcases (show m24 = 0 ∨ m24 = 1 ∨ m24 = 2 ∨ m24 = 3 ∨ m24 = 4 ∨ (m24 ≠ 0 ∧ m24 ≠ 1 ∧ m24 ≠ 2 ∧ m24 ≠ 3 ∧ m24 ≠ 4) by omega) with h24 | h24 | h24 | h24 | h24 | ⟨z0, z1, z2, z3, z4⟩
  · subst h24
    go_wp2_with fail
    have hD : Below W3.heap.size W3 W3.drew := (Below.refl _ _).drew
    obtain ⟨D, hDe⟩ : ∃ D, W3.drew = D := ⟨_, rfl⟩
    rw [hDe] at hD
    have SD := hid (HS3.out.keep hD)
    have HvD := hid (HHv.out.below hD)
    have RvD := hid (HRv.out.below hD)
    clear HS3 HHv HRv
    refine pick_begin (S := fun w => w.cell? ⟨hv, 0, none⟩ = some (.slice (some ⟨bw, 0, none⟩) L cp)) (by kernel_rfl) rfl rfl ?_
    rw [hDe]
    clear hDe hD
    have cS := HvD.out.cells.1
    refine pick_op (i := 0) (v := .pointer (some ⟨hv, 0, none⟩)) (by kernel_rfl) rfl (by kernel_rfl) (by kernel_rfl) rfl rfl (fun w' _ => by simp [go_sem]) cS (by simp [go_sem]; exact rfl) ?_
    refine pick_op (i := 1) (v := .slice (some ⟨bw, 0, none⟩) L cp) (by kernel_rfl) rfl (by kernel_rfl) (by kernel_rfl) rfl rfl (fun w' hw => by simp [go_sem, hw]) cS (by simp [go_sem]; exact rfl) ?_
    refine pick_op (i := 2) (v := .pointer (some ⟨B, 0, none⟩)) (by kernel_rfl) rfl (by kernel_rfl) (by kernel_rfl) rfl rfl (fun w' _ => by simp [go_sem]) cS (by simp [go_sem]; exact rfl) ?_
    refine pick_op (i := 3) (v := .pointer (some ⟨hv, 0, none⟩)) (by kernel_rfl) rfl (by kernel_rfl) (by kernel_rfl) rfl rfl (fun w' _ => by simp [go_sem]) cS (by simp [go_sem]; exact rfl) ?_
    refine pick_op (i := 4) (v := .slice (some ⟨bw, 0, none⟩) L cp) (by kernel_rfl) rfl (by kernel_rfl) (by kernel_rfl) rfl rfl (fun w' hw => by simp [go_sem, hw]) cS (by simp [go_sem]; exact rfl) ?_
    refine pick_op (i := 5) (v := .int .i64 (L : Int)) (by kernel_rfl) rfl (by kernel_rfl) (by kernel_rfl) rfl rfl (fun w' _ => by simp [go_sem]) cS (by simp [go_sem]; exact rfl) ?_
    refine pick_op (i := 7) (v := .pointer (some ⟨B, 0, none⟩)) (by kernel_rfl) rfl (by kernel_rfl) (by kernel_rfl) rfl rfl (fun w' _ => by simp [go_sem]) cS (by simp [go_sem]; exact rfl) ?_
    refine pick_enter (i := 6) (f := 28) (args := #[.pointer (some ⟨B, 0, none⟩), .int .i64 (L : Int)]) rfl (by kernel_rfl) rfl rfl (by simp [go_sem]) ?_
    refine (rd_picks SD.out.rd (by have := SD.out.q0; omega) (L : Int) (by have := HL0.out; omega)).mono ?_
    rintro e X1 ⟨a1, rfl, ha10, ha11, hra1, hoa1⟩
    have SX1 := hid (SD.out.only hra1 hoa1 (by have := HQ.out; omega))
    have HvX1 : Hid (HeapBlk X1 hv (.slice (some ⟨bw, 0, none⟩) L cp) h) := (hoa1.block hv (by have := HNe.out; omega)).trans HvD.out
    have RvX1 : Hid (HeapBlk X1 rv (.slice none 0 0) ⟨0, 0, 0, 0, 0, 0, 0, 0, 0⟩) := (hoa1.block rv (by have := HNe.out; omega)).trans RvD.out
    have cS := HvX1.out.cells.1
    clear hra1 hoa1
    refine ⟨_, rfl, cS, ?_⟩
    refine pick_frame (by simp [go_sem]; exact rfl) ?_
    refine pick_enter (i := 8) (f := 28) (args := #[.pointer (some ⟨B, 0, none⟩), .int .i64 200]) rfl (by kernel_rfl) rfl rfl (by simp [go_sem]) ?_
    refine (rd_picks SX1.out.rd (by have := SX1.out.q0; omega) 200 (by omega)).mono ?_
    rintro e X2 ⟨a2, rfl, ha20, ha21, hra2, hoa2⟩
    have SX2 := hid (SX1.out.only hra2 hoa2 (by have := HQ.out; omega))
    have HvX2 : Hid (HeapBlk X2 hv (.slice (some ⟨bw, 0, none⟩) L cp) h) := (hoa2.block hv (by have := HNe.out; omega)).trans HvX1.out
    have RvX2 : Hid (HeapBlk X2 rv (.slice none 0 0) ⟨0, 0, 0, 0, 0, 0, 0, 0, 0⟩) := (hoa2.block rv (by have := HNe.out; omega)).trans RvX1.out
    have cS := HvX2.out.cells.1
    clear hra2 hoa2
    refine ⟨_, rfl, cS, ?_⟩
    refine pick_frame (by simp [go_sem]; exact rfl) ?_
    obtain ⟨k1, rfl⟩ := Int.eq_ofNat_of_zero_le ha10
    have hk1 : k1 < ws.length := by rw [HLL.out]; omega
    have cw := SX2.out.row.cell hk1
    have zw := row_fz SX2.out.row hk1
    refine pick_op (i := 9) (v := .pointer (some ⟨bw, k1, none⟩)) (by kernel_rfl) rfl (by kernel_rfl) (by kernel_rfl) rfl rfl (fun w' _ => by simp [go_sem, ha10, ha11]) cS (by simp [go_sem]; exact rfl) ?_
    have HSX := hid (SX2.out.word hk1 a2)
    have HHv : Hid (HeapBlk (X2.setCell ⟨bw, k1, none⟩ (.int .i64 a2)) hv (.slice (some ⟨bw, 0, none⟩) L cp) h) := (Below.heap_setCell X2 ⟨bw, k1, none⟩ _ hv (show hv ≠ bw by have := HNe.out; omega)).trans HvX2.out
    have HRv : Hid (HeapBlk (X2.setCell ⟨bw, k1, none⟩ (.int .i64 a2)) rv (.slice none 0 0) ⟨0, 0, 0, 0, 0, 0, 0, 0, 0⟩) := (Below.heap_setCell X2 ⟨bw, k1, none⟩ _ rv (show rv ≠ bw by have := HNe.out; omega)).trans RvX2.out
    refine pick_skip (i := 10) rfl (w1 := X2.setCell ⟨bw, k1, none⟩ (.int .i64 a2)) rfl (by kernel_rfl) rfl rfl (by simp [go_sem, cw, zw]) HHv.out.cells.1 ?_
    refine pick_end (by kernel_rfl) ?_
    have HLX : Hid ((ws.set k1 a2).length = L) := by show _ = _; rw [List.length_set]; exact HLL.out
    generalize X2.setCell ⟨bw, k1, none⟩ (.int .i64 a2) = WX at *
    clear cw zw cS ha10 ha11 ha20 ha21 hk1
    obtain ⟨wsX, hwsX⟩ : ∃ y, ws.set k1 a2 = y := ⟨_, rfl⟩
    rw [hwsX] at HSX HLX
    clear hwsX
    obtain ⟨hX, hhX⟩ : ∃ y, h = y := ⟨_, rfl⟩
    rw [hhX] at HSX HHv
    obtain ⟨rsX, hrsX⟩ : ∃ y, rs = y := ⟨_, rfl⟩
    rw [hrsX] at HSX
    clear hhX hrsX
    obtain ⟨c0, c1, c2, c3, c4, c5, c6, c7, c8, c9⟩ := HHv.out.cells
    obtain ⟨d0, d1, d2, d3, d4, d5, d6, d7, d8, d9⟩ := HRv.out.cells
    have z0 := frozen_of_heap HRv.out 0
    have z1 := frozen_of_heap HRv.out 1
    have z2 := frozen_of_heap HRv.out 2
    have z3 := frozen_of_heap HRv.out 3
    have z4 := frozen_of_heap HRv.out 4
    have z5 := frozen_of_heap HRv.out 5
    have z6 := frozen_of_heap HRv.out 6
    have z7 := frozen_of_heap HRv.out 7
    have z8 := frozen_of_heap HRv.out 8
    have z9 := frozen_of_heap HRv.out 9
    dsimp only at d0 d1 d2 d3 d4 d5 d6 d7 d8 d9
    go_wp2_with fail
    refine heap_useT HRv.out (.slice (some ⟨bw, 0, none⟩) L cp) hX _ ?_
    intro W' hW' hbl hoth
    obtain ⟨y0, y1, y2, y3, y4, y5, y6, y7, y8, y9⟩ := hW'.cells
    have hne := HNe.out
    have hwz := HWz.out
    exact bodyPost_ret (v := .tuple #[heapV (.slice (some ⟨bw, 0, none⟩) L cp) hX, .slice (some ⟨g, 0, none⟩) 4 gc]) (by simp [results, Try.results27, go_sem, y0, y1, y2, y3, y4, y5, y6, y7, y8, y9, heapV]) rfl ⟨_, bw, cp, g, gc, wsX, hX, rsX, by rw [HLX.out], HSX.out.turned (b := rv) (by omega) (by omega) (by omega) hoth (hbl W.heap.size (by omega)), HGc.out⟩
  · subst h24
    go_wp2_with fail
    have hD : Below W3.heap.size W3 W3.drew := (Below.refl _ _).drew
    obtain ⟨D, hDe⟩ : ∃ D, W3.drew = D := ⟨_, rfl⟩
    rw [hDe] at hD
    have SD := hid (HS3.out.keep hD)
    have HvD := hid (HHv.out.below hD)
    have RvD := hid (HRv.out.below hD)
    clear HS3 HHv HRv
    refine pick_begin (S := fun w => w.cell? ⟨hv, 0, none⟩ = some (.slice (some ⟨bw, 0, none⟩) L cp)) (by kernel_rfl) rfl rfl ?_
    rw [hDe]
    clear hDe hD
    have cS := HvD.out.cells.1
    refine pick_op (i := 0) (v := .slice (some ⟨g, 0, none⟩) 4 gc) (by kernel_rfl) rfl (by kernel_rfl) (by kernel_rfl) rfl rfl (fun w' _ => by simp [go_sem]) cS (by simp [go_sem]; exact rfl) ?_
    refine pick_op (i := 1) (v := .pointer (some ⟨B, 0, none⟩)) (by kernel_rfl) rfl (by kernel_rfl) (by kernel_rfl) rfl rfl (fun w' _ => by simp [go_sem]) cS (by simp [go_sem]; exact rfl) ?_
    refine pick_op (i := 3) (v := .pointer (some ⟨B, 0, none⟩)) (by kernel_rfl) rfl (by kernel_rfl) (by kernel_rfl) rfl rfl (fun w' _ => by simp [go_sem]) cS (by simp [go_sem]; exact rfl) ?_
    refine pick_op (i := 4) (v := .pointer (some ⟨hv, 0, none⟩)) (by kernel_rfl) rfl (by kernel_rfl) (by kernel_rfl) rfl rfl (fun w' _ => by simp [go_sem]) cS (by simp [go_sem]; exact rfl) ?_
    refine pick_op (i := 5) (v := .slice (some ⟨bw, 0, none⟩) L cp) (by kernel_rfl) rfl (by kernel_rfl) (by kernel_rfl) rfl rfl (fun w' hw => by simp [go_sem, hw]) cS (by simp [go_sem]; exact rfl) ?_
    refine pick_op (i := 6) (v := .int .i64 (L : Int)) (by kernel_rfl) rfl (by kernel_rfl) (by kernel_rfl) rfl rfl (fun w' _ => by simp [go_sem]) cS (by simp [go_sem]; exact rfl) ?_
    refine pick_enter (i := 2) (f := 28) (args := #[.pointer (some ⟨B, 0, none⟩), .int .i64 4]) rfl (by kernel_rfl) rfl rfl (by simp [go_sem]) ?_
    refine (rd_picks SD.out.rd (by have := SD.out.q0; omega) 4 (by omega)).mono ?_
    rintro e X1 ⟨a1, rfl, ha10, ha11, hra1, hoa1⟩
    have SX1 := hid (SD.out.only hra1 hoa1 (by have := HQ.out; omega))
    have HvX1 : Hid (HeapBlk X1 hv (.slice (some ⟨bw, 0, none⟩) L cp) h) := (hoa1.block hv (by have := HNe.out; omega)).trans HvD.out
    have RvX1 : Hid (HeapBlk X1 rv (.slice none 0 0) ⟨0, 0, 0, 0, 0, 0, 0, 0, 0⟩) := (hoa1.block rv (by have := HNe.out; omega)).trans RvD.out
    have cS := HvX1.out.cells.1
    clear hra1 hoa1
    refine ⟨_, rfl, cS, ?_⟩
    refine pick_frame (by simp [go_sem]; exact rfl) ?_
    refine pick_enter (i := 7) (f := 28) (args := #[.pointer (some ⟨B, 0, none⟩), .int .i64 (L : Int)]) rfl (by kernel_rfl) rfl rfl (by simp [go_sem]) ?_
    refine (rd_picks SX1.out.rd (by have := SX1.out.q0; omega) (L : Int) (by have := HL0.out; omega)).mono ?_
    rintro e X2 ⟨a2, rfl, ha20, ha21, hra2, hoa2⟩
    have SX2 := hid (SX1.out.only hra2 hoa2 (by have := HQ.out; omega))
    have HvX2 : Hid (HeapBlk X2 hv (.slice (some ⟨bw, 0, none⟩) L cp) h) := (hoa2.block hv (by have := HNe.out; omega)).trans HvX1.out
    have RvX2 : Hid (HeapBlk X2 rv (.slice none 0 0) ⟨0, 0, 0, 0, 0, 0, 0, 0, 0⟩) := (hoa2.block rv (by have := HNe.out; omega)).trans RvX1.out
    have cS := HvX2.out.cells.1
    clear hra2 hoa2
    refine ⟨_, rfl, cS, ?_⟩
    refine pick_frame (by simp [go_sem]; exact rfl) ?_
    obtain ⟨k1, rfl⟩ := Int.eq_ofNat_of_zero_le ha10
    have hk1 : k1 < 4 := by omega
    have cw := SX2.out.rt.cell hk1
    have zw := row_fz SX2.out.rt hk1
    refine pick_op (i := 8) (v := .int .i64 (wrap64 (8 * a2))) (by kernel_rfl) rfl (by kernel_rfl) (by kernel_rfl) rfl rfl (fun w' _ => by simp [go_sem]; exact IntWalk.i64_left _) cS (by simp [go_sem]; exact rfl) ?_
    obtain ⟨y2, hy2⟩ : ∃ y, wrap64 (8 * a2) = y := ⟨_, rfl⟩
    rw [hy2]
    clear hy2
    refine pick_op (i := 9) (v := .pointer (some ⟨g, k1, none⟩)) (by kernel_rfl) rfl (by kernel_rfl) (by kernel_rfl) rfl rfl (fun w' _ => by simp [go_sem, ha10, ha11]) cS (by simp [go_sem]; exact rfl) ?_
    have HSX := hid (SX2.out.root hk1 y2)
    have HHv : Hid (HeapBlk (X2.setCell ⟨g, k1, none⟩ (.int .i64 y2)) hv (.slice (some ⟨bw, 0, none⟩) L cp) h) := (Below.heap_setCell X2 ⟨g, k1, none⟩ _ hv (show hv ≠ g by have := HNe.out; omega)).trans HvX2.out
    have HRv : Hid (HeapBlk (X2.setCell ⟨g, k1, none⟩ (.int .i64 y2)) rv (.slice none 0 0) ⟨0, 0, 0, 0, 0, 0, 0, 0, 0⟩) := (Below.heap_setCell X2 ⟨g, k1, none⟩ _ rv (show rv ≠ g by have := HNe.out; omega)).trans RvX2.out
    refine pick_skip (i := 10) rfl (w1 := X2.setCell ⟨g, k1, none⟩ (.int .i64 y2)) rfl (by kernel_rfl) rfl rfl (by simp [go_sem, cw, zw]) HHv.out.cells.1 ?_
    refine pick_end (by kernel_rfl) ?_
    generalize X2.setCell ⟨g, k1, none⟩ (.int .i64 y2) = WX at *
    clear cw zw cS ha10 ha11 ha20 ha21 hk1
    have HLX := HLL
    obtain ⟨wsX, hwsX⟩ : ∃ y, ws = y := ⟨_, rfl⟩
    rw [hwsX] at HSX HLX
    obtain ⟨hX, hhX⟩ : ∃ y, h = y := ⟨_, rfl⟩
    rw [hhX] at HSX HHv
    obtain ⟨rsX, hrsX⟩ : ∃ y, rs.set k1 y2 = y := ⟨_, rfl⟩
    rw [hrsX] at HSX
    clear hwsX hhX hrsX
    obtain ⟨c0, c1, c2, c3, c4, c5, c6, c7, c8, c9⟩ := HHv.out.cells
    obtain ⟨d0, d1, d2, d3, d4, d5, d6, d7, d8, d9⟩ := HRv.out.cells
    have z0 := frozen_of_heap HRv.out 0
    have z1 := frozen_of_heap HRv.out 1
    have z2 := frozen_of_heap HRv.out 2
    have z3 := frozen_of_heap HRv.out 3
    have z4 := frozen_of_heap HRv.out 4
    have z5 := frozen_of_heap HRv.out 5
    have z6 := frozen_of_heap HRv.out 6
    have z7 := frozen_of_heap HRv.out 7
    have z8 := frozen_of_heap HRv.out 8
    have z9 := frozen_of_heap HRv.out 9
    dsimp only at d0 d1 d2 d3 d4 d5 d6 d7 d8 d9
    go_wp2_with fail
    refine heap_useT HRv.out (.slice (some ⟨bw, 0, none⟩) L cp) hX _ ?_
    intro W' hW' hbl hoth
    obtain ⟨y0, y1, y2, y3, y4, y5, y6, y7, y8, y9⟩ := hW'.cells
    have hne := HNe.out
    have hwz := HWz.out
    exact bodyPost_ret (v := .tuple #[heapV (.slice (some ⟨bw, 0, none⟩) L cp) hX, .slice (some ⟨g, 0, none⟩) 4 gc]) (by simp [results, Try.results27, go_sem, y0, y1, y2, y3, y4, y5, y6, y7, y8, y9, heapV]) rfl ⟨_, bw, cp, g, gc, wsX, hX, rsX, by rw [HLX.out], HSX.out.turned (b := rv) (by omega) (by omega) (by omega) hoth (hbl W.heap.size (by omega)), HGc.out⟩
  · subst h24
    go_wp2_with fail
    have hD : Below W3.heap.size W3 W3.drew := (Below.refl _ _).drew
    obtain ⟨D, hDe⟩ : ∃ D, W3.drew = D := ⟨_, rfl⟩
    rw [hDe] at hD
    have SD := hid (HS3.out.keep hD)
    have HvD := hid (HHv.out.below hD)
    have RvD := hid (HRv.out.below hD)
    clear HS3 HHv HRv
    refine pick_begin (S := fun _ => True) (by kernel_rfl) rfl rfl ?_
    rw [hDe]
    clear hDe hD
    refine pick_op (i := 0) (v := .pointer (some ⟨hv, 5, none⟩)) (by kernel_rfl) rfl (by kernel_rfl) (by kernel_rfl) rfl rfl (fun w' _ => by simp [go_sem]) trivial (by simp [go_sem]; exact rfl) ?_
    refine pick_op (i := 2) (v := .pointer (some ⟨B, 0, none⟩)) (by kernel_rfl) rfl (by kernel_rfl) (by kernel_rfl) rfl rfl (fun w' _ => by simp [go_sem]) trivial (by simp [go_sem]; exact rfl) ?_
    obtain ⟨x, hx⟩ : ∃ x, h.scan = x := ⟨_, rfl⟩
    have cD := HvD.out.cells.2.2.2.2.2.1
    rw [hx] at cD
    refine pick_either (i := 1) (j := 3) (by kernel_rfl) ?_ ?_
    · refine ⟨_, .int .i64 x, D, rfl, rfl, by simp [go_sem, cD], trivial, ?_⟩
      refine pick_frame (by simp [go_sem]; exact rfl) ?_
      clear cD
      refine pick_enter (i := 3) (f := 28) (args := #[.pointer (some ⟨B, 0, none⟩), .int .i64 3]) rfl (by kernel_rfl) rfl rfl (by simp [go_sem]) ?_
      refine (rd_picks SD.out.rd (by have := SD.out.q0; omega) 3 (by omega)).mono ?_
      rintro e X1 ⟨a1, rfl, ha10, ha11, hra1, hoa1⟩
      have SX1 := hid (SD.out.only hra1 hoa1 (by have := HQ.out; omega))
      have HvX1 : Hid (HeapBlk X1 hv (.slice (some ⟨bw, 0, none⟩) L cp) h) := (hoa1.block hv (by have := HNe.out; omega)).trans HvD.out
      have RvX1 : Hid (HeapBlk X1 rv (.slice none 0 0) ⟨0, 0, 0, 0, 0, 0, 0, 0, 0⟩) := (hoa1.block rv (by have := HNe.out; omega)).trans RvD.out
      clear hra1 hoa1
      refine ⟨_, rfl, trivial, ?_⟩
      refine pick_frame (by simp [go_sem]; exact rfl) ?_
      refine pick_op (i := 4) (v := .int .i64 (wrap64 (x + a1))) (by kernel_rfl) rfl (by kernel_rfl) (by kernel_rfl) rfl rfl (fun w' _ => by simp [go_sem]; exact IntWalk.i64_left _) trivial (by simp [go_sem]; exact rfl) ?_
      obtain ⟨y1, hy1⟩ : ∃ y, wrap64 (x + a1) = y := ⟨_, rfl⟩
      rw [hy1]
      clear hy1
      refine pick_op (i := 5) (v := .pointer (some ⟨hv, 5, none⟩)) (by kernel_rfl) rfl (by kernel_rfl) (by kernel_rfl) rfl rfl (fun w' _ => by simp [go_sem]) trivial (by simp [go_sem]; exact rfl) ?_
      have cX := HvX1.out.cells.2.2.2.2.2.1
      have zX := frozen_of_heap HvX1.out 5
      have HSX := hid ((SX1.out.side (b := hv) (by have := HNe.out; have := HWz.out; omega) (by have := HNe.out; omega) (by have := HNe.out; omega) 5 (.int .i64 y1)).nums (h' := { h with scan := y1 }) rfl rfl)
      have HHv : Hid (HeapBlk (X1.setCell ⟨hv, 5, none⟩ (.int .i64 y1)) hv (.slice (some ⟨bw, 0, none⟩) L cp) { h with scan := y1 }) := by
        have hb := HvX1.out
        unfold HeapBlk at hb
        show HeapBlk _ _ _ _
        unfold HeapBlk
        simp [World.setCell, Array.getElem?_modify, hb]
      have HRv : Hid (HeapBlk (X1.setCell ⟨hv, 5, none⟩ (.int .i64 y1)) rv (.slice none 0 0) ⟨0, 0, 0, 0, 0, 0, 0, 0, 0⟩) := (Below.heap_setCell X1 ⟨hv, 5, none⟩ _ rv (show rv ≠ hv by have := HNe.out; omega)).trans RvX1.out
      refine pick_skip (i := 6) rfl (w1 := X1.setCell ⟨hv, 5, none⟩ (.int .i64 y1)) rfl (by kernel_rfl) rfl rfl (by simp [go_sem, cX, zX]) trivial ?_
      refine pick_end (by kernel_rfl) ?_
      generalize X1.setCell ⟨hv, 5, none⟩ (.int .i64 y1) = WX at *
      clear cX zX ha10 ha11 hx
      have HLX := HLL
      obtain ⟨wsX, hwsX⟩ : ∃ y, ws = y := ⟨_, rfl⟩
      rw [hwsX] at HSX HLX
      obtain ⟨hX, hhX⟩ : ∃ y, ({ h with scan := y1 } : HpN) = y := ⟨_, rfl⟩
      rw [hhX] at HSX HHv
      obtain ⟨rsX, hrsX⟩ : ∃ y, rs = y := ⟨_, rfl⟩
      rw [hrsX] at HSX
      clear hwsX hhX hrsX
      obtain ⟨c0, c1, c2, c3, c4, c5, c6, c7, c8, c9⟩ := HHv.out.cells
      obtain ⟨d0, d1, d2, d3, d4, d5, d6, d7, d8, d9⟩ := HRv.out.cells
      have z0 := frozen_of_heap HRv.out 0
      have z1 := frozen_of_heap HRv.out 1
      have z2 := frozen_of_heap HRv.out 2
      have z3 := frozen_of_heap HRv.out 3
      have z4 := frozen_of_heap HRv.out 4
      have z5 := frozen_of_heap HRv.out 5
      have z6 := frozen_of_heap HRv.out 6
      have z7 := frozen_of_heap HRv.out 7
      have z8 := frozen_of_heap HRv.out 8
      have z9 := frozen_of_heap HRv.out 9
      dsimp only at d0 d1 d2 d3 d4 d5 d6 d7 d8 d9
      go_wp2_with fail
      refine heap_useT HRv.out (.slice (some ⟨bw, 0, none⟩) L cp) hX _ ?_
      intro W' hW' hbl hoth
      obtain ⟨y0, y1, y2, y3, y4, y5, y6, y7, y8, y9⟩ := hW'.cells
      have hne := HNe.out
      have hwz := HWz.out
      exact bodyPost_ret (v := .tuple #[heapV (.slice (some ⟨bw, 0, none⟩) L cp) hX, .slice (some ⟨g, 0, none⟩) 4 gc]) (by simp [results, Try.results27, go_sem, y0, y1, y2, y3, y4, y5, y6, y7, y8, y9, heapV]) rfl ⟨_, bw, cp, g, gc, wsX, hX, rsX, by rw [HLX.out], HSX.out.turned (b := rv) (by omega) (by omega) (by omega) hoth (hbl W.heap.size (by omega)), HGc.out⟩
    · clear cD
      refine ⟨_, 28, #[.pointer (some ⟨B, 0, none⟩), .int .i64 3], rfl, rfl, by simp [go_sem], ?_⟩
      refine (rd_picks SD.out.rd (by have := SD.out.q0; omega) 3 (by omega)).mono ?_
      rintro e X1 ⟨a1, rfl, ha10, ha11, hra1, hoa1⟩
      have SX1 := hid (SD.out.only hra1 hoa1 (by have := HQ.out; omega))
      have HvX1 : Hid (HeapBlk X1 hv (.slice (some ⟨bw, 0, none⟩) L cp) h) := (hoa1.block hv (by have := HNe.out; omega)).trans HvD.out
      have RvX1 : Hid (HeapBlk X1 rv (.slice none 0 0) ⟨0, 0, 0, 0, 0, 0, 0, 0, 0⟩) := (hoa1.block rv (by have := HNe.out; omega)).trans RvD.out
      clear hra1 hoa1
      refine ⟨_, rfl, trivial, ?_⟩
      refine pick_frame (by simp [go_sem]; exact rfl) ?_
      have cE := HvX1.out.cells.2.2.2.2.2.1
      rw [hx] at cE
      refine pick_make (i := 1) (v := .int .i64 x) (w1 := X1) rfl (by kernel_rfl) rfl rfl (by simp [go_sem, cE]) trivial (by simp [go_sem]; exact rfl) ?_
      clear cE
      refine pick_op (i := 4) (v := .int .i64 (wrap64 (x + a1))) (by kernel_rfl) rfl (by kernel_rfl) (by kernel_rfl) rfl rfl (fun w' _ => by simp [go_sem]; exact IntWalk.i64_left _) trivial (by simp [go_sem]; exact rfl) ?_
      obtain ⟨y1, hy1⟩ : ∃ y, wrap64 (x + a1) = y := ⟨_, rfl⟩
      rw [hy1]
      clear hy1
      refine pick_op (i := 5) (v := .pointer (some ⟨hv, 5, none⟩)) (by kernel_rfl) rfl (by kernel_rfl) (by kernel_rfl) rfl rfl (fun w' _ => by simp [go_sem]) trivial (by simp [go_sem]; exact rfl) ?_
      have cX := HvX1.out.cells.2.2.2.2.2.1
      have zX := frozen_of_heap HvX1.out 5
      have HSX := hid ((SX1.out.side (b := hv) (by have := HNe.out; have := HWz.out; omega) (by have := HNe.out; omega) (by have := HNe.out; omega) 5 (.int .i64 y1)).nums (h' := { h with scan := y1 }) rfl rfl)
      have HHv : Hid (HeapBlk (X1.setCell ⟨hv, 5, none⟩ (.int .i64 y1)) hv (.slice (some ⟨bw, 0, none⟩) L cp) { h with scan := y1 }) := by
        have hb := HvX1.out
        unfold HeapBlk at hb
        show HeapBlk _ _ _ _
        unfold HeapBlk
        simp [World.setCell, Array.getElem?_modify, hb]
      have HRv : Hid (HeapBlk (X1.setCell ⟨hv, 5, none⟩ (.int .i64 y1)) rv (.slice none 0 0) ⟨0, 0, 0, 0, 0, 0, 0, 0, 0⟩) := (Below.heap_setCell X1 ⟨hv, 5, none⟩ _ rv (show rv ≠ hv by have := HNe.out; omega)).trans RvX1.out
      refine pick_skip (i := 6) rfl (w1 := X1.setCell ⟨hv, 5, none⟩ (.int .i64 y1)) rfl (by kernel_rfl) rfl rfl (by simp [go_sem, cX, zX]) trivial ?_
      refine pick_end (by kernel_rfl) ?_
      generalize X1.setCell ⟨hv, 5, none⟩ (.int .i64 y1) = WX at *
      clear cX zX ha10 ha11 hx
      have HLX := HLL
      obtain ⟨wsX, hwsX⟩ : ∃ y, ws = y := ⟨_, rfl⟩
      rw [hwsX] at HSX HLX
      obtain ⟨hX, hhX⟩ : ∃ y, ({ h with scan := y1 } : HpN) = y := ⟨_, rfl⟩
      rw [hhX] at HSX HHv
      obtain ⟨rsX, hrsX⟩ : ∃ y, rs = y := ⟨_, rfl⟩
      rw [hrsX] at HSX
      clear hwsX hhX hrsX
      obtain ⟨c0, c1, c2, c3, c4, c5, c6, c7, c8, c9⟩ := HHv.out.cells
      obtain ⟨d0, d1, d2, d3, d4, d5, d6, d7, d8, d9⟩ := HRv.out.cells
      have z0 := frozen_of_heap HRv.out 0
      have z1 := frozen_of_heap HRv.out 1
      have z2 := frozen_of_heap HRv.out 2
      have z3 := frozen_of_heap HRv.out 3
      have z4 := frozen_of_heap HRv.out 4
      have z5 := frozen_of_heap HRv.out 5
      have z6 := frozen_of_heap HRv.out 6
      have z7 := frozen_of_heap HRv.out 7
      have z8 := frozen_of_heap HRv.out 8
      have z9 := frozen_of_heap HRv.out 9
      dsimp only at d0 d1 d2 d3 d4 d5 d6 d7 d8 d9
      go_wp2_with fail
      refine heap_useT HRv.out (.slice (some ⟨bw, 0, none⟩) L cp) hX _ ?_
      intro W' hW' hbl hoth
      obtain ⟨y0, y1, y2, y3, y4, y5, y6, y7, y8, y9⟩ := hW'.cells
      have hne := HNe.out
      have hwz := HWz.out
      exact bodyPost_ret (v := .tuple #[heapV (.slice (some ⟨bw, 0, none⟩) L cp) hX, .slice (some ⟨g, 0, none⟩) 4 gc]) (by simp [results, Try.results27, go_sem, y0, y1, y2, y3, y4, y5, y6, y7, y8, y9, heapV]) rfl ⟨_, bw, cp, g, gc, wsX, hX, rsX, by rw [HLX.out], HSX.out.turned (b := rv) (by omega) (by omega) (by omega) hoth (hbl W.heap.size (by omega)), HGc.out⟩
  · subst h24
    go_wp2_with fail
    have hD : Below W3.heap.size W3 W3.drew := (Below.refl _ _).drew
    obtain ⟨D, hDe⟩ : ∃ D, W3.drew = D := ⟨_, rfl⟩
    rw [hDe] at hD
    have SD := hid (HS3.out.keep hD)
    have HvD := hid (HHv.out.below hD)
    have RvD := hid (HRv.out.below hD)
    clear HS3 HHv HRv
    refine pick_begin (S := fun _ => True) (by kernel_rfl) rfl rfl ?_
    rw [hDe]
    clear hDe hD
    refine pick_op (i := 0) (v := .pointer (some ⟨hv, 4, none⟩)) (by kernel_rfl) rfl (by kernel_rfl) (by kernel_rfl) rfl rfl (fun w' _ => by simp [go_sem]) trivial (by simp [go_sem]; exact rfl) ?_
    refine pick_op (i := 2) (v := .pointer (some ⟨B, 0, none⟩)) (by kernel_rfl) rfl (by kernel_rfl) (by kernel_rfl) rfl rfl (fun w' _ => by simp [go_sem]) trivial (by simp [go_sem]; exact rfl) ?_
    obtain ⟨x, hx⟩ : ∃ x, h.top = x := ⟨_, rfl⟩
    have cD := HvD.out.cells.2.2.2.2.1
    rw [hx] at cD
    refine pick_either (i := 1) (j := 3) (by kernel_rfl) ?_ ?_
    · refine ⟨_, .int .i64 x, D, rfl, rfl, by simp [go_sem, cD], trivial, ?_⟩
      refine pick_frame (by simp [go_sem]; exact rfl) ?_
      clear cD
      refine pick_enter (i := 3) (f := 28) (args := #[.pointer (some ⟨B, 0, none⟩), .int .i64 5]) rfl (by kernel_rfl) rfl rfl (by simp [go_sem]) ?_
      refine (rd_picks SD.out.rd (by have := SD.out.q0; omega) 5 (by omega)).mono ?_
      rintro e X1 ⟨a1, rfl, ha10, ha11, hra1, hoa1⟩
      have SX1 := hid (SD.out.only hra1 hoa1 (by have := HQ.out; omega))
      have HvX1 : Hid (HeapBlk X1 hv (.slice (some ⟨bw, 0, none⟩) L cp) h) := (hoa1.block hv (by have := HNe.out; omega)).trans HvD.out
      have RvX1 : Hid (HeapBlk X1 rv (.slice none 0 0) ⟨0, 0, 0, 0, 0, 0, 0, 0, 0⟩) := (hoa1.block rv (by have := HNe.out; omega)).trans RvD.out
      clear hra1 hoa1
      refine ⟨_, rfl, trivial, ?_⟩
      refine pick_frame (by simp [go_sem]; exact rfl) ?_
      refine pick_op (i := 4) (v := .int .i64 (wrap64 (x + a1))) (by kernel_rfl) rfl (by kernel_rfl) (by kernel_rfl) rfl rfl (fun w' _ => by simp [go_sem]; exact IntWalk.i64_left _) trivial (by simp [go_sem]; exact rfl) ?_
      obtain ⟨y1, hy1⟩ : ∃ y, wrap64 (x + a1) = y := ⟨_, rfl⟩
      rw [hy1]
      clear hy1
      refine pick_op (i := 5) (v := .int .i64 (wrap64 (y1 - 2))) (by kernel_rfl) rfl (by kernel_rfl) (by kernel_rfl) rfl rfl (fun w' _ => by simp [go_sem]; exact IntWalk.i64_left _) trivial (by simp [go_sem]; exact rfl) ?_
      obtain ⟨y2, hy2⟩ : ∃ y, wrap64 (y1 - 2) = y := ⟨_, rfl⟩
      rw [hy2]
      clear hy2
      refine pick_op (i := 6) (v := .pointer (some ⟨hv, 4, none⟩)) (by kernel_rfl) rfl (by kernel_rfl) (by kernel_rfl) rfl rfl (fun w' _ => by simp [go_sem]) trivial (by simp [go_sem]; exact rfl) ?_
      have cX := HvX1.out.cells.2.2.2.2.1
      have zX := frozen_of_heap HvX1.out 4
      have HSX := hid ((SX1.out.side (b := hv) (by have := HNe.out; have := HWz.out; omega) (by have := HNe.out; omega) (by have := HNe.out; omega) 4 (.int .i64 y2)).nums (h' := { h with top := y2 }) rfl rfl)
      have HHv : Hid (HeapBlk (X1.setCell ⟨hv, 4, none⟩ (.int .i64 y2)) hv (.slice (some ⟨bw, 0, none⟩) L cp) { h with top := y2 }) := by
        have hb := HvX1.out
        unfold HeapBlk at hb
        show HeapBlk _ _ _ _
        unfold HeapBlk
        simp [World.setCell, Array.getElem?_modify, hb]
      have HRv : Hid (HeapBlk (X1.setCell ⟨hv, 4, none⟩ (.int .i64 y2)) rv (.slice none 0 0) ⟨0, 0, 0, 0, 0, 0, 0, 0, 0⟩) := (Below.heap_setCell X1 ⟨hv, 4, none⟩ _ rv (show rv ≠ hv by have := HNe.out; omega)).trans RvX1.out
      refine pick_skip (i := 7) rfl (w1 := X1.setCell ⟨hv, 4, none⟩ (.int .i64 y2)) rfl (by kernel_rfl) rfl rfl (by simp [go_sem, cX, zX]) trivial ?_
      refine pick_end (by kernel_rfl) ?_
      generalize X1.setCell ⟨hv, 4, none⟩ (.int .i64 y2) = WX at *
      clear cX zX ha10 ha11 hx
      have HLX := HLL
      obtain ⟨wsX, hwsX⟩ : ∃ y, ws = y := ⟨_, rfl⟩
      rw [hwsX] at HSX HLX
      obtain ⟨hX, hhX⟩ : ∃ y, ({ h with top := y2 } : HpN) = y := ⟨_, rfl⟩
      rw [hhX] at HSX HHv
      obtain ⟨rsX, hrsX⟩ : ∃ y, rs = y := ⟨_, rfl⟩
      rw [hrsX] at HSX
      clear hwsX hhX hrsX
      obtain ⟨c0, c1, c2, c3, c4, c5, c6, c7, c8, c9⟩ := HHv.out.cells
      obtain ⟨d0, d1, d2, d3, d4, d5, d6, d7, d8, d9⟩ := HRv.out.cells
      have z0 := frozen_of_heap HRv.out 0
      have z1 := frozen_of_heap HRv.out 1
      have z2 := frozen_of_heap HRv.out 2
      have z3 := frozen_of_heap HRv.out 3
      have z4 := frozen_of_heap HRv.out 4
      have z5 := frozen_of_heap HRv.out 5
      have z6 := frozen_of_heap HRv.out 6
      have z7 := frozen_of_heap HRv.out 7
      have z8 := frozen_of_heap HRv.out 8
      have z9 := frozen_of_heap HRv.out 9
      dsimp only at d0 d1 d2 d3 d4 d5 d6 d7 d8 d9
      go_wp2_with fail
      refine heap_useT HRv.out (.slice (some ⟨bw, 0, none⟩) L cp) hX _ ?_
      intro W' hW' hbl hoth
      obtain ⟨y0, y1, y2, y3, y4, y5, y6, y7, y8, y9⟩ := hW'.cells
      have hne := HNe.out
      have hwz := HWz.out
      exact bodyPost_ret (v := .tuple #[heapV (.slice (some ⟨bw, 0, none⟩) L cp) hX, .slice (some ⟨g, 0, none⟩) 4 gc]) (by simp [results, Try.results27, go_sem, y0, y1, y2, y3, y4, y5, y6, y7, y8, y9, heapV]) rfl ⟨_, bw, cp, g, gc, wsX, hX, rsX, by rw [HLX.out], HSX.out.turned (b := rv) (by omega) (by omega) (by omega) hoth (hbl W.heap.size (by omega)), HGc.out⟩
    · clear cD
      refine ⟨_, 28, #[.pointer (some ⟨B, 0, none⟩), .int .i64 5], rfl, rfl, by simp [go_sem], ?_⟩
      refine (rd_picks SD.out.rd (by have := SD.out.q0; omega) 5 (by omega)).mono ?_
      rintro e X1 ⟨a1, rfl, ha10, ha11, hra1, hoa1⟩
      have SX1 := hid (SD.out.only hra1 hoa1 (by have := HQ.out; omega))
      have HvX1 : Hid (HeapBlk X1 hv (.slice (some ⟨bw, 0, none⟩) L cp) h) := (hoa1.block hv (by have := HNe.out; omega)).trans HvD.out
      have RvX1 : Hid (HeapBlk X1 rv (.slice none 0 0) ⟨0, 0, 0, 0, 0, 0, 0, 0, 0⟩) := (hoa1.block rv (by have := HNe.out; omega)).trans RvD.out
      clear hra1 hoa1
      refine ⟨_, rfl, trivial, ?_⟩
      refine pick_frame (by simp [go_sem]; exact rfl) ?_
      have cE := HvX1.out.cells.2.2.2.2.1
      rw [hx] at cE
      refine pick_make (i := 1) (v := .int .i64 x) (w1 := X1) rfl (by kernel_rfl) rfl rfl (by simp [go_sem, cE]) trivial (by simp [go_sem]; exact rfl) ?_
      clear cE
      refine pick_op (i := 4) (v := .int .i64 (wrap64 (x + a1))) (by kernel_rfl) rfl (by kernel_rfl) (by kernel_rfl) rfl rfl (fun w' _ => by simp [go_sem]; exact IntWalk.i64_left _) trivial (by simp [go_sem]; exact rfl) ?_
      obtain ⟨y1, hy1⟩ : ∃ y, wrap64 (x + a1) = y := ⟨_, rfl⟩
      rw [hy1]
      clear hy1
      refine pick_op (i := 5) (v := .int .i64 (wrap64 (y1 - 2))) (by kernel_rfl) rfl (by kernel_rfl) (by kernel_rfl) rfl rfl (fun w' _ => by simp [go_sem]; exact IntWalk.i64_left _) trivial (by simp [go_sem]; exact rfl) ?_
      obtain ⟨y2, hy2⟩ : ∃ y, wrap64 (y1 - 2) = y := ⟨_, rfl⟩
      rw [hy2]
      clear hy2
      refine pick_op (i := 6) (v := .pointer (some ⟨hv, 4, none⟩)) (by kernel_rfl) rfl (by kernel_rfl) (by kernel_rfl) rfl rfl (fun w' _ => by simp [go_sem]) trivial (by simp [go_sem]; exact rfl) ?_
      have cX := HvX1.out.cells.2.2.2.2.1
      have zX := frozen_of_heap HvX1.out 4
      have HSX := hid ((SX1.out.side (b := hv) (by have := HNe.out; have := HWz.out; omega) (by have := HNe.out; omega) (by have := HNe.out; omega) 4 (.int .i64 y2)).nums (h' := { h with top := y2 }) rfl rfl)
      have HHv : Hid (HeapBlk (X1.setCell ⟨hv, 4, none⟩ (.int .i64 y2)) hv (.slice (some ⟨bw, 0, none⟩) L cp) { h with top := y2 }) := by
        have hb := HvX1.out
        unfold HeapBlk at hb
        show HeapBlk _ _ _ _
        unfold HeapBlk
        simp [World.setCell, Array.getElem?_modify, hb]
      have HRv : Hid (HeapBlk (X1.setCell ⟨hv, 4, none⟩ (.int .i64 y2)) rv (.slice none 0 0) ⟨0, 0, 0, 0, 0, 0, 0, 0, 0⟩) := (Below.heap_setCell X1 ⟨hv, 4, none⟩ _ rv (show rv ≠ hv by have := HNe.out; omega)).trans RvX1.out
      refine pick_skip (i := 7) rfl (w1 := X1.setCell ⟨hv, 4, none⟩ (.int .i64 y2)) rfl (by kernel_rfl) rfl rfl (by simp [go_sem, cX, zX]) trivial ?_
      refine pick_end (by kernel_rfl) ?_
      generalize X1.setCell ⟨hv, 4, none⟩ (.int .i64 y2) = WX at *
      clear cX zX ha10 ha11 hx
      have HLX := HLL
      obtain ⟨wsX, hwsX⟩ : ∃ y, ws = y := ⟨_, rfl⟩
      rw [hwsX] at HSX HLX
      obtain ⟨hX, hhX⟩ : ∃ y, ({ h with top := y2 } : HpN) = y := ⟨_, rfl⟩
      rw [hhX] at HSX HHv
      obtain ⟨rsX, hrsX⟩ : ∃ y, rs = y := ⟨_, rfl⟩
      rw [hrsX] at HSX
      clear hwsX hhX hrsX
      obtain ⟨c0, c1, c2, c3, c4, c5, c6, c7, c8, c9⟩ := HHv.out.cells
      obtain ⟨d0, d1, d2, d3, d4, d5, d6, d7, d8, d9⟩ := HRv.out.cells
      have z0 := frozen_of_heap HRv.out 0
      have z1 := frozen_of_heap HRv.out 1
      have z2 := frozen_of_heap HRv.out 2
      have z3 := frozen_of_heap HRv.out 3
      have z4 := frozen_of_heap HRv.out 4
      have z5 := frozen_of_heap HRv.out 5
      have z6 := frozen_of_heap HRv.out 6
      have z7 := frozen_of_heap HRv.out 7
      have z8 := frozen_of_heap HRv.out 8
      have z9 := frozen_of_heap HRv.out 9
      dsimp only at d0 d1 d2 d3 d4 d5 d6 d7 d8 d9
      go_wp2_with fail
      refine heap_useT HRv.out (.slice (some ⟨bw, 0, none⟩) L cp) hX _ ?_
      intro W' hW' hbl hoth
      obtain ⟨y0, y1, y2, y3, y4, y5, y6, y7, y8, y9⟩ := hW'.cells
      have hne := HNe.out
      have hwz := HWz.out
      exact bodyPost_ret (v := .tuple #[heapV (.slice (some ⟨bw, 0, none⟩) L cp) hX, .slice (some ⟨g, 0, none⟩) 4 gc]) (by simp [results, Try.results27, go_sem, y0, y1, y2, y3, y4, y5, y6, y7, y8, y9, heapV]) rfl ⟨_, bw, cp, g, gc, wsX, hX, rsX, by rw [HLX.out], HSX.out.turned (b := rv) (by omega) (by omega) (by omega) hoth (hbl W.heap.size (by omega)), HGc.out⟩
  · subst h24
    obtain ⟨c0, c1, c2, c3, c4, c5, c6, c7, c8, c9⟩ := HHv.out.cells
    obtain ⟨d0, d1, d2, d3, d4, d5, d6, d7, d8, d9⟩ := HRv.out.cells
    have z0 := frozen_of_heap HRv.out 0
    have z1 := frozen_of_heap HRv.out 1
    have z2 := frozen_of_heap HRv.out 2
    have z3 := frozen_of_heap HRv.out 3
    have z4 := frozen_of_heap HRv.out 4
    have z5 := frozen_of_heap HRv.out 5
    have z6 := frozen_of_heap HRv.out 6
    have z7 := frozen_of_heap HRv.out 7
    have z8 := frozen_of_heap HRv.out 8
    have z9 := frozen_of_heap HRv.out 9
    dsimp only at d0 d1 d2 d3 d4 d5 d6 d7 d8 d9
    have x2 := frozen_of_heap HHv.out 2
    have q1 : rv ≠ hv := by have := HNe.out; omega
    have q2 : hv ≠ rv := Ne.symm q1
    have q3 : ¬ hv = rv := q2
    have q4 : ¬ rv = hv := q1
    go_wp2_with fail
    obtain ⟨tz, htz⟩ : ∃ y, wrap64 (h.size - h.to) = y := ⟨_, rfl⟩
    rw [htz]
    clear htz c0 c1 c2 c3 c4 c5 c6 c7 c8 c9 x2 d0 d1 d2 d3 d4 d5 d6 d7 d8 d9 z0 z1 z2 z3 z4 z5 z6 z7 z8 z9
    have HSX := hid ((HS3.out.side (b := hv) (by have := HNe.out; have := HWz.out; omega) (by have := HNe.out; omega) (by have := HNe.out; omega) 2 (.int .i64 tz)).nums (h' := { h with «to» := tz }) rfl rfl)
    have HRw : Hid (HeapBlk (W3.setCell ⟨hv, 2, none⟩ (.int .i64 tz)) rv (.slice none 0 0) ⟨0, 0, 0, 0, 0, 0, 0, 0, 0⟩) := (Below.heap_setCell W3 ⟨hv, 2, none⟩ _ rv (show rv ≠ hv by have := HNe.out; omega)).trans HRv.out
    clear HHv HRv HS3
    have HRv := HRw
    clear HRw
    generalize W3.setCell ⟨hv, 2, none⟩ (.int .i64 tz) = WX at *
    have HLX := HLL
    obtain ⟨wsX, hwsX⟩ : ∃ y, ws = y := ⟨_, rfl⟩
    rw [hwsX] at HSX HLX
    obtain ⟨rsX, hrsX⟩ : ∃ y, rs = y := ⟨_, rfl⟩
    rw [hrsX] at HSX
    clear hwsX hrsX
    refine heap_useT HRv.out (.slice (some ⟨bw, 0, none⟩) L cp) { h with «to» := tz } _ ?_
    intro W' hW' hbl hoth
    obtain ⟨y0, y1, y2, y3, y4, y5, y6, y7, y8, y9⟩ := hW'.cells
    have hne := HNe.out
    have hwz := HWz.out
    exact bodyPost_ret (v := .tuple #[heapV (.slice (some ⟨bw, 0, none⟩) L cp) { h with «to» := tz }, .slice (some ⟨g, 0, none⟩) 4 gc]) (by simp [results, Try.results27, go_sem, y0, y1, y2, y3, y4, y5, y6, y7, y8, y9, heapV]) rfl ⟨_, bw, cp, g, gc, wsX, { h with «to» := tz }, rsX, by rw [HLX.out], HSX.out.turned (b := rv) (by omega) (by omega) (by omega) hoth (hbl W.heap.size (by omega)), HGc.out⟩
  · have y0 : (m24 == 0) = false := by simpa using z0
    have y1 : (m24 == 1) = false := by simpa using z1
    have y2 : (m24 == 2) = false := by simpa using z2
    have y3 : (m24 == 3) = false := by simpa using z3
    have y4 : (m24 == 4) = false := by simpa using z4
    have HSX := HS3
    have HLX := HLL
    obtain ⟨WX, hWX⟩ : ∃ y, W3 = y := ⟨_, rfl⟩
    rw [hWX] at HSX HHv HRv ⊢
    obtain ⟨wsX, hwsX⟩ : ∃ y, ws = y := ⟨_, rfl⟩
    rw [hwsX] at HSX HLX
    obtain ⟨hX, hhX⟩ : ∃ y, h = y := ⟨_, rfl⟩
    rw [hhX] at HSX HHv
    obtain ⟨rsX, hrsX⟩ : ∃ y, rs = y := ⟨_, rfl⟩
    rw [hrsX] at HSX
    clear HS3 hWX hwsX hhX hrsX
    obtain ⟨c0, c1, c2, c3, c4, c5, c6, c7, c8, c9⟩ := HHv.out.cells
    obtain ⟨d0, d1, d2, d3, d4, d5, d6, d7, d8, d9⟩ := HRv.out.cells
    have z0 := frozen_of_heap HRv.out 0
    have z1 := frozen_of_heap HRv.out 1
    have z2 := frozen_of_heap HRv.out 2
    have z3 := frozen_of_heap HRv.out 3
    have z4 := frozen_of_heap HRv.out 4
    have z5 := frozen_of_heap HRv.out 5
    have z6 := frozen_of_heap HRv.out 6
    have z7 := frozen_of_heap HRv.out 7
    have z8 := frozen_of_heap HRv.out 8
    have z9 := frozen_of_heap HRv.out 9
    dsimp only at d0 d1 d2 d3 d4 d5 d6 d7 d8 d9
    go_wp2_with fail
    refine heap_useT HRv.out (.slice (some ⟨bw, 0, none⟩) L cp) hX _ ?_
    intro W' hW' hbl hoth
    obtain ⟨y0, y1, y2, y3, y4, y5, y6, y7, y8, y9⟩ := hW'.cells
    have hne := HNe.out
    have hwz := HWz.out
    exact bodyPost_ret (v := .tuple #[heapV (.slice (some ⟨bw, 0, none⟩) L cp) hX, .slice (some ⟨g, 0, none⟩) 4 gc]) (by simp [results, Try.results27, go_sem, y0, y1, y2, y3, y4, y5, y6, y7, y8, y9, heapV]) rfl ⟨_, bw, cp, g, gc, wsX, hX, rsX, by rw [HLX.out], HSX.out.turned (b := rv) (by omega) (by omega) (by omega) hoth (hbl W.heap.size (by omega)), HGc.out⟩
end Go.Proofs.Ytebpgglegnljgaa
