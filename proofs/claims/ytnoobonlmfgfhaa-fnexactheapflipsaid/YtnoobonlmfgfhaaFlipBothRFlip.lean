/- HeapFlip: both sides answer the same, whatever they are given. -/
import Derived.Test.YtnoobonlmfgfhaaImplFlipBRFlip
import Derived.Test.YtnoobonlmfgfhaaSpecFlipBRFlip
import Derived.Test.YtnoobonlmfgfhaaBothKitRFlip
namespace Go.Proofs.Ytnoobonlmfgfhaa
open Go.RowKit

/-- A heap, a list and a bool are told; the heap's words and the list are new, and apart. -/
def ToldF (W : World) (ans : List Int) (H : HpN) (ys : List Int) (ok : Bool) (e : Ending) (w' : World) : Prop :=
  (∃ v u, e = .returned (.tuple #[heapV v H, u, .bool ok]) ∧ SliceR 3 1 W.heap.size w' v ans.length (intCells ans) ∧ SliceR 3 1 W.heap.size w' u ys.length (intCells ys) ∧ (ans.length ≠ 0 → ys.length ≠ 0 → u.ownBlock ≠ v.ownBlock)) ∧ Below W.heap.size W w'

theorem toldF_none {W w' : World} {e : Ending} (h : e = .returned (.tuple #[noHeap, .slice none 0 0, .bool false]) ∧ Below W.heap.size W w') : ToldF W [] ⟨0, 0, 0, 0, 0, 0, 0, 0, 0⟩ [] false e w' :=
  ⟨⟨_, _, h.1, ⟨none, 0, rfl, Or.inl rfl⟩, ⟨none, 0, rfl, Or.inl rfl⟩, fun h => absurd rfl h⟩, h.2⟩

theorem toldF_some {N n : Nat} {W w' : World} {ys : List Int} {s : CN} {e : Ending} (hl : s.ws.length = N) (hn : ys.length = n) (h : FlipTold N n W (some (ys, s)) e w') : ToldF W s.ws { s.h with touched := touchZ s } ys true e w' := by
  obtain ⟨bw, cap, g, c, rfl, hr, hr2, hne, hlow, hlow2, hb⟩ := h
  subst hl
  subst hn
  exact ⟨⟨_, _, rfl, ⟨some ⟨bw, 0, none⟩, cap, rfl, Or.inr ⟨bw, rfl, hlow, by rw [Nat.mul_one]; exact hr⟩⟩, ⟨some ⟨g, 0, none⟩, c, rfl, Or.inr ⟨g, rfl, hlow2, by rw [Nat.mul_one]; exact hr2⟩⟩, fun _ _ => by simp [Value.ownBlock]; exact hne⟩, hb⟩

theorem flip_both (bs xs : List Int) (h : HpN) (ht : h.touched < 9223372036854775808) (hm : bs.length ≤ 1048576) (hx : xs.length ≤ 1048576) : ∃ ans H ys ok, ans.length ≤ 1048576 ∧ ys.length ≤ 1048576 ∧
    (∀ B g B2 rg W, SliceR 3 1 B W (.slice (some ⟨g, 0, none⟩) bs.length bs.length) bs.length (intCells bs) → SliceR 3 1 B2 W (.slice (some ⟨rg, 0, none⟩) xs.length xs.length) xs.length (intCells xs) → Calls Try.prog 26 #[heapV (.slice (some ⟨g, 0, none⟩) bs.length bs.length) h, .slice (some ⟨rg, 0, none⟩) xs.length xs.length] W (ToldF W ans H ys ok)) ∧
    (∀ B g B2 rg W, SliceR 3 1 B W (.slice (some ⟨g, 0, none⟩) bs.length bs.length) bs.length (intCells bs) → SliceR 3 1 B2 W (.slice (some ⟨rg, 0, none⟩) xs.length xs.length) xs.length (intCells xs) → Calls Try.prog 27 #[heapV (.slice (some ⟨g, 0, none⟩) bs.length bs.length) h, .slice (some ⟨rg, 0, none⟩) xs.length xs.length] W (ToldF W ans H ys ok)) := by
  by_cases ho : Ordered h bs.length
  case neg =>
    exact ⟨[], _, [], _, by simp, by simp, fun B g B2 rg W _ _ => (sFlip_notOk g 0 bs.length bs.length h rg xs.length xs.length W (fun X _ => specOk_bad _ _ _ h X hm ho)).mono (fun _ _ => toldF_none), fun B g B2 rg W _ _ => (iFlip_notOk g 0 bs.length bs.length h rg xs.length xs.length W (fun X _ => layOut_bad _ _ _ h X ho)).mono (fun _ _ => toldF_none)⟩
  obtain ⟨o1, o2, o3, o4, o5, o6, o7, o8, o9, o10, o11, o12, o13⟩ := id ho
  have hN0 : bs.length ≠ 0 := by omega
  have hN8 : bs.length ≤ 8000 := by omega
  have SOk : ∀ B g W, SliceR 3 1 B W (.slice (some ⟨g, 0, none⟩) bs.length bs.length) bs.length (intCells bs) → ∀ X, Below W.heap.size W X → Calls Try.prog 10 #[heapV (.slice (some ⟨g, 0, none⟩) bs.length bs.length) h] X fun e w' => e = .returned (.bool (specOk bs h)) ∧ Below X.heap.size X w' := fun B g W hs X hX =>
    specOk_calls g 0 bs.length bs.length bs h X rfl ho (row_kept hN0 hs hX).1 (row_kept hN0 hs hX).2
  have ILy : ∀ B g W, SliceR 3 1 B W (.slice (some ⟨g, 0, none⟩) bs.length bs.length) bs.length (intCells bs) → ∀ X, Below W.heap.size W X → Calls Try.prog 40 #[heapV (.slice (some ⟨g, 0, none⟩) bs.length bs.length) h] X (LayTold g 0 bs.length bs.length bs h X) := fun B g W hs X hX =>
    layOut_calls g 0 bs.length bs.length bs h X rfl ho (Nat.le_refl _) (row_kept hN0 hs hX).1 (row_kept hN0 hs hX).2
  cases hk : specOk bs h with
  | false =>
    have hki : implOk bs h = false := by rw [← ok_same ho]; exact hk
    rw [hk] at SOk
    refine ⟨[], _, [], _, by simp, by simp, fun B g B2 rg W hs _ => (sFlip_notOk g 0 bs.length bs.length h rg xs.length xs.length W (SOk B g W hs)).mono (fun _ _ => toldF_none), fun B g B2 rg W hs _ => (iFlip_notOk g 0 bs.length bs.length h rg xs.length xs.length W (fun X hX => (ILy B g W hs X hX).mono ?_)).mono (fun _ _ => toldF_none)⟩
    rintro e w' ⟨hres, hb'⟩
    rcases hres with ⟨_, e1⟩ | ⟨S, gb, _, e2, _⟩
    · exact ⟨e1, hb'⟩
    · rw [hki] at e2
      cases e2
  | true =>
    have hki : implOk bs h = true := by rw [← ok_same ho]; exact hk
    rw [hk] at SOk
    obtain ⟨S, ok⟩ := ok_facts ho hk
    have ILg : ∀ B g W, SliceR 3 1 B W (.slice (some ⟨g, 0, none⟩) bs.length bs.length) bs.length (intCells bs) → ∀ X, Below W.heap.size W X → Calls Try.prog 40 #[heapV (.slice (some ⟨g, 0, none⟩) bs.length bs.length) h] X fun e w' => ∃ gb, e = .returned (.tuple #[layV (.slice (some ⟨g, 0, none⟩) bs.length bs.length) h (.slice (some ⟨gb, 0, none⟩) bs.length bs.length), .bool true]) ∧ Hid (ISt g 0 gb bs.length bs S w') ∧ Below X.heap.size X w' := fun B g W hs X hX => (ILy B g W hs X hX).mono (by
      rintro e w' ⟨hres, hb'⟩
      rcases hres with ⟨e1, _⟩ | ⟨S', gb, e1, _, e2, _, e3⟩
      · rw [hki] at e1
        cases e1
      · rw [ok.impl] at e1
        cases e1
        exact ⟨gb, e2, e3, hb'⟩)
    by_cases hsc : h.scan = h.bottom
    case neg =>
      have hne : (h.scan != h.bottom) = true := by simpa using hsc
      exact ⟨[], _, [], _, by simp, by simp, fun B g B2 rg W hs _ => (sFlip_scan g 0 bs.length bs.length h rg xs.length xs.length W hne (SOk B g W hs)).mono (fun _ _ => toldF_none), fun B g B2 rg W hs _ => (iFlip_scan g 0 bs.length bs.length h rg xs.length xs.length W bs S hne hsc (ILg B g W hs)).mono (fun _ _ => toldF_none)⟩
    have heq : (h.scan != h.bottom) = false := by simpa using hsc
    have IRt : ∀ g B2 rg W, SliceR 3 1 B2 W (.slice (some ⟨rg, 0, none⟩) xs.length xs.length) xs.length (intCells xs) → ∀ (X : World) (gb : Nat), Below W.heap.size W X → ISt g 0 gb bs.length bs S X → Calls Try.prog 46 #[layV (.slice (some ⟨g, 0, none⟩) bs.length bs.length) h (.slice (some ⟨gb, 0, none⟩) bs.length bs.length), .slice (some ⟨rg, 0, none⟩) xs.length xs.length] X fun e w' => e = .returned (.bool (decide (xs.length ≤ 20) && implRoots S h xs)) ∧ Below X.heap.size X w' := fun g B2 rg W hr X gb hX hI => rootsOk_calls (some ⟨rg, 0, none⟩) xs.length g 0 bs.length gb bs.length bs S h xs X ho hI (hr.below hX).intSlice hx
    by_cases hn : xs.length ≤ 20
    case neg =>
      rw [decide_eq_false hn, Bool.false_and] at IRt
      exact ⟨[], _, [], _, by simp, by simp, fun B g B2 rg W hs _ => (sFlip_many g 0 bs.length bs.length h rg xs.length xs.length W heq (by omega) (SOk B g W hs)).mono (fun _ _ => toldF_none), fun B g B2 rg W hs hr => (iFlip_noRoot g 0 bs.length bs.length h rg xs.length xs.length W bs S heq (ILg B g W hs) (IRt g B2 rg W hr)).mono (fun _ _ => toldF_none)⟩
    have hn2 : ¬ (20 : Int) < (xs.length : Int) := by omega
    rw [decide_eq_true hn, Bool.true_and] at IRt
    have SRt : ∀ B g B2 rg W, SliceR 3 1 B W (.slice (some ⟨g, 0, none⟩) bs.length bs.length) bs.length (intCells bs) → SliceR 3 1 B2 W (.slice (some ⟨rg, 0, none⟩) xs.length xs.length) xs.length (intCells xs) → ∀ X, Below W.heap.size W X → Calls Try.prog 42 #[heapV (.slice (some ⟨g, 0, none⟩) bs.length bs.length) h, .slice (some ⟨rg, 0, none⟩) xs.length xs.length] X fun e w' => e = .returned (.bool (specRoots bs S h xs)) ∧ Below X.heap.size X w' := fun B g B2 rg W hs hr X hX => specRoots_calls g 0 bs.length bs.length bs S h _ xs X rfl ho ok.spec (row_kept hN0 hs hX).1 (row_kept hN0 hs hX).2 (hr.below hX).intSlice hn
    have hsame : specRoots bs S h xs = implRoots S h xs := (roots_same ok xs).symm
    rw [hsame] at SRt
    cases hro : implRoots S h xs with
    | false =>
      rw [hro] at SRt IRt
      exact ⟨[], _, [], _, by simp, by simp, fun B g B2 rg W hs hr => (sFlip_noRoot g 0 bs.length bs.length h rg xs.length xs.length W heq hn2 (SOk B g W hs) (SRt B g B2 rg W hs hr)).mono (fun _ _ => toldF_none), fun B g B2 rg W hs hr => (iFlip_noRoot g 0 bs.length bs.length h rg xs.length xs.length W bs S heq (ILg B g W hs) (IRt g B2 rg W hr)).mono (fun _ _ => toldF_none)⟩
    | true =>
      rw [hro] at SRt IRt
      have ha : ∀ i, i < xs.length → Aim S (flipH h) bs.length (xs.getD i 0) := fun i hi => by
        unfold implRoots at hro
        rw [List.all_eq_true] at hro
        exact used_aim ok (hro i (List.mem_range.2 hi))
      have hst : Mvs S bs.length 0 ⟨bs, flipH h, 0, 0⟩ := mvs_start ok rfl rfl rfl (fun a _ hS => ((heads_noted ok.noted).2 a hS).2.2) (by omega) (by omega) (by omega) (by omega)
      have hrun := movesRun_mvs hst ha xs.length (Nat.le_refl _)
      have SOp : ∀ B g W, SliceR 3 1 B W (.slice (some ⟨g, 0, none⟩) bs.length bs.length) bs.length (intCells bs) → ∀ X, Below W.heap.size W X → Calls Try.prog 43 #[heapV (.slice (some ⟨g, 0, none⟩) bs.length bs.length) h] X fun e w' => ∃ bm bw cap' : Nat, e = .returned (.pointer (some ⟨bm, 0, none⟩)) ∧ Wk X bm bw bs.length cap' ⟨bs, h, 0, 0⟩ false w' ∧ X.heap.size ≤ bm ∧ X.heap.size ≤ bw := fun B g W hs X hX => open_calls g 0 bs.length bs.length bs h X (by omega) rfl hN8 (row_kept hN0 hs hX).1 (row_kept hN0 hs hX).2 o6 ht
      have IOp : ∀ B g W, SliceR 3 1 B W (.slice (some ⟨g, 0, none⟩) bs.length bs.length) bs.length (intCells bs) → ∀ X, Below W.heap.size W X → Calls Try.prog 48 #[heapV (.slice (some ⟨g, 0, none⟩) bs.length bs.length) h] X fun e w' => ∃ bc bw cap' : Nat, e = .returned (.pointer (some ⟨bc, 0, none⟩)) ∧ ColAt X bc bw bs.length cap' ⟨bs, h, 0, 0⟩ w' ∧ X.heap.size ≤ bc ∧ X.heap.size ≤ bw := fun B g W hs X hX => collectorOf_calls g 0 bs.length bs.length bs h X (by omega) rfl hN8 (row_kept hN0 hs hX).1 (row_kept hN0 hs hX).2
      have SFl : ∀ (X w0 : World) (bm bw cap' g c : Nat), Wk w0 bm bw bs.length cap' ⟨bs, h, 0, 0⟩ false X → g ≠ bm → g ≠ bw → CellRow 3 X g xs.length (intCells xs) → Calls Try.prog 58 #[.pointer (some ⟨bm, 0, none⟩), .slice (some ⟨g, 0, none⟩) xs.length c] X (SMovesPost X bm bw bs.length cap' g xs.length (movesRun xs xs.length ⟨bs, flipH h, 0, 0⟩)) := fun X w0 bm bw cap' g c hX h1 h2 hr => sflip_calls hX (show 0 ≤ h.to by omega) (show h.to ≤ h.size by omega) o2 hst xs rfl hn h1 h2 hr ha
      have IFl : ∀ (X w0 : World) (bc bw cap' g c : Nat), ColAt w0 bc bw bs.length cap' ⟨bs, h, 0, 0⟩ X → g ≠ bc → g ≠ bw → CellRow 3 X g xs.length (intCells xs) → Calls Try.prog 59 #[.pointer (some ⟨bc, 0, none⟩), .slice (some ⟨g, 0, none⟩) xs.length c] X (MovesPost X bc bw bs.length cap' g xs.length (movesRun xs xs.length ⟨bs, flipH h, 0, 0⟩)) := fun X w0 bc bw cap' g c hX h1 h2 hr => change_calls ⟨bs, h, 0, 0⟩ hX (show 0 ≤ h.to by omega) (show h.to ≤ h.size by omega) o2 hst xs rfl hn h1 h2 hr ha
      have HCs : ∀ B2 rg W, SliceR 3 1 B2 W (.slice (some ⟨rg, 0, none⟩) xs.length xs.length) xs.length (intCells xs) → ∀ X, Below W.heap.size W X → ∀ k, k < xs.length → rg < X.heap.size ∧ X.cell? ⟨rg, 0 + k, none⟩ = some (.int .i64 (xs.getD k 0)) := fun B2 rg W hr X hX k hk => ⟨(row_kept (by omega) hr hX).1, (row_kept (by omega) hr hX).2 k hk⟩
      have sS := fun B g B2 rg W hs hr => sFlip_good g 0 bs.length bs.length h rg xs.length xs.length W heq hn2 xs rfl (fun h0 => (HCs B2 rg W hr W (Below.refl _ _) 0 h0).1) (fun k hk => by have e := (HCs B2 rg W hr W (Below.refl _ _) k hk).2; rw [Nat.zero_add] at e; exact e) ⟨bs, h, 0, 0⟩ _ (SOk B g W hs) (SRt B g B2 rg W hs hr) (SOp B g W hs) SFl
      have sI := fun B g B2 rg W hs hr => iFlip_good g 0 bs.length bs.length h rg xs.length xs.length W bs S xs heq ⟨bs, h, 0, 0⟩ _ (ILg B g W hs) (IRt g B2 rg W hr) (IOp B g W hs) (fun X hX => clone_row rg xs.length xs.length xs X rfl hn (fun k hk => (HCs B2 rg W hr X hX k hk).2)) IFl (fun ys s1 X w0 bc bw cap' _ hX => by
        have e := told_calls hX
        rw [touch_same] at e
        exact e)
      cases hr : movesRun xs xs.length ⟨bs, flipH h, 0, 0⟩ with
      | none =>
        rw [hr] at sS sI
        exact ⟨[], _, [], _, by simp, by simp, fun B g B2 rg W hs hr => (sS B g B2 rg W hs hr).mono (fun _ _ => toldF_none), fun B g B2 rg W hs hr => (sI B g B2 rg W hs hr).mono (fun _ _ => toldF_none)⟩
      | some p =>
        obtain ⟨ys, s1⟩ := p
        rw [hr] at sS sI
        obtain ⟨c1, hl, -⟩ := hrun ys s1 hr
        have hl1 := c1.len
        exact ⟨s1.ws, _, ys, _, by omega, by omega, fun B g B2 rg W hs hr => (sS B g B2 rg W hs hr).mono (fun _ _ h => toldF_some hl1 hl h), fun B g B2 rg W hs hr => (sI B g B2 rg W hs hr).mono (fun _ _ h => toldF_some hl1 hl h)⟩
end Go.Proofs.Ytnoobonlmfgfhaa
