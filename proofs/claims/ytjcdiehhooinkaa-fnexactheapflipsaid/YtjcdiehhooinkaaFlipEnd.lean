/- HeapFlip: both sides answer the same, whatever they are given. -/
import Derived.Test.YtjcdiehhooinkaaFlipAllB
import Derived.Test.YtjcdiehhooinkaaHeapMem
import Derived.Test.YtjcdiehhooinkaaHeapArgs
import Derived.Test.YtjcdiehhooinkaaStages
namespace Go.Proofs.Ytjcdiehhooinkaa
open Go.RowKit

/-- A heap, a list and a bool are told; the heap's words and the list are new, and apart. -/
def ToldF (W : World) (ans : List Int) (H : HpN) (ys : List Int) (ok : Bool) (e : Ending) (w' : World) : Prop :=
  (∃ v u, e = .returned (.tuple #[heapV v H, u, .bool ok]) ∧ SliceR 3 1 W.heap.size w' v ans.length (intCells ans) ∧ SliceR 3 1 W.heap.size w' u ys.length (intCells ys) ∧ (ans.length ≠ 0 → ys.length ≠ 0 → u.ownBlock ≠ v.ownBlock)) ∧ Below W.heap.size W w'

theorem toldF_none {W w' : World} {e : Ending} (h : e = .returned (.tuple #[noHeap, .slice none 0 0, .bool false]) ∧ Below W.heap.size W w') : ToldF W [] ⟨0, 0, 0, 0, 0, 0, 0, 0, 0⟩ [] false e w' :=
  ⟨⟨_, _, h.1, ⟨none, 0, rfl, Or.inl rfl⟩, ⟨none, 0, rfl, Or.inl rfl⟩, fun h => absurd rfl h⟩, h.2⟩

theorem toldF_some {N n : Nat} {W w' : World} {ys : List Int} {s : CN} {e : Ending} (hl : s.ws.length = N) (hn : ys.length = n) (h : FlipTold N n W (some (ys, s)) e w') : ToldF W s.ws { s.h with touched := touchZ s } ys true e w' := by
  obtain ⟨bw, cap, g, c, rfl, hr, hr2, hne, hlow, hlow2, hb⟩ := h
  subst hl
  subst hn
  exact ⟨⟨_, _, rfl, ⟨some ⟨bw, 0, none⟩, cap, rfl, Or.inr ⟨bw, rfl, hlow, by rw [Nat.mul_one]; exact hr⟩⟩, ⟨some ⟨g, 0, none⟩, c, rfl, Or.inr ⟨g, rfl, hlow2, by rw [Nat.mul_one]; exact hr2⟩⟩, fun _ _ => by simp [Value.ownBlock]; exact hne⟩, hb⟩

/-- Words in a row of their own, at a later world. -/
theorem row_kept {B g N : Nat} {bs : List Int} {W X : World} (h0 : N ≠ 0) (hs : SliceR 3 1 B W (.slice (some ⟨g, 0, none⟩) N N) N (intCells bs)) (hX : Below W.heap.size W X) :
    g < X.heap.size ∧ ∀ k, k < N → X.cell? ⟨g, 0 + k, none⟩ = some (.int .i64 (bs.getD k 0)) := by
  obtain ⟨ad, cap, e, hh⟩ := hs
  obtain ⟨g', e2, hB, hr⟩ := hh.resolve_left h0
  cases e
  cases e2
  rw [Nat.mul_one] at hr
  exact ⟨Nat.lt_of_lt_of_le hr.lt hX.size, fun k hk => by rw [Nat.zero_add]; exact (hX.cell (p := ⟨g, k, none⟩) hr.lt).trans (hr.cell hk)⟩

theorem touch_same (t r q : Int) : wrap64 (wrap64 (t + r) + q) = wrap64 (t + (r + q)) := by
  unfold wrap64
  omega

theorem clone_row (rg n rc : Nat) (xs : List Int) (X : World) (hl : xs.length = n) (hn : n ≤ 20) (hc : ∀ k, k < n → X.cell? ⟨rg, 0 + k, none⟩ = some (.int .i64 (xs.getD k 0))) :
    Calls Try.prog 49 #[.slice (some ⟨rg, 0, none⟩) n rc] X fun e w' => ∃ g c, e = .returned (.slice (some ⟨g, 0, none⟩) n c) ∧ Hid (CellRow 3 w' g n (intCells xs)) ∧ X.heap.size ≤ g ∧ Below X.heap.size X w' := by
  refine (Try.slices_Clone_int rg 0 n rc xs X (by omega) (by omega) (fun j hj => hc j (by omega))).mono ?_
  rintro e w' ⟨v', rfl, how, hv0, hb⟩
  rw [List.take_of_length_le (by omega)] at how
  obtain ⟨-, hh | ⟨g, cp, cur, rfl, hg, -⟩⟩ := id how
  · exact absurd hh.1 hv0
  obtain ⟨hrow, hlow⟩ := row_of_owns hl how
  exact ⟨g, cp, rfl, hrow, hlow, hb⟩

theorem flip_both (bs xs : List Int) (h : HpN) (ht : h.touched < 9223372036854775808) (hm : bs.length ≤ 1048576) (hx : xs.length ≤ 1048576) : ∃ ans H ys ok, ans.length ≤ 1048576 ∧ ys.length ≤ 1048576 ∧
    (∀ B g B2 rg W, SliceR 3 1 B W (.slice (some ⟨g, 0, none⟩) bs.length bs.length) bs.length (intCells bs) → SliceR 3 1 B2 W (.slice (some ⟨rg, 0, none⟩) xs.length xs.length) xs.length (intCells xs) → Calls Try.prog 26 #[heapV (.slice (some ⟨g, 0, none⟩) bs.length bs.length) h, .slice (some ⟨rg, 0, none⟩) xs.length xs.length] W (ToldF W ans H ys ok)) ∧
    (∀ B g B2 rg W, SliceR 3 1 B W (.slice (some ⟨g, 0, none⟩) bs.length bs.length) bs.length (intCells bs) → SliceR 3 1 B2 W (.slice (some ⟨rg, 0, none⟩) xs.length xs.length) xs.length (intCells xs) → Calls Try.prog 27 #[heapV (.slice (some ⟨g, 0, none⟩) bs.length bs.length) h, .slice (some ⟨rg, 0, none⟩) xs.length xs.length] W (ToldF W ans H ys ok)) := by
  by_cases ho : Ordered h bs.length
  case neg =>
    exact ⟨[], _, [], _, by simp, by simp, fun B g B2 rg W _ _ => (sFlip_notOk g 0 bs.length bs.length h rg xs.length xs.length W (fun X _ => specOk_bad _ _ _ h X hm ho)).mono (fun _ _ => toldF_none), fun B g B2 rg W _ _ => (iFlip_notOk g 0 bs.length bs.length h rg xs.length xs.length W (fun X _ => layOut_bad _ _ _ h X ho)).mono (fun _ _ => toldF_none)⟩
  obtain ⟨o1, o2, o3, o4, o5, o6, o7, o8, o9, o10, o11, o12, o13⟩ := id ho
  have hN0 : bs.length ≠ 0 := by omega
  have hN8 : bs.length ≤ 8000 := by omega
  have SOk : ∀ B g W, SliceR 3 1 B W (.slice (some ⟨g, 0, none⟩) bs.length bs.length) bs.length (intCells bs) → ∀ X, Below W.heap.size W X → Calls Try.prog 10 #[heapV (.slice (some ⟨g, 0, none⟩) bs.length bs.length) h] X fun e w' => e = .returned (.bool (specOk bs h)) ∧ Below X.heap.size X w' := fun B g W hs X hX =>
    specOk_calls g 0 bs.length bs.length bs h X rfl ho (row_kept hN0 hs hX).1 (row_kept hN0 hs hX).2
  have ILy : ∀ B g W, SliceR 3 1 B W (.slice (some ⟨g, 0, none⟩) bs.length bs.length) bs.length (intCells bs) → ∀ X, Below W.heap.size W X → Calls Try.prog 40 #[heapV (.slice (some ⟨g, 0, none⟩) bs.length bs.length) h] X (LayTold g 0 bs.length bs.length bs h X) := fun B g W hs X hX =>
    layOut_calls g 0 bs.length bs.length bs h X rfl ho (Nat.le_refl _) (row_kept hN0 hs hX).1 (row_kept hN0 hs hX).2
  cases hk : specOk bs h with
  | false =>
    have hki : implOk bs h = false := by rw [← ok_same ho]; exact hk
    rw [hk] at SOk
    refine ⟨[], _, [], _, by simp, by simp, fun B g B2 rg W hs _ => (sFlip_notOk g 0 bs.length bs.length h rg xs.length xs.length W (SOk B g W hs)).mono (fun _ _ => toldF_none), fun B g B2 rg W hs _ => (iFlip_notOk g 0 bs.length bs.length h rg xs.length xs.length W (fun X hX => (ILy B g W hs X hX).mono ?_)).mono (fun _ _ => toldF_none)⟩
    rintro e w' ⟨hres, hb'⟩
    rcases hres with ⟨_, e1⟩ | ⟨S, gb, _, e2, _⟩
    · exact ⟨e1, hb'⟩
    · rw [hki] at e2
      cases e2
  | true =>
    have hki : implOk bs h = true := by rw [← ok_same ho]; exact hk
    rw [hk] at SOk
    obtain ⟨S, ok⟩ := ok_facts ho hk
    have ILg : ∀ B g W, SliceR 3 1 B W (.slice (some ⟨g, 0, none⟩) bs.length bs.length) bs.length (intCells bs) → ∀ X, Below W.heap.size W X → Calls Try.prog 40 #[heapV (.slice (some ⟨g, 0, none⟩) bs.length bs.length) h] X fun e w' => ∃ gb, e = .returned (.tuple #[layV (.slice (some ⟨g, 0, none⟩) bs.length bs.length) h (.slice (some ⟨gb, 0, none⟩) bs.length bs.length), .bool true]) ∧ Hid (ISt g 0 gb bs.length bs S w') ∧ Below X.heap.size X w' := fun B g W hs X hX => (ILy B g W hs X hX).mono (by
      rintro e w' ⟨hres, hb'⟩
      rcases hres with ⟨e1, _⟩ | ⟨S', gb, e1, _, e2, _, e3⟩
      · rw [hki] at e1
        cases e1
      · rw [ok.impl] at e1
        cases e1
        exact ⟨gb, e2, e3, hb'⟩)
    by_cases hsc : h.scan = h.bottom
    case neg =>
      have hne : (h.scan != h.bottom) = true := by simpa using hsc
      exact ⟨[], _, [], _, by simp, by simp, fun B g B2 rg W hs _ => (sFlip_scan g 0 bs.length bs.length h rg xs.length xs.length W hne (SOk B g W hs)).mono (fun _ _ => toldF_none), fun B g B2 rg W hs _ => (iFlip_scan g 0 bs.length bs.length h rg xs.length xs.length W bs S hne hsc (ILg B g W hs)).mono (fun _ _ => toldF_none)⟩
    have heq : (h.scan != h.bottom) = false := by simpa using hsc
    have IRt : ∀ g B2 rg W, SliceR 3 1 B2 W (.slice (some ⟨rg, 0, none⟩) xs.length xs.length) xs.length (intCells xs) → ∀ (X : World) (gb : Nat), Below W.heap.size W X → ISt g 0 gb bs.length bs S X → Calls Try.prog 46 #[layV (.slice (some ⟨g, 0, none⟩) bs.length bs.length) h (.slice (some ⟨gb, 0, none⟩) bs.length bs.length), .slice (some ⟨rg, 0, none⟩) xs.length xs.length] X fun e w' => e = .returned (.bool (decide (xs.length ≤ 20) && implRoots S h xs)) ∧ Below X.heap.size X w' := fun g B2 rg W hr X gb hX hI => rootsOk_calls (some ⟨rg, 0, none⟩) xs.length g 0 bs.length gb bs.length bs S h xs X ho hI (hr.below hX).intSlice hx
    by_cases hn : xs.length ≤ 20
    case neg =>
      rw [decide_eq_false hn, Bool.false_and] at IRt
      exact ⟨[], _, [], _, by simp, by simp, fun B g B2 rg W hs _ => (sFlip_many g 0 bs.length bs.length h rg xs.length xs.length W heq (by omega) (SOk B g W hs)).mono (fun _ _ => toldF_none), fun B g B2 rg W hs hr => (iFlip_noRoot g 0 bs.length bs.length h rg xs.length xs.length W bs S heq (ILg B g W hs) (IRt g B2 rg W hr)).mono (fun _ _ => toldF_none)⟩
    have hn2 : ¬ (20 : Int) < (xs.length : Int) := by omega
    rw [decide_eq_true hn, Bool.true_and] at IRt
    have SRt : ∀ B g B2 rg W, SliceR 3 1 B W (.slice (some ⟨g, 0, none⟩) bs.length bs.length) bs.length (intCells bs) → SliceR 3 1 B2 W (.slice (some ⟨rg, 0, none⟩) xs.length xs.length) xs.length (intCells xs) → ∀ X, Below W.heap.size W X → Calls Try.prog 42 #[heapV (.slice (some ⟨g, 0, none⟩) bs.length bs.length) h, .slice (some ⟨rg, 0, none⟩) xs.length xs.length] X fun e w' => e = .returned (.bool (specRoots bs S h xs)) ∧ Below X.heap.size X w' := fun B g B2 rg W hs hr X hX => specRoots_calls g 0 bs.length bs.length bs S h _ xs X rfl ho ok.spec (row_kept hN0 hs hX).1 (row_kept hN0 hs hX).2 (hr.below hX).intSlice hn
    have hsame : specRoots bs S h xs = implRoots S h xs := (roots_same ok xs).symm
    rw [hsame] at SRt
    cases hro : implRoots S h xs with
    | false =>
      rw [hro] at SRt IRt
      exact ⟨[], _, [], _, by simp, by simp, fun B g B2 rg W hs hr => (sFlip_noRoot g 0 bs.length bs.length h rg xs.length xs.length W heq hn2 (SOk B g W hs) (SRt B g B2 rg W hs hr)).mono (fun _ _ => toldF_none), fun B g B2 rg W hs hr => (iFlip_noRoot g 0 bs.length bs.length h rg xs.length xs.length W bs S heq (ILg B g W hs) (IRt g B2 rg W hr)).mono (fun _ _ => toldF_none)⟩
    | true =>
      rw [hro] at SRt IRt
      have ha : ∀ i, i < xs.length → Aim S (flipH h) bs.length (xs.getD i 0) := fun i hi => by
        unfold implRoots at hro
        rw [List.all_eq_true] at hro
        exact used_aim ok (hro i (List.mem_range.2 hi))
      have hst : Mvs S bs.length 0 ⟨bs, flipH h, 0, 0⟩ := mvs_start ok rfl rfl rfl (fun a _ hS => ((heads_noted ok.noted).2 a hS).2.2) (by omega) (by omega) (by omega) (by omega)
      have hrun := movesRun_mvs hst ha xs.length (Nat.le_refl _)
      have SOp : ∀ B g W, SliceR 3 1 B W (.slice (some ⟨g, 0, none⟩) bs.length bs.length) bs.length (intCells bs) → ∀ X, Below W.heap.size W X → Calls Try.prog 43 #[heapV (.slice (some ⟨g, 0, none⟩) bs.length bs.length) h] X fun e w' => ∃ bm bw cap' : Nat, e = .returned (.pointer (some ⟨bm, 0, none⟩)) ∧ Wk X bm bw bs.length cap' ⟨bs, h, 0, 0⟩ false w' ∧ X.heap.size ≤ bm ∧ X.heap.size ≤ bw := fun B g W hs X hX => open_calls g 0 bs.length bs.length bs h X (by omega) rfl hN8 (row_kept hN0 hs hX).1 (row_kept hN0 hs hX).2 o6 ht
      have IOp : ∀ B g W, SliceR 3 1 B W (.slice (some ⟨g, 0, none⟩) bs.length bs.length) bs.length (intCells bs) → ∀ X, Below W.heap.size W X → Calls Try.prog 48 #[heapV (.slice (some ⟨g, 0, none⟩) bs.length bs.length) h] X fun e w' => ∃ bc bw cap' : Nat, e = .returned (.pointer (some ⟨bc, 0, none⟩)) ∧ ColAt X bc bw bs.length cap' ⟨bs, h, 0, 0⟩ w' ∧ X.heap.size ≤ bc ∧ X.heap.size ≤ bw := fun B g W hs X hX => collectorOf_calls g 0 bs.length bs.length bs h X (by omega) rfl hN8 (row_kept hN0 hs hX).1 (row_kept hN0 hs hX).2
      have SFl : ∀ (X w0 : World) (bm bw cap' g c : Nat), Wk w0 bm bw bs.length cap' ⟨bs, h, 0, 0⟩ false X → g ≠ bm → g ≠ bw → CellRow 3 X g xs.length (intCells xs) → Calls Try.prog 58 #[.pointer (some ⟨bm, 0, none⟩), .slice (some ⟨g, 0, none⟩) xs.length c] X (SMovesPost X bm bw bs.length cap' g xs.length (movesRun xs xs.length ⟨bs, flipH h, 0, 0⟩)) := fun X w0 bm bw cap' g c hX h1 h2 hr => sflip_calls hX (show 0 ≤ h.to by omega) (show h.to ≤ h.size by omega) o2 hst xs rfl hn h1 h2 hr ha
      have IFl : ∀ (X w0 : World) (bc bw cap' g c : Nat), ColAt w0 bc bw bs.length cap' ⟨bs, h, 0, 0⟩ X → g ≠ bc → g ≠ bw → CellRow 3 X g xs.length (intCells xs) → Calls Try.prog 59 #[.pointer (some ⟨bc, 0, none⟩), .slice (some ⟨g, 0, none⟩) xs.length c] X (MovesPost X bc bw bs.length cap' g xs.length (movesRun xs xs.length ⟨bs, flipH h, 0, 0⟩)) := fun X w0 bc bw cap' g c hX h1 h2 hr => change_calls ⟨bs, h, 0, 0⟩ hX (show 0 ≤ h.to by omega) (show h.to ≤ h.size by omega) o2 hst xs rfl hn h1 h2 hr ha
      have HCs : ∀ B2 rg W, SliceR 3 1 B2 W (.slice (some ⟨rg, 0, none⟩) xs.length xs.length) xs.length (intCells xs) → ∀ X, Below W.heap.size W X → ∀ k, k < xs.length → rg < X.heap.size ∧ X.cell? ⟨rg, 0 + k, none⟩ = some (.int .i64 (xs.getD k 0)) := fun B2 rg W hr X hX k hk => ⟨(row_kept (by omega) hr hX).1, (row_kept (by omega) hr hX).2 k hk⟩
      have sS := fun B g B2 rg W hs hr => sFlip_good g 0 bs.length bs.length h rg xs.length xs.length W heq hn2 xs rfl (fun h0 => (HCs B2 rg W hr W (Below.refl _ _) 0 h0).1) (fun k hk => by have e := (HCs B2 rg W hr W (Below.refl _ _) k hk).2; rw [Nat.zero_add] at e; exact e) ⟨bs, h, 0, 0⟩ _ (SOk B g W hs) (SRt B g B2 rg W hs hr) (SOp B g W hs) SFl
      have sI := fun B g B2 rg W hs hr => iFlip_good g 0 bs.length bs.length h rg xs.length xs.length W bs S xs heq ⟨bs, h, 0, 0⟩ _ (ILg B g W hs) (IRt g B2 rg W hr) (IOp B g W hs) (fun X hX => clone_row rg xs.length xs.length xs X rfl hn (fun k hk => (HCs B2 rg W hr X hX k hk).2)) IFl (fun ys s1 X w0 bc bw cap' _ hX => by
        have e := told_calls hX
        rw [touch_same] at e
        exact e)
      cases hr : movesRun xs xs.length ⟨bs, flipH h, 0, 0⟩ with
      | none =>
        rw [hr] at sS sI
        exact ⟨[], _, [], _, by simp, by simp, fun B g B2 rg W hs hr => (sS B g B2 rg W hs hr).mono (fun _ _ => toldF_none), fun B g B2 rg W hs hr => (sI B g B2 rg W hs hr).mono (fun _ _ => toldF_none)⟩
      | some p =>
        obtain ⟨ys, s1⟩ := p
        rw [hr] at sS sI
        obtain ⟨c1, hl, -⟩ := hrun ys s1 hr
        have hl1 := c1.len
        exact ⟨s1.ws, _, ys, _, by omega, by omega, fun B g B2 rg W hs hr => (sS B g B2 rg W hs hr).mono (fun _ _ h => toldF_some hl1 hl h), fun B g B2 rg W hs hr => (sI B g B2 rg W hs hr).mono (fun _ _ h => toldF_some hl1 hl h)⟩
end Go.Proofs.Ytjcdiehhooinkaa

/- Slices that a law holds, in whatever order; two that came at once. -/
namespace Go.Proofs.Ytjcdiehhooinkaa
open Go.RowKit

theorem Mem.perm {w0 W : World} {sl sl' : List Sl} {hb : List Hb} (m : Mem w0 sl hb W) (p : sl.Perm sl') : Mem w0 sl' hb W :=
  ⟨fun z hz => m.slices z (p.mem_iff.2 hz), m.blocks, (p.pairwise_iff (fun h h0 h1 e => h h1 h0 e.symm)).1 m.apart, fun z hz => m.beside z (p.mem_iff.2 hz), m.below⟩

theorem Mem.more2 {w0 W W' : World} {sl : List Sl} {hb : List Hb} (m : Mem w0 sl hb W) (h : Below W.heap.size W W') (x y : Sl) (hx : SliceR 3 1 W.heap.size W' x.v x.n x.F) (hy : SliceR 3 1 W.heap.size W' y.v y.n y.F) (hxy : x.n ≠ 0 → y.n ≠ 0 → x.v.ownBlock ≠ y.v.ownBlock) : Mem w0 (x :: y :: sl) hb W' := by
  have m1 := m.more h x hx
  have m2 := m.more h y hy
  obtain ⟨hp, -⟩ := List.pairwise_cons.1 m1.apart
  refine ⟨?_, m1.blocks, List.Pairwise.cons ?_ m2.apart, ?_, m1.below⟩
  · intro z hz
    rcases List.mem_cons.1 hz with rfl | hz
    · exact m1.slices _ List.mem_cons_self
    · exact m2.slices _ hz
  · intro z hz
    rcases List.mem_cons.1 hz with rfl | hz
    · exact hxy
    · exact hp z hz
  · intro z hz
    rcases List.mem_cons.1 hz with rfl | hz
    · exact m1.beside _ List.mem_cons_self
    · exact m2.beside _ hz

/-- The third slice to the front. -/
theorem Mem.third {w0 W : World} {x y z : Sl} {sl : List Sl} {hb : List Hb} (m : Mem w0 (x :: y :: z :: sl) hb W) : Mem w0 (z :: x :: y :: sl) hb W :=
  m.perm (((List.Perm.swap z y sl).cons x).trans (List.Perm.swap z x (y :: sl)))

/-- The first slice to the third place. -/
theorem Mem.back3 {w0 W : World} {x y z : Sl} {sl : List Sl} {hb : List Hb} (m : Mem w0 (z :: x :: y :: sl) hb W) : Mem w0 (x :: y :: z :: sl) hb W :=
  m.perm (((List.Perm.swap z y sl).cons x).trans (List.Perm.swap z x (y :: sl))).symm

/-- The fourth slice to the front. -/
theorem Mem.fourth {w0 W : World} {x y z u : Sl} {sl : List Sl} {hb : List Hb} (m : Mem w0 (x :: y :: z :: u :: sl) hb W) : Mem w0 (u :: x :: y :: z :: sl) hb W :=
  m.perm ((((List.Perm.swap u z sl).cons y).trans (List.Perm.swap u y (z :: sl))).cons x |>.trans (List.Perm.swap u x (y :: z :: sl)))

/-- The first slice to the fourth place. -/
theorem Mem.back4 {w0 W : World} {x y z u : Sl} {sl : List Sl} {hb : List Hb} (m : Mem w0 (u :: x :: y :: z :: sl) hb W) : Mem w0 (x :: y :: z :: u :: sl) hb W :=
  m.perm ((((List.Perm.swap u z sl).cons y).trans (List.Perm.swap u y (z :: sl))).cons x |>.trans (List.Perm.swap u x (y :: z :: sl))).symm
end Go.Proofs.Ytjcdiehhooinkaa

/- A heap that is handed in: its numbers are numbers of 64 bits. -/
namespace Go.Proofs.Ytjcdiehhooinkaa
open Go.RowKit
section
open Go.Deep Go.ChangeShapes Go.WideShapes
variable {H : Type} {enc : TypeId × Value → H} {W : World} {sp : Nat → Bool} {held : Bool}

set_option maxRecDepth 100000 in
/-- A heap that is handed in, out of its cells. -/
theorem open_heapT {fuel : Nat} {cs : List Value} {x : DataW H × List MemPlace} (h : DataW.trod enc Try.prog W 0 sp held fuel 24 cs = some x) :
    ∃ v bs, ∃ n : HpN, cs = [v, .int .i64 n.size, .int .i64 n.to, .int .i64 n.bottom, .int .i64 n.top, .int .i64 n.scan, .int .i64 n.fb, .int .i64 n.ft, .int .i64 n.flips, .int .i64 n.touched] ∧ IntSlice W v bs ∧ bs.length ≤ maxLen ∧ n.touched < 9223372036854775808 := by
  obtain ⟨xs, k, hk, hxy, hcl, hxl, hf⟩ := DataW.trod_struct Try.underlying24 h
  rw [Try.cellsHeap] at hcl
  match xs, hxl, cs, hcl with
  | [y0, y1, y2, y3, y4, y5, y6, y7, y8, y9], _, [v0, v1, v2, v3, v4, v5, v6, v7, v8, v9], _ =>
    have g0 := hf 0 _ rfl
    have g1 := hf 1 _ rfl
    have g2 := hf 2 _ rfl
    have g3 := hf 3 _ rfl
    have g4 := hf 4 _ rfl
    have g5 := hf 5 _ rfl
    have g6 := hf 6 _ rfl
    have g7 := hf 7 _ rfl
    have g8 := hf 8 _ rfl
    have g9 := hf 9 _ rfl
    simp [Try.cellsInt, Try.cellsInts] at g0 g1 g2 g3 g4 g5 g6 g7 g8 g9
    obtain ⟨bs, hb, hl⟩ := open_intS g0
    obtain ⟨i1, e1, _⟩ := DataW.trod_int Try.underlying3 g1
    obtain ⟨i2, e2, _⟩ := DataW.trod_int Try.underlying3 g2
    obtain ⟨i3, e3, _⟩ := DataW.trod_int Try.underlying3 g3
    obtain ⟨i4, e4, _⟩ := DataW.trod_int Try.underlying3 g4
    obtain ⟨i5, e5, _⟩ := DataW.trod_int Try.underlying3 g5
    obtain ⟨i6, e6, _⟩ := DataW.trod_int Try.underlying3 g6
    obtain ⟨i7, e7, _⟩ := DataW.trod_int Try.underlying3 g7
    obtain ⟨i8, e8, _⟩ := DataW.trod_int Try.underlying3 g8
    obtain ⟨i9, e9, _, w9⟩ := DataW.trod_int Try.underlying3 g9
    have h9 : i9 < 9223372036854775808 := by
      simp [Lit.wf] at w9
      omega
    simp at e1 e2 e3 e4 e5 e6 e7 e8 e9
    subst e1 e2 e3 e4 e5 e6 e7 e8 e9
    exact ⟨v0, bs, ⟨i1, i2, i3, i4, i5, i6, i7, i8, i9⟩, rfl, hb, hl, h9⟩
end
end Go.Proofs.Ytjcdiehhooinkaa

/- A call in a region, whatever it answers. -/
namespace Go.Proofs.Ytjcdiehhooinkaa
open Go.RowKit
section
variable {P : Program} {Q : Exit → Act → World → Prop} {S : World → Prop} {l0 : List Oper}

/-- A call that is alone ready, whatever it answers: what follows is asked behind each answer. -/
theorem stage_enter {k : Nat} {o : Oper} {f : FuncId} {args : Array Value} {a : Act} {w : World} (ho : l0[k]? = some o) (hr : (Region.ready .any l0.toArray (upTo l0.length k) == [k]) = true) (hw : Region.wanted o (yielded l0.toArray a.tmps) = true)
    (hrun : (execOp a.eval o).run P w = .ok (.enter f args) w) (h : Calls P f args w fun e w' => ∃ v, e = .returned v ∧ S w' ∧ wpAnyH P .any l0.toArray (NoPanic Q) S (l0.length - (k + 1)) (upTo l0.length (k + 1)) (a.put o.dst v) w') :
    wpAnyH P .any l0.toArray (NoPanic Q) S (l0.length - k) (upTo l0.length k) a w := by
  have hk : k < l0.length := (List.getElem?_eq_some_iff.1 ho).1
  have e : l0.length - k = l0.length - (k + 1) + 1 := by omega
  have ho' : l0.toArray[k]? = some o := by simpa using ho
  rw [e]
  refine wpAnyH_all (rs := [k]) (by simpa using hr) (by simp) (fun i hi => ?_)
  rw [List.mem_singleton] at hi
  subst hi
  unfold wpOp
  rw [ho', upTo_next]
  dsimp only
  rw [if_pos hw]
  refine Or.inl ?_
  unfold Oper.wp
  rw [hrun]
  refine Calls.mono h ?_
  rintro e w3 ⟨v, rfl, hS, hn⟩
  exact ⟨hS, hn⟩

/-- The frame, written out. -/
theorem stage_frame {k : Nat} {a a' : Act} {w : World} (ha : a = a') (h : wpAnyH P .any l0.toArray (NoPanic Q) S (l0.length - k) (upTo l0.length k) a' w) : wpAnyH P .any l0.toArray (NoPanic Q) S (l0.length - k) (upTo l0.length k) a w := by
  subst ha
  exact h
end
end Go.Proofs.Ytjcdiehhooinkaa
