/- A range over the program's iterator: what the caller owes is an invariant of its own, which the iterator's own cell does not touch, and one walk of a round. -/
import Derived.Test.YtmjcifaihmecmaaImplReadA
import Derived.Shelf.Abstract
namespace Go.Proofs.Ytmjcifaihmecmaa
open Go.RowKit

/-- What a round leaves as it was: the iterator's cell, the bytes, the loop's record, the block of the rounds' deferred calls. -/
structure Left (C b : Nat) (X Y : World) : Prop where
  cell : Y.heap[C + 1]? = X.heap[C + 1]?
  defer : Y.heap[C + 2]? = X.heap[C + 2]?
  loop : Y.heap[C + 3]? = X.heap[C + 3]?
  bytes : Y.heap[b]? = X.heap[b]?
  size : X.heap.size ≤ Y.heap.size

theorem Left.refl (C b : Nat) (X : World) : Left C b X X := ⟨rfl, rfl, rfl, rfl, Nat.le_refl _⟩

theorem Left.trans {C b : Nat} {X Y Z : World} (h : Left C b X Y) (h' : Left C b Y Z) : Left C b X Z := ⟨h'.cell.trans h.cell, h'.defer.trans h.defer, h'.loop.trans h.loop, h'.bytes.trans h.bytes, Nat.le_trans h.size h'.size⟩

theorem Left.of_below {C b : Nat} {X Y : World} (h : Below X.heap.size X Y) (hC : C + 3 < X.heap.size) (hb : b < C) : Left C b X Y := ⟨h.block _ (by omega), h.block _ (by omega), h.block _ (by omega), h.block _ (by omega), h.size⟩

theorem Left.set {C b : Nat} (X : World) {p : Addr} (h1 : p.block ≠ C + 1) (h2 : p.block ≠ C + 2) (h3 : p.block ≠ C + 3) (h4 : p.block ≠ b) (v : Value) : Left C b X (X.setCell p v) :=
  ⟨Below.heap_setCell X p v _ h1.symm, Below.heap_setCell X p v _ h2.symm, Below.heap_setCell X p v _ h3.symm, Below.heap_setCell X p v _ h4.symm, by simp [World.setCell]⟩

/-- How a round may end. -/
def leftPost (C b : Nat) (I Ix : List (In × Bool) → World → Prop) (xs : List (In × Bool)) (X : World) : Exit → Act → World → Prop
  | .normal, _, Y => Left C b X Y ∧ I xs Y
  | .ret, _, Y => Left C b X Y ∧ Ix xs Y
  | _, _, _ => False

theorem range_in {asg body : Code} {Q : Exit → Act → World → Prop} {tm : Array Value} {ps : Array Tmp} {W : World} {gop : Operand} {C b o : Nat} {rest : List Int}
    (hg : ({ tmps := tm, defers := [] } : Act).eval gop = .func (.func 36) #[] #[.pointer (some ⟨C + 1, 0, none⟩)]) (hps : ps.size = 2)
    (hsz : W.heap.size = C + 2) (hC1 : W.heap[C + 1]? = some (.cells #[.slice (some ⟨b, o, none⟩) rest.length rest.length] 30)) (hbC : b < C) (hbt : BytesAt W b o rest) (hrB : ∀ x ∈ rest, IsB x) (hlen : rest.length ≤ 20000)
    (I Ix : List (In × Bool) → World → Prop) (h0 : ∀ o1 o2, I [] ((W.alloc o1).alloc o2))
    (hIb : ∀ s A B, I s A → C + 4 ≤ A.heap.size → Below A.heap.size A B → I s B) (hIs : ∀ s A v, I s A → I s (A.setCell ⟨C + 1, 0, none⟩ v)) (hIp : ∀ s A l o, I s A → C < l → l < C + 4 → I s (A.putObj l o)) (hIxp : ∀ s A l o, Ix s A → C < l → l < C + 4 → Ix s (A.putObj l o))
    (hround : ∀ l pre x X, I pre X → C + 4 ≤ X.heap.size → (∃ post, tells rest = pre ++ x :: post) →
      asg.wpIn (Fence.wide.inRound l) 0 Try.prog (Exit.then (fun a₁ X₁ => Left C b X X₁ ∧ ∀ r, body.wpIn (Fence.wide.inRound l) 0 Try.prog (leftPost C b I Ix (pre ++ [x]) (X₁.putObj (C + 3) r)) a₁ (X₁.putObj (C + 3) r)) (fun _ _ _ => False))
        { tmps := (ps.zip #[inV x.1, .bool x.2]).foldl (fun t (p, v) => t.setIfInBounds p v) tm, defers := [] } X)
    (hdone : ∀ X, I (tells rest) X → X.heap[C + 2]? = some (.deferred (some [])) → C + 4 ≤ X.heap.size → Q .normal { tmps := tm, defers := [{ target := .collected (C + 2), args := #[] }] } X)
    (hstop : ∀ pre X, (∃ post, tells rest = pre ++ post) → Ix pre X → X.heap[C + 2]? = some (.deferred (some [])) → C + 4 ≤ X.heap.size → Code.ret.wpIn Fence.wide 0 Try.prog Q { tmps := tm, defers := [{ target := .collected (C + 2), args := #[] }] } X) :
    (Code.rangeFunc gop ps asg body).wpIn Fence.wide 0 Try.prog Q { tmps := tm, defers := [] } W := by
  refine wpIn_rangeFunc ?_
  intro fn _
  obtain ⟨rec, hrec⟩ : ∃ rec : LoopState → Option Code → Loop, rec = fun st pe => { state := st, pending := pe, fn := fn, tmps := tm, params := ps, assign := asg, body := body, defers := W.heap.size } := ⟨_, rfl⟩
  obtain ⟨W1, hW1⟩ : ∃ W1, (W.alloc (.deferred (some []))).alloc (.loop (rec .ready none)) = W1 := ⟨_, rfl⟩
  have hl1 : W1.heap[C + 3]? = some (.loop (rec .ready none)) := by
    have e := (MapKept.heap_alloc (W.alloc (.deferred (some []))) (.loop (rec .ready none))).1
    rw [World.size_alloc, hsz, hW1] at e
    exact e
  have hd1 : W1.heap[C + 2]? = some (.deferred (some [])) := by
    rw [← hW1, Below.heap_alloc _ _ _ (by simp; omega)]
    have e := (MapKept.heap_alloc W (.deferred (some []))).1
    rwa [hsz] at e
  have hb1 : Below W.heap.size W W1 := by
    rw [← hW1]
    exact ((Below.refl _ W).alloc (Nat.le_refl _) _).alloc (by simp) _
  have hs1 : W1.heap.size = C + 4 := by rw [← hW1]; simp; omega
  have hI1 : I [] W1 := by rw [← hW1]; exact h0 _ _
  refine ⟨C + 3, [{ target := .collected (C + 2), args := #[] }], W1, { target := .fn (.func 36) #[.pointer (some ⟨C + 1, 0, none⟩)], args := #[.func (.yield (C + 3)) #[] #[]] }, W1, 36, #[.func (.yield (C + 3)) #[] #[], .pointer (some ⟨C + 1, 0, none⟩)], W1, ?_, ?_, fun _ _ => trivial, ?_, fun h => by simp [Fence.wide] at h, ?_⟩
  · rw [← hW1, hrec]
    have e := run_enterLoop_outer (P := Try.prog) (w := W) fn tm ps asg body
    rw [hsz] at e
    rw [hsz]
    exact e
  · simp only [resolve, hg]
    simp [go_sem]
  · have eg := enters_of Try.func36 (by kernel_rfl) rfl
    simp [invoke, go_sem, eg _ _]
  have hfin : ∀ (jump : Option Code) (X : World), X.heap[C + 3]? = some (.loop { rec .ready none with state := .busy }) → (Instr.endRound (C + 3) jump).run Try.prog X = .ok (.bool jump.isNone) (X.putObj (C + 3) (.loop (rec (if jump.isNone then .ready else .done) jump))) := fun jump X hX => by
    have e := run_endRound (P := Try.prog) jump hX
    rw [hrec] at e ⊢
    exact e
  refine (iter_in b (C + 1) (C + 3) (fun pre X => I pre X ∧ X.heap[C + 3]? = some (.loop (rec .ready none)) ∧ X.heap[C + 2]? = some (.deferred (some [])) ∧ C + 4 ≤ X.heap.size)
    (fun pre X => Ix pre X ∧ X.heap[C + 3]? = some (.loop (rec .done (some .ret))) ∧ X.heap[C + 2]? = some (.deferred (some [])) ∧ C + 4 ≤ X.heap.size) rest hrB hlen (by omega) ?_ ?_ ?_ W1 o rest.length ((hb1.block _ (by omega)).trans hC1) (Nat.le_refl _) (hbt.below hb1 (by omega)) (by omega) ⟨hI1, hl1, hd1, by omega⟩).mono ?_
  · rintro s A B ⟨h1, h2, h3, h4⟩ hb
    exact ⟨hIb s A B h1 h4 hb, (hb.block _ (by omega)).trans h2, (hb.block _ (by omega)).trans h3, Nat.le_trans h4 hb.size⟩
  · rintro s A v ⟨h1, h2, h3, h4⟩
    exact ⟨hIs s A v h1, (Below.heap_setCell A ⟨C + 1, 0, none⟩ v _ (by dsimp only; omega)).trans h2, (Below.heap_setCell A ⟨C + 1, 0, none⟩ v _ (by dsimp only; omega)).trans h3, by simpa [World.setCell] using h4⟩
  · rintro pre x X ⟨h1, h2, h3, h4⟩ hpost
    have hy := run_yield (P := Try.prog) (args := #[inV x.1, .bool x.2]) h2 (by rw [hrec]; exact hps.symm)
    rw [hrec] at hy
    refine ⟨fn, _, asg, body, hy, roundIn_of_wpIn trivial (wpIn_mono (hround (C + 3) pre x X h1 h4 hpost) ?_)⟩
    rintro e a1 X1 hq
    cases e with
    | normal =>
      obtain ⟨hk, hbody⟩ := hq
      have hl2 := hk.loop.trans h2
      refine ⟨_, run_beginRound hl2 (by rw [hrec]), wpIn_mono (hbody (.loop { rec .ready none with state := .busy })) ?_⟩
      have hlt : C + 3 < X1.heap.size := heap_lt hl2
      rintro e a2 X2 hq2
      have hbusy : (X1.putObj (C + 3) (.loop { rec .ready none with state := .busy })).heap[C + 3]? = some (.loop { rec .ready none with state := .busy }) := World.putObj_heap_same hlt
      have hp1 : ∀ q, q ≠ C + 3 → (X1.putObj (C + 3) (.loop { rec .ready none with state := .busy })).heap[q]? = X1.heap[q]? := fun q hq => World.putObj_heap_other hq
      have hps1 : (X1.putObj (C + 3) (.loop { rec .ready none with state := .busy })).heap.size = X1.heap.size := by simp
      cases e with
      | normal =>
        obtain ⟨hl3, hi3⟩ := hq2
        have hb3 := hl3.loop.trans hbusy
        have hs2 := hl3.size
        have hks := hk.size
        refine ⟨_, _, hfin none X2 hb3, Or.inl ⟨rfl, ⟨hIp _ _ _ _ hi3 (by omega) (by omega), World.putObj_heap_same (heap_lt hb3), (World.putObj_heap_other (by omega)).trans (hl3.defer.trans ((hp1 _ (by omega)).trans (hk.defer.trans h3))), by simp; omega⟩, ?_, ?_, by simp; omega⟩⟩
        · exact (World.putObj_heap_other (by omega)).trans (hl3.cell.trans ((hp1 _ (by omega)).trans hk.cell))
        · exact (World.putObj_heap_other (by omega)).trans (hl3.bytes.trans ((hp1 _ (by omega)).trans hk.bytes))
      | ret =>
        obtain ⟨hl3, hi3⟩ := hq2
        have hb3 := hl3.loop.trans hbusy
        have hs2 := hl3.size
        have hks := hk.size
        exact ⟨_, _, hfin (some .ret) X2 hb3, Or.inr ⟨rfl, hIxp _ _ _ _ hi3 (by omega) (by omega), World.putObj_heap_same (heap_lt hb3), (World.putObj_heap_other (by omega)).trans (hl3.defer.trans ((hp1 _ (by omega)).trans (hk.defer.trans h3))), by simp; omega⟩⟩
      | exit id => exact hq2.elim
      | goto t => exact hq2.elim
      | panic ch => exact hq2.elim
      | outgrown => exact hq2.elim
    | exit id => exact hq.elim
    | goto t => exact hq.elim
    | ret => exact hq.elim
    | panic ch => exact hq.elim
    | outgrown => exact hq.elim
  · rintro e X ⟨⟨v, rfl⟩, ⟨h1, h2, h3, h4⟩ | ⟨pre, x, post, htl, h1, h2, h3, h4⟩⟩
    · have e := run_endLoop (P := Try.prog) h2 (by rw [hrec]; simp)
      rw [hrec] at e
      exact ⟨none, _, e, hdone _ (hIp _ _ _ _ h1 (by omega) (by omega)) ((World.putObj_heap_other (by omega)).trans h3) (by simp; omega)⟩
    · have e := run_endLoop (P := Try.prog) h2 (by rw [hrec]; simp)
      rw [hrec] at e
      exact ⟨some .ret, _, e, hstop (pre ++ [x]) _ ⟨post, by rw [htl]; simp⟩ (hIxp _ _ _ _ h1 (by omega) (by omega)) ((World.putObj_heap_other (by omega)).trans h3) (by simp; omega)⟩
end Go.Proofs.Ytmjcifaihmecmaa
