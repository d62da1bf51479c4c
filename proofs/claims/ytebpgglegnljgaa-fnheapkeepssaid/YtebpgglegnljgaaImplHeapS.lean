/- What the program holds while it lays a heap out; heaps whose numbers are not in order. -/
import Derived.Test.YtebpgglegnljgaaImplHeapE
namespace Go.Proofs.Ytebpgglegnljgaa
open Go.RowKit

def noLay : Value := layV (.slice none 0 0) ⟨0, 0, 0, 0, 0, 0, 0, 0, 0⟩ (.slice none 0 0)

/-- What lies where, as the program goes through it. -/
def implLay (ws : List Int) (h : HpN) : Option (List Int) :=
  match lay ws h.to.toNat h.bottom.toNat (List.replicate ws.length 0) with
  | none => none
  | some S1 => match lay ws h.top.toNat (h.to + h.size).toNat S1 with
    | none => none
    | some S2 => if h.scan < h.bottom then
        (if S2.getD h.scan.toNat 0 = 0 then none else
          match lay ws (h.size - h.to).toNat h.fb.toNat S2 with
          | none => none
          | some S3 => lay ws h.ft.toNat (h.size - h.to + h.size).toNat S3)
      else some S2

def implObjs (ws S : List Int) (h : HpN) (N : Nat) : Bool := (List.range N).all (fun a => S.getD a 0 == 0 || implAt ws S h a)

def implOk (ws : List Int) (h : HpN) : Bool :=
  match implLay ws h with
  | none => false
  | some S => implObjs ws S h ws.length

theorem set_block {W : World} {b : Nat} {c : Array Value} {t : TypeId} (e : W.heap[b]? = some (.cells c t)) (i : Nat) (x : Value) : (W.setCell ⟨b, i, none⟩ x).heap[b]? = some (.cells (c.setIfInBounds i x) t) := by
  rw [setCell_eq_setRow W b i c t (0, 0) x e]
  exact setRow_heap W b _ _ t _ e

theorem set11 (a0 a1 a2 a3 a4 a5 a6 a7 a8 a9 a10 x0 x1 x2 x3 x4 x5 x6 x7 x8 x9 x10 : Value) : (((((((((((#[a0, a1, a2, a3, a4, a5, a6, a7, a8, a9, a10].setIfInBounds 0 x0).setIfInBounds 1 x1).setIfInBounds 2 x2).setIfInBounds 3 x3).setIfInBounds 4 x4).setIfInBounds 5 x5).setIfInBounds 6 x6).setIfInBounds 7 x7).setIfInBounds 8 x8).setIfInBounds 9 x9).setIfInBounds 10 x10) = #[x0, x1, x2, x3, x4, x5, x6, x7, x8, x9, x10] := by
  simp

/-- A heap that was laid out is stored into a block of its kind. -/
theorem lay_use {W : World} {b : Nat} {v : Value} {h : HpN} {vs : Value} (e : LayBlk W b v h vs) (v' : Value) (h' : HpN) (vs' : Value) (Q : World → Prop)
    (k : ∀ W' : World, LayBlk W' b v' h' vs' → (∀ B, B ≤ b → Below B W W') → W.heap.size = W'.heap.size → (∀ g, g ≠ b → W'.heap[g]? = W.heap[g]?) → Q W') : Q (((((((((((W.setCell ⟨b, 0, none⟩ v').setCell ⟨b, 1, none⟩ (.int .i64 h'.size)).setCell ⟨b, 2, none⟩ (.int .i64 h'.to)).setCell ⟨b, 3, none⟩ (.int .i64 h'.bottom)).setCell ⟨b, 4, none⟩ (.int .i64 h'.top)).setCell ⟨b, 5, none⟩ (.int .i64 h'.scan)).setCell ⟨b, 6, none⟩ (.int .i64 h'.fb)).setCell ⟨b, 7, none⟩ (.int .i64 h'.ft)).setCell ⟨b, 8, none⟩ (.int .i64 h'.flips)).setCell ⟨b, 9, none⟩ (.int .i64 h'.touched)).setCell ⟨b, 10, none⟩ vs') := by
  refine k _ ?_ (fun B hB => ?_) ?_ (fun g hg => ?_)
  · have e1 := set_block (set_block (set_block (set_block (set_block (set_block (set_block (set_block (set_block (set_block (set_block e 0 v') 1 (.int .i64 h'.size)) 2 (.int .i64 h'.to)) 3 (.int .i64 h'.bottom)) 4 (.int .i64 h'.top)) 5 (.int .i64 h'.scan)) 6 (.int .i64 h'.fb)) 7 (.int .i64 h'.ft)) 8 (.int .i64 h'.flips)) 9 (.int .i64 h'.touched)) 10 vs'
    rw [set11] at e1
    exact e1
  · exact (((((((((((Below.refl B W).setCell hB _).setCell hB _).setCell hB _).setCell hB _).setCell hB _).setCell hB _).setCell hB _).setCell hB _).setCell hB _).setCell hB _).setCell hB _
  · simp [World.setCell]
  · have hh : ∀ (X : World) (i : Nat) (x : Value), (X.setCell ⟨b, i, none⟩ x).heap[g]? = X.heap[g]? := fun X i x => Below.heap_setCell X ⟨b, i, none⟩ x g hg
    simp only [hh]

set_option maxHeartbeats 1000000 in
set_option maxRecDepth 100000 in
theorem layOut_bad (ad : Option Addr) (N cap : Nat) (h : HpN) (w : World) (ho : ¬ Ordered h N) :
    Calls Try.prog 30 #[heapV (.slice ad N cap) h] w fun e w' => e = .returned (.tuple #[noLay, .bool false]) ∧ Below w.heap.size w w' := by
  have HOr := hid (fun w => ordered_calls ad N cap h w)
  rw [decide_eq_false ho] at HOr
  obtain ⟨g1, g2, g3, g4, g5, g6, g7, g8, g9⟩ := h
  unfold heapV at *
  dsimp only at *
  clear ho
  go_enter Try.func30, Try.ntmps30
  go_wp2_with fail
  refine (HOr.out _).mono ?_
  rintro e W1 ⟨rfl, hb1⟩
  obtain ⟨eA, eB, hbw⟩ := two_kept hb1
  obtain ⟨c0, c1, c2, c3, c4, c5, c6, c7, c8, c9, c10⟩ := LayBlk.cells (h := ⟨0, 0, 0, 0, 0, 0, 0, 0, 0⟩) eB
  have f0 := frozen_of_heap eB 0
  have f1 := frozen_of_heap eB 1
  have f2 := frozen_of_heap eB 2
  have f3 := frozen_of_heap eB 3
  have f4 := frozen_of_heap eB 4
  have f5 := frozen_of_heap eB 5
  have f6 := frozen_of_heap eB 6
  have f7 := frozen_of_heap eB 7
  have f8 := frozen_of_heap eB 8
  have f9 := frozen_of_heap eB 9
  have f10 := frozen_of_heap eB 10
  dsimp only at c0 c1 c2 c3 c4 c5 c6 c7 c8 c9 c10
  have HB := hid hbw
  have HE := hid (show LayBlk W1 (w.heap.size + 1) _ ⟨0, 0, 0, 0, 0, 0, 0, 0, 0⟩ _ from eB)
  clear hb1 eA eB hbw HOr
  go_wp2_with fail
  refine lay_use HE.out (.slice none 0 0) ⟨0, 0, 0, 0, 0, 0, 0, 0, 0⟩ (.slice none 0 0) _ ?_
  intro W2 hL hb2 _ _
  obtain ⟨d0, d1, d2, d3, d4, d5, d6, d7, d8, d9, d10⟩ := hL.cells
  dsimp only at d0 d1 d2 d3 d4 d5 d6 d7 d8 d9 d10
  exact bodyPost_ret (v := .tuple #[noLay, .bool false]) (by simp [results, Try.results30, go_sem, noLay, layV, d0, d1, d2, d3, d4, d5, d6, d7, d8, d9, d10]) rfl ⟨rfl, HB.out.trans (hb2 _ (by omega))⟩

theorem ints_made (w : World) (N : Nat) : CellRow 3 (w.alloc (.cells (madeCells #[.int .i64 0] N) 3)) w.heap.size N (intCells (List.replicate N 0)) := by
  refine ⟨N, _, rw_of_row (World.rowIs_made w (.int .i64 0) N 3) N, Nat.le_refl _, fun i hi => ?_⟩
  simp [intCells, List.getD, hi]

/-- Whether objects lie behind one another does not hang on what was noted before. -/
theorem lay_same {ws : List Int} {p to : Nat} (S S' : List Int) : lay ws p to S = none ↔ lay ws p to S' = none := by
  by_cases hp : p < to
  · by_cases hn : sizeN (ws.getD p 0) = 0 ∨ to < p + sizeN (ws.getD p 0)
    · rw [lay_bad ws S hp hn, lay_bad ws S' hp hn]
    · rw [lay_next ws S hp hn, lay_next ws S' hp hn]
      exact lay_same _ _
  · rw [lay_end ws S hp, lay_end ws S' hp]
    simp
termination_by to - p
decreasing_by omega

theorem izeros_noted {ws : List Int} {N : Nat} (hN : ws.length = N) : Noted ws (List.replicate N 0) := by
  refine ⟨by simp [hN], fun a ha => absurd ?_ ha⟩
  simp only [List.getD, List.getElem?_replicate]
  split <;> rfl

/-- Some row of N numbers lies in block gb. -/
def SomeRow (gb N sc : Nat) (q : Int) (w : World) : Prop := ∃ S : List Int, S.length = N ∧ CellRow 3 w gb N (intCells S) ∧ S.getD sc 0 = q

/-- A world in which all that lay there lies as it lay, but for the row in block gb. -/
structure Loose (gb N sc : Nat) (q : Int) (W : World) where
  w : World
  h : W.grownBy w (some gb)
  r : SomeRow gb N sc q W → SomeRow gb N sc q w

instance (gb N sc : Nat) (q : Int) (W : World) : Nonempty (Loose gb N sc q W) := ⟨⟨W, kept_refl _ _, id⟩⟩

theorem Loose.cell {gb N sc : Nat} {q : Int} {W : World} (x : Loose gb N sc q W) {p : Addr} {v : Value} (hne : p.block ≠ gb) (hlt : p.block < W.heap.size) (h : W.cell? p = some v) : x.w.cell? p = some v :=
  (World.cell?_of_block (w := W) (x.h.block p.block hlt (by simpa using hne))).trans h

theorem wp_region_loose {P : Program} {id : Nat} {Q : Exit → Act → World → Prop} {a : Act} {w : World} {l : List Oper} (gb N sc : Nat) (q : Int) (hm : P.follows .mixedOrders = true) (hB : Region.lexB .any l.toArray = true)
    (h : wpQuiet P l.toArray (fun w' => ∃ x : Loose gb N sc q w, w' = x.w) (fun a' => ∀ w', (∃ x : Loose gb N sc q w, w' = x.w) → Q .normal a' w') l a) : (Code.region id l.toArray true).wp P Q a w :=
  wp_region_quiet (C := fun w' => ∃ x : Loose gb N sc q w, w' = x.w) hm hB ⟨⟨w.drew, ⟨rfl, rfl, rfl, Nat.le_refl _, fun _ _ _ => rfl⟩, fun hr => hr⟩, rfl⟩ (by simpa using h)

theorem LayBlk.loose {gb N sc : Nat} {q : Int} {w : World} {b : Nat} {v : Value} {h : HpN} {vs : Value} (e : LayBlk w b v h vs) (hne : b ≠ gb) :
    (∀ x : Loose gb N sc q w, x.w.cell? ⟨b, 0, none⟩ = some v) ∧ (∀ x : Loose gb N sc q w, x.w.cell? ⟨b, 1, none⟩ = some (.int .i64 h.size)) ∧ (∀ x : Loose gb N sc q w, x.w.cell? ⟨b, 2, none⟩ = some (.int .i64 h.to)) ∧ (∀ x : Loose gb N sc q w, x.w.cell? ⟨b, 3, none⟩ = some (.int .i64 h.bottom)) ∧ (∀ x : Loose gb N sc q w, x.w.cell? ⟨b, 4, none⟩ = some (.int .i64 h.top)) ∧ (∀ x : Loose gb N sc q w, x.w.cell? ⟨b, 5, none⟩ = some (.int .i64 h.scan)) ∧ (∀ x : Loose gb N sc q w, x.w.cell? ⟨b, 6, none⟩ = some (.int .i64 h.fb)) ∧ (∀ x : Loose gb N sc q w, x.w.cell? ⟨b, 7, none⟩ = some (.int .i64 h.ft)) ∧ (∀ x : Loose gb N sc q w, x.w.cell? ⟨b, 8, none⟩ = some (.int .i64 h.flips)) ∧ (∀ x : Loose gb N sc q w, x.w.cell? ⟨b, 9, none⟩ = some (.int .i64 h.touched)) ∧ ∀ x : Loose gb N sc q w, x.w.cell? ⟨b, 10, none⟩ = some vs := by
  obtain ⟨c0, c1, c2, c3, c4, c5, c6, c7, c8, c9, c10⟩ := e.cells
  have hb := heap_lt e
  exact ⟨fun x => x.cell hne hb c0, fun x => x.cell hne hb c1, fun x => x.cell hne hb c2, fun x => x.cell hne hb c3, fun x => x.cell hne hb c4, fun x => x.cell hne hb c5, fun x => x.cell hne hb c6, fun x => x.cell hne hb c7, fun x => x.cell hne hb c8, fun x => x.cell hne hb c9, fun x => x.cell hne hb c10⟩

theorem HeapBlk.loose {gb N sc : Nat} {q : Int} {w : World} {b : Nat} {v : Value} {h : HpN} (e : HeapBlk w b v h) (hne : b ≠ gb) :
    (∀ x : Loose gb N sc q w, x.w.cell? ⟨b, 0, none⟩ = some v) ∧ (∀ x : Loose gb N sc q w, x.w.cell? ⟨b, 1, none⟩ = some (.int .i64 h.size)) ∧ (∀ x : Loose gb N sc q w, x.w.cell? ⟨b, 2, none⟩ = some (.int .i64 h.to)) ∧ (∀ x : Loose gb N sc q w, x.w.cell? ⟨b, 3, none⟩ = some (.int .i64 h.bottom)) ∧ (∀ x : Loose gb N sc q w, x.w.cell? ⟨b, 4, none⟩ = some (.int .i64 h.top)) ∧ (∀ x : Loose gb N sc q w, x.w.cell? ⟨b, 5, none⟩ = some (.int .i64 h.scan)) ∧ (∀ x : Loose gb N sc q w, x.w.cell? ⟨b, 6, none⟩ = some (.int .i64 h.fb)) ∧ (∀ x : Loose gb N sc q w, x.w.cell? ⟨b, 7, none⟩ = some (.int .i64 h.ft)) ∧ (∀ x : Loose gb N sc q w, x.w.cell? ⟨b, 8, none⟩ = some (.int .i64 h.flips)) ∧ ∀ x : Loose gb N sc q w, x.w.cell? ⟨b, 9, none⟩ = some (.int .i64 h.touched) := by
  obtain ⟨c0, c1, c2, c3, c4, c5, c6, c7, c8, c9⟩ := e.cells
  have hb := heap_lt e
  exact ⟨fun x => x.cell hne hb c0, fun x => x.cell hne hb c1, fun x => x.cell hne hb c2, fun x => x.cell hne hb c3, fun x => x.cell hne hb c4, fun x => x.cell hne hb c5, fun x => x.cell hne hb c6, fun x => x.cell hne hb c7, fun x => x.cell hne hb c8, fun x => x.cell hne hb c9⟩

/-- What the program holds while it lays a heap out. -/
structure LSt (w : World) (b off bR bL gb N : Nat) (ws : List Int) (v : Value) (h : HpN) (S : List Int) (W : World) : Prop where
  wlen : ws.length = N
  blt : b < W.heap.size
  words : ∀ k, k < N → W.cell? ⟨b, off + k, none⟩ = some (.int .i64 (ws.getD k 0))
  heap : HeapBlk W w.heap.size v h
  res : LayBlk W bR (.slice none 0 0) ⟨0, 0, 0, 0, 0, 0, 0, 0, 0⟩ (.slice none 0 0)
  blk : LayBlk W bL v h (.slice (some ⟨gb, 0, none⟩) N N)
  len : S.length = N
  row : CellRow 3 W gb N (intCells S)
  ne : b ≠ gb
  ne1 : w.heap.size ≠ gb
  ne2 : bR ≠ gb
  ne3 : bL ≠ gb
  ne4 : bR ≠ bL
  low : w.heap.size ≤ gb
  lowR : w.heap.size ≤ bR
  below : Below w.heap.size w W

theorem LSt.step {w W W' : World} {b off bR bL gb N : Nat} {ws : List Int} {v : Value} {h : HpN} {S S' : List Int} (s : LSt w b off bR bL gb N ws v h S W) (hg : W.grownBy W' (some gb)) (hl : S'.length = N) (hr : CellRow 3 W' gb N (intCells S')) :
    LSt w b off bR bL gb N ws v h S' W' :=
  ⟨s.wlen, Nat.lt_of_lt_of_le s.blt hg.size, fun k hk => (World.cell?_of_block (w := W) (hg.block b s.blt (by simpa using s.ne))).trans (s.words k hk),
    (hg.block _ (heap_lt s.heap) (by simpa using s.ne1)).trans s.heap, (hg.block _ (heap_lt s.res) (by simpa using s.ne2)).trans s.res, (hg.block _ (heap_lt s.blk) (by simpa using s.ne3)).trans s.blk,
    hl, hr, s.ne, s.ne1, s.ne2, s.ne3, s.ne4, s.low, s.lowR, s.below.grown hg s.below.size (fun k hk => by cases hk; exact s.low)⟩

theorem LSt.keep {w W W' : World} {b off bR bL gb N : Nat} {ws : List Int} {v : Value} {h : HpN} {S : List Int} (s : LSt w b off bR bL gb N ws v h S W) (hb : Below W.heap.size W W') : LSt w b off bR bL gb N ws v h S W' :=
  s.step (kept_of_below hb _) s.len (s.row.of_block (hb.block gb s.row.lt))


/-- A call that notes objects, in whatever world that is as it was but for the notes: whether it tells true is known ahead. -/
theorem lay_loose {b off cap gb N sc : Nat} {q : Int} {P T : Int} {ws S : List Int} {h : HpN} {w W : World} {bR bL : Nat} {v : Value} {h' : HpN} (s : LSt w b off bR bL gb N ws v h' S W) (x : Loose gb N sc q W) (hN2 : N ≤ 8000) (hP : 0 ≤ P) (hT0 : 0 ≤ T) (hT : T ≤ N) (hq : S.getD sc 0 = q) (hout : sc < P.toNat ∨ T.toNat ≤ sc) {ok : Bool}
    (hok : lay ws P.toNat T.toNat S = none ↔ ok = false) :
    Calls Try.prog 59 #[layV (.slice (some ⟨b, off, none⟩) N cap) h (.slice (some ⟨gb, 0, none⟩) N N), .int .i64 P, .int .i64 T] x.w fun e w' => e = .returned (.bool ok) ∧ ∃ y : Loose gb N sc q W, w' = y.w := by
  obtain ⟨S', hl', hr', hq'⟩ := x.r ⟨S, s.len, s.row, hq⟩
  refine (implLay_at b off cap gb N N P T ws S' h x.w hl' hN2 hP hT0 hT (Nat.lt_of_lt_of_le s.blt x.h.size) (fun k hk => x.cell (p := ⟨b, off + k, none⟩) s.ne s.blt (s.words k hk)) s.ne hr').mono ?_
  rintro e w' ⟨⟨ok', rfl, hres⟩, hg⟩
  have hgg : W.grownBy w' (some gb) := ⟨hg.os.trans x.h.os, hg.tape.trans x.h.tape, hg.output.trans x.h.output, Nat.le_trans x.h.size hg.size, fun k hk hne => (hg.block k (Nat.lt_of_lt_of_le hk x.h.size) hne).trans (x.h.block k hk hne)⟩
  have hsame := lay_same (ws := ws) (p := P.toNat) (to := T.toNat) S S'
  rcases hres with ⟨hn, rfl, S2, hl2, hr2, hk2⟩ | ⟨S2, hs2, rfl, hl2, hr2⟩
  · have e1 : ok = false := hok.1 (hsame.2 hn)
    rw [e1]
    exact ⟨rfl, ⟨w', hgg, fun _ => ⟨S2, hl2, hr2, (hk2 sc hout).trans hq'⟩⟩, rfl⟩
  · have e1 : ok = true := by
      cases ok with
      | true => rfl
      | false =>
        have := hsame.1 (hok.2 rfl)
        rw [hs2] at this
        cases this
    rw [e1]
    exact ⟨rfl, ⟨w', hgg, fun _ => ⟨S2, hl2, hr2, (lay_else hs2 sc hout).trans hq'⟩⟩, rfl⟩

theorem other_loose {gb N sc : Nat} {q : Int} {W : World} (x : Loose gb N sc q W) {v : Value} {h : HpN} (hgb : gb < W.heap.size) (h0 : 0 ≤ h.to) (h1 : h.to ≤ 4000) (h2 : 0 ≤ h.size) (h3 : h.size ≤ 4000) :
    Calls Try.prog 60 #[heapV v h] x.w fun e w' => e = .returned (.int .i64 (h.size - h.to)) ∧ ∃ y : Loose gb N sc q W, w' = y.w := by
  refine (other_calls v h x.w h0 h1 h2 h3).mono ?_
  rintro e w' ⟨rfl, hb⟩
  refine ⟨rfl, ⟨w', ⟨hb.os.trans x.h.os, hb.tape.trans x.h.tape, hb.output.trans x.h.output, Nat.le_trans x.h.size hb.size, fun k hk hne => (hb.block k (Nat.lt_of_lt_of_le hk x.h.size)).trans (x.h.block k hk hne)⟩, fun hr => ?_⟩, rfl⟩
  obtain ⟨S', hl, hr', hq'⟩ := x.r hr
  exact ⟨S', hl, hr'.of_block (hb.block gb (Nat.lt_of_lt_of_le hgb x.h.size)), hq'⟩

/-- A call that notes objects where they lie as they should. -/
theorem lay_exact {b off cap gb N : Nat} {P T : Int} {ws S S3 : List Int} {h : HpN} {w W : World} {bR bL : Nat} {v : Value} {h' : HpN} (s : LSt w b off bR bL gb N ws v h' S W) (hN2 : N ≤ 8000) (hP : 0 ≤ P) (hT0 : 0 ≤ T) (hT : T ≤ N)
    (hs : lay ws P.toNat T.toNat S = some S3) :
    Calls Try.prog 59 #[layV (.slice (some ⟨b, off, none⟩) N cap) h (.slice (some ⟨gb, 0, none⟩) N N), .int .i64 P, .int .i64 T] W fun e w' => e = .returned (.bool true) ∧ LSt w b off bR bL gb N ws v h' S3 w' := by
  refine (implLay_at b off cap gb N N P T ws S h W s.len hN2 hP hT0 hT s.blt s.words s.ne s.row).mono ?_
  rintro e w' ⟨⟨ok', rfl, hres⟩, hg⟩
  rw [hs] at hres
  rcases hres with ⟨hn, _⟩ | ⟨S2, hs2, rfl, hl2, hr2⟩
  · cases hn
  · cases hs2
    exact ⟨rfl, s.step hg hl2 hr2⟩

theorem Loose.at {gb N sc : Nat} {q : Int} {W : World} (x : Loose gb N sc q W) (hr : SomeRow gb N sc q W) (hsc : sc < N) : x.w.cell? ⟨gb, sc, none⟩ = some (.int .i64 q) := by
  obtain ⟨S', hl, hr', hq'⟩ := x.r hr
  rw [hr'.cell hsc]
  unfold intCells
  rw [hq']

/-- A call that notes objects where they don't lie as they should: it tells false; what is noted outside stays. -/
theorem lay_fails {b off cap gb N sc : Nat} {q : Int} {P T : Int} {ws S : List Int} {h : HpN} {w W : World} {bR bL : Nat} {v : Value} {h' : HpN} (s : LSt w b off bR bL gb N ws v h' S W) (hN2 : N ≤ 8000) (hP : 0 ≤ P) (hT0 : 0 ≤ T) (hT : T ≤ N)
    (hs : lay ws P.toNat T.toNat S = none) (hq : S.getD sc 0 = q) (hout : sc < P.toNat ∨ T.toNat ≤ sc) :
    Calls Try.prog 59 #[layV (.slice (some ⟨b, off, none⟩) N cap) h (.slice (some ⟨gb, 0, none⟩) N N), .int .i64 P, .int .i64 T] W fun e w' => e = .returned (.bool false) ∧ ∃ S4 : List Int, S4.getD sc 0 = q ∧ LSt w b off bR bL gb N ws v h' S4 w' := by
  refine (implLay_at b off cap gb N N P T ws S h W s.len hN2 hP hT0 hT s.blt s.words s.ne s.row).mono ?_
  rintro e w' ⟨⟨ok', rfl, hres⟩, hg⟩
  rw [hs] at hres
  rcases hres with ⟨_, rfl, S4, hl4, hr4, hk4⟩ | ⟨S2, hs2, _⟩
  · exact ⟨rfl, S4, (hk4 sc hout).trans hq, s.step hg hl4 hr4⟩
  · cases hs2
end Go.Proofs.Ytebpgglegnljgaa
