/- A program is spoilt; its operations too are told. -/
import Derived.Test.YtnhofdngmbnlkaaGrpMW2
import Derived.Test.YtnhofdngmbnlkaaTextMany
namespace Go.Proofs.Ytnhofdngmbnlkaa
open Go.RowKit Go.Deep

theorem made_at {X : World} {B q : Nat} (hq : X.heap.size = q) (hB : B ≤ X.heap.size) : (X.alloc (.cells #[] 65)).ownsRow B 65 6 (.slice (some ⟨q, 0, none⟩) 0 0) ([] : List Nd).length (rowZ Nd.cell 6 []) := by
  subst hq
  exact World.ownsRow_made X #[] 0 hB (Nat.zero_le _) rfl

theorem sp_start {d : Dr} {W X1 : World} {p q : Nat} {ve v1 v5 : Value} {ns : List Nd} (h : Rdr d W p) (hq : W.heap.size + 2 = q) (hn : ∀ n ∈ ns, Brief n.a ∧ Brief n.b ∧ Brief n.c) (hl : 1 ≤ ns.length ∧ ns.length ≤ 300)
    (hr : X1.ownsRow W.heap.size 65 6 v5 ns.length (rowZ Nd.cell 6 ns)) (hg : (((W.alloc (.cells #[ve, v1] 45)).alloc (.cells #[.slice none 0 0, .slice none 0 0] 45)).alloc (.cells #[] 65)).grownBy X1 (some q)) : Sp d W X1 p ve v1 W.heap.size (W.heap.size + 1) v5 ns := by
  have hB := heap_lt h.blk
  have hb : Below W.heap.size W (((W.alloc (.cells #[ve, v1] 45)).alloc (.cells #[.slice none 0 0, .slice none 0 0] 45)).alloc (.cells #[] 65)) := (((Below.refl _ _).alloc (Nat.le_refl _) _).alloc (by simp) _).alloc (by simp; omega) _
  have e1 : (((W.alloc (.cells #[ve, v1] 45)).alloc (.cells #[.slice none 0 0, .slice none 0 0] 45)).alloc (.cells #[] 65)).heap[W.heap.size]? = some (.cells #[ve, v1] 45) := by
    exact (((((Below.refl _ _).alloc (Nat.le_refl _) _).alloc (by simp) _).block W.heap.size (by simp))).trans (MapKept.heap_alloc W _).1
  have e2 : (((W.alloc (.cells #[ve, v1] 45)).alloc (.cells #[.slice none 0 0, .slice none 0 0] 45)).alloc (.cells #[] 65)).heap[W.heap.size + 1]? = some (.cells #[.slice none 0 0, .slice none 0 0] 45) := by
    have := (MapKept.heap_alloc (W.alloc (.cells #[ve, v1] 45)) (.cells #[.slice none 0 0, .slice none 0 0] 45)).1
    rw [show (W.alloc (.cells #[ve, v1] 45)).heap.size = W.heap.size + 1 by simp] at this
    exact ((((Below.refl _ _).alloc (Nat.le_refl _) _).block (W.heap.size + 1) (by simp))).trans this
  have hs : (((W.alloc (.cells #[ve, v1] 45)).alloc (.cells #[.slice none 0 0, .slice none 0 0] 45)).alloc (.cells #[] 65)).heap.size = W.heap.size + 3 := by simp
  generalize ((W.alloc (.cells #[ve, v1] 45)).alloc (.cells #[.slice none 0 0, .slice none 0 0] 45)).alloc (.cells #[] 65) = W3 at *
  have hb2 : Below W.heap.size W X1 := hb.grown hg (by omega) (fun k hk => by cases hk; omega)
  exact ⟨h.below hb2, Grew.of_below hb2, (hg.block _ (by omega) (by intro e; cases e; omega)).trans e1, (hg.block _ (by omega) (by intro e; cases e; omega)).trans e2, by omega, hr, hn, hl⟩

theorem row_at {X : World} {B : Nat} {ad : Option Addr} {n cp k : Nat} {ns : List Nd} (h : X.ownsRow B 65 6 (.slice ad n cp) ns.length (rowZ Nd.cell 6 ns)) (hk : k < ns.length) : ∃ g, ad = some ⟨g, 0, none⟩ ∧ B ≤ g ∧ g < X.heap.size ∧ ∀ c, c < 6 → X.cell? ⟨g, k * 6 + c, none⟩ = some ((ns.getD k default).cell c) := by
  have h' := h
  obtain ⟨-, ⟨-, h0⟩ | ⟨g, cap, cur, e, hB, hc, -⟩⟩ := h
  · omega
  · cases e
    refine ⟨g, rfl, hB, heap_lt hc, fun c hc' => ?_⟩
    rw [h'.cellAt (k * 6 + c) (by omega), rowZ_get Nd.cell 6 (by decide) ns (k * 6 + c) (by omega)]
    exact congrArg some (cell_div ns Nd.cell 6 k c hc')

theorem row_fz {X : World} {B g n cp : Nat} {xs : List Value} {m : Nat} (h : X.ownsRow B 65 6 (.slice (some ⟨g, 0, none⟩) n cp) m xs) : (∀ i, X.frozen? ⟨g, i, none⟩ = false) ∧ m ≤ cp ∧ ∃ cur, X.heap[g]? = some (.cells cur 65) := by
  obtain ⟨-, ⟨h1, -⟩ | ⟨g', cap, cur, e, hB, hc, hnc, -⟩⟩ := h
  · cases h1
  · cases e
    exact ⟨fun i => frozen_of_heap hc i, hnc, cur, hc⟩

def sevenV : Array Value := #[.string ⟨#[120, 48]⟩, .string ⟨#[113]⟩, .string ⟨#[]⟩, .string ⟨#[108, 101, 116]⟩, .string ⟨#[97, 115, 107]⟩, .string ⟨#[90, 122]⟩, .string ⟨#[97, 98, 99, 100, 101, 102, 103, 104, 105]⟩]

theorem seven_get (r : Int) (h0 : 0 ≤ r) (h1 : r < 7) : ∃ y : ByteArray, Brief y ∧ sevenV[r.toNat]? = some (.string y) := by
  have h : r = 0 ∨ r = 1 ∨ r = 2 ∨ r = 3 ∨ r = 4 ∨ r = 5 ∨ r = 6 := by omega
  rcases h with rfl | rfl | rfl | rfl | rfl | rfl | rfl <;> exact ⟨_, by unfold Brief; decide, rfl⟩

def fiveV : Array Value := #[.int .i64 (-1), .int .i64 1, .int .i64 2, .int .i64 999999999, .int .i64 1000000000]

theorem five_get (r : Int) (h0 : 0 ≤ r) (h1 : r < 5) : ∃ y : Int, fiveV[r.toNat]? = some (.int .i64 y) := by
  have h : r = 0 ∨ r = 1 ∨ r = 2 ∨ r = 3 ∨ r = 4 := by omega
  rcases h with rfl | rfl | rfl | rfl | rfl <;> exact ⟨_, rfl⟩

theorem nodes_at {X : World} {B g cp : Nat} {ns : List Nd} (h : X.ownsRow B 65 6 (.slice (some ⟨g, 0, none⟩) ns.length cp) ns.length (rowZ Nd.cell 6 ns)) (h0 : 0 < ns.length) : NodesAt X g 0 ns := fun k hk c hc => by
  have _ := h0
  obtain ⟨g', e, -, -, hcell⟩ := row_at h (k := k) hk
  cases e
  rw [Nat.zero_add]
  exact hcell c hc

theorem app_off {W : World} {B : Nat} {v : Value} {l m : List Nd} {b off cap : Nat} (hown : W.ownsRow B 65 6 v l.length (rowZ Nd.cell 6 l)) (hc : NodesAt W b off m) (hm : l.length + m.length ≤ 1000000) (hB : B ≤ W.heap.size) (ty : TypeId) :
    ∃ v' W', (Builtin.append_ #[43, 43] ty #[v, .slice (some ⟨b, off, none⟩) m.length cap]).run Try.prog W = .ok v' W' ∧ W'.ownsRow B 65 6 v' (l ++ m).length (rowZ Nd.cell 6 (l ++ m)) ∧ W.grownBy W' v.ownBlock := by
  obtain ⟨i0, hinf, hz0, hz1, hz2⟩ := info_parts info_node
  obtain ⟨v', W', hr, h2, h3, -, -⟩ := run_append_own_at (P := Try.prog) W B 43 ty 65 i0 _ 6 72 Try.underlying43 hinf hz0 hz1 hz2 rfl (by decide) v l.length (rowZ Nd.cell 6 l) hown ⟨b, off, none⟩ m.length cap (rowZ Nd.cell 6 m) (rowZ_len _ 6 m)
    (fun j u hu => by
      have hj : j < m.length * 6 := by
        have := (List.getElem?_eq_some_iff.1 hu).1
        rwa [rowZ_len] at this
      rw [rowZ_get Nd.cell 6 (by decide) m j hj] at hu
      cases hu
      rw [Addr.add_lit]
      have := hc (j / 6) (by omega) (j % 6) (by omega)
      rwa [show off + j / 6 * 6 + j % 6 = off + j by omega] at this)
    (fun u hu => by
      unfold rowZ at hu
      rw [List.mem_flatMap] at hu
      obtain ⟨x, -, hu⟩ := hu
      rw [List.mem_map] at hu
      obtain ⟨i, -, rfl⟩ := hu
      exact nd_one x i) (by unfold maxLen; omega) (by omega) hB
  refine ⟨v', W', hr, ?_, h3⟩
  rw [List.length_append, rowZ_app]
  exact h2

theorem nodes_part {W : World} {b : Nat} {ns l : List Nd} {k : Nat} {r : List Nd} (h : NodesAt W b 0 ns) (hd : ns.drop k = l ++ r) : NodesAt W b (k * 6) l := fun j hj c hc => by
  have hlen := congrArg List.length hd
  simp only [List.length_drop, List.length_append] at hlen
  have e := h (k + j) (by omega) c hc
  rw [show 0 + (k + j) * 6 + c = k * 6 + j * 6 + c by omega] at e
  rw [e]
  congr 2
  have : ns.getD (k + j) default = (ns.drop k).getD j default := by simp [List.getD, List.getElem?_drop]
  rw [this, hd]
  simp [List.getD, List.getElem?_append_left hj]

theorem last_part {W : World} {b e o : Nat} {ns : List Nd} (h : ns.drop e = [] ∨ o = e * 6) (hn : NodesAt W b 0 ns) : NodesAt W b o (ns.drop e) := by
  rcases h with h | rfl
  · rw [h]
    exact fun k hk => by simp at hk
  · exact nodes_part (r := []) hn (by simp)

theorem parts_brief {ns : List Nd} {k j f e : Nat} (hb : ∀ n ∈ ns, Brief n.a ∧ Brief n.b ∧ Brief n.c) : ∀ n ∈ (([] : List Nd) ++ ns.take k) ++ (ns.drop j).take f ++ ns.drop e, Brief n.a ∧ Brief n.b ∧ Brief n.c := fun n hn => by
  simp only [List.nil_append, List.mem_append] at hn
  rcases hn with (hn | hn) | hn
  · exact hb n (List.mem_of_mem_take hn)
  · exact hb n (List.mem_of_mem_drop (List.mem_of_mem_take hn))
  · exact hb n (List.mem_of_mem_drop hn)

theorem parts1 {ns : List Nd} {k : Nat} (h : ns.length ≤ 300) : ([] : List Nd).length + (ns.take k).length ≤ 1000000 := by
  simp only [List.length_nil, List.length_take]
  omega

theorem parts2 {ns : List Nd} {k j f : Nat} (h : ns.length ≤ 300) : (([] : List Nd) ++ ns.take k).length + ((ns.drop j).take f).length ≤ 1000000 := by
  simp only [List.nil_append, List.length_take, List.length_drop]
  omega

theorem parts3 {ns : List Nd} {k j f e : Nat} (h : ns.length ≤ 300) : ((([] : List Nd) ++ ns.take k) ++ (ns.drop j).take f).length + (ns.drop e).length ≤ 1000000 := by
  simp only [List.nil_append, List.length_append, List.length_take, List.length_drop]
  omega

theorem parts_len {ns : List Nd} {k j f e : Nat} (h : ns.length ≤ 300) : ((([] : List Nd) ++ ns.take k) ++ (ns.drop j).take f ++ ns.drop e).length ≤ 1000 := by
  simp only [List.nil_append, List.length_append, List.length_take, List.length_drop]
  omega

theorem row_take {d : Dr} {X : World} {B g cp k : Nat} {ns : List Nd} (h : X.ownsRow B 65 6 (.slice (some ⟨g, 0, none⟩) ns.length cp) ns.length (rowZ Nd.cell 6 ns)) (h1 : d.B < B) (h2 : d.G < B) (hk : k ≤ ns.length) (h0 : 0 < ns.length) (hb : ∀ n ∈ ns, Brief n.a ∧ Brief n.b ∧ Brief n.c) : NodesD d X (.slice (some ⟨g, 0, none⟩) k cp) (ns.take k) :=
  ⟨lies_take (lies_owns (f := Nd.cell) (by decide) h h1 h2) hk h0 rfl, fun n hn => hb n (List.mem_of_mem_take hn)⟩

def fourV : Array Value := #[.string ⟨#[97, 115, 107]⟩, .string ⟨#[110, 101, 119]⟩, .string ⟨#[]⟩, .string ⟨#[105, 102]⟩]

theorem four_get (r : Int) (h0 : 0 ≤ r) (h1 : r < 4) : ∃ y : ByteArray, Brief y ∧ fourV[r.toNat]? = some (.string y) := by
  have h : r = 0 ∨ r = 1 ∨ r = 2 ∨ r = 3 := by omega
  rcases h with rfl | rfl | rfl | rfl <;> exact ⟨_, by unfold Brief; decide, rfl⟩

theorem four_brief {k : Nat} {y : ByteArray} (h : fourV[k]? = some (.string y)) : Brief y := by
  match k with
  | 0 => cases h; unfold Brief; decide
  | 1 => cases h; unfold Brief; decide
  | 2 => cases h; unfold Brief; decide
  | 3 => cases h; unfold Brief; decide
  | k + 4 => simp [fourV] at h

theorem ef_one (k : Ef) (i : Nat) : (k.cell i).oneCell' = true := by
  match i with
  | 0 => rfl
  | 1 => rfl
  | _ + 2 => rfl

theorem info_effZ : (Try.prog.info? 60).map (fun i => (i.zero, i.size, i.bytes)) = some (some (.agg #[.string ByteArray.empty, .int .i64 0, .int .i64 0]), 3, 32) := by kernel_rfl

theorem effs_made {X : World} {B : Nat} (hB : B ≤ X.heap.size) : (X.alloc (.cells #[] 60)).ownsRow B 60 3 (.slice (some ⟨X.heap.size, 0, none⟩) 0 0) ([] : List Ef).length (rowZ Ef.cell 3 []) :=
  World.ownsRow_made X #[] 0 hB (Nat.zero_le _) rfl

theorem own_ne {X : World} {B q : Nat} {v : Value} {n : Nat} {xs : List Value} {c : Array Value} {t : TypeId} (h : X.ownsRow B 60 3 v n xs) (hc : X.heap[q]? = some (.cells c t)) (ht : t ≠ 60) : some q ≠ v.ownBlock := fun e => by
  obtain ⟨-, c2, hc2⟩ := g_type h e.symm
  rw [hc] at hc2
  simp only [Option.some.injEq, Obj.cells.injEq] at hc2
  exact ht hc2.2.1

theorem bx_own {d : Dr} {W X X' : World} {q p0 : Nat} {ve v1 v : Value} {bp rx n : Nat} {xs : List Value} (h : Bx d W X q ve v1 bp rx) (h0 : Rdr d W p0) (ho : X.ownsRow W.heap.size 60 3 v n xs) (hg : X.grownBy X' v.ownBlock) : Bx d W X' q ve v1 bp rx := by
  have hlo := h.lo
  have hs := h.gr.size
  have hne : ∀ k, k < W.heap.size → some k ≠ v.ownBlock := fun k hk e => by have := (ho.lt k e.symm).1; omega
  refine ⟨⟨(hg.block _ (by omega) (hne _ hlo.1)).trans h.rd.blk, fun hl => ?_⟩, ⟨hg.os.trans h.gr.os, hg.tape.trans h.gr.tape, hg.output.trans h.gr.output, Nat.le_trans hs hg.size, fun k hk => (hg.block k (by have := hk.1; omega) (hne k hk.1)).trans (h.gr.block k hk)⟩, (hg.block _ (heap_lt h.box) (own_ne ho h.box (by decide))).trans h.box, (hg.block _ (heap_lt h.res) (own_ne ho h.res (by decide))).trans h.res, hlo⟩
  obtain ⟨b, off, ea, hq, hz⟩ := h.rd.bytes hl
  have hbl := bytes_low h0 b off ea hl
  refine ⟨b, off, ea, ⟨Nat.lt_of_lt_of_le hq.1 hg.size, hq.2⟩, fun i hi => ?_⟩
  obtain ⟨z, hz, h5⟩ := hz i hi
  exact ⟨z, (World.cell?_of_block (a := ⟨b, off + i, none⟩) (hg.block b hq.1 (hne b hbl))).trans hz, h5⟩

theorem bx_low {d : Dr} {W X X' : World} {q : Nat} {ve v1 : Value} {bp rx : Nat} (h : Bx d W X q ve v1 bp rx) (hb : Below X.heap.size X X') : Bx d W X' q ve v1 bp rx :=
  ⟨h.rd.below hb, h.gr.trans (Grew.of_below hb), (hb.block _ (heap_lt h.box)).trans h.box, (hb.block _ (heap_lt h.res)).trans h.res, h.lo⟩

theorem bx_pick {d : Dr} {W X X' : World} {q q' : Nat} {ve v1 : Value} {bp rx : Nat} (h : Bx d W X q ve v1 bp rx) (hr : Rdr d X' q') (hg : Grew d X X') (hG : d.G = d.B) : Bx d W X' q' ve v1 bp rx :=
  ⟨hr, h.gr.trans hg, (hg.block bp ⟨heap_lt h.box, by have := h.lo; omega, by rw [hG]; have := h.lo; omega⟩).trans h.box, (hg.block rx ⟨heap_lt h.res, by have := h.lo; omega, by rw [hG]; have := h.lo; omega⟩).trans h.res, h.lo⟩

theorem slice_of {X : World} {B n : Nat} {v : Value} {e : TypeId} {sz : Nat} {xs : List Value} (h : X.ownsRow B e sz v n xs) : ∃ ad l c, v = .slice ad l c := by
  obtain ⟨ad, c, e⟩ := g_is h
  exact ⟨ad, n, c, e⟩

theorem one_eff {d : Dr} {X : World} {qd : Nat} {y : ByteArray} {a b : Int} (h : X.heap[qd]? = some (.cells #[.string y, .int .i64 a, .int .i64 b] 60)) (h1 : qd ≠ d.B) (h2 : qd ≠ d.G) : Lies d X (.slice (some ⟨qd, 0, none⟩) 1 1) [(⟨y, a, b⟩ : Ef)].length 3 (fun i => Ef.cell ([(⟨y, a, b⟩ : Ef)].getD (i / 3) default) (i % 3)) := by
  refine Or.inr ⟨qd, 0, 1, rfl, Nat.le_refl _, rfl, ⟨heap_lt h, h1, h2⟩, fun i hi => ?_⟩
  rw [Nat.zero_add, cell_of_heap h i]
  have hi3 : i = 0 ∨ i = 1 ∨ i = 2 := by simp at hi; omega
  rcases hi3 with rfl | rfl | rfl <;> rfl

section
variable {P : Program} {l0 : List Oper} {Q : Exit → Act → World → Prop} {S : World → Prop}

/-- One that makes something, or a call. -/
def PickOne (P : Program) (l0 : List Oper) (Q : Exit → Act → World → Prop) (S : World → Prop) (n : Nat) (ls : Array Bool) (a : Act) (w : World) (i : Nat) : Prop := PickMk P l0 Q S n ls a w i ∨ PickCl P l0 Q S n ls a w i

theorem PickOne.op {n i : Nat} {ls : Array Bool} {a : Act} {w : World} (h : PickOne P l0 Q S n ls a w i) : wpOp P l0.toArray (NoPanic Q) i (fun a' w' => S w' ∧ wpAnyH P .any l0.toArray (NoPanic Q) S n (ls.setIfInBounds i true) a' w') a w := by
  rcases h with h | h
  · exact h.op
  · exact h.op

theorem pick_two {i j n : Nat} {ls : Array Bool} {a : Act} {w : World} (hr : (Region.ready .any l0.toArray ls == [i, j]) = true) (h1 : PickOne P l0 Q S n ls a w i) (h2 : PickOne P l0 Q S n ls a w j) : wpAnyH P .any l0.toArray (NoPanic Q) S (n + 1) ls a w := by
  refine wpAnyH_all (rs := [i, j]) (by simpa using hr) (by simp) (fun k hk => ?_)
  simp only [List.mem_cons, List.not_mem_nil, or_false] at hk
  rcases hk with rfl | rfl
  · exact h1.op
  · exact h2.op

theorem pick_three {i j k n : Nat} {ls : Array Bool} {a : Act} {w : World} (hr : (Region.ready .any l0.toArray ls == [i, j, k]) = true) (h1 : PickOne P l0 Q S n ls a w i) (h2 : PickOne P l0 Q S n ls a w j) (h3 : PickOne P l0 Q S n ls a w k) : wpAnyH P .any l0.toArray (NoPanic Q) S (n + 1) ls a w := by
  refine wpAnyH_all (rs := [i, j, k]) (by simpa using hr) (by simp) (fun x hx => ?_)
  simp only [List.mem_cons, List.not_mem_nil, or_false] at hx
  rcases hx with rfl | rfl | rfl
  · exact h1.op
  · exact h2.op
  · exact h3.op

theorem pick_four {i j k m n : Nat} {ls : Array Bool} {a : Act} {w : World} (hr : (Region.ready .any l0.toArray ls == [i, j, k, m]) = true) (h1 : PickOne P l0 Q S n ls a w i) (h2 : PickOne P l0 Q S n ls a w j) (h3 : PickOne P l0 Q S n ls a w k) (h4 : PickOne P l0 Q S n ls a w m) : wpAnyH P .any l0.toArray (NoPanic Q) S (n + 1) ls a w := by
  refine wpAnyH_all (rs := [i, j, k, m]) (by simpa using hr) (by simp) (fun x hx => ?_)
  simp only [List.mem_cons, List.not_mem_nil, or_false] at hx
  rcases hx with rfl | rfl | rfl | rfl
  · exact h1.op
  · exact h2.op
  · exact h3.op
  · exact h4.op

/-- What stands there is named: the operations, what is wanted, the frame. -/
theorem pick_cap {n : Nat} {ls : Array Bool} {a : Act} {w : World} (h : ∀ (L : List Oper) (QQ : Exit → Act → World → Prop) (aa : Act), Hid (L = l0) → Hid (QQ = Q) → Hid (aa = a) → wpAnyH P .any L.toArray (NoPanic QQ) S n ls aa w) : wpAnyH P .any l0.toArray (NoPanic Q) S n ls a w := h l0 Q a (hid rfl) (hid rfl) (hid rfl)

theorem pick_join {L : List Oper} {QQ : Exit → Act → World → Prop} {n : Nat} {ls ls' : Array Bool} {a a' : Act} {w : World} (hL : L = l0) (hQ : QQ = Q) (hl : ls = ls') (ha : a' = a) (h : wpAnyH P .any L.toArray (NoPanic QQ) S n ls' a' w) : wpAnyH P .any l0.toArray (NoPanic Q) S n ls a w := by
  subst hL
  subst hQ
  subst hl
  subst ha
  exact h

theorem pick_open {L : List Oper} {QQ : Exit → Act → World → Prop} {n : Nat} {ls : Array Bool} {a a' : Act} {w : World} (hL : L = l0) (hQ : QQ = Q) (ha : a' = a) (h : wpAnyH P .any l0.toArray (NoPanic Q) S n ls a w) : wpAnyH P .any L.toArray (NoPanic QQ) S n ls a' w := by
  subst hL
  subst hQ
  subst ha
  exact h
end

set_option maxHeartbeats 40000000 in
set_option maxRecDepth 100000 in
theorem spoil_calls {d : Dr} {W : World} {p : Nat} {ad : Option Addr} {n cp : Nat} {vt : Value} {es : List Ef} {ns : List Nd} (hG : d.G = d.B) (h : Rdr d W p) (hp : p ≤ 900000) (hE : EffsD d W (.slice ad n cp) es) (he4 : es.length ≤ 4) (hn : NodesD d W vt ns) (hT : Tr ns) :
    Calls Try.prog 30 #[.pointer (some ⟨d.B, 0, none⟩), .agg #[.slice ad n cp, vt]] W (SpoilPostE d W p) := by
  have hl3 : 1 ≤ ns.length ∧ ns.length ≤ 300 := by
    obtain ⟨m, k, e1, -, -, e4⟩ := hT
    exact ⟨by rw [e1]; simp, e4⟩
  have HT := hid (And.intro hT hl3)
  have HE := hid (And.intro hE he4)
  have HN := hid hn
  have H0 := hid (And.intro h (And.intro hp hG))
  obtain ⟨adt, cpt, rfl⟩ := hn.is
  obtain ⟨i0, hinf, hz0, hz1, hz2⟩ := info_parts info_node
  clear hG h hp hE he4 hn hT hl3
  go_enter Try.func30, Try.ntmps30
  go_wp2_with (at_builtin; refine wpList_append_by rfl _ _ 43 rfl _ _ rfl rfl (fun ty => app_row (d := d) nd_one Try.underlying43 hinf hz0 hz1 hz2 rfl (by decide) (by decide) (made_at (B := W.heap.size) (by simp) (by simp; omega)) (HN.out.1.grew ((((Grew.refl d W).alloc _).alloc _).alloc _)) (by have := HT.out.2; simp; omega) (by simp; omega) ty) ?_; intro v5 X1 hv5; rw [List.nil_append] at hv5; have HS := hid (sp_start H0.out.1 rfl HN.out.2 HT.out.2 hv5.1 hv5.2); obtain ⟨adr, cpr, rfl⟩ := g_is hv5.1; clear hv5)
  have LP : (0 : Int) < (ns.length : Int) := by have := HT.out.2; omega
  refine (rdr_pick HS.out.rd (by have := H0.out.2.1; omega) (ns.length : Int) LP).mono ?_
  rintro e X2 ⟨k0, rfl, hk0, hk1, hr2, hg2, -, ho2⟩
  have HS2 := hid (HS.out.pick hr2 hg2 ho2)
  clear hr2 hg2 ho2 HS
  obtain ⟨k, rfl⟩ : ∃ k : Nat, k0 = (k : Int) := ⟨k0.toNat, by omega⟩
  obtain ⟨q, hqa, hqB, hql, hcell⟩ := row_at HS2.out.row (k := k) (by omega)
  subst hqa
  have HQ := hid (And.intro hqB hql)
  obtain ⟨m, hm⟩ : ∃ m, ns.getD k default = m := ⟨_, rfl⟩
  have Hm := hid hm
  have hbm : Brief m.a ∧ Brief m.b ∧ Brief m.c := by rw [← hm]; exact HS2.out.sml _ (getD_mem (by omega))
  have HBm := hid hbm
  have c0 := hcell 0 (by omega)
  have c1 := hcell 1 (by omega)
  have c2 := hcell 2 (by omega)
  have c3 := hcell 3 (by omega)
  have c4 := hcell 4 (by omega)
  have c5 := hcell 5 (by omega)
  rw [hm] at c0 c1 c2 c3 c4 c5
  obtain ⟨kd, nm, sa, sb, sc, kc⟩ := m
  simp only [Nd.cell, Nat.add_zero] at c0 c1 c2 c3 c4 c5
  have HS3 := hid (HS2.out.below ((Below.refl _ _).alloc (Nat.le_refl _) (.cells #[.int .i64 kd, .int .i64 nm, .string sa, .string sb, .string sc, .int .i64 kc] 65)))
  have NB3 := hid (MapKept.heap_alloc X2 (.cells #[.int .i64 kd, .int .i64 nm, .string sa, .string sb, .string sc, .int .i64 kc] 65)).1
  have HX3 := hid (fun (k : Nat) (e : k = X2.heap.size) => (show q ≠ k by omega))
  obtain ⟨nb, hnb⟩ : ∃ nb, X2.heap.size = nb := ⟨_, rfl⟩
  have HNb : Hid (W.heap.size ≤ nb ∧ nb ≠ W.heap.size ∧ nb ≠ W.heap.size + 1 ∧ nb ≠ q) := by
    have h1 := heap_lt HS2.out.box
    have h2 := heap_lt HS2.out.res
    have h3 := HS2.out.gr.size
    have h4 := HQ.out.2
    show _ ∧ _
    omega
  clear hm hbm hcell hqB hql HX3
  go_wp2_with fail
  rw [hnb] at NB3
  try rw [hnb]
  clear hnb c0 c1 c2 c3 c4 c5
  refine (rdr_pick HS3.out.rd (by have := H0.out.2.1; omega) 9 (by decide)).mono ?_
  rintro e X3 ⟨m9, rfl, hm90, hm91, hr3, hg3, -, ho3⟩
  have HS4 := hid (HS3.out.pick hr3 hg3 ho3)
  have NB4 := hid ((ho3 nb (by have := HNb.out; have := HS3.out.lo; omega)).trans NB3.out)
  clear hr3 hg3 ho3 HS3 NB3 HS2
  have hcs : m9 = 0 ∨ m9 = 1 ∨ m9 = 2 ∨ m9 = 3 ∨ m9 = 4 ∨ m9 = 5 ∨ m9 = 6 ∨ m9 = 7 ∨ m9 = 8 := by omega
  rcases hcs with rfl | rfl | rfl | rfl | rfl | rfl | rfl | rfl | rfl
  · go_wp2_with fail
    refine (rdr_pick HS4.out.rd (by have := H0.out.2.1; omega) 29 (by first | decide | omega)).mono ?_
    rintro e X4 ⟨m20, rfl, hm20, hM20, hr, hg, -, ho⟩
    have HS5 := hid (HS4.out.pick hr hg ho)
    have NB5 := hid ((ho nb (by have := HNb.out; have := HS4.out.lo; omega)).trans NB4.out)
    clear hr hg ho
    have a0 : X4.cell? ⟨nb, 0, none⟩ = some (.int .i64 kd) := cell_of_heap NB5.out 0
    have fz := frozen_of_heap NB5.out 0
    have HS7 := hid (HS5.out.set H0.out.1 nb 0 (.int .i64 (m20 - 1)) HNb.out.1 HNb.out.2.1 HNb.out.2.2.1 HNb.out.2.2.2)
    have NB7 := hid (set_heap (i := 0) (v := .int .i64 (m20 - 1)) NB5.out)
    obtain ⟨Y7, hY7⟩ : ∃ Y7, X4.setCell ⟨nb, 0, none⟩ (.int .i64 (m20 - 1)) = Y7 := ⟨_, rfl⟩
    rw [hY7] at HS7 NB7
    have HY7 := hid hY7
    clear hY7
    have NB8 : Hid (Y7.heap[nb]? = some (.cells #[.int .i64 (m20 - 1), .int .i64 nm, .string sa, .string sb, .string sc, .int .i64 kc] 65)) := NB7.out
    go_upto_region 30 with fail
    rw [HY7.out]
    clear HY7 a0 fz NB7
    have n0 : Y7.cell? ⟨nb, 0, none⟩ = some (.int .i64 (m20 - 1)) := cell_of_heap NB8.out 0
    have n1 : Y7.cell? ⟨nb, 1, none⟩ = some (.int .i64 nm) := cell_of_heap NB8.out 1
    have n2 : Y7.cell? ⟨nb, 2, none⟩ = some (.string sa) := cell_of_heap NB8.out 2
    have n3 : Y7.cell? ⟨nb, 3, none⟩ = some (.string sb) := cell_of_heap NB8.out 3
    have n4 : Y7.cell? ⟨nb, 4, none⟩ = some (.string sc) := cell_of_heap NB8.out 4
    have n5 : Y7.cell? ⟨nb, 5, none⟩ = some (.int .i64 kc) := cell_of_heap NB8.out 5
    obtain ⟨q', hqa', -, -, hcl⟩ := row_at HS7.out.row (k := k) (by omega)
    simp only [Option.some.injEq, Addr.mk.injEq] at hqa'
    obtain ⟨rfl, -⟩ := hqa'
    have q0 := hcl 0 (by omega)
    have q1 := hcl 1 (by omega)
    have q2 := hcl 2 (by omega)
    have q3 := hcl 3 (by omega)
    have q4 := hcl 4 (by omega)
    have q5 := hcl 5 (by omega)
    obtain ⟨hrf, hrc, cur, hcur⟩ := row_fz HS7.out.row
    have z0 := hrf (k * 6 + 0)
    have z1 := hrf (k * 6 + 1)
    have z2 := hrf (k * 6 + 2)
    have z3 := hrf (k * 6 + 3)
    have z4 := hrf (k * 6 + 4)
    have z5 := hrf (k * 6 + 5)
    simp only [Nat.add_zero] at q0 z0
    clear hcl hrf
    generalize (ns.getD k default).cell 0 = w0 at q0
    generalize (ns.getD k default).cell 1 = w1 at q1
    generalize (ns.getD k default).cell 2 = w2 at q2
    generalize (ns.getD k default).cell 3 = w3 at q3
    generalize (ns.getD k default).cell 4 = w4 at q4
    generalize (ns.getD k default).cell 5 = w5 at q5
    have hqb : q ≠ W.heap.size := fun e => by rw [e] at hcur; have := hcur.symm.trans HS7.out.box; simp at this
    have hqr : q ≠ W.heap.size + 1 := fun e => by rw [e] at hcur; have := hcur.symm.trans HS7.out.res; simp at this
    have S6 := six_other Y7 q k ⟨m20 - 1, nm, sa, sb, sc, kc⟩
    have B6 := hid (HS7.out.bx.other H0.out.1 (nb := q) S6.1 S6.2 (six_os _ _ _ _) HQ.out.1 hqb hqr)
    have N6 := hid (six_row (k := k) HS7.out.row (by omega) ⟨m20 - 1, nm, sa, sb, sc, kc⟩ d ⟨by rw [S6.2]; exact heap_lt hcur, by have := HS7.out.lo; have := HQ.out.1; omega, by rw [H0.out.2.2]; have := HS7.out.lo; have := HQ.out.1; omega⟩ hrc HS7.out.sml HBm.out)
    clear S6 hcur hrc hqb hqr
    obtain ⟨Y6, hY6⟩ : ∃ Y6, six Y7 q k ⟨m20 - 1, nm, sa, sb, sc, kc⟩ = Y6 := ⟨_, rfl⟩
    rw [hY6] at B6 N6
    unfold six at hY6
    dsimp only at hY6
    have HY6 := hid hY6
    clear hY6
    go_upto_region 31 with fail
    rw [HY6.out]
    clear HY6 n0 n1 n2 n3 n4 n5 q0 q1 q2 q3 q4 q5 z0 z1 z2 z3 z4 z5
    have b0 : Y6.cell? ⟨W.heap.size, 0, none⟩ = some (.slice ad n cp) := cell_of_heap B6.out.box 0
    have b1 : Y6.cell? ⟨W.heap.size, 1, none⟩ = some (.slice adt ns.length cpt) := cell_of_heap B6.out.box 1
    have r0 : Y6.cell? ⟨W.heap.size + 1, 0, none⟩ = some (.slice none 0 0) := cell_of_heap B6.out.res 0
    have r1 : Y6.cell? ⟨W.heap.size + 1, 1, none⟩ = some (.slice none 0 0) := cell_of_heap B6.out.res 1
    have fb0 := frozen_of_heap B6.out.box 0
    have fb1 := frozen_of_heap B6.out.box 1
    have fr0 := frozen_of_heap B6.out.res 0
    have fr1 := frozen_of_heap B6.out.res 1
    have LS := hid (last_store B6.out H0.out.1 ⟨_, _, _, rfl⟩ N6.out 1 (.slice (some ⟨q, 0, none⟩) ns.length cpr) (.slice ad n cp) (.slice (some ⟨q, 0, none⟩) ns.length cpr))
    obtain ⟨Y9, hY9⟩ : ∃ Y9, Y6.setCell ⟨W.heap.size, 1, none⟩ (.slice (some ⟨q, 0, none⟩) ns.length cpr) = Y9 := ⟨_, rfl⟩
    have hx9 := set_heap (i := 1) (v := .slice (some ⟨q, 0, none⟩) ns.length cpr) B6.out.box
    have hr9 := (Below.heap_setCell Y6 ⟨W.heap.size, 1, none⟩ (.slice (some ⟨q, 0, none⟩) ns.length cpr) (W.heap.size + 1) (by show W.heap.size + 1 ≠ W.heap.size; omega)).trans B6.out.res
    rw [hY9] at LS hx9 hr9
    have x0 : Y9.cell? ⟨W.heap.size, 0, none⟩ = some (.slice ad n cp) := cell_of_heap hx9 0
    have x1 : Y9.cell? ⟨W.heap.size, 1, none⟩ = some (.slice (some ⟨q, 0, none⟩) ns.length cpr) := cell_of_heap hx9 1
    have y0 : Y9.cell? ⟨W.heap.size + 1, 0, none⟩ = some (.slice none 0 0) := cell_of_heap hr9 0
    have y1 : Y9.cell? ⟨W.heap.size + 1, 1, none⟩ = some (.slice none 0 0) := cell_of_heap hr9 1
    have z0 := frozen_of_heap hr9 0
    have z1 := frozen_of_heap hr9 1
    have HY9 := hid hY9
    clear hY9 hx9 hr9
    go_upto_region 32 with fail
    rw [HY9.out]
    clear HY9 b0 b1 r0 r1 fb0 fb1 fr0 fr1
    go_wp2_with fail
    refine bodyPost_ret (v := .agg #[.slice ad n cp, .slice (some ⟨q, 0, none⟩) ns.length cpr]) ?_ rfl ?_
    · simp [results, Try.results30, go_sem, y0, y1]
    · exact ⟨_, _, _, _, _, _, rfl, LS.out.1, by rw [List.length_set]; have := HT.out.2; omega, LS.out.2.1, by omega, LS.out.2.2, effs_cut HE.out LS.out.2.2 (by omega)⟩
  · have HSa := hid (HS4.out.below ((Below.refl _ _).alloc (Nat.le_refl _) (.cells sevenV 9)))
    have RBa := hid (MapKept.heap_alloc X3 (.cells sevenV 9)).1
    have NBa := hid (((Below.refl X3.heap.size X3).alloc (Nat.le_refl _) (.cells sevenV 9)).block nb (heap_lt NB4.out) |>.trans NB4.out)
    have hBx := hid (show X3.heap.size ≠ d.B by have := heap_lt HS4.out.rd.blk; omega)
    unfold sevenV at HSa NBa RBa
    go_wp2_with fail
    refine (rdr_pick HSa.out.rd (by have := H0.out.2.1; omega) 7 (by decide)).mono ?_
    rintro e X4 ⟨m20, rfl, hm20, hM20, hr, hg, -, ho⟩
    have HS5 := hid (HSa.out.pick hr hg ho)
    have NB5 := hid ((ho nb (by have := HNb.out; have := HSa.out.lo; omega)).trans NBa.out)
    have RB5 := hid ((ho X3.heap.size hBx.out).trans RBa.out)
    clear hr hg ho HSa NBa RBa hBx
    obtain ⟨y, hby, hy⟩ := seven_get m20 hm20 hM20
    have HBy := hid hby
    clear hby
    unfold sevenV at hy
    have cy := (cell_of_heap RB5.out m20.toNat).trans hy
    have a2 : X4.cell? ⟨nb, 2, none⟩ = some (.string sa) := cell_of_heap NB5.out 2
    have fz := frozen_of_heap NB5.out 2
    have HS7 := hid (HS5.out.set H0.out.1 nb 2 (.string y) HNb.out.1 HNb.out.2.1 HNb.out.2.2.1 HNb.out.2.2.2)
    have NB7 := hid (set_heap (i := 2) (v := .string y) NB5.out)
    obtain ⟨Y7, hY7⟩ : ∃ Y7, X4.setCell ⟨nb, 2, none⟩ (.string y) = Y7 := ⟨_, rfl⟩
    rw [hY7] at HS7 NB7
    have HY7 := hid hY7
    clear hY7
    have NB8 : Hid (Y7.heap[nb]? = some (.cells #[.int .i64 kd, .int .i64 nm, .string y, .string sb, .string sc, .int .i64 kc] 65)) := NB7.out
    go_upto_region 30 with fail
    rw [HY7.out]
    clear HY7 a2 fz NB7 cy hy
    have n0 : Y7.cell? ⟨nb, 0, none⟩ = some (.int .i64 kd) := cell_of_heap NB8.out 0
    have n1 : Y7.cell? ⟨nb, 1, none⟩ = some (.int .i64 nm) := cell_of_heap NB8.out 1
    have n2 : Y7.cell? ⟨nb, 2, none⟩ = some (.string y) := cell_of_heap NB8.out 2
    have n3 : Y7.cell? ⟨nb, 3, none⟩ = some (.string sb) := cell_of_heap NB8.out 3
    have n4 : Y7.cell? ⟨nb, 4, none⟩ = some (.string sc) := cell_of_heap NB8.out 4
    have n5 : Y7.cell? ⟨nb, 5, none⟩ = some (.int .i64 kc) := cell_of_heap NB8.out 5
    obtain ⟨q', hqa', -, -, hcl⟩ := row_at HS7.out.row (k := k) (by omega)
    simp only [Option.some.injEq, Addr.mk.injEq] at hqa'
    obtain ⟨rfl, -⟩ := hqa'
    have q0 := hcl 0 (by omega)
    have q1 := hcl 1 (by omega)
    have q2 := hcl 2 (by omega)
    have q3 := hcl 3 (by omega)
    have q4 := hcl 4 (by omega)
    have q5 := hcl 5 (by omega)
    obtain ⟨hrf, hrc, cur, hcur⟩ := row_fz HS7.out.row
    have z0 := hrf (k * 6 + 0)
    have z1 := hrf (k * 6 + 1)
    have z2 := hrf (k * 6 + 2)
    have z3 := hrf (k * 6 + 3)
    have z4 := hrf (k * 6 + 4)
    have z5 := hrf (k * 6 + 5)
    simp only [Nat.add_zero] at q0 z0
    clear hcl hrf
    generalize (ns.getD k default).cell 0 = w0 at q0
    generalize (ns.getD k default).cell 1 = w1 at q1
    generalize (ns.getD k default).cell 2 = w2 at q2
    generalize (ns.getD k default).cell 3 = w3 at q3
    generalize (ns.getD k default).cell 4 = w4 at q4
    generalize (ns.getD k default).cell 5 = w5 at q5
    have hqb : q ≠ W.heap.size := fun e => by rw [e] at hcur; have := hcur.symm.trans HS7.out.box; simp at this
    have hqr : q ≠ W.heap.size + 1 := fun e => by rw [e] at hcur; have := hcur.symm.trans HS7.out.res; simp at this
    have S6 := six_other Y7 q k ⟨kd, nm, y, sb, sc, kc⟩
    have B6 := hid (HS7.out.bx.other H0.out.1 (nb := q) S6.1 S6.2 (six_os _ _ _ _) HQ.out.1 hqb hqr)
    have N6 := hid (six_row (k := k) HS7.out.row (by omega) ⟨kd, nm, y, sb, sc, kc⟩ d ⟨by rw [S6.2]; exact heap_lt hcur, by have := HS7.out.lo; have := HQ.out.1; omega, by rw [H0.out.2.2]; have := HS7.out.lo; have := HQ.out.1; omega⟩ hrc HS7.out.sml ⟨HBy.out, HBm.out.2.1, HBm.out.2.2⟩)
    clear S6 hcur hrc hqb hqr
    obtain ⟨Y6, hY6⟩ : ∃ Y6, six Y7 q k ⟨kd, nm, y, sb, sc, kc⟩ = Y6 := ⟨_, rfl⟩
    rw [hY6] at B6 N6
    unfold six at hY6
    dsimp only at hY6
    have HY6 := hid hY6
    clear hY6
    go_upto_region 31 with fail
    rw [HY6.out]
    clear HY6 n0 n1 n2 n3 n4 n5 q0 q1 q2 q3 q4 q5 z0 z1 z2 z3 z4 z5
    have b0 : Y6.cell? ⟨W.heap.size, 0, none⟩ = some (.slice ad n cp) := cell_of_heap B6.out.box 0
    have b1 : Y6.cell? ⟨W.heap.size, 1, none⟩ = some (.slice adt ns.length cpt) := cell_of_heap B6.out.box 1
    have r0 : Y6.cell? ⟨W.heap.size + 1, 0, none⟩ = some (.slice none 0 0) := cell_of_heap B6.out.res 0
    have r1 : Y6.cell? ⟨W.heap.size + 1, 1, none⟩ = some (.slice none 0 0) := cell_of_heap B6.out.res 1
    have fb0 := frozen_of_heap B6.out.box 0
    have fb1 := frozen_of_heap B6.out.box 1
    have fr0 := frozen_of_heap B6.out.res 0
    have fr1 := frozen_of_heap B6.out.res 1
    have LS := hid (last_store B6.out H0.out.1 ⟨_, _, _, rfl⟩ N6.out 1 (.slice (some ⟨q, 0, none⟩) ns.length cpr) (.slice ad n cp) (.slice (some ⟨q, 0, none⟩) ns.length cpr))
    obtain ⟨Y9, hY9⟩ : ∃ Y9, Y6.setCell ⟨W.heap.size, 1, none⟩ (.slice (some ⟨q, 0, none⟩) ns.length cpr) = Y9 := ⟨_, rfl⟩
    have hx9 := set_heap (i := 1) (v := .slice (some ⟨q, 0, none⟩) ns.length cpr) B6.out.box
    have hr9 := (Below.heap_setCell Y6 ⟨W.heap.size, 1, none⟩ (.slice (some ⟨q, 0, none⟩) ns.length cpr) (W.heap.size + 1) (by show W.heap.size + 1 ≠ W.heap.size; omega)).trans B6.out.res
    rw [hY9] at LS hx9 hr9
    have x0 : Y9.cell? ⟨W.heap.size, 0, none⟩ = some (.slice ad n cp) := cell_of_heap hx9 0
    have x1 : Y9.cell? ⟨W.heap.size, 1, none⟩ = some (.slice (some ⟨q, 0, none⟩) ns.length cpr) := cell_of_heap hx9 1
    have y0 : Y9.cell? ⟨W.heap.size + 1, 0, none⟩ = some (.slice none 0 0) := cell_of_heap hr9 0
    have y1 : Y9.cell? ⟨W.heap.size + 1, 1, none⟩ = some (.slice none 0 0) := cell_of_heap hr9 1
    have z0 := frozen_of_heap hr9 0
    have z1 := frozen_of_heap hr9 1
    have HY9 := hid hY9
    clear hY9 hx9 hr9
    go_upto_region 32 with fail
    rw [HY9.out]
    clear HY9 b0 b1 r0 r1 fb0 fb1 fr0 fr1
    go_wp2_with fail
    refine bodyPost_ret (v := .agg #[.slice ad n cp, .slice (some ⟨q, 0, none⟩) ns.length cpr]) ?_ rfl ?_
    · simp [results, Try.results30, go_sem, y0, y1]
    · exact ⟨_, _, _, _, _, _, rfl, LS.out.1, by rw [List.length_set]; have := HT.out.2; omega, LS.out.2.1, by omega, LS.out.2.2, effs_cut HE.out LS.out.2.2 (by omega)⟩
  · have HSa := hid (HS4.out.below ((Below.refl _ _).alloc (Nat.le_refl _) (.cells fiveV 3)))
    have RBa := hid (MapKept.heap_alloc X3 (.cells fiveV 3)).1
    have NBa := hid (((Below.refl X3.heap.size X3).alloc (Nat.le_refl _) (.cells fiveV 3)).block nb (heap_lt NB4.out) |>.trans NB4.out)
    have hBx := hid (show X3.heap.size ≠ d.B by have := heap_lt HS4.out.rd.blk; omega)
    unfold fiveV at HSa NBa RBa
    go_wp2_with fail
    refine (rdr_pick HSa.out.rd (by have := H0.out.2.1; omega) 5 (by decide)).mono ?_
    rintro e X4 ⟨m20, rfl, hm20, hM20, hr, hg, -, ho⟩
    have HS5 := hid (HSa.out.pick hr hg ho)
    have NB5 := hid ((ho nb (by have := HNb.out; have := HSa.out.lo; omega)).trans NBa.out)
    have RB5 := hid ((ho X3.heap.size hBx.out).trans RBa.out)
    clear hr hg ho HSa NBa RBa hBx
    obtain ⟨y, hy⟩ := five_get m20 hm20 hM20
    unfold fiveV at hy
    have cy := (cell_of_heap RB5.out m20.toNat).trans hy
    have a1 : X4.cell? ⟨nb, 1, none⟩ = some (.int .i64 nm) := cell_of_heap NB5.out 1
    have fz := frozen_of_heap NB5.out 1
    have HS7 := hid (HS5.out.set H0.out.1 nb 1 (.int .i64 y) HNb.out.1 HNb.out.2.1 HNb.out.2.2.1 HNb.out.2.2.2)
    have NB7 := hid (set_heap (i := 1) (v := .int .i64 y) NB5.out)
    obtain ⟨Y7, hY7⟩ : ∃ Y7, X4.setCell ⟨nb, 1, none⟩ (.int .i64 y) = Y7 := ⟨_, rfl⟩
    rw [hY7] at HS7 NB7
    have HY7 := hid hY7
    clear hY7
    have NB8 : Hid (Y7.heap[nb]? = some (.cells #[.int .i64 kd, .int .i64 y, .string sa, .string sb, .string sc, .int .i64 kc] 65)) := NB7.out
    go_upto_region 30 with fail
    rw [HY7.out]
    clear HY7 a1 fz NB7 cy hy
    have n0 : Y7.cell? ⟨nb, 0, none⟩ = some (.int .i64 kd) := cell_of_heap NB8.out 0
    have n1 : Y7.cell? ⟨nb, 1, none⟩ = some (.int .i64 y) := cell_of_heap NB8.out 1
    have n2 : Y7.cell? ⟨nb, 2, none⟩ = some (.string sa) := cell_of_heap NB8.out 2
    have n3 : Y7.cell? ⟨nb, 3, none⟩ = some (.string sb) := cell_of_heap NB8.out 3
    have n4 : Y7.cell? ⟨nb, 4, none⟩ = some (.string sc) := cell_of_heap NB8.out 4
    have n5 : Y7.cell? ⟨nb, 5, none⟩ = some (.int .i64 kc) := cell_of_heap NB8.out 5
    obtain ⟨q', hqa', -, -, hcl⟩ := row_at HS7.out.row (k := k) (by omega)
    simp only [Option.some.injEq, Addr.mk.injEq] at hqa'
    obtain ⟨rfl, -⟩ := hqa'
    have q0 := hcl 0 (by omega)
    have q1 := hcl 1 (by omega)
    have q2 := hcl 2 (by omega)
    have q3 := hcl 3 (by omega)
    have q4 := hcl 4 (by omega)
    have q5 := hcl 5 (by omega)
    obtain ⟨hrf, hrc, cur, hcur⟩ := row_fz HS7.out.row
    have z0 := hrf (k * 6 + 0)
    have z1 := hrf (k * 6 + 1)
    have z2 := hrf (k * 6 + 2)
    have z3 := hrf (k * 6 + 3)
    have z4 := hrf (k * 6 + 4)
    have z5 := hrf (k * 6 + 5)
    simp only [Nat.add_zero] at q0 z0
    clear hcl hrf
    generalize (ns.getD k default).cell 0 = w0 at q0
    generalize (ns.getD k default).cell 1 = w1 at q1
    generalize (ns.getD k default).cell 2 = w2 at q2
    generalize (ns.getD k default).cell 3 = w3 at q3
    generalize (ns.getD k default).cell 4 = w4 at q4
    generalize (ns.getD k default).cell 5 = w5 at q5
    have hqb : q ≠ W.heap.size := fun e => by rw [e] at hcur; have := hcur.symm.trans HS7.out.box; simp at this
    have hqr : q ≠ W.heap.size + 1 := fun e => by rw [e] at hcur; have := hcur.symm.trans HS7.out.res; simp at this
    have S6 := six_other Y7 q k ⟨kd, y, sa, sb, sc, kc⟩
    have B6 := hid (HS7.out.bx.other H0.out.1 (nb := q) S6.1 S6.2 (six_os _ _ _ _) HQ.out.1 hqb hqr)
    have N6 := hid (six_row (k := k) HS7.out.row (by omega) ⟨kd, y, sa, sb, sc, kc⟩ d ⟨by rw [S6.2]; exact heap_lt hcur, by have := HS7.out.lo; have := HQ.out.1; omega, by rw [H0.out.2.2]; have := HS7.out.lo; have := HQ.out.1; omega⟩ hrc HS7.out.sml HBm.out)
    clear S6 hcur hrc hqb hqr
    obtain ⟨Y6, hY6⟩ : ∃ Y6, six Y7 q k ⟨kd, y, sa, sb, sc, kc⟩ = Y6 := ⟨_, rfl⟩
    rw [hY6] at B6 N6
    unfold six at hY6
    dsimp only at hY6
    have HY6 := hid hY6
    clear hY6
    go_upto_region 31 with fail
    rw [HY6.out]
    clear HY6 n0 n1 n2 n3 n4 n5 q0 q1 q2 q3 q4 q5 z0 z1 z2 z3 z4 z5
    have b0 : Y6.cell? ⟨W.heap.size, 0, none⟩ = some (.slice ad n cp) := cell_of_heap B6.out.box 0
    have b1 : Y6.cell? ⟨W.heap.size, 1, none⟩ = some (.slice adt ns.length cpt) := cell_of_heap B6.out.box 1
    have r0 : Y6.cell? ⟨W.heap.size + 1, 0, none⟩ = some (.slice none 0 0) := cell_of_heap B6.out.res 0
    have r1 : Y6.cell? ⟨W.heap.size + 1, 1, none⟩ = some (.slice none 0 0) := cell_of_heap B6.out.res 1
    have fb0 := frozen_of_heap B6.out.box 0
    have fb1 := frozen_of_heap B6.out.box 1
    have fr0 := frozen_of_heap B6.out.res 0
    have fr1 := frozen_of_heap B6.out.res 1
    have LS := hid (last_store B6.out H0.out.1 ⟨_, _, _, rfl⟩ N6.out 1 (.slice (some ⟨q, 0, none⟩) ns.length cpr) (.slice ad n cp) (.slice (some ⟨q, 0, none⟩) ns.length cpr))
    obtain ⟨Y9, hY9⟩ : ∃ Y9, Y6.setCell ⟨W.heap.size, 1, none⟩ (.slice (some ⟨q, 0, none⟩) ns.length cpr) = Y9 := ⟨_, rfl⟩
    have hx9 := set_heap (i := 1) (v := .slice (some ⟨q, 0, none⟩) ns.length cpr) B6.out.box
    have hr9 := (Below.heap_setCell Y6 ⟨W.heap.size, 1, none⟩ (.slice (some ⟨q, 0, none⟩) ns.length cpr) (W.heap.size + 1) (by show W.heap.size + 1 ≠ W.heap.size; omega)).trans B6.out.res
    rw [hY9] at LS hx9 hr9
    have x0 : Y9.cell? ⟨W.heap.size, 0, none⟩ = some (.slice ad n cp) := cell_of_heap hx9 0
    have x1 : Y9.cell? ⟨W.heap.size, 1, none⟩ = some (.slice (some ⟨q, 0, none⟩) ns.length cpr) := cell_of_heap hx9 1
    have y0 : Y9.cell? ⟨W.heap.size + 1, 0, none⟩ = some (.slice none 0 0) := cell_of_heap hr9 0
    have y1 : Y9.cell? ⟨W.heap.size + 1, 1, none⟩ = some (.slice none 0 0) := cell_of_heap hr9 1
    have z0 := frozen_of_heap hr9 0
    have z1 := frozen_of_heap hr9 1
    have HY9 := hid hY9
    clear hY9 hx9 hr9
    go_upto_region 32 with fail
    rw [HY9.out]
    clear HY9 b0 b1 r0 r1 fb0 fb1 fr0 fr1
    go_wp2_with fail
    refine bodyPost_ret (v := .agg #[.slice ad n cp, .slice (some ⟨q, 0, none⟩) ns.length cpr]) ?_ rfl ?_
    · simp [results, Try.results30, go_sem, y0, y1]
    · exact ⟨_, _, _, _, _, _, rfl, LS.out.1, by rw [List.length_set]; have := HT.out.2; omega, LS.out.2.1, by omega, LS.out.2.2, effs_cut HE.out LS.out.2.2 (by omega)⟩
  · have a5 : X3.cell? ⟨nb, 5, none⟩ = some (.int .i64 kc) := cell_of_heap NB4.out 5
    go_upto_region 12 with fail
    refine pick_begin (S := fun _ => True) (by kernel_rfl) rfl rfl ?_
    have HSd : Hid (Sp d W X3.drew _ _ _ _ _ _ _) := HS4.out.below (Below.refl _ _).drew
    have NBd : Hid (X3.drew.heap[nb]? = _) := NB4.out
    have ad5 : X3.drew.cell? ⟨nb, 5, none⟩ = some (.int .i64 kc) := a5
    clear a5
    generalize X3.drew = X5 at *
    refine pick_op (i := 0) (v := .pointer (some ⟨nb, 5, none⟩)) (by kernel_rfl) rfl (by kernel_rfl) (by kernel_rfl) rfl rfl (fun w' _ => by simp [go_sem]) trivial (by simp [go_sem]; exact rfl) ?_
    refine pick_op (i := 2) (v := .pointer (some ⟨d.B, 0, none⟩)) (by kernel_rfl) rfl (by kernel_rfl) (by kernel_rfl) rfl rfl (fun w' _ => by simp [go_sem]) trivial (by simp [go_sem]; exact rfl) ?_
    refine pick_either (i := 1) (j := 3) (by kernel_rfl) ?_ ?_
    · refine ⟨_, .int .i64 kc, X5, rfl, rfl, by simp [go_sem, ad5], trivial, ?_⟩
      refine pick_frame (by simp [go_sem]; exact rfl) ?_
      refine pick_enter (i := 3) (f := 13) (args := #[.pointer (some ⟨d.B, 0, none⟩), .int .i64 3]) rfl (by kernel_rfl) rfl rfl (by simp [go_sem]) ?_
      refine (rdr_pick HSd.out.rd (by have := H0.out.2.1; omega) 3 (by first | decide | omega)).mono ?_
      rintro e X4 ⟨m20, rfl, hm20, hM20, hr, hg, -, ho⟩
      have HS5 := hid (HSd.out.pick hr hg ho)
      have NB5 := hid ((ho nb (by have := HNb.out; have := HSd.out.lo; omega)).trans NBd.out)
      clear hr hg ho
      have a5 : X4.cell? ⟨nb, 5, none⟩ = some (.int .i64 kc) := cell_of_heap NB5.out 5
      refine ⟨_, rfl, trivial, ?_⟩
      refine pick_frame (by simp [go_sem]; exact rfl) ?_
      refine pick_op (i := 4) (v := .int .i64 (IntKind.i64.wrap (kc + m20))) (by kernel_rfl) rfl (by kernel_rfl) (by kernel_rfl) rfl rfl (fun w' _ => by simp [go_sem]) trivial (by simp [go_sem]; exact rfl) ?_
      refine pick_op (i := 5) (v := .int .i64 (IntKind.i64.wrap (IntKind.i64.wrap (kc + m20) - 1))) (by kernel_rfl) rfl (by kernel_rfl) (by kernel_rfl) rfl rfl (fun w' _ => by simp [go_sem]) trivial (by simp [go_sem]; exact rfl) ?_
      refine pick_op (i := 6) (v := .pointer (some ⟨nb, 5, none⟩)) (by kernel_rfl) rfl (by kernel_rfl) (by kernel_rfl) rfl rfl (fun w' _ => by simp [go_sem]) trivial (by simp [go_sem]; exact rfl) ?_
      generalize IntKind.i64.wrap (IntKind.i64.wrap (kc + m20) - 1) = kc' at *
      have fz := frozen_of_heap NB5.out 5
      have HS7 := hid (HS5.out.set H0.out.1 nb 5 (.int .i64 kc') HNb.out.1 HNb.out.2.1 HNb.out.2.2.1 HNb.out.2.2.2)
      have NB7 := hid (set_heap (i := 5) (v := .int .i64 kc') NB5.out)
      obtain ⟨Y7, hY7⟩ : ∃ Y7, X4.setCell ⟨nb, 5, none⟩ (.int .i64 kc') = Y7 := ⟨_, rfl⟩
      rw [hY7] at HS7 NB7
      have HY7 := hid hY7
      clear hY7
      have NB8 : Hid (Y7.heap[nb]? = some (.cells #[.int .i64 kd, .int .i64 nm, .string sa, .string sb, .string sc, .int .i64 kc'] 65)) := NB7.out
      refine pick_skip (i := 7) (w1 := Y7) rfl rfl (by kernel_rfl) rfl rfl (by rw [← HY7.out]; simp [go_sem, a5, fz]) trivial ?_
      refine pick_end (by kernel_rfl) ?_
      go_upto_region 30 with fail
      clear HY7 a5 fz NB7
      have n0 : Y7.cell? ⟨nb, 0, none⟩ = some (.int .i64 kd) := cell_of_heap NB8.out 0
      have n1 : Y7.cell? ⟨nb, 1, none⟩ = some (.int .i64 nm) := cell_of_heap NB8.out 1
      have n2 : Y7.cell? ⟨nb, 2, none⟩ = some (.string sa) := cell_of_heap NB8.out 2
      have n3 : Y7.cell? ⟨nb, 3, none⟩ = some (.string sb) := cell_of_heap NB8.out 3
      have n4 : Y7.cell? ⟨nb, 4, none⟩ = some (.string sc) := cell_of_heap NB8.out 4
      have n5 : Y7.cell? ⟨nb, 5, none⟩ = some (.int .i64 kc') := cell_of_heap NB8.out 5
      obtain ⟨q', hqa', -, -, hcl⟩ := row_at HS7.out.row (k := k) (by omega)
      simp only [Option.some.injEq, Addr.mk.injEq] at hqa'
      obtain ⟨rfl, -⟩ := hqa'
      have q0 := hcl 0 (by omega)
      have q1 := hcl 1 (by omega)
      have q2 := hcl 2 (by omega)
      have q3 := hcl 3 (by omega)
      have q4 := hcl 4 (by omega)
      have q5 := hcl 5 (by omega)
      obtain ⟨hrf, hrc, cur, hcur⟩ := row_fz HS7.out.row
      have z0 := hrf (k * 6 + 0)
      have z1 := hrf (k * 6 + 1)
      have z2 := hrf (k * 6 + 2)
      have z3 := hrf (k * 6 + 3)
      have z4 := hrf (k * 6 + 4)
      have z5 := hrf (k * 6 + 5)
      simp only [Nat.add_zero] at q0 z0
      clear hcl hrf
      generalize (ns.getD k default).cell 0 = w0 at q0
      generalize (ns.getD k default).cell 1 = w1 at q1
      generalize (ns.getD k default).cell 2 = w2 at q2
      generalize (ns.getD k default).cell 3 = w3 at q3
      generalize (ns.getD k default).cell 4 = w4 at q4
      generalize (ns.getD k default).cell 5 = w5 at q5
      have hqb : q ≠ W.heap.size := fun e => by rw [e] at hcur; have := hcur.symm.trans HS7.out.box; simp at this
      have hqr : q ≠ W.heap.size + 1 := fun e => by rw [e] at hcur; have := hcur.symm.trans HS7.out.res; simp at this
      have S6 := six_other Y7 q k ⟨kd, nm, sa, sb, sc, kc'⟩
      have B6 := hid (HS7.out.bx.other H0.out.1 (nb := q) S6.1 S6.2 (six_os _ _ _ _) HQ.out.1 hqb hqr)
      have N6 := hid (six_row (k := k) HS7.out.row (by omega) ⟨kd, nm, sa, sb, sc, kc'⟩ d ⟨by rw [S6.2]; exact heap_lt hcur, by have := HS7.out.lo; have := HQ.out.1; omega, by rw [H0.out.2.2]; have := HS7.out.lo; have := HQ.out.1; omega⟩ hrc HS7.out.sml HBm.out)
      clear S6 hcur hrc hqb hqr
      obtain ⟨Y6, hY6⟩ : ∃ Y6, six Y7 q k ⟨kd, nm, sa, sb, sc, kc'⟩ = Y6 := ⟨_, rfl⟩
      rw [hY6] at B6 N6
      unfold six at hY6
      dsimp only at hY6
      have HY6 := hid hY6
      clear hY6
      go_upto_region 31 with fail
      rw [HY6.out]
      clear HY6 n0 n1 n2 n3 n4 n5 q0 q1 q2 q3 q4 q5 z0 z1 z2 z3 z4 z5
      have b0 : Y6.cell? ⟨W.heap.size, 0, none⟩ = some (.slice ad n cp) := cell_of_heap B6.out.box 0
      have b1 : Y6.cell? ⟨W.heap.size, 1, none⟩ = some (.slice adt ns.length cpt) := cell_of_heap B6.out.box 1
      have r0 : Y6.cell? ⟨W.heap.size + 1, 0, none⟩ = some (.slice none 0 0) := cell_of_heap B6.out.res 0
      have r1 : Y6.cell? ⟨W.heap.size + 1, 1, none⟩ = some (.slice none 0 0) := cell_of_heap B6.out.res 1
      have fb0 := frozen_of_heap B6.out.box 0
      have fb1 := frozen_of_heap B6.out.box 1
      have fr0 := frozen_of_heap B6.out.res 0
      have fr1 := frozen_of_heap B6.out.res 1
      have LS := hid (last_store B6.out H0.out.1 ⟨_, _, _, rfl⟩ N6.out 1 (.slice (some ⟨q, 0, none⟩) ns.length cpr) (.slice ad n cp) (.slice (some ⟨q, 0, none⟩) ns.length cpr))
      obtain ⟨Y9, hY9⟩ : ∃ Y9, Y6.setCell ⟨W.heap.size, 1, none⟩ (.slice (some ⟨q, 0, none⟩) ns.length cpr) = Y9 := ⟨_, rfl⟩
      have hx9 := set_heap (i := 1) (v := .slice (some ⟨q, 0, none⟩) ns.length cpr) B6.out.box
      have hr9 := (Below.heap_setCell Y6 ⟨W.heap.size, 1, none⟩ (.slice (some ⟨q, 0, none⟩) ns.length cpr) (W.heap.size + 1) (by show W.heap.size + 1 ≠ W.heap.size; omega)).trans B6.out.res
      rw [hY9] at LS hx9 hr9
      have x0 : Y9.cell? ⟨W.heap.size, 0, none⟩ = some (.slice ad n cp) := cell_of_heap hx9 0
      have x1 : Y9.cell? ⟨W.heap.size, 1, none⟩ = some (.slice (some ⟨q, 0, none⟩) ns.length cpr) := cell_of_heap hx9 1
      have y0 : Y9.cell? ⟨W.heap.size + 1, 0, none⟩ = some (.slice none 0 0) := cell_of_heap hr9 0
      have y1 : Y9.cell? ⟨W.heap.size + 1, 1, none⟩ = some (.slice none 0 0) := cell_of_heap hr9 1
      have z0 := frozen_of_heap hr9 0
      have z1 := frozen_of_heap hr9 1
      have HY9 := hid hY9
      clear hY9 hx9 hr9
      go_upto_region 32 with fail
      rw [HY9.out]
      clear HY9 b0 b1 r0 r1 fb0 fb1 fr0 fr1
      go_wp2_with fail
      refine bodyPost_ret (v := .agg #[.slice ad n cp, .slice (some ⟨q, 0, none⟩) ns.length cpr]) ?_ rfl ?_
      · simp [results, Try.results30, go_sem, y0, y1]
      · exact ⟨_, _, _, _, _, _, rfl, LS.out.1, by rw [List.length_set]; have := HT.out.2; omega, LS.out.2.1, by omega, LS.out.2.2, effs_cut HE.out LS.out.2.2 (by omega)⟩
    · refine ⟨_, 13, #[.pointer (some ⟨d.B, 0, none⟩), .int .i64 3], rfl, rfl, by simp [go_sem], ?_⟩
      refine (rdr_pick HSd.out.rd (by have := H0.out.2.1; omega) 3 (by first | decide | omega)).mono ?_
      rintro e X4 ⟨m20, rfl, hm20, hM20, hr, hg, -, ho⟩
      have HS5 := hid (HSd.out.pick hr hg ho)
      have NB5 := hid ((ho nb (by have := HNb.out; have := HSd.out.lo; omega)).trans NBd.out)
      clear hr hg ho
      have a5 : X4.cell? ⟨nb, 5, none⟩ = some (.int .i64 kc) := cell_of_heap NB5.out 5
      refine ⟨_, rfl, trivial, ?_⟩
      refine pick_frame (by simp [go_sem]; exact rfl) ?_
      refine pick_make (i := 1) (v := .int .i64 kc) (w1 := X4) rfl (by kernel_rfl) rfl rfl (by simp [go_sem, a5]) trivial (by simp [go_sem]; exact rfl) ?_
      refine pick_op (i := 4) (v := .int .i64 (IntKind.i64.wrap (kc + m20))) (by kernel_rfl) rfl (by kernel_rfl) (by kernel_rfl) rfl rfl (fun w' _ => by simp [go_sem]) trivial (by simp [go_sem]; exact rfl) ?_
      refine pick_op (i := 5) (v := .int .i64 (IntKind.i64.wrap (IntKind.i64.wrap (kc + m20) - 1))) (by kernel_rfl) rfl (by kernel_rfl) (by kernel_rfl) rfl rfl (fun w' _ => by simp [go_sem]) trivial (by simp [go_sem]; exact rfl) ?_
      refine pick_op (i := 6) (v := .pointer (some ⟨nb, 5, none⟩)) (by kernel_rfl) rfl (by kernel_rfl) (by kernel_rfl) rfl rfl (fun w' _ => by simp [go_sem]) trivial (by simp [go_sem]; exact rfl) ?_
      generalize IntKind.i64.wrap (IntKind.i64.wrap (kc + m20) - 1) = kc' at *
      have fz := frozen_of_heap NB5.out 5
      have HS7 := hid (HS5.out.set H0.out.1 nb 5 (.int .i64 kc') HNb.out.1 HNb.out.2.1 HNb.out.2.2.1 HNb.out.2.2.2)
      have NB7 := hid (set_heap (i := 5) (v := .int .i64 kc') NB5.out)
      obtain ⟨Y7, hY7⟩ : ∃ Y7, X4.setCell ⟨nb, 5, none⟩ (.int .i64 kc') = Y7 := ⟨_, rfl⟩
      rw [hY7] at HS7 NB7
      have HY7 := hid hY7
      clear hY7
      have NB8 : Hid (Y7.heap[nb]? = some (.cells #[.int .i64 kd, .int .i64 nm, .string sa, .string sb, .string sc, .int .i64 kc'] 65)) := NB7.out
      refine pick_skip (i := 7) (w1 := Y7) rfl rfl (by kernel_rfl) rfl rfl (by rw [← HY7.out]; simp [go_sem, a5, fz]) trivial ?_
      refine pick_end (by kernel_rfl) ?_
      go_upto_region 30 with fail
      clear HY7 a5 fz NB7
      have n0 : Y7.cell? ⟨nb, 0, none⟩ = some (.int .i64 kd) := cell_of_heap NB8.out 0
      have n1 : Y7.cell? ⟨nb, 1, none⟩ = some (.int .i64 nm) := cell_of_heap NB8.out 1
      have n2 : Y7.cell? ⟨nb, 2, none⟩ = some (.string sa) := cell_of_heap NB8.out 2
      have n3 : Y7.cell? ⟨nb, 3, none⟩ = some (.string sb) := cell_of_heap NB8.out 3
      have n4 : Y7.cell? ⟨nb, 4, none⟩ = some (.string sc) := cell_of_heap NB8.out 4
      have n5 : Y7.cell? ⟨nb, 5, none⟩ = some (.int .i64 kc') := cell_of_heap NB8.out 5
      obtain ⟨q', hqa', -, -, hcl⟩ := row_at HS7.out.row (k := k) (by omega)
      simp only [Option.some.injEq, Addr.mk.injEq] at hqa'
      obtain ⟨rfl, -⟩ := hqa'
      have q0 := hcl 0 (by omega)
      have q1 := hcl 1 (by omega)
      have q2 := hcl 2 (by omega)
      have q3 := hcl 3 (by omega)
      have q4 := hcl 4 (by omega)
      have q5 := hcl 5 (by omega)
      obtain ⟨hrf, hrc, cur, hcur⟩ := row_fz HS7.out.row
      have z0 := hrf (k * 6 + 0)
      have z1 := hrf (k * 6 + 1)
      have z2 := hrf (k * 6 + 2)
      have z3 := hrf (k * 6 + 3)
      have z4 := hrf (k * 6 + 4)
      have z5 := hrf (k * 6 + 5)
      simp only [Nat.add_zero] at q0 z0
      clear hcl hrf
      generalize (ns.getD k default).cell 0 = w0 at q0
      generalize (ns.getD k default).cell 1 = w1 at q1
      generalize (ns.getD k default).cell 2 = w2 at q2
      generalize (ns.getD k default).cell 3 = w3 at q3
      generalize (ns.getD k default).cell 4 = w4 at q4
      generalize (ns.getD k default).cell 5 = w5 at q5
      have hqb : q ≠ W.heap.size := fun e => by rw [e] at hcur; have := hcur.symm.trans HS7.out.box; simp at this
      have hqr : q ≠ W.heap.size + 1 := fun e => by rw [e] at hcur; have := hcur.symm.trans HS7.out.res; simp at this
      have S6 := six_other Y7 q k ⟨kd, nm, sa, sb, sc, kc'⟩
      have B6 := hid (HS7.out.bx.other H0.out.1 (nb := q) S6.1 S6.2 (six_os _ _ _ _) HQ.out.1 hqb hqr)
      have N6 := hid (six_row (k := k) HS7.out.row (by omega) ⟨kd, nm, sa, sb, sc, kc'⟩ d ⟨by rw [S6.2]; exact heap_lt hcur, by have := HS7.out.lo; have := HQ.out.1; omega, by rw [H0.out.2.2]; have := HS7.out.lo; have := HQ.out.1; omega⟩ hrc HS7.out.sml HBm.out)
      clear S6 hcur hrc hqb hqr
      obtain ⟨Y6, hY6⟩ : ∃ Y6, six Y7 q k ⟨kd, nm, sa, sb, sc, kc'⟩ = Y6 := ⟨_, rfl⟩
      rw [hY6] at B6 N6
      unfold six at hY6
      dsimp only at hY6
      have HY6 := hid hY6
      clear hY6
      go_upto_region 31 with fail
      rw [HY6.out]
      clear HY6 n0 n1 n2 n3 n4 n5 q0 q1 q2 q3 q4 q5 z0 z1 z2 z3 z4 z5
      have b0 : Y6.cell? ⟨W.heap.size, 0, none⟩ = some (.slice ad n cp) := cell_of_heap B6.out.box 0
      have b1 : Y6.cell? ⟨W.heap.size, 1, none⟩ = some (.slice adt ns.length cpt) := cell_of_heap B6.out.box 1
      have r0 : Y6.cell? ⟨W.heap.size + 1, 0, none⟩ = some (.slice none 0 0) := cell_of_heap B6.out.res 0
      have r1 : Y6.cell? ⟨W.heap.size + 1, 1, none⟩ = some (.slice none 0 0) := cell_of_heap B6.out.res 1
      have fb0 := frozen_of_heap B6.out.box 0
      have fb1 := frozen_of_heap B6.out.box 1
      have fr0 := frozen_of_heap B6.out.res 0
      have fr1 := frozen_of_heap B6.out.res 1
      have LS := hid (last_store B6.out H0.out.1 ⟨_, _, _, rfl⟩ N6.out 1 (.slice (some ⟨q, 0, none⟩) ns.length cpr) (.slice ad n cp) (.slice (some ⟨q, 0, none⟩) ns.length cpr))
      obtain ⟨Y9, hY9⟩ : ∃ Y9, Y6.setCell ⟨W.heap.size, 1, none⟩ (.slice (some ⟨q, 0, none⟩) ns.length cpr) = Y9 := ⟨_, rfl⟩
      have hx9 := set_heap (i := 1) (v := .slice (some ⟨q, 0, none⟩) ns.length cpr) B6.out.box
      have hr9 := (Below.heap_setCell Y6 ⟨W.heap.size, 1, none⟩ (.slice (some ⟨q, 0, none⟩) ns.length cpr) (W.heap.size + 1) (by show W.heap.size + 1 ≠ W.heap.size; omega)).trans B6.out.res
      rw [hY9] at LS hx9 hr9
      have x0 : Y9.cell? ⟨W.heap.size, 0, none⟩ = some (.slice ad n cp) := cell_of_heap hx9 0
      have x1 : Y9.cell? ⟨W.heap.size, 1, none⟩ = some (.slice (some ⟨q, 0, none⟩) ns.length cpr) := cell_of_heap hx9 1
      have y0 : Y9.cell? ⟨W.heap.size + 1, 0, none⟩ = some (.slice none 0 0) := cell_of_heap hr9 0
      have y1 : Y9.cell? ⟨W.heap.size + 1, 1, none⟩ = some (.slice none 0 0) := cell_of_heap hr9 1
      have z0 := frozen_of_heap hr9 0
      have z1 := frozen_of_heap hr9 1
      have HY9 := hid hY9
      clear hY9 hx9 hr9
      go_upto_region 32 with fail
      rw [HY9.out]
      clear HY9 b0 b1 r0 r1 fb0 fb1 fr0 fr1
      go_wp2_with fail
      refine bodyPost_ret (v := .agg #[.slice ad n cp, .slice (some ⟨q, 0, none⟩) ns.length cpr]) ?_ rfl ?_
      · simp [results, Try.results30, go_sem, y0, y1]
      · exact ⟨_, _, _, _, _, _, rfl, LS.out.1, by rw [List.length_set]; have := HT.out.2; omega, LS.out.2.1, by omega, LS.out.2.2, effs_cut HE.out LS.out.2.2 (by omega)⟩
  · obtain ⟨tn, tk, te1, te2, te3, -⟩ := HT.out.1
    obtain ⟨e1, he1, hke, hel⟩ := end_in te1 te2 te3 (p := k) (by omega)
    have HTr := hid (And.intro te1 (And.intro te2 te3))
    have HNA := hid (nodes_at HS4.out.row (by omega))
    have HE1 := hid (And.intro hke hel)
    clear te1 te2 te3 hke hel
    have HC1 := hid (specEnd_calls q 0 cpr ns (k : Int) X3 HNA.out (by have := HT.out.2; omega))
    rw [he1] at HC1
    clear he1
    go_wp2_with fail
    refine HC1.out.mono ?_
    rintro e W9 ⟨rfl, rfl⟩
    clear HC1
    go_wp2_with fail
    refine (rdr_pick HS4.out.rd (by have := H0.out.2.1; omega) (ns.length : Int) (by first | decide | omega)).mono ?_
    rintro e X4 ⟨m20, rfl, hm20, hM20, hr, hg, -, ho⟩
    have HS5 := hid (HS4.out.pick hr hg ho)
    clear hr hg ho
    obtain ⟨j, rfl⟩ : ∃ j : Nat, m20 = (j : Int) := ⟨m20.toNat, by omega⟩
    obtain ⟨f1, hf1, hjf, hfl⟩ := end_in HTr.out.1 HTr.out.2.1 HTr.out.2.2 (p := j) (by omega)
    have HNB := hid (nodes_at HS5.out.row (by omega))
    have HC2 := hid (specEnd_calls q 0 cpr ns (j : Int) X4 HNB.out (by have := HT.out.2; omega))
    rw [hf1] at HC2
    clear hf1
    go_wp2_with fail
    refine HC2.out.mono ?_
    rintro e W9 ⟨rfl, rfl⟩
    clear HC2
    obtain ⟨-, hrc, -, -⟩ := row_fz HS5.out.row
    have hkc : (k : Int) ≤ (cpr : Int) := by omega
    have hjf' : (j : Int) ≤ (f1 : Int) := by omega
    have hfc : (f1 : Int) ≤ (cpr : Int) := by omega
    have hel' : (e1 : Int) ≤ (ns.length : Int) := by have := HE1.out; omega
    have he0 : (0 : Int) ≤ (e1 : Int) := by omega
    have hj0 : (0 : Int) ≤ (j : Int) := by omega
    go_upto_region 18 with fail
    refine pick_begin (S := fun _ => True) (by kernel_rfl) rfl rfl ?_
    have HSd : Hid (Sp d W X4.drew _ _ _ _ _ _ _) := HS5.out.below (Below.refl _ _).drew
    generalize X4.drew = X5 at *
    have hk9 : ¬ cpr < k := by omega
    have hf9 : f1 ≤ cpr := by omega
    have hj9 : j ≤ f1 := by omega
    have hc9 : ¬ cpr = j := by omega
    have he9 : e1 ≤ ns.length := by omega
    obtain ⟨o3, ho3, hO3⟩ : ∃ o3, (if cpr = e1 then some (⟨q, 0, none⟩ : Addr) else some ⟨q, e1 * 6, none⟩) = some ⟨q, o3, none⟩ ∧ (ns.drop e1 = [] ∨ o3 = e1 * 6) := by
      by_cases h : cpr = e1
      · exact ⟨0, by rw [if_pos h], Or.inl (List.drop_eq_nil_of_le (by omega))⟩
      · exact ⟨e1 * 6, by rw [if_neg h], Or.inr rfl⟩
    have HO3 := hid hO3
    clear hO3
    refine pick_op (i := 1) (v := .slice (some ⟨q, 0, none⟩) ns.length cpr) (by kernel_rfl) rfl (by kernel_rfl) (by kernel_rfl) rfl rfl (fun w' _ => by simp [go_sem]) trivial (by simp [go_sem]; exact rfl) ?_
    refine pick_op (i := 2) (v := .int .i64 (k : Int)) (by kernel_rfl) rfl (by kernel_rfl) (by kernel_rfl) rfl rfl (fun w' _ => by simp [go_sem]) trivial (by simp [go_sem]; exact rfl) ?_
    refine pick_op (i := 3) (v := .slice (some ⟨q, 0, none⟩) k cpr) (by kernel_rfl) rfl (by kernel_rfl) (by kernel_rfl) rfl rfl (fun w' _ => by simp [go_sem, Try.underlying43, hk9]) trivial (by simp [go_sem]; exact rfl) ?_
    refine pick_op (i := 5) (v := .slice (some ⟨q, 0, none⟩) ns.length cpr) (by kernel_rfl) rfl (by kernel_rfl) (by kernel_rfl) rfl rfl (fun w' _ => by simp [go_sem]) trivial (by simp [go_sem]; exact rfl) ?_
    refine pick_op (i := 6) (v := .int .i64 (j : Int)) (by kernel_rfl) rfl (by kernel_rfl) (by kernel_rfl) rfl rfl (fun w' _ => by simp [go_sem]) trivial (by simp [go_sem]; exact rfl) ?_
    refine pick_op (i := 7) (v := .int .i64 (f1 : Int)) (by kernel_rfl) rfl (by kernel_rfl) (by kernel_rfl) rfl rfl (fun w' _ => by simp [go_sem]) trivial (by simp [go_sem]; exact rfl) ?_
    refine pick_op (i := 8) (v := .slice (some ⟨q, j * 6, none⟩) (f1 - j) (cpr - j)) (by kernel_rfl) rfl (by kernel_rfl) (by kernel_rfl) rfl rfl (fun w' _ => by simp [go_sem, Try.underlying43, hf9, hj9, hc9]) trivial (by simp [go_sem]; exact rfl) ?_
    refine pick_op (i := 10) (v := .slice (some ⟨q, 0, none⟩) ns.length cpr) (by kernel_rfl) rfl (by kernel_rfl) (by kernel_rfl) rfl rfl (fun w' _ => by simp [go_sem]) trivial (by simp [go_sem]; exact rfl) ?_
    refine pick_op (i := 11) (v := .int .i64 (e1 : Int)) (by kernel_rfl) rfl (by kernel_rfl) (by kernel_rfl) rfl rfl (fun w' _ => by simp [go_sem]) trivial (by simp [go_sem]; exact rfl) ?_
    refine pick_op (i := 12) (v := .slice (some ⟨q, o3, none⟩) (ns.length - e1) (cpr - e1)) (by kernel_rfl) rfl (by kernel_rfl) (by kernel_rfl) rfl rfl (fun w' _ => by simp [go_sem, Try.underlying43, he9, ho3]) trivial (by simp [go_sem]; exact rfl) ?_
    have hl2 : ((ns.drop j).take (f1 - j)).length = f1 - j := by rw [List.length_take, List.length_drop]; omega
    have hl3 : (ns.drop e1).length = ns.length - e1 := List.length_drop
    have hl1 : (ns.take k).length = k := by rw [List.length_take]; omega
    have HLn := hid (And.intro hl1 (And.intro hl2 hl3))
    clear hl1 hl2 hl3 hk9 hf9 hj9 hc9 he9 ho3 hrc hkc hjf' hfc hel' he0
    have OW0 := hid (made_at (X := X5) (B := X5.heap.size) rfl (Nat.le_refl _))
    have BL0 : Hid (Below X5.heap.size X5 (X5.alloc (.cells #[] 65))) := (Below.refl _ _).alloc (Nat.le_refl _) _
    refine pick_make (i := 0) (v := .slice (some ⟨X5.heap.size, 0, none⟩) 0 0) (w1 := X5.alloc (.cells #[] 65)) rfl (by kernel_rfl) rfl rfl (by simp [go_sem]) trivial (by simp [go_sem]; exact rfl) ?_
    generalize X5.alloc (.cells #[] 65) = Y0 at *
    have HNs := hid (fun (Y : World) (hb : Below X5.heap.size X5 Y) => (nodes_at (HSd.out.below hb).row (by omega)))
    obtain ⟨v1, Y1, hrun, hown, hgr⟩ := app_off (b := q) (off := 0) (cap := cpr) OW0.out (m := (ns.take k)) (by have h := nodes_part (k := 0) (l := ns.take k) (r := ns.drop k) (HNs.out Y0 BL0.out) (by rw [List.drop_zero, List.take_append_drop]); rwa [Nat.zero_mul] at h) (parts1 HT.out.2.2) BL0.out.size 43
    have OW1 := hid hown
    have BL1 : Hid (Below X5.heap.size X5 Y1) := BL0.out.grown hgr BL0.out.size (fun g hg => (OW0.out.lt g hg).1)
    rw [HLn.out.1] at hrun
    obtain ⟨ad71, cp71, hv1⟩ := g_is hown
    obtain ⟨l71, hl71⟩ : ∃ l, (([] : List Nd) ++ (ns.take k)).length = l := ⟨_, rfl⟩
    rw [hl71] at hv1
    subst hv1
    clear hown hgr hl71
    refine pick_make (i := 4) (v := .slice ad71 l71 cp71) (w1 := Y1) rfl (by kernel_rfl) rfl rfl (append_runN (s := .tmp 69) (x := .tmp 72) (t := 43) rfl rfl rfl hrun) trivial (by simp [go_sem]; exact rfl) ?_
    clear hrun
    obtain ⟨v2, Y2, hrun, hown, hgr⟩ := app_off (b := q) (off := (j * 6)) (cap := (cpr - j)) OW1.out (m := ((ns.drop j).take (f1 - j))) (nodes_part (r := (ns.drop j).drop (f1 - j)) (HNs.out Y1 BL1.out) (by rw [List.take_append_drop])) (parts2 HT.out.2.2) BL1.out.size 43
    have OW2 := hid hown
    have BL2 : Hid (Below X5.heap.size X5 Y2) := BL1.out.grown hgr BL1.out.size (fun g hg => (OW1.out.lt g hg).1)
    rw [HLn.out.2.1] at hrun
    obtain ⟨ad72, cp72, hv2⟩ := g_is hown
    obtain ⟨l72, hl72⟩ : ∃ l, ((([] : List Nd) ++ (ns.take k)) ++ ((ns.drop j).take (f1 - j))).length = l := ⟨_, rfl⟩
    rw [hl72] at hv2
    subst hv2
    clear hown hgr hl72
    refine pick_make (i := 9) (v := .slice ad72 l72 cp72) (w1 := Y2) rfl (by kernel_rfl) rfl rfl (append_runN (s := .tmp 73) (x := .tmp 77) (t := 43) rfl rfl rfl hrun) trivial (by simp [go_sem]; exact rfl) ?_
    clear hrun
    obtain ⟨v3, Y3, hrun, hown, hgr⟩ := app_off (b := q) (off := o3) (cap := (cpr - e1)) OW2.out (m := (ns.drop e1)) (last_part HO3.out (HNs.out Y2 BL2.out)) (parts3 HT.out.2.2) BL2.out.size 43
    have OW3 := hid hown
    have BL3 : Hid (Below X5.heap.size X5 Y3) := BL2.out.grown hgr BL2.out.size (fun g hg => (OW2.out.lt g hg).1)
    rw [HLn.out.2.2] at hrun
    obtain ⟨ad73, cp73, hv3⟩ := g_is hown
    obtain ⟨l73, hl73⟩ : ∃ l, (((([] : List Nd) ++ (ns.take k)) ++ ((ns.drop j).take (f1 - j))) ++ (ns.drop e1)).length = l := ⟨_, rfl⟩
    rw [hl73] at hv3
    subst hv3
    clear hown hgr hl73
    refine pick_make (i := 13) (v := .slice ad73 l73 cp73) (w1 := Y3) rfl (by kernel_rfl) rfl rfl (append_runN (s := .tmp 78) (x := .tmp 81) (t := 43) rfl rfl rfl hrun) trivial (by simp [go_sem]; exact rfl) ?_
    clear hrun
    have HSz := hid (HSd.out.below BL3.out)
    have BX := hid HSz.out.bx
    have NT : Hid (NodesD d Y3 (.slice ad73 l73 cp73) (((([] : List Nd) ++ (ns.take k)) ++ ((ns.drop j).take (f1 - j))) ++ (ns.drop e1))) := ⟨lies_owns (f := Nd.cell) (by decide) OW3.out (by have := HSd.out.lo; have := HSd.out.gr.size; omega) (by rw [H0.out.2.2]; have := HSd.out.lo; have := HSd.out.gr.size; omega), parts_brief HSd.out.sml⟩
    have b0 : Y3.cell? ⟨W.heap.size, 0, none⟩ = some (.slice ad n cp) := cell_of_heap BX.out.box 0
    have b1 : Y3.cell? ⟨W.heap.size, 1, none⟩ = some (.slice adt ns.length cpt) := cell_of_heap BX.out.box 1
    have r0 : Y3.cell? ⟨W.heap.size + 1, 0, none⟩ = some (.slice none 0 0) := cell_of_heap BX.out.res 0
    have r1 : Y3.cell? ⟨W.heap.size + 1, 1, none⟩ = some (.slice none 0 0) := cell_of_heap BX.out.res 1
    have fb0 := frozen_of_heap BX.out.box 0
    have fb1 := frozen_of_heap BX.out.box 1
    have fr0 := frozen_of_heap BX.out.res 0
    have fr1 := frozen_of_heap BX.out.res 1
    have LS := hid (last_store BX.out H0.out.1 ⟨_, _, _, rfl⟩ NT.out 1 (.slice ad73 l73 cp73) (.slice ad n cp) (.slice ad73 l73 cp73))
    obtain ⟨Y9, hY9⟩ : ∃ Y9, Y3.setCell ⟨W.heap.size, 1, none⟩ (.slice ad73 l73 cp73) = Y9 := ⟨_, rfl⟩
    have hx9 := set_heap (i := 1) (v := .slice ad73 l73 cp73) BX.out.box
    have hr9 := (Below.heap_setCell Y3 ⟨W.heap.size, 1, none⟩ (.slice ad73 l73 cp73) (W.heap.size + 1) (by show W.heap.size + 1 ≠ W.heap.size; omega)).trans BX.out.res
    rw [hY9] at LS hx9 hr9
    have x0 : Y9.cell? ⟨W.heap.size, 0, none⟩ = some (.slice ad n cp) := cell_of_heap hx9 0
    have x1 : Y9.cell? ⟨W.heap.size, 1, none⟩ = some (.slice ad73 l73 cp73) := cell_of_heap hx9 1
    have y0 : Y9.cell? ⟨W.heap.size + 1, 0, none⟩ = some (.slice none 0 0) := cell_of_heap hr9 0
    have y1 : Y9.cell? ⟨W.heap.size + 1, 1, none⟩ = some (.slice none 0 0) := cell_of_heap hr9 1
    have z0 := frozen_of_heap hr9 0
    have z1 := frozen_of_heap hr9 1
    have HY9 := hid hY9
    clear hY9 hx9 hr9
    refine pick_op (i := 14) (v := .pointer (some ⟨W.heap.size, 1, none⟩)) (by kernel_rfl) rfl (by kernel_rfl) (by kernel_rfl) rfl rfl (fun w' _ => by simp [go_sem]) trivial (by simp [go_sem]; exact rfl) ?_
    refine pick_skip (i := 15) (w1 := Y9) rfl rfl (by kernel_rfl) rfl rfl (by rw [← HY9.out]; simp [go_sem, b1, fb1]) trivial ?_
    refine pick_end (by kernel_rfl) ?_
    clear HY9 b0 b1 r0 r1 fb0 fb1 fr0 fr1
    go_wp2_with fail
    refine bodyPost_ret (v := .agg #[.slice ad n cp, .slice ad73 l73 cp73]) ?_ rfl ?_
    · simp [results, Try.results30, go_sem, y0, y1]
    · exact ⟨_, _, _, _, _, _, rfl, LS.out.1, parts_len HT.out.2.2, LS.out.2.1, by omega, LS.out.2.2, effs_cut HE.out LS.out.2.2 (by omega)⟩
  · obtain ⟨tn, tk, te1, te2, te3, -⟩ := HT.out.1
    obtain ⟨e1, he1, hke, hel⟩ := end_in te1 te2 te3 (p := k) (by omega)
    have HTr := hid (And.intro te1 (And.intro te2 te3))
    have HNA := hid (nodes_at HS4.out.row (by omega))
    have HE1 := hid (And.intro hke hel)
    clear te1 te2 te3 hke hel
    have HC1 := hid (specEnd_calls q 0 cpr ns (k : Int) X3 HNA.out (by have := HT.out.2; omega))
    rw [he1] at HC1
    clear he1
    go_wp2_with fail
    refine HC1.out.mono ?_
    rintro e W9 ⟨rfl, rfl⟩
    clear HC1
    go_wp2_with fail
    refine (rdr_pick HS4.out.rd (by have := H0.out.2.1; omega) (ns.length : Int) (by first | decide | omega)).mono ?_
    rintro e X4 ⟨m20, rfl, hm20, hM20, hr, hg, -, ho⟩
    have HS5 := hid (HS4.out.pick hr hg ho)
    clear hr hg ho
    obtain ⟨j, rfl⟩ : ∃ j : Nat, m20 = (j : Int) := ⟨m20.toNat, by omega⟩
    obtain ⟨f1, hf1, hjf, hfl⟩ := end_in HTr.out.1 HTr.out.2.1 HTr.out.2.2 (p := j) (by omega)
    have HNB := hid (nodes_at HS5.out.row (by omega))
    have HC2 := hid (specEnd_calls q 0 cpr ns (j : Int) X4 HNB.out (by have := HT.out.2; omega))
    rw [hf1] at HC2
    clear hf1
    go_wp2_with fail
    refine HC2.out.mono ?_
    rintro e W9 ⟨rfl, rfl⟩
    clear HC2
    obtain ⟨-, hrc, -, -⟩ := row_fz HS5.out.row
    have hkc : (k : Int) ≤ (cpr : Int) := by omega
    have hjf' : (j : Int) ≤ (f1 : Int) := by omega
    have hfc : (f1 : Int) ≤ (cpr : Int) := by omega
    have hel' : (e1 : Int) ≤ (ns.length : Int) := by have := HE1.out; omega
    have he0 : (0 : Int) ≤ (e1 : Int) := by omega
    have hj0 : (0 : Int) ≤ (j : Int) := by omega
    go_upto_region 18 with fail
    refine pick_begin (S := fun _ => True) (by kernel_rfl) rfl rfl ?_
    have HSd : Hid (Sp d W X4.drew _ _ _ _ _ _ _) := HS5.out.below (Below.refl _ _).drew
    generalize X4.drew = X5 at *
    have hk9 : ¬ cpr < k := by omega
    have hf9 : f1 ≤ cpr := by omega
    have hj9 : j ≤ f1 := by omega
    have hc9 : ¬ cpr = j := by omega
    have he9 : e1 ≤ ns.length := by omega
    obtain ⟨o3, ho3, hO3⟩ : ∃ o3, (if cpr = e1 then some (⟨q, 0, none⟩ : Addr) else some ⟨q, e1 * 6, none⟩) = some ⟨q, o3, none⟩ ∧ (ns.drop e1 = [] ∨ o3 = e1 * 6) := by
      by_cases h : cpr = e1
      · exact ⟨0, by rw [if_pos h], Or.inl (List.drop_eq_nil_of_le (by omega))⟩
      · exact ⟨e1 * 6, by rw [if_neg h], Or.inr rfl⟩
    have HO3 := hid hO3
    clear hO3
    refine pick_op (i := 1) (v := .slice (some ⟨q, 0, none⟩) ns.length cpr) (by kernel_rfl) rfl (by kernel_rfl) (by kernel_rfl) rfl rfl (fun w' _ => by simp [go_sem]) trivial (by simp [go_sem]; exact rfl) ?_
    refine pick_op (i := 2) (v := .int .i64 (k : Int)) (by kernel_rfl) rfl (by kernel_rfl) (by kernel_rfl) rfl rfl (fun w' _ => by simp [go_sem]) trivial (by simp [go_sem]; exact rfl) ?_
    refine pick_op (i := 3) (v := .slice (some ⟨q, 0, none⟩) k cpr) (by kernel_rfl) rfl (by kernel_rfl) (by kernel_rfl) rfl rfl (fun w' _ => by simp [go_sem, Try.underlying43, hk9]) trivial (by simp [go_sem]; exact rfl) ?_
    refine pick_op (i := 5) (v := .slice (some ⟨q, 0, none⟩) ns.length cpr) (by kernel_rfl) rfl (by kernel_rfl) (by kernel_rfl) rfl rfl (fun w' _ => by simp [go_sem]) trivial (by simp [go_sem]; exact rfl) ?_
    refine pick_op (i := 6) (v := .int .i64 (j : Int)) (by kernel_rfl) rfl (by kernel_rfl) (by kernel_rfl) rfl rfl (fun w' _ => by simp [go_sem]) trivial (by simp [go_sem]; exact rfl) ?_
    refine pick_op (i := 7) (v := .int .i64 (f1 : Int)) (by kernel_rfl) rfl (by kernel_rfl) (by kernel_rfl) rfl rfl (fun w' _ => by simp [go_sem]) trivial (by simp [go_sem]; exact rfl) ?_
    refine pick_op (i := 8) (v := .slice (some ⟨q, j * 6, none⟩) (f1 - j) (cpr - j)) (by kernel_rfl) rfl (by kernel_rfl) (by kernel_rfl) rfl rfl (fun w' _ => by simp [go_sem, Try.underlying43, hf9, hj9, hc9]) trivial (by simp [go_sem]; exact rfl) ?_
    refine pick_op (i := 10) (v := .slice (some ⟨q, 0, none⟩) ns.length cpr) (by kernel_rfl) rfl (by kernel_rfl) (by kernel_rfl) rfl rfl (fun w' _ => by simp [go_sem]) trivial (by simp [go_sem]; exact rfl) ?_
    refine pick_op (i := 11) (v := .int .i64 (e1 : Int)) (by kernel_rfl) rfl (by kernel_rfl) (by kernel_rfl) rfl rfl (fun w' _ => by simp [go_sem]) trivial (by simp [go_sem]; exact rfl) ?_
    refine pick_op (i := 12) (v := .slice (some ⟨q, o3, none⟩) (ns.length - e1) (cpr - e1)) (by kernel_rfl) rfl (by kernel_rfl) (by kernel_rfl) rfl rfl (fun w' _ => by simp [go_sem, Try.underlying43, he9, ho3]) trivial (by simp [go_sem]; exact rfl) ?_
    have hl2 : ((ns.drop j).take (f1 - j)).length = f1 - j := by rw [List.length_take, List.length_drop]; omega
    have hl3 : (ns.drop e1).length = ns.length - e1 := List.length_drop
    have hl1 : (ns.take k).length = k := by rw [List.length_take]; omega
    have HLn := hid (And.intro hl1 (And.intro hl2 hl3))
    clear hl1 hl2 hl3 hk9 hf9 hj9 hc9 he9 ho3 hrc hkc hjf' hfc hel' he0
    have OW0 := hid (made_at (X := X5) (B := X5.heap.size) rfl (Nat.le_refl _))
    have BL0 : Hid (Below X5.heap.size X5 (X5.alloc (.cells #[] 65))) := (Below.refl _ _).alloc (Nat.le_refl _) _
    refine pick_make (i := 0) (v := .slice (some ⟨X5.heap.size, 0, none⟩) 0 0) (w1 := X5.alloc (.cells #[] 65)) rfl (by kernel_rfl) rfl rfl (by simp [go_sem]) trivial (by simp [go_sem]; exact rfl) ?_
    generalize X5.alloc (.cells #[] 65) = Y0 at *
    have HNs := hid (fun (Y : World) (hb : Below X5.heap.size X5 Y) => (nodes_at (HSd.out.below hb).row (by omega)))
    obtain ⟨v1, Y1, hrun, hown, hgr⟩ := app_off (b := q) (off := 0) (cap := cpr) OW0.out (m := (ns.take k)) (by have h := nodes_part (k := 0) (l := ns.take k) (r := ns.drop k) (HNs.out Y0 BL0.out) (by rw [List.drop_zero, List.take_append_drop]); rwa [Nat.zero_mul] at h) (parts1 HT.out.2.2) BL0.out.size 43
    have OW1 := hid hown
    have BL1 : Hid (Below X5.heap.size X5 Y1) := BL0.out.grown hgr BL0.out.size (fun g hg => (OW0.out.lt g hg).1)
    rw [HLn.out.1] at hrun
    obtain ⟨ad71, cp71, hv1⟩ := g_is hown
    obtain ⟨l71, hl71⟩ : ∃ l, (([] : List Nd) ++ (ns.take k)).length = l := ⟨_, rfl⟩
    rw [hl71] at hv1
    subst hv1
    clear hown hgr hl71
    refine pick_make (i := 4) (v := .slice ad71 l71 cp71) (w1 := Y1) rfl (by kernel_rfl) rfl rfl (append_runN (s := .tmp 69) (x := .tmp 72) (t := 43) rfl rfl rfl hrun) trivial (by simp [go_sem]; exact rfl) ?_
    clear hrun
    obtain ⟨v2, Y2, hrun, hown, hgr⟩ := app_off (b := q) (off := (j * 6)) (cap := (cpr - j)) OW1.out (m := ((ns.drop j).take (f1 - j))) (nodes_part (r := (ns.drop j).drop (f1 - j)) (HNs.out Y1 BL1.out) (by rw [List.take_append_drop])) (parts2 HT.out.2.2) BL1.out.size 43
    have OW2 := hid hown
    have BL2 : Hid (Below X5.heap.size X5 Y2) := BL1.out.grown hgr BL1.out.size (fun g hg => (OW1.out.lt g hg).1)
    rw [HLn.out.2.1] at hrun
    obtain ⟨ad72, cp72, hv2⟩ := g_is hown
    obtain ⟨l72, hl72⟩ : ∃ l, ((([] : List Nd) ++ (ns.take k)) ++ ((ns.drop j).take (f1 - j))).length = l := ⟨_, rfl⟩
    rw [hl72] at hv2
    subst hv2
    clear hown hgr hl72
    refine pick_make (i := 9) (v := .slice ad72 l72 cp72) (w1 := Y2) rfl (by kernel_rfl) rfl rfl (append_runN (s := .tmp 73) (x := .tmp 77) (t := 43) rfl rfl rfl hrun) trivial (by simp [go_sem]; exact rfl) ?_
    clear hrun
    obtain ⟨v3, Y3, hrun, hown, hgr⟩ := app_off (b := q) (off := o3) (cap := (cpr - e1)) OW2.out (m := (ns.drop e1)) (last_part HO3.out (HNs.out Y2 BL2.out)) (parts3 HT.out.2.2) BL2.out.size 43
    have OW3 := hid hown
    have BL3 : Hid (Below X5.heap.size X5 Y3) := BL2.out.grown hgr BL2.out.size (fun g hg => (OW2.out.lt g hg).1)
    rw [HLn.out.2.2] at hrun
    obtain ⟨ad73, cp73, hv3⟩ := g_is hown
    obtain ⟨l73, hl73⟩ : ∃ l, (((([] : List Nd) ++ (ns.take k)) ++ ((ns.drop j).take (f1 - j))) ++ (ns.drop e1)).length = l := ⟨_, rfl⟩
    rw [hl73] at hv3
    subst hv3
    clear hown hgr hl73
    refine pick_make (i := 13) (v := .slice ad73 l73 cp73) (w1 := Y3) rfl (by kernel_rfl) rfl rfl (append_runN (s := .tmp 78) (x := .tmp 81) (t := 43) rfl rfl rfl hrun) trivial (by simp [go_sem]; exact rfl) ?_
    clear hrun
    have HSz := hid (HSd.out.below BL3.out)
    have BX := hid HSz.out.bx
    have NT : Hid (NodesD d Y3 (.slice ad73 l73 cp73) (((([] : List Nd) ++ (ns.take k)) ++ ((ns.drop j).take (f1 - j))) ++ (ns.drop e1))) := ⟨lies_owns (f := Nd.cell) (by decide) OW3.out (by have := HSd.out.lo; have := HSd.out.gr.size; omega) (by rw [H0.out.2.2]; have := HSd.out.lo; have := HSd.out.gr.size; omega), parts_brief HSd.out.sml⟩
    have b0 : Y3.cell? ⟨W.heap.size, 0, none⟩ = some (.slice ad n cp) := cell_of_heap BX.out.box 0
    have b1 : Y3.cell? ⟨W.heap.size, 1, none⟩ = some (.slice adt ns.length cpt) := cell_of_heap BX.out.box 1
    have r0 : Y3.cell? ⟨W.heap.size + 1, 0, none⟩ = some (.slice none 0 0) := cell_of_heap BX.out.res 0
    have r1 : Y3.cell? ⟨W.heap.size + 1, 1, none⟩ = some (.slice none 0 0) := cell_of_heap BX.out.res 1
    have fb0 := frozen_of_heap BX.out.box 0
    have fb1 := frozen_of_heap BX.out.box 1
    have fr0 := frozen_of_heap BX.out.res 0
    have fr1 := frozen_of_heap BX.out.res 1
    have LS := hid (last_store BX.out H0.out.1 ⟨_, _, _, rfl⟩ NT.out 1 (.slice ad73 l73 cp73) (.slice ad n cp) (.slice ad73 l73 cp73))
    obtain ⟨Y9, hY9⟩ : ∃ Y9, Y3.setCell ⟨W.heap.size, 1, none⟩ (.slice ad73 l73 cp73) = Y9 := ⟨_, rfl⟩
    have hx9 := set_heap (i := 1) (v := .slice ad73 l73 cp73) BX.out.box
    have hr9 := (Below.heap_setCell Y3 ⟨W.heap.size, 1, none⟩ (.slice ad73 l73 cp73) (W.heap.size + 1) (by show W.heap.size + 1 ≠ W.heap.size; omega)).trans BX.out.res
    rw [hY9] at LS hx9 hr9
    have x0 : Y9.cell? ⟨W.heap.size, 0, none⟩ = some (.slice ad n cp) := cell_of_heap hx9 0
    have x1 : Y9.cell? ⟨W.heap.size, 1, none⟩ = some (.slice ad73 l73 cp73) := cell_of_heap hx9 1
    have y0 : Y9.cell? ⟨W.heap.size + 1, 0, none⟩ = some (.slice none 0 0) := cell_of_heap hr9 0
    have y1 : Y9.cell? ⟨W.heap.size + 1, 1, none⟩ = some (.slice none 0 0) := cell_of_heap hr9 1
    have z0 := frozen_of_heap hr9 0
    have z1 := frozen_of_heap hr9 1
    have HY9 := hid hY9
    clear hY9 hx9 hr9
    refine pick_op (i := 14) (v := .pointer (some ⟨W.heap.size, 1, none⟩)) (by kernel_rfl) rfl (by kernel_rfl) (by kernel_rfl) rfl rfl (fun w' _ => by simp [go_sem]) trivial (by simp [go_sem]; exact rfl) ?_
    refine pick_skip (i := 15) (w1 := Y9) rfl rfl (by kernel_rfl) rfl rfl (by rw [← HY9.out]; simp [go_sem, b1, fb1]) trivial ?_
    refine pick_end (by kernel_rfl) ?_
    clear HY9 b0 b1 r0 r1 fb0 fb1 fr0 fr1
    go_wp2_with fail
    refine bodyPost_ret (v := .agg #[.slice ad n cp, .slice ad73 l73 cp73]) ?_ rfl ?_
    · simp [results, Try.results30, go_sem, y0, y1]
    · exact ⟨_, _, _, _, _, _, rfl, LS.out.1, parts_len HT.out.2.2, LS.out.2.1, by omega, LS.out.2.2, effs_cut HE.out LS.out.2.2 (by omega)⟩
  · obtain ⟨ie, hie, he0, he1, he2⟩ := info_parts info_effZ
    have HB0 := hid HS4.out.bx
    go_upto_region 21 with fail
    refine pick_begin (S := fun _ => True) (n := 19) (ls := #[false, false, false, false, false, false, false, false, false, false, false, false, false, false, false, false, false, false, false]) (by kernel_rfl) rfl (by kernel_rfl) ?_
    have HB : Hid (Bx d W X3.drew _ _ _ _ _) := bx_low HB0.out (Below.refl _ _).drew
    clear HB0
    generalize X3.drew = X at *
    refine pick_op (i := 1) (v := .pointer (some ⟨W.heap.size, 0, none⟩)) (by kernel_rfl) rfl (by kernel_rfl) (by kernel_rfl) rfl rfl (fun w' hw => by simp [go_sem]) trivial (by simp [go_sem]; exact rfl) ?_
    refine pick_op (i := 5) (v := .pointer (some ⟨d.B, 0, none⟩)) (by kernel_rfl) rfl (by kernel_rfl) (by kernel_rfl) rfl rfl (fun w' hw => by simp [go_sem]) trivial (by simp [go_sem]; exact rfl) ?_
    refine pick_op (i := 9) (v := .pointer (some ⟨d.B, 0, none⟩)) (by kernel_rfl) rfl (by kernel_rfl) (by kernel_rfl) rfl rfl (fun w' hw => by simp [go_sem]) trivial (by simp [go_sem]; exact rfl) ?_
    refine pick_op (i := 11) (v := .pointer (some ⟨d.B, 0, none⟩)) (by kernel_rfl) rfl (by kernel_rfl) (by kernel_rfl) rfl rfl (fun w' hw => by simp [go_sem]) trivial (by simp [go_sem]; exact rfl) ?_
    refine pick_cap ?_
    intro L QQ aa HL HQQ HA
    clear HS4 NB4 HNb HQ Hm HBm
    have K1111131 : Hid (∀ (X : World) (qp : Nat) (HP : Hid (qp ≤ p + 2 + 3)) (HB : Hid (Bx d W X qp (.slice ad n cp) (.slice adt ns.length cpt) W.heap.size (W.heap.size + 1))) (qa : Nat) (adb : Option Addr) (lb cpb : Nat) (qc : Nat) (RC : Hid (X.heap[qc]? = some (.cells fourV 9))) (HQc : Hid (W.heap.size ≤ qc)) (m1 : Int) (y : ByteArray) (hy : fourV[m1.toNat]? = some (.string y)) (m2 : Int) (m3 : Int) (qd : Nat) (ade : Option Addr) (le cpe : Nat) (OE : Hid (X.ownsRow W.heap.size 60 3 (.slice ade le cpe) ((([] : List Ef) ++ es) ++ [(⟨y, m2, 1 + m3⟩ : Ef)]).length (rowZ Ef.cell 3 ((([] : List Ef) ++ es) ++ [(⟨y, m2, 1 + m3⟩ : Ef)])))), wpAnyH Try.prog .any L.toArray (NoPanic QQ) (fun w => w.cell? ⟨qc, m1.toNat, none⟩ = some (.string y)) 2 #[true, true, true, true, true, true, true, true, true, true, true, true, true, true, true, true, true, false, false] (((((((((((((aa.put (some 87) (.slice (some ⟨qa, 0, none⟩) 0 0)).put (some 89) (.slice ad n cp)).put (some 90) (.slice adb lb cpb)).put (some 91) (.slice (some ⟨qc, 0, none⟩) 4 4)).put (some 93) (.int .i64 m1)).put (some 94) (.pointer (some ⟨qc, m1.toNat, none⟩))).put (some 95) (.string y)).put (some 97) (.int .i64 m2)).put (some 99) (.int .i64 m3)).put (some 100) (.int .i64 (1 + m3))).put (some 101) (.agg #[.string y, .int .i64 m2, .int .i64 (1 + m3)])).put (some 102) (.slice (some ⟨qd, 0, none⟩) 1 1)).put (some 103) (.slice ade le cpe)) X) := by
      refine hid (fun X qp HP HB qa adb lb cpb qc RC HQc m1 y hy m2 m3 qd ade le cpe OE => pick_open HL.out HQQ.out (by simp only [HA.out]; simp [go_sem]; exact rfl) ?_)
      refine pick_op (i := 17) (v := .pointer (some ⟨W.heap.size, 0, none⟩)) (by kernel_rfl) rfl (by kernel_rfl) (by kernel_rfl) rfl rfl (fun w' hw => by simp [go_sem]) ((cell_of_heap RC.out m1.toNat).trans hy) (by simp [go_sem]; exact rfl) ?_
      have NT := hid (HN.out.grew HB.out.gr)
      have hqc : qc ≠ W.heap.size := fun e => by have h := RC.out; rw [e] at h; have := h.symm.trans HB.out.box; simp at this
      have b0 : X.cell? ⟨W.heap.size, 0, none⟩ = some (.slice ad n cp) := cell_of_heap HB.out.box 0
      have b1 : X.cell? ⟨W.heap.size, 1, none⟩ = some (.slice adt ns.length cpt) := cell_of_heap HB.out.box 1
      have r0 : X.cell? ⟨W.heap.size + 1, 0, none⟩ = some (.slice none 0 0) := cell_of_heap HB.out.res 0
      have r1 : X.cell? ⟨W.heap.size + 1, 1, none⟩ = some (.slice none 0 0) := cell_of_heap HB.out.res 1
      have fb0 := frozen_of_heap HB.out.box 0
      have fb1 := frozen_of_heap HB.out.box 1
      have fr0 := frozen_of_heap HB.out.res 0
      have fr1 := frozen_of_heap HB.out.res 1
      have LS := hid (last_store HB.out H0.out.1 ⟨_, _, _, rfl⟩ NT.out 0 (.slice ade le cpe) (.slice ade le cpe) (.slice adt ns.length cpt))
      have LE := hid (effs_new (j := 0) (u := .slice ade le cpe) (u0 := .slice ade le cpe) (u1 := .slice adt ns.length cpt) HB.out ⟨_, _, _, rfl⟩ H0.out.2.2 ⟨HE.out.1.2, HE.out.2⟩ (four_brief hy) OE.out)
      obtain ⟨Y9, hY9⟩ : ∃ Y9, X.setCell ⟨W.heap.size, 0, none⟩ (.slice ade le cpe) = Y9 := ⟨_, rfl⟩
      have hx9 := set_heap (i := 0) (v := .slice ade le cpe) HB.out.box
      have hr9 := (Below.heap_setCell X ⟨W.heap.size, 0, none⟩ (.slice ade le cpe) (W.heap.size + 1) (by show W.heap.size + 1 ≠ W.heap.size; omega)).trans HB.out.res
      rw [hY9] at LS LE hx9 hr9
      have x0 : Y9.cell? ⟨W.heap.size, 0, none⟩ = some (.slice ade le cpe) := cell_of_heap hx9 0
      have x1 : Y9.cell? ⟨W.heap.size, 1, none⟩ = some (.slice adt ns.length cpt) := cell_of_heap hx9 1
      have y0 : Y9.cell? ⟨W.heap.size + 1, 0, none⟩ = some (.slice none 0 0) := cell_of_heap hr9 0
      have y1 : Y9.cell? ⟨W.heap.size + 1, 1, none⟩ = some (.slice none 0 0) := cell_of_heap hr9 1
      have z0 := frozen_of_heap hr9 0
      have z1 := frozen_of_heap hr9 1
      have HY9 := hid hY9
      have hs9 := (World.cell?_of_block (a := ⟨qc, m1.toNat, none⟩) ((Below.heap_setCell X ⟨W.heap.size, 0, none⟩ (.slice ade le cpe) qc hqc))).trans ((cell_of_heap RC.out m1.toNat).trans hy)
      rw [HY9.out] at hs9
      clear hY9 hx9 hr9
      refine pick_skip (i := 18) (w1 := Y9) rfl rfl (by kernel_rfl) rfl rfl (by rw [← HY9.out]; simp [go_sem, b0, fb0]) hs9 ?_
      refine pick_end (by kernel_rfl) ?_
      clear hs9 hqc HY9 b0 b1 r0 r1 fb0 fb1 fr0 fr1
      go_wp2_with fail
      refine bodyPost_ret (v := .agg #[.slice ade le cpe, .slice adt ns.length cpt]) ?_ rfl ?_
      · simp [results, Try.results30, go_sem, y0, y1]
      · exact ⟨_, _, _, _, ns, _, rfl, LS.out.1, by have := HT.out.2; omega, LS.out.2.1, by have := HP.out; omega, LS.out.2.2, LE.out⟩
    have K1110131 : Hid (∀ (X : World) (qp : Nat) (HP : Hid (qp ≤ p + 2 + 3)) (HB : Hid (Bx d W X qp (.slice ad n cp) (.slice adt ns.length cpt) W.heap.size (W.heap.size + 1))) (qa : Nat) (adb : Option Addr) (lb cpb : Nat) (OA : Hid (X.ownsRow W.heap.size 60 3 (.slice adb lb cpb) (([] : List Ef) ++ es).length (rowZ Ef.cell 3 (([] : List Ef) ++ es)))) (qc : Nat) (RC : Hid (X.heap[qc]? = some (.cells fourV 9))) (HQc : Hid (W.heap.size ≤ qc)) (m1 : Int) (y : ByteArray) (hy : fourV[m1.toNat]? = some (.string y)) (m2 : Int) (m3 : Int) (qd : Nat) (RD : Hid (X.heap[qd]? = some (.cells #[.string y, .int .i64 m2, .int .i64 (1 + m3)] 60))) (HQd : Hid (W.heap.size ≤ qd)), wpAnyH Try.prog .any L.toArray (NoPanic QQ) (fun w => w.cell? ⟨qc, m1.toNat, none⟩ = some (.string y)) 3 #[true, true, true, true, true, true, true, true, true, true, true, true, true, true, true, true, false, false, false] ((((((((((((aa.put (some 87) (.slice (some ⟨qa, 0, none⟩) 0 0)).put (some 89) (.slice ad n cp)).put (some 90) (.slice adb lb cpb)).put (some 91) (.slice (some ⟨qc, 0, none⟩) 4 4)).put (some 93) (.int .i64 m1)).put (some 94) (.pointer (some ⟨qc, m1.toNat, none⟩))).put (some 95) (.string y)).put (some 97) (.int .i64 m2)).put (some 99) (.int .i64 m3)).put (some 100) (.int .i64 (1 + m3))).put (some 101) (.agg #[.string y, .int .i64 m2, .int .i64 (1 + m3)])).put (some 102) (.slice (some ⟨qd, 0, none⟩) 1 1)) X) := by
      refine hid (fun X qp HP HB qa adb lb cpb OA qc RC HQc m1 y hy m2 m3 qd RD HQd => pick_open HL.out HQQ.out (by simp only [HA.out]; simp [go_sem]; exact rfl) ?_)
      obtain ⟨ve2, Z1, hrun, hown, hgr⟩ := app_row (d := d) ef_one Try.underlying42 hie he0 he1 he2 rfl (by decide) (by decide) OA.out (one_eff RD.out (by have := HQd.out; have := HB.out.lo; omega) (by rw [H0.out.2.2]; have := HQd.out; have := HB.out.lo; omega)) (by have := HE.out.2; simp; omega) HB.out.gr.size 42
      have RC := hid ((hgr.block qc (heap_lt RC.out) (own_ne OA.out RC.out (by decide))).trans RC.out)
      have HB := hid (bx_own HB.out H0.out.1 OA.out hgr)
      obtain ⟨ade, le, cpe, hv⟩ := slice_of hown
      subst hv
      have OA := hid hown
      clear hown hgr
      refine pick_make (i := 16) (v := .slice ade le cpe) (w1 := Z1) rfl (by kernel_rfl) rfl rfl (append_runN (s := .tmp 90) (x := .tmp 102) (t := 42) rfl rfl rfl hrun) ((cell_of_heap RC.out m1.toNat).trans hy) (by simp [go_sem]; exact rfl) ?_
      clear hrun
      exact pick_join HL.out HQQ.out (by kernel_rfl) (by simp only [HA.out]; simp [go_sem]) (K1111131.out _ _ (hid (by have := HP.out; omega)) HB qa adb lb cpb qc RC HQc m1 y hy m2 m3 qd ade le cpe OA)
    have K1110130 : Hid (∀ (X : World) (qp : Nat) (HP : Hid (qp ≤ p + 2 + 3)) (HB : Hid (Bx d W X qp (.slice ad n cp) (.slice adt ns.length cpt) W.heap.size (W.heap.size + 1))) (qa : Nat) (adb : Option Addr) (lb cpb : Nat) (OA : Hid (X.ownsRow W.heap.size 60 3 (.slice adb lb cpb) (([] : List Ef) ++ es).length (rowZ Ef.cell 3 (([] : List Ef) ++ es)))) (qc : Nat) (RC : Hid (X.heap[qc]? = some (.cells fourV 9))) (HQc : Hid (W.heap.size ≤ qc)) (m1 : Int) (y : ByteArray) (hy : fourV[m1.toNat]? = some (.string y)) (m2 : Int) (m3 : Int), wpAnyH Try.prog .any L.toArray (NoPanic QQ) (fun w => w.cell? ⟨qc, m1.toNat, none⟩ = some (.string y)) 4 #[true, true, true, true, true, true, true, true, true, true, true, true, true, true, true, false, false, false, false] (((((((((((aa.put (some 87) (.slice (some ⟨qa, 0, none⟩) 0 0)).put (some 89) (.slice ad n cp)).put (some 90) (.slice adb lb cpb)).put (some 91) (.slice (some ⟨qc, 0, none⟩) 4 4)).put (some 93) (.int .i64 m1)).put (some 94) (.pointer (some ⟨qc, m1.toNat, none⟩))).put (some 95) (.string y)).put (some 97) (.int .i64 m2)).put (some 99) (.int .i64 m3)).put (some 100) (.int .i64 (1 + m3))).put (some 101) (.agg #[.string y, .int .i64 m2, .int .i64 (1 + m3)])) X) := by
      refine hid (fun X qp HP HB qa adb lb cpb OA qc RC HQc m1 y hy m2 m3 => pick_open HL.out HQQ.out (by simp only [HA.out]; simp [go_sem]; exact rfl) ?_)
      have bl : Below X.heap.size X (X.alloc (.cells #[.string y, .int .i64 m2, .int .i64 (1 + m3)] 60)) := (Below.refl _ _).alloc (Nat.le_refl _) _
      have sz := HB.out.gr.size
      have OA := hid (OA.out.alloc (.cells #[.string y, .int .i64 m2, .int .i64 (1 + m3)] 60))
      have RC := hid ((bl.block qc (heap_lt RC.out)).trans RC.out)
      have RD := hid (MapKept.heap_alloc X (.cells #[.string y, .int .i64 m2, .int .i64 (1 + m3)] 60)).1
      have HQd := hid sz
      have HB := hid (bx_low HB.out bl)
      clear bl sz
      refine pick_make (i := 15) (v := .slice (some ⟨X.heap.size, 0, none⟩) 1 1) (w1 := X.alloc (.cells #[.string y, .int .i64 m2, .int .i64 (1 + m3)] 60)) rfl (by kernel_rfl) rfl rfl (by simp [go_sem]) ((cell_of_heap RC.out m1.toNat).trans hy) (by simp [go_sem]; exact rfl) ?_
      obtain ⟨qd, hq⟩ : ∃ q, X.heap.size = q := ⟨_, rfl⟩
      generalize X.alloc (.cells #[.string y, .int .i64 m2, .int .i64 (1 + m3)] 60) = Z1 at *
      rw [hq] at RD HQd ⊢
      clear hq
      exact pick_join HL.out HQQ.out (by kernel_rfl) (by simp only [HA.out]; simp [go_sem]) (K1110131.out _ _ (hid (by have := HP.out; omega)) HB qa adb lb cpb OA qc RC HQc m1 y hy m2 m3 qd RD HQd)
    have K1110120 : Hid (∀ (X : World) (qp : Nat) (HP : Hid (qp ≤ p + 2 + 2)) (HB : Hid (Bx d W X qp (.slice ad n cp) (.slice adt ns.length cpt) W.heap.size (W.heap.size + 1))) (qa : Nat) (adb : Option Addr) (lb cpb : Nat) (OA : Hid (X.ownsRow W.heap.size 60 3 (.slice adb lb cpb) (([] : List Ef) ++ es).length (rowZ Ef.cell 3 (([] : List Ef) ++ es)))) (qc : Nat) (RC : Hid (X.heap[qc]? = some (.cells fourV 9))) (HQc : Hid (W.heap.size ≤ qc)) (m1 : Int) (y : ByteArray) (hy : fourV[m1.toNat]? = some (.string y)) (m2 : Int), wpAnyH Try.prog .any L.toArray (NoPanic QQ) (fun w => w.cell? ⟨qc, m1.toNat, none⟩ = some (.string y)) 7 #[true, true, true, true, true, true, true, true, true, true, true, true, false, false, false, false, false, false, false] ((((((((aa.put (some 87) (.slice (some ⟨qa, 0, none⟩) 0 0)).put (some 89) (.slice ad n cp)).put (some 90) (.slice adb lb cpb)).put (some 91) (.slice (some ⟨qc, 0, none⟩) 4 4)).put (some 93) (.int .i64 m1)).put (some 94) (.pointer (some ⟨qc, m1.toNat, none⟩))).put (some 95) (.string y)).put (some 97) (.int .i64 m2)) X) := by
      refine hid (fun X qp HP HB qa adb lb cpb OA qc RC HQc m1 y hy m2 => pick_open HL.out HQQ.out (by simp only [HA.out]; simp [go_sem]; exact rfl) ?_)
      refine pick_enter (i := 12) (f := 13) (args := #[.pointer (some ⟨d.B, 0, none⟩), .int .i64 4]) rfl (by kernel_rfl) rfl rfl (by simp [go_sem]) ?_
      refine (rdr_pick HB.out.rd (by have := H0.out.2.1; have := HP.out; omega) 4 (by decide)).mono ?_
      rintro e Z1 ⟨m3, rfl, hm3, hM3, hr, hg, -, -⟩
      have OA := hid (g_grew OA.out HB.out.lo.1 (by rw [H0.out.2.2]; exact HB.out.lo.1) hg)
      have RC := hid ((hg.block qc ⟨heap_lt RC.out, by have := HQc.out; have := HB.out.lo; omega, by rw [H0.out.2.2]; have := HQc.out; have := HB.out.lo; omega⟩).trans RC.out)
      have HB := hid (bx_pick HB.out hr hg H0.out.2.2)
      clear hr hg
      refine ⟨_, rfl, ((cell_of_heap RC.out m1.toNat).trans hy), ?_⟩
      refine pick_frame (by simp [go_sem]; exact rfl) ?_
      have hwr : IntKind.i64.wrap (1 + m3) = 1 + m3 := by rw [IntKind.wrap_i64]; omega
      refine pick_op (i := 13) (v := .int .i64 (1 + m3)) (by kernel_rfl) rfl (by kernel_rfl) (by kernel_rfl) rfl rfl (fun w' hw => by simp [go_sem, hwr]) ((cell_of_heap RC.out m1.toNat).trans hy) (by simp [go_sem]; exact rfl) ?_
      clear hwr
      refine pick_op (i := 14) (v := .agg #[.string y, .int .i64 m2, .int .i64 (1 + m3)]) (by kernel_rfl) rfl (by kernel_rfl) (by kernel_rfl) rfl rfl (fun w' hw => by simp [go_sem]) ((cell_of_heap RC.out m1.toNat).trans hy) (by simp [go_sem]; exact rfl) ?_
      exact pick_join HL.out HQQ.out (by kernel_rfl) (by simp only [HA.out]; simp [go_sem]) (K1110130.out _ _ (hid (by have := HP.out; omega)) HB qa adb lb cpb OA qc RC HQc m1 y hy m2 m3)
    have K1110030 : Hid (∀ (X : World) (qp : Nat) (HP : Hid (qp ≤ p + 2 + 3)) (HB : Hid (Bx d W X qp (.slice ad n cp) (.slice adt ns.length cpt) W.heap.size (W.heap.size + 1))) (qa : Nat) (adb : Option Addr) (lb cpb : Nat) (OA : Hid (X.ownsRow W.heap.size 60 3 (.slice adb lb cpb) (([] : List Ef) ++ es).length (rowZ Ef.cell 3 (([] : List Ef) ++ es)))) (m1 : Int) (hm1 : 0 ≤ m1) (hM1 : m1 < 4) (m2 : Int) (m3 : Int), wpAnyH Try.prog .any L.toArray (NoPanic QQ) (fun _ => True) 8 #[true, true, true, true, false, true, true, false, false, true, true, true, true, true, false, false, false, false, false] (((((((aa.put (some 87) (.slice (some ⟨qa, 0, none⟩) 0 0)).put (some 89) (.slice ad n cp)).put (some 90) (.slice adb lb cpb)).put (some 93) (.int .i64 m1)).put (some 97) (.int .i64 m2)).put (some 99) (.int .i64 m3)).put (some 100) (.int .i64 (1 + m3))) X) := by
      refine hid (fun X qp HP HB qa adb lb cpb OA m1 hm1 hM1 m2 m3 => pick_open HL.out HQQ.out (by simp only [HA.out]; simp [go_sem]; exact rfl) ?_)
      have bl : Below X.heap.size X (X.alloc (.cells fourV 9)) := (Below.refl _ _).alloc (Nat.le_refl _) _
      have sz := HB.out.gr.size
      have OA := hid (OA.out.alloc (.cells fourV 9))
      have RC := hid (MapKept.heap_alloc X (.cells fourV 9)).1
      have HQc := hid sz
      have HB := hid (bx_low HB.out bl)
      clear bl sz
      refine pick_make (i := 4) (v := .slice (some ⟨X.heap.size, 0, none⟩) 4 4) (w1 := X.alloc (.cells fourV 9)) rfl (by kernel_rfl) rfl rfl (by simp [go_sem, fourV]) trivial (by simp [go_sem]; exact rfl) ?_
      obtain ⟨qc, hq⟩ : ∃ q, X.heap.size = q := ⟨_, rfl⟩
      generalize X.alloc (.cells fourV 9) = Z1 at *
      rw [hq] at RC HQc ⊢
      clear hq
      obtain ⟨y, -, hy⟩ := four_get m1 hm1 hM1
      refine pick_op (i := 7) (v := .pointer (some ⟨qc, m1.toNat, none⟩)) (by kernel_rfl) rfl (by kernel_rfl) (by kernel_rfl) rfl rfl (fun w' hw => by simp [go_sem, hm1, hM1]) trivial (by simp [go_sem]; exact rfl) ?_
      refine pick_more (fun w => w.cell? ⟨qc, m1.toNat, none⟩ = some (.string y)) (fun _ _ => trivial) ?_
      refine pick_op (i := 8) (v := .string y) (by kernel_rfl) rfl (by kernel_rfl) (by kernel_rfl) rfl rfl (fun w' hw => by simp [go_sem, hw]) ((cell_of_heap RC.out m1.toNat).trans hy) (by simp [go_sem]; exact rfl) ?_
      refine pick_op (i := 14) (v := .agg #[.string y, .int .i64 m2, .int .i64 (1 + m3)]) (by kernel_rfl) rfl (by kernel_rfl) (by kernel_rfl) rfl rfl (fun w' hw => by simp [go_sem]) ((cell_of_heap RC.out m1.toNat).trans hy) (by simp [go_sem]; exact rfl) ?_
      exact pick_join HL.out HQQ.out (by kernel_rfl) (by simp only [HA.out]; simp [go_sem]) (K1110130.out _ _ (hid (by have := HP.out; omega)) HB qa adb lb cpb OA qc RC HQc m1 y hy m2 m3)
    have K1110110 : Hid (∀ (X : World) (qp : Nat) (HP : Hid (qp ≤ p + 2 + 1)) (HB : Hid (Bx d W X qp (.slice ad n cp) (.slice adt ns.length cpt) W.heap.size (W.heap.size + 1))) (qa : Nat) (adb : Option Addr) (lb cpb : Nat) (OA : Hid (X.ownsRow W.heap.size 60 3 (.slice adb lb cpb) (([] : List Ef) ++ es).length (rowZ Ef.cell 3 (([] : List Ef) ++ es)))) (qc : Nat) (RC : Hid (X.heap[qc]? = some (.cells fourV 9))) (HQc : Hid (W.heap.size ≤ qc)) (m1 : Int) (y : ByteArray) (hy : fourV[m1.toNat]? = some (.string y)), wpAnyH Try.prog .any L.toArray (NoPanic QQ) (fun w => w.cell? ⟨qc, m1.toNat, none⟩ = some (.string y)) 8 #[true, true, true, true, true, true, true, true, true, true, false, true, false, false, false, false, false, false, false] (((((((aa.put (some 87) (.slice (some ⟨qa, 0, none⟩) 0 0)).put (some 89) (.slice ad n cp)).put (some 90) (.slice adb lb cpb)).put (some 91) (.slice (some ⟨qc, 0, none⟩) 4 4)).put (some 93) (.int .i64 m1)).put (some 94) (.pointer (some ⟨qc, m1.toNat, none⟩))).put (some 95) (.string y)) X) := by
      refine hid (fun X qp HP HB qa adb lb cpb OA qc RC HQc m1 y hy => pick_open HL.out HQQ.out (by simp only [HA.out]; simp [go_sem]; exact rfl) ?_)
      refine pick_enter (i := 10) (f := 13) (args := #[.pointer (some ⟨d.B, 0, none⟩), .int .i64 6]) rfl (by kernel_rfl) rfl rfl (by simp [go_sem]) ?_
      refine (rdr_pick HB.out.rd (by have := H0.out.2.1; have := HP.out; omega) 6 (by decide)).mono ?_
      rintro e Z1 ⟨m2, rfl, hm2, hM2, hr, hg, -, -⟩
      have OA := hid (g_grew OA.out HB.out.lo.1 (by rw [H0.out.2.2]; exact HB.out.lo.1) hg)
      have RC := hid ((hg.block qc ⟨heap_lt RC.out, by have := HQc.out; have := HB.out.lo; omega, by rw [H0.out.2.2]; have := HQc.out; have := HB.out.lo; omega⟩).trans RC.out)
      have HB := hid (bx_pick HB.out hr hg H0.out.2.2)
      clear hr hg
      refine ⟨_, rfl, ((cell_of_heap RC.out m1.toNat).trans hy), ?_⟩
      refine pick_frame (by simp [go_sem]; exact rfl) ?_
      exact pick_join HL.out HQQ.out (by kernel_rfl) (by simp only [HA.out]; simp [go_sem]) (K1110120.out _ _ (hid (by have := HP.out; omega)) HB qa adb lb cpb OA qc RC HQc m1 y hy m2)
    have K1110020 : Hid (∀ (X : World) (qp : Nat) (HP : Hid (qp ≤ p + 2 + 2)) (HB : Hid (Bx d W X qp (.slice ad n cp) (.slice adt ns.length cpt) W.heap.size (W.heap.size + 1))) (qa : Nat) (adb : Option Addr) (lb cpb : Nat) (OA : Hid (X.ownsRow W.heap.size 60 3 (.slice adb lb cpb) (([] : List Ef) ++ es).length (rowZ Ef.cell 3 (([] : List Ef) ++ es)))) (m1 : Int) (hm1 : 0 ≤ m1) (hM1 : m1 < 4) (m2 : Int), wpAnyH Try.prog .any L.toArray (NoPanic QQ) (fun _ => True) 10 #[true, true, true, true, false, true, true, false, false, true, true, true, false, false, false, false, false, false, false] (((((aa.put (some 87) (.slice (some ⟨qa, 0, none⟩) 0 0)).put (some 89) (.slice ad n cp)).put (some 90) (.slice adb lb cpb)).put (some 93) (.int .i64 m1)).put (some 97) (.int .i64 m2)) X) := by
      refine hid (fun X qp HP HB qa adb lb cpb OA m1 hm1 hM1 m2 => pick_open HL.out HQQ.out (by simp only [HA.out]; simp [go_sem]; exact rfl) ?_)
      refine pick_two (i := 4) (j := 12) (by kernel_rfl) ?_ ?_
      · have bl : Below X.heap.size X (X.alloc (.cells fourV 9)) := (Below.refl _ _).alloc (Nat.le_refl _) _
        have sz := HB.out.gr.size
        have OA := hid (OA.out.alloc (.cells fourV 9))
        have RC := hid (MapKept.heap_alloc X (.cells fourV 9)).1
        have HQc := hid sz
        have HB := hid (bx_low HB.out bl)
        clear bl sz
        refine Or.inl ⟨_, .slice (some ⟨X.heap.size, 0, none⟩) 4 4, X.alloc (.cells fourV 9), rfl, rfl, by simp [go_sem, fourV], trivial, ?_⟩
        refine pick_frame (by simp [go_sem]; exact rfl) ?_
        obtain ⟨qc, hq⟩ : ∃ q, X.heap.size = q := ⟨_, rfl⟩
        generalize X.alloc (.cells fourV 9) = Z1 at *
        rw [hq] at RC HQc ⊢
        clear hq
        obtain ⟨y, -, hy⟩ := four_get m1 hm1 hM1
        refine pick_op (i := 7) (v := .pointer (some ⟨qc, m1.toNat, none⟩)) (by kernel_rfl) rfl (by kernel_rfl) (by kernel_rfl) rfl rfl (fun w' hw => by simp [go_sem, hm1, hM1]) trivial (by simp [go_sem]; exact rfl) ?_
        refine pick_more (fun w => w.cell? ⟨qc, m1.toNat, none⟩ = some (.string y)) (fun _ _ => trivial) ?_
        refine pick_op (i := 8) (v := .string y) (by kernel_rfl) rfl (by kernel_rfl) (by kernel_rfl) rfl rfl (fun w' hw => by simp [go_sem, hw]) ((cell_of_heap RC.out m1.toNat).trans hy) (by simp [go_sem]; exact rfl) ?_
        exact pick_join HL.out HQQ.out (by kernel_rfl) (by simp only [HA.out]; simp [go_sem]) (K1110120.out _ _ (hid (by have := HP.out; omega)) HB qa adb lb cpb OA qc RC HQc m1 y hy m2)
      · refine Or.inr ⟨_, 13, #[.pointer (some ⟨d.B, 0, none⟩), .int .i64 4], rfl, rfl, by simp [go_sem], ?_⟩
        refine (rdr_pick HB.out.rd (by have := H0.out.2.1; have := HP.out; omega) 4 (by decide)).mono ?_
        rintro e Z1 ⟨m3, rfl, hm3, hM3, hr, hg, -, -⟩
        have OA := hid (g_grew OA.out HB.out.lo.1 (by rw [H0.out.2.2]; exact HB.out.lo.1) hg)
        have HB := hid (bx_pick HB.out hr hg H0.out.2.2)
        clear hr hg
        refine ⟨_, rfl, trivial, ?_⟩
        refine pick_frame (by simp [go_sem]; exact rfl) ?_
        have hwr : IntKind.i64.wrap (1 + m3) = 1 + m3 := by rw [IntKind.wrap_i64]; omega
        refine pick_op (i := 13) (v := .int .i64 (1 + m3)) (by kernel_rfl) rfl (by kernel_rfl) (by kernel_rfl) rfl rfl (fun w' hw => by simp [go_sem, hwr]) trivial (by simp [go_sem]; exact rfl) ?_
        clear hwr
        exact pick_join HL.out HQQ.out (by kernel_rfl) (by simp only [HA.out]; simp [go_sem]) (K1110030.out _ _ (hid (by have := HP.out; omega)) HB qa adb lb cpb OA m1 hm1 hM1 m2 m3)
    have K1110100 : Hid (∀ (X : World) (qp : Nat) (HP : Hid (qp ≤ p + 2 + 0)) (HB : Hid (Bx d W X qp (.slice ad n cp) (.slice adt ns.length cpt) W.heap.size (W.heap.size + 1))) (qa : Nat) (adb : Option Addr) (lb cpb : Nat) (OA : Hid (X.ownsRow W.heap.size 60 3 (.slice adb lb cpb) (([] : List Ef) ++ es).length (rowZ Ef.cell 3 (([] : List Ef) ++ es)))) (qc : Nat) (RC : Hid (X.heap[qc]? = some (.cells fourV 9))) (HQc : Hid (W.heap.size ≤ qc)), wpAnyH Try.prog .any L.toArray (NoPanic QQ) (fun _ => True) 11 #[true, true, true, true, true, true, false, false, false, true, false, true, false, false, false, false, false, false, false] ((((aa.put (some 87) (.slice (some ⟨qa, 0, none⟩) 0 0)).put (some 89) (.slice ad n cp)).put (some 90) (.slice adb lb cpb)).put (some 91) (.slice (some ⟨qc, 0, none⟩) 4 4)) X) := by
      refine hid (fun X qp HP HB qa adb lb cpb OA qc RC HQc => pick_open HL.out HQQ.out (by simp only [HA.out]; simp [go_sem]; exact rfl) ?_)
      refine pick_enter (i := 6) (f := 13) (args := #[.pointer (some ⟨d.B, 0, none⟩), .int .i64 4]) rfl (by kernel_rfl) rfl rfl (by simp [go_sem]) ?_
      refine (rdr_pick HB.out.rd (by have := H0.out.2.1; have := HP.out; omega) 4 (by decide)).mono ?_
      rintro e Z1 ⟨m1, rfl, hm1, hM1, hr, hg, -, -⟩
      have OA := hid (g_grew OA.out HB.out.lo.1 (by rw [H0.out.2.2]; exact HB.out.lo.1) hg)
      have RC := hid ((hg.block qc ⟨heap_lt RC.out, by have := HQc.out; have := HB.out.lo; omega, by rw [H0.out.2.2]; have := HQc.out; have := HB.out.lo; omega⟩).trans RC.out)
      have HB := hid (bx_pick HB.out hr hg H0.out.2.2)
      clear hr hg
      refine ⟨_, rfl, trivial, ?_⟩
      refine pick_frame (by simp [go_sem]; exact rfl) ?_
      obtain ⟨y, -, hy⟩ := four_get m1 hm1 hM1
      refine pick_op (i := 7) (v := .pointer (some ⟨qc, m1.toNat, none⟩)) (by kernel_rfl) rfl (by kernel_rfl) (by kernel_rfl) rfl rfl (fun w' hw => by simp [go_sem, hm1, hM1]) trivial (by simp [go_sem]; exact rfl) ?_
      refine pick_more (fun w => w.cell? ⟨qc, m1.toNat, none⟩ = some (.string y)) (fun _ _ => trivial) ?_
      refine pick_op (i := 8) (v := .string y) (by kernel_rfl) rfl (by kernel_rfl) (by kernel_rfl) rfl rfl (fun w' hw => by simp [go_sem, hw]) ((cell_of_heap RC.out m1.toNat).trans hy) (by simp [go_sem]; exact rfl) ?_
      exact pick_join HL.out HQQ.out (by kernel_rfl) (by simp only [HA.out]; simp [go_sem]) (K1110110.out _ _ (hid (by have := HP.out; omega)) HB qa adb lb cpb OA qc RC HQc m1 y hy)
    have K1110010 : Hid (∀ (X : World) (qp : Nat) (HP : Hid (qp ≤ p + 2 + 1)) (HB : Hid (Bx d W X qp (.slice ad n cp) (.slice adt ns.length cpt) W.heap.size (W.heap.size + 1))) (qa : Nat) (adb : Option Addr) (lb cpb : Nat) (OA : Hid (X.ownsRow W.heap.size 60 3 (.slice adb lb cpb) (([] : List Ef) ++ es).length (rowZ Ef.cell 3 (([] : List Ef) ++ es)))) (m1 : Int) (hm1 : 0 ≤ m1) (hM1 : m1 < 4), wpAnyH Try.prog .any L.toArray (NoPanic QQ) (fun _ => True) 11 #[true, true, true, true, false, true, true, false, false, true, false, true, false, false, false, false, false, false, false] ((((aa.put (some 87) (.slice (some ⟨qa, 0, none⟩) 0 0)).put (some 89) (.slice ad n cp)).put (some 90) (.slice adb lb cpb)).put (some 93) (.int .i64 m1)) X) := by
      refine hid (fun X qp HP HB qa adb lb cpb OA m1 hm1 hM1 => pick_open HL.out HQQ.out (by simp only [HA.out]; simp [go_sem]; exact rfl) ?_)
      refine pick_two (i := 4) (j := 10) (by kernel_rfl) ?_ ?_
      · have bl : Below X.heap.size X (X.alloc (.cells fourV 9)) := (Below.refl _ _).alloc (Nat.le_refl _) _
        have sz := HB.out.gr.size
        have OA := hid (OA.out.alloc (.cells fourV 9))
        have RC := hid (MapKept.heap_alloc X (.cells fourV 9)).1
        have HQc := hid sz
        have HB := hid (bx_low HB.out bl)
        clear bl sz
        refine Or.inl ⟨_, .slice (some ⟨X.heap.size, 0, none⟩) 4 4, X.alloc (.cells fourV 9), rfl, rfl, by simp [go_sem, fourV], trivial, ?_⟩
        refine pick_frame (by simp [go_sem]; exact rfl) ?_
        obtain ⟨qc, hq⟩ : ∃ q, X.heap.size = q := ⟨_, rfl⟩
        generalize X.alloc (.cells fourV 9) = Z1 at *
        rw [hq] at RC HQc ⊢
        clear hq
        obtain ⟨y, -, hy⟩ := four_get m1 hm1 hM1
        refine pick_op (i := 7) (v := .pointer (some ⟨qc, m1.toNat, none⟩)) (by kernel_rfl) rfl (by kernel_rfl) (by kernel_rfl) rfl rfl (fun w' hw => by simp [go_sem, hm1, hM1]) trivial (by simp [go_sem]; exact rfl) ?_
        refine pick_more (fun w => w.cell? ⟨qc, m1.toNat, none⟩ = some (.string y)) (fun _ _ => trivial) ?_
        refine pick_op (i := 8) (v := .string y) (by kernel_rfl) rfl (by kernel_rfl) (by kernel_rfl) rfl rfl (fun w' hw => by simp [go_sem, hw]) ((cell_of_heap RC.out m1.toNat).trans hy) (by simp [go_sem]; exact rfl) ?_
        exact pick_join HL.out HQQ.out (by kernel_rfl) (by simp only [HA.out]; simp [go_sem]) (K1110110.out _ _ (hid (by have := HP.out; omega)) HB qa adb lb cpb OA qc RC HQc m1 y hy)
      · refine Or.inr ⟨_, 13, #[.pointer (some ⟨d.B, 0, none⟩), .int .i64 6], rfl, rfl, by simp [go_sem], ?_⟩
        refine (rdr_pick HB.out.rd (by have := H0.out.2.1; have := HP.out; omega) 6 (by decide)).mono ?_
        rintro e Z1 ⟨m2, rfl, hm2, hM2, hr, hg, -, -⟩
        have OA := hid (g_grew OA.out HB.out.lo.1 (by rw [H0.out.2.2]; exact HB.out.lo.1) hg)
        have HB := hid (bx_pick HB.out hr hg H0.out.2.2)
        clear hr hg
        refine ⟨_, rfl, trivial, ?_⟩
        refine pick_frame (by simp [go_sem]; exact rfl) ?_
        exact pick_join HL.out HQQ.out (by kernel_rfl) (by simp only [HA.out]; simp [go_sem]) (K1110020.out _ _ (hid (by have := HP.out; omega)) HB qa adb lb cpb OA m1 hm1 hM1 m2)
    have K1100100 : Hid (∀ (X : World) (qp : Nat) (HP : Hid (qp ≤ p + 2 + 0)) (HB : Hid (Bx d W X qp (.slice ad n cp) (.slice adt ns.length cpt) W.heap.size (W.heap.size + 1))) (qa : Nat) (OA : Hid (X.ownsRow W.heap.size 60 3 (.slice (some ⟨qa, 0, none⟩) 0 0) ([] : List Ef).length (rowZ Ef.cell 3 []))) (qc : Nat) (RC : Hid (X.heap[qc]? = some (.cells fourV 9))) (HQc : Hid (W.heap.size ≤ qc)), wpAnyH Try.prog .any L.toArray (NoPanic QQ) (fun _ => True) 12 #[true, true, true, false, true, true, false, false, false, true, false, true, false, false, false, false, false, false, false] (((aa.put (some 87) (.slice (some ⟨qa, 0, none⟩) 0 0)).put (some 89) (.slice ad n cp)).put (some 91) (.slice (some ⟨qc, 0, none⟩) 4 4)) X) := by
      refine hid (fun X qp HP HB qa OA qc RC HQc => pick_open HL.out HQQ.out (by simp only [HA.out]; simp [go_sem]; exact rfl) ?_)
      obtain ⟨vb, Z1, hrun, hown, hgr⟩ := app_row (d := d) ef_one Try.underlying42 hie he0 he1 he2 rfl (by decide) (by decide) OA.out (HE.out.1.1.grew HB.out.gr) (by have := HE.out.2; simp; omega) HB.out.gr.size 42
      have RC := hid ((hgr.block qc (heap_lt RC.out) (own_ne OA.out RC.out (by decide))).trans RC.out)
      have HB := hid (bx_own HB.out H0.out.1 OA.out hgr)
      obtain ⟨adb, lb, cpb, hv⟩ := slice_of hown
      subst hv
      have OA := hid hown
      clear hown hgr
      refine pick_make (i := 3) (v := .slice adb lb cpb) (w1 := Z1) rfl (by kernel_rfl) rfl rfl (append_runN (s := .tmp 87) (x := .tmp 89) (t := 42) rfl rfl rfl hrun) trivial (by simp [go_sem]; exact rfl) ?_
      clear hrun
      exact pick_join HL.out HQQ.out (by kernel_rfl) (by simp only [HA.out]; simp [go_sem]) (K1110100.out _ _ HP HB qa adb lb cpb OA qc RC HQc)
    have K1110000 : Hid (∀ (X : World) (qp : Nat) (HP : Hid (qp ≤ p + 2 + 0)) (HB : Hid (Bx d W X qp (.slice ad n cp) (.slice adt ns.length cpt) W.heap.size (W.heap.size + 1))) (qa : Nat) (adb : Option Addr) (lb cpb : Nat) (OA : Hid (X.ownsRow W.heap.size 60 3 (.slice adb lb cpb) (([] : List Ef) ++ es).length (rowZ Ef.cell 3 (([] : List Ef) ++ es)))), wpAnyH Try.prog .any L.toArray (NoPanic QQ) (fun _ => True) 12 #[true, true, true, true, false, true, false, false, false, true, false, true, false, false, false, false, false, false, false] (((aa.put (some 87) (.slice (some ⟨qa, 0, none⟩) 0 0)).put (some 89) (.slice ad n cp)).put (some 90) (.slice adb lb cpb)) X) := by
      refine hid (fun X qp HP HB qa adb lb cpb OA => pick_open HL.out HQQ.out (by simp only [HA.out]; simp [go_sem]; exact rfl) ?_)
      refine pick_two (i := 4) (j := 6) (by kernel_rfl) ?_ ?_
      · have bl : Below X.heap.size X (X.alloc (.cells fourV 9)) := (Below.refl _ _).alloc (Nat.le_refl _) _
        have sz := HB.out.gr.size
        have OA := hid (OA.out.alloc (.cells fourV 9))
        have RC := hid (MapKept.heap_alloc X (.cells fourV 9)).1
        have HQc := hid sz
        have HB := hid (bx_low HB.out bl)
        clear bl sz
        refine Or.inl ⟨_, .slice (some ⟨X.heap.size, 0, none⟩) 4 4, X.alloc (.cells fourV 9), rfl, rfl, by simp [go_sem, fourV], trivial, ?_⟩
        refine pick_frame (by simp [go_sem]; exact rfl) ?_
        obtain ⟨qc, hq⟩ : ∃ q, X.heap.size = q := ⟨_, rfl⟩
        generalize X.alloc (.cells fourV 9) = Z1 at *
        rw [hq] at RC HQc ⊢
        clear hq
        exact pick_join HL.out HQQ.out (by kernel_rfl) (by simp only [HA.out]; simp [go_sem]) (K1110100.out _ _ HP HB qa adb lb cpb OA qc RC HQc)
      · refine Or.inr ⟨_, 13, #[.pointer (some ⟨d.B, 0, none⟩), .int .i64 4], rfl, rfl, by simp [go_sem], ?_⟩
        refine (rdr_pick HB.out.rd (by have := H0.out.2.1; have := HP.out; omega) 4 (by decide)).mono ?_
        rintro e Z1 ⟨m1, rfl, hm1, hM1, hr, hg, -, -⟩
        have OA := hid (g_grew OA.out HB.out.lo.1 (by rw [H0.out.2.2]; exact HB.out.lo.1) hg)
        have HB := hid (bx_pick HB.out hr hg H0.out.2.2)
        clear hr hg
        refine ⟨_, rfl, trivial, ?_⟩
        refine pick_frame (by simp [go_sem]; exact rfl) ?_
        exact pick_join HL.out HQQ.out (by kernel_rfl) (by simp only [HA.out]; simp [go_sem]) (K1110010.out _ _ (hid (by have := HP.out; omega)) HB qa adb lb cpb OA m1 hm1 hM1)
    have K1100000 : Hid (∀ (X : World) (qp : Nat) (HP : Hid (qp ≤ p + 2 + 0)) (HB : Hid (Bx d W X qp (.slice ad n cp) (.slice adt ns.length cpt) W.heap.size (W.heap.size + 1))) (qa : Nat) (OA : Hid (X.ownsRow W.heap.size 60 3 (.slice (some ⟨qa, 0, none⟩) 0 0) ([] : List Ef).length (rowZ Ef.cell 3 []))), wpAnyH Try.prog .any L.toArray (NoPanic QQ) (fun _ => True) 13 #[true, true, true, false, false, true, false, false, false, true, false, true, false, false, false, false, false, false, false] ((aa.put (some 87) (.slice (some ⟨qa, 0, none⟩) 0 0)).put (some 89) (.slice ad n cp)) X) := by
      refine hid (fun X qp HP HB qa OA => pick_open HL.out HQQ.out (by simp only [HA.out]; simp [go_sem]; exact rfl) ?_)
      refine pick_two (i := 3) (j := 4) (by kernel_rfl) ?_ ?_
      · obtain ⟨vb, Z1, hrun, hown, hgr⟩ := app_row (d := d) ef_one Try.underlying42 hie he0 he1 he2 rfl (by decide) (by decide) OA.out (HE.out.1.1.grew HB.out.gr) (by have := HE.out.2; simp; omega) HB.out.gr.size 42
        have HB := hid (bx_own HB.out H0.out.1 OA.out hgr)
        obtain ⟨adb, lb, cpb, hv⟩ := slice_of hown
        subst hv
        have OA := hid hown
        clear hown hgr
        refine Or.inl ⟨_, .slice adb lb cpb, Z1, rfl, rfl, append_runN (s := .tmp 87) (x := .tmp 89) (t := 42) rfl rfl rfl hrun, trivial, ?_⟩
        refine pick_frame (by simp [go_sem]; exact rfl) ?_
        clear hrun
        exact pick_join HL.out HQQ.out (by kernel_rfl) (by simp only [HA.out]; simp [go_sem]) (K1110000.out _ _ HP HB qa adb lb cpb OA)
      · have bl : Below X.heap.size X (X.alloc (.cells fourV 9)) := (Below.refl _ _).alloc (Nat.le_refl _) _
        have sz := HB.out.gr.size
        have OA := hid (OA.out.alloc (.cells fourV 9))
        have RC := hid (MapKept.heap_alloc X (.cells fourV 9)).1
        have HQc := hid sz
        have HB := hid (bx_low HB.out bl)
        clear bl sz
        refine Or.inl ⟨_, .slice (some ⟨X.heap.size, 0, none⟩) 4 4, X.alloc (.cells fourV 9), rfl, rfl, by simp [go_sem, fourV], trivial, ?_⟩
        refine pick_frame (by simp [go_sem]; exact rfl) ?_
        obtain ⟨qc, hq⟩ : ∃ q, X.heap.size = q := ⟨_, rfl⟩
        generalize X.alloc (.cells fourV 9) = Z1 at *
        rw [hq] at RC HQc ⊢
        clear hq
        exact pick_join HL.out HQQ.out (by kernel_rfl) (by simp only [HA.out]; simp [go_sem]) (K1100100.out _ _ HP HB qa OA qc RC HQc)
    have K0100100 : Hid (∀ (X : World) (qp : Nat) (HP : Hid (qp ≤ p + 2 + 0)) (HB : Hid (Bx d W X qp (.slice ad n cp) (.slice adt ns.length cpt) W.heap.size (W.heap.size + 1))) (qc : Nat) (RC : Hid (X.heap[qc]? = some (.cells fourV 9))) (HQc : Hid (W.heap.size ≤ qc)), wpAnyH Try.prog .any L.toArray (NoPanic QQ) (fun _ => True) 13 #[false, true, true, false, true, true, false, false, false, true, false, true, false, false, false, false, false, false, false] ((aa.put (some 89) (.slice ad n cp)).put (some 91) (.slice (some ⟨qc, 0, none⟩) 4 4)) X) := by
      refine hid (fun X qp HP HB qc RC HQc => pick_open HL.out HQQ.out (by simp only [HA.out]; simp [go_sem]; exact rfl) ?_)
      have bl : Below X.heap.size X (X.alloc (.cells #[] 60)) := (Below.refl _ _).alloc (Nat.le_refl _) _
      have sz := HB.out.gr.size
      have RC := hid ((bl.block qc (heap_lt RC.out)).trans RC.out)
      have OA := hid (effs_made (X := X) (B := W.heap.size) sz)
      have HB := hid (bx_low HB.out bl)
      clear bl sz
      refine pick_make (i := 0) (v := .slice (some ⟨X.heap.size, 0, none⟩) 0 0) (w1 := X.alloc (.cells #[] 60)) rfl (by kernel_rfl) rfl rfl (by simp [go_sem]) trivial (by simp [go_sem]; exact rfl) ?_
      obtain ⟨qa, hq⟩ : ∃ q, X.heap.size = q := ⟨_, rfl⟩
      generalize X.alloc (.cells #[] 60) = Z1 at *
      rw [hq] at OA ⊢
      clear hq
      exact pick_join HL.out HQQ.out (by kernel_rfl) (by simp only [HA.out]; simp [go_sem]) (K1100100.out _ _ HP HB qa OA qc RC HQc)
    have K1000100 : Hid (∀ (X : World) (qp : Nat) (HP : Hid (qp ≤ p + 2 + 0)) (HB : Hid (Bx d W X qp (.slice ad n cp) (.slice adt ns.length cpt) W.heap.size (W.heap.size + 1))) (qa : Nat) (OA : Hid (X.ownsRow W.heap.size 60 3 (.slice (some ⟨qa, 0, none⟩) 0 0) ([] : List Ef).length (rowZ Ef.cell 3 []))) (qc : Nat) (RC : Hid (X.heap[qc]? = some (.cells fourV 9))) (HQc : Hid (W.heap.size ≤ qc)), wpAnyH Try.prog .any L.toArray (NoPanic QQ) (fun _ => True) 13 #[true, true, false, false, true, true, false, false, false, true, false, true, false, false, false, false, false, false, false] ((aa.put (some 87) (.slice (some ⟨qa, 0, none⟩) 0 0)).put (some 91) (.slice (some ⟨qc, 0, none⟩) 4 4)) X) := by
      refine hid (fun X qp HP HB qa OA qc RC HQc => pick_open HL.out HQQ.out (by simp only [HA.out]; simp [go_sem]; exact rfl) ?_)
      have hb0 := cell_of_heap HB.out.box 0
      refine pick_make (i := 2) (v := .slice ad n cp) (w1 := X) rfl (by kernel_rfl) rfl rfl (by simp [go_sem, hb0]) trivial (by simp [go_sem]; exact rfl) ?_
      clear hb0
      exact pick_join HL.out HQQ.out (by kernel_rfl) (by simp only [HA.out]; simp [go_sem]) (K1100100.out _ _ HP HB qa OA qc RC HQc)
    have K0100000 : Hid (∀ (X : World) (qp : Nat) (HP : Hid (qp ≤ p + 2 + 0)) (HB : Hid (Bx d W X qp (.slice ad n cp) (.slice adt ns.length cpt) W.heap.size (W.heap.size + 1))), wpAnyH Try.prog .any L.toArray (NoPanic QQ) (fun _ => True) 14 #[false, true, true, false, false, true, false, false, false, true, false, true, false, false, false, false, false, false, false] (aa.put (some 89) (.slice ad n cp)) X) := by
      refine hid (fun X qp HP HB => pick_open HL.out HQQ.out (by simp only [HA.out]; simp [go_sem]; exact rfl) ?_)
      refine pick_two (i := 0) (j := 4) (by kernel_rfl) ?_ ?_
      · have bl : Below X.heap.size X (X.alloc (.cells #[] 60)) := (Below.refl _ _).alloc (Nat.le_refl _) _
        have sz := HB.out.gr.size
        have OA := hid (effs_made (X := X) (B := W.heap.size) sz)
        have HB := hid (bx_low HB.out bl)
        clear bl sz
        refine Or.inl ⟨_, .slice (some ⟨X.heap.size, 0, none⟩) 0 0, X.alloc (.cells #[] 60), rfl, rfl, by simp [go_sem], trivial, ?_⟩
        refine pick_frame (by simp [go_sem]; exact rfl) ?_
        obtain ⟨qa, hq⟩ : ∃ q, X.heap.size = q := ⟨_, rfl⟩
        generalize X.alloc (.cells #[] 60) = Z1 at *
        rw [hq] at OA ⊢
        clear hq
        exact pick_join HL.out HQQ.out (by kernel_rfl) (by simp only [HA.out]; simp [go_sem]) (K1100000.out _ _ HP HB qa OA)
      · have bl : Below X.heap.size X (X.alloc (.cells fourV 9)) := (Below.refl _ _).alloc (Nat.le_refl _) _
        have sz := HB.out.gr.size
        have RC := hid (MapKept.heap_alloc X (.cells fourV 9)).1
        have HQc := hid sz
        have HB := hid (bx_low HB.out bl)
        clear bl sz
        refine Or.inl ⟨_, .slice (some ⟨X.heap.size, 0, none⟩) 4 4, X.alloc (.cells fourV 9), rfl, rfl, by simp [go_sem, fourV], trivial, ?_⟩
        refine pick_frame (by simp [go_sem]; exact rfl) ?_
        obtain ⟨qc, hq⟩ : ∃ q, X.heap.size = q := ⟨_, rfl⟩
        generalize X.alloc (.cells fourV 9) = Z1 at *
        rw [hq] at RC HQc ⊢
        clear hq
        exact pick_join HL.out HQQ.out (by kernel_rfl) (by simp only [HA.out]; simp [go_sem]) (K0100100.out _ _ HP HB qc RC HQc)
    have K1000000 : Hid (∀ (X : World) (qp : Nat) (HP : Hid (qp ≤ p + 2 + 0)) (HB : Hid (Bx d W X qp (.slice ad n cp) (.slice adt ns.length cpt) W.heap.size (W.heap.size + 1))) (qa : Nat) (OA : Hid (X.ownsRow W.heap.size 60 3 (.slice (some ⟨qa, 0, none⟩) 0 0) ([] : List Ef).length (rowZ Ef.cell 3 []))), wpAnyH Try.prog .any L.toArray (NoPanic QQ) (fun _ => True) 14 #[true, true, false, false, false, true, false, false, false, true, false, true, false, false, false, false, false, false, false] (aa.put (some 87) (.slice (some ⟨qa, 0, none⟩) 0 0)) X) := by
      refine hid (fun X qp HP HB qa OA => pick_open HL.out HQQ.out (by simp only [HA.out]; simp [go_sem]; exact rfl) ?_)
      refine pick_two (i := 2) (j := 4) (by kernel_rfl) ?_ ?_
      · have hb0 := cell_of_heap HB.out.box 0
        refine Or.inl ⟨_, .slice ad n cp, X, rfl, rfl, by simp [go_sem, hb0], trivial, ?_⟩
        refine pick_frame (by simp [go_sem]; exact rfl) ?_
        clear hb0
        exact pick_join HL.out HQQ.out (by kernel_rfl) (by simp only [HA.out]; simp [go_sem]) (K1100000.out _ _ HP HB qa OA)
      · have bl : Below X.heap.size X (X.alloc (.cells fourV 9)) := (Below.refl _ _).alloc (Nat.le_refl _) _
        have sz := HB.out.gr.size
        have OA := hid (OA.out.alloc (.cells fourV 9))
        have RC := hid (MapKept.heap_alloc X (.cells fourV 9)).1
        have HQc := hid sz
        have HB := hid (bx_low HB.out bl)
        clear bl sz
        refine Or.inl ⟨_, .slice (some ⟨X.heap.size, 0, none⟩) 4 4, X.alloc (.cells fourV 9), rfl, rfl, by simp [go_sem, fourV], trivial, ?_⟩
        refine pick_frame (by simp [go_sem]; exact rfl) ?_
        obtain ⟨qc, hq⟩ : ∃ q, X.heap.size = q := ⟨_, rfl⟩
        generalize X.alloc (.cells fourV 9) = Z1 at *
        rw [hq] at RC HQc ⊢
        clear hq
        exact pick_join HL.out HQQ.out (by kernel_rfl) (by simp only [HA.out]; simp [go_sem]) (K1000100.out _ _ HP HB qa OA qc RC HQc)
    have K0000100 : Hid (∀ (X : World) (qp : Nat) (HP : Hid (qp ≤ p + 2 + 0)) (HB : Hid (Bx d W X qp (.slice ad n cp) (.slice adt ns.length cpt) W.heap.size (W.heap.size + 1))) (qc : Nat) (RC : Hid (X.heap[qc]? = some (.cells fourV 9))) (HQc : Hid (W.heap.size ≤ qc)), wpAnyH Try.prog .any L.toArray (NoPanic QQ) (fun _ => True) 14 #[false, true, false, false, true, true, false, false, false, true, false, true, false, false, false, false, false, false, false] (aa.put (some 91) (.slice (some ⟨qc, 0, none⟩) 4 4)) X) := by
      refine hid (fun X qp HP HB qc RC HQc => pick_open HL.out HQQ.out (by simp only [HA.out]; simp [go_sem]; exact rfl) ?_)
      refine pick_two (i := 0) (j := 2) (by kernel_rfl) ?_ ?_
      · have bl : Below X.heap.size X (X.alloc (.cells #[] 60)) := (Below.refl _ _).alloc (Nat.le_refl _) _
        have sz := HB.out.gr.size
        have RC := hid ((bl.block qc (heap_lt RC.out)).trans RC.out)
        have OA := hid (effs_made (X := X) (B := W.heap.size) sz)
        have HB := hid (bx_low HB.out bl)
        clear bl sz
        refine Or.inl ⟨_, .slice (some ⟨X.heap.size, 0, none⟩) 0 0, X.alloc (.cells #[] 60), rfl, rfl, by simp [go_sem], trivial, ?_⟩
        refine pick_frame (by simp [go_sem]; exact rfl) ?_
        obtain ⟨qa, hq⟩ : ∃ q, X.heap.size = q := ⟨_, rfl⟩
        generalize X.alloc (.cells #[] 60) = Z1 at *
        rw [hq] at OA ⊢
        clear hq
        exact pick_join HL.out HQQ.out (by kernel_rfl) (by simp only [HA.out]; simp [go_sem]) (K1000100.out _ _ HP HB qa OA qc RC HQc)
      · have hb0 := cell_of_heap HB.out.box 0
        refine Or.inl ⟨_, .slice ad n cp, X, rfl, rfl, by simp [go_sem, hb0], trivial, ?_⟩
        refine pick_frame (by simp [go_sem]; exact rfl) ?_
        clear hb0
        exact pick_join HL.out HQQ.out (by kernel_rfl) (by simp only [HA.out]; simp [go_sem]) (K0100100.out _ _ HP HB qc RC HQc)
    refine pick_open HL.out HQQ.out HA.out ?_
    have HP := hid (show p + 1 + 1 ≤ p + 2 + 0 by omega)
    refine pick_three (i := 0) (j := 2) (k := 4) (by kernel_rfl) ?_ ?_ ?_
    · have bl : Below X.heap.size X (X.alloc (.cells #[] 60)) := (Below.refl _ _).alloc (Nat.le_refl _) _
      have sz := HB.out.gr.size
      have OA := hid (effs_made (X := X) (B := W.heap.size) sz)
      have HB := hid (bx_low HB.out bl)
      clear bl sz
      refine Or.inl ⟨_, .slice (some ⟨X.heap.size, 0, none⟩) 0 0, X.alloc (.cells #[] 60), rfl, rfl, by simp [go_sem], trivial, ?_⟩
      refine pick_frame (by simp [go_sem]; exact rfl) ?_
      obtain ⟨qa, hq⟩ : ∃ q, X.heap.size = q := ⟨_, rfl⟩
      generalize X.alloc (.cells #[] 60) = Z1 at *
      rw [hq] at OA ⊢
      clear hq
      exact pick_join HL.out HQQ.out (by kernel_rfl) (by simp only [HA.out]; simp [go_sem]) (K1000000.out _ _ HP HB qa OA)
    · have hb0 := cell_of_heap HB.out.box 0
      refine Or.inl ⟨_, .slice ad n cp, X, rfl, rfl, by simp [go_sem, hb0], trivial, ?_⟩
      refine pick_frame (by simp [go_sem]; exact rfl) ?_
      clear hb0
      exact pick_join HL.out HQQ.out (by kernel_rfl) (by simp only [HA.out]; simp [go_sem]) (K0100000.out _ _ HP HB)
    · have bl : Below X.heap.size X (X.alloc (.cells fourV 9)) := (Below.refl _ _).alloc (Nat.le_refl _) _
      have sz := HB.out.gr.size
      have RC := hid (MapKept.heap_alloc X (.cells fourV 9)).1
      have HQc := hid sz
      have HB := hid (bx_low HB.out bl)
      clear bl sz
      refine Or.inl ⟨_, .slice (some ⟨X.heap.size, 0, none⟩) 4 4, X.alloc (.cells fourV 9), rfl, rfl, by simp [go_sem, fourV], trivial, ?_⟩
      refine pick_frame (by simp [go_sem]; exact rfl) ?_
      obtain ⟨qc, hq⟩ : ∃ q, X.heap.size = q := ⟨_, rfl⟩
      generalize X.alloc (.cells fourV 9) = Z1 at *
      rw [hq] at RC HQc ⊢
      clear hq
      exact pick_join HL.out HQQ.out (by kernel_rfl) (by simp only [HA.out]; simp [go_sem]) (K0000100.out _ _ HP HB qc RC HQc)
  · obtain ⟨-, hrc, -, -⟩ := row_fz HS4.out.row
    have hkc : (k : Int) ≤ (cpr : Int) := by omega
    clear hrc
    have NT := hid (row_take (d := d) (k := k) HS4.out.row HS4.out.lo.1 (by rw [H0.out.2.2]; exact HS4.out.lo.1) (by omega) (by omega) HS4.out.sml)
    have BX := hid HS4.out.bx
    have b0 : X3.cell? ⟨W.heap.size, 0, none⟩ = some (.slice ad n cp) := cell_of_heap BX.out.box 0
    have b1 : X3.cell? ⟨W.heap.size, 1, none⟩ = some (.slice adt ns.length cpt) := cell_of_heap BX.out.box 1
    have r0 : X3.cell? ⟨W.heap.size + 1, 0, none⟩ = some (.slice none 0 0) := cell_of_heap BX.out.res 0
    have r1 : X3.cell? ⟨W.heap.size + 1, 1, none⟩ = some (.slice none 0 0) := cell_of_heap BX.out.res 1
    have fb0 := frozen_of_heap BX.out.box 0
    have fb1 := frozen_of_heap BX.out.box 1
    have fr0 := frozen_of_heap BX.out.res 0
    have fr1 := frozen_of_heap BX.out.res 1
    have LS := hid (last_store BX.out H0.out.1 ⟨_, _, _, rfl⟩ NT.out 1 (.slice (some ⟨q, 0, none⟩) k cpr) (.slice ad n cp) (.slice (some ⟨q, 0, none⟩) k cpr))
    obtain ⟨Y9, hY9⟩ : ∃ Y9, X3.setCell ⟨W.heap.size, 1, none⟩ (.slice (some ⟨q, 0, none⟩) k cpr) = Y9 := ⟨_, rfl⟩
    have hx9 := set_heap (i := 1) (v := .slice (some ⟨q, 0, none⟩) k cpr) BX.out.box
    have hr9 := (Below.heap_setCell X3 ⟨W.heap.size, 1, none⟩ (.slice (some ⟨q, 0, none⟩) k cpr) (W.heap.size + 1) (by show W.heap.size + 1 ≠ W.heap.size; omega)).trans BX.out.res
    rw [hY9] at LS hx9 hr9
    have x0 : Y9.cell? ⟨W.heap.size, 0, none⟩ = some (.slice ad n cp) := cell_of_heap hx9 0
    have x1 : Y9.cell? ⟨W.heap.size, 1, none⟩ = some (.slice (some ⟨q, 0, none⟩) k cpr) := cell_of_heap hx9 1
    have y0 : Y9.cell? ⟨W.heap.size + 1, 0, none⟩ = some (.slice none 0 0) := cell_of_heap hr9 0
    have y1 : Y9.cell? ⟨W.heap.size + 1, 1, none⟩ = some (.slice none 0 0) := cell_of_heap hr9 1
    have z0 := frozen_of_heap hr9 0
    have z1 := frozen_of_heap hr9 1
    have HY9 := hid hY9
    clear hY9 hx9 hr9
    go_upto_region 26 with fail
    rw [HY9.out]
    clear HY9 b0 b1 r0 r1 fb0 fb1 fr0 fr1
    go_wp2_with fail
    refine bodyPost_ret (v := .agg #[.slice ad n cp, .slice (some ⟨q, 0, none⟩) k cpr]) ?_ rfl ?_
    · simp [results, Try.results30, go_sem, y0, y1]
    · exact ⟨_, _, _, _, _, _, rfl, LS.out.1, by rw [List.length_take]; have := HT.out.2; omega, LS.out.2.1, by omega, LS.out.2.2, effs_cut HE.out LS.out.2.2 (by omega)⟩
  · have BX := hid HS4.out.bx
    have NT := hid (HN.out.grew HS4.out.gr)
    have hec : (ad = none ∧ n = 0 ∧ cp = 0) ∨ (∃ b off, ad = some ⟨b, off, none⟩) ∧ n ≤ cp := by
      rcases HE.out.1.1 with ⟨h1, h2⟩ | ⟨b, off, cap, h1, h2, -⟩
      · cases h1; exact Or.inl ⟨rfl, rfl, rfl⟩
      · simp only [Value.slice.injEq] at h1; obtain ⟨rfl, rfl, rfl⟩ := h1; exact Or.inr ⟨⟨b, off, rfl⟩, h2⟩
    rcases hec with ⟨rfl, rfl, rfl⟩ | ⟨⟨eb, eo, rfl⟩, hnc⟩
    · have b0 : X3.cell? ⟨W.heap.size, 0, none⟩ = some (.slice none 0 0) := cell_of_heap BX.out.box 0
      have b1 : X3.cell? ⟨W.heap.size, 1, none⟩ = some (.slice adt ns.length cpt) := cell_of_heap BX.out.box 1
      have r0 : X3.cell? ⟨W.heap.size + 1, 0, none⟩ = some (.slice none 0 0) := cell_of_heap BX.out.res 0
      have r1 : X3.cell? ⟨W.heap.size + 1, 1, none⟩ = some (.slice none 0 0) := cell_of_heap BX.out.res 1
      have fb0 := frozen_of_heap BX.out.box 0
      have fb1 := frozen_of_heap BX.out.box 1
      have fr0 := frozen_of_heap BX.out.res 0
      have fr1 := frozen_of_heap BX.out.res 1
      have LS := hid (last_store BX.out H0.out.1 ⟨_, _, _, rfl⟩ NT.out 0 (.slice none 0 0) (.slice none 0 0) (.slice adt ns.length cpt))
      obtain ⟨Y9, hY9⟩ : ∃ Y9, X3.setCell ⟨W.heap.size, 0, none⟩ (.slice none 0 0) = Y9 := ⟨_, rfl⟩
      have hx9 := set_heap (i := 0) (v := .slice none 0 0) BX.out.box
      have hr9 := (Below.heap_setCell X3 ⟨W.heap.size, 0, none⟩ (.slice none 0 0) (W.heap.size + 1) (by show W.heap.size + 1 ≠ W.heap.size; omega)).trans BX.out.res
      rw [hY9] at LS hx9 hr9
      have x0 : Y9.cell? ⟨W.heap.size, 0, none⟩ = some (.slice none 0 0) := cell_of_heap hx9 0
      have x1 : Y9.cell? ⟨W.heap.size, 1, none⟩ = some (.slice adt ns.length cpt) := cell_of_heap hx9 1
      have y0 : Y9.cell? ⟨W.heap.size + 1, 0, none⟩ = some (.slice none 0 0) := cell_of_heap hr9 0
      have y1 : Y9.cell? ⟨W.heap.size + 1, 1, none⟩ = some (.slice none 0 0) := cell_of_heap hr9 1
      have z0 := frozen_of_heap hr9 0
      have z1 := frozen_of_heap hr9 1
      have HY9 := hid hY9
      clear hY9 hx9 hr9
      go_upto_region 29 with fail
      rw [HY9.out]
      clear HY9 b0 b1 r0 r1 fb0 fb1 fr0 fr1
      go_wp2_with fail
      refine bodyPost_ret (v := .agg #[.slice none 0 0, .slice adt ns.length cpt]) ?_ rfl ?_
      · simp [results, Try.results30, go_sem, y0, y1]
      · exact ⟨_, _, _, _, ns, _, rfl, LS.out.1, by have := HT.out.2; omega, LS.out.2.1, by omega, LS.out.2.2, effs_cut HE.out LS.out.2.2 (by omega)⟩
    · have hn4 : n ≤ 4 := by
        rcases HE.out.1.1 with ⟨h1, h2⟩ | ⟨b, off, cap, h1, h2, -⟩
        · cases h1
        · simp only [Value.slice.injEq] at h1; have := h1.2.1; have := HE.out.2; omega
      have hn5 : n = 0 ∨ n = 1 ∨ n = 2 ∨ n = 3 ∨ n = 4 := by omega
      clear hn4
      rcases hn5 with rfl | rfl | rfl | rfl | rfl
      · have hn2 : (0 : Int) ≤ (cp : Int) := by omega
        have b0 : X3.cell? ⟨W.heap.size, 0, none⟩ = some (.slice (some ⟨eb, eo, none⟩) 0 cp) := cell_of_heap BX.out.box 0
        have b1 : X3.cell? ⟨W.heap.size, 1, none⟩ = some (.slice adt ns.length cpt) := cell_of_heap BX.out.box 1
        have r0 : X3.cell? ⟨W.heap.size + 1, 0, none⟩ = some (.slice none 0 0) := cell_of_heap BX.out.res 0
        have r1 : X3.cell? ⟨W.heap.size + 1, 1, none⟩ = some (.slice none 0 0) := cell_of_heap BX.out.res 1
        have fb0 := frozen_of_heap BX.out.box 0
        have fb1 := frozen_of_heap BX.out.box 1
        have fr0 := frozen_of_heap BX.out.res 0
        have fr1 := frozen_of_heap BX.out.res 1
        have LS := hid (last_store BX.out H0.out.1 ⟨_, _, _, rfl⟩ NT.out 0 (.slice (some ⟨eb, eo, none⟩) 0 cp) (.slice (some ⟨eb, eo, none⟩) 0 cp) (.slice adt ns.length cpt))
        obtain ⟨Y9, hY9⟩ : ∃ Y9, X3.setCell ⟨W.heap.size, 0, none⟩ (.slice (some ⟨eb, eo, none⟩) 0 cp) = Y9 := ⟨_, rfl⟩
        have hx9 := set_heap (i := 0) (v := .slice (some ⟨eb, eo, none⟩) 0 cp) BX.out.box
        have hr9 := (Below.heap_setCell X3 ⟨W.heap.size, 0, none⟩ (.slice (some ⟨eb, eo, none⟩) 0 cp) (W.heap.size + 1) (by show W.heap.size + 1 ≠ W.heap.size; omega)).trans BX.out.res
        rw [hY9] at LS hx9 hr9
        have x0 : Y9.cell? ⟨W.heap.size, 0, none⟩ = some (.slice (some ⟨eb, eo, none⟩) 0 cp) := cell_of_heap hx9 0
        have x1 : Y9.cell? ⟨W.heap.size, 1, none⟩ = some (.slice adt ns.length cpt) := cell_of_heap hx9 1
        have y0 : Y9.cell? ⟨W.heap.size + 1, 0, none⟩ = some (.slice none 0 0) := cell_of_heap hr9 0
        have y1 : Y9.cell? ⟨W.heap.size + 1, 1, none⟩ = some (.slice none 0 0) := cell_of_heap hr9 1
        have z0 := frozen_of_heap hr9 0
        have z1 := frozen_of_heap hr9 1
        have HY9 := hid hY9
        clear hY9 hx9 hr9
        go_upto_region 29 with fail
        rw [HY9.out]
        clear HY9 b0 b1 r0 r1 fb0 fb1 fr0 fr1
        go_wp2_with fail
        refine bodyPost_ret (v := .agg #[.slice (some ⟨eb, eo, none⟩) 0 cp, .slice adt ns.length cpt]) ?_ rfl ?_
        · simp [results, Try.results30, go_sem, y0, y1]
        · exact ⟨_, _, _, _, ns, _, rfl, LS.out.1, by have := HT.out.2; omega, LS.out.2.1, by omega, LS.out.2.2, effs_cut HE.out LS.out.2.2 (by omega)⟩
      · have hn2 : (0 : Int) ≤ (cp : Int) := by omega
        have b0 : X3.cell? ⟨W.heap.size, 0, none⟩ = some (.slice (some ⟨eb, eo, none⟩) 1 cp) := cell_of_heap BX.out.box 0
        have b1 : X3.cell? ⟨W.heap.size, 1, none⟩ = some (.slice adt ns.length cpt) := cell_of_heap BX.out.box 1
        have r0 : X3.cell? ⟨W.heap.size + 1, 0, none⟩ = some (.slice none 0 0) := cell_of_heap BX.out.res 0
        have r1 : X3.cell? ⟨W.heap.size + 1, 1, none⟩ = some (.slice none 0 0) := cell_of_heap BX.out.res 1
        have fb0 := frozen_of_heap BX.out.box 0
        have fb1 := frozen_of_heap BX.out.box 1
        have fr0 := frozen_of_heap BX.out.res 0
        have fr1 := frozen_of_heap BX.out.res 1
        have LS := hid (last_store BX.out H0.out.1 ⟨_, _, _, rfl⟩ NT.out 0 (.slice (some ⟨eb, eo, none⟩) 0 cp) (.slice (some ⟨eb, eo, none⟩) 0 cp) (.slice adt ns.length cpt))
        obtain ⟨Y9, hY9⟩ : ∃ Y9, X3.setCell ⟨W.heap.size, 0, none⟩ (.slice (some ⟨eb, eo, none⟩) 0 cp) = Y9 := ⟨_, rfl⟩
        have hx9 := set_heap (i := 0) (v := .slice (some ⟨eb, eo, none⟩) 0 cp) BX.out.box
        have hr9 := (Below.heap_setCell X3 ⟨W.heap.size, 0, none⟩ (.slice (some ⟨eb, eo, none⟩) 0 cp) (W.heap.size + 1) (by show W.heap.size + 1 ≠ W.heap.size; omega)).trans BX.out.res
        rw [hY9] at LS hx9 hr9
        have x0 : Y9.cell? ⟨W.heap.size, 0, none⟩ = some (.slice (some ⟨eb, eo, none⟩) 0 cp) := cell_of_heap hx9 0
        have x1 : Y9.cell? ⟨W.heap.size, 1, none⟩ = some (.slice adt ns.length cpt) := cell_of_heap hx9 1
        have y0 : Y9.cell? ⟨W.heap.size + 1, 0, none⟩ = some (.slice none 0 0) := cell_of_heap hr9 0
        have y1 : Y9.cell? ⟨W.heap.size + 1, 1, none⟩ = some (.slice none 0 0) := cell_of_heap hr9 1
        have z0 := frozen_of_heap hr9 0
        have z1 := frozen_of_heap hr9 1
        have HY9 := hid hY9
        clear hY9 hx9 hr9
        go_upto_region 29 with fail
        rw [HY9.out]
        clear HY9 b0 b1 r0 r1 fb0 fb1 fr0 fr1
        go_wp2_with fail
        refine bodyPost_ret (v := .agg #[.slice (some ⟨eb, eo, none⟩) 0 cp, .slice adt ns.length cpt]) ?_ rfl ?_
        · simp [results, Try.results30, go_sem, y0, y1]
        · exact ⟨_, _, _, _, ns, _, rfl, LS.out.1, by have := HT.out.2; omega, LS.out.2.1, by omega, LS.out.2.2, effs_cut HE.out LS.out.2.2 (by omega)⟩
      · have hn2 : (1 : Int) ≤ (cp : Int) := by omega
        have b0 : X3.cell? ⟨W.heap.size, 0, none⟩ = some (.slice (some ⟨eb, eo, none⟩) 2 cp) := cell_of_heap BX.out.box 0
        have b1 : X3.cell? ⟨W.heap.size, 1, none⟩ = some (.slice adt ns.length cpt) := cell_of_heap BX.out.box 1
        have r0 : X3.cell? ⟨W.heap.size + 1, 0, none⟩ = some (.slice none 0 0) := cell_of_heap BX.out.res 0
        have r1 : X3.cell? ⟨W.heap.size + 1, 1, none⟩ = some (.slice none 0 0) := cell_of_heap BX.out.res 1
        have fb0 := frozen_of_heap BX.out.box 0
        have fb1 := frozen_of_heap BX.out.box 1
        have fr0 := frozen_of_heap BX.out.res 0
        have fr1 := frozen_of_heap BX.out.res 1
        have LS := hid (last_store BX.out H0.out.1 ⟨_, _, _, rfl⟩ NT.out 0 (.slice (some ⟨eb, eo, none⟩) 1 cp) (.slice (some ⟨eb, eo, none⟩) 1 cp) (.slice adt ns.length cpt))
        obtain ⟨Y9, hY9⟩ : ∃ Y9, X3.setCell ⟨W.heap.size, 0, none⟩ (.slice (some ⟨eb, eo, none⟩) 1 cp) = Y9 := ⟨_, rfl⟩
        have hx9 := set_heap (i := 0) (v := .slice (some ⟨eb, eo, none⟩) 1 cp) BX.out.box
        have hr9 := (Below.heap_setCell X3 ⟨W.heap.size, 0, none⟩ (.slice (some ⟨eb, eo, none⟩) 1 cp) (W.heap.size + 1) (by show W.heap.size + 1 ≠ W.heap.size; omega)).trans BX.out.res
        rw [hY9] at LS hx9 hr9
        have x0 : Y9.cell? ⟨W.heap.size, 0, none⟩ = some (.slice (some ⟨eb, eo, none⟩) 1 cp) := cell_of_heap hx9 0
        have x1 : Y9.cell? ⟨W.heap.size, 1, none⟩ = some (.slice adt ns.length cpt) := cell_of_heap hx9 1
        have y0 : Y9.cell? ⟨W.heap.size + 1, 0, none⟩ = some (.slice none 0 0) := cell_of_heap hr9 0
        have y1 : Y9.cell? ⟨W.heap.size + 1, 1, none⟩ = some (.slice none 0 0) := cell_of_heap hr9 1
        have z0 := frozen_of_heap hr9 0
        have z1 := frozen_of_heap hr9 1
        have HY9 := hid hY9
        clear hY9 hx9 hr9
        go_upto_region 29 with fail
        rw [HY9.out]
        clear HY9 b0 b1 r0 r1 fb0 fb1 fr0 fr1
        go_wp2_with fail
        refine bodyPost_ret (v := .agg #[.slice (some ⟨eb, eo, none⟩) 1 cp, .slice adt ns.length cpt]) ?_ rfl ?_
        · simp [results, Try.results30, go_sem, y0, y1]
        · exact ⟨_, _, _, _, ns, _, rfl, LS.out.1, by have := HT.out.2; omega, LS.out.2.1, by omega, LS.out.2.2, effs_cut HE.out LS.out.2.2 (by omega)⟩
      · have hn2 : (1 : Int) ≤ (cp : Int) := by omega
        have b0 : X3.cell? ⟨W.heap.size, 0, none⟩ = some (.slice (some ⟨eb, eo, none⟩) 3 cp) := cell_of_heap BX.out.box 0
        have b1 : X3.cell? ⟨W.heap.size, 1, none⟩ = some (.slice adt ns.length cpt) := cell_of_heap BX.out.box 1
        have r0 : X3.cell? ⟨W.heap.size + 1, 0, none⟩ = some (.slice none 0 0) := cell_of_heap BX.out.res 0
        have r1 : X3.cell? ⟨W.heap.size + 1, 1, none⟩ = some (.slice none 0 0) := cell_of_heap BX.out.res 1
        have fb0 := frozen_of_heap BX.out.box 0
        have fb1 := frozen_of_heap BX.out.box 1
        have fr0 := frozen_of_heap BX.out.res 0
        have fr1 := frozen_of_heap BX.out.res 1
        have LS := hid (last_store BX.out H0.out.1 ⟨_, _, _, rfl⟩ NT.out 0 (.slice (some ⟨eb, eo, none⟩) 1 cp) (.slice (some ⟨eb, eo, none⟩) 1 cp) (.slice adt ns.length cpt))
        obtain ⟨Y9, hY9⟩ : ∃ Y9, X3.setCell ⟨W.heap.size, 0, none⟩ (.slice (some ⟨eb, eo, none⟩) 1 cp) = Y9 := ⟨_, rfl⟩
        have hx9 := set_heap (i := 0) (v := .slice (some ⟨eb, eo, none⟩) 1 cp) BX.out.box
        have hr9 := (Below.heap_setCell X3 ⟨W.heap.size, 0, none⟩ (.slice (some ⟨eb, eo, none⟩) 1 cp) (W.heap.size + 1) (by show W.heap.size + 1 ≠ W.heap.size; omega)).trans BX.out.res
        rw [hY9] at LS hx9 hr9
        have x0 : Y9.cell? ⟨W.heap.size, 0, none⟩ = some (.slice (some ⟨eb, eo, none⟩) 1 cp) := cell_of_heap hx9 0
        have x1 : Y9.cell? ⟨W.heap.size, 1, none⟩ = some (.slice adt ns.length cpt) := cell_of_heap hx9 1
        have y0 : Y9.cell? ⟨W.heap.size + 1, 0, none⟩ = some (.slice none 0 0) := cell_of_heap hr9 0
        have y1 : Y9.cell? ⟨W.heap.size + 1, 1, none⟩ = some (.slice none 0 0) := cell_of_heap hr9 1
        have z0 := frozen_of_heap hr9 0
        have z1 := frozen_of_heap hr9 1
        have HY9 := hid hY9
        clear hY9 hx9 hr9
        go_upto_region 29 with fail
        rw [HY9.out]
        clear HY9 b0 b1 r0 r1 fb0 fb1 fr0 fr1
        go_wp2_with fail
        refine bodyPost_ret (v := .agg #[.slice (some ⟨eb, eo, none⟩) 1 cp, .slice adt ns.length cpt]) ?_ rfl ?_
        · simp [results, Try.results30, go_sem, y0, y1]
        · exact ⟨_, _, _, _, ns, _, rfl, LS.out.1, by have := HT.out.2; omega, LS.out.2.1, by omega, LS.out.2.2, effs_cut HE.out LS.out.2.2 (by omega)⟩
      · have hn2 : (2 : Int) ≤ (cp : Int) := by omega
        have b0 : X3.cell? ⟨W.heap.size, 0, none⟩ = some (.slice (some ⟨eb, eo, none⟩) 4 cp) := cell_of_heap BX.out.box 0
        have b1 : X3.cell? ⟨W.heap.size, 1, none⟩ = some (.slice adt ns.length cpt) := cell_of_heap BX.out.box 1
        have r0 : X3.cell? ⟨W.heap.size + 1, 0, none⟩ = some (.slice none 0 0) := cell_of_heap BX.out.res 0
        have r1 : X3.cell? ⟨W.heap.size + 1, 1, none⟩ = some (.slice none 0 0) := cell_of_heap BX.out.res 1
        have fb0 := frozen_of_heap BX.out.box 0
        have fb1 := frozen_of_heap BX.out.box 1
        have fr0 := frozen_of_heap BX.out.res 0
        have fr1 := frozen_of_heap BX.out.res 1
        have LS := hid (last_store BX.out H0.out.1 ⟨_, _, _, rfl⟩ NT.out 0 (.slice (some ⟨eb, eo, none⟩) 2 cp) (.slice (some ⟨eb, eo, none⟩) 2 cp) (.slice adt ns.length cpt))
        obtain ⟨Y9, hY9⟩ : ∃ Y9, X3.setCell ⟨W.heap.size, 0, none⟩ (.slice (some ⟨eb, eo, none⟩) 2 cp) = Y9 := ⟨_, rfl⟩
        have hx9 := set_heap (i := 0) (v := .slice (some ⟨eb, eo, none⟩) 2 cp) BX.out.box
        have hr9 := (Below.heap_setCell X3 ⟨W.heap.size, 0, none⟩ (.slice (some ⟨eb, eo, none⟩) 2 cp) (W.heap.size + 1) (by show W.heap.size + 1 ≠ W.heap.size; omega)).trans BX.out.res
        rw [hY9] at LS hx9 hr9
        have x0 : Y9.cell? ⟨W.heap.size, 0, none⟩ = some (.slice (some ⟨eb, eo, none⟩) 2 cp) := cell_of_heap hx9 0
        have x1 : Y9.cell? ⟨W.heap.size, 1, none⟩ = some (.slice adt ns.length cpt) := cell_of_heap hx9 1
        have y0 : Y9.cell? ⟨W.heap.size + 1, 0, none⟩ = some (.slice none 0 0) := cell_of_heap hr9 0
        have y1 : Y9.cell? ⟨W.heap.size + 1, 1, none⟩ = some (.slice none 0 0) := cell_of_heap hr9 1
        have z0 := frozen_of_heap hr9 0
        have z1 := frozen_of_heap hr9 1
        have HY9 := hid hY9
        clear hY9 hx9 hr9
        go_upto_region 29 with fail
        rw [HY9.out]
        clear HY9 b0 b1 r0 r1 fb0 fb1 fr0 fr1
        go_wp2_with fail
        refine bodyPost_ret (v := .agg #[.slice (some ⟨eb, eo, none⟩) 2 cp, .slice adt ns.length cpt]) ?_ rfl ?_
        · simp [results, Try.results30, go_sem, y0, y1]
        · exact ⟨_, _, _, _, ns, _, rfl, LS.out.1, by have := HT.out.2; omega, LS.out.2.1, by omega, LS.out.2.2, effs_cut HE.out LS.out.2.2 (by omega)⟩
end Go.Proofs.Ytnhofdngmbnlkaa

/- Any drawn program, over what spoiling does; its operations too are told. -/
namespace Go.Proofs.Ytnhofdngmbnlkaa
open Go.RowKit Go.Deep

/-- What spoiling does. -/
def SpoilC : Prop := ∀ (d : Dr) (W : World) (p : Nat) (ad : Option Addr) (n cp : Nat) (vt : Value) (es : List Ef) (ns : List Nd), d.G = d.B → Rdr d W p → p ≤ 900000 → EffsD d W (.slice ad n cp) es → es.length ≤ 4 → NodesD d W vt ns → Tr ns →
    Calls Try.prog 30 #[.pointer (some ⟨d.B, 0, none⟩), .agg #[.slice ad n cp, vt]] W (SpoilPostE d W p)

theorem Bx.pick {d : Dr} {W X X' : World} {q q' : Nat} {ve v1 : Value} {bp rx : Nat} (h : Bx d W X q ve v1 bp rx) (hr : Rdr d X' q') (hg : Grew d X X') (hG : d.G = d.B) : Bx d W X' q' ve v1 bp rx :=
  ⟨hr, h.gr.trans hg, (hg.block bp ⟨heap_lt h.box, by have := h.lo; omega, by rw [hG]; have := h.lo; omega⟩).trans h.box, (hg.block rx ⟨heap_lt h.res, by have := h.lo; omega, by rw [hG]; have := h.lo; omega⟩).trans h.res, h.lo⟩

/-- What lies elsewhere is not in the boxes. -/
theorem bx_not {d : Dr} {W X X' : World} {q : Nat} {ve v1 v : Value} {bp rx : Nat} {ms : List Nd} (h : Bx d W X q ve v1 bp rx) (hve : ∃ a n c, ve = .slice a n c) (hn : NodesD d X v ms) (ho : ∀ k, k ≠ bp → k ≠ rx → X'.heap[k]? = X.heap[k]?) (hs : X'.heap.size = X.heap.size) : NodesD d X' v ms := by
  obtain ⟨a, n, c, rfl⟩ := hve
  refine ⟨?_, hn.2⟩
  rcases hn.1 with hx | ⟨b, off, cap, h1, h2, rfl, h4, h5⟩
  · exact Or.inl hx
  · refine Or.inr ⟨b, 0, cap, h1, h2, rfl, ⟨by rw [hs]; exact h4.1, h4.2⟩, fun i hi => ?_⟩
    have e1 := h5 0 (by omega)
    have hb1 : b ≠ bp := fun e => by
      subst e
      rw [Nat.zero_add, cell_of_heap h.box 0] at e1
      simp at e1
      cases e1
    have hb2 : b ≠ rx := fun e => by
      subst e
      rw [Nat.zero_add, cell_of_heap h.res 0] at e1
      simp at e1
      cases e1
    exact (World.cell?_of_block (a := ⟨b, 0 + i, none⟩) (ho b hb1 hb2)).trans (h5 i hi)

/-- The program's box is written anew. -/
theorem Bx.put {d : Dr} {W X : World} {q p0 : Nat} {ve v1 : Value} {bp rx : Nat} (h : Bx d W X q ve v1 bp rx) (h0 : Rdr d W p0) (u0 u1 : Value) : Bx d W ((X.setCell ⟨bp, 0, none⟩ u0).setCell ⟨bp, 1, none⟩ u1) q u0 u1 bp rx := by
  have ho : ∀ k, k ≠ bp → ((X.setCell ⟨bp, 0, none⟩ u0).setCell ⟨bp, 1, none⟩ u1).heap[k]? = X.heap[k]? := fun k hk => (Below.heap_setCell _ ⟨bp, 1, none⟩ _ k hk).trans (Below.heap_setCell X ⟨bp, 0, none⟩ _ k hk)
  have hs : ((X.setCell ⟨bp, 0, none⟩ u0).setCell ⟨bp, 1, none⟩ u1).heap.size = X.heap.size := by simp [World.setCell]
  have hlo := h.lo
  refine ⟨⟨(ho _ (by omega)).trans h.rd.blk, fun hl => ?_⟩, ⟨h.gr.os, h.gr.tape, h.gr.output, by rw [hs]; exact h.gr.size, fun k hk => (ho k (by have := hk.1; omega)).trans (h.gr.block k hk)⟩, set_heap (set_heap h.box), (ho rx (by omega)).trans h.res, hlo⟩
  obtain ⟨b, off, ea, hq, hz⟩ := h.rd.bytes hl
  have hbl := bytes_low h0 b off ea hl
  refine ⟨b, off, ea, ⟨by rw [hs]; exact hq.1, hq.2⟩, fun i hi => ?_⟩
  obtain ⟨z, hz, h5⟩ := hz i hi
  exact ⟨z, (World.cell?_of_block (a := ⟨b, off + i, none⟩) (ho b (by omega))).trans hz, h5⟩

/-- What is told is written. -/
theorem Bx.told {d : Dr} {W X : World} {q p0 : Nat} {ve v1 v : Value} {bp rx : Nat} {ms : List Nd} (h : Bx d W X q ve v1 bp rx) (h0 : Rdr d W p0) (hve : ∃ a n c, ve = .slice a n c) (hn : NodesD d X v ms) (u0 u1 : Value) :
    NodesD d ((X.setCell ⟨rx, 0, none⟩ u0).setCell ⟨rx, 1, none⟩ u1) v ms ∧ Rdr d ((X.setCell ⟨rx, 0, none⟩ u0).setCell ⟨rx, 1, none⟩ u1) q ∧ Grew d W ((X.setCell ⟨rx, 0, none⟩ u0).setCell ⟨rx, 1, none⟩ u1) := by
  have ho : ∀ k, k ≠ rx → ((X.setCell ⟨rx, 0, none⟩ u0).setCell ⟨rx, 1, none⟩ u1).heap[k]? = X.heap[k]? := fun k hk => (Below.heap_setCell _ ⟨rx, 1, none⟩ _ k hk).trans (Below.heap_setCell X ⟨rx, 0, none⟩ _ k hk)
  have hs : ((X.setCell ⟨rx, 0, none⟩ u0).setCell ⟨rx, 1, none⟩ u1).heap.size = X.heap.size := by simp [World.setCell]
  have hlo := h.lo
  refine ⟨bx_not h hve hn (fun k _ h2 => ho k h2) hs, ⟨(ho _ (by omega)).trans h.rd.blk, fun hl => ?_⟩, ⟨h.gr.os, h.gr.tape, h.gr.output, by rw [hs]; exact h.gr.size, fun k hk => (ho k (by have := hk.1; omega)).trans (h.gr.block k hk)⟩⟩
  obtain ⟨b, off, ea, hq, hz⟩ := h.rd.bytes hl
  have hbl := bytes_low h0 b off ea hl
  refine ⟨b, off, ea, ⟨by rw [hs]; exact hq.1, hq.2⟩, fun i hi => ?_⟩
  obtain ⟨z, hz, h5⟩ := hz i hi
  exact ⟨z, (World.cell?_of_block (a := ⟨b, off + i, none⟩) (ho b (by omega))).trans hz, h5⟩

theorem chain_step {X7 wr W' : World} {acc : List Nd} {m : Nd} {out v' : Value} {o : Obj} (h : wr.ownsRow X7.heap.size 65 6 out acc.length (rowZ Nd.cell 6 acc) ∧ Below X7.heap.size X7 wr ∧ ∀ n ∈ acc, Brief n.a ∧ Brief n.b ∧ Brief n.c) (hm : Brief m.a ∧ Brief m.b ∧ Brief m.c) (h' : W'.ownsRow X7.heap.size 65 6 v' (acc ++ [m]).length (rowZ Nd.cell 6 (acc ++ [m])) ∧ (wr.alloc o).grownBy W' out.ownBlock) :
    W'.ownsRow X7.heap.size 65 6 v' (acc ++ [m]).length (rowZ Nd.cell 6 (acc ++ [m])) ∧ Below X7.heap.size X7 W' ∧ ∀ n ∈ acc ++ [m], Brief n.a ∧ Brief n.b ∧ Brief n.c :=
  ⟨h'.1, (h.2.1.alloc h.2.1.size o).grown h'.2 (by have := h.2.1.size; simp; omega) (fun k hk => (h.1.lt k hk).1), fun n hn => by
    rw [List.mem_append, List.mem_singleton] at hn
    rcases hn with hn | rfl
    · exact h.2.2 n hn
    · exact hm⟩

theorem bx_below {d : Dr} {W X X' : World} {q : Nat} {ve v1 : Value} {bp rx : Nat} (h : Bx d W X q ve v1 bp rx) (hb : Below X.heap.size X X') : Bx d W X' q ve v1 bp rx :=
  ⟨h.rd.below hb, h.gr.trans (Grew.of_below hb), (hb.block _ (heap_lt h.box)).trans h.box, (hb.block _ (heap_lt h.res)).trans h.res, h.lo⟩

theorem two_else {X : World} {bp rx : Nat} {u0 u1 : Value} : (∀ k, k ≠ bp → k ≠ rx → ((X.setCell ⟨rx, 0, none⟩ u0).setCell ⟨rx, 1, none⟩ u1).heap[k]? = X.heap[k]?) ∧ ((X.setCell ⟨rx, 0, none⟩ u0).setCell ⟨rx, 1, none⟩ u1).heap.size = X.heap.size :=
  ⟨fun k _ h2 => (Below.heap_setCell _ ⟨rx, 1, none⟩ _ k h2).trans (Below.heap_setCell _ ⟨rx, 0, none⟩ _ k h2), by simp [World.setCell]⟩

def AnyPostE (d : Dr) (W : World) (e : Ending) (W' : World) : Prop :=
  ∃ ad n cp v ns q, e = .returned (.agg #[.slice ad n cp, v]) ∧ NodesD d W' v ns ∧ ns.length ≤ 1000 ∧ Rdr d W' q ∧ q ≤ 990000 ∧ Grew d W W' ∧ ∃ es, EffsD d W' (.slice ad n cp) es ∧ es.length ≤ 5

set_option maxHeartbeats 8000000 in
set_option maxRecDepth 100000 in
theorem any_calls (hSp : SpoilC) {d : Dr} {W : World} {p : Nat} (hG : d.G = d.B) (h : Rdr d W p) (hp : p ≤ 1000) : Calls Try.prog 12 #[.pointer (some ⟨d.B, 0, none⟩)] W (AnyPostE d W) := by
  have hB := heap_lt h.blk
  have H0 := hid (And.intro h (And.intro hp hG))
  have HSp := hid hSp
  have hb1 : Below W.heap.size W (W.alloc (.cells #[.slice none 0 0, .slice none 0 0] 45)) := (Below.refl _ _).alloc (Nat.le_refl _) _
  have HB1 := hid hb1
  have HR1 := hid (MapKept.heap_alloc W (.cells #[.slice none 0 0, .slice none 0 0] 45)).1
  have HP := hid (prog_calls hG (h.below hb1) (by omega))
  clear hSp hG h hp hb1
  go_enter Try.func12, Try.ntmps12
  go_wp2_with fail
  refine HP.out.mono ?_
  rintro e W2 ⟨ad, n, cp, vt, es, ns, q2, rfl, hE, hE4, hN, hT, hR, hq, hg⟩
  obtain ⟨adt, cpt, rfl⟩ := hN.is
  have HE := hid (And.intro hE hE4)
  have HN := hid (And.intro hN hT)
  have BX : Hid (Bx d W (W2.alloc (.cells #[.slice ad n cp, .slice adt ns.length cpt] 45)) q2 (.slice ad n cp) (.slice adt ns.length cpt) W2.heap.size W.heap.size) := by
    have hs := hg.size
    have hsz : (W.alloc (.cells #[.slice none 0 0, .slice none 0 0] 45)).heap.size = W.heap.size + 1 := by simp
    have hb3 : Below W2.heap.size W2 (W2.alloc (.cells #[.slice ad n cp, .slice adt ns.length cpt] 45)) := (Below.refl _ _).alloc (Nat.le_refl _) _
    exact ⟨hR.below hb3, ((Grew.of_below HB1.out).trans hg).trans (Grew.of_below hb3), (MapKept.heap_alloc W2 _).1, (hb3.block _ (by omega)).trans ((hg.block _ ⟨by omega, by omega, by rw [H0.out.2.2]; omega⟩).trans HR1.out), by omega⟩
  have HQ := hid hq
  obtain ⟨bp, hbp⟩ : ∃ bp, W2.heap.size = bp := ⟨_, rfl⟩
  rw [hbp] at BX
  have HN3 := hid (And.intro (HN.out.1.grew ((Grew.refl d W2).alloc (.cells #[.slice ad n cp, .slice adt ns.length cpt] 45))) (HE.out.1.grew ((Grew.refl d W2).alloc (.cells #[.slice ad n cp, .slice adt ns.length cpt] 45))))
  have HTr := hid (And.intro HN.out.2 HE.out.2)
  clear hE hE4 hN hT hR hq hg HP HB1 HR1 HE HN
  go_wp2_with fail
  try rw [hbp]
  clear hbp
  refine (rdr_pick BX.out.rd (by have := H0.out.2.1; have := HQ.out; omega) 5 (by decide)).mono ?_
  rintro e X4 ⟨m5, rfl, hm50, hm51, hr4, hg4, -, -⟩
  have B4 := hid (BX.out.pick hr4 hg4 H0.out.2.2)
  have N4 := hid (And.intro (HN3.out.1.grew hg4) (HN3.out.2.grew hg4))
  clear hr4 hg4 BX HN3
  by_cases h5 : m5 = 0
  · subst h5
    have c0 : X4.cell? ⟨bp, 0, none⟩ = some (.slice ad n cp) := cell_of_heap B4.out.box 0
    have c1 : X4.cell? ⟨bp, 1, none⟩ = some (.slice adt ns.length cpt) := cell_of_heap B4.out.box 1
    have HSq := hid (HSp.out d X4 (q2 + 1) ad n cp (.slice adt ns.length cpt) es ns H0.out.2.2 B4.out.rd (by have := H0.out.2.1; have := HQ.out; omega) N4.out.2 HTr.out.2 N4.out.1 HTr.out.1)
    go_wp2_with fail
    refine HSq.out.mono ?_
    rintro e X5 ⟨ad5, n5, cp5, v5, ns5, q5, rfl, hN5, hl5, hR5, hq5, hg5, es5, hE5, he5⟩
    obtain ⟨adv, cpv, rfl⟩ := hN5.is
    have B5 := hid (B4.out.pick hR5 hg5 H0.out.2.2)
    have HQ2 := hid (And.intro hq5 hl5)
    have B5p := hid (B5.out.put H0.out.1 (.slice ad5 n5 cp5) (.slice adv ns5.length cpv))
    have N5p := hid (bx_not B5.out ⟨_, _, _, rfl⟩ hN5 (X' := (X5.setCell ⟨bp, 0, none⟩ (.slice ad5 n5 cp5)).setCell ⟨bp, 1, none⟩ (.slice adv ns5.length cpv)) (fun k h1 _ => (Below.heap_setCell _ ⟨bp, 1, none⟩ _ k h1).trans (Below.heap_setCell X5 ⟨bp, 0, none⟩ _ k h1)) (by simp [World.setCell]))
    have E5p := hid (And.intro (bx_notE B5.out ⟨_, _, _, rfl⟩ hE5 (X' := (X5.setCell ⟨bp, 0, none⟩ (.slice ad5 n5 cp5)).setCell ⟨bp, 1, none⟩ (.slice adv ns5.length cpv)) (fun k h1 _ => (Below.heap_setCell _ ⟨bp, 1, none⟩ _ k h1).trans (Below.heap_setCell X5 ⟨bp, 0, none⟩ _ k h1)) (by simp [World.setCell])) he5)
    have d0 : X5.cell? ⟨bp, 0, none⟩ = some (.slice ad n cp) := cell_of_heap B5.out.box 0
    have d1 : X5.cell? ⟨bp, 1, none⟩ = some (.slice adt ns.length cpt) := cell_of_heap B5.out.box 1
    have e0 := frozen_of_heap B5.out.box 0
    have e1 := frozen_of_heap B5.out.box 1
    obtain ⟨Y5, hY5⟩ : ∃ Y5, (X5.setCell ⟨bp, 0, none⟩ (.slice ad5 n5 cp5)).setCell ⟨bp, 1, none⟩ (.slice adv ns5.length cpv) = Y5 := ⟨_, rfl⟩
    rw [hY5] at B5p N5p E5p
    have HY5 := hid hY5
    clear hN5 hl5 hR5 hq5 hg5 hY5 hE5 he5 c0 c1 HSq
    go_upto_region 4 with fail
    rw [HY5.out]
    clear HY5 d0 d1 e0 e1
    go_wp2_with fail
    refine (rdr_pick B5p.out.rd (by have := H0.out.2.1; have := HQ.out; have := HQ2.out; omega) 60 (by decide)).mono ?_
    rintro e X6 ⟨m6, rfl, hm60, hm61, hr6, hg6, -, -⟩
    have B6 := hid (B5p.out.pick hr6 hg6 H0.out.2.2)
    have N6 := hid (N5p.out.grew hg6)
    have E6 := hid (And.intro (E5p.out.1.grew hg6) E5p.out.2)
    clear hr6 hg6
    have b0 : X6.cell? ⟨bp, 0, none⟩ = some (.slice ad5 n5 cp5) := cell_of_heap B6.out.box 0
    have b1 : X6.cell? ⟨bp, 1, none⟩ = some (.slice adv ns5.length cpv) := cell_of_heap B6.out.box 1
    have r0 : X6.cell? ⟨W.heap.size, 0, none⟩ = some (.slice none 0 0) := cell_of_heap B6.out.res 0
    have r1 : X6.cell? ⟨W.heap.size, 1, none⟩ = some (.slice none 0 0) := cell_of_heap B6.out.res 1
    have f0 := frozen_of_heap B6.out.res 0
    have f1 := frozen_of_heap B6.out.res 1
    by_cases h60 : m6 = 0
    · subst h60
      go_wp2_with fail
      refine (rdr_pick B6.out.rd (by have := H0.out.2.1; have := HQ.out; have := HQ2.out; omega) 4 (by decide)).mono ?_
      rintro e X7 ⟨m7, rfl, hm70, hm71, hr7, hg7, -, -⟩
      have B7 := hid (B6.out.pick hr7 hg7 H0.out.2.2)
      have E7 := hid (And.intro (E6.out.1.grew hg7) E6.out.2)
      clear hr7 hg7 b0 b1 r0 r1 f0 f1
      obtain ⟨N, hN⟩ : ∃ N : Nat, 38 + m7 = (N : Int) := ⟨(38 + m7).toNat, by omega⟩
      have hN1 : (N : Int) ≤ 41 := by omega
      have hN0 : (38 : Int) ≤ (N : Int) := by omega
      go_wp2_with fail
      try rw [hN]
      clear hN hm70 hm71
      go_loopw [4, 6] (fun t i wr => ∃ (i' : Nat) (acc : List Nd), i = .int .i64 i' ∧ 1 ≤ i' ∧ i' ≤ N ∧ Hid (acc.length = i' - 1) ∧ Hid (wr.ownsRow X7.heap.size 65 6 t acc.length (rowZ Nd.cell 6 acc) ∧ Below X7.heap.size X7 wr ∧ ∀ n ∈ acc, Brief n.a ∧ Brief n.b ∧ Brief n.c)) (fun _ i _ => N - (intOf i).toNat)
      case atStart => exact ⟨1, [], rfl, Nat.le_refl _, by omega, rfl, World.ownsRow_nil _ _ _ _, Below.refl _ _, fun n hn => by simp at hn⟩
      case round =>
        obtain ⟨i', acc, rfl, hi1, hle, HA, HO⟩ := hrel
        have HS := hid (And.intro (show d.B < wr.heap.size by have := HO.out.2.1.size; have := heap_lt B7.out.rd.blk; omega) (show d.G < wr.heap.size by rw [H0.out.2.2]; have := HO.out.2.1.size; have := heap_lt B7.out.rd.blk; omega))
        obtain ⟨i0, hinf, hz0, hz1, hz2⟩ := info_parts info_node
        by_cases hi : (i' : Int) < (N : Int)
        · have hstep : N - (intOf (.int .i64 ((i' + 1 : Nat) : Int))).toNat < N - (intOf (.int .i64 (i' : Int))).toNat := lt_step hi
          go_wp2_with (at_builtin; refine wpList_append_by rfl _ _ 43 rfl _ _ rfl rfl (fun ty => app_row (d := d) nd_one Try.underlying43 hinf hz0 hz1 hz2 rfl (by decide) (by decide) (HO.out.1.alloc _) (nd_lit wr ⟨21, 0, ByteArray.empty, ByteArray.empty, ByteArray.empty, 1⟩ HS.out.1 HS.out.2 ⟨brief_none, brief_none, brief_none⟩).1 (by have := HA.out; simp; omega) (by have := HO.out.2.1.size; simp; omega) ty) ?_; intro v5 w5 hv5; have HO5 := hid (chain_step HO.out ⟨brief_none, brief_none, brief_none⟩ hv5); clear hv5)
          try rw [wrap_succ (by omega)]
          exact ⟨⟨i' + 1, acc ++ [⟨21, 0, ByteArray.empty, ByteArray.empty, ByteArray.empty, 1⟩], rfl, by omega, by omega, by show _ = _; have := HA.out; simp; omega, HO5⟩, hstep⟩
        · have hbB := heap_lt B7.out.box
          have HbB := hid hbB
          clear hbB
          go_upto_region 12 with (at_builtin; refine wpList_append_by rfl _ _ 43 rfl _ _ rfl rfl (fun ty => app_row (d := d) nd_one Try.underlying43 hinf hz0 hz1 hz2 rfl (by decide) (by decide) (HO.out.1.alloc _) (nd_lit wr ⟨1, 0, ByteArray.empty, ByteArray.empty, ByteArray.empty, 0⟩ HS.out.1 HS.out.2 ⟨brief_none, brief_none, brief_none⟩).1 (by have := HA.out; simp; omega) (by have := HO.out.2.1.size; simp; omega) ty) ?_; intro v5 w5 hv5; have HO5 := hid (chain_step HO.out ⟨brief_none, brief_none, brief_none⟩ hv5); obtain ⟨adz, cpz, hvz⟩ := g_is hv5.1; obtain ⟨lz, hlz⟩ : ∃ l, (acc ++ [(⟨1, 0, ByteArray.empty, ByteArray.empty, ByteArray.empty, 0⟩ : Nd)]).length = l := ⟨_, rfl⟩; rw [hlz] at hvz; subst hvz; have b1 := (HO5.out.2.1.cell (p := ⟨bp, 1, none⟩) HbB.out).trans (cell_of_heap B7.out.box 1); simp only [List.getElem?_toArray, List.getElem?_cons_succ, List.getElem?_cons_zero] at b1; have fb1 := frozen_of_heap ((HO5.out.2.1.block bp HbB.out).trans B7.out.box) 1; clear hv5 hlz)
          have BZ := hid (bx_below B7.out HO5.out.2.1)
          have NZ : Hid (NodesD d w5 (.slice adz lz cpz) (acc ++ [(⟨1, 0, ByteArray.empty, ByteArray.empty, ByteArray.empty, 0⟩ : Nd)])) := ⟨lies_owns (f := Nd.cell) (by decide) HO5.out.1 (heap_lt B7.out.rd.blk) (by rw [H0.out.2.2]; exact heap_lt B7.out.rd.blk), HO5.out.2.2⟩
          have LS := hid (last_store BZ.out H0.out.1 ⟨_, _, _, rfl⟩ NZ.out 1 (.slice adz lz cpz) (.slice ad5 n5 cp5) (.slice adz lz cpz))
          have LE := hid (And.intro (bx_notE BZ.out ⟨_, _, _, rfl⟩ (E7.out.1.grew (Grew.of_below HO5.out.2.1)) (three_else (j := 1) (u := .slice adz lz cpz) (u0 := .slice ad5 n5 cp5) (u1 := .slice adz lz cpz)).1 (three_else (bp := bp)).2) E7.out.2)
          have hx9 := set_heap (i := 1) (v := .slice adz lz cpz) BZ.out.box
          have hr9 := (Below.heap_setCell w5 ⟨bp, 1, none⟩ (.slice adz lz cpz) W.heap.size (by have := BZ.out.lo; show W.heap.size ≠ bp; omega)).trans BZ.out.res
          have HLc : Hid ((acc ++ [(⟨1, 0, ByteArray.empty, ByteArray.empty, ByteArray.empty, 0⟩ : Nd)]).length ≤ 1000) := by show _ ≤ _; have := HA.out; simp; omega
          generalize w5.setCell ⟨bp, 1, none⟩ (.slice adz lz cpz) = Y9 at *
          have x0 : Y9.cell? ⟨bp, 0, none⟩ = some (.slice ad5 n5 cp5) := cell_of_heap hx9 0
          have x1 : Y9.cell? ⟨bp, 1, none⟩ = some (.slice adz lz cpz) := cell_of_heap hx9 1
          have y0 : Y9.cell? ⟨W.heap.size, 0, none⟩ = some (.slice none 0 0) := cell_of_heap hr9 0
          have y1 : Y9.cell? ⟨W.heap.size, 1, none⟩ = some (.slice none 0 0) := cell_of_heap hr9 1
          have z0 := frozen_of_heap hr9 0
          have z1 := frozen_of_heap hr9 1
          clear hx9 hr9
          go_wp2_with fail
          refine bodyPost_ret (v := .agg #[.slice ad5 n5 cp5, .slice adz lz cpz]) ?_ rfl ?_
          · simp [results, Try.results12, go_sem, y0, y1]
          · exact ⟨_, _, _, _, _, _, rfl, LS.out.1, HLc.out, LS.out.2.1, by have := H0.out.2.1; have := HQ.out; (try have := HQ2.out); omega, LS.out.2.2, _, LE.out.1, LE.out.2⟩
    · have z60 : (m6 == 0) = false := by simp [h60]
      have LT := hid (B6.out.told H0.out.1 ⟨_, _, _, rfl⟩ N6.out (.slice ad5 n5 cp5) (.slice adv ns5.length cpv))
      have LE := hid (And.intro (bx_notE B6.out ⟨_, _, _, rfl⟩ E6.out.1 (two_else (u0 := .slice ad5 n5 cp5) (u1 := .slice adv ns5.length cpv)).1 (two_else (bp := bp)).2) E6.out.2)
      go_wp2_with fail
      refine bodyPost_ret (v := .agg #[.slice ad5 n5 cp5, .slice adv ns5.length cpv]) ?_ rfl ?_
      · simp [results, Try.results12, go_sem, r0, r1]
      · exact ⟨_, _, _, _, _, _, rfl, LT.out.1, HQ2.out.2, LT.out.2.1, by have := H0.out.2.1; have := HQ.out; (try have := HQ2.out); omega, LT.out.2.2, _, LE.out.1, LE.out.2⟩
  · have z5 : (m5 == 0) = false := by simp [h5]
    go_wp2_with fail
    refine (rdr_pick B4.out.rd (by have := H0.out.2.1; have := HQ.out; omega) 60 (by decide)).mono ?_
    rintro e X6 ⟨m6, rfl, hm60, hm61, hr6, hg6, -, -⟩
    have B6 := hid (B4.out.pick hr6 hg6 H0.out.2.2)
    have N6 := hid (N4.out.1.grew hg6)
    have E6 := hid (And.intro (N4.out.2.grew hg6) (show es.length ≤ 5 by have := HTr.out.2; omega))
    clear hr6 hg6
    have b0 : X6.cell? ⟨bp, 0, none⟩ = some (.slice ad n cp) := cell_of_heap B6.out.box 0
    have b1 : X6.cell? ⟨bp, 1, none⟩ = some (.slice adt ns.length cpt) := cell_of_heap B6.out.box 1
    have r0 : X6.cell? ⟨W.heap.size, 0, none⟩ = some (.slice none 0 0) := cell_of_heap B6.out.res 0
    have r1 : X6.cell? ⟨W.heap.size, 1, none⟩ = some (.slice none 0 0) := cell_of_heap B6.out.res 1
    have f0 := frozen_of_heap B6.out.res 0
    have f1 := frozen_of_heap B6.out.res 1
    by_cases h60 : m6 = 0
    · subst h60
      go_wp2_with fail
      refine (rdr_pick B6.out.rd (by have := H0.out.2.1; have := HQ.out; omega) 4 (by decide)).mono ?_
      rintro e X7 ⟨m7, rfl, hm70, hm71, hr7, hg7, -, -⟩
      have B7 := hid (B6.out.pick hr7 hg7 H0.out.2.2)
      have E7 := hid (And.intro (E6.out.1.grew hg7) E6.out.2)
      clear hr7 hg7 b0 b1 r0 r1 f0 f1
      obtain ⟨N, hN⟩ : ∃ N : Nat, 38 + m7 = (N : Int) := ⟨(38 + m7).toNat, by omega⟩
      have hN1 : (N : Int) ≤ 41 := by omega
      have hN0 : (38 : Int) ≤ (N : Int) := by omega
      go_wp2_with fail
      try rw [hN]
      clear hN hm70 hm71
      go_loopw [4, 6] (fun t i wr => ∃ (i' : Nat) (acc : List Nd), i = .int .i64 i' ∧ 1 ≤ i' ∧ i' ≤ N ∧ Hid (acc.length = i' - 1) ∧ Hid (wr.ownsRow X7.heap.size 65 6 t acc.length (rowZ Nd.cell 6 acc) ∧ Below X7.heap.size X7 wr ∧ ∀ n ∈ acc, Brief n.a ∧ Brief n.b ∧ Brief n.c)) (fun _ i _ => N - (intOf i).toNat)
      case atStart => exact ⟨1, [], rfl, Nat.le_refl _, by omega, rfl, World.ownsRow_nil _ _ _ _, Below.refl _ _, fun n hn => by simp at hn⟩
      case round =>
        obtain ⟨i', acc, rfl, hi1, hle, HA, HO⟩ := hrel
        have HS := hid (And.intro (show d.B < wr.heap.size by have := HO.out.2.1.size; have := heap_lt B7.out.rd.blk; omega) (show d.G < wr.heap.size by rw [H0.out.2.2]; have := HO.out.2.1.size; have := heap_lt B7.out.rd.blk; omega))
        obtain ⟨i0, hinf, hz0, hz1, hz2⟩ := info_parts info_node
        by_cases hi : (i' : Int) < (N : Int)
        · have hstep : N - (intOf (.int .i64 ((i' + 1 : Nat) : Int))).toNat < N - (intOf (.int .i64 (i' : Int))).toNat := lt_step hi
          go_wp2_with (at_builtin; refine wpList_append_by rfl _ _ 43 rfl _ _ rfl rfl (fun ty => app_row (d := d) nd_one Try.underlying43 hinf hz0 hz1 hz2 rfl (by decide) (by decide) (HO.out.1.alloc _) (nd_lit wr ⟨21, 0, ByteArray.empty, ByteArray.empty, ByteArray.empty, 1⟩ HS.out.1 HS.out.2 ⟨brief_none, brief_none, brief_none⟩).1 (by have := HA.out; simp; omega) (by have := HO.out.2.1.size; simp; omega) ty) ?_; intro v5 w5 hv5; have HO5 := hid (chain_step HO.out ⟨brief_none, brief_none, brief_none⟩ hv5); clear hv5)
          try rw [wrap_succ (by omega)]
          exact ⟨⟨i' + 1, acc ++ [⟨21, 0, ByteArray.empty, ByteArray.empty, ByteArray.empty, 1⟩], rfl, by omega, by omega, by show _ = _; have := HA.out; simp; omega, HO5⟩, hstep⟩
        · have hbB := heap_lt B7.out.box
          have HbB := hid hbB
          clear hbB
          go_upto_region 12 with (at_builtin; refine wpList_append_by rfl _ _ 43 rfl _ _ rfl rfl (fun ty => app_row (d := d) nd_one Try.underlying43 hinf hz0 hz1 hz2 rfl (by decide) (by decide) (HO.out.1.alloc _) (nd_lit wr ⟨1, 0, ByteArray.empty, ByteArray.empty, ByteArray.empty, 0⟩ HS.out.1 HS.out.2 ⟨brief_none, brief_none, brief_none⟩).1 (by have := HA.out; simp; omega) (by have := HO.out.2.1.size; simp; omega) ty) ?_; intro v5 w5 hv5; have HO5 := hid (chain_step HO.out ⟨brief_none, brief_none, brief_none⟩ hv5); obtain ⟨adz, cpz, hvz⟩ := g_is hv5.1; obtain ⟨lz, hlz⟩ : ∃ l, (acc ++ [(⟨1, 0, ByteArray.empty, ByteArray.empty, ByteArray.empty, 0⟩ : Nd)]).length = l := ⟨_, rfl⟩; rw [hlz] at hvz; subst hvz; have b1 := (HO5.out.2.1.cell (p := ⟨bp, 1, none⟩) HbB.out).trans (cell_of_heap B7.out.box 1); simp only [List.getElem?_toArray, List.getElem?_cons_succ, List.getElem?_cons_zero] at b1; have fb1 := frozen_of_heap ((HO5.out.2.1.block bp HbB.out).trans B7.out.box) 1; clear hv5 hlz)
          have BZ := hid (bx_below B7.out HO5.out.2.1)
          have NZ : Hid (NodesD d w5 (.slice adz lz cpz) (acc ++ [(⟨1, 0, ByteArray.empty, ByteArray.empty, ByteArray.empty, 0⟩ : Nd)])) := ⟨lies_owns (f := Nd.cell) (by decide) HO5.out.1 (heap_lt B7.out.rd.blk) (by rw [H0.out.2.2]; exact heap_lt B7.out.rd.blk), HO5.out.2.2⟩
          have LS := hid (last_store BZ.out H0.out.1 ⟨_, _, _, rfl⟩ NZ.out 1 (.slice adz lz cpz) (.slice ad n cp) (.slice adz lz cpz))
          have LE := hid (And.intro (bx_notE BZ.out ⟨_, _, _, rfl⟩ (E7.out.1.grew (Grew.of_below HO5.out.2.1)) (three_else (j := 1) (u := .slice adz lz cpz) (u0 := .slice ad n cp) (u1 := .slice adz lz cpz)).1 (three_else (bp := bp)).2) E7.out.2)
          have hx9 := set_heap (i := 1) (v := .slice adz lz cpz) BZ.out.box
          have hr9 := (Below.heap_setCell w5 ⟨bp, 1, none⟩ (.slice adz lz cpz) W.heap.size (by have := BZ.out.lo; show W.heap.size ≠ bp; omega)).trans BZ.out.res
          have HLc : Hid ((acc ++ [(⟨1, 0, ByteArray.empty, ByteArray.empty, ByteArray.empty, 0⟩ : Nd)]).length ≤ 1000) := by show _ ≤ _; have := HA.out; simp; omega
          generalize w5.setCell ⟨bp, 1, none⟩ (.slice adz lz cpz) = Y9 at *
          have x0 : Y9.cell? ⟨bp, 0, none⟩ = some (.slice ad n cp) := cell_of_heap hx9 0
          have x1 : Y9.cell? ⟨bp, 1, none⟩ = some (.slice adz lz cpz) := cell_of_heap hx9 1
          have y0 : Y9.cell? ⟨W.heap.size, 0, none⟩ = some (.slice none 0 0) := cell_of_heap hr9 0
          have y1 : Y9.cell? ⟨W.heap.size, 1, none⟩ = some (.slice none 0 0) := cell_of_heap hr9 1
          have z0 := frozen_of_heap hr9 0
          have z1 := frozen_of_heap hr9 1
          clear hx9 hr9
          go_wp2_with fail
          refine bodyPost_ret (v := .agg #[.slice ad n cp, .slice adz lz cpz]) ?_ rfl ?_
          · simp [results, Try.results12, go_sem, y0, y1]
          · exact ⟨_, _, _, _, _, _, rfl, LS.out.1, HLc.out, LS.out.2.1, by have := H0.out.2.1; have := HQ.out; (try have := HQ2.out); omega, LS.out.2.2, _, LE.out.1, LE.out.2⟩
    · have z60 : (m6 == 0) = false := by simp [h60]
      have LT := hid (B6.out.told H0.out.1 ⟨_, _, _, rfl⟩ N6.out (.slice ad n cp) (.slice adt ns.length cpt))
      have LE := hid (And.intro (bx_notE B6.out ⟨_, _, _, rfl⟩ E6.out.1 (two_else (u0 := .slice ad n cp) (u1 := .slice adt ns.length cpt)).1 (two_else (bp := bp)).2) E6.out.2)
      go_wp2_with fail
      refine bodyPost_ret (v := .agg #[.slice ad n cp, .slice adt ns.length cpt]) ?_ rfl ?_
      · simp [results, Try.results12, go_sem, r0, r1]
      · exact ⟨_, _, _, _, _, _, rfl, LT.out.1, by obtain ⟨_, _, _, _, _, h⟩ := HTr.out.1; omega, LT.out.2.1, by have := H0.out.2.1; have := HQ.out; (try have := HQ2.out); omega, LT.out.2.2, _, LE.out.1, LE.out.2⟩
end Go.Proofs.Ytnhofdngmbnlkaa

/- A drawn text: that it ends, and that the text is not too long. -/
namespace Go.Proofs.Ytnhofdngmbnlkaa
open Go.RowKit Go.Deep

theorem spoilE : SpoilC := fun _ _ _ _ _ _ _ _ _ hG h hp hE he hn hT => spoil_calls hG h hp hE he hn hT

theorem many_lit (S : ByteArray) (N : Int) (hS : S.size ≤ 10) (h0 : 0 ≤ N) (h1 : N ≤ 2000) (W : World) : Calls Try.prog 14 #[.string S, .int .i64 N] W (ManyP W) := by
  obtain ⟨n, rfl⟩ := Int.eq_ofNat_of_zero_le h0
  exact many_calls S n hS (by omega) W

def ftV : Array Value := #[.string ⟨#[]⟩, .string ⟨#[32]⟩, .string ⟨#[40]⟩, .string ⟨#[41]⟩, .string ⟨#[120]⟩, .string ⟨#[48]⟩, .string ⟨#[95]⟩, .string ⟨#[61]⟩, .string ⟨#[124]⟩, .string ⟨#[45, 62]⟩, .string ⟨#[32, 108, 101, 116, 32]⟩, .string ⟨#[10]⟩, .string ⟨#[59]⟩, .string ⟨#[101, 110, 100, 32]⟩]

theorem ft_get (r : Int) (h0 : 0 ≤ r) (h1 : r < 14) : ∃ y : ByteArray, y.size ≤ 5 ∧ ftV[r.toNat]? = some (.string y) := by
  have h : r = 0 ∨ r = 1 ∨ r = 2 ∨ r = 3 ∨ r = 4 ∨ r = 5 ∨ r = 6 ∨ r = 7 ∨ r = 8 ∨ r = 9 ∨ r = 10 ∨ r = 11 ∨ r = 12 ∨ r = 13 := by omega
  rcases h with rfl | rfl | rfl | rfl | rfl | rfl | rfl | rfl | rfl | rfl | rfl | rfl | rfl | rfl <;> exact ⟨_, by decide, rfl⟩

def ntV (a b c e : ByteArray) : Array Value := #[.string ⟨#[]⟩, .string a, .string b, .string c, .string e, .string ⟨#[101, 102, 102, 101, 99, 116, 32, 97, 32, 58, 32, 105, 110, 116, 32, 61, 62, 32, 105, 110, 116, 32, 59, 32, 101, 102, 102, 101, 99, 116, 32, 97, 32, 58, 32, 105, 110, 116, 32, 61, 62, 32, 105, 110, 116, 32, 59, 32, 49]⟩, .string ⟨#[100, 111, 32, 98, 32, 49]⟩, .string ⟨#[99, 97, 115, 101, 32, 110, 105, 108, 32, 111, 102, 32, 110, 105, 108, 32, 45, 62, 32, 49, 32, 124, 32, 120, 32, 58, 58, 32, 120, 32, 45, 62, 32, 50]⟩, .string ⟨#[104, 97, 110, 100, 108, 101, 32, 49, 32, 119, 105, 116, 104, 32, 114, 101, 116, 32, 120, 32, 45, 62, 32, 120, 32, 124, 32, 97, 32, 98, 32, 98, 32, 45, 62, 32, 49, 32, 101, 110, 100]⟩]

theorem nt_get {a b c e : ByteArray} (ha : a.size ≤ 20001) (hb : b.size ≤ 20001) (hc : c.size ≤ 20001) (he : e.size ≤ 20001) (r : Int) (h0 : 0 ≤ r) (h1 : r < 9) : ∃ y : ByteArray, y.size ≤ 20001 ∧ (ntV a b c e)[r.toNat]? = some (.string y) := by
  have h : r = 0 ∨ r = 1 ∨ r = 2 ∨ r = 3 ∨ r = 4 ∨ r = 5 ∨ r = 6 ∨ r = 7 ∨ r = 8 := by omega
  rcases h with rfl | rfl | rfl | rfl | rfl | rfl | rfl | rfl | rfl
  · exact ⟨_, by decide, rfl⟩
  · exact ⟨a, ha, rfl⟩
  · exact ⟨b, hb, rfl⟩
  · exact ⟨c, hc, rfl⟩
  · exact ⟨e, he, rfl⟩
  all_goals exact ⟨_, by decide, rfl⟩

def TextDP (d : Dr) (W : World) (e : Ending) (W' : World) : Prop := ∃ (t : ByteArray) (q : Nat), e = .returned (.string t) ∧ t.size ≤ 50000 ∧ Rdr d W' q ∧ q ≤ 995000 ∧ Grew d W W'

theorem cut_le (t : ByteArray) (a b : Nat) : (t.extract a b).size ≤ t.size := by
  rw [ByteArray.size_extract]; omega

set_option maxHeartbeats 20000000 in
set_option maxRecDepth 100000 in
theorem text_calls {d : Dr} {W : World} {p : Nat} (hG : d.G = d.B) (h : Rdr d W p) (hp : p ≤ 1000) : Calls Try.prog 8 #[.pointer (some ⟨d.B, 0, none⟩)] W (TextDP d W) := by
  have HA := hid (any_calls spoilE hG h hp)
  have hGB := hid hG
  clear hG h hp
  go_enter Try.func8, Try.ntmps8
  go_wp2_with fail
  refine HA.out.mono ?_
  rintro e X1 ⟨ad, n, cp, v, ns, q, rfl, hN, hlen, hr, hq, hg, es, hE, he⟩
  obtain ⟨adv, cpv, rfl⟩ := hN.is
  have HT := hid (text_any hE he hN)
  have R1 := hid hr
  have Q1 := hid hq
  have G1 := hid hg
  clear HA hN hlen hr hq hg hE he
  go_wp2_with fail
  refine HT.out.mono ?_
  rintro e X2 ⟨t, rfl, ht, hb⟩
  have HTt := hid ht
  have R2 := hid (R1.out.below hb)
  have G2 := hid (G1.out.trans (Grew.of_below hb))
  clear HT ht hb R1 G1
  go_wp2_with fail
  refine (rdr_pick R2.out (by have := Q1.out; omega) 4 (by decide)).mono ?_
  rintro e X3 ⟨m4, rfl, hm40, hm41, hr3, hg3, -, -⟩
  have R3 := hid hr3
  have G3 := hid (G2.out.trans hg3)
  clear hr3 hg3 R2 G2 hm40 hm41
  by_cases h4 : m4 = 0
  case' neg =>
    have z4 : (m4 == 0) = false := by simp [h4]
    have RZ := hid R3.out
    have GZ := hid G3.out
    have QZ := hid (show q + 1 ≤ 990004 by have := Q1.out; omega)
    have HTt := hid (show t.size ≤ 40005 by have := HTt.out; omega)
    rename World => XZ
    rename ByteArray => tt
    clear R3 G3
  case' pos =>
    subst h4
    by_cases hz : (0 : Int) < (t.size : Int)
    case' pos =>
      go_wp2_with fail
      refine (rdr_pick R3.out (by have := Q1.out; omega) (t.size : Int) hz).mono ?_
      rintro e X4 ⟨k0, rfl, hk0, hk1, hr4, hg4, -, -⟩
      obtain ⟨k, rfl⟩ := Int.eq_ofNat_of_zero_le hk0
      have R4 := hid hr4
      have G4 := hid (G3.out.trans hg4)
      clear hr4 hg4 R3 G3 hk0
      go_upto_region 4 with fail
      have hkt : k < t.size := by omega
      have hk0 : (0 : Int) ≤ (k : Int) := by omega
      have hkl : (k : Int) ≤ (t.size : Int) := by omega
      refine pick_begin (S := fun _ => True) (n := 17) (ls := #[false, false, false, false, false, false, false, false, false, false, false, false, false, false, false, false, false]) (by kernel_rfl) rfl (by kernel_rfl) ?_
      have R5 := hid R4.out.drew
      have G5 := hid G4.out.drew
      clear R4 G4
      generalize X4.drew = X at *
      refine pick_op (i := 0) (v := .string t) (by kernel_rfl) rfl (by kernel_rfl) (by kernel_rfl) rfl rfl (fun w' hw => by simp [go_sem]) trivial (by simp [go_sem]; exact rfl) ?_
      refine pick_op (i := 1) (v := .int .i64 (k : Int)) (by kernel_rfl) rfl (by kernel_rfl) (by kernel_rfl) rfl rfl (fun w' hw => by simp [go_sem]) trivial (by simp [go_sem]; exact rfl) ?_
      refine pick_op (i := 2) (v := .string (t.extract 0 k)) (by kernel_rfl) rfl (by kernel_rfl) (by kernel_rfl) rfl rfl (fun w' hw => by simp [go_sem, hk0, hkl]) trivial (by simp [go_sem]; exact rfl) ?_
      refine pick_op (i := 4) (v := .pointer (some ⟨d.B, 0, none⟩)) (by kernel_rfl) rfl (by kernel_rfl) (by kernel_rfl) rfl rfl (fun w' hw => by simp [go_sem]) trivial (by simp [go_sem]; exact rfl) ?_
      refine pick_op (i := 9) (v := .string t) (by kernel_rfl) rfl (by kernel_rfl) (by kernel_rfl) rfl rfl (fun w' hw => by simp [go_sem]) trivial (by simp [go_sem]; exact rfl) ?_
      refine pick_op (i := 10) (v := .int .i64 (k : Int)) (by kernel_rfl) rfl (by kernel_rfl) (by kernel_rfl) rfl rfl (fun w' hw => by simp [go_sem]) trivial (by simp [go_sem]; exact rfl) ?_
      refine pick_op (i := 11) (v := .pointer (some ⟨d.B, 0, none⟩)) (by kernel_rfl) rfl (by kernel_rfl) (by kernel_rfl) rfl rfl (fun w' hw => by simp [go_sem]) trivial (by simp [go_sem]; exact rfl) ?_
      refine pick_either (i := 3) (j := 5) (by kernel_rfl) ?_ ?_
      case' refine_1 =>
        have bl : Below X.heap.size X (X.alloc (.cells ftV 9)) := (Below.refl _ _).alloc (Nat.le_refl _) _
        have RB := hid (MapKept.heap_alloc X (.cells ftV 9)).1
        have R6 := hid (R5.out.below bl)
        have G6 := hid (G5.out.trans (Grew.of_below bl))
        have NB := hid (show X.heap.size ≠ d.B by have := heap_lt R5.out.blk; omega)
        clear bl
        refine ⟨_, .slice (some ⟨X.heap.size, 0, none⟩) 14 14, X.alloc (.cells ftV 9), rfl, rfl, by simp [go_sem, ftV], trivial, ?_⟩
        obtain ⟨nb, hnb⟩ : ∃ nb, X.heap.size = nb := ⟨_, rfl⟩
        generalize X.alloc (.cells ftV 9) = Y1 at *
        rw [hnb] at RB NB ⊢
        clear hnb
        refine pick_frame (by simp [go_sem]; exact rfl) ?_
        refine pick_enter (i := 5) (f := 13) (args := #[.pointer (some ⟨d.B, 0, none⟩), .int .i64 14]) rfl (by kernel_rfl) rfl rfl (by simp [go_sem]) ?_
        refine (rdr_pick R6.out (by have := Q1.out; omega) 14 (by decide)).mono ?_
        rintro e Y2 ⟨ma, rfl, hma0, hma1, hr, hg, -, ho⟩
        have Rma := hid hr
        have Gma := hid (G6.out.trans hg)
        have RB := hid ((ho nb NB.out).trans RB.out)
        clear hr hg ho
        refine ⟨_, rfl, trivial, ?_⟩
        refine pick_frame (by simp [go_sem]; exact rfl) ?_
        obtain ⟨y, hys, hy⟩ := ft_get ma hma0 hma1
        have HYs := hid hys
        clear hys
        refine pick_op (i := 6) (v := .pointer (some ⟨nb, ma.toNat, none⟩)) (by kernel_rfl) rfl (by kernel_rfl) (by kernel_rfl) rfl rfl (fun w' hw => by simp [go_sem, hma0, hma1]) trivial (by simp [go_sem]; exact rfl) ?_
        refine pick_more (fun w => w.cell? ⟨nb, ma.toNat, none⟩ = some (.string y)) (fun w _ => trivial) ?_
        have hyc : Y2.cell? ⟨nb, ma.toNat, none⟩ = some (.string y) := (cell_of_heap RB.out ma.toNat).trans hy
        refine pick_op (i := 7) (v := .string y) (by kernel_rfl) rfl (by kernel_rfl) (by kernel_rfl) rfl rfl (fun w' hw => by simp [go_sem, hw]) hyc (by simp [go_sem]; exact rfl) ?_
        have hc1 : min k t.size + y.size ≤ 9223372036854775807 := by have := HTt.out; have := HYs.out; omega
        refine pick_op (i := 8) (v := .string (t.extract 0 k ++ y)) (by kernel_rfl) rfl (by kernel_rfl) (by kernel_rfl) rfl rfl (fun w' hw => by simp [go_sem, hc1]) hyc (by simp [go_sem]; exact rfl) ?_
        clear hc1
        refine pick_enter (i := 12) (f := 13) (args := #[.pointer (some ⟨d.B, 0, none⟩), .int .i64 2]) rfl (by kernel_rfl) rfl rfl (by simp [go_sem]) ?_
        refine (rdr_pick Rma.out (by have := Q1.out; omega) 2 (by decide)).mono ?_
        rintro e Y3 ⟨mb, rfl, hmb0, hmb1, hr, hg, -, ho⟩
        have Rmb := hid hr
        have Gmb := hid (Gma.out.trans hg)
        have RB := hid ((ho nb NB.out).trans RB.out)
        have hyc : Y3.cell? ⟨nb, ma.toNat, none⟩ = some (.string y) := (cell_of_heap RB.out ma.toNat).trans hy
        clear hr hg ho
        refine ⟨_, rfl, hyc, ?_⟩
        refine pick_frame (by simp [go_sem]; exact rfl) ?_
        have hw2 : IntKind.i64.wrap ((k : Int) + mb) = (k : Int) + mb := by rw [IntKind.wrap_i64]; have := HTt.out; omega
        refine pick_op (i := 13) (v := .int .i64 ((k : Int) + mb)) (by kernel_rfl) rfl (by kernel_rfl) (by kernel_rfl) rfl rfl (fun w' hw => by simp [go_sem, hw2]) hyc (by simp [go_sem]; exact rfl) ?_
        have hs0 : 0 ≤ (k : Int) + mb := by omega
        have hs1 : (k : Int) + mb ≤ (t.size : Int) := by omega
        refine pick_op (i := 14) (v := .string (t.extract ((k : Int) + mb).toNat t.size)) (by kernel_rfl) rfl (by kernel_rfl) (by kernel_rfl) rfl rfl (fun w' hw => by simp [go_sem, hs0, hs1]) hyc (by simp [go_sem]; exact rfl) ?_
        clear hw2 hs0 hs1
        have hc2 : min k t.size + y.size + (t.size - ((k : Int) + mb).toNat) ≤ 9223372036854775807 := by have := HTt.out; have := HYs.out; omega
        refine pick_op (i := 15) (v := .string (t.extract 0 k ++ y ++ t.extract ((k : Int) + mb).toNat t.size)) (by kernel_rfl) rfl (by kernel_rfl) (by kernel_rfl) rfl rfl (fun w' hw => by simp [go_sem, hc2]) hyc (by simp [go_sem]; exact rfl) ?_
        refine pick_op (i := 16) (v := .string (t.extract 0 k ++ y ++ t.extract ((k : Int) + mb).toNat t.size)) (by kernel_rfl) rfl (by kernel_rfl) (by kernel_rfl) rfl rfl (fun w' hw => by simp [go_sem]) hyc (by simp [go_sem]; exact rfl) ?_
        have HTt := hid (show (t.extract 0 k ++ y ++ t.extract ((k : Int) + mb).toNat t.size).size ≤ 40005 by rw [ByteArray.size_append, ByteArray.size_append]; have := cut_le t 0 k; have := cut_le t ((k : Int) + mb).toNat t.size; have := HTt.out; have := HYs.out; omega)
        generalize t.extract 0 k ++ y ++ t.extract ((k : Int) + mb).toNat t.size = tt at *
        refine pick_end (by kernel_rfl) ?_
        have RZ := hid Rmb.out
        have GZ := hid Gmb.out
        have QZ := hid (show q + 4 ≤ 990004 by have := Q1.out; omega)
        rename World => XZ
        clear hc2 hyc
      case' refine_2 =>
        refine ⟨_, 13, #[.pointer (some ⟨d.B, 0, none⟩), .int .i64 14], rfl, rfl, by simp [go_sem], ?_⟩
        refine (rdr_pick R5.out (by have := Q1.out; omega) 14 (by decide)).mono ?_
        rintro e Y1 ⟨ma, rfl, hma0, hma1, hr, hg, -, ho⟩
        have Rma := hid hr
        have Gma := hid (G5.out.trans hg)
        clear hr hg ho
        refine ⟨_, rfl, trivial, ?_⟩
        refine pick_frame (by simp [go_sem]; exact rfl) ?_
        obtain ⟨y, hys, hy⟩ := ft_get ma hma0 hma1
        have HYs := hid hys
        clear hys
        refine pick_either (i := 3) (j := 12) (by kernel_rfl) ?_ ?_
        case' refine_1 =>
          have bl : Below Y1.heap.size Y1 (Y1.alloc (.cells ftV 9)) := (Below.refl _ _).alloc (Nat.le_refl _) _
          have RB := hid (MapKept.heap_alloc Y1 (.cells ftV 9)).1
          have R6 := hid (Rma.out.below bl)
          have G6 := hid (Gma.out.trans (Grew.of_below bl))
          have NB := hid (show Y1.heap.size ≠ d.B by have := heap_lt Rma.out.blk; omega)
          clear bl
          refine ⟨_, .slice (some ⟨Y1.heap.size, 0, none⟩) 14 14, Y1.alloc (.cells ftV 9), rfl, rfl, by simp [go_sem, ftV], trivial, ?_⟩
          obtain ⟨nb, hnb⟩ : ∃ nb, Y1.heap.size = nb := ⟨_, rfl⟩
          generalize Y1.alloc (.cells ftV 9) = Y2 at *
          rw [hnb] at RB NB ⊢
          clear hnb
          refine pick_frame (by simp [go_sem]; exact rfl) ?_
          refine pick_op (i := 6) (v := .pointer (some ⟨nb, ma.toNat, none⟩)) (by kernel_rfl) rfl (by kernel_rfl) (by kernel_rfl) rfl rfl (fun w' hw => by simp [go_sem, hma0, hma1]) trivial (by simp [go_sem]; exact rfl) ?_
          refine pick_more (fun w => w.cell? ⟨nb, ma.toNat, none⟩ = some (.string y)) (fun w _ => trivial) ?_
          have hyc : Y2.cell? ⟨nb, ma.toNat, none⟩ = some (.string y) := (cell_of_heap RB.out ma.toNat).trans hy
          refine pick_op (i := 7) (v := .string y) (by kernel_rfl) rfl (by kernel_rfl) (by kernel_rfl) rfl rfl (fun w' hw => by simp [go_sem, hw]) hyc (by simp [go_sem]; exact rfl) ?_
          have hc1 : min k t.size + y.size ≤ 9223372036854775807 := by have := HTt.out; have := HYs.out; omega
          refine pick_op (i := 8) (v := .string (t.extract 0 k ++ y)) (by kernel_rfl) rfl (by kernel_rfl) (by kernel_rfl) rfl rfl (fun w' hw => by simp [go_sem, hc1]) hyc (by simp [go_sem]; exact rfl) ?_
          clear hc1
          refine pick_enter (i := 12) (f := 13) (args := #[.pointer (some ⟨d.B, 0, none⟩), .int .i64 2]) rfl (by kernel_rfl) rfl rfl (by simp [go_sem]) ?_
          refine (rdr_pick R6.out (by have := Q1.out; omega) 2 (by decide)).mono ?_
          rintro e Y3 ⟨mb, rfl, hmb0, hmb1, hr, hg, -, ho⟩
          have Rmb := hid hr
          have Gmb := hid (G6.out.trans hg)
          have RB := hid ((ho nb NB.out).trans RB.out)
          have hyc : Y3.cell? ⟨nb, ma.toNat, none⟩ = some (.string y) := (cell_of_heap RB.out ma.toNat).trans hy
          clear hr hg ho
          refine ⟨_, rfl, hyc, ?_⟩
          refine pick_frame (by simp [go_sem]; exact rfl) ?_
          have hw2 : IntKind.i64.wrap ((k : Int) + mb) = (k : Int) + mb := by rw [IntKind.wrap_i64]; have := HTt.out; omega
          refine pick_op (i := 13) (v := .int .i64 ((k : Int) + mb)) (by kernel_rfl) rfl (by kernel_rfl) (by kernel_rfl) rfl rfl (fun w' hw => by simp [go_sem, hw2]) hyc (by simp [go_sem]; exact rfl) ?_
          have hs0 : 0 ≤ (k : Int) + mb := by omega
          have hs1 : (k : Int) + mb ≤ (t.size : Int) := by omega
          refine pick_op (i := 14) (v := .string (t.extract ((k : Int) + mb).toNat t.size)) (by kernel_rfl) rfl (by kernel_rfl) (by kernel_rfl) rfl rfl (fun w' hw => by simp [go_sem, hs0, hs1]) hyc (by simp [go_sem]; exact rfl) ?_
          clear hw2 hs0 hs1
          have hc2 : min k t.size + y.size + (t.size - ((k : Int) + mb).toNat) ≤ 9223372036854775807 := by have := HTt.out; have := HYs.out; omega
          refine pick_op (i := 15) (v := .string (t.extract 0 k ++ y ++ t.extract ((k : Int) + mb).toNat t.size)) (by kernel_rfl) rfl (by kernel_rfl) (by kernel_rfl) rfl rfl (fun w' hw => by simp [go_sem, hc2]) hyc (by simp [go_sem]; exact rfl) ?_
          refine pick_op (i := 16) (v := .string (t.extract 0 k ++ y ++ t.extract ((k : Int) + mb).toNat t.size)) (by kernel_rfl) rfl (by kernel_rfl) (by kernel_rfl) rfl rfl (fun w' hw => by simp [go_sem]) hyc (by simp [go_sem]; exact rfl) ?_
          have HTt := hid (show (t.extract 0 k ++ y ++ t.extract ((k : Int) + mb).toNat t.size).size ≤ 40005 by rw [ByteArray.size_append, ByteArray.size_append]; have := cut_le t 0 k; have := cut_le t ((k : Int) + mb).toNat t.size; have := HTt.out; have := HYs.out; omega)
          generalize t.extract 0 k ++ y ++ t.extract ((k : Int) + mb).toNat t.size = tt at *
          refine pick_end (by kernel_rfl) ?_
          have RZ := hid Rmb.out
          have GZ := hid Gmb.out
          have QZ := hid (show q + 4 ≤ 990004 by have := Q1.out; omega)
          rename World => XZ
          clear hc2 hyc
        case' refine_2 =>
          refine ⟨_, 13, #[.pointer (some ⟨d.B, 0, none⟩), .int .i64 2], rfl, rfl, by simp [go_sem], ?_⟩
          refine (rdr_pick Rma.out (by have := Q1.out; omega) 2 (by decide)).mono ?_
          rintro e Y2 ⟨mb, rfl, hmb0, hmb1, hr, hg, -, ho⟩
          have Rmb := hid hr
          have Gmb := hid (Gma.out.trans hg)
          clear hr hg ho
          refine ⟨_, rfl, trivial, ?_⟩
          refine pick_frame (by simp [go_sem]; exact rfl) ?_
          have hw2 : IntKind.i64.wrap ((k : Int) + mb) = (k : Int) + mb := by rw [IntKind.wrap_i64]; have := HTt.out; omega
          refine pick_op (i := 13) (v := .int .i64 ((k : Int) + mb)) (by kernel_rfl) rfl (by kernel_rfl) (by kernel_rfl) rfl rfl (fun w' hw => by simp [go_sem, hw2]) trivial (by simp [go_sem]; exact rfl) ?_
          have hs0 : 0 ≤ (k : Int) + mb := by omega
          have hs1 : (k : Int) + mb ≤ (t.size : Int) := by omega
          refine pick_op (i := 14) (v := .string (t.extract ((k : Int) + mb).toNat t.size)) (by kernel_rfl) rfl (by kernel_rfl) (by kernel_rfl) rfl rfl (fun w' hw => by simp [go_sem, hs0, hs1]) trivial (by simp [go_sem]; exact rfl) ?_
          clear hw2 hs0 hs1
          have bl : Below Y2.heap.size Y2 (Y2.alloc (.cells ftV 9)) := (Below.refl _ _).alloc (Nat.le_refl _) _
          have RB := hid (MapKept.heap_alloc Y2 (.cells ftV 9)).1
          have R6 := hid (Rmb.out.below bl)
          have G6 := hid (Gmb.out.trans (Grew.of_below bl))
          have NB := hid (show Y2.heap.size ≠ d.B by have := heap_lt Rmb.out.blk; omega)
          clear bl
          refine pick_make (i := 3) (v := .slice (some ⟨Y2.heap.size, 0, none⟩) 14 14) (w1 := Y2.alloc (.cells ftV 9)) rfl (by kernel_rfl) rfl rfl (by simp [go_sem, ftV]) trivial (by simp [go_sem]; exact rfl) ?_
          obtain ⟨nb, hnb⟩ : ∃ nb, Y2.heap.size = nb := ⟨_, rfl⟩
          generalize Y2.alloc (.cells ftV 9) = Y3 at *
          rw [hnb] at RB NB ⊢
          clear hnb
          refine pick_op (i := 6) (v := .pointer (some ⟨nb, ma.toNat, none⟩)) (by kernel_rfl) rfl (by kernel_rfl) (by kernel_rfl) rfl rfl (fun w' hw => by simp [go_sem, hma0, hma1]) trivial (by simp [go_sem]; exact rfl) ?_
          refine pick_more (fun w => w.cell? ⟨nb, ma.toNat, none⟩ = some (.string y)) (fun w _ => trivial) ?_
          have hyc : Y3.cell? ⟨nb, ma.toNat, none⟩ = some (.string y) := (cell_of_heap RB.out ma.toNat).trans hy
          refine pick_op (i := 7) (v := .string y) (by kernel_rfl) rfl (by kernel_rfl) (by kernel_rfl) rfl rfl (fun w' hw => by simp [go_sem, hw]) hyc (by simp [go_sem]; exact rfl) ?_
          have hc1 : min k t.size + y.size ≤ 9223372036854775807 := by have := HTt.out; have := HYs.out; omega
          refine pick_op (i := 8) (v := .string (t.extract 0 k ++ y)) (by kernel_rfl) rfl (by kernel_rfl) (by kernel_rfl) rfl rfl (fun w' hw => by simp [go_sem, hc1]) hyc (by simp [go_sem]; exact rfl) ?_
          clear hc1
          have hc2 : min k t.size + y.size + (t.size - ((k : Int) + mb).toNat) ≤ 9223372036854775807 := by have := HTt.out; have := HYs.out; omega
          refine pick_op (i := 15) (v := .string (t.extract 0 k ++ y ++ t.extract ((k : Int) + mb).toNat t.size)) (by kernel_rfl) rfl (by kernel_rfl) (by kernel_rfl) rfl rfl (fun w' hw => by simp [go_sem, hc2]) hyc (by simp [go_sem]; exact rfl) ?_
          refine pick_op (i := 16) (v := .string (t.extract 0 k ++ y ++ t.extract ((k : Int) + mb).toNat t.size)) (by kernel_rfl) rfl (by kernel_rfl) (by kernel_rfl) rfl rfl (fun w' hw => by simp [go_sem]) hyc (by simp [go_sem]; exact rfl) ?_
          have HTt := hid (show (t.extract 0 k ++ y ++ t.extract ((k : Int) + mb).toNat t.size).size ≤ 40005 by rw [ByteArray.size_append, ByteArray.size_append]; have := cut_le t 0 k; have := cut_le t ((k : Int) + mb).toNat t.size; have := HTt.out; have := HYs.out; omega)
          generalize t.extract 0 k ++ y ++ t.extract ((k : Int) + mb).toNat t.size = tt at *
          refine pick_end (by kernel_rfl) ?_
          have RZ := hid R6.out
          have GZ := hid G6.out
          have QZ := hid (show q + 4 ≤ 990004 by have := Q1.out; omega)
          rename World => XZ
          clear hc2 hyc
    case' neg =>
      have RZ := hid R3.out
      have GZ := hid G3.out
      have QZ := hid (show q + 1 ≤ 990004 by have := Q1.out; omega)
      have HTt := hid (show t.size ≤ 40005 by have := HTt.out; omega)
      rename World => XZ
      rename ByteArray => tt
      clear R3 G3
  all_goals
    go_wp2_with fail
    refine (rdr_pick RZ.out (by have := QZ.out; omega) 80 (by decide)).mono ?_
    rintro e X8 ⟨m8, rfl, hm80, hm81, hr8, hg8, -, -⟩
    have R8 := hid hr8
    have G8 := hid (GZ.out.trans hg8)
    clear hr8 hg8 RZ GZ
    by_cases h80 : m8 = 0
    · subst h80
      have HM := hid (fun (Z : World) => many_lit ⟨#[40]⟩ 700 (by decide) (by decide) (by decide) Z)
      have HM2 := hid (fun (Z : World) => many_lit ⟨#[41]⟩ 700 (by decide) (by decide) (by decide) Z)
      go_wp2_with fail
      refine (HM.out _).mono ?_
      rintro e X9 ⟨t1, rfl, ht1, hb9⟩
      have HT1 := hid ht1
      have R9 := hid (R8.out.below hb9)
      have G9 := hid (G8.out.trans (Grew.of_below hb9))
      have hc1 : ¬ 9223372036854775807 < t1.size + 1 := by omega
      clear ht1 hb9 R8 G8
      go_wp2_with fail
      refine (HM2.out _).mono ?_
      rintro e X10 ⟨t2, rfl, ht2, hb10⟩
      have HT2 := hid ht2
      have R10 := hid (R9.out.below hb10)
      have G10 := hid (G9.out.trans (Grew.of_below hb10))
      have hc2 : ¬ 9223372036854775807 < t1.size + 1 + t2.size := by have := HT1.out; omega
      clear ht2 hb10 R9 G9
      go_wp2_with fail
      go_ret
      exact ⟨_, _, rfl, by rw [ByteArray.size_append, ByteArray.size_append]; have := HT1.out; have := HT2.out; have e : (⟨#[49]⟩ : ByteArray).size = 1 := rfl; rw [e]; omega, R10.out, by have := QZ.out; omega, G10.out⟩
    · have z80 : (m8 == 0) = false := by simp [h80]
      by_cases h81 : m8 = 1
      · subst h81
        go_wp2_with fail
        refine (rdr_pick R8.out (by have := QZ.out; omega) 2 (by decide)).mono ?_
        rintro e X9 ⟨m9, rfl, hm90, hm91, hr9, hg9, -, -⟩
        have R9 := hid hr9
        have G9 := hid (G8.out.trans hg9)
        have hw9 : wrap64 (1500 + m9) = 1500 + m9 := by unfold wrap64; omega
        have HM := hid (fun (Z : World) => many_lit ⟨#[32]⟩ (1500 + m9) (by decide) (by omega) (by omega) Z)
        obtain ⟨mx, hmx⟩ : ∃ mx, 1500 + m9 = mx := ⟨_, rfl⟩
        rw [hmx] at hw9 HM
        clear hr9 hg9 R8 G8 hm90 hm91
        go_wp2_with fail
        try rw [hmx]
        try rw [hw9]
        refine (HM.out _).mono ?_
        rintro e X10 ⟨t1, rfl, ht1, hb10⟩
        have HT1 := hid ht1
        have R10 := hid (R9.out.below hb10)
        have G10 := hid (G9.out.trans (Grew.of_below hb10))
        clear ht1 hb10 R9 G9 hw9 hmx
        go_wp2_with fail
        go_ret
        exact ⟨_, _, rfl, by have := HT1.out; omega, R10.out, by have := QZ.out; omega, G10.out⟩
      · have z81 : (m8 == 1) = false := by simp [h81]
        by_cases h82 : m8 = 2
        · subst h82
          have HM1 := hid (fun (Z : World) => many_lit ⟨#[43, 49]⟩ 150 (by decide) (by decide) (by decide) Z)
          have HM2 := hid (fun (Z : World) => many_lit ⟨#[43, 49]⟩ 149 (by decide) (by decide) (by decide) Z)
          have HM3 := hid (fun (Z : World) => many_lit ⟨#[57]⟩ 9 (by decide) (by decide) (by decide) Z)
          have HM4 := hid (fun (Z : World) => many_lit ⟨#[57]⟩ 10 (by decide) (by decide) (by decide) Z)
          go_wp2_with fail
          refine (HM1.out _).mono ?_
          rintro e X9 ⟨t1, rfl, ht1, hb9⟩
          have HT1 := hid ht1
          have R9 := hid (R8.out.below hb9)
          have G9 := hid (G8.out.trans (Grew.of_below hb9))
          have hc1 : ¬ 9223372036854775807 < 1 + t1.size := by omega
          clear ht1 hb9 R8 G8
          go_wp2_with fail
          refine (HM2.out _).mono ?_
          rintro e X10 ⟨t2, rfl, ht2, hb10⟩
          have HT2 := hid ht2
          have R10 := hid (R9.out.below hb10)
          have G10 := hid (G9.out.trans (Grew.of_below hb10))
          have hc2 : ¬ 9223372036854775807 < 1 + t2.size := by omega
          clear ht2 hb10 R9 G9
          go_wp2_with fail
          refine (HM3.out _).mono ?_
          rintro e X11 ⟨t3, rfl, ht3, hb11⟩
          have HT3 := hid ht3
          have R11 := hid (R10.out.below hb11)
          have G11 := hid (G10.out.trans (Grew.of_below hb11))
          have hc3 : ¬ 9223372036854775807 < 1 + t3.size := by omega
          clear ht3 hb11 R10 G10
          go_wp2_with fail
          refine (HM4.out _).mono ?_
          rintro e X12 ⟨t4, rfl, ht4, hb12⟩
          have HT4 := hid ht4
          have R12 := hid (R11.out.below hb12)
          have G12 := hid (G11.out.trans (Grew.of_below hb12))
          clear ht4 hb12 R11 G11 hc1 hc2 hc3
          have HS1 := hid (show ((⟨#[49]⟩ : ByteArray) ++ t1).size ≤ 20001 by rw [ByteArray.size_append]; have := HT1.out; have e : (⟨#[49]⟩ : ByteArray).size = 1 := rfl; rw [e]; omega)
          have HS2 := hid (show ((⟨#[49]⟩ : ByteArray) ++ t2).size ≤ 20001 by rw [ByteArray.size_append]; have := HT2.out; have e : (⟨#[49]⟩ : ByteArray).size = 1 := rfl; rw [e]; omega)
          have HS3 := hid (show ((⟨#[48]⟩ : ByteArray) ++ t3).size ≤ 20001 by rw [ByteArray.size_append]; have := HT3.out; have e : (⟨#[48]⟩ : ByteArray).size = 1 := rfl; rw [e]; omega)
          have HS4 := hid (show t4.size ≤ 20001 by have := HT4.out; omega)
          generalize (⟨#[49]⟩ : ByteArray) ++ t1 = s1 at *
          generalize (⟨#[49]⟩ : ByteArray) ++ t2 = s2 at *
          generalize (⟨#[48]⟩ : ByteArray) ++ t3 = s3 at *
          have bl : Below X12.heap.size X12 (X12.alloc (.cells (ntV s1 s2 s3 t4) 9)) := (Below.refl _ _).alloc (Nat.le_refl _) _
          have R13 := hid (R12.out.below bl)
          have G13 := hid (G12.out.trans (Grew.of_below bl))
          have RB := hid (MapKept.heap_alloc X12 (.cells (ntV s1 s2 s3 t4) 9)).1
          have NB := hid (show X12.heap.size ≠ d.B by have := heap_lt R12.out.blk; omega)
          clear bl R12 G12
          unfold ntV at R13 G13 RB
          go_wp2_with fail
          refine (rdr_pick R13.out (by have := QZ.out; omega) 9 (by decide)).mono ?_
          rintro e X14 ⟨m9, rfl, hm90, hm91, hr9, hg9, -, ho⟩
          have R14 := hid hr9
          have G14 := hid (G13.out.trans hg9)
          have RB14 := hid ((ho X12.heap.size NB.out).trans RB.out)
          obtain ⟨y, hys, hy⟩ := nt_get HS1.out HS2.out HS3.out HS4.out m9 hm90 hm91
          unfold ntV at hy
          have cy := (cell_of_heap RB14.out m9.toNat).trans hy
          have HYs := hid hys
          clear hr9 hg9 ho hy hys R13 G13 RB RB14
          go_wp2_with fail
          go_ret
          exact ⟨_, _, rfl, by have := HYs.out; omega, R14.out, by have := QZ.out; omega, G14.out⟩
        · have z82 : (m8 == 2) = false := by simp [h82]
          go_wp2_with fail
          go_ret
          exact ⟨_, _, rfl, by have := HTt.out; omega, R8.out, by have := QZ.out; omega, G8.out⟩
end Go.Proofs.Ytnhofdngmbnlkaa
