/- The specification's parser: the list of what lies beneath a handler, as it grows. -/
import Derived.Test.YtkdipppeljpgmaaGreatDoorPzKit
namespace Go.Proofs.YtkdipppeljpgmaaGreatDoor
open Go.RowKit Go.Deep

theorem y_type {W : World} {B : Nat} {e : TypeId} {sz : Nat} {v : Value} {n : Nat} {xs : List Value} (h : W.ownsRow B e sz v n xs) {g : Nat} (hg : v.ownBlock = some g) : B ≤ g ∧ ∃ cur, W.heap[g]? = some (.cells cur e) := by
  obtain ⟨-, ⟨rfl, h0⟩ | ⟨g', cap, cur, rfl, hB, hc, -⟩⟩ := h
  · simp [Value.ownBlock] at hg
  · simp [Value.ownBlock] at hg
    subst hg
    exact ⟨hB, cur, hc⟩

theorem y_same {W W' : World} {B : Nat} {e : TypeId} {sz : Nat} {v : Value} {n : Nat} {xs : List Value} (h : W.ownsRow B e sz v n xs) (he : ∀ g, v.ownBlock = some g → W'.heap[g]? = W.heap[g]?) : W'.ownsRow B e sz v n xs := by
  obtain ⟨h0, ⟨rfl, h1⟩ | ⟨g, cap, cur, rfl, hB, hc, hr⟩⟩ := h
  · exact ⟨h0, Or.inl ⟨rfl, h1⟩⟩
  · exact ⟨h0, Or.inr ⟨g, cap, cur, rfl, hB, (he g (by simp [Value.ownBlock])).trans hc, hr⟩⟩

theorem y_is {W : World} {B : Nat} {e : TypeId} {sz : Nat} {v : Value} {n : Nat} {xs : List Value} (h : W.ownsRow B e sz v n xs) : ∃ ad c, v = .slice ad n c := by
  obtain ⟨-, ⟨rfl, h0⟩ | ⟨g', cap, cur, rfl, -⟩⟩ := h
  · exact ⟨none, 0, by rw [h0]⟩
  · exact ⟨_, _, rfl⟩

theorem y_grew {d : Dr} {W W' : World} {B : Nat} {e : TypeId} {sz : Nat} {v : Value} {n : Nat} {xs : List Value} (h : W.ownsRow B e sz v n xs) (h1 : d.B < B) (h2 : d.G < B) (g : Grew d W W') : W'.ownsRow B e sz v n xs :=
  y_same h fun k hk => g.block k ⟨(h.lt k hk).2, by have := (h.lt k hk).1; omega, by have := (h.lt k hk).1; omega⟩

theorem y_info : (Tryz.prog.info? 23).map (fun i => (i.zero, i.size, i.bytes)) = some (some (.slice none 0 0), 1, 24) := by kernel_rfl

theorem y_congr {d : Dr} {W : World} {v : Value} {n sz : Nat} {F H : Nat → Value} (h : Lies d W v n sz F) (e : ∀ i, i < n * sz → F i = H i) : Lies d W v n sz H := by
  rcases h with h | ⟨b, off, cap, h1, h2, h3, h4, h5⟩
  · exact Or.inl h
  · exact Or.inr ⟨b, off, cap, h1, h2, h3, h4, fun i hi => by rw [h5 i hi, e i hi]⟩

/-- A tree that waits in a list. -/
structure Ky where
  ad : Option Addr
  cp : Nat
  ns : List Nd

instance : Inhabited Ky := ⟨⟨none, 0, []⟩⟩

def Ky.val (k : Ky) : Value := .slice k.ad k.ns.length k.cp
def kyV (k : Ky) (_ : Nat) : Value := k.val

theorem ky_one (k : Ky) (i : Nat) : (kyV k i).oneCell' = true := rfl

def kyL (ls : List Ky) : List (Value × List Nd) := ls.map fun k => (k.val, k.ns)

theorem kyL_snd (ls : List Ky) : (kyL ls).map Prod.snd = ls.map Ky.ns := by
  unfold kyL
  rw [List.map_map]
  rfl

theorem kyL_flat (ls : List Ky) : flatL (kyL ls) = (ls.map Ky.ns).flatten := by
  unfold flatL
  rw [List.flatMap_def, kyL_snd]

theorem ky_own {d : Dr} {X : World} {B : Nat} {v : Value} {ls : List Ky} (h : X.ownsRow B 23 1 v ls.length (rowZ kyV 1 ls)) (h1 : d.B < B) (h2 : d.G < B) (hn : ∀ k ∈ ls, NodesD d X k.val k.ns) : KidsV d X v (kyL ls) := by
  refine ⟨?_, fun x hx => ?_⟩
  · have hl : (kyL ls).length = ls.length := by simp [kyL]
    rw [hl]
    refine y_congr (lies_owns (f := kyV) (by decide) h h1 h2) fun i hi => ?_
    rw [Nat.div_one]
    rw [Nat.mul_one] at hi
    simp [kyL, kyV, List.getD, hi]
  · unfold kyL at hx
    rw [List.mem_map] at hx
    obtain ⟨k, hk, rfl⟩ := hx
    exact hn k hk

/-- Nodes stay while a row of lists grows that holds a list already. -/
theorem y_other {d : Dr} {X X' : World} {v u : Value} {ns : List Nd} {B : Nat} {ls : List Ky} (h : NodesD d X v ns) (hu : X.ownsRow B 23 1 u ls.length (rowZ kyV 1 ls)) (h1 : 1 ≤ ls.length) (hg : X.grownBy X' u.ownBlock) : NodesD d X' v ns := by
  obtain ⟨h, hb⟩ := h
  refine ⟨?_, hb⟩
  rcases h with h | ⟨b, off, cap, rfl, hn, rfl, hq, hc⟩
  · exact Or.inl h
  · refine Or.inr ⟨b, 0, cap, rfl, hn, rfl, ⟨Nat.lt_of_lt_of_le hq.1 hg.size, hq.2⟩, fun i hi => ?_⟩
    have hne : some b ≠ u.ownBlock := fun e => by
      have h' := hu
      obtain ⟨-, ⟨-, h0⟩ | ⟨g, cap', cur, rfl, hB, hcc, -⟩⟩ := hu
      · omega
      · simp [Value.ownBlock] at e
        subst e
        have e1 := h'.cellAt 0 (by omega)
        rw [rowZ_get kyV 1 (by decide) ls 0 (by omega)] at e1
        have e2 := hc 0 (by omega)
        rw [Nat.zero_add, e1] at e2
        cases e2
    exact (World.cell?_of_block (a := ⟨b, 0 + i, none⟩) (hg.block b hq.1 hne)).trans (hc i hi)

section
variable {d : Dr} {ws : List Wd} {ad : Option Addr} {cp : Nat}

/-- The parser stays while a row that was made behind it grows. -/
theorem StepP.own {s0 s : Ps} {W X X' : World} {row : Option Nat} (h : StepP d ws ad cp s W X) (h0 : PsAt d ws ad cp s0 W) (hg : X.grownBy X' row) (hr : ∀ g, row = some g → W.heap.size ≤ g) : StepP d ws ad cp s W X' := by
  have hs := h.2.size
  have h1 := heap_lt h0.blk
  have hne : ∀ q, q < W.heap.size → some q ≠ row := fun q hq e => by have := hr q e.symm; omega
  have hgr : Grew d W X' := ⟨hg.os.trans h.2.os, hg.tape.trans h.2.tape, hg.output.trans h.2.output, Nat.le_trans hs hg.size, fun q hq => (hg.block q (by have := hq.1; omega) (hne q hq.1)).trans (h.2.block q hq)⟩
  exact ⟨⟨(hg.block _ (by omega) (hne _ h1)).trans h.1.blk, h.1.eq, h.1.lt, h.1.few, h0.words.grew hgr⟩, hgr⟩

/-- Where the reading of a handler stands. -/
structure Hy (d : Dr) (ws : List Wd) (ad : Option Addr) (cp : Nat) (s : Ps) (W X : World) (v : Value) (ls : List Ky) : Prop where
  step : StepP d ws ad cp s W X
  kids : X.ownsRow W.heap.size 23 1 v ls.length (rowZ kyV 1 ls)
  nodes : ∀ k ∈ ls, NodesD d X k.val k.ns
  some_ : 1 ≤ ls.length

theorem Hy.go {s0 s s' : Ps} {W X X' : World} {v : Value} {ls : List Ky} (h : Hy d ws ad cp s W X v ls) (h0 : PsAt d ws ad cp s0 W) (hp : StepP d ws ad cp s' X X') : Hy d ws ad cp s' W X' v ls :=
  ⟨h.step.step hp, y_grew h.kids (heap_lt h0.blk) (by rw [h0.eq]; exact heap_lt h0.blk) hp.2, fun k hk => (h.nodes k hk).grew hp.2, h.some_⟩

theorem Hy.below {s0 s : Ps} {W X X' : World} {v : Value} {ls : List Ky} (h : Hy d ws ad cp s W X v ls) (h0 : PsAt d ws ad cp s0 W) (hb : Below X.heap.size X X') : Hy d ws ad cp s W X' v ls :=
  h.go h0 ⟨h.step.1.below hb, Grew.of_below hb⟩

theorem Hy.start {s : Ps} {W X : World} (h : StepP d ws ad cp s W X) (k : Ky) (hk : NodesD d X k.val k.ns) :
    Hy d ws ad cp s W (X.alloc (.cells #[k.val] 23)) (.slice (some ⟨X.heap.size, 0, none⟩) 1 1) [k] := by
  have hb : Below X.heap.size X (X.alloc (.cells #[k.val] 23)) := (Below.refl _ _).alloc (Nat.le_refl _) _
  refine ⟨h.below hb, World.ownsRow_lit (base := W.heap.size) (e := 23) (size := 1) X #[k.val] 1 h.2.size (by unfold maxLen; omega) rfl, fun x hx => ?_, by simp⟩
  rw [List.mem_singleton] at hx
  subst hx
  exact hk.grew (Grew.of_below hb)

theorem Hy.re {s0 s s' : Ps} {W X X' : World} {v : Value} {ls : List Ky} (h : Hy d ws ad cp s W X v ls) (h0 : PsAt d ws ad cp s0 W) (g : Grew d X X') (hp : StepP d ws ad cp s' W X') : Hy d ws ad cp s' W X' v ls :=
  ⟨hp, y_grew h.kids (heap_lt h0.blk) (by rw [h0.eq]; exact heap_lt h0.blk) g, fun k hk => (h.nodes k hk).grew g, h.some_⟩

theorem Hy.nx {s0 s : Ps} {W X : World} {v : Value} {ls : List Ky} (h : Hy d ws ad cp s W X v ls) (h0 : PsAt d ws ad cp s0 W) (hl : s.at_ < ws.length) : Hy d ws ad cp s.next W (X.setCell ⟨d.B, 1, none⟩ (.int .i64 ((s.at_ + 1 : Nat) : Int))) v ls :=
  h.re h0 (grew_set X 1 _) (h.step.next hl)

theorem set_grew {W X : World} {q i : Nat} {v : Value} (g : Grew d W X) (hq : W.heap.size ≤ q) : Grew d W (X.setCell ⟨q, i, none⟩ v) := by
  have k := kept_set (kept_refl X (some q)) i v
  exact ⟨k.os.trans g.os, k.tape.trans g.tape, k.output.trans g.output, Nat.le_trans g.size k.size, fun b hb => (k.block b (Nat.lt_of_lt_of_le hb.1 g.size) (by intro e; cases e; have := hb.1; omega)).trans (g.block b hb)⟩

theorem StepP.put {s0 s : Ps} {W X : World} {q : Nat} (h : StepP d ws ad cp s W X) (h0 : PsAt d ws ad cp s0 W) (hq : W.heap.size ≤ q) (i : Nat) (v : Value) : StepP d ws ad cp s W (X.setCell ⟨q, i, none⟩ v) :=
  h.own h0 (kept_set (kept_refl X (some q)) i v) (fun g e => by cases e; exact hq)

theorem sees_live {s : Ps} {l : List UInt8} (hl : l ≠ []) (h : seesS ws s l = true) : s.bad = false := by
  unfold seesS txt at h
  by_cases hc : s.bad = true ∨ ws.length ≤ s.at_ ∨ (curW ws s.at_).kind < 3
  · rw [if_pos hc, no_bytes] at h
    cases l with
    | nil => exact absurd rfl hl
    | cons a l => cases h
  · cases hb : s.bad with
    | true => exact absurd (Or.inl hb) hc
    | false => rfl

theorem name_live {s : Ps} (h : (nameS ws s).2.bad = false) : (nameS ws s).2.at_ = s.at_ + 1 := by
  unfold nameS at h ⊢
  cases hn : isNm ws s with
  | true => rfl
  | false =>
    rw [hn] at h
    cases h

theorem take_on {s : Ps} {l : List UInt8} : s.at_ ≤ (takeS ws l s).2.at_ := by
  unfold takeS
  cases seesS ws s l with
  | true => exact Nat.le_succ _
  | false => exact Nat.le_refl _

theorem stuck_false {α : Type} {p : PS α} (h : StuckS p) {s : Ps} (hb : (p s).2.bad = false) : s.bad = false := by
  cases hs : s.bad with
  | true =>
    rw [h s hs, hs] at hb
    cases hb
  | false => rfl

/-- A tree more. -/
theorem Hy.app {s0 s : Ps} {W X : World} {v : Value} {ls : List Ky} (h : Hy d ws ad cp s W X v ls) (h0 : PsAt d ws ad cp s0 W) (k : Ky) (hk : NodesD d X k.val k.ns) (hl : ls.length ≤ 10000) (ty : TypeId) :
    ∃ v' X', (Builtin.append_ #[85, 85] ty #[v, .slice (some ⟨X.heap.size, 0, none⟩) 1 1]).run Tryz.prog (X.alloc (.cells #[.slice k.ad k.ns.length k.cp] 23)) = .ok v' X' ∧ Hy d ws ad cp s W X' v' (ls ++ [k]) ∧ ∀ (q : Nat) (c : Array Value), X.heap[q]? = some (.cells c 64) → X'.heap[q]? = some (.cells c 64) := by
  obtain ⟨i0, hinf, hz0, hz1, hz2⟩ := info_parts y_info
  have hb : Below X.heap.size X (X.alloc (.cells #[.slice k.ad k.ns.length k.cp] 23)) := (Below.refl _ _).alloc (Nat.le_refl _) _
  have hX := h.below h0 hb
  have hB := heap_lt h.step.1.blk
  have hli : Lies d (X.alloc (.cells #[.slice k.ad k.ns.length k.cp] 23)) (.slice (some ⟨X.heap.size, 0, none⟩) 1 1) [k].length 1 (fun i => kyV ([k].getD (i / 1) default) (i % 1)) :=
    lies_lit (f := kyV) (sz := 1) (by decide) X 23 [k] _ rfl hB (by rw [h0.eq]; exact hB)
  obtain ⟨v', X', hr, ho, hgr⟩ := app_row (d := d) ky_one Tryz.underlying85 hinf hz0 hz1 hz2 rfl (by decide) (by decide) hX.kids hli (by simp; omega) hX.step.2.size ty
  refine ⟨v', X', hr, ⟨hX.step.own h0 hgr (fun g hg => (hX.kids.lt g hg).1), ho, fun x hx => ?_, by simp⟩, fun q c hq => ?_⟩
  · rw [List.mem_append, List.mem_singleton] at hx
    rcases hx with hx | rfl
    · exact y_other (hX.nodes x hx) hX.kids h.some_ hgr
    · exact y_other (hk.grew (Grew.of_below hb)) hX.kids h.some_ hgr
  · have hq' := (hb.block q (heap_lt hq)).trans hq
    refine (hgr.block q (heap_lt hq') fun e => ?_).trans hq'
    obtain ⟨-, cur, hc⟩ := y_type hX.kids e.symm
    rw [hq'] at hc
    cases hc
end
end Go.Proofs.YtkdipppeljpgmaaGreatDoor
