/- Bytes that are written behind a head which is a text's own bytes: the first append makes a new row. -/
import Derived.Test.YtmjcifaihmecmaaCodePure
import Derived.Test.YtmjcifaihmecmaaByteRows
import Derived.ArgAppend
namespace Go.Proofs.Ytmjcifaihmecmaa
open Go.RowKit

/-- These bytes lie in a row of the slice's own from block B on, or they are the head alone, as a text's bytes. -/
def OutB (B : Nat) (w : World) (v : Value) (bs : List Int) : Prop :=
  OwnsB B w v bs ∨ (bs = headBytes ∧ ∃ g, v = .slice (some ⟨g, 0, none⟩) 3 3 ∧ B ≤ g ∧ w.heap[g]? = some (.cells #[.int .u8 104, .int .u8 114, .int .u8 49] 5 (3, 4)))

theorem OutB.below {B : Nat} {w w' : World} {v : Value} {bs : List Int} (h : OutB B w v bs) (hb : Below w.heap.size w w') : OutB B w' v bs := by
  rcases h with h | ⟨rfl, g, rfl, hB, hg⟩
  · exact Or.inl (kept_owns h hb)
  · exact Or.inr ⟨rfl, g, rfl, hB, (hb.block g (heap_lt hg)).trans hg⟩

theorem OutB.alloc {B : Nat} {w : World} {v : Value} {bs : List Int} (h : OutB B w v bs) (o : Obj) : OutB B (w.alloc o) v bs := h.below ((Below.refl _ _).alloc (Nat.le_refl _) _)

theorem OutB.mono {B B' : Nat} {w : World} {v : Value} {bs : List Int} (h : OutB B w v bs) (hB : B' ≤ B) : OutB B' w v bs := by
  rcases h with h | ⟨rfl, g, rfl, hg, r⟩
  · exact Or.inl (h.mono hB)
  · exact Or.inr ⟨rfl, g, rfl, Nat.le_trans hB hg, r⟩

theorem OutB.lt {B : Nat} {w : World} {v : Value} {bs : List Int} (h : OutB B w v bs) : ∀ k, v.ownBlock = some k → B ≤ k := by
  rcases h with h | ⟨rfl, g, rfl, hB, hg⟩
  · exact fun k hk => (World.ownsRow.lt h k hk).1
  · intro k hk
    simp [Value.ownBlock] at hk
    omega

theorem OutB.ne {B b : Nat} {w : World} {v : Value} {bs : List Int} {c : Array Value} {t : TypeId} (h : OutB B w v bs) (hb : w.heap[b]? = some (.cells c t)) (hne : 5 ≠ t) : some b ≠ v.ownBlock := by
  rcases h with h | ⟨rfl, g, rfl, hB, hg⟩
  · exact owns_ne h hb hne
  · intro hv
    simp [Value.ownBlock] at hv
    subst hv
    rw [hb] at hg
    simp at hg

theorem OutB.sliceR {B : Nat} {w : World} {v : Value} {bs : List Int} (h : OutB B w v bs) : SliceR 5 1 B w v bs.length (byteCells bs) := by
  rcases h with h | ⟨rfl, g, rfl, hB, hg⟩
  · exact byteSliceR_of_owns h
  · refine ⟨_, 3, rfl, Or.inr ⟨g, rfl, hB, 3, byteCells headBytes, ⟨_, (3, 4), hg, rfl, fun i hi => ?_, Or.inr (by decide)⟩, by decide, fun _ _ => rfl⟩⟩
    match i, hi with
    | 0, _ => rfl
    | 1, _ => rfl
    | 2, _ => rfl

theorem wpList_append_out {w : World} {ops : Array Oper} {rest : List Oper} {o : Oper} {a : Act} {Q : Exit → Act → World → Prop} (hgd : o.guard = none) (s x : Operand)
    (ho : o.op = .call { callee := .builtin .append, args := #[s, x], argTypes := #[30, 30] })
    (B : Nat) (v : Value) (bs : List Int) (hs : a.eval s = v) (hown : OutB B w v bs)
    (ad : Addr) (m c : Nat) (ns : List Int) (news : List Value) (hm : 0 < m) (hx : a.eval x = .slice (some ad) m c) (hl : m = ns.length) (he : news = ns.map (fun b => .int .u8 b)) (hnews : ∀ j u, news[j]? = some u → w.cell? (ad.add j) = some u)
    (hlen : bs.length + m ≤ 100000) (hbase : B ≤ w.heap.size)
    (h : ∀ v' w', OwnsB B w' v' (bs ++ ns) → w.grownBy w' v.ownBlock → wpList Try.prog ops Q rest (a.put o.dst v') w') : wpList Try.prog ops Q (o :: rest) a w := by
  subst he hl
  obtain ⟨i0, hi, hz0, hz1, hz2⟩ := info_parts info_byte
  have h1 : ∀ u ∈ ns.map (fun b => Value.int .u8 b), u.oneCell' = true := fun u hu => by
    obtain ⟨b, _, rfl⟩ := List.mem_map.1 hu
    rfl
  rcases hown with hown | ⟨rfl, g, rfl, hB, hg⟩
  · exact wpList_append_own w hgd s x 30 ho B 5 i0 (.int .u8 0) 1 1 Try.underlying30 hi hz0 hz1 hz2 rfl (by decide) v bs.length _ hs hown ad ns.length c _ hx (by simp) hnews h1 (by unfold maxLen; omega) (by omega) hbase
      (fun v' w' h2 h3 _ => h v' w' (OwnsB.more h2 rfl rfl) h3)
  · refine wpList_append_grows w hgd s x 30 ho 5 i0 (.int .u8 0) 1 1 Try.underlying30 hi hz0 hz1 hz2 rfl (by decide) (some ⟨g, 0, none⟩) 3 3 (headBytes.map (fun b => .int .u8 b)) hs (fun e => by cases e) rfl
      (fun b hb j u hj => ?_) ad ns.length c _ hx (by simp) hnews h1 (by omega) (by unfold maxLen; omega) (by omega) (fun v' w' h2 h3 => h v' w' ?_ ?_)
    · cases hb
      rw [Addr.add_lit, Nat.zero_add]
      simp only [World.cell?, hg]
      match j, hj with
      | 0, hj => exact hj
      | 1, hj => exact hj
      | 2, hj => exact hj
      | j + 3, hj => simp [headBytes] at hj
    · have : OwnsB w.heap.size w' v' (headBytes ++ ns) := OwnsB.more (bs := headBytes) h2 rfl rfl
      exact this.mono hbase
    · exact ⟨h3.os, h3.tape, h3.output, h3.size, fun k hk _ => h3.block k hk (by simp)⟩
end Go.Proofs.Ytmjcifaihmecmaa
