/- Trees that stand one behind the other: a list of nodes as a forest (a node, what is beneath it, what stands behind it). -/
import Derived.Test.YtkdipppeljpgmaaGreatDoorEndWalks
namespace Go.Proofs.YtkdipppeljpgmaaGreatDoor
open Go.RowKit

inductive Fo where
  | none : Fo
  | tree (n : Nd) (kids rest : Fo) : Fo

namespace Fo
def flat : Fo → List Nd
  | .none => []
  | .tree n k r => n :: (k.flat ++ r.flat)

def count : Fo → Nat
  | .none => 0
  | .tree _ _ r => r.count + 1

def deep : Fo → Nat
  | .none => 0
  | .tree _ k r => max (k.deep + 1) r.deep

def wf : Fo → Prop
  | .none => True
  | .tree n k r => n.kids = k.count ∧ k.wf ∧ r.wf

def app : Fo → Fo → Fo
  | .none, g => g
  | .tree n k r, g => .tree n k (r.app g)

theorem app_flat : ∀ (f g : Fo), (f.app g).flat = f.flat ++ g.flat
  | .none, _ => rfl
  | .tree n k r, g => by simp [app, flat, app_flat r g]

theorem app_count : ∀ (f g : Fo), (f.app g).count = f.count + g.count
  | .none, g => by simp [app, count]
  | .tree n k r, g => by simp only [app, count, app_count r g]; omega

theorem app_wf : ∀ (f g : Fo), (f.app g).wf ↔ f.wf ∧ g.wf
  | .none, g => by simp [app, wf]
  | .tree n k r, g => by simp only [app, wf, app_wf r g]; constructor <;> (intro h; simp_all)

/-- The first of a forest's trees, and the rest. -/
theorem split : ∀ (f : Fo) (i : Nat), i ≤ f.count → ∃ g h : Fo, f = g.app h ∧ g.count = i
  | f, 0, _ => ⟨.none, f, rfl, rfl⟩
  | .none, i + 1, h => by simp [count] at h
  | .tree n k r, i + 1, h => by
    obtain ⟨g, h', e, hc⟩ := split r i (by simp [count] at h; omega)
    exact ⟨.tree n k g, h', by rw [e]; rfl, by simp [count, hc]⟩

theorem count_le : ∀ (f : Fo), f.count ≤ f.flat.length
  | .none => Nat.le_refl _
  | .tree n k r => by
    have := count_le r
    simp only [count, flat, List.length_cons, List.length_append]
    omega

theorem deep_le : ∀ (f : Fo), f.deep ≤ f.flat.length
  | .none => Nat.le_refl _
  | .tree n k r => by
    have := deep_le k
    have := deep_le r
    simp only [deep, flat, List.length_cons, List.length_append]
    omega

/-- The end of so many trees. -/
theorem end_of : ∀ (f : Fo) (L o pos : Nat) (suf : List Nd), f.wf → f.flat.length ≤ L → endGo L (f.flat ++ suf) (f.count + o) pos = endGo L suf o (pos + f.flat.length)
  | .none, L, o, pos, suf, _, _ => by simp [flat, count]
  | .tree n k r, L, o, pos, suf, h, hL => by
    obtain ⟨hn, hk, hr⟩ := h
    have hc := count_le k
    simp only [flat, List.length_cons, List.length_append] at hL
    have e : (Fo.tree n k r).count + o = r.count + o + 1 := by simp only [count]; omega
    rw [e]
    show endGo L (n :: (k.flat ++ r.flat) ++ suf) (r.count + o + 1) pos = _
    rw [List.cons_append, endGo, if_neg (by rw [hn]; omega), hn, Int.toNat_natCast, List.append_assoc, Nat.add_comm (r.count + o), end_of k L _ _ _ hk (by omega), end_of r L _ _ _ hr (by omega)]
    congr 1
    simp only [flat, List.length_cons, List.length_append]
    omega

/-- Where a list's nodes come out even they are a forest. -/
theorem of_end : ∀ (r : List Nd) (L o pos : Nat), endGo L r o pos = pos + r.length → ∃ f : Fo, f.wf ∧ f.count = o ∧ f.flat = r
  | r, L, 0, pos, h => by
    rw [endGo_zero] at h
    have : r = [] := List.eq_nil_of_length_eq_zero (by omega)
    exact ⟨.none, trivial, rfl, this.symm⟩
  | [], L, o + 1, pos, h => by
    simp [endGo] at h
  | n :: r, L, o + 1, pos, h => by
    rw [endGo] at h
    split at h
    · simp only [List.length_cons] at h
      omega
    · rename_i hk
      obtain ⟨f, hf, hc, he⟩ := of_end r L _ _ (by rw [h]; simp only [List.length_cons]; omega)
      obtain ⟨g, g', hs, hg⟩ := split f n.kids.toNat (by omega)
      rw [hs] at hf hc he
      rw [app_count] at hc
      obtain ⟨hw, hw'⟩ := (app_wf _ _).1 hf
      refine ⟨.tree n g g', ⟨by omega, hw, hw'⟩, by simp only [count]; omega, ?_⟩
      rw [flat, ← app_flat, he]
end Fo

/-- The end of the tree at a place. -/
theorem treeEnd_at {ns : List Nd} {p : Nat} {n : Nd} {k : Fo} {suf : List Nd} (hp : ns.drop p = n :: (k.flat ++ suf)) (hn : n.kids = k.count) (hk : k.wf) : treeEnd ns p = ((p + 1 + k.flat.length : Nat) : Int) := by
  have hl : (ns.drop p).length = 1 + k.flat.length + suf.length := by rw [hp]; simp only [List.length_cons, List.length_append]; omega
  rw [List.length_drop] at hl
  have e := Fo.end_of (.tree n k .none) ns.length 0 p suf ⟨hn, hk, trivial⟩ (by simp only [Fo.flat, List.length_cons, List.length_append, List.length_nil]; omega)
  rw [endGo_zero] at e
  simp only [Fo.flat, Fo.count, List.append_nil, List.cons_append, Nat.zero_add, Nat.add_zero, List.length_cons] at e
  rw [treeEnd, if_neg (by omega), Int.toNat_natCast, hp, e]
  omega

/-- A list that is one tree to its end. -/
theorem tree_of {ns : List Nd} (h : treeEnd ns 0 = ns.length) : ∃ (n : Nd) (k : Fo), ns = n :: k.flat ∧ n.kids = k.count ∧ k.wf := by
  rw [treeEnd] at h
  split at h
  · omega
  · obtain ⟨f, hf, hc, he⟩ := Fo.of_end ns ns.length 1 0 (by simpa using h)
    match f, hf, hc, he with
    | .none, _, hc, _ => simp [Fo.count] at hc
    | .tree n k r, hf, hc, he =>
      have : r = .none := by
        cases r with
        | none => rfl
        | tree => simp [Fo.count] at hc
      subst this
      exact ⟨n, k, by rw [← he]; simp [Fo.flat], hf.1, hf.2.1⟩
end Go.Proofs.YtkdipppeljpgmaaGreatDoor
