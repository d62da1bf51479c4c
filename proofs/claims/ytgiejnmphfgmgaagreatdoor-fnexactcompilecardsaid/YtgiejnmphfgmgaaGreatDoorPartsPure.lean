/- The parts of a tree are trees, but for a handler's clauses. -/
import Derived.Test.YtgiejnmphfgmgaaGreatDoorTreeAns
namespace Go.Proofs.YtgiejnmphfgmgaaGreatDoor
open Go.RowKit Go.Deep

/-- Both answers at a tree. -/
theorem answers_of {ns : List Nd} {n : Nd} {k : Fo} (h1 : ns = n :: k.flat) (h2 : n.kids = k.count) (h3 : k.wf) (hl : ns.length ≤ 300) :
    SpecAns ns (ns.all ownOk && (decide (k.deep + 1 ≤ 40) && specTree n k 0)) ∧ ImplAns ns (ns.all ownOk && (decide (k.deep + 1 ≤ 40) && specTree n k 0)) := by
  have hl1 : 1 ≤ ns.length := by rw [h1]; simp
  refine ⟨Or.inr (Or.inr ⟨hl1, hl, n, k, h1, h2, h3, rfl⟩), Or.inr (Or.inr ⟨hl1, hl, n, k, h1, h2, h3, ?_⟩)⟩
  have e : ns.all nodeOkZ = (ns.all ownOk && ns.all ok26) := all_both ownOk ok26 ns
  rw [e, trees_eq, ← h1]
  cases ns.all ownOk <;> cases ns.all ok26 <;> cases implTree n k <;> cases decide (k.deep + 1 ≤ 40) <;> rfl

/-- A kid that was met is well headed somehow, and all beneath it is right. -/
theorem kid_ok : ∀ (g : Fo) (m : Nd) (kk r : Fo) (pk : Int) (i : Nat) (ops : List ByteArray), specKids (g.app (.tree m kk r)) pk i ops = true → (∃ c, headOk m c = true) ∧ specKids kk m.kind 0 [] = true
  | .none, m, kk, r, pk, i, ops, h => by
    simp only [Fo.app, specKids, Bool.and_eq_true] at h
    exact ⟨⟨_, h.1⟩, h.2.1⟩
  | .tree n k r', m, kk, r, pk, i, ops, h => by
    simp only [Fo.app, specKids, Bool.and_eq_true] at h
    obtain ⟨-, -, h⟩ := h
    split at h
    · rw [Bool.and_eq_true] at h
      exact kid_ok r' m kk r pk (i + 1) _ h.2
    · exact kid_ok r' m kk r pk (i + 1) _ h

theorem kid_deep : ∀ (g : Fo) (m : Nd) (kk r : Fo), kk.deep + 1 ≤ (g.app (.tree m kk r)).deep
  | .none, m, kk, r => by simp only [Fo.app, Fo.deep]; omega
  | .tree n k r', m, kk, r => by
    have := kid_deep r' m kk r
    simp only [Fo.app, Fo.deep]
    omega

def clauseB (m : Nd) : Bool := m.kind == 25 || m.kind == 26

theorem head_zero (m : Nd) (c : Nat) (h : headOk m c = true) : headOk m 0 = !clauseB m := by
  unfold headOk at h ⊢
  unfold clauseB
  rw [Bool.and_eq_true] at h
  rw [h.2]
  cases m.kind == 25 <;> cases m.kind == 26 <;> rfl

/-- What is told of a part. -/
theorem part_ans {ns : List Nd} {n : Nd} {g kk r : Fo} {m : Nd} (hA : SpecAns ns true) (h1 : ns = n :: (g.app (.tree m kk r)).flat) (hu : ∀ n' k', ns = n' :: k'.flat → n'.kids = k'.count → k'.wf → n' = n ∧ k' = g.app (.tree m kk r)) (h3 : (g.app (.tree m kk r)).wf) :
    SpecAns (m :: kk.flat) (!clauseB m) ∧ ImplAns (m :: kk.flat) (!clauseB m) := by
  rcases hA with ⟨-, h⟩ | ⟨-, -, -, h⟩ | ⟨-, hl, n', k', e1, e2, e3, hR⟩
  · cases h
  · cases h
  · obtain ⟨rfl, rfl⟩ := hu n' k' e1 e2 e3
    have hR' := hR.symm
    rw [Bool.and_eq_true, Bool.and_eq_true, decide_eq_true_eq] at hR'
    obtain ⟨hown, hdeep, hsp⟩ := hR'
    unfold specTree at hsp
    rw [Bool.and_eq_true] at hsp
    obtain ⟨⟨c, hc⟩, hk⟩ := kid_ok g m kk r _ _ _ hsp.2
    have hd := kid_deep g m kk r
    have hwf := ((Fo.app_wf g _).1 h3).2
    have hsub : ∀ x ∈ m :: kk.flat, x ∈ ns := fun x hx => by
      rw [e1, Fo.app_flat]
      refine List.mem_cons_of_mem _ (List.mem_append_right _ ?_)
      show x ∈ m :: (kk.flat ++ r.flat)
      rw [List.mem_cons] at hx ⊢
      rcases hx with hx | hx
      · exact Or.inl hx
      · exact Or.inr (List.mem_append_left _ hx)
    have hall : (m :: kk.flat).all ownOk = true := by
      rw [List.all_eq_true] at hown ⊢
      exact fun x hx => hown x (hsub x hx)
    have hlen : (m :: kk.flat).length ≤ 300 := by
      have : ns.length = 1 + g.flat.length + (m :: (kk.flat ++ r.flat)).length := by
        rw [e1, Fo.app_flat]
        simp only [List.length_cons, List.length_append, Fo.flat]
        omega
      simp only [List.length_cons, List.length_append] at this ⊢
      omega
    have := answers_of (ns := m :: kk.flat) rfl hwf.1 hwf.2.1 hlen
    rwa [hall, decide_eq_true (by omega), specTree, hk, Bool.and_true, Bool.true_and, Bool.true_and, head_zero m c hc] at this

/-- A forest is known by its nodes. -/
theorem flat_inj : ∀ (f g : Fo), f.wf → g.wf → f.count = g.count → ∀ (a b : List Nd), f.flat ++ a = g.flat ++ b → f = g ∧ a = b
  | .none, .none, _, _, _, a, b, h => ⟨rfl, h⟩
  | .none, .tree _ _ _, _, _, hc, _, _, _ => by simp [Fo.count] at hc
  | .tree _ _ _, .none, _, _, hc, _, _, _ => by simp [Fo.count] at hc
  | .tree n k r, .tree n' k' r', hf, hg, hc, a, b, h => by
    simp only [Fo.flat, List.cons_append, List.cons.injEq, List.append_assoc] at h
    obtain ⟨rfl, h⟩ := h
    have h1 := hf.1
    have h2 := hg.1
    obtain ⟨rfl, h4⟩ := flat_inj k k' hf.2.1 hg.2.1 (by omega) _ _ h
    obtain ⟨rfl, h5⟩ := flat_inj r r' hf.2.2 hg.2.2 (by simp only [Fo.count] at hc; omega) _ _ h4
    exact ⟨rfl, h5⟩

theorem tree_inj {ns : List Nd} {n n' : Nd} {k k' : Fo} (h1 : ns = n :: k.flat) (h2 : n.kids = k.count) (h3 : k.wf) (e1 : ns = n' :: k'.flat) (e2 : n'.kids = k'.count) (e3 : k'.wf) : n' = n ∧ k' = k := by
  rw [h1] at e1
  simp only [List.cons.injEq] at e1
  obtain ⟨rfl, e1⟩ := e1
  obtain ⟨rfl, -⟩ := flat_inj k k' h3 e3 (by omega) [] [] (by simpa using e1)
  exact ⟨rfl, rfl⟩

/-- Any place of a forest begins a tree. -/
theorem place_of : ∀ (f : Fo) (p : Nat), f.wf → p < f.flat.length → ∃ (n : Nd) (k : Fo) (suf : List Nd), f.flat.drop p = n :: (k.flat ++ suf) ∧ n.kids = k.count ∧ k.wf
  | .none, p, _, h => by simp [Fo.flat] at h
  | .tree n k r, 0, hw, _ => ⟨n, k, r.flat, rfl, hw.1, hw.2.1⟩
  | .tree n k r, p + 1, hw, h => by
    simp only [Fo.flat, List.length_cons, List.length_append, List.drop_succ_cons] at h ⊢
    by_cases hp : p < k.flat.length
    · obtain ⟨m, kk, suf, e, h1, h2⟩ := place_of k p hw.2.1 hp
      refine ⟨m, kk, suf ++ r.flat, ?_, h1, h2⟩
      rw [List.drop_append_of_le_length (by omega), e]
      simp
    · obtain ⟨m, kk, suf, e, h1, h2⟩ := place_of r (p - k.flat.length) hw.2.2 (by omega)
      refine ⟨m, kk, suf, ?_, h1, h2⟩
      rw [List.drop_append, e]
      simp [List.drop_eq_nil_of_le (by omega : k.flat.length ≤ p)]

/-- Every place of a tree has its end in it. -/
theorem end_in {ns : List Nd} {n : Nd} {k : Fo} (h1 : ns = n :: k.flat) (h2 : n.kids = k.count) (h3 : k.wf) {p : Nat} (hp : p < ns.length) : ∃ e : Nat, treeEnd ns (p : Int) = (e : Int) ∧ p < e ∧ e ≤ ns.length := by
  have hf : (Fo.tree n k .none).flat = ns := by rw [h1]; simp [Fo.flat]
  obtain ⟨m, kk, suf, e, g1, g2⟩ := place_of (.tree n k .none) p ⟨h2, h3, trivial⟩ (by rw [hf]; exact hp)
  rw [hf] at e
  refine ⟨p + 1 + kk.flat.length, treeEnd_at e g1 g2, by omega, ?_⟩
  have := congrArg List.length e
  simp only [List.length_drop, List.length_cons, List.length_append] at this
  omega
end Go.Proofs.YtgiejnmphfgmgaaGreatDoor
