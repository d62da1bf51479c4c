/- Whether a node has the fields of its kind, as the program asks it. -/
import Derived.Test.YtegjdgiegnofhaaDoorSpecOwn
import Derived.Test.YtegjdgiegnofhaaDoorKidsM
import Derived.Test.YtegjdgiegnofhaaDoorClausesM
import Derived.Test.YtegjdgiegnofhaaDoorNodeArgs
namespace Go.Proofs.YtegjdgiegnofhaaDoor
open Go.RowKit

/-- What the program asks of one node. -/
def nodeOkZ (n : Nd) : Bool := ownOk n && !(n.kind == 26 && n.b.toList == n.c.toList)

theorem shape_in {k : Int} (h : ¬ (k < 1 ∨ 26 < k)) : shapeVal k = .tuple #[.agg #[.int .i64 (namesZ k), .int .i64 (mostZ k), .int .i64 (leastZ k), .int .i64 (greatZ k)], .bool true] := by rw [shapeVal, if_neg h]
theorem shape_out {k : Int} (h : k < 1 ∨ 26 < k) : shapeVal k = .tuple #[.agg #[.int .i64 0, .int .i64 0, .int .i64 0, .int .i64 0], .bool false] := by rw [shapeVal, if_pos h]

theorem own_out {n : Nd} (h : n.kind < 1 ∨ 26 < n.kind) : nodeOkZ n = false := by
  have : arityZ n.kind = -1 := tab_other h
  simp [nodeOkZ, ownOk, kidsOk, this]

theorem arity_in {k : Int} (h : ¬ (k < 1 ∨ 26 < k)) : arityZ k ≠ -1 := by
  rcases kinds k with rfl | rfl | rfl | rfl | rfl | rfl | rfl | rfl | rfl | rfl | rfl | rfl | rfl | rfl | rfl | rfl | rfl | rfl | rfl | rfl | rfl | rfl | rfl | rfl | rfl | rfl | hh
  all_goals try decide
  exact absurd hh h

theorem kids_in {k kids : Int} (h : ¬ (k < 1 ∨ 26 < k)) : kidsOk k kids = decide (leastZ k ≤ kids ∧ kids ≤ greatZ k) := by
  unfold kidsOk leastZ greatZ
  rw [if_neg (arity_in h)]
  by_cases h2 : arityZ k = -2
  · rw [if_pos h2, if_pos h2, if_pos h2]
  · rw [if_neg h2, if_neg h2, if_neg h2]
    exact decide_eq_decide.2 ⟨fun x => by omega, fun x => by omega⟩

end Go.Proofs.YtegjdgiegnofhaaDoor

/- What a tree must be: the specification's answer and the program's are one. -/
namespace Go.Proofs.YtegjdgiegnofhaaDoor
open Go.RowKit Go.Deep

def SpecAns (ns : List Nd) (R : Bool) : Prop :=
  (¬ (1 ≤ ns.length ∧ ns.length ≤ 300) ∧ R = false) ∨
  (1 ≤ ns.length ∧ ns.length ≤ 300 ∧ treeEnd ns 0 ≠ ns.length ∧ R = false) ∨
  (1 ≤ ns.length ∧ ns.length ≤ 300 ∧ ∃ n k, ns = n :: k.flat ∧ n.kids = k.count ∧ k.wf ∧ R = (ns.all ownOk && (decide (k.deep + 1 ≤ 40) && specTree n k 0)))

def ImplAns (ns : List Nd) (R : Bool) : Prop :=
  (¬ (1 ≤ ns.length ∧ ns.length ≤ 300) ∧ R = false) ∨
  (1 ≤ ns.length ∧ ns.length ≤ 300 ∧ treeEnd ns 0 ≠ ns.length ∧ R = false) ∨
  (1 ≤ ns.length ∧ ns.length ≤ 300 ∧ ∃ n k, ns = n :: k.flat ∧ n.kids = k.count ∧ k.wf ∧ R = (ns.all nodeOkZ && (implTree n k && decide (k.deep + 1 ≤ 40))))

theorem all_both {α : Type} (p q : α → Bool) : ∀ l : List α, l.all (fun x => p x && q x) = (l.all p && l.all q)
  | [] => rfl
  | x :: l => by
    simp only [List.all_cons, all_both p q l]
    cases p x <;> cases q x <;> cases l.all p <;> cases l.all q <;> rfl

theorem answers (ns : List Nd) : ∃ R, SpecAns ns R ∧ ImplAns ns R := by
  by_cases hl : 1 ≤ ns.length ∧ ns.length ≤ 300
  · by_cases he : treeEnd ns 0 = ns.length
    · obtain ⟨n, k, h1, h2, h3⟩ := tree_of he
      refine ⟨_, Or.inr (Or.inr ⟨hl.1, hl.2, n, k, h1, h2, h3, rfl⟩), Or.inr (Or.inr ⟨hl.1, hl.2, n, k, h1, h2, h3, ?_⟩)⟩
      have e : ns.all nodeOkZ = (ns.all ownOk && ns.all ok26) := all_both ownOk ok26 ns
      rw [e, trees_eq, ← h1]
      cases ns.all ownOk <;> cases ns.all ok26 <;> cases implTree n k <;> cases decide (k.deep + 1 ≤ 40) <;> rfl
    · exact ⟨false, Or.inr (Or.inl ⟨hl.1, hl.2, he, rfl⟩), Or.inr (Or.inl ⟨hl.1, hl.2, he, rfl⟩)⟩
  · exact ⟨false, Or.inl ⟨hl, rfl⟩, Or.inl ⟨hl, rfl⟩⟩

theorem fits_of_own {n : Nd} (h : ownOk n = true) : Fits n n.kids.toNat := by
  have hk : kidsOk n.kind n.kids = true := by
    simp only [ownOk, Bool.and_eq_true] at h
    exact h.1
  have hr : ¬ (n.kind < 1 ∨ 26 < n.kind) := by
    intro hx
    have : arityZ n.kind = -1 := tab_other hx
    simp [kidsOk, this] at hk
  unfold kidsOk at hk
  have ha := arity_range n.kind
  split at hk
  · cases hk
  · rename_i h1
    split at hk
    · rename_i h2
      have hk := of_decide_eq_true hk
      refine ⟨?_, ?_, by omega, by omega⟩
      · rw [leastZ, if_pos h2]; omega
      · rw [greatZ, if_pos h2]; omega
    · rename_i h2
      have hk := of_decide_eq_true hk
      refine ⟨?_, ?_, by omega, by omega⟩
      · rw [leastZ, if_neg h2]; omega
      · rw [greatZ, if_neg h2]; omega

theorem end_of_tree {ns : List Nd} {n : Nd} {k : Fo} (h1 : ns = n :: k.flat) (h2 : n.kids = k.count) (h3 : k.wf) : treeEnd ns 0 = (ns.length : Int) := by
  have := treeEnd_at (ns := ns) (p := 0) (n := n) (k := k) (suf := []) (by rw [h1]; simp) h2 h3
  rw [show ((0 : Nat) : Int) = 0 from rfl] at this
  rw [this, h1]
  simp
  omega

theorem all_take_succ {p : Nd → Bool} {ns : List Nd} {i : Nat} (hi : i < ns.length) (h : (ns.take i).all p = true) (hn : p (ns.getD i default) = true) : (ns.take (i + 1)).all p = true := by
  rw [List.take_succ_eq_append_getElem hi, List.all_append, h]
  simp only [List.getD, List.getElem?_eq_getElem hi] at hn
  simpa using hn

theorem all_false {p : Nd → Bool} {ns : List Nd} {i : Nat} (hi : i < ns.length) (hn : p (ns.getD i default) = false) : ns.all p = false := by
  rw [List.all_eq_false]
  simp only [List.getD, List.getElem?_eq_getElem hi] at hn
  exact ⟨ns[i], List.getElem_mem _, by simpa using hn⟩

/-- What is left behind the nodes' own test. -/
def Rest (ns : List Nd) (R : Bool) (own : Nd → Bool) (tr : Nd → Fo → Bool) : Prop :=
  (ns.all own = false → R = false) ∧ (ns.all own = true → (treeEnd ns 0 ≠ (ns.length : Int) ∧ R = false) ∨ ∃ n k, ns = n :: k.flat ∧ n.kids = k.count ∧ k.wf ∧ treeEnd ns 0 = (ns.length : Int) ∧ R = (tr n k && decide (k.deep + 1 ≤ 40)))

theorem SpecAns.rest {ns : List Nd} {R : Bool} (h : SpecAns ns R) (hl : 1 ≤ ns.length ∧ ns.length ≤ 300) : Rest ns R ownOk (fun n k => specTree n k 0) := by
  rcases h with ⟨h, _⟩ | ⟨_, _, he, hR⟩ | ⟨_, _, n, k, h1, h2, h3, hR⟩
  · exact absurd hl h
  · exact ⟨fun _ => hR, fun _ => Or.inl ⟨he, hR⟩⟩
  · refine ⟨fun h => by rw [hR, h, Bool.false_and], fun h => Or.inr ⟨n, k, h1, h2, h3, end_of_tree h1 h2 h3, ?_⟩⟩
    rw [hR, h, Bool.true_and, Bool.and_comm]

theorem ImplAns.rest {ns : List Nd} {R : Bool} (h : ImplAns ns R) (hl : 1 ≤ ns.length ∧ ns.length ≤ 300) : Rest ns R nodeOkZ implTree := by
  rcases h with ⟨h, _⟩ | ⟨_, _, he, hR⟩ | ⟨_, _, n, k, h1, h2, h3, hR⟩
  · exact absurd hl h
  · exact ⟨fun _ => hR, fun _ => Or.inl ⟨he, hR⟩⟩
  · refine ⟨fun h => by rw [hR, h, Bool.false_and], fun h => Or.inr ⟨n, k, h1, h2, h3, end_of_tree h1 h2 h3, ?_⟩⟩
    rw [hR, h, Bool.true_and]
end Go.Proofs.YtegjdgiegnofhaaDoor

/- The parts of a tree are trees, but for a handler's clauses. -/
namespace Go.Proofs.YtegjdgiegnofhaaDoor
open Go.RowKit Go.Deep

/-- Both answers at a tree. -/
theorem answers_of {ns : List Nd} {n : Nd} {k : Fo} (h1 : ns = n :: k.flat) (h2 : n.kids = k.count) (h3 : k.wf) (hl : ns.length ≤ 300) :
    SpecAns ns (ns.all ownOk && (decide (k.deep + 1 ≤ 40) && specTree n k 0)) ∧ ImplAns ns (ns.all ownOk && (decide (k.deep + 1 ≤ 40) && specTree n k 0)) := by
  have hl1 : 1 ≤ ns.length := by rw [h1]; simp
  refine ⟨Or.inr (Or.inr ⟨hl1, hl, n, k, h1, h2, h3, rfl⟩), Or.inr (Or.inr ⟨hl1, hl, n, k, h1, h2, h3, ?_⟩)⟩
  have e : ns.all nodeOkZ = (ns.all ownOk && ns.all ok26) := all_both ownOk ok26 ns
  rw [e, trees_eq, ← h1]
  cases ns.all ownOk <;> cases ns.all ok26 <;> cases implTree n k <;> cases decide (k.deep + 1 ≤ 40) <;> rfl

/-- A kid that was met is well headed somehow, and all beneath it is right. -/
theorem kid_ok : ∀ (g : Fo) (m : Nd) (kk r : Fo) (pk : Int) (i : Nat) (ops : List ByteArray), specKids (g.app (.tree m kk r)) pk i ops = true → (∃ c, headOk m c = true) ∧ specKids kk m.kind 0 [] = true
  | .none, m, kk, r, pk, i, ops, h => by
    simp only [Fo.app, specKids, Bool.and_eq_true] at h
    exact ⟨⟨_, h.1⟩, h.2.1⟩
  | .tree n k r', m, kk, r, pk, i, ops, h => by
    simp only [Fo.app, specKids, Bool.and_eq_true] at h
    obtain ⟨-, -, h⟩ := h
    split at h
    · rw [Bool.and_eq_true] at h
      exact kid_ok r' m kk r pk (i + 1) _ h.2
    · exact kid_ok r' m kk r pk (i + 1) _ h

theorem kid_deep : ∀ (g : Fo) (m : Nd) (kk r : Fo), kk.deep + 1 ≤ (g.app (.tree m kk r)).deep
  | .none, m, kk, r => by simp only [Fo.app, Fo.deep]; omega
  | .tree n k r', m, kk, r => by
    have := kid_deep r' m kk r
    simp only [Fo.app, Fo.deep]
    omega

def clauseB (m : Nd) : Bool := m.kind == 25 || m.kind == 26

theorem head_zero (m : Nd) (c : Nat) (h : headOk m c = true) : headOk m 0 = !clauseB m := by
  unfold headOk at h ⊢
  unfold clauseB
  rw [Bool.and_eq_true] at h
  rw [h.2]
  cases m.kind == 25 <;> cases m.kind == 26 <;> rfl

/-- What is told of a part. -/
theorem part_ans {ns : List Nd} {n : Nd} {g kk r : Fo} {m : Nd} (hA : SpecAns ns true) (h1 : ns = n :: (g.app (.tree m kk r)).flat) (hu : ∀ n' k', ns = n' :: k'.flat → n'.kids = k'.count → k'.wf → n' = n ∧ k' = g.app (.tree m kk r)) (h3 : (g.app (.tree m kk r)).wf) :
    SpecAns (m :: kk.flat) (!clauseB m) ∧ ImplAns (m :: kk.flat) (!clauseB m) := by
  rcases hA with ⟨-, h⟩ | ⟨-, -, -, h⟩ | ⟨-, hl, n', k', e1, e2, e3, hR⟩
  · cases h
  · cases h
  · obtain ⟨rfl, rfl⟩ := hu n' k' e1 e2 e3
    have hR' := hR.symm
    rw [Bool.and_eq_true, Bool.and_eq_true, decide_eq_true_eq] at hR'
    obtain ⟨hown, hdeep, hsp⟩ := hR'
    unfold specTree at hsp
    rw [Bool.and_eq_true] at hsp
    obtain ⟨⟨c, hc⟩, hk⟩ := kid_ok g m kk r _ _ _ hsp.2
    have hd := kid_deep g m kk r
    have hwf := ((Fo.app_wf g _).1 h3).2
    have hsub : ∀ x ∈ m :: kk.flat, x ∈ ns := fun x hx => by
      rw [e1, Fo.app_flat]
      refine List.mem_cons_of_mem _ (List.mem_append_right _ ?_)
      show x ∈ m :: (kk.flat ++ r.flat)
      rw [List.mem_cons] at hx ⊢
      rcases hx with hx | hx
      · exact Or.inl hx
      · exact Or.inr (List.mem_append_left _ hx)
    have hall : (m :: kk.flat).all ownOk = true := by
      rw [List.all_eq_true] at hown ⊢
      exact fun x hx => hown x (hsub x hx)
    have hlen : (m :: kk.flat).length ≤ 300 := by
      have : ns.length = 1 + g.flat.length + (m :: (kk.flat ++ r.flat)).length := by
        rw [e1, Fo.app_flat]
        simp only [List.length_cons, List.length_append, Fo.flat]
        omega
      simp only [List.length_cons, List.length_append] at this ⊢
      omega
    have := answers_of (ns := m :: kk.flat) rfl hwf.1 hwf.2.1 hlen
    rwa [hall, decide_eq_true (by omega), specTree, hk, Bool.and_true, Bool.true_and, Bool.true_and, head_zero m c hc] at this

/-- A forest is known by its nodes. -/
theorem flat_inj : ∀ (f g : Fo), f.wf → g.wf → f.count = g.count → ∀ (a b : List Nd), f.flat ++ a = g.flat ++ b → f = g ∧ a = b
  | .none, .none, _, _, _, a, b, h => ⟨rfl, h⟩
  | .none, .tree _ _ _, _, _, hc, _, _, _ => by simp [Fo.count] at hc
  | .tree _ _ _, .none, _, _, hc, _, _, _ => by simp [Fo.count] at hc
  | .tree n k r, .tree n' k' r', hf, hg, hc, a, b, h => by
    simp only [Fo.flat, List.cons_append, List.cons.injEq, List.append_assoc] at h
    obtain ⟨rfl, h⟩ := h
    have h1 := hf.1
    have h2 := hg.1
    obtain ⟨rfl, h4⟩ := flat_inj k k' hf.2.1 hg.2.1 (by omega) _ _ h
    obtain ⟨rfl, h5⟩ := flat_inj r r' hf.2.2 hg.2.2 (by simp only [Fo.count] at hc; omega) _ _ h4
    exact ⟨rfl, h5⟩

theorem tree_inj {ns : List Nd} {n n' : Nd} {k k' : Fo} (h1 : ns = n :: k.flat) (h2 : n.kids = k.count) (h3 : k.wf) (e1 : ns = n' :: k'.flat) (e2 : n'.kids = k'.count) (e3 : k'.wf) : n' = n ∧ k' = k := by
  rw [h1] at e1
  simp only [List.cons.injEq] at e1
  obtain ⟨rfl, e1⟩ := e1
  obtain ⟨rfl, -⟩ := flat_inj k k' h3 e3 (by omega) [] [] (by simpa using e1)
  exact ⟨rfl, rfl⟩

/-- Any place of a forest begins a tree. -/
theorem place_of : ∀ (f : Fo) (p : Nat), f.wf → p < f.flat.length → ∃ (n : Nd) (k : Fo) (suf : List Nd), f.flat.drop p = n :: (k.flat ++ suf) ∧ n.kids = k.count ∧ k.wf
  | .none, p, _, h => by simp [Fo.flat] at h
  | .tree n k r, 0, hw, _ => ⟨n, k, r.flat, rfl, hw.1, hw.2.1⟩
  | .tree n k r, p + 1, hw, h => by
    simp only [Fo.flat, List.length_cons, List.length_append, List.drop_succ_cons] at h ⊢
    by_cases hp : p < k.flat.length
    · obtain ⟨m, kk, suf, e, h1, h2⟩ := place_of k p hw.2.1 hp
      refine ⟨m, kk, suf ++ r.flat, ?_, h1, h2⟩
      rw [List.drop_append_of_le_length (by omega), e]
      simp
    · obtain ⟨m, kk, suf, e, h1, h2⟩ := place_of r (p - k.flat.length) hw.2.2 (by omega)
      refine ⟨m, kk, suf, ?_, h1, h2⟩
      rw [List.drop_append, e]
      simp [List.drop_eq_nil_of_le (by omega : k.flat.length ≤ p)]

/-- Every place of a tree has its end in it. -/
theorem end_in {ns : List Nd} {n : Nd} {k : Fo} (h1 : ns = n :: k.flat) (h2 : n.kids = k.count) (h3 : k.wf) {p : Nat} (hp : p < ns.length) : ∃ e : Nat, treeEnd ns (p : Int) = (e : Int) ∧ p < e ∧ e ≤ ns.length := by
  have hf : (Fo.tree n k .none).flat = ns := by rw [h1]; simp [Fo.flat]
  obtain ⟨m, kk, suf, e, g1, g2⟩ := place_of (.tree n k .none) p ⟨h2, h3, trivial⟩ (by rw [hf]; exact hp)
  rw [hf] at e
  refine ⟨p + 1 + kk.flat.length, treeEnd_at e g1 g2, by omega, ?_⟩
  have := congrArg List.length e
  simp only [List.length_drop, List.length_cons, List.length_append] at this
  omega
end Go.Proofs.YtegjdgiegnofhaaDoor

/- Whether a node has the fields of its kind, as the specification asks it: every kind. -/
namespace Go.Proofs.YtegjdgiegnofhaaDoor
open Go.RowKit

set_option maxHeartbeats 4000000 in
set_option maxRecDepth 100000 in
theorem own_some (k num : Int) (a b c : ByteArray) (kids : Int) (w : World) (hK : kidsOk k kids = true) (ar : Int) (har : arityZ k = ar) (h0 : 0 ≤ ar) (h3 : ar ≤ 3) (hne : (kids != ar) = false) :
    Calls Tryd.prog 62 #[.agg #[.int .i64 k, .int .i64 num, .string a, .string b, .string c, .int .i64 kids]] w fun e w' => e = .returned (.bool (ownOk ⟨k, num, a, b, c, kids⟩)) ∧ Below w.heap.size w w' := by
  have HN : Hid (∀ w, _) := names_calls k
  have hac := arity_calls k
  rw [har] at hac
  have HC : Hid (∀ w, _) := hac
  have hm1 : (ar == -1) = false := by rw [beq_eq_false_iff_ne]; omega
  have hm2 : (ar == -2) = false := by rw [beq_eq_false_iff_ne]; omega
  clear hac har
  go_enter Tryd.func62, Tryd.ntmps62
  go_wp2_with (first | (go_at_call 81; refine (HC.out _).mono ?_; rintro e w2 ⟨rfl, rfl⟩))
  go_loopw [5] (fun i wr => ∃ j : Nat, i = .int .i64 j ∧ j ≤ 3 ∧ Hid (∀ i, i < j → fit (namesZ k) i (Nd.nm ⟨k, num, a, b, c, kids⟩ i) = true) ∧ wr.heap[w.heap.size]? = some (.cells #[.int .i64 k, .int .i64 num, .string a, .string b, .string c, .int .i64 kids] 90) ∧ wr.heap[w.heap.size + 1]? = some (.cells #[.string a, .string b, .string c] 9) ∧ Below w.heap.size w wr) (fun i _ => 3 - (intOf i).toNat)
  case atStart =>
    have e1 := (MapKept.heap_alloc w (.cells #[.int .i64 k, .int .i64 num, .string a, .string b, .string c, .int .i64 kids] 90)).1
    refine ⟨0, rfl, by omega, fun i hi => by omega, ?_, ?_, ((Below.refl _ _).alloc (Nat.le_refl _) _).alloc (by simp) _⟩
    · rw [Below.heap_alloc _ _ _ (by simp)]
      exact e1
    · have := (MapKept.heap_alloc (w.alloc (.cells #[.int .i64 k, .int .i64 num, .string a, .string b, .string c, .int .i64 kids] 90)) (.cells #[.string a, .string b, .string c] 9)).1
      simpa using this
  case round =>
    obtain ⟨j, rfl, hj3, HA, eA, eN, hnx⟩ := hrel
    have a0 := cell_of_heap eA 0
    simp at a0
    have hltA := heap_lt eA
    have hltN := heap_lt eN
    by_cases hj : j < 3
    · have cN : wr.cell? ⟨w.heap.size + 1, j, none⟩ = some (.string (Nd.nm ⟨k, num, a, b, c, kids⟩ j)) := by
        rw [cell_of_heap eN j]
        match j, hj with
        | 0, _ => rfl
        | 1, _ => rfl
        | 2, _ => rfl
      have step : fit (namesZ k) j (Nd.nm ⟨k, num, a, b, c, kids⟩ j) = true → Hid (∀ i, i < j + 1 → fit (namesZ k) i (Nd.nm ⟨k, num, a, b, c, kids⟩ i) = true) := fun h i hi => by
        by_cases e : i = j
        · rw [e]
          exact h
        · exact HA.out i (by omega)
      have fin : fit (namesZ k) j (Nd.nm ⟨k, num, a, b, c, kids⟩ j) = false → Hid (ownOk ⟨k, num, a, b, c, kids⟩ = false) := fun h => by
        show ownOk _ = false
        have := fit_none (n := ⟨k, num, a, b, c, kids⟩) hj h
        simp [ownOk, this]
      have hLn := specName_calls (Nd.nm ⟨k, num, a, b, c, kids⟩ j)
      have hem := @empty_name (Nd.nm ⟨k, num, a, b, c, kids⟩ j)
      unfold fit at step fin
      generalize Nd.nm ⟨k, num, a, b, c, kids⟩ j = s at *
      generalize hnm : namesZ k = nm at *
      have eA' : Hid (wr.heap[w.heap.size]? = some (.cells #[.int .i64 k, .int .i64 num, .string a, .string b, .string c, .int .i64 kids] 90)) := eA
      have eN' : Hid (wr.heap[w.heap.size + 1]? = some (.cells #[.string a, .string b, .string c] 9)) := eN
      have hi3 : (j : Int) < 3 := by omega
      have htf : (true != false) = true := rfl
      have hft : (false != true) = true := rfl
      clear HA eA eN hnm
      by_cases hjn : (j : Int) < nm
      · rw [if_pos hjn] at step fin
        cases he : (s.toList == []) with
        | true =>
          have HF := fin (hem he)
          have HL : Hid (∀ w, _) := hLn
          clear hem step fin hLn
          go_wp2_with fail
          go_quiet (first | (go_at_call 82; refine Calls.quiet_of_same ((HN.out _).mono (fun _ _ h => ⟨h.1, h.2.symm⟩))))
          go_wp2_with fail
          go_ret
          exact ⟨by rw [HF.out]; rfl, below_drewN hnx _⟩
        | false =>
          cases hn : nameOk s with
          | true =>
            have HS := step hn
            rw [hn] at hLn
            have HL : Hid (∀ w, _) := hLn
            clear hem step fin hLn hn
            go_wp2_with fail
            go_region_held (fun w' => w'.cell? ⟨w.heap.size, 0, none⟩ = some (.int .i64 k) ∧ w'.cell? ⟨w.heap.size + 1, j, none⟩ = some (.string s)) (go_keep) (first | (go_at_call 82; refine (HN.out _).mono ?_; rintro e w2 ⟨rfl, rfl⟩) | (go_at_call 40; refine (HL.out _).mono ?_; rintro e w2 ⟨rfl, hb2⟩; have a0' := (hb2.cell (p := ⟨w.heap.size, 0, none⟩) hltA).trans a0; have cN' := (hb2.cell (p := ⟨w.heap.size + 1, j, none⟩) hltN).trans cN))
            all_goals
              have eA2 := (hb2.block w.heap.size hltA).trans eA'.out
              have eN2 := (hb2.block (w.heap.size + 1) hltN).trans eN'.out
              have hnx2 := hnx.drew.trans (hb2.mono hnx.size)
              clear hb2 a0 cN a0' cN'
              go_wp2_with fail
              exact ⟨⟨j + 1, by simp, by omega, HS, eA2, eN2, hnx2⟩, by simp [intOf]; omega⟩
          | false =>
            have HF := fin hn
            rw [hn] at hLn
            have HL : Hid (∀ w, _) := hLn
            clear hem step fin hLn hn
            go_wp2_with fail
            go_region_held (fun w' => w'.cell? ⟨w.heap.size, 0, none⟩ = some (.int .i64 k) ∧ w'.cell? ⟨w.heap.size + 1, j, none⟩ = some (.string s)) (go_keep) (first | (go_at_call 82; refine (HN.out _).mono ?_; rintro e w2 ⟨rfl, rfl⟩) | (go_at_call 40; refine (HL.out _).mono ?_; rintro e w2 ⟨rfl, hb2⟩; have a0' := (hb2.cell (p := ⟨w.heap.size, 0, none⟩) hltA).trans a0; have cN' := (hb2.cell (p := ⟨w.heap.size + 1, j, none⟩) hltN).trans cN))
            all_goals
              have hnx2 := hnx.drew.trans (hb2.mono hnx.size)
              clear hb2 a0 cN a0' cN'
              go_wp2_with fail
              go_ret
              exact ⟨by rw [HF.out]; rfl, hnx2⟩
      · rw [if_neg hjn] at step fin
        have hjd : decide ((j : Int) < nm) = false := decide_eq_false hjn
        have HL : Hid (∀ w, _) := hLn
        cases he : (s.toList == []) with
        | true =>
          have HS := step he
          clear hem step fin hLn
          go_wp2_with fail
          go_quiet (first | (go_at_call 82; refine Calls.quiet_of_same ((HN.out _).mono (fun _ _ h => ⟨h.1, h.2.symm⟩))))
          go_wp2_with fail
          exact ⟨⟨j + 1, by simp, by omega, HS, eA'.out, eN'.out, below_drewN hnx _⟩, by simp [intOf]; omega⟩
        | false =>
          have HF := fin he
          clear hem step fin hLn
          go_wp2_with fail
          go_quiet (first | (go_at_call 82; refine Calls.quiet_of_same ((HN.out _).mono (fun _ _ h => ⟨h.1, h.2.symm⟩))))
          go_wp2_with fail
          go_ret
          exact ⟨by rw [HF.out]; rfl, below_drewN hnx _⟩
    · have hnames : namesOk ⟨k, num, a, b, c, kids⟩ = true := fit_all (fun i hi => HA.out i (by omega))
      have hO : ownOk ⟨k, num, a, b, c, kids⟩ = (!(k == 20 && a.toList == b.toList) && numOk k num) := by simp [ownOk, hK, hnames, unlike]
      have a1 := cell_of_heap eA 1
      have a2 := cell_of_heap eA 2
      have a3 := cell_of_heap eA 3
      simp at a1 a2 a3
      have hnc := @names_case k
      have hm0 := @most_other k
      clear HA eA eN hnames
      generalize namesZ k = nm at *
      by_cases h20 : k = 20
      · subst h20
        have hnm1 : 1 < nm := hnc rfl
        cases hab : (a.toList == b.toList) with
        | true =>
          have HO : Hid (ownOk ⟨20, num, a, b, c, kids⟩ = false) := by show _ = _; rw [hO, hab]; rfl
          clear hO hnc hm0
          go_wp2_with (first | (go_at_call 82; refine (HN.out _).mono ?_; rintro e w2 ⟨rfl, rfl⟩))
          go_ret
          exact ⟨by rw [HO.out]; rfl, hnx⟩
        | false =>
          have HO : Hid (ownOk ⟨20, num, a, b, c, kids⟩ = (num == 0)) := by
            show _ = _
            rw [hO, hab, numOk, hm0 (by omega) (by omega), Bool.eq_iff_iff]
            simp
            omega
          clear hO hnc hm0
          go_wp2_with (first | (go_at_call 82; refine (HN.out _).mono ?_; rintro e w2 ⟨rfl, rfl⟩))
          go_ret
          exact ⟨by rw [HO.out]; rfl, hnx⟩
      · have h20' : (k == 20) = false := by rw [beq_eq_false_iff_ne]; exact h20
        rw [h20', Bool.false_and, Bool.not_false, Bool.true_and] at hO
        clear hnc h20
        by_cases h1 : k = 1
        · subst h1
          by_cases hn0 : 0 ≤ num
          · have HO : Hid (ownOk ⟨1, num, a, b, c, kids⟩ = decide (num ≤ 999999999)) := by
              exact hO.trans (num_one hn0)
            clear hO hm0 h20'
            go_wp2_with (first | (go_at_call 82; refine (HN.out _).mono ?_; rintro e w2 ⟨rfl, rfl⟩))
            all_goals
              go_ret
              exact ⟨by rw [HO.out]; rfl, hnx⟩
          · have HO : Hid (ownOk ⟨1, num, a, b, c, kids⟩ = false) := by
              exact hO.trans (num_one_neg hn0)
            clear hO hm0 h20'
            go_wp2_with (first | (go_at_call 82; refine (HN.out _).mono ?_; rintro e w2 ⟨rfl, rfl⟩))
            all_goals
              go_ret
              exact ⟨by rw [HO.out]; rfl, hnx⟩
        · by_cases h2 : k = 2
          · subst h2
            by_cases hn0 : num = 0
            · have hn0' : (num == 0) = true := by rw [hn0]; rfl
              have HO : Hid (ownOk ⟨2, num, a, b, c, kids⟩ = true) := by
                show _ = _
                rw [hO, numOk, most_two]
                simp
                omega
              clear hO hm0 h20' hn0
              go_wp2_with (first | (go_at_call 82; refine (HN.out _).mono ?_; rintro e w2 ⟨rfl, rfl⟩))
              all_goals
                go_ret
                exact ⟨by rw [HO.out]; rfl, hnx⟩
            · have hn0' : (num == 0) = false := by rw [beq_eq_false_iff_ne]; exact hn0
              have HO : Hid (ownOk ⟨2, num, a, b, c, kids⟩ = (num == 1)) := by
                show _ = _
                rw [hO, numOk, most_two, Bool.eq_iff_iff]
                simp
                omega
              clear hO hm0 h20' hn0
              go_wp2_with (first | (go_at_call 82; refine (HN.out _).mono ?_; rintro e w2 ⟨rfl, rfl⟩))
              all_goals
                go_ret
                exact ⟨by rw [HO.out]; rfl, hnx⟩
          · have HO : Hid (ownOk ⟨k, num, a, b, c, kids⟩ = (num == 0)) := by
              exact hO.trans (num_zero (hm0 h1 h2))
            have h1' : (k == 1) = false := by rw [beq_eq_false_iff_ne]; exact h1
            have h2' : (k == 2) = false := by rw [beq_eq_false_iff_ne]; exact h2
            clear hO hm0 h1 h2
            go_wp2_with (first | (go_at_call 82; refine (HN.out _).mono ?_; rintro e w2 ⟨rfl, rfl⟩))
            all_goals
              go_ret
              exact ⟨by rw [HO.out]; rfl, hnx⟩

set_option maxHeartbeats 2000000 in
set_option maxRecDepth 100000 in
theorem own_calls (n : Nd) (w : World) :
    Calls Tryd.prog 62 #[.agg #[.int .i64 n.kind, .int .i64 n.num, .string n.a, .string n.b, .string n.c, .int .i64 n.kids]] w fun e w' => e = .returned (.bool (ownOk n)) ∧ Below w.heap.size w w' := by
  obtain ⟨k, num, a, b, c, kids⟩ := n
  dsimp only
  have har := arity_range k
  have hac := arity_calls k
  cases hK : kidsOk k kids with
  | false =>
    have hO : Hid (ownOk ⟨k, num, a, b, c, kids⟩ = false) := by
      show ownOk _ = false
      simp [ownOk, hK]
    unfold kidsOk at hK
    generalize arityZ k = ar at *
    have HC : Hid (∀ w, _) := hac
    clear hac
    rcases har with rfl | rfl | ⟨h0, h3⟩
    · clear hK
      go_enter Tryd.func62, Tryd.ntmps62
      go_wp2_with (first | (go_at_call 81; refine (HC.out _).mono ?_; rintro e w2 ⟨rfl, rfl⟩))
      go_ret
      exact ⟨by rw [hO.out]; rfl, (Below.refl _ _).alloc (Nat.le_refl _) _⟩
    · rw [if_neg (by omega), if_pos rfl] at hK
      simp at hK
      by_cases h2 : kids < 2
      · clear hK
        go_enter Tryd.func62, Tryd.ntmps62
        go_wp2_with (first | (go_at_call 81; refine (HC.out _).mono ?_; rintro e w2 ⟨rfl, rfl⟩))
        go_ret
        exact ⟨by rw [hO.out]; rfl, (Below.refl _ _).alloc (Nat.le_refl _) _⟩
      · have h6 : 6 < kids := hK (by omega)
        clear hK
        go_enter Tryd.func62, Tryd.ntmps62
        go_wp2_with (first | (go_at_call 81; refine (HC.out _).mono ?_; rintro e w2 ⟨rfl, rfl⟩))
        go_ret
        exact ⟨by rw [hO.out]; rfl, (Below.refl _ _).alloc (Nat.le_refl _) _⟩
    · rw [if_neg (by omega), if_neg (by omega)] at hK
      have hne : (kids != ar) = true := by simpa using hK
      have hm1 : (ar == -1) = false := by rw [beq_eq_false_iff_ne]; omega
      clear hK
      go_enter Tryd.func62, Tryd.ntmps62
      go_wp2_with (first | (go_at_call 81; refine (HC.out _).mono ?_; rintro e w2 ⟨rfl, rfl⟩))
      go_ret
      exact ⟨by rw [hO.out]; rfl, (Below.refl _ _).alloc (Nat.le_refl _) _⟩
  | true =>
    have hK' := hK
    unfold kidsOk at hK'
    rcases har with har | har | ⟨h0, h3⟩
    · rw [if_pos har] at hK'
      cases hK'
    · rw [if_neg (by omega), if_pos har] at hK'
      simp at hK'
      exact own_many k num a b c kids w hK har hK'.1 hK'.2
    · rw [if_neg (by omega), if_neg (by omega)] at hK'
      exact own_some k num a b c kids w hK _ rfl h0 h3 (by simpa using hK')
end Go.Proofs.YtegjdgiegnofhaaDoor

/- Whether nodes are a tree, as the specification asks it. -/
namespace Go.Proofs.YtegjdgiegnofhaaDoor
open Go.RowKit Go.Deep

set_option maxHeartbeats 4000000 in
set_option maxRecDepth 100000 in
theorem specTree_calls (b off cap : Nat) (ns : List Nd) (w : World) (R : Bool) (hm : ns.length ≤ 1048576) (hbw : b < w.heap.size) (hn : NodesAt w b off ns) (hA : SpecAns ns R) :
    Calls Tryd.prog 39 #[.slice (some ⟨b, off, none⟩) ns.length cap] w fun e w' => e = .returned (.bool R) ∧ Below w.heap.size w w' := by
  by_cases hl : 1 ≤ ns.length ∧ ns.length ≤ 300
  · have hrest := hA.rest hl
    obtain ⟨len, hlen⟩ : ∃ len, ns.length = len := ⟨_, rfl⟩
    have Hlen : Hid (ns.length = len) := hlen
    have HR : Hid (Rest ns R ownOk (fun n k => specTree n k 0)) := hrest
    have HN : Hid (NodesAt w b off ns) := hn
    have HL : Hid (1 ≤ len ∧ len ≤ 300) := by show _ ∧ _; omega
    have h1 : (1 : Int) ≤ (len : Int) := by omega
    have h2 : (len : Int) ≤ 300 := by omega
    rw [hlen]
    clear hrest hn hA hl hm hlen
    go_enter Tryd.func39, Tryd.ntmps39
    go_wp2_with fail
    clear h1 h2
    go_loopw [3] (fun i wr => ∃ i' : Nat, i = .int .i64 i' ∧ i' ≤ len ∧ Hid ((ns.take i').all ownOk = true) ∧ Below w.heap.size w wr) (fun i _ => len - (intOf i).toNat)
    case atStart => exact ⟨0, rfl, Nat.zero_le _, rfl, Below.refl _ _⟩
    case round =>
      obtain ⟨i', rfl, hle, HT, hbx⟩ := hrel
      have hnx := HN.out.below hbx hbw
      by_cases hlt : (i' : Int) < (len : Int)
      · have hil : i' < ns.length := by rw [Hlen.out]; omega
        have c0 := hnx i' hil 0 (by omega)
        have c1 := hnx i' hil 1 (by omega)
        have c2 := hnx i' hil 2 (by omega)
        have c3 := hnx i' hil 3 (by omega)
        have c4 := hnx i' hil 4 (by omega)
        have c5 := hnx i' hil 5 (by omega)
        obtain ⟨n, hnn⟩ : ∃ n, ns.getD i' default = n := ⟨_, rfl⟩
        have hF : ownOk n = false → Hid (R = false) := fun h => HR.out.1 (all_false hil (by rw [hnn]; exact h))
        have hT : ownOk n = true → Hid ((ns.take (i' + 1)).all ownOk = true) := fun h => all_take_succ hil HT.out (by rw [hnn]; exact h)
        rw [hnn] at c0 c1 c2 c3 c4 c5
        simp only [Nd.cell, Nat.add_zero] at c0 c1 c2 c3 c4 c5
        have HO : Hid (∀ w, _) := own_calls n
        clear hnx hil hnn HT
        obtain ⟨kd, num, a, bb, cc, kids⟩ := n
        dsimp only at *
        go_wp2_with fail
        refine (HO.out _).mono ?_
        rintro e w2 ⟨rfl, hb2⟩
        have hb3 := hbx.trans (hb2.mono hbx.size)
        clear c0 c1 c2 c3 c4 c5 hb2 HO
        cases ho : ownOk ⟨kd, num, a, bb, cc, kids⟩ with
        | false =>
          have HF := hF ho
          clear hF hT
          go_wp2_with fail
          go_ret
          exact ⟨by rw [HF.out]; rfl, hb3⟩
        | true =>
          have HT := hT ho
          clear hF hT
          go_wp2_with fail
          have hs := lt_step hlt
          try rw [wrap_succ (by have := HL.out; omega)]
          exact ⟨⟨i' + 1, rfl, by omega, HT, hb3⟩, hs⟩
      · have e : i' = len := by omega
        subst e
        have hall : ns.all ownOk = true := by
          have := HT.out
          rwa [List.take_of_length_le (by rw [Hlen.out]; exact Nat.le_refl _)] at this
        have HX : Hid (∀ w, NodesAt w b off ns → _) := fun w h => specEnd_calls b off cap ns 0 w h (by rw [Hlen.out]; have := HL.out; omega)
        rw [Hlen.out] at HX
        rcases HR.out.2 hall with ⟨hne, hR⟩ | ⟨n, k, g1, g2, g3, g4, hR⟩
        · have hne' : (treeEnd ns 0 == (i' : Int)) = false := by rw [beq_eq_false_iff_ne]; rw [Hlen.out] at hne; exact hne
          clear HT hall hne
          generalize treeEnd ns 0 = te at *
          subst hR
          go_wp2_with fail
          refine (HX.out wr hnx).mono ?_
          rintro e w2 ⟨rfl, rfl⟩
          go_wp2_with fail
          go_ret
          exact ⟨rfl, hbx⟩
        · have hdr : ns.drop 0 = n :: (k.flat ++ []) := by rw [g1]; simp
          have HD : Hid (∀ w, NodesAt w b off ns → _) := fun w h => deep_calls b off cap ns (by rw [Hlen.out]; have := HL.out; omega) (k.flat.length + 1) n k [] 0 w h hdr g2 g3 (Nat.lt_succ_self _)
          have HC : Hid (∀ w, b < w.heap.size → NodesAt w b off ns → _) := fun w hb h => clauses_calls b off cap ns (by rw [Hlen.out]; have := HL.out; omega) (k.flat.length + 1) n k [] 0 0 w (by omega) hb h hdr g2 g3 (Nat.lt_succ_self _)
          rw [Hlen.out] at HD HC
          rw [g4, Hlen.out] at HX
          have HE : Hid (R = (specTree n k 0 && decide (k.deep + 1 ≤ 40))) := hR
          have hee : (((i' : Int)) == (i' : Int)) = true := by simp
          clear HT hall g1 g2 g3 g4 hdr hR HR
          generalize k.deep + 1 = dd at *
          go_wp2_with fail
          refine (HX.out wr hnx).mono ?_
          rintro e w2 ⟨rfl, rfl⟩
          go_wp2_with fail
          refine (HD.out wr hnx).mono ?_
          rintro e w2 ⟨rfl, rfl⟩
          by_cases hdd : (dd : Int) ≤ 40
          · go_wp2_with fail
            refine (HC.out wr (by have := hbx.size; omega) hnx).mono ?_
            rintro e w2 ⟨rfl, hb2⟩
            go_wp2_with fail
            go_ret
            refine ⟨?_, hbx.trans (hb2.mono hbx.size)⟩
            rw [HE.out, decide_eq_true (show dd ≤ 40 by omega), Bool.and_true]
            rfl
          · go_wp2_with fail
            go_ret
            refine ⟨?_, hbx⟩
            rw [HE.out, decide_eq_false (show ¬ dd ≤ 40 by omega), Bool.and_false]
            rfl
  · have hR : R = false := by
      rcases hA with ⟨_, h⟩ | ⟨h1, h2, _⟩ | ⟨h1, h2, _⟩
      · exact h
      · exact absurd ⟨h1, h2⟩ hl
      · exact absurd ⟨h1, h2⟩ hl
    subst hR
    have hl' : (ns.length : Int) < 1 ∨ ((1 : Int) ≤ (ns.length : Int) ∧ (300 : Int) < (ns.length : Int)) := by omega
    clear hA hm hn hl
    generalize ns.length = len at *
    rcases hl' with h | ⟨h, h'⟩
    all_goals
      go_enter Tryd.func39, Tryd.ntmps39
      go_wp2_with fail
      go_ret
      exact ⟨rfl, Below.refl _ _⟩
end Go.Proofs.YtegjdgiegnofhaaDoor

/- Whether nodes are a tree, as the program asks it. -/
namespace Go.Proofs.YtegjdgiegnofhaaDoor
open Go.RowKit Go.Deep

end Go.Proofs.YtegjdgiegnofhaaDoor
