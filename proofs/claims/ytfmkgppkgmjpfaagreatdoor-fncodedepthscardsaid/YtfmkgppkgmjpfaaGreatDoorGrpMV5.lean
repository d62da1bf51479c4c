/- A region that reads a channel and a value, in whatever order, and then sends. -/
import Derived.Test.YtfmkgppkgmjpfaaGreatDoorGrpMV4
import Derived.Test.YtfmkgppkgmjpfaaGreatDoorCalm
import Derived.Test.YtfmkgppkgmjpfaaGreatDoorGrpMV0
import Derived.Deep.CutRange
import Derived.Deep.CutBlock
import Derived.BigQuiet
import Derived.Test.YtfmkgppkgmjpfaaGreatDoorOwnRow
import Derived.IntWalk
namespace Go.Proofs.YtfmkgppkgmjpfaaGreatDoor
open Go.RowKit Go.Conc

/-- What is done of the two chains. -/
def lst2 (i j : Nat) : Array Bool := #[decide (0 < i), decide (1 < i), decide (2 < i), decide (3 < i), decide (0 < j), decide (1 < j), false]

def rd2 (i j : Nat) : List Nat := (if i < 4 then [i] else []) ++ (if j < 2 then [4 + j] else []) ++ (if i = 4 ∧ j = 2 then [6] else [])

/-- The act so far: these values stand in the slots from s on. -/
structure Got2 (a : Act) (s : Nat) (vs : Nat → Value) (i j : Nat) (b : Act) : Prop where
  size : b.tmps.size = a.tmps.size
  old : ∀ t, t < s ∨ s + 6 ≤ t → b.tmps[t]? = a.tmps[t]?
  ga : ∀ k, k < i → b.tmps[s + k]? = some (vs k)
  gb : ∀ k, k < j → b.tmps[s + 4 + k]? = some (vs (4 + k))
  ua : ∀ k, i ≤ k → k < 4 → b.tmps[s + k]? = a.tmps[s + k]?
  ub : ∀ k, j ≤ k → k < 2 → b.tmps[s + 4 + k]? = a.tmps[s + 4 + k]?
  defers : b.defers = a.defers

theorem put_get {b : Act} {t u : Nat} {v : Value} (ht : t < b.tmps.size) : (b.put (some t) v).tmps[u]? = if u = t then some v else b.tmps[u]? := by
  unfold Act.put
  dsimp only
  rw [Array.getElem?_setIfInBounds]
  by_cases h : t = u
  · subst h
    simp [ht]
  · rw [if_neg h, if_neg (Ne.symm h)]

theorem Got2.nextA {a : Act} {s : Nat} {vs : Nat → Value} {i j : Nat} {b : Act} (h : Got2 a s vs i j b) (hs : s + 6 ≤ a.tmps.size) (hi : i < 4) : Got2 a s vs (i + 1) j (b.put (some (s + i)) (vs i)) := by
  have hg := fun u => put_get (b := b) (t := s + i) (u := u) (v := vs i) (by rw [h.size]; omega)
  refine ⟨by simp [Act.put, h.size], fun t ht => ?_, fun k hk => ?_, fun k hk => ?_, fun k h1 h2 => ?_, fun k h1 h2 => ?_, h.defers⟩
  · rw [hg, if_neg (by omega)]
    exact h.old t ht
  · rw [hg]
    by_cases e : k = i
    · rw [e, if_pos rfl]
    · rw [if_neg (by omega)]
      exact h.ga k (by omega)
  · rw [hg, if_neg (by omega)]
    by_cases e : k < 2
    · exact h.gb k hk
    · exact h.gb k hk
  · rw [hg, if_neg (by omega)]
    exact h.ua k (by omega) h2
  · rw [hg, if_neg (by omega)]
    exact h.ub k h1 h2

theorem Got2.nextB {a : Act} {s : Nat} {vs : Nat → Value} {i j : Nat} {b : Act} (h : Got2 a s vs i j b) (hs : s + 6 ≤ a.tmps.size) (hi : i ≤ 4) (hj : j < 2) : Got2 a s vs i (j + 1) (b.put (some (s + 4 + j)) (vs (4 + j))) := by
  have hg := fun u => put_get (b := b) (t := s + 4 + j) (u := u) (v := vs (4 + j)) (by rw [h.size]; omega)
  refine ⟨by simp [Act.put, h.size], fun t ht => ?_, fun k hk => ?_, fun k hk => ?_, fun k h1 h2 => ?_, fun k h1 h2 => ?_, h.defers⟩
  · rw [hg, if_neg (by omega)]
    exact h.old t ht
  · rw [hg, if_neg (by omega)]
    exact h.ga k hk
  · rw [hg]
    by_cases e : k = j
    · rw [e, if_pos rfl]
    · rw [if_neg (by omega)]
      exact h.gb k (by omega)
  · rw [hg, if_neg (by omega)]
    exact h.ua k h1 h2
  · rw [hg, if_neg (by omega)]
    exact h.ub k (by omega) h2

theorem Got2.all {a : Act} {s : Nat} {vs : Nat → Value} {b : Act} (h : Got2 a s vs 4 2 b) (hs : s + 6 ≤ a.tmps.size) :
    b = (((((a.put (some s) (vs 0)).put (some (s + 1)) (vs 1)).put (some (s + 2)) (vs 2)).put (some (s + 3)) (vs 3)).put (some (s + 4)) (vs 4)).put (some (s + 5)) (vs 5) := by
  have sz : ∀ (c : Act) t v, (c.put (some t) v).tmps.size = c.tmps.size := fun c t v => by simp [Act.put]
  have df : ∀ (c : Act) t v, (c.put (some t) v).defers = c.defers := fun c t v => rfl
  obtain ⟨a1, h1⟩ : ∃ x, a.put (some s) (vs 0) = x := ⟨_, rfl⟩
  have z1 : a1.tmps.size = a.tmps.size := by rw [← h1, sz]
  have d1 : a1.defers = a.defers := by rw [← h1, df]
  have g1 : ∀ u, a1.tmps[u]? = if u = s then some (vs 0) else a.tmps[u]? := fun u => by rw [← h1]; exact put_get (by omega)
  rw [h1]
  clear h1
  obtain ⟨a2, h2⟩ : ∃ x, a1.put (some (s + 1)) (vs 1) = x := ⟨_, rfl⟩
  have z2 : a2.tmps.size = a.tmps.size := by rw [← h2, sz]; exact z1
  have d2 : a2.defers = a.defers := by rw [← h2, df]; exact d1
  have g2 : ∀ u, a2.tmps[u]? = if u = (s + 1) then some (vs 1) else a1.tmps[u]? := fun u => by rw [← h2]; exact put_get (by rw [z1]; omega)
  rw [h2]
  clear h2
  obtain ⟨a3, h3⟩ : ∃ x, a2.put (some (s + 2)) (vs 2) = x := ⟨_, rfl⟩
  have z3 : a3.tmps.size = a.tmps.size := by rw [← h3, sz]; exact z2
  have d3 : a3.defers = a.defers := by rw [← h3, df]; exact d2
  have g3 : ∀ u, a3.tmps[u]? = if u = (s + 2) then some (vs 2) else a2.tmps[u]? := fun u => by rw [← h3]; exact put_get (by rw [z2]; omega)
  rw [h3]
  clear h3
  obtain ⟨a4, h4⟩ : ∃ x, a3.put (some (s + 3)) (vs 3) = x := ⟨_, rfl⟩
  have z4 : a4.tmps.size = a.tmps.size := by rw [← h4, sz]; exact z3
  have d4 : a4.defers = a.defers := by rw [← h4, df]; exact d3
  have g4 : ∀ u, a4.tmps[u]? = if u = (s + 3) then some (vs 3) else a3.tmps[u]? := fun u => by rw [← h4]; exact put_get (by rw [z3]; omega)
  rw [h4]
  clear h4
  obtain ⟨a5, h5⟩ : ∃ x, a4.put (some (s + 4)) (vs 4) = x := ⟨_, rfl⟩
  have z5 : a5.tmps.size = a.tmps.size := by rw [← h5, sz]; exact z4
  have d5 : a5.defers = a.defers := by rw [← h5, df]; exact d4
  have g5 : ∀ u, a5.tmps[u]? = if u = (s + 4) then some (vs 4) else a4.tmps[u]? := fun u => by rw [← h5]; exact put_get (by rw [z4]; omega)
  rw [h5]
  clear h5
  obtain ⟨a6, h6⟩ : ∃ x, a5.put (some (s + 5)) (vs 5) = x := ⟨_, rfl⟩
  have z6 : a6.tmps.size = a.tmps.size := by rw [← h6, sz]; exact z5
  have d6 : a6.defers = a.defers := by rw [← h6, df]; exact d5
  have g6 : ∀ u, a6.tmps[u]? = if u = (s + 5) then some (vs 5) else a5.tmps[u]? := fun u => by rw [← h6]; exact put_get (by rw [z5]; omega)
  rw [h6]
  clear h6
  obtain ⟨bt, bd⟩ := b
  obtain ⟨t6, e6⟩ := a6
  have hd := h.defers
  dsimp only at hd d6
  have e : bt = t6 := by
    apply Array.ext_getElem?
    intro u
    have gu := g6 u
    dsimp only at gu
    rw [gu, g5, g4, g3, g2, g1]
    by_cases u5 : u = s + 5
    · rw [if_pos u5, u5]
      exact h.gb 1 (by omega)
    rw [if_neg u5]
    by_cases u4 : u = s + 4
    · rw [if_pos u4, u4]
      exact h.gb 0 (by omega)
    rw [if_neg u4]
    by_cases u3 : u = s + 3
    · rw [if_pos u3, u3]
      exact h.ga 3 (by omega)
    rw [if_neg u3]
    by_cases u2 : u = s + 2
    · rw [if_pos u2, u2]
      exact h.ga 2 (by omega)
    rw [if_neg u2]
    by_cases u1 : u = s + 1
    · rw [if_pos u1, u1]
      exact h.ga 1 (by omega)
    rw [if_neg u1]
    by_cases u0 : u = s
    · rw [if_pos u0, u0]
      exact h.ga 0 (by omega)
    rw [if_neg u0]
    exact h.old u (by omega)
  rw [e, hd, d6]

/-- What is asked of the operations: each yields its value, whatever the act, where its operands are there. -/
structure Sends (P : Program) (ops : Array Oper) (a : Act) (s : Nat) (vs : Nat → Value) (c : Nat) (z : Value) (x : Value) (w : World) : Prop where
  size : ops.size = 7
  room : s + 6 ≤ a.tmps.size
  rdyB : ((List.range 5).all fun i => (List.range 3).all fun j => Region.ready .any ops (lst2 i j) == rd2 i j) = true
  dst : ∀ k, k < 6 → (ops[k]?).map (fun o => (o.dst, o.guard)) = some (some (s + k), none)
  dst6 : (ops[6]?).map (fun o => (o.dst, o.guard)) = some (none, none)
  runA : ∀ i, i < 4 → ∀ b j, Got2 a s vs i j b → ∀ o, ops[i]? = some o → (execOp b.eval o).run P w = .ok (.value (vs i)) w
  runB : ∀ j, j < 2 → ∀ b i, Got2 a s vs i j b → ∀ o, ops[4 + j]? = some o → (execOp b.eval o).run P w = .ok (.value (vs (4 + j))) w
  run6 : ∀ b, Got2 a s vs 4 2 b → ∀ o, ops[6]? = some o → (execOp b.eval o).run P w = .ok (.comm #[scase c x z] true .send) w

theorem Sends.rdy {P : Program} {ops : Array Oper} {a : Act} {s : Nat} {vs : Nat → Value} {c : Nat} {z x : Value} {w : World} (h : Sends P ops a s vs c z x w) (i : Nat) (hi : i ≤ 4) (j : Nat) (hj : j ≤ 2) : Region.ready .any ops (lst2 i j) = rd2 i j := by
  have h1 := List.all_eq_true.1 h.rdyB i (List.mem_range.2 (by omega))
  have h2 := List.all_eq_true.1 h1 j (List.mem_range.2 (by omega))
  simpa using h2

theorem setA2 : ∀ i, i < 4 → ∀ j, j ≤ 2 → (lst2 i j).setIfInBounds i true = lst2 (i + 1) j := fun i hi j hj => by
  have hi' : i = 0 ∨ i = 1 ∨ i = 2 ∨ i = 3 := by omega
  have hj' : j = 0 ∨ j = 1 ∨ j = 2 := by omega
  rcases hi' with rfl | rfl | rfl | rfl <;> rcases hj' with rfl | rfl | rfl <;> decide

theorem setB2 : ∀ i, i ≤ 4 → ∀ j, j < 2 → (lst2 i j).setIfInBounds (4 + j) true = lst2 i (j + 1) := fun i hi j hj => by
  have hi' : i = 0 ∨ i = 1 ∨ i = 2 ∨ i = 3 ∨ i = 4 := by omega
  have hj' : j = 0 ∨ j = 1 := by omega
  rcases hi' with rfl | rfl | rfl | rfl | rfl <;> rcases hj' with rfl | rfl <;> decide

theorem wanted_none {ops : Array Oper} {o : Oper} {ts : Array Value} (h : o.guard = none) : Region.wanted o (yielded ops ts) = true := by
  unfold Region.wanted
  rw [h]

theorem anyN_sends {P : Program} {ops : Array Oper} {a : Act} {s : Nat} {vs : Nat → Value} {c cap s0 r0 : Nat} {z x : Value} {w : World} {buf : Array Value} {Q : Exit → Act → World → Prop} (h : Sends P ops a s vs c z x w) (hc : w.heap[c]? = some (.chan cap buf false s0 r0 false)) (hroom : buf.size < cap)
    (hQ : Q .normal ((((((a.put (some s) (vs 0)).put (some (s + 1)) (vs 1)).put (some (s + 2)) (vs 2)).put (some (s + 3)) (vs 3)).put (some (s + 4)) (vs 4)).put (some (s + 5)) (vs 5)) (w.setChan c cap (buf.push x) false (s0 + 1) r0 false)) :
    ∀ n i j b, i ≤ 4 → j ≤ 2 → n + i + j = 6 → Got2 a s vs i j b → AnyN P ops Q (n + 1) (lst2 i j) b w := by
  intro n
  induction n with
  | zero =>
    intro i j b hi hj hn hg
    obtain rfl : i = 4 := by omega
    obtain rfl : j = 2 := by omega
    refine anyN_next (h.rdy 4 (by omega) 2 (by omega)) (by decide) (fun k hk t => ?_)
    have e : k = 6 := by simpa [rd2] using hk
    subst e
    have h6 := h.dst6
    cases ho : ops[6]? with
    | none => rw [ho] at h6; cases h6
    | some o =>
      rw [ho] at h6
      have h6' := Option.some.inj h6
      dsimp only at h6'
      have e1 : o.dst = none := congrArg Prod.fst h6'
      have e2 : o.guard = none := congrArg Prod.snd h6'
      refine inR_send ho (wanted_none e2) (h.run6 b hg o ho) hc hroom ?_
      have e3 : Region.linearise.go .any ops 0 t ((lst2 4 2).setIfInBounds 6 true) [] = [] := by simp [Region.linearise.go]
      rw [e3, e1]
      refine inR_of ?_
      have e4 := hg.all h.room
      subst e4
      simpa [wpOps, Act.put] using hQ
  | succ n ih =>
    intro i j b hi hj hn hg
    refine anyN_next (h.rdy i hi j hj) (by
      unfold rd2
      by_cases h4 : i < 4
      · rw [if_pos h4]; simp
      · rw [if_neg h4, if_pos (by omega)]; simp) (fun k hk => ?_)
    have hk2 : (i < 4 ∧ k = i) ∨ (j < 2 ∧ k = 4 + j) := by
      unfold rd2 at hk
      simp only [List.mem_append] at hk
      rcases hk with (hk | hk) | hk
      · split at hk
        · exact Or.inl ⟨by assumption, by simpa using hk⟩
        · cases hk
      · split at hk
        · exact Or.inr ⟨by assumption, by simpa using hk⟩
        · cases hk
      · rw [if_neg (by omega)] at hk
        cases hk
    intro t
    rcases hk2 with ⟨h4, rfl⟩ | ⟨h2, rfl⟩
    · have hd := h.dst k (by omega)
      cases ho : ops[k]? with
      | none => rw [ho] at hd; cases hd
      | some o =>
        rw [ho] at hd
        have hd' := Option.some.inj hd
        dsimp only at hd'
        have e1 : o.dst = some (s + k) := congrArg Prod.fst hd'
        have e2 : o.guard = none := congrArg Prod.snd hd'
        refine inR_value ho (wanted_none e2) (h.runA k h4 b j hg o ho) ?_
        rw [setA2 k h4 j hj, e1]
        exact ih (k + 1) j _ (by omega) hj (by omega) (hg.nextA h.room h4) t
    · have hd := h.dst (4 + j) (by omega)
      cases ho : ops[4 + j]? with
      | none => rw [ho] at hd; cases hd
      | some o =>
        rw [ho] at hd
        have hd' := Option.some.inj hd
        dsimp only at hd'
        have e1 : o.dst = some (s + (4 + j)) := congrArg Prod.fst hd'
        have e2 : o.guard = none := congrArg Prod.snd hd'
        refine inR_value ho (wanted_none e2) (h.runB j h2 b i hg o ho) ?_
        rw [setB2 i hi j h2, e1, show s + (4 + j) = s + 4 + j by omega]
        exact ih i (j + 1) _ hi (by omega) (by omega) (hg.nextB h.room hi h2) t
end Go.Proofs.YtfmkgppkgmjpfaaGreatDoor

/- The program comes to a place. -/
namespace Go.Proofs.YtfmkgppkgmjpfaaGreatDoor
open Go.RowKit Go.Conc

theorem wpN_seq_k {P : Program} {Q : Exit → Act → World → Prop} {a : Act} {w : World} {x y : Code} (h : ∀ K : Act → World → Prop, (∀ a w, wpN P y Q a w → K a w) → x.wp P (Exit.then K Q) a w) : wpN P (.seq x y) Q a w := wpN_seq_wp (h _ fun _ _ h => h)

theorem spot3_other (W : World) (gs k : Nat) (s : Sq) {q : Nat} (hq : q ≠ gs) : (spot3 W gs k s).heap[q]? = W.heap[q]? := by
  unfold spot3
  rw [Below.heap_setCell _ ⟨gs, k * 3 + 2, none⟩ _ q hq, Below.heap_setCell _ ⟨gs, k * 3 + 1, none⟩ _ q hq, Below.heap_setCell _ ⟨gs, k * 3, none⟩ _ q hq]

theorem wp_at {P : Program} {c : Code} {Q : Exit → Act → World → Prop} {a a' : Act} {w : World} (e : a = a') (h : c.wp P Q a' w) : c.wp P Q a w := by
  subst e
  exact h

set_option maxRecDepth 100000 in
set_option maxHeartbeats 8000000 in
theorem comeI_push {W0 : World} {Fb : Nat} {ac : Option Addr} {cc gs ch N : Nat} {T : List Sq} {wk : List Nat} {d : Int} {W : World} (h : Fl W0 Fb (.slice ac N cc) gs ch N T wk d false W) (k : Nat) (n v p : Int) (hk : k < N) (hn : 0 ≤ n) (hn1 : n ≤ 100) (hv : 0 ≤ v) (hv1 : v ≤ 100) (hp0 : 1 ≤ p) (hp1 : p ≤ 3) (hz : (tg T k).p = 0) :
    Calls Tryz.prog 18 #[.pointer (some ⟨Fb, 0, none⟩), .agg #[.int .i64 (k : Int), .int .i64 n, .int .i64 v, .int .i64 p]] W fun e W' => e = .returned .nilIface ∧ Fl W0 Fb (.slice ac N cc) gs ch N (T.set k ⟨n, v, p⟩) (wk ++ [k]) d false W' ∧ Fz W W' := by
  have hV1 := (MapKept.heap_alloc W (.cells #[.int .i64 (k : Int), .int .i64 n, .int .i64 v, .int .i64 p] 67)).1
  have hVb := (Below.refl W.heap.size W).alloc (Nat.le_refl _) (.cells #[.int .i64 (k : Int), .int .i64 n, .int .i64 v, .int .i64 p] 67)
  obtain ⟨V, hV⟩ : ∃ V, W.alloc (.cells #[.int .i64 (k : Int), .int .i64 n, .int .i64 v, .int .i64 p] 67) = V := ⟨_, rfl⟩
  rw [hV] at hV1 hVb
  have h1 := h.below hVb
  have hs0 : tg T k = ⟨0, 0, 0⟩ := sane_zero (h.sane _ (tgF_mem (by rw [h.len]; exact hk))) hz
  have hcell := h1.cells hk
  rw [hs0] at hcell
  obtain ⟨c0, c1, c2, -, -, -⟩ := hcell
  have hEl := heap_lt hV1
  have hFl := heap_lt h1.blk
  have hgl := h1.row.lt
  obtain ⟨Eb, hEb⟩ : ∃ Eb, W.heap.size = Eb := ⟨_, rfl⟩
  rw [hEb] at hV1 hEl
  have e0 := cell_of_heap hV1 0
  have e1 := cell_of_heap hV1 1
  have e2 := cell_of_heap hV1 2
  have e3 := cell_of_heap hV1 3
  have f0 := cell_of_heap h1.blk 0
  have f1 := cell_of_heap h1.blk 1
  simp at e0 e1 e2 e3 f0 f1
  have pe0 : ∀ y : Later V.heap.size V, y.w.cell? ⟨Eb, 0, none⟩ = _ := fun y => y.cell hEl e0
  have pf0 : ∀ y : Later V.heap.size V, y.w.cell? ⟨Fb, 0, none⟩ = _ := fun y => y.cell hFl f0
  have HV := hid hV
  have HEb := hid hEb
  have HV1 := hid hV1
  have H1 := hid h1
  have HW := hid hVb
  have HB : Hid (k < N ∧ 0 ≤ n ∧ n ≤ 100 ∧ 0 ≤ v ∧ v ≤ 100 ∧ 1 ≤ p ∧ p ≤ 3 ∧ (tg T k).p = 0) := ⟨hk, hn, hn1, hv, hv1, hp0, hp1, hz⟩
  have q1 : decide ((N : Int) ≤ (k : Int)) = false := decide_eq_false (by omega)
  have q1n : decide (N ≤ k) = false := decide_eq_false (by omega)
  have q2 : ¬ 100 < n := by omega
  have q3 : ¬ 100 < v := by omega
  have q4 : (0 == p) = false := by simp; omega
  have k0 : (0 : Int) ≤ (k : Int) := by omega
  have k1 : (k : Int) < (N : Int) := by omega
  clear h hV hV1 hVb h1 hk hn hn1 hv hv1 hp0 hp1 hz hs0 e0 e1 e2 e3 f0
  refine calls_of_wpN Tryz.func18 rfl ?_
  simp only [Tryz.ntmps18, List.size_toArray, List.length_cons, List.length_nil, Nat.reduceAdd, Nat.reduceSub, Array.replicate_succ, Array.replicate_zero, List.push_toArray, List.append_toArray, List.nil_append, List.cons_append]
  refine wpN_seq_k fun K hK => ?_
  go_wp2_with fail
  rw [HV.out]
  clear hEb
  refine wpN_seq_k fun K hK => ?_
  go_wp2_with fail
  refine wp_region_calm V.heap.size (by kernel_rfl) (by kernel_rfl) ?_
  repeat (go_big_quiet_step (fail))
  refine wpQuiet_nil ?_
  rintro w5 ⟨y, rfl⟩
  have HY1 := hid y.h
  clear pe0 pf0
  have hf1 := (y.h.block Eb hEl).trans HV1.out
  generalize y.w = X1 at *
  have e1 := cell_of_heap hf1 1
  have e2 := cell_of_heap hf1 2
  simp at e1 e2
  go_wp2_with fail
  clear c0 c1 c2 f1 e1 e2 hFl hgl
  have HX1 := hid (H1.out.below HY1.out)
  have hBX1 := heap_lt HX1.out.blk
  have hGX1 := HX1.out.row.lt
  have hEX1 := heap_lt hf1
  have cX1 := HX1.out.cells HB.out.1
  rw [sane_zero (HX1.out.sane _ (tgF_mem (by rw [HX1.out.len]; exact HB.out.1))) HB.out.2.2.2.2.2.2.2] at cX1
  obtain ⟨c0, c1, c2, zc0, zc1, zc2⟩ := cX1
  dsimp only at c0 c1 c2
  have f1 := cell_of_heap HX1.out.blk 1
  have e0 := cell_of_heap hf1 0
  have e1 := cell_of_heap hf1 1
  have e2 := cell_of_heap hf1 2
  have e3 := cell_of_heap hf1 3
  simp at f1 e0 e1 e2 e3
  have pe0 : ∀ y : Later X1.heap.size X1, y.w.cell? ⟨Eb, 0, none⟩ = _ := fun y => y.cell hEX1 e0
  have pe1 : ∀ y : Later X1.heap.size X1, y.w.cell? ⟨Eb, 1, none⟩ = _ := fun y => y.cell hEX1 e1
  have pe2 : ∀ y : Later X1.heap.size X1, y.w.cell? ⟨Eb, 2, none⟩ = _ := fun y => y.cell hEX1 e2
  have pe3 : ∀ y : Later X1.heap.size X1, y.w.cell? ⟨Eb, 3, none⟩ = _ := fun y => y.cell hEX1 e3
  have pf1 : ∀ y : Later X1.heap.size X1, y.w.cell? ⟨Fb, 1, none⟩ = _ := fun y => y.cell hBX1 f1
  have pc0 : ∀ y : Later X1.heap.size X1, y.w.cell? ⟨gs, k * 3, none⟩ = _ := fun y => y.cell hGX1 c0
  have pc1 : ∀ y : Later X1.heap.size X1, y.w.cell? ⟨gs, k * 3 + 1, none⟩ = _ := fun y => y.cell hGX1 c1
  have pc2 : ∀ y : Later X1.heap.size X1, y.w.cell? ⟨gs, k * 3 + 2, none⟩ = _ := fun y => y.cell hGX1 c2
  refine wp_region_calm X1.heap.size (by kernel_rfl) (by kernel_rfl) ?_
  repeat (go_big_quiet_step (fail))
  refine wpQuiet_nil ?_
  rintro w5 ⟨y, rfl⟩
  have HYX2 := hid y.h
  have hfX2 := (y.h.block Eb hEX1).trans hf1
  generalize y.w = X2 at *
  clear pe0 pe1 pe2 pe3 pf1 pc0 pc1 pc2 c0 c1 c2 zc0 zc1 zc2 f1 e0 e1 e2 e3
  go_wp2_with fail
  have HX2 := hid (HX1.out.below HYX2.out)
  have hBX2 := heap_lt HX2.out.blk
  have hGX2 := HX2.out.row.lt
  have hEX2 := heap_lt hfX2
  have cX2 := HX2.out.cells HB.out.1
  rw [sane_zero (HX2.out.sane _ (tgF_mem (by rw [HX2.out.len]; exact HB.out.1))) HB.out.2.2.2.2.2.2.2] at cX2
  obtain ⟨c0, c1, c2, zc0, zc1, zc2⟩ := cX2
  dsimp only at c0 c1 c2
  have f1 := cell_of_heap HX2.out.blk 1
  have e0 := cell_of_heap hfX2 0
  have e1 := cell_of_heap hfX2 1
  have e2 := cell_of_heap hfX2 2
  have e3 := cell_of_heap hfX2 3
  simp at f1 e0 e1 e2 e3
  have pe0 : ∀ y : Later X2.heap.size X2, y.w.cell? ⟨Eb, 0, none⟩ = _ := fun y => y.cell hEX2 e0
  have pe1 : ∀ y : Later X2.heap.size X2, y.w.cell? ⟨Eb, 1, none⟩ = _ := fun y => y.cell hEX2 e1
  have pe2 : ∀ y : Later X2.heap.size X2, y.w.cell? ⟨Eb, 2, none⟩ = _ := fun y => y.cell hEX2 e2
  have pe3 : ∀ y : Later X2.heap.size X2, y.w.cell? ⟨Eb, 3, none⟩ = _ := fun y => y.cell hEX2 e3
  have pf1 : ∀ y : Later X2.heap.size X2, y.w.cell? ⟨Fb, 1, none⟩ = _ := fun y => y.cell hBX2 f1
  have pc0 : ∀ y : Later X2.heap.size X2, y.w.cell? ⟨gs, k * 3, none⟩ = _ := fun y => y.cell hGX2 c0
  have pc1 : ∀ y : Later X2.heap.size X2, y.w.cell? ⟨gs, k * 3 + 1, none⟩ = _ := fun y => y.cell hGX2 c1
  have pc2 : ∀ y : Later X2.heap.size X2, y.w.cell? ⟨gs, k * 3 + 2, none⟩ = _ := fun y => y.cell hGX2 c2
  refine wp_region_calm X2.heap.size (by kernel_rfl) (by kernel_rfl) ?_
  repeat (go_big_quiet_step (fail))
  refine wpQuiet_nil ?_
  rintro w5 ⟨y, rfl⟩
  have HYX3 := hid y.h
  have hfX3 := (y.h.block Eb hEX2).trans hfX2
  generalize y.w = X3 at *
  clear pe0 pe1 pe2 pe3 pf1 pc0 pc1 pc2 c0 c1 c2 zc0 zc1 zc2 f1 e0 e1 e2 e3
  go_wp2_with fail
  have HX3 := hid (HX2.out.below HYX3.out)
  have hBX3 := heap_lt HX3.out.blk
  have hGX3 := HX3.out.row.lt
  have hEX3 := heap_lt hfX3
  have cX3 := HX3.out.cells HB.out.1
  rw [sane_zero (HX3.out.sane _ (tgF_mem (by rw [HX3.out.len]; exact HB.out.1))) HB.out.2.2.2.2.2.2.2] at cX3
  obtain ⟨c0, c1, c2, zc0, zc1, zc2⟩ := cX3
  dsimp only at c0 c1 c2
  have f1 := cell_of_heap HX3.out.blk 1
  have e0 := cell_of_heap hfX3 0
  have e1 := cell_of_heap hfX3 1
  have e2 := cell_of_heap hfX3 2
  have e3 := cell_of_heap hfX3 3
  simp at f1 e0 e1 e2 e3
  refine wpN_seq_k fun K hK => ?_
  go_wp2_with fail
  go_region
  go_wp2_with fail
  have HZb : Hid (Fl W0 Fb (.slice ac N cc) gs ch N T wk d false X3.drew) := HX3.out.below (Below.refl _ _).drew
  obtain ⟨s0, r0, hch⟩ := HZb.out.chb
  have hpush := HZb.out.push (s := ⟨n, v, p⟩) HB.out.1 HB.out.2.2.2.2.2.2.2 (Or.inr ⟨HB.out.2.2.2.2.2.1, HB.out.2.2.2.2.2.2.1, HB.out.2.1, HB.out.2.2.1, HB.out.2.2.2.1, HB.out.2.2.2.2.1⟩) (by dsimp only; have := HB.out; omega) hch
  obtain ⟨Z, hZ⟩ : ∃ Z, spot3 X3.drew gs k ⟨n, v, p⟩ = Z := ⟨_, rfl⟩
  rw [hZ] at hpush
  have hZF : Z.heap[Fb]? = X3.heap[Fb]? := by rw [← hZ]; exact spot3_other X3.drew gs k _ HX3.out.ne.1
  have hZE : Z.heap[Eb]? = X3.heap[Eb]? := by
    rw [← hZ]
    refine spot3_other X3.drew gs k _ (fun e => ?_)
    obtain ⟨cg, hcg, -⟩ := HX3.out.row
    subst e
    rw [hfX3] at hcg
    cases hcg
  have hZC : Z.heap[ch]? = X3.heap[ch]? := by rw [← hZ]; exact spot3_other X3.drew gs k _ (Ne.symm HX3.out.ne.2.2)
  have HP := hid hpush
  have HCh : Hid (Z.heap[ch]? = some (.chan N (wkA wk) false s0 r0 false)) := hZC.trans hch
  have HZE := hid (hZE.trans hfX3)
  have HZF := hid (hZF.trans HX3.out.blk)
  have f3 := cell_of_heap HZF.out 3
  have zf3 := frozen_of_heap HZF.out 3
  simp at f3
  have hw3 : wrap64 (d + (wk.length : Int) + 1) = d + wk.length + 1 := by
    rw [wrap64]
    have := HX3.out.dl
    have := HX3.out.room
    have := HX3.out.nl
    omega
  have HRm : Hid (wk.length < N) := by
    show _ < _
    have h1 := HX3.out.room
    have h2 := free_set T k (by rw [HX3.out.len]; exact HB.out.1) HB.out.2.2.2.2.2.2.2 ⟨n, v, p⟩ (by dsimp only; have := HB.out; omega)
    omega
  have HFb : Hid (Fb ≠ Eb ∧ ch ≠ Fb) := by
    refine ⟨fun e => ?_, Ne.symm HX3.out.ne.2.1⟩
    subst e
    have h1 := HZF.out
    rw [HZE.out] at h1
    cases h1
  change wpN _ _ _ _ (spot3 X3.drew gs k ⟨n, v, p⟩)
  rw [hZ]
  clear hZ hpush hZF hZE hZC hch HZb c0 c1 c2 zc0 zc1 zc2 f1 e0 e1 e2 e3
  refine wpN_seq_k fun K hK => ?_
  go_wp2_with fail
  obtain ⟨Z2, hZ2⟩ : ∃ Z2, Z.setCell ⟨Fb, 3, none⟩ (.int .i64 (d + wk.length + 1)) = Z2 := ⟨_, rfl⟩
  have HF2 : Hid (∃ u, Z2.heap[Fb]? = some (.cells #[.slice ac N cc, .slice (some ⟨gs, 0, none⟩) N N, .chan (some ch), u] 64)) := ⟨.int .i64 (d + wk.length + 1), by rw [← hZ2]; simp [World.setCell, Array.getElem?_modify, HZF.out]⟩
  have HE2 : Hid (Z2.heap[Eb]? = _) := (by rw [← hZ2]; exact Below.heap_setCell Z ⟨Fb, 3, none⟩ _ Eb (Ne.symm HFb.out.1) : Z2.heap[Eb]? = Z.heap[Eb]?).trans HZE.out
  have HC2 : Hid (Z2.heap[ch]? = _) := (by rw [← hZ2]; exact Below.heap_setCell Z ⟨Fb, 3, none⟩ _ ch HFb.out.2 : Z2.heap[ch]? = Z.heap[ch]?).trans HCh.out
  rw [hZ2] at HP ⊢
  clear hZ2 f3 zf3 hw3
  obtain ⟨u3, hF2⟩ := HF2.out
  have f2 := cell_of_heap hF2 2
  have e0 := cell_of_heap HE2.out 0
  simp at f2 e0
  have f2 : Z2.drew.cell? ⟨Fb, 2, none⟩ = some (.chan (some ch)) := f2
  have e0 : Z2.drew.cell? ⟨Eb, 0, none⟩ = some (.int .i64 (k : Int)) := e0
  refine wpN_seq ?_
  refine wpN_region_any (by kernel_rfl) ?_
  change AnyN _ _ _ (6 + 1) (lst2 0 0) _ _
  refine anyN_sends (w := Z2.drew) (s := 79) (vs := fun | 0 => .pointer (some ⟨Fb, 0, none⟩) | 1 => .pointer (some ⟨Fb, 0, none⟩) | 2 => .pointer (some ⟨Fb, 2, none⟩) | 3 => .chan (some ch) | 4 => .pointer (some ⟨Eb, 0, none⟩) | _ => .int .i64 (k : Int)) (c := ch) (z := .tuple #[]) (x := .int .i64 (k : Int)) (cap := N) (buf := wkA wk) (s0 := s0) (r0 := r0) ?_ (show Z2.drew.heap[ch]? = _ from HC2.out) (by simp [wkA]; exact HRm.out) ?_ 6 0 0 _ (by omega) (by omega) rfl ⟨rfl, fun _ _ => rfl, fun k hk => absurd hk (by omega), fun k hk => absurd hk (by omega), fun _ _ _ => rfl, fun _ _ _ => rfl, rfl⟩
  · refine ⟨rfl, ?_, by kernel_rfl, ?_, rfl, ?_, ?_, ?_⟩
    · exact Nat.le_refl 85
    · intro i hi
      have hi' : i = 0 ∨ i = 1 ∨ i = 2 ∨ i = 3 ∨ i = 4 ∨ i = 5 := by omega
      rcases hi' with rfl | rfl | rfl | rfl | rfl | rfl <;> rfl
    · intro i hi b j hg o ho
      have hi' : i = 0 ∨ i = 1 ∨ i = 2 ∨ i = 3 := by omega
      rcases hi' with rfl | rfl | rfl | rfl
      · have e : b.tmps[0]? = some (.pointer (some ⟨Fb, 0, none⟩)) := (hg.old 0 (by omega)).trans rfl
        cases ho
        simp [go_sem, e]
      · have e : b.tmps[79]? = some (.pointer (some ⟨Fb, 0, none⟩)) := hg.ga 0 (by omega)
        cases ho
        simp [go_sem, e]
      · have e : b.tmps[80]? = some (.pointer (some ⟨Fb, 0, none⟩)) := hg.ga 1 (by omega)
        cases ho
        simp [go_sem, e]
      · have e : b.tmps[81]? = some (.pointer (some ⟨Fb, 2, none⟩)) := hg.ga 2 (by omega)
        cases ho
        simp [go_sem, e, f2]
    · intro j hj b i hg o ho
      have hj' : j = 0 ∨ j = 1 := by omega
      rcases hj' with rfl | rfl
      · have e : b.tmps[3]? = some (.pointer (some ⟨Eb, 0, none⟩)) := (hg.old 3 (by omega)).trans rfl
        cases ho
        simp [go_sem, e]
      · have e : b.tmps[83]? = some (.pointer (some ⟨Eb, 0, none⟩)) := hg.gb 0 (by omega)
        cases ho
        simp [go_sem, e, e0]
    · intro b hg o ho
      have e : b.tmps[82]? = some (.chan (some ch)) := hg.ga 3 (by omega)
      have e' : b.tmps[84]? = some (.int .i64 (k : Int)) := hg.gb 1 (by omega)
      cases ho
      simp [go_sem, e, e', scase]
  · show wpN _ _ _ _ _
    refine wpN_of (wp_at (by simp [go_sem]; exact rfl) ?_)
    have HPz := hid HP.out
    change Code.wp _ _ _ _ (Z2.drew.setChan ch N ((wkA wk).push (.int .i64 (k : Int))) false (s0 + 1) r0 false)
    generalize Z2.drew.setChan ch N ((wkA wk).push (.int .i64 (k : Int))) false (s0 + 1) r0 false = Z4 at *
    clear f2 e0 hF2
    go_wp2_with fail
    go_ret
    refine ⟨rfl, HPz.out.1, ?_⟩
    exact ((Fz.of_below HW.out).trans ((Fz.of_below HY1.out).trans ((Fz.of_below HYX2.out).trans ((Fz.of_below HYX3.out).trans (Fz.of_below (Below.refl _ _).drew))))).trans HPz.out.2
end Go.Proofs.YtfmkgppkgmjpfaaGreatDoor

/- The program comes to a place: where it is wrong, or known already; and all ways. -/
namespace Go.Proofs.YtfmkgppkgmjpfaaGreatDoor
open Go.RowKit Go.Conc

def BadP (W : World) (e : Ending) (W' : World) : Prop := IsBad e ∧ Below W.heap.size W W'

def SameP (W : World) (e : Ending) (W' : World) : Prop := e = .returned .nilIface ∧ Below W.heap.size W W'

theorem badP {W X : World} {o : Obj} (hb : Below W.heap.size W X) : BadP W (.returned (.iface 58 (.pointer (some ⟨X.heap.size, 0, none⟩)))) (X.alloc o) := ⟨⟨X.heap.size, rfl⟩, hb.alloc hb.size o⟩

set_option maxRecDepth 100000 in
set_option maxHeartbeats 8000000 in
theorem comeI_out {W0 : World} {Fb : Nat} {ac : Option Addr} {cc gs ch N : Nat} {T : List Sq} {wk : List Nat} {d : Int} {W : World} (h : Fl W0 Fb (.slice ac N cc) gs ch N T wk d false W) (tt n v p : Int) (hto : (N : Int) ≤ tt) :
    Calls Tryz.prog 18 #[.pointer (some ⟨Fb, 0, none⟩), .agg #[.int .i64 tt, .int .i64 n, .int .i64 v, .int .i64 p]] W (BadP W) := by
  have hV1 := (MapKept.heap_alloc W (.cells #[.int .i64 tt, .int .i64 n, .int .i64 v, .int .i64 p] 67)).1
  have hVb := (Below.refl W.heap.size W).alloc (Nat.le_refl _) (.cells #[.int .i64 tt, .int .i64 n, .int .i64 v, .int .i64 p] 67)
  obtain ⟨V, hV⟩ : ∃ V, W.alloc (.cells #[.int .i64 tt, .int .i64 n, .int .i64 v, .int .i64 p] 67) = V := ⟨_, rfl⟩
  rw [hV] at hV1 hVb
  have h1 := h.below hVb
  have hEl := heap_lt hV1
  have hFl := heap_lt h1.blk
  obtain ⟨Eb, hEb⟩ : ∃ Eb, W.heap.size = Eb := ⟨_, rfl⟩
  rw [hEb] at hV1 hEl
  have e0 := cell_of_heap hV1 0
  have f0 := cell_of_heap h1.blk 0
  simp at e0 f0
  have pe0 : ∀ y : Later V.heap.size V, y.w.cell? ⟨Eb, 0, none⟩ = _ := fun y => y.cell hEl e0
  have pf0 : ∀ y : Later V.heap.size V, y.w.cell? ⟨Fb, 0, none⟩ = _ := fun y => y.cell hFl f0
  have HV := hid hV
  have HEb := hid hEb
  have HV1 := hid hV1
  have H1 := hid h1
  have HW := hid hVb
  have q1 : decide ((N : Int) ≤ tt) = true := decide_eq_true hto
  clear h hV hV1 hVb h1 e0 f0 hto
  refine calls_of_wpN Tryz.func18 rfl ?_
  simp only [Tryz.ntmps18, List.size_toArray, List.length_cons, List.length_nil, Nat.reduceAdd, Nat.reduceSub, Array.replicate_succ, Array.replicate_zero, List.push_toArray, List.append_toArray, List.nil_append, List.cons_append]
  refine wpN_seq_k fun K hK => ?_
  go_wp2_with fail
  rw [HV.out]
  clear hEb
  refine wpN_seq_k fun K hK => ?_
  go_wp2_with fail
  refine wp_region_calm V.heap.size (by kernel_rfl) (by kernel_rfl) ?_
  repeat (go_big_quiet_step (fail))
  refine wpQuiet_nil ?_
  rintro w5 ⟨y, rfl⟩
  have HY1 := hid y.h
  clear pe0 pf0
  have hf1 := (y.h.block Eb hEl).trans HV1.out
  generalize y.w = X1 at *
  have e0 := cell_of_heap hf1 0
  have e1 := cell_of_heap hf1 1
  have e2 := cell_of_heap hf1 2
  simp at e0 e1 e2
  have HB1 := hid (HW.out.trans (HY1.out.mono HW.out.size))
  go_wp2_with fail
  go_ret
  exact badP HB1.out

set_option maxRecDepth 100000 in
set_option maxHeartbeats 8000000 in
theorem comeI_many {W0 : World} {Fb : Nat} {ac : Option Addr} {cc gs ch N : Nat} {T : List Sq} {wk : List Nat} {d : Int} {W : World} (h : Fl W0 Fb (.slice ac N cc) gs ch N T wk d false W) (k : Nat) (n v p : Int) (hk : k < N) (hm : 100 < n ∨ 100 < v) :
    Calls Tryz.prog 18 #[.pointer (some ⟨Fb, 0, none⟩), .agg #[.int .i64 (k : Int), .int .i64 n, .int .i64 v, .int .i64 p]] W (BadP W) := by
  have hV1 := (MapKept.heap_alloc W (.cells #[.int .i64 (k : Int), .int .i64 n, .int .i64 v, .int .i64 p] 67)).1
  have hVb := (Below.refl W.heap.size W).alloc (Nat.le_refl _) (.cells #[.int .i64 (k : Int), .int .i64 n, .int .i64 v, .int .i64 p] 67)
  obtain ⟨V, hV⟩ : ∃ V, W.alloc (.cells #[.int .i64 (k : Int), .int .i64 n, .int .i64 v, .int .i64 p] 67) = V := ⟨_, rfl⟩
  rw [hV] at hV1 hVb
  have h1 := h.below hVb
  have hEl := heap_lt hV1
  have hFl := heap_lt h1.blk
  obtain ⟨Eb, hEb⟩ : ∃ Eb, W.heap.size = Eb := ⟨_, rfl⟩
  rw [hEb] at hV1 hEl
  have e0 := cell_of_heap hV1 0
  have f0 := cell_of_heap h1.blk 0
  simp at e0 f0
  have pe0 : ∀ y : Later V.heap.size V, y.w.cell? ⟨Eb, 0, none⟩ = _ := fun y => y.cell hEl e0
  have pf0 : ∀ y : Later V.heap.size V, y.w.cell? ⟨Fb, 0, none⟩ = _ := fun y => y.cell hFl f0
  have HV := hid hV
  have HEb := hid hEb
  have HV1 := hid hV1
  have H1 := hid h1
  have HW := hid hVb
  have q1 : decide ((N : Int) ≤ (k : Int)) = false := decide_eq_false (by omega)
  have q1n : decide (N ≤ k) = false := decide_eq_false (by omega)
  clear h hV hV1 hVb h1 e0 f0 hk
  refine calls_of_wpN Tryz.func18 rfl ?_
  simp only [Tryz.ntmps18, List.size_toArray, List.length_cons, List.length_nil, Nat.reduceAdd, Nat.reduceSub, Array.replicate_succ, Array.replicate_zero, List.push_toArray, List.append_toArray, List.nil_append, List.cons_append]
  refine wpN_seq_k fun K hK => ?_
  go_wp2_with fail
  rw [HV.out]
  clear hEb
  refine wpN_seq_k fun K hK => ?_
  go_wp2_with fail
  refine wp_region_calm V.heap.size (by kernel_rfl) (by kernel_rfl) ?_
  repeat (go_big_quiet_step (fail))
  refine wpQuiet_nil ?_
  rintro w5 ⟨y, rfl⟩
  have HY1 := hid y.h
  clear pe0 pf0
  have hf1 := (y.h.block Eb hEl).trans HV1.out
  generalize y.w = X1 at *
  have e0 := cell_of_heap hf1 0
  have e1 := cell_of_heap hf1 1
  have e2 := cell_of_heap hf1 2
  simp at e0 e1 e2
  have HB1 := hid (HW.out.trans (HY1.out.mono HW.out.size))
  by_cases h5 : 100 < n
  · clear hm
    go_wp2_with fail
    go_ret
    exact badP HB1.out
  · have h6 : 100 < v := by omega
    clear hm
    go_wp2_with fail
    go_ret
    exact badP HB1.out

set_option maxRecDepth 100000 in
set_option maxHeartbeats 8000000 in
theorem comeI_same {W0 : World} {Fb : Nat} {ac : Option Addr} {cc gs ch N : Nat} {T : List Sq} {wk : List Nat} {d : Int} {W : World} (h : Fl W0 Fb (.slice ac N cc) gs ch N T wk d false W) (k : Nat) (n v p : Int) (hk : k < N) (hn1 : n ≤ 100) (hv1 : v ≤ 100) (ht : tg T k = ⟨n, v, p⟩) :
    Calls Tryz.prog 18 #[.pointer (some ⟨Fb, 0, none⟩), .agg #[.int .i64 (k : Int), .int .i64 n, .int .i64 v, .int .i64 p]] W (SameP W) := by
  have hV1 := (MapKept.heap_alloc W (.cells #[.int .i64 (k : Int), .int .i64 n, .int .i64 v, .int .i64 p] 67)).1
  have hVb := (Below.refl W.heap.size W).alloc (Nat.le_refl _) (.cells #[.int .i64 (k : Int), .int .i64 n, .int .i64 v, .int .i64 p] 67)
  obtain ⟨V, hV⟩ : ∃ V, W.alloc (.cells #[.int .i64 (k : Int), .int .i64 n, .int .i64 v, .int .i64 p] 67) = V := ⟨_, rfl⟩
  rw [hV] at hV1 hVb
  have h1 := h.below hVb
  have hEl := heap_lt hV1
  have hFl := heap_lt h1.blk
  obtain ⟨Eb, hEb⟩ : ∃ Eb, W.heap.size = Eb := ⟨_, rfl⟩
  rw [hEb] at hV1 hEl
  have e0 := cell_of_heap hV1 0
  have f0 := cell_of_heap h1.blk 0
  simp at e0 f0
  have pe0 : ∀ y : Later V.heap.size V, y.w.cell? ⟨Eb, 0, none⟩ = _ := fun y => y.cell hEl e0
  have pf0 : ∀ y : Later V.heap.size V, y.w.cell? ⟨Fb, 0, none⟩ = _ := fun y => y.cell hFl f0
  have HV := hid hV
  have HEb := hid hEb
  have HV1 := hid hV1
  have H1 := hid h1
  have HW := hid hVb
  have q1 : decide ((N : Int) ≤ (k : Int)) = false := decide_eq_false (by omega)
  have q1n : decide (N ≤ k) = false := decide_eq_false (by omega)
  have q2 : ¬ 100 < n := by omega
  have q3 : ¬ 100 < v := by omega
  have k0 : (0 : Int) ≤ (k : Int) := by omega
  have k1 : (k : Int) < (N : Int) := by omega
  have HKn := hid hk
  have HT := hid ht
  clear h hV hV1 hVb h1 e0 f0 hk ht hn1 hv1
  refine calls_of_wpN Tryz.func18 rfl ?_
  simp only [Tryz.ntmps18, List.size_toArray, List.length_cons, List.length_nil, Nat.reduceAdd, Nat.reduceSub, Array.replicate_succ, Array.replicate_zero, List.push_toArray, List.append_toArray, List.nil_append, List.cons_append]
  refine wpN_seq_k fun K hK => ?_
  go_wp2_with fail
  rw [HV.out]
  clear hEb
  refine wpN_seq_k fun K hK => ?_
  go_wp2_with fail
  refine wp_region_calm V.heap.size (by kernel_rfl) (by kernel_rfl) ?_
  repeat (go_big_quiet_step (fail))
  refine wpQuiet_nil ?_
  rintro w5 ⟨y, rfl⟩
  have HY1 := hid y.h
  clear pe0 pf0
  have hf1 := (y.h.block Eb hEl).trans HV1.out
  generalize y.w = X1 at *
  have e0 := cell_of_heap hf1 0
  have e1 := cell_of_heap hf1 1
  have e2 := cell_of_heap hf1 2
  simp at e0 e1 e2
  have HB1 := hid (HW.out.trans (HY1.out.mono HW.out.size))
  go_wp2_with fail
  clear e0 e1 e2
  have HX1 := hid (H1.out.below HY1.out)
  have hBX1 := heap_lt HX1.out.blk
  have hGX1 := HX1.out.row.lt
  have hEX1 := heap_lt hf1
  have cX1 := HX1.out.cells HKn.out
  rw [HT.out] at cX1
  obtain ⟨c0, c1, c2, -, -, -⟩ := cX1
  dsimp only at c0 c1 c2
  have f1 := cell_of_heap HX1.out.blk 1
  have e0 := cell_of_heap hf1 0
  have e1 := cell_of_heap hf1 1
  have e2 := cell_of_heap hf1 2
  have e3 := cell_of_heap hf1 3
  simp at f1 e0 e1 e2 e3
  have pe0 : ∀ y : Later X1.heap.size X1, y.w.cell? ⟨Eb, 0, none⟩ = _ := fun y => y.cell hEX1 e0
  have pe1 : ∀ y : Later X1.heap.size X1, y.w.cell? ⟨Eb, 1, none⟩ = _ := fun y => y.cell hEX1 e1
  have pe2 : ∀ y : Later X1.heap.size X1, y.w.cell? ⟨Eb, 2, none⟩ = _ := fun y => y.cell hEX1 e2
  have pe3 : ∀ y : Later X1.heap.size X1, y.w.cell? ⟨Eb, 3, none⟩ = _ := fun y => y.cell hEX1 e3
  have pf1 : ∀ y : Later X1.heap.size X1, y.w.cell? ⟨Fb, 1, none⟩ = _ := fun y => y.cell hBX1 f1
  have pc0 : ∀ y : Later X1.heap.size X1, y.w.cell? ⟨gs, k * 3, none⟩ = _ := fun y => y.cell hGX1 c0
  have pc1 : ∀ y : Later X1.heap.size X1, y.w.cell? ⟨gs, k * 3 + 1, none⟩ = _ := fun y => y.cell hGX1 c1
  have pc2 : ∀ y : Later X1.heap.size X1, y.w.cell? ⟨gs, k * 3 + 2, none⟩ = _ := fun y => y.cell hGX1 c2
  refine wp_region_calm X1.heap.size (by kernel_rfl) (by kernel_rfl) ?_
  repeat (go_big_quiet_step (fail))
  refine wpQuiet_nil ?_
  rintro w5 ⟨y, rfl⟩
  have HYX2 := hid y.h
  have hfX2 := (y.h.block Eb hEX1).trans hf1
  generalize y.w = X2 at *
  clear pe0 pe1 pe2 pe3 pf1 pc0 pc1 pc2 c0 c1 c2 f1 e0 e1 e2 e3
  go_wp2_with fail
  go_ret
  exact ⟨rfl, HB1.out.trans (HYX2.out.mono HB1.out.size)⟩

set_option maxRecDepth 100000 in
set_option maxHeartbeats 8000000 in
theorem comeI_otherN {W0 : World} {Fb : Nat} {ac : Option Addr} {cc gs ch N : Nat} {T : List Sq} {wk : List Nat} {d : Int} {W : World} (h : Fl W0 Fb (.slice ac N cc) gs ch N T wk d false W) (k : Nat) (n v p x y z : Int) (hk : k < N) (hn1 : n ≤ 100) (hv1 : v ≤ 100) (ht : tg T k = ⟨x, y, z⟩) (hz : z ≠ 0) (hc : x ≠ n) :
    Calls Tryz.prog 18 #[.pointer (some ⟨Fb, 0, none⟩), .agg #[.int .i64 (k : Int), .int .i64 n, .int .i64 v, .int .i64 p]] W (BadP W) := by
  have hV1 := (MapKept.heap_alloc W (.cells #[.int .i64 (k : Int), .int .i64 n, .int .i64 v, .int .i64 p] 67)).1
  have hVb := (Below.refl W.heap.size W).alloc (Nat.le_refl _) (.cells #[.int .i64 (k : Int), .int .i64 n, .int .i64 v, .int .i64 p] 67)
  obtain ⟨V, hV⟩ : ∃ V, W.alloc (.cells #[.int .i64 (k : Int), .int .i64 n, .int .i64 v, .int .i64 p] 67) = V := ⟨_, rfl⟩
  rw [hV] at hV1 hVb
  have h1 := h.below hVb
  have hEl := heap_lt hV1
  have hFl := heap_lt h1.blk
  obtain ⟨Eb, hEb⟩ : ∃ Eb, W.heap.size = Eb := ⟨_, rfl⟩
  rw [hEb] at hV1 hEl
  have e0 := cell_of_heap hV1 0
  have f0 := cell_of_heap h1.blk 0
  simp at e0 f0
  have pe0 : ∀ y : Later V.heap.size V, y.w.cell? ⟨Eb, 0, none⟩ = _ := fun y => y.cell hEl e0
  have pf0 : ∀ y : Later V.heap.size V, y.w.cell? ⟨Fb, 0, none⟩ = _ := fun y => y.cell hFl f0
  have HV := hid hV
  have HEb := hid hEb
  have HV1 := hid hV1
  have H1 := hid h1
  have HW := hid hVb
  have q1 : decide ((N : Int) ≤ (k : Int)) = false := decide_eq_false (by omega)
  have q1n : decide (N ≤ k) = false := decide_eq_false (by omega)
  have q2 : ¬ 100 < n := by omega
  have q3 : ¬ 100 < v := by omega
  have k0 : (0 : Int) ≤ (k : Int) := by omega
  have k1 : (k : Int) < (N : Int) := by omega
  have HKn := hid hk
  have HT := hid ht
  have g1 : (x == n) = false := by simp [hc]
  have z1 : (z != 0) = true := by simp [hz]
  clear h hV hV1 hVb h1 e0 f0 hk ht hn1 hv1 hz hc
  refine calls_of_wpN Tryz.func18 rfl ?_
  simp only [Tryz.ntmps18, List.size_toArray, List.length_cons, List.length_nil, Nat.reduceAdd, Nat.reduceSub, Array.replicate_succ, Array.replicate_zero, List.push_toArray, List.append_toArray, List.nil_append, List.cons_append]
  refine wpN_seq_k fun K hK => ?_
  go_wp2_with fail
  rw [HV.out]
  clear hEb
  refine wpN_seq_k fun K hK => ?_
  go_wp2_with fail
  refine wp_region_calm V.heap.size (by kernel_rfl) (by kernel_rfl) ?_
  repeat (go_big_quiet_step (fail))
  refine wpQuiet_nil ?_
  rintro w5 ⟨y, rfl⟩
  have HY1 := hid y.h
  clear pe0 pf0
  have hf1 := (y.h.block Eb hEl).trans HV1.out
  generalize y.w = X1 at *
  have e0 := cell_of_heap hf1 0
  have e1 := cell_of_heap hf1 1
  have e2 := cell_of_heap hf1 2
  simp at e0 e1 e2
  have HB1 := hid (HW.out.trans (HY1.out.mono HW.out.size))
  go_wp2_with fail
  clear e0 e1 e2
  have HX1 := hid (H1.out.below HY1.out)
  have hBX1 := heap_lt HX1.out.blk
  have hGX1 := HX1.out.row.lt
  have hEX1 := heap_lt hf1
  have cX1 := HX1.out.cells HKn.out
  rw [HT.out] at cX1
  obtain ⟨c0, c1, c2, -, -, -⟩ := cX1
  dsimp only at c0 c1 c2
  have f1 := cell_of_heap HX1.out.blk 1
  have e0 := cell_of_heap hf1 0
  have e1 := cell_of_heap hf1 1
  have e2 := cell_of_heap hf1 2
  have e3 := cell_of_heap hf1 3
  simp at f1 e0 e1 e2 e3
  have pe0 : ∀ y : Later X1.heap.size X1, y.w.cell? ⟨Eb, 0, none⟩ = _ := fun y => y.cell hEX1 e0
  have pe1 : ∀ y : Later X1.heap.size X1, y.w.cell? ⟨Eb, 1, none⟩ = _ := fun y => y.cell hEX1 e1
  have pe2 : ∀ y : Later X1.heap.size X1, y.w.cell? ⟨Eb, 2, none⟩ = _ := fun y => y.cell hEX1 e2
  have pe3 : ∀ y : Later X1.heap.size X1, y.w.cell? ⟨Eb, 3, none⟩ = _ := fun y => y.cell hEX1 e3
  have pf1 : ∀ y : Later X1.heap.size X1, y.w.cell? ⟨Fb, 1, none⟩ = _ := fun y => y.cell hBX1 f1
  have pc0 : ∀ y : Later X1.heap.size X1, y.w.cell? ⟨gs, k * 3, none⟩ = _ := fun y => y.cell hGX1 c0
  have pc1 : ∀ y : Later X1.heap.size X1, y.w.cell? ⟨gs, k * 3 + 1, none⟩ = _ := fun y => y.cell hGX1 c1
  have pc2 : ∀ y : Later X1.heap.size X1, y.w.cell? ⟨gs, k * 3 + 2, none⟩ = _ := fun y => y.cell hGX1 c2
  refine wp_region_calm X1.heap.size (by kernel_rfl) (by kernel_rfl) ?_
  repeat (go_big_quiet_step (fail))
  refine wpQuiet_nil ?_
  rintro w5 ⟨y, rfl⟩
  have HYX2 := hid y.h
  have hfX2 := (y.h.block Eb hEX1).trans hf1
  generalize y.w = X2 at *
  clear pe0 pe1 pe2 pe3 pf1 pc0 pc1 pc2 c0 c1 c2 f1 e0 e1 e2 e3
  go_wp2_with fail
  have HX2 := hid (HX1.out.below HYX2.out)
  have hBX2 := heap_lt HX2.out.blk
  have hGX2 := HX2.out.row.lt
  have hEX2 := heap_lt hfX2
  have cX2 := HX2.out.cells HKn.out
  rw [HT.out] at cX2
  obtain ⟨c0, c1, c2, -, -, -⟩ := cX2
  dsimp only at c0 c1 c2
  have f1 := cell_of_heap HX2.out.blk 1
  have e0 := cell_of_heap hfX2 0
  have e1 := cell_of_heap hfX2 1
  have e2 := cell_of_heap hfX2 2
  have e3 := cell_of_heap hfX2 3
  simp at f1 e0 e1 e2 e3
  have pe0 : ∀ y : Later X2.heap.size X2, y.w.cell? ⟨Eb, 0, none⟩ = _ := fun y => y.cell hEX2 e0
  have pe1 : ∀ y : Later X2.heap.size X2, y.w.cell? ⟨Eb, 1, none⟩ = _ := fun y => y.cell hEX2 e1
  have pe2 : ∀ y : Later X2.heap.size X2, y.w.cell? ⟨Eb, 2, none⟩ = _ := fun y => y.cell hEX2 e2
  have pe3 : ∀ y : Later X2.heap.size X2, y.w.cell? ⟨Eb, 3, none⟩ = _ := fun y => y.cell hEX2 e3
  have pf1 : ∀ y : Later X2.heap.size X2, y.w.cell? ⟨Fb, 1, none⟩ = _ := fun y => y.cell hBX2 f1
  have pc0 : ∀ y : Later X2.heap.size X2, y.w.cell? ⟨gs, k * 3, none⟩ = _ := fun y => y.cell hGX2 c0
  have pc1 : ∀ y : Later X2.heap.size X2, y.w.cell? ⟨gs, k * 3 + 1, none⟩ = _ := fun y => y.cell hGX2 c1
  have pc2 : ∀ y : Later X2.heap.size X2, y.w.cell? ⟨gs, k * 3 + 2, none⟩ = _ := fun y => y.cell hGX2 c2
  refine wp_region_calm X2.heap.size (by kernel_rfl) (by kernel_rfl) ?_
  repeat (go_big_quiet_step (fail))
  refine wpQuiet_nil ?_
  rintro w5 ⟨y, rfl⟩
  have HYX3 := hid y.h
  have hfX3 := (y.h.block Eb hEX2).trans hfX2
  generalize y.w = X3 at *
  clear pe0 pe1 pe2 pe3 pf1 pc0 pc1 pc2 c0 c1 c2 f1 e0 e1 e2 e3
  have e0 := cell_of_heap hfX3 0
  simp at e0
  go_wp2_with fail
  go_ret
  exact badP ((HB1.out.trans (HYX2.out.mono HB1.out.size)).trans (HYX3.out.mono (Nat.le_trans HB1.out.size HYX2.out.size)))

set_option maxRecDepth 100000 in
set_option maxHeartbeats 8000000 in
theorem comeI_otherV {W0 : World} {Fb : Nat} {ac : Option Addr} {cc gs ch N : Nat} {T : List Sq} {wk : List Nat} {d : Int} {W : World} (h : Fl W0 Fb (.slice ac N cc) gs ch N T wk d false W) (k : Nat) (n v p x y z : Int) (hk : k < N) (hn1 : n ≤ 100) (hv1 : v ≤ 100) (ht : tg T k = ⟨x, y, z⟩) (hz : z ≠ 0) (hc : y ≠ v) :
    Calls Tryz.prog 18 #[.pointer (some ⟨Fb, 0, none⟩), .agg #[.int .i64 (k : Int), .int .i64 n, .int .i64 v, .int .i64 p]] W (BadP W) := by
  have hV1 := (MapKept.heap_alloc W (.cells #[.int .i64 (k : Int), .int .i64 n, .int .i64 v, .int .i64 p] 67)).1
  have hVb := (Below.refl W.heap.size W).alloc (Nat.le_refl _) (.cells #[.int .i64 (k : Int), .int .i64 n, .int .i64 v, .int .i64 p] 67)
  obtain ⟨V, hV⟩ : ∃ V, W.alloc (.cells #[.int .i64 (k : Int), .int .i64 n, .int .i64 v, .int .i64 p] 67) = V := ⟨_, rfl⟩
  rw [hV] at hV1 hVb
  have h1 := h.below hVb
  have hEl := heap_lt hV1
  have hFl := heap_lt h1.blk
  obtain ⟨Eb, hEb⟩ : ∃ Eb, W.heap.size = Eb := ⟨_, rfl⟩
  rw [hEb] at hV1 hEl
  have e0 := cell_of_heap hV1 0
  have f0 := cell_of_heap h1.blk 0
  simp at e0 f0
  have pe0 : ∀ y : Later V.heap.size V, y.w.cell? ⟨Eb, 0, none⟩ = _ := fun y => y.cell hEl e0
  have pf0 : ∀ y : Later V.heap.size V, y.w.cell? ⟨Fb, 0, none⟩ = _ := fun y => y.cell hFl f0
  have HV := hid hV
  have HEb := hid hEb
  have HV1 := hid hV1
  have H1 := hid h1
  have HW := hid hVb
  have q1 : decide ((N : Int) ≤ (k : Int)) = false := decide_eq_false (by omega)
  have q1n : decide (N ≤ k) = false := decide_eq_false (by omega)
  have q2 : ¬ 100 < n := by omega
  have q3 : ¬ 100 < v := by omega
  have k0 : (0 : Int) ≤ (k : Int) := by omega
  have k1 : (k : Int) < (N : Int) := by omega
  have HKn := hid hk
  have HT := hid ht
  have g1 : (y == v) = false := by simp [hc]
  have z1 : (z != 0) = true := by simp [hz]
  clear h hV hV1 hVb h1 e0 f0 hk ht hn1 hv1 hz hc
  refine calls_of_wpN Tryz.func18 rfl ?_
  simp only [Tryz.ntmps18, List.size_toArray, List.length_cons, List.length_nil, Nat.reduceAdd, Nat.reduceSub, Array.replicate_succ, Array.replicate_zero, List.push_toArray, List.append_toArray, List.nil_append, List.cons_append]
  refine wpN_seq_k fun K hK => ?_
  go_wp2_with fail
  rw [HV.out]
  clear hEb
  refine wpN_seq_k fun K hK => ?_
  go_wp2_with fail
  refine wp_region_calm V.heap.size (by kernel_rfl) (by kernel_rfl) ?_
  repeat (go_big_quiet_step (fail))
  refine wpQuiet_nil ?_
  rintro w5 ⟨y, rfl⟩
  have HY1 := hid y.h
  clear pe0 pf0
  have hf1 := (y.h.block Eb hEl).trans HV1.out
  generalize y.w = X1 at *
  have e0 := cell_of_heap hf1 0
  have e1 := cell_of_heap hf1 1
  have e2 := cell_of_heap hf1 2
  simp at e0 e1 e2
  have HB1 := hid (HW.out.trans (HY1.out.mono HW.out.size))
  go_wp2_with fail
  clear e0 e1 e2
  have HX1 := hid (H1.out.below HY1.out)
  have hBX1 := heap_lt HX1.out.blk
  have hGX1 := HX1.out.row.lt
  have hEX1 := heap_lt hf1
  have cX1 := HX1.out.cells HKn.out
  rw [HT.out] at cX1
  obtain ⟨c0, c1, c2, -, -, -⟩ := cX1
  dsimp only at c0 c1 c2
  have f1 := cell_of_heap HX1.out.blk 1
  have e0 := cell_of_heap hf1 0
  have e1 := cell_of_heap hf1 1
  have e2 := cell_of_heap hf1 2
  have e3 := cell_of_heap hf1 3
  simp at f1 e0 e1 e2 e3
  have pe0 : ∀ y : Later X1.heap.size X1, y.w.cell? ⟨Eb, 0, none⟩ = _ := fun y => y.cell hEX1 e0
  have pe1 : ∀ y : Later X1.heap.size X1, y.w.cell? ⟨Eb, 1, none⟩ = _ := fun y => y.cell hEX1 e1
  have pe2 : ∀ y : Later X1.heap.size X1, y.w.cell? ⟨Eb, 2, none⟩ = _ := fun y => y.cell hEX1 e2
  have pe3 : ∀ y : Later X1.heap.size X1, y.w.cell? ⟨Eb, 3, none⟩ = _ := fun y => y.cell hEX1 e3
  have pf1 : ∀ y : Later X1.heap.size X1, y.w.cell? ⟨Fb, 1, none⟩ = _ := fun y => y.cell hBX1 f1
  have pc0 : ∀ y : Later X1.heap.size X1, y.w.cell? ⟨gs, k * 3, none⟩ = _ := fun y => y.cell hGX1 c0
  have pc1 : ∀ y : Later X1.heap.size X1, y.w.cell? ⟨gs, k * 3 + 1, none⟩ = _ := fun y => y.cell hGX1 c1
  have pc2 : ∀ y : Later X1.heap.size X1, y.w.cell? ⟨gs, k * 3 + 2, none⟩ = _ := fun y => y.cell hGX1 c2
  refine wp_region_calm X1.heap.size (by kernel_rfl) (by kernel_rfl) ?_
  repeat (go_big_quiet_step (fail))
  refine wpQuiet_nil ?_
  rintro w5 ⟨y, rfl⟩
  have HYX2 := hid y.h
  have hfX2 := (y.h.block Eb hEX1).trans hf1
  generalize y.w = X2 at *
  clear pe0 pe1 pe2 pe3 pf1 pc0 pc1 pc2 c0 c1 c2 f1 e0 e1 e2 e3
  go_wp2_with fail
  have HX2 := hid (HX1.out.below HYX2.out)
  have hBX2 := heap_lt HX2.out.blk
  have hGX2 := HX2.out.row.lt
  have hEX2 := heap_lt hfX2
  have cX2 := HX2.out.cells HKn.out
  rw [HT.out] at cX2
  obtain ⟨c0, c1, c2, -, -, -⟩ := cX2
  dsimp only at c0 c1 c2
  have f1 := cell_of_heap HX2.out.blk 1
  have e0 := cell_of_heap hfX2 0
  have e1 := cell_of_heap hfX2 1
  have e2 := cell_of_heap hfX2 2
  have e3 := cell_of_heap hfX2 3
  simp at f1 e0 e1 e2 e3
  have pe0 : ∀ y : Later X2.heap.size X2, y.w.cell? ⟨Eb, 0, none⟩ = _ := fun y => y.cell hEX2 e0
  have pe1 : ∀ y : Later X2.heap.size X2, y.w.cell? ⟨Eb, 1, none⟩ = _ := fun y => y.cell hEX2 e1
  have pe2 : ∀ y : Later X2.heap.size X2, y.w.cell? ⟨Eb, 2, none⟩ = _ := fun y => y.cell hEX2 e2
  have pe3 : ∀ y : Later X2.heap.size X2, y.w.cell? ⟨Eb, 3, none⟩ = _ := fun y => y.cell hEX2 e3
  have pf1 : ∀ y : Later X2.heap.size X2, y.w.cell? ⟨Fb, 1, none⟩ = _ := fun y => y.cell hBX2 f1
  have pc0 : ∀ y : Later X2.heap.size X2, y.w.cell? ⟨gs, k * 3, none⟩ = _ := fun y => y.cell hGX2 c0
  have pc1 : ∀ y : Later X2.heap.size X2, y.w.cell? ⟨gs, k * 3 + 1, none⟩ = _ := fun y => y.cell hGX2 c1
  have pc2 : ∀ y : Later X2.heap.size X2, y.w.cell? ⟨gs, k * 3 + 2, none⟩ = _ := fun y => y.cell hGX2 c2
  refine wp_region_calm X2.heap.size (by kernel_rfl) (by kernel_rfl) ?_
  repeat (go_big_quiet_step (fail))
  refine wpQuiet_nil ?_
  rintro w5 ⟨y, rfl⟩
  have HYX3 := hid y.h
  have hfX3 := (y.h.block Eb hEX2).trans hfX2
  generalize y.w = X3 at *
  clear pe0 pe1 pe2 pe3 pf1 pc0 pc1 pc2 c0 c1 c2 f1 e0 e1 e2 e3
  have e0 := cell_of_heap hfX3 0
  simp at e0
  go_wp2_with fail
  go_ret
  exact badP ((HB1.out.trans (HYX2.out.mono HB1.out.size)).trans (HYX3.out.mono (Nat.le_trans HB1.out.size HYX2.out.size)))

set_option maxRecDepth 100000 in
set_option maxHeartbeats 8000000 in
theorem comeI_otherP {W0 : World} {Fb : Nat} {ac : Option Addr} {cc gs ch N : Nat} {T : List Sq} {wk : List Nat} {d : Int} {W : World} (h : Fl W0 Fb (.slice ac N cc) gs ch N T wk d false W) (k : Nat) (n v p x y z : Int) (hk : k < N) (hn1 : n ≤ 100) (hv1 : v ≤ 100) (ht : tg T k = ⟨x, y, z⟩) (hz : z ≠ 0) (hc : z ≠ p) :
    Calls Tryz.prog 18 #[.pointer (some ⟨Fb, 0, none⟩), .agg #[.int .i64 (k : Int), .int .i64 n, .int .i64 v, .int .i64 p]] W (BadP W) := by
  have hV1 := (MapKept.heap_alloc W (.cells #[.int .i64 (k : Int), .int .i64 n, .int .i64 v, .int .i64 p] 67)).1
  have hVb := (Below.refl W.heap.size W).alloc (Nat.le_refl _) (.cells #[.int .i64 (k : Int), .int .i64 n, .int .i64 v, .int .i64 p] 67)
  obtain ⟨V, hV⟩ : ∃ V, W.alloc (.cells #[.int .i64 (k : Int), .int .i64 n, .int .i64 v, .int .i64 p] 67) = V := ⟨_, rfl⟩
  rw [hV] at hV1 hVb
  have h1 := h.below hVb
  have hEl := heap_lt hV1
  have hFl := heap_lt h1.blk
  obtain ⟨Eb, hEb⟩ : ∃ Eb, W.heap.size = Eb := ⟨_, rfl⟩
  rw [hEb] at hV1 hEl
  have e0 := cell_of_heap hV1 0
  have f0 := cell_of_heap h1.blk 0
  simp at e0 f0
  have pe0 : ∀ y : Later V.heap.size V, y.w.cell? ⟨Eb, 0, none⟩ = _ := fun y => y.cell hEl e0
  have pf0 : ∀ y : Later V.heap.size V, y.w.cell? ⟨Fb, 0, none⟩ = _ := fun y => y.cell hFl f0
  have HV := hid hV
  have HEb := hid hEb
  have HV1 := hid hV1
  have H1 := hid h1
  have HW := hid hVb
  have q1 : decide ((N : Int) ≤ (k : Int)) = false := decide_eq_false (by omega)
  have q1n : decide (N ≤ k) = false := decide_eq_false (by omega)
  have q2 : ¬ 100 < n := by omega
  have q3 : ¬ 100 < v := by omega
  have k0 : (0 : Int) ≤ (k : Int) := by omega
  have k1 : (k : Int) < (N : Int) := by omega
  have HKn := hid hk
  have HT := hid ht
  have g1 : (z == p) = false := by simp [hc]
  have z1 : (z != 0) = true := by simp [hz]
  clear h hV hV1 hVb h1 e0 f0 hk ht hn1 hv1 hz hc
  refine calls_of_wpN Tryz.func18 rfl ?_
  simp only [Tryz.ntmps18, List.size_toArray, List.length_cons, List.length_nil, Nat.reduceAdd, Nat.reduceSub, Array.replicate_succ, Array.replicate_zero, List.push_toArray, List.append_toArray, List.nil_append, List.cons_append]
  refine wpN_seq_k fun K hK => ?_
  go_wp2_with fail
  rw [HV.out]
  clear hEb
  refine wpN_seq_k fun K hK => ?_
  go_wp2_with fail
  refine wp_region_calm V.heap.size (by kernel_rfl) (by kernel_rfl) ?_
  repeat (go_big_quiet_step (fail))
  refine wpQuiet_nil ?_
  rintro w5 ⟨y, rfl⟩
  have HY1 := hid y.h
  clear pe0 pf0
  have hf1 := (y.h.block Eb hEl).trans HV1.out
  generalize y.w = X1 at *
  have e0 := cell_of_heap hf1 0
  have e1 := cell_of_heap hf1 1
  have e2 := cell_of_heap hf1 2
  simp at e0 e1 e2
  have HB1 := hid (HW.out.trans (HY1.out.mono HW.out.size))
  go_wp2_with fail
  clear e0 e1 e2
  have HX1 := hid (H1.out.below HY1.out)
  have hBX1 := heap_lt HX1.out.blk
  have hGX1 := HX1.out.row.lt
  have hEX1 := heap_lt hf1
  have cX1 := HX1.out.cells HKn.out
  rw [HT.out] at cX1
  obtain ⟨c0, c1, c2, -, -, -⟩ := cX1
  dsimp only at c0 c1 c2
  have f1 := cell_of_heap HX1.out.blk 1
  have e0 := cell_of_heap hf1 0
  have e1 := cell_of_heap hf1 1
  have e2 := cell_of_heap hf1 2
  have e3 := cell_of_heap hf1 3
  simp at f1 e0 e1 e2 e3
  have pe0 : ∀ y : Later X1.heap.size X1, y.w.cell? ⟨Eb, 0, none⟩ = _ := fun y => y.cell hEX1 e0
  have pe1 : ∀ y : Later X1.heap.size X1, y.w.cell? ⟨Eb, 1, none⟩ = _ := fun y => y.cell hEX1 e1
  have pe2 : ∀ y : Later X1.heap.size X1, y.w.cell? ⟨Eb, 2, none⟩ = _ := fun y => y.cell hEX1 e2
  have pe3 : ∀ y : Later X1.heap.size X1, y.w.cell? ⟨Eb, 3, none⟩ = _ := fun y => y.cell hEX1 e3
  have pf1 : ∀ y : Later X1.heap.size X1, y.w.cell? ⟨Fb, 1, none⟩ = _ := fun y => y.cell hBX1 f1
  have pc0 : ∀ y : Later X1.heap.size X1, y.w.cell? ⟨gs, k * 3, none⟩ = _ := fun y => y.cell hGX1 c0
  have pc1 : ∀ y : Later X1.heap.size X1, y.w.cell? ⟨gs, k * 3 + 1, none⟩ = _ := fun y => y.cell hGX1 c1
  have pc2 : ∀ y : Later X1.heap.size X1, y.w.cell? ⟨gs, k * 3 + 2, none⟩ = _ := fun y => y.cell hGX1 c2
  refine wp_region_calm X1.heap.size (by kernel_rfl) (by kernel_rfl) ?_
  repeat (go_big_quiet_step (fail))
  refine wpQuiet_nil ?_
  rintro w5 ⟨y, rfl⟩
  have HYX2 := hid y.h
  have hfX2 := (y.h.block Eb hEX1).trans hf1
  generalize y.w = X2 at *
  clear pe0 pe1 pe2 pe3 pf1 pc0 pc1 pc2 c0 c1 c2 f1 e0 e1 e2 e3
  go_wp2_with fail
  have HX2 := hid (HX1.out.below HYX2.out)
  have hBX2 := heap_lt HX2.out.blk
  have hGX2 := HX2.out.row.lt
  have hEX2 := heap_lt hfX2
  have cX2 := HX2.out.cells HKn.out
  rw [HT.out] at cX2
  obtain ⟨c0, c1, c2, -, -, -⟩ := cX2
  dsimp only at c0 c1 c2
  have f1 := cell_of_heap HX2.out.blk 1
  have e0 := cell_of_heap hfX2 0
  have e1 := cell_of_heap hfX2 1
  have e2 := cell_of_heap hfX2 2
  have e3 := cell_of_heap hfX2 3
  simp at f1 e0 e1 e2 e3
  have pe0 : ∀ y : Later X2.heap.size X2, y.w.cell? ⟨Eb, 0, none⟩ = _ := fun y => y.cell hEX2 e0
  have pe1 : ∀ y : Later X2.heap.size X2, y.w.cell? ⟨Eb, 1, none⟩ = _ := fun y => y.cell hEX2 e1
  have pe2 : ∀ y : Later X2.heap.size X2, y.w.cell? ⟨Eb, 2, none⟩ = _ := fun y => y.cell hEX2 e2
  have pe3 : ∀ y : Later X2.heap.size X2, y.w.cell? ⟨Eb, 3, none⟩ = _ := fun y => y.cell hEX2 e3
  have pf1 : ∀ y : Later X2.heap.size X2, y.w.cell? ⟨Fb, 1, none⟩ = _ := fun y => y.cell hBX2 f1
  have pc0 : ∀ y : Later X2.heap.size X2, y.w.cell? ⟨gs, k * 3, none⟩ = _ := fun y => y.cell hGX2 c0
  have pc1 : ∀ y : Later X2.heap.size X2, y.w.cell? ⟨gs, k * 3 + 1, none⟩ = _ := fun y => y.cell hGX2 c1
  have pc2 : ∀ y : Later X2.heap.size X2, y.w.cell? ⟨gs, k * 3 + 2, none⟩ = _ := fun y => y.cell hGX2 c2
  refine wp_region_calm X2.heap.size (by kernel_rfl) (by kernel_rfl) ?_
  repeat (go_big_quiet_step (fail))
  refine wpQuiet_nil ?_
  rintro w5 ⟨y, rfl⟩
  have HYX3 := hid y.h
  have hfX3 := (y.h.block Eb hEX2).trans hfX2
  generalize y.w = X3 at *
  clear pe0 pe1 pe2 pe3 pf1 pc0 pc1 pc2 c0 c1 c2 f1 e0 e1 e2 e3
  have e0 := cell_of_heap hfX3 0
  simp at e0
  go_wp2_with fail
  go_ret
  exact badP ((HB1.out.trans (HYX2.out.mono HB1.out.size)).trans (HYX3.out.mono (Nat.le_trans HB1.out.size HYX2.out.size)))

theorem comeI_calls {W0 : World} {Fb : Nat} {ac : Option Addr} {cc gs ch N : Nat} {T : List Sq} {wk : List Nat} {d : Int} {W : World} (h : Fl W0 Fb (.slice ac N cc) gs ch N T wk d false W) (tt n v p : Int) (h0 : 0 ≤ tt) (hn : 0 ≤ n) (hv : 0 ≤ v) (hp0 : 1 ≤ p) (hp1 : p ≤ 3) :
    Calls Tryz.prog 18 #[.pointer (some ⟨Fb, 0, none⟩), .agg #[.int .i64 tt, .int .i64 n, .int .i64 v, .int .i64 p]] W (ComeI W0 Fb (.slice ac N cc) gs ch N d W (comeZ N T wk (tt, ⟨n, v, p⟩))) := by
  have hbad : ∀ e W', BadP W e W' → comeZ N T wk (tt, ⟨n, v, p⟩) = none → ComeI W0 Fb (.slice ac N cc) gs ch N d W (comeZ N T wk (tt, ⟨n, v, p⟩)) e W' := fun e W' hb hz => by
    rw [hz]
    exact ⟨h.bel.trans (hb.2.mono h.bel.size), Fz.of_below hb.2, fun _ => hb.1, fun x hx => by cases hx⟩
  by_cases t1 : (N : Int) ≤ tt
  · refine (comeI_out h tt n v p t1).mono fun e W' hb => hbad e W' hb ?_
    unfold comeZ
    rw [if_pos (Or.inr (Or.inl t1))]
  obtain ⟨k, rfl⟩ : ∃ k : Nat, tt = (k : Int) := ⟨tt.toNat, by omega⟩
  have hk : k < N := by omega
  by_cases t2 : 100 < n ∨ 100 < v
  · refine (comeI_many h k n v p hk t2).mono fun e W' hb => hbad e W' hb ?_
    unfold comeZ
    rw [if_pos (by dsimp only; omega)]
  have hz : comeZ N T wk ((k : Int), ⟨n, v, p⟩) = if tg T k = ⟨n, v, p⟩ then some (T, wk) else if (tg T k).p ≠ 0 then none else some (T.set k ⟨n, v, p⟩, wk ++ [k]) := by
    unfold comeZ
    rw [if_neg (by dsimp only; omega)]
    rfl
  by_cases t3 : tg T k = ⟨n, v, p⟩
  · refine (comeI_same h k n v p hk (by omega) (by omega) t3).mono fun e W' hb => ?_
    rw [hz, if_pos t3]
    refine ⟨h.bel.trans (hb.2.mono h.bel.size), Fz.of_below hb.2, fun e => (by cases e), fun x hx => ?_⟩
    cases hx
    exact ⟨hb.1, h.below hb.2⟩
  by_cases t4 : (tg T k).p = 0
  · refine (comeI_push h k n v p hk hn (by omega) hv (by omega) hp0 hp1 t4).mono fun e W' hb => ?_
    rw [hz, if_neg t3, if_neg (fun e => e t4)]
    refine ⟨hb.2.1.bel, hb.2.2, fun e => (by cases e), fun x hx => ?_⟩
    cases hx
    exact ⟨hb.1, hb.2.1⟩
  · have hnone : comeZ N T wk ((k : Int), ⟨n, v, p⟩) = none := by rw [hz, if_neg t3, if_pos t4]
    obtain ⟨⟨x, y, z⟩, ht⟩ : ∃ s, tg T k = s := ⟨_, rfl⟩
    rw [ht] at t3 t4
    by_cases c1 : x = n
    · by_cases c2 : y = v
      · have c3 : z ≠ p := fun e => t3 (by rw [c1, c2, e])
        exact (comeI_otherP h k n v p x y z hk (by omega) (by omega) ht t4 c3).mono fun e W' hb => hbad e W' hb hnone
      · exact (comeI_otherV h k n v p x y z hk (by omega) (by omega) ht t4 c2).mono fun e W' hb => hbad e W' hb hnone
    · exact (comeI_otherN h k n v p x y z hk (by omega) (by omega) ht t4 c1).mono fun e W' hb => hbad e W' hb hnone
end Go.Proofs.YtfmkgppkgmjpfaaGreatDoor

/- Lists of numbers in memory: copies, comparisons of two that hold the same, marks. -/
namespace Go.Proofs.YtfmkgppkgmjpfaaGreatDoor
open Go.RowKit

/-- The cells of a list of numbers, told by place. -/
def intCells (bs : List Int) (i : Nat) : Value := .int .i64 (bs.getD i 0)

def intMarks (s : Int) (i : Nat) : Value := .int .i64 (s + (i : Int))

theorem wrap_inc {k n : Nat} (hk : k < n) (hm : n ≤ 1048576) : wrap64 ((k : Int) + 1) = ((k + 1 : Nat) : Int) := by
  unfold wrap64
  omega

theorem wrap_inc2 {x s : Int} {k n : Nat} (hx : x = s + (k : Int)) (hk : k < n) (hm : n ≤ 1048576) (h0 : 0 ≤ s) (h1 : s ≤ 1000000000) : wrap64 (x + 1) = x + 1 := by
  unfold wrap64
  omega

/-- A slice of these numbers, wherever it begins in its block. -/
def IntSlice (w : World) (v : Value) (bs : List Int) : Prop :=
  ∃ a cap, v = .slice a bs.length cap ∧ (bs = [] ∨ ∃ b off, a = some ⟨b, off, none⟩ ∧ b < w.heap.size ∧ ∀ k, k < bs.length → w.cell? ⟨b, off + k, none⟩ = some (.int .i64 (bs.getD k 0)))

theorem IntSlice.below {w w' : World} {v : Value} {bs : List Int} (h : IntSlice w v bs) (hb : Below w.heap.size w w') : IntSlice w' v bs := by
  obtain ⟨a, cap, rfl, h⟩ := h
  refine ⟨a, cap, rfl, h.imp id ?_⟩
  rintro ⟨b, off, rfl, hlt, hn⟩
  exact ⟨b, off, rfl, Nat.lt_of_lt_of_le hlt hb.size, fun k hk => (hb.cell hlt).trans (hn k hk)⟩

theorem SliceR.intSlice {B : Nat} {w : World} {v : Value} {bs : List Int} (h : SliceR 3 1 B w v bs.length (intCells bs)) : IntSlice w v bs := by
  obtain ⟨ad, cap, rfl, h⟩ := h
  refine ⟨ad, cap, rfl, ?_⟩
  by_cases h0 : bs = []
  · exact Or.inl h0
  · obtain ⟨g, rfl, _, hr⟩ := h.resolve_left (fun e => h0 (List.length_eq_zero_iff.1 e))
    refine Or.inr ⟨g, 0, rfl, hr.lt, fun k hk => ?_⟩
    rw [Nat.zero_add]
    exact hr.cell (by omega)

theorem intSliceR_of_owns {B : Nat} {w : World} {v : Value} {bs : List Int} (h : w.ownsRow B 3 1 v bs.length (bs.map (fun b => .int .i64 b))) : SliceR 3 1 B w v bs.length (intCells bs) := by
  obtain ⟨ad, cap, rfl, h'⟩ := sliceR_of_owns h
  refine ⟨ad, cap, rfl, h'.imp id ?_⟩
  rintro ⟨g, rfl, hB, hr⟩
  refine ⟨g, rfl, hB, hr.congr (fun i hi => ?_)⟩
  have hi' : i < bs.length := by omega
  simp [intCells, List.getD, hi']

theorem row_more {k : Nat} {f f' F : Nat → Value} (hf : ∀ i, i < k → f i = F i) (ho : ∀ i, i < k → f' i = f i) (h0 : f' k = F k) : ∀ i, i < k + 1 → f' i = F i := by
  intro i hi
  by_cases h : i < k
  · rw [ho i h, hf i h]
  · rw [show i = k by omega]
    exact h0

end Go.Proofs.YtfmkgppkgmjpfaaGreatDoor

/- Small functions of the program's check: spots, a table's lines, is it a table. -/
namespace Go.Proofs.YtfmkgppkgmjpfaaGreatDoor
open Go.RowKit Go.Conc

/-- A slice of these instructions, not longer than its capacity, that lies ahead of W0's end. -/
def CodeAt (W0 : World) (bc oc cc : Nat) (is : List In) : Prop := bc < W0.heap.size ∧ InsAt W0 bc oc is ∧ is.length ≤ cc ∧ is.length ≤ 1500 ∧ ∀ i ∈ is, i.ok = true

theorem block_in0 {W : World} {a : Addr} {v : Value} (h : W.cell? a = some v) : a.block < W.heap.size := by
  unfold World.cell? at h
  split at h
  · rename_i e
    obtain ⟨hlt, _⟩ := Array.getElem?_eq_some_iff.mp e
    exact hlt
  · cases h

set_option maxRecDepth 100000 in
theorem more_calls (n v p a b : Int) (w : World) (h1 : wrap64 (n + a) = n + a) (h2 : wrap64 (v + b) = v + b) :
    Calls Tryz.prog 66 #[.agg #[.int .i64 n, .int .i64 v, .int .i64 p], .int .i64 a, .int .i64 b] w fun e w' => e = .returned (.agg #[.int .i64 (n + a), .int .i64 (v + b), .int .i64 p]) ∧ Below w.heap.size w w' := by
  go_enter Tryz.func66, Tryz.ntmps66
  go_wp2_with fail
  refine bodyPost_ret (by simp [results, go_sem]; exact rfl) rfl ?_
  exact ⟨rfl, ((Below.refl _ _).alloc (Nat.le_refl _) _).alloc (by simp) _⟩

set_option maxRecDepth 100000 in
theorem inFunction_calls (n : Int) (w : World) :
    Calls Tryz.prog 67 #[.int .i64 n] w fun e w' => e = .returned (.agg #[.int .i64 n, .int .i64 0, .int .i64 2]) ∧ Below w.heap.size w w' := by
  go_enter Tryz.func67, Tryz.ntmps67
  go_wp2_with fail
  refine bodyPost_ret (by simp [results, go_sem]; exact rfl) rfl ?_
  exact ⟨rfl, (Below.refl _ _).alloc (Nat.le_refl _) _⟩

def ClauseP (bc oc k B : Nat) (W : World) (e : Ending) (W' : World) : Prop := ∃ ad cp, e = .returned (.slice ad B cp) ∧ (0 < B → ad = some ⟨bc, oc + (k + 1) * 4, none⟩) ∧ Below W.heap.size W W'

set_option maxRecDepth 100000 in
set_option maxHeartbeats 4000000 in
theorem tabClauses_calls {Fb bc oc cc N k B : Nat} {W : World} (hF : W.cell? ⟨Fb, 0, none⟩ = some (.slice (some ⟨bc, oc, none⟩) N cc)) (hc2 : W.cell? ⟨bc, oc + k * 4 + 2, none⟩ = some (.int .i64 (B : Int))) (hk : k + B < N) (hcc : N ≤ cc) (hN : N ≤ 1500) :
    Calls Tryz.prog 88 #[.pointer (some ⟨Fb, 0, none⟩), .int .i64 (k : Int)] W (ClauseP bc oc k B W) := by
  have hFl := block_in0 hF
  have hbl := block_in0 hc2
  have p0 : ∀ y : Later W.heap.size W, y.w.cell? ⟨Fb, 0, none⟩ = _ := fun y => y.cell hFl hF
  have p2 : ∀ y : Later W.heap.size W, y.w.cell? ⟨bc, oc + k * 4 + 2, none⟩ = _ := fun y => y.cell hbl hc2
  obtain ⟨kn, hkn⟩ : ∃ kn : Nat, k + 1 = kn := ⟨_, rfl⟩
  have w1 : wrap64 ((k : Int) + 1) = (kn : Int) := by rw [wrap64]; omega
  have q0 : (0 : Int) ≤ (k : Int) := by omega
  have q1 : (k : Int) < (N : Int) := by omega
  have q2 : (0 : Int) ≤ (kn : Int) := by omega
  have q3 : (kn : Int) ≤ (N : Int) := by omega
  have q4 : (kn : Int) ≤ (cc : Int) := by omega
  have q4' : (N : Int) ≤ (cc : Int) := by omega
  have q5 : (0 : Int) ≤ (B : Int) := by omega
  have q6 : (B : Int) ≤ ((cc - kn : Nat) : Int) := by omega
  have HB : Hid (k + B < N ∧ N ≤ cc ∧ k + 1 = kn) := ⟨hk, hcc, hkn⟩
  clear hF hc2 hk hcc hN hFl hbl hkn
  go_enter Tryz.func88, Tryz.ntmps88
  go_wp2_with fail
  refine wp_region_calm W.heap.size (by kernel_rfl) (by kernel_rfl) ?_
  repeat (go_big_quiet_step (fail))
  obtain ⟨ad, had⟩ : ∃ ad, (if cc = kn then some (⟨bc, oc, none⟩ : Addr) else some ⟨bc, oc + kn * 4, none⟩) = ad := ⟨_, rfl⟩
  rw [had]
  have HA := hid had
  clear had
  refine wpQuiet_nil ?_
  rintro w5 ⟨y, rfl⟩
  have HY := hid y.h
  generalize y.w = W1 at *
  clear p0 p2
  go_wp2_with fail
  go_ret
  refine ⟨_, _, rfl, fun hB => ?_, HY.out⟩
  rw [← HA.out, if_neg (by have := HB.out; omega), HB.out.2.2]

theorem linesI_len {is : List In} {k B : Nat} (hB : (is.getD k default).b = (B : Int)) (hk : k + B < is.length) : (clausesZ is (k : Int)).length = B := by
  unfold clausesZ
  rw [Int.toNat_natCast, hB, Int.toNat_natCast, List.length_take, List.length_drop]
  omega

theorem linesI_next {is : List In} {k B j : Nat} (hB : (is.getD k default).b = (B : Int)) (hk : k + B < is.length) (hj : j < B) : (clausesZ is (k : Int)).take (j + 1) = (clausesZ is (k : Int)).take j ++ [is.getD (k + (j + 1)) default] := by
  have hl := linesI_len hB hk
  have e : (clausesZ is (k : Int))[j]? = some (is.getD (k + (j + 1)) default) := by
    unfold clausesZ
    rw [Int.toNat_natCast, hB, Int.toNat_natCast, List.getElem?_take_of_lt hj, List.getElem?_drop, List.getD_eq_getElem?_getD, show k + 1 + j = k + (j + 1) by omega, List.getElem?_eq_getElem (by omega)]
    rfl
  rw [List.take_add_one, e]
  rfl

def BoolP (b : Bool) (W : World) (e : Ending) (W' : World) : Prop := e = .returned (.bool b) ∧ Below W.heap.size W W'

set_option maxRecDepth 100000 in
set_option maxHeartbeats 8000000 in
theorem isTable_calls {Fb bc oc cc : Nat} {is : List In} {W : World} (hF : W.cell? ⟨Fb, 0, none⟩ = some (.slice (some ⟨bc, oc, none⟩) is.length cc)) (hin : InsAt W bc oc is) (hbc : bc < W.heap.size) (hcc : is.length ≤ cc) (hN : is.length ≤ 1500) (hall : ∀ i ∈ is, i.ok = true) (a : Int) (ha : 0 ≤ a) (ha1 : a ≤ 65535) :
    Calls Tryz.prog 65 #[.pointer (some ⟨Fb, 0, none⟩), .int .i64 a] W (BoolP (tableZ is a) W) := by
  have hFl := block_in0 hF
  have p0 : ∀ y : Later W.heap.size W, y.w.cell? ⟨Fb, 0, none⟩ = _ := fun y => y.cell hFl hF
  have HF := hid hF
  have HN := hid (And.intro hN hcc)
  have HIn := hid (And.intro hin hbc)
  by_cases t1 : (is.length : Int) ≤ a
  · have HT : Hid (tableZ is a = false) := by
      show _ = _
      unfold tableZ
      rw [decide_eq_false (by omega)]
      rfl
    have t1d : decide ((is.length : Int) ≤ a) = true := decide_eq_true t1
    clear hF hin hbc hcc hN hall ha ha1 hFl
    go_enter Tryz.func65, Tryz.ntmps65
    go_wp2_with fail
    refine wp_region_calm W.heap.size (by kernel_rfl) (by kernel_rfl) ?_
    repeat (go_big_quiet_step (fail))
    refine wpQuiet_nil ?_
    rintro w5 ⟨y, rfl⟩
    have HY := hid y.h
    generalize y.w = W1 at *
    go_wp2_with fail
    go_ret
    refine ⟨?_, HY.out⟩
    rw [HT.out]
    rfl
  obtain ⟨k, rfl⟩ : ∃ k : Nat, a = (k : Int) := ⟨a.toNat, by omega⟩
  have hk : k < is.length := by omega
  have hok := all_ok hall hk
  have c0 := hin k hk 0 (by omega)
  have c2 := hin k hk 2 (by omega)
  obtain ⟨i, hi⟩ : ∃ i, is.getD k default = i := ⟨_, rfl⟩
  rw [hi] at c0 c2 hok
  obtain ⟨op, a1, b1, c1v⟩ := i
  simp only [In.cell, Nat.add_zero] at c0 c2
  have p1 : ∀ y : Later W.heap.size W, y.w.cell? ⟨bc, oc + k * 4, none⟩ = _ := fun y => y.cell hbc c0
  have p2 : ∀ y : Later W.heap.size W, y.w.cell? ⟨bc, oc + k * 4 + 2, none⟩ = _ := fun y => y.cell hbc c2
  have HI := hid hi
  have HOk := hid hok
  have HC2 := hid c2
  have HTb : Hid (tableZ is (k : Int) = (decide ((k : Int) < (is.length : Int)) && (decide (op = 24) && (decide (b1 ≤ 4) && (decide (b1 < (is.length : Int) - k) && (clausesZ is k).all (fun i => decide (i.op = 25))))))) := by
    show _ = _
    unfold tableZ
    rw [Int.toNat_natCast, hi]
  have q1 : (0 : Int) ≤ (k : Int) := by omega
  have t1d : decide ((is.length : Int) ≤ (k : Int)) = false := decide_eq_false t1
  have t1n : decide (is.length ≤ k) = false := decide_eq_false (by omega)
  have hws : wrap64 ((is.length : Int) - (k : Int)) = (is.length : Int) - k := by rw [wrap64]; omega
  clear hF hin hbc hcc hN hall ha ha1 hFl c0 c2 hi hok t1
  have t1 : (k : Int) < (is.length : Int) := by omega
  by_cases t2 : op = 24
  case neg =>
    have HT : Hid (tableZ is (k : Int) = false) := by
      show _ = _
      rw [HTb.out, decide_eq_false t2]
      simp
    have t2' : (op != 24) = true := by simp [t2]
    clear t2
    go_enter Tryz.func65, Tryz.ntmps65
    go_wp2_with fail
    refine wp_region_calm W.heap.size (by kernel_rfl) (by kernel_rfl) ?_
    repeat (go_big_quiet_step (fail))
    refine wpQuiet_nil ?_
    rintro w5 ⟨y, rfl⟩
    have HY := hid y.h
    generalize y.w = W1 at *
    go_wp2_with fail
    go_ret
    refine ⟨?_, HY.out⟩
    rw [HT.out]
    rfl
  subst t2
  have t2' : ((24 : Int) != 24) = false := rfl
  have hb1 : 0 ≤ b1 ∧ b1 ≤ 65535 := by
    have := ok_nums HOk.out (by dsimp only; decide) (by dsimp only; decide) (by dsimp only; decide)
    exact ⟨this.2.2.1, this.2.2.2.1⟩
  have HB1 := hid hb1
  clear hb1
  by_cases t3 : 4 < b1
  · have t3d : decide (4 < b1) = true := decide_eq_true t3
    have HT : Hid (tableZ is (k : Int) = false) := by
      show _ = _
      rw [HTb.out, decide_eq_false (show ¬ b1 ≤ 4 by omega)]
      simp
    go_enter Tryz.func65, Tryz.ntmps65
    go_wp2_with fail
    refine wp_region_calm W.heap.size (by kernel_rfl) (by kernel_rfl) ?_
    repeat (go_big_quiet_step (fail))
    refine wpQuiet_nil ?_
    rintro w5 ⟨y, rfl⟩
    have HY := hid y.h
    generalize y.w = W1 at *
    go_wp2_with fail
    go_ret
    refine ⟨?_, HY.out⟩
    rw [HT.out]
    rfl
  have t3d : decide (4 < b1) = false := decide_eq_false t3
  by_cases t4 : (is.length : Int) - k ≤ b1
  · have t4d : decide ((is.length : Int) - (k : Int) ≤ b1) = true := decide_eq_true t4
    have HT : Hid (tableZ is (k : Int) = false) := by
      show _ = _
      rw [HTb.out, decide_eq_false (show ¬ b1 < (is.length : Int) - k by omega)]
      simp
    go_enter Tryz.func65, Tryz.ntmps65
    go_wp2_with fail
    refine wp_region_calm W.heap.size (by kernel_rfl) (by kernel_rfl) ?_
    repeat (go_big_quiet_step (fail))
    refine wpQuiet_nil ?_
    rintro w5 ⟨y, rfl⟩
    have HY := hid y.h
    generalize y.w = W1 at *
    go_wp2_with fail
    go_ret
    refine ⟨?_, HY.out⟩
    rw [HT.out]
    rfl
  have t4d : decide ((is.length : Int) - (k : Int) ≤ b1) = false := decide_eq_false t4
  obtain ⟨B, hBz⟩ : ∃ B : Nat, b1 = (B : Int) := ⟨b1.toNat, by have := HB1.out; omega⟩
  have HBk : Hid (b1 = (B : Int) ∧ k + B < is.length ∧ B ≤ 4) := ⟨hBz, by omega, by omega⟩
  clear hBz t3 t4
  go_enter Tryz.func65, Tryz.ntmps65
  go_wp2_with fail
  refine wp_region_calm W.heap.size (by kernel_rfl) (by kernel_rfl) ?_
  repeat (go_big_quiet_step (fail))
  refine wpQuiet_nil ?_
  rintro w5 ⟨y, rfl⟩
  have HY := hid y.h
  generalize y.w = W1 at *
  have hF1 := (HY.out.cell (block_in0 HF.out)).trans HF.out
  have hin1 := HIn.out.1.below HY.out HIn.out.2
  have hc21 := (HY.out.cell (block_in0 HC2.out)).trans HC2.out
  rw [HBk.out.1] at hc21
  have HCl := hid (tabClauses_calls hF1 hc21 HBk.out.2.1 HN.out.2 HN.out.1)
  clear p0 p1 p2 hF1 hc21
  have HIn1 := hid hin1
  clear hin1
  go_wp2_with fail
  refine HCl.out.mono ?_
  rintro e W2 ⟨ad, cp, rfl, had, hb2⟩
  have HAd := hid had
  have HY2 := hid (HY.out.trans (hb2.mono HY.out.size))
  have HIn2 := hid (HIn1.out.below hb2 (Nat.lt_of_lt_of_le HIn.out.2 HY.out.size))
  clear had hb2 HCl HIn1
  go_wp2_with fail
  have HL : Hid (∀ j, j < B → (clausesZ is (k : Int)).take (j + 1) = (clausesZ is (k : Int)).take j ++ [is.getD (k + (j + 1)) default]) := fun j hj => linesI_next (by rw [HI.out]; exact HBk.out.1) HBk.out.2.1 hj
  have HLl : Hid ((clausesZ is (k : Int)).length = B) := linesI_len (by rw [HI.out]; exact HBk.out.1) HBk.out.2.1
  go_loopw [58] (fun i wr => ∃ (j : Nat), i = .int .i64 (j : Int) ∧ j ≤ B ∧ Hid (Below W2.heap.size W2 wr) ∧ Hid (∀ c ∈ (clausesZ is (k : Int)).take j, c.op = 25)) (fun i _ => B - (intOf i).toNat)
  case atStart => exact ⟨0, rfl, Nat.zero_le _, Below.refl _ _, fun c hc => absurd hc (by simp)⟩
  case round =>
    obtain ⟨j, rfl, hj, HBr, HAr⟩ := hrel
    by_cases hlt : (j : Int) < (B : Int)
    · have hjB : j < B := by omega
      have hkj : k + (j + 1) < is.length := by have := HBk.out; omega
      have hinW := HIn2.out.below HBr.out (Nat.lt_of_lt_of_le HIn.out.2 HY2.out.size)
      have f0 := hinW (k + (j + 1)) hkj 0 (by omega)
      have f1 := hinW (k + (j + 1)) hkj 1 (by omega)
      have f2 := hinW (k + (j + 1)) hkj 2 (by omega)
      have f3 := hinW (k + (j + 1)) hkj 3 (by omega)
      have hnx := HL.out j hjB
      have hmem : is.getD (k + (j + 1)) default ∈ clausesZ is (k : Int) := by
        have h1 : is.getD (k + (j + 1)) default ∈ (clausesZ is (k : Int)).take (j + 1) := by rw [hnx]; simp
        exact List.mem_of_mem_take h1
      obtain ⟨⟨fop, fa, fb, fc⟩, hf⟩ : ∃ i, is.getD (k + (j + 1)) default = i := ⟨_, rfl⟩
      rw [hf] at f0 f1 f2 f3 hnx hmem
      have eo : oc + (k + (j + 1)) * 4 = oc + (k + 1) * 4 + j * 4 := by omega
      rw [eo] at f0 f1 f2 f3
      simp only [In.cell, Nat.add_zero] at f0 f1 f2 f3
      have had := HAd.out (by omega)
      subst had
      have hj0 : (0 : Int) ≤ (j : Int) := by omega
      have hst : B - (intOf (.int .i64 ((j + 1 : Nat) : Int))).toNat < B - (intOf (.int .i64 (j : Int))).toNat := by simp only [intOf, Int.toNat_natCast]; omega
      have HNx := hid hnx
      have HMm := hid hmem
      have HSt := hid hst
      have HJB := hid hjB
      obtain ⟨off, hoff⟩ : ∃ off, oc + (k + 1) * 4 = off := ⟨_, rfl⟩
      rw [hoff] at f0 f1 f2 f3 ⊢
      clear hnx hmem hf hinW hst eo hkj hjB hj hoff
      by_cases hop : fop = 25
      case neg =>
        have hop' : (fop != 25) = true := by simp [hop]
        have HT : Hid (tableZ is (k : Int) = false) := by
          show _ = _
          rw [HTb.out]
          have : (clausesZ is (k : Int)).all (fun i => decide (i.op = 25)) = false := by
            rw [Bool.eq_false_iff]
            intro he
            exact hop (of_decide_eq_true (List.all_eq_true.1 he _ HMm.out))
          rw [this]
          simp
        clear hop
        go_wp2_with fail
        go_ret
        refine ⟨?_, (HY2.out.trans (HBr.out.mono HY2.out.size)).alloc (by have := HY2.out.size; have := HBr.out.size; omega) _⟩
        rw [HT.out]
        rfl
      subst hop
      go_wp2_with fail
      try rw [wrap_inc HJB.out (by have := HBk.out; omega)]
      refine ⟨⟨j + 1, rfl, HJB.out, HBr.out.alloc HBr.out.size _, fun c hc => ?_⟩, HSt.out⟩
      rw [HNx.out, List.mem_append, List.mem_singleton] at hc
      rcases hc with hc | rfl
      · exact HAr.out c hc
      · rfl
    · have hjB : j = B := by omega
      have HT : Hid (tableZ is (k : Int) = true) := by
        show _ = _
        rw [HTb.out]
        have h1 := HBk.out
        have h2 : (clausesZ is (k : Int)).all (fun i => decide (i.op = 25)) = true := List.all_eq_true.2 (fun c hc => decide_eq_true (HAr.out c (by rw [hjB, List.take_of_length_le (by rw [HLl.out]; exact Nat.le_refl _)]; exact hc)))
        rw [h2, decide_eq_true (show (k : Int) < (is.length : Int) by omega), decide_eq_true (show b1 ≤ 4 by omega), decide_eq_true (show b1 < (is.length : Int) - k by omega)]
        rfl
      clear hjB hj
      go_wp2_with fail
      go_ret
      refine ⟨?_, HY2.out.trans (HBr.out.mono HY2.out.size)⟩
      rw [HT.out]
      rfl
end Go.Proofs.YtfmkgppkgmjpfaaGreatDoor

/- Does an instruction have what it needs: the program's answer, instruction by instruction. -/
namespace Go.Proofs.YtfmkgppkgmjpfaaGreatDoor
open Go.RowKit Go.Conc

theorem two_boxesN (W : World) (o o' : Obj) : Below W.heap.size W ((W.alloc o).alloc o') := ((Below.refl _ _).alloc (Nat.le_refl _) _).alloc (by simp) _

set_option maxRecDepth 100000 in
theorem needs_0 (is : List In) (Fb : Nat) (a b c n v p : Int) (W : World) :
    Calls Tryz.prog 35 #[.pointer (some ⟨Fb, 0, none⟩), .agg #[.int .i64 0, .int .i64 a, .int .i64 b, .int .i64 c], .agg #[.int .i64 n, .int .i64 v, .int .i64 p]] W (BoolP (needsZ is ⟨0, a, b, c⟩ ⟨n, v, p⟩) W) := by
  have hz : needsZ is ⟨0, a, b, c⟩ ⟨n, v, p⟩ = decide (v = 1 ∧ p = 1) := by simp [needsZ]
  rw [hz]
  clear hz
  by_cases h1 : v = 1
  · subst h1
    by_cases h2 : p = 1
    · subst h2
      go_enter Tryz.func35, Tryz.ntmps35
      go_wp2_with fail
      go_ret
      exact ⟨rfl, two_boxesN _ _ _⟩
    · have h2' : (p == 1) = false := by simp [h2]
      rw [decide_eq_false (fun h => h2 h.2)]
      clear h2
      go_enter Tryz.func35, Tryz.ntmps35
      go_wp2_with fail
      go_ret
      exact ⟨rfl, two_boxesN _ _ _⟩
  · have h1' : (v == 1) = false := by simp [h1]
    rw [decide_eq_false (fun h => h1 h.1)]
    clear h1
    go_enter Tryz.func35, Tryz.ntmps35
    go_wp2_with fail
    go_ret
    exact ⟨rfl, two_boxesN _ _ _⟩

set_option maxRecDepth 100000 in
theorem needs_1 (is : List In) (Fb : Nat) (a b c n v p : Int) (W : World) :
    Calls Tryz.prog 35 #[.pointer (some ⟨Fb, 0, none⟩), .agg #[.int .i64 1, .int .i64 a, .int .i64 b, .int .i64 c], .agg #[.int .i64 n, .int .i64 v, .int .i64 p]] W (BoolP (needsZ is ⟨1, a, b, c⟩ ⟨n, v, p⟩) W) := by
  have hz : needsZ is ⟨1, a, b, c⟩ ⟨n, v, p⟩ = true := by simp [needsZ]
  rw [hz]
  clear hz
  go_enter Tryz.func35, Tryz.ntmps35
  go_wp2_with fail
  go_ret
  exact ⟨rfl, two_boxesN _ _ _⟩

set_option maxRecDepth 100000 in
theorem needs_2 (is : List In) (Fb : Nat) (a b c n v p : Int) (W : World) :
    Calls Tryz.prog 35 #[.pointer (some ⟨Fb, 0, none⟩), .agg #[.int .i64 2, .int .i64 a, .int .i64 b, .int .i64 c], .agg #[.int .i64 n, .int .i64 v, .int .i64 p]] W (BoolP (needsZ is ⟨2, a, b, c⟩ ⟨n, v, p⟩) W) := by
  have hz : needsZ is ⟨2, a, b, c⟩ ⟨n, v, p⟩ = true := by simp [needsZ]
  rw [hz]
  clear hz
  go_enter Tryz.func35, Tryz.ntmps35
  go_wp2_with fail
  go_ret
  exact ⟨rfl, two_boxesN _ _ _⟩

set_option maxRecDepth 100000 in
theorem needs_3 (is : List In) (Fb : Nat) (a b c n v p : Int) (W : World) :
    Calls Tryz.prog 35 #[.pointer (some ⟨Fb, 0, none⟩), .agg #[.int .i64 3, .int .i64 a, .int .i64 b, .int .i64 c], .agg #[.int .i64 n, .int .i64 v, .int .i64 p]] W (BoolP (needsZ is ⟨3, a, b, c⟩ ⟨n, v, p⟩) W) := by
  have hz : needsZ is ⟨3, a, b, c⟩ ⟨n, v, p⟩ = true := by simp [needsZ]
  rw [hz]
  clear hz
  go_enter Tryz.func35, Tryz.ntmps35
  go_wp2_with fail
  go_ret
  exact ⟨rfl, two_boxesN _ _ _⟩

set_option maxRecDepth 100000 in
theorem needs_4 (is : List In) (Fb : Nat) (a b c n v p : Int) (W : World) :
    Calls Tryz.prog 35 #[.pointer (some ⟨Fb, 0, none⟩), .agg #[.int .i64 4, .int .i64 a, .int .i64 b, .int .i64 c], .agg #[.int .i64 n, .int .i64 v, .int .i64 p]] W (BoolP (needsZ is ⟨4, a, b, c⟩ ⟨n, v, p⟩) W) := by
  have hz : needsZ is ⟨4, a, b, c⟩ ⟨n, v, p⟩ = true := by simp [needsZ]
  rw [hz]
  clear hz
  go_enter Tryz.func35, Tryz.ntmps35
  go_wp2_with fail
  go_ret
  exact ⟨rfl, two_boxesN _ _ _⟩

set_option maxRecDepth 100000 in
theorem needs_5 (is : List In) (Fb : Nat) (a b c n v p : Int) (W : World) :
    Calls Tryz.prog 35 #[.pointer (some ⟨Fb, 0, none⟩), .agg #[.int .i64 5, .int .i64 a, .int .i64 b, .int .i64 c], .agg #[.int .i64 n, .int .i64 v, .int .i64 p]] W (BoolP (needsZ is ⟨5, a, b, c⟩ ⟨n, v, p⟩) W) := by
  have hz : needsZ is ⟨5, a, b, c⟩ ⟨n, v, p⟩ = decide (a < n) := by simp [needsZ]
  rw [hz]
  clear hz
  go_enter Tryz.func35, Tryz.ntmps35
  go_wp2_with fail
  go_ret
  exact ⟨rfl, two_boxesN _ _ _⟩

set_option maxRecDepth 100000 in
theorem needs_6 (is : List In) (Fb : Nat) (a b c n v p : Int) (W : World) :
    Calls Tryz.prog 35 #[.pointer (some ⟨Fb, 0, none⟩), .agg #[.int .i64 6, .int .i64 a, .int .i64 b, .int .i64 c], .agg #[.int .i64 n, .int .i64 v, .int .i64 p]] W (BoolP (needsZ is ⟨6, a, b, c⟩ ⟨n, v, p⟩) W) := by
  have hz : needsZ is ⟨6, a, b, c⟩ ⟨n, v, p⟩ = true := by simp [needsZ]
  rw [hz]
  clear hz
  go_enter Tryz.func35, Tryz.ntmps35
  go_wp2_with fail
  go_ret
  exact ⟨rfl, two_boxesN _ _ _⟩

set_option maxRecDepth 100000 in
theorem needs_7 (is : List In) (Fb : Nat) (a b c n v p : Int) (W : World) :
    Calls Tryz.prog 35 #[.pointer (some ⟨Fb, 0, none⟩), .agg #[.int .i64 7, .int .i64 a, .int .i64 b, .int .i64 c], .agg #[.int .i64 n, .int .i64 v, .int .i64 p]] W (BoolP (needsZ is ⟨7, a, b, c⟩ ⟨n, v, p⟩) W) := by
  have hz : needsZ is ⟨7, a, b, c⟩ ⟨n, v, p⟩ = true := by simp [needsZ]
  rw [hz]
  clear hz
  go_enter Tryz.func35, Tryz.ntmps35
  go_wp2_with fail
  go_ret
  exact ⟨rfl, two_boxesN _ _ _⟩

set_option maxRecDepth 100000 in
theorem needs_8 (is : List In) (Fb : Nat) (a b c n v p : Int) (W : World) :
    Calls Tryz.prog 35 #[.pointer (some ⟨Fb, 0, none⟩), .agg #[.int .i64 8, .int .i64 a, .int .i64 b, .int .i64 c], .agg #[.int .i64 n, .int .i64 v, .int .i64 p]] W (BoolP (needsZ is ⟨8, a, b, c⟩ ⟨n, v, p⟩) W) := by
  have hz : needsZ is ⟨8, a, b, c⟩ ⟨n, v, p⟩ = decide (2 ≤ v) := by simp [needsZ]
  rw [hz]
  clear hz
  go_enter Tryz.func35, Tryz.ntmps35
  go_wp2_with fail
  go_ret
  exact ⟨rfl, two_boxesN _ _ _⟩

set_option maxRecDepth 100000 in
theorem needs_9 (is : List In) (Fb : Nat) (a b c n v p : Int) (W : World) :
    Calls Tryz.prog 35 #[.pointer (some ⟨Fb, 0, none⟩), .agg #[.int .i64 9, .int .i64 a, .int .i64 b, .int .i64 c], .agg #[.int .i64 n, .int .i64 v, .int .i64 p]] W (BoolP (needsZ is ⟨9, a, b, c⟩ ⟨n, v, p⟩) W) := by
  have hz : needsZ is ⟨9, a, b, c⟩ ⟨n, v, p⟩ = decide (v = 1 ∧ p = 2) := by simp [needsZ]
  rw [hz]
  clear hz
  by_cases h1 : v = 1
  · subst h1
    by_cases h2 : p = 2
    · subst h2
      go_enter Tryz.func35, Tryz.ntmps35
      go_wp2_with fail
      go_ret
      exact ⟨rfl, two_boxesN _ _ _⟩
    · have h2' : (p == 2) = false := by simp [h2]
      rw [decide_eq_false (fun h => h2 h.2)]
      clear h2
      go_enter Tryz.func35, Tryz.ntmps35
      go_wp2_with fail
      go_ret
      exact ⟨rfl, two_boxesN _ _ _⟩
  · have h1' : (v == 1) = false := by simp [h1]
    rw [decide_eq_false (fun h => h1 h.1)]
    clear h1
    go_enter Tryz.func35, Tryz.ntmps35
    go_wp2_with fail
    go_ret
    exact ⟨rfl, two_boxesN _ _ _⟩

set_option maxRecDepth 100000 in
theorem needs_10 (is : List In) (Fb : Nat) (a b c n v p : Int) (W : World) :
    Calls Tryz.prog 35 #[.pointer (some ⟨Fb, 0, none⟩), .agg #[.int .i64 10, .int .i64 a, .int .i64 b, .int .i64 c], .agg #[.int .i64 n, .int .i64 v, .int .i64 p]] W (BoolP (needsZ is ⟨10, a, b, c⟩ ⟨n, v, p⟩) W) := by
  have hz : needsZ is ⟨10, a, b, c⟩ ⟨n, v, p⟩ = decide (1 ≤ v) := by simp [needsZ]
  rw [hz]
  clear hz
  go_enter Tryz.func35, Tryz.ntmps35
  go_wp2_with fail
  go_ret
  exact ⟨rfl, two_boxesN _ _ _⟩

set_option maxRecDepth 100000 in
theorem needs_11 (is : List In) (Fb : Nat) (a b c n v p : Int) (W : World) :
    Calls Tryz.prog 35 #[.pointer (some ⟨Fb, 0, none⟩), .agg #[.int .i64 11, .int .i64 a, .int .i64 b, .int .i64 c], .agg #[.int .i64 n, .int .i64 v, .int .i64 p]] W (BoolP (needsZ is ⟨11, a, b, c⟩ ⟨n, v, p⟩) W) := by
  have hz : needsZ is ⟨11, a, b, c⟩ ⟨n, v, p⟩ = true := by simp [needsZ]
  rw [hz]
  clear hz
  go_enter Tryz.func35, Tryz.ntmps35
  go_wp2_with fail
  go_ret
  exact ⟨rfl, two_boxesN _ _ _⟩

set_option maxRecDepth 100000 in
theorem needs_12 (is : List In) (Fb : Nat) (a b c n v p : Int) (W : World) :
    Calls Tryz.prog 35 #[.pointer (some ⟨Fb, 0, none⟩), .agg #[.int .i64 12, .int .i64 a, .int .i64 b, .int .i64 c], .agg #[.int .i64 n, .int .i64 v, .int .i64 p]] W (BoolP (needsZ is ⟨12, a, b, c⟩ ⟨n, v, p⟩) W) := by
  have hz : needsZ is ⟨12, a, b, c⟩ ⟨n, v, p⟩ = decide (1 ≤ v) := by simp [needsZ]
  rw [hz]
  clear hz
  go_enter Tryz.func35, Tryz.ntmps35
  go_wp2_with fail
  go_ret
  exact ⟨rfl, two_boxesN _ _ _⟩

set_option maxRecDepth 100000 in
theorem needs_13 (is : List In) (Fb : Nat) (a b c n v p : Int) (W : World) :
    Calls Tryz.prog 35 #[.pointer (some ⟨Fb, 0, none⟩), .agg #[.int .i64 13, .int .i64 a, .int .i64 b, .int .i64 c], .agg #[.int .i64 n, .int .i64 v, .int .i64 p]] W (BoolP (needsZ is ⟨13, a, b, c⟩ ⟨n, v, p⟩) W) := by
  have hz : needsZ is ⟨13, a, b, c⟩ ⟨n, v, p⟩ = decide (1 ≤ n) := by simp [needsZ]
  rw [hz]
  clear hz
  go_enter Tryz.func35, Tryz.ntmps35
  go_wp2_with fail
  go_ret
  exact ⟨rfl, two_boxesN _ _ _⟩

set_option maxRecDepth 100000 in
theorem needs_14 (is : List In) (Fb : Nat) (a b c n v p : Int) (W : World) :
    Calls Tryz.prog 35 #[.pointer (some ⟨Fb, 0, none⟩), .agg #[.int .i64 14, .int .i64 a, .int .i64 b, .int .i64 c], .agg #[.int .i64 n, .int .i64 v, .int .i64 p]] W (BoolP (needsZ is ⟨14, a, b, c⟩ ⟨n, v, p⟩) W) := by
  have hz : needsZ is ⟨14, a, b, c⟩ ⟨n, v, p⟩ = decide (2 ≤ v) := by simp [needsZ]
  rw [hz]
  clear hz
  go_enter Tryz.func35, Tryz.ntmps35
  go_wp2_with fail
  go_ret
  exact ⟨rfl, two_boxesN _ _ _⟩

set_option maxRecDepth 100000 in
theorem needs_15 (is : List In) (Fb : Nat) (a b c n v p : Int) (W : World) :
    Calls Tryz.prog 35 #[.pointer (some ⟨Fb, 0, none⟩), .agg #[.int .i64 15, .int .i64 a, .int .i64 b, .int .i64 c], .agg #[.int .i64 n, .int .i64 v, .int .i64 p]] W (BoolP (needsZ is ⟨15, a, b, c⟩ ⟨n, v, p⟩) W) := by
  have hz : needsZ is ⟨15, a, b, c⟩ ⟨n, v, p⟩ = decide (2 ≤ v) := by simp [needsZ]
  rw [hz]
  clear hz
  go_enter Tryz.func35, Tryz.ntmps35
  go_wp2_with fail
  go_ret
  exact ⟨rfl, two_boxesN _ _ _⟩

set_option maxRecDepth 100000 in
theorem needs_16 (is : List In) (Fb : Nat) (a b c n v p : Int) (W : World) :
    Calls Tryz.prog 35 #[.pointer (some ⟨Fb, 0, none⟩), .agg #[.int .i64 16, .int .i64 a, .int .i64 b, .int .i64 c], .agg #[.int .i64 n, .int .i64 v, .int .i64 p]] W (BoolP (needsZ is ⟨16, a, b, c⟩ ⟨n, v, p⟩) W) := by
  have hz : needsZ is ⟨16, a, b, c⟩ ⟨n, v, p⟩ = decide (1 ≤ v) := by simp [needsZ]
  rw [hz]
  clear hz
  go_enter Tryz.func35, Tryz.ntmps35
  go_wp2_with fail
  go_ret
  exact ⟨rfl, two_boxesN _ _ _⟩

set_option maxRecDepth 100000 in
theorem needs_17 (is : List In) (Fb : Nat) (a b c n v p : Int) (W : World) :
    Calls Tryz.prog 35 #[.pointer (some ⟨Fb, 0, none⟩), .agg #[.int .i64 17, .int .i64 a, .int .i64 b, .int .i64 c], .agg #[.int .i64 n, .int .i64 v, .int .i64 p]] W (BoolP (needsZ is ⟨17, a, b, c⟩ ⟨n, v, p⟩) W) := by
  have hz : needsZ is ⟨17, a, b, c⟩ ⟨n, v, p⟩ = decide (1 ≤ v) := by simp [needsZ]
  rw [hz]
  clear hz
  go_enter Tryz.func35, Tryz.ntmps35
  go_wp2_with fail
  go_ret
  exact ⟨rfl, two_boxesN _ _ _⟩

set_option maxRecDepth 100000 in
theorem needs_18 (is : List In) (Fb : Nat) (a b c n v p : Int) (W : World) :
    Calls Tryz.prog 35 #[.pointer (some ⟨Fb, 0, none⟩), .agg #[.int .i64 18, .int .i64 a, .int .i64 b, .int .i64 c], .agg #[.int .i64 n, .int .i64 v, .int .i64 p]] W (BoolP (needsZ is ⟨18, a, b, c⟩ ⟨n, v, p⟩) W) := by
  have hz : needsZ is ⟨18, a, b, c⟩ ⟨n, v, p⟩ = decide (2 ≤ v) := by simp [needsZ]
  rw [hz]
  clear hz
  go_enter Tryz.func35, Tryz.ntmps35
  go_wp2_with fail
  go_ret
  exact ⟨rfl, two_boxesN _ _ _⟩

set_option maxRecDepth 100000 in
theorem needs_19 (is : List In) (Fb : Nat) (a b c n v p : Int) (W : World) :
    Calls Tryz.prog 35 #[.pointer (some ⟨Fb, 0, none⟩), .agg #[.int .i64 19, .int .i64 a, .int .i64 b, .int .i64 c], .agg #[.int .i64 n, .int .i64 v, .int .i64 p]] W (BoolP (needsZ is ⟨19, a, b, c⟩ ⟨n, v, p⟩) W) := by
  have hz : needsZ is ⟨19, a, b, c⟩ ⟨n, v, p⟩ = decide (1 ≤ v) := by simp [needsZ]
  rw [hz]
  clear hz
  go_enter Tryz.func35, Tryz.ntmps35
  go_wp2_with fail
  go_ret
  exact ⟨rfl, two_boxesN _ _ _⟩

set_option maxRecDepth 100000 in
theorem needs_20 (is : List In) (Fb : Nat) (a b c n v p : Int) (W : World) :
    Calls Tryz.prog 35 #[.pointer (some ⟨Fb, 0, none⟩), .agg #[.int .i64 20, .int .i64 a, .int .i64 b, .int .i64 c], .agg #[.int .i64 n, .int .i64 v, .int .i64 p]] W (BoolP (needsZ is ⟨20, a, b, c⟩ ⟨n, v, p⟩) W) := by
  have hz : needsZ is ⟨20, a, b, c⟩ ⟨n, v, p⟩ = decide (1 ≤ v) := by simp [needsZ]
  rw [hz]
  clear hz
  go_enter Tryz.func35, Tryz.ntmps35
  go_wp2_with fail
  go_ret
  exact ⟨rfl, two_boxesN _ _ _⟩

set_option maxRecDepth 100000 in
theorem needs_21 (is : List In) (Fb : Nat) (a b c n v p : Int) (W : World) (hT : ∀ X, Below W.heap.size W X → Calls Tryz.prog 65 #[.pointer (some ⟨Fb, 0, none⟩), .int .i64 a] X (BoolP (tableZ is a) X)) :
    Calls Tryz.prog 35 #[.pointer (some ⟨Fb, 0, none⟩), .agg #[.int .i64 21, .int .i64 a, .int .i64 b, .int .i64 c], .agg #[.int .i64 n, .int .i64 v, .int .i64 p]] W (BoolP (needsZ is ⟨21, a, b, c⟩ ⟨n, v, p⟩) W) := by
  have hz : needsZ is ⟨21, a, b, c⟩ ⟨n, v, p⟩ = tableZ is a := by simp [needsZ]
  rw [hz]
  have HT := hid hT
  clear hT hz
  go_enter Tryz.func35, Tryz.ntmps35
  go_wp2_with fail
  refine (HT.out _ (two_boxesN _ _ _)).mono ?_
  rintro e X ⟨rfl, hb⟩
  have HB := hid ((two_boxesN W _ _).trans (hb.mono (two_boxesN W _ _).size))
  clear hb
  go_wp2_with fail
  go_ret
  exact ⟨rfl, HB.out⟩

set_option maxRecDepth 100000 in
theorem needs_22 (is : List In) (Fb : Nat) (a b c n v p : Int) (W : World) :
    Calls Tryz.prog 35 #[.pointer (some ⟨Fb, 0, none⟩), .agg #[.int .i64 22, .int .i64 a, .int .i64 b, .int .i64 c], .agg #[.int .i64 n, .int .i64 v, .int .i64 p]] W (BoolP (needsZ is ⟨22, a, b, c⟩ ⟨n, v, p⟩) W) := by
  have hz : needsZ is ⟨22, a, b, c⟩ ⟨n, v, p⟩ = decide (1 ≤ v) := by simp [needsZ]
  rw [hz]
  clear hz
  go_enter Tryz.func35, Tryz.ntmps35
  go_wp2_with fail
  go_ret
  exact ⟨rfl, two_boxesN _ _ _⟩

set_option maxRecDepth 100000 in
theorem needs_23 (is : List In) (Fb : Nat) (a b c n v p : Int) (W : World) :
    Calls Tryz.prog 35 #[.pointer (some ⟨Fb, 0, none⟩), .agg #[.int .i64 23, .int .i64 a, .int .i64 b, .int .i64 c], .agg #[.int .i64 n, .int .i64 v, .int .i64 p]] W (BoolP (needsZ is ⟨23, a, b, c⟩ ⟨n, v, p⟩) W) := by
  have hz : needsZ is ⟨23, a, b, c⟩ ⟨n, v, p⟩ = decide (v = 1 ∧ p = 3) := by simp [needsZ]
  rw [hz]
  clear hz
  by_cases h1 : v = 1
  · subst h1
    by_cases h2 : p = 3
    · subst h2
      go_enter Tryz.func35, Tryz.ntmps35
      go_wp2_with fail
      go_ret
      exact ⟨rfl, two_boxesN _ _ _⟩
    · have h2' : (p == 3) = false := by simp [h2]
      rw [decide_eq_false (fun h => h2 h.2)]
      clear h2
      go_enter Tryz.func35, Tryz.ntmps35
      go_wp2_with fail
      go_ret
      exact ⟨rfl, two_boxesN _ _ _⟩
  · have h1' : (v == 1) = false := by simp [h1]
    rw [decide_eq_false (fun h => h1 h.1)]
    clear h1
    go_enter Tryz.func35, Tryz.ntmps35
    go_wp2_with fail
    go_ret
    exact ⟨rfl, two_boxesN _ _ _⟩

set_option maxRecDepth 100000 in
theorem needs_24 (is : List In) (Fb : Nat) (a b c n v p : Int) (W : World) :
    Calls Tryz.prog 35 #[.pointer (some ⟨Fb, 0, none⟩), .agg #[.int .i64 24, .int .i64 a, .int .i64 b, .int .i64 c], .agg #[.int .i64 n, .int .i64 v, .int .i64 p]] W (BoolP (needsZ is ⟨24, a, b, c⟩ ⟨n, v, p⟩) W) := by
  have hz : needsZ is ⟨24, a, b, c⟩ ⟨n, v, p⟩ = false := by simp [needsZ]
  rw [hz]
  clear hz
  go_enter Tryz.func35, Tryz.ntmps35
  go_wp2_with fail
  go_ret
  exact ⟨rfl, two_boxesN _ _ _⟩

set_option maxRecDepth 100000 in
theorem needs_25 (is : List In) (Fb : Nat) (a b c n v p : Int) (W : World) :
    Calls Tryz.prog 35 #[.pointer (some ⟨Fb, 0, none⟩), .agg #[.int .i64 25, .int .i64 a, .int .i64 b, .int .i64 c], .agg #[.int .i64 n, .int .i64 v, .int .i64 p]] W (BoolP (needsZ is ⟨25, a, b, c⟩ ⟨n, v, p⟩) W) := by
  have hz : needsZ is ⟨25, a, b, c⟩ ⟨n, v, p⟩ = false := by simp [needsZ]
  rw [hz]
  clear hz
  go_enter Tryz.func35, Tryz.ntmps35
  go_wp2_with fail
  go_ret
  exact ⟨rfl, two_boxesN _ _ _⟩

theorem needs_calls {Fb bc oc cc : Nat} {is : List In} {W : World} (hF : W.cell? ⟨Fb, 0, none⟩ = some (.slice (some ⟨bc, oc, none⟩) is.length cc)) (hin : InsAt W bc oc is) (hbc : bc < W.heap.size) (hcc : is.length ≤ cc) (hN : is.length ≤ 1500) (hall : ∀ i ∈ is, i.ok = true) (i : In) (hi : i.ok = true) (s : Sq) :
    Calls Tryz.prog 35 #[.pointer (some ⟨Fb, 0, none⟩), .agg #[.int .i64 i.op, .int .i64 i.a, .int .i64 i.b, .int .i64 i.c], .agg #[.int .i64 s.n, .int .i64 s.v, .int .i64 s.p]] W (BoolP (needsZ is i s) W) := by
  obtain ⟨op, a, b, c⟩ := i
  obtain ⟨n, v, p⟩ := s
  have ho : 0 ≤ op ∧ op ≤ 25 := by
    unfold In.ok insOkZ at hi
    split at hi
    · cases hi
    · rename_i hn
      have h0 : ¬ manyZ op < 0 := fun e => hn (Or.inl e)
      unfold manyZ at h0
      repeat' split at h0
      all_goals omega
  dsimp only
  rcases ops_cases op with hz | hz
  · omega
  rcases hz with rfl | rfl | rfl | rfl | rfl | rfl | rfl | rfl | rfl | rfl | rfl | rfl | rfl | rfl | rfl | rfl | rfl | rfl | rfl | rfl | rfl | rfl | rfl | rfl | rfl | rfl
  · exact needs_0 is Fb a b c n v p W
  · exact needs_1 is Fb a b c n v p W
  · exact needs_2 is Fb a b c n v p W
  · exact needs_3 is Fb a b c n v p W
  · exact needs_4 is Fb a b c n v p W
  · exact needs_5 is Fb a b c n v p W
  · exact needs_6 is Fb a b c n v p W
  · exact needs_7 is Fb a b c n v p W
  · exact needs_8 is Fb a b c n v p W
  · exact needs_9 is Fb a b c n v p W
  · exact needs_10 is Fb a b c n v p W
  · exact needs_11 is Fb a b c n v p W
  · exact needs_12 is Fb a b c n v p W
  · exact needs_13 is Fb a b c n v p W
  · exact needs_14 is Fb a b c n v p W
  · exact needs_15 is Fb a b c n v p W
  · exact needs_16 is Fb a b c n v p W
  · exact needs_17 is Fb a b c n v p W
  · exact needs_18 is Fb a b c n v p W
  · exact needs_19 is Fb a b c n v p W
  · exact needs_20 is Fb a b c n v p W
  · have hn := ok_nums hi (by dsimp only; decide) (by dsimp only; decide) (by dsimp only; decide)
    exact needs_21 is Fb a b c n v p W (fun X hX => isTable_calls ((hX.cell (block_in0 hF)).trans hF) (hin.below hX hbc) (Nat.lt_of_lt_of_le hbc hX.size) hcc hN hall a hn.1 hn.2.1)
  · exact needs_22 is Fb a b c n v p W
  · exact needs_23 is Fb a b c n v p W
  · exact needs_24 is Fb a b c n v p W
  · exact needs_25 is Fb a b c n v p W
end Go.Proofs.YtfmkgppkgmjpfaaGreatDoor

/- What an instruction comes to: what is told, and the first region of the program's function. -/
namespace Go.Proofs.YtfmkgppkgmjpfaaGreatDoor
open Go.RowKit Go.Conc

/-- A row of exits. -/
def ExB (W : World) (g : Nat) (es : List (Int × Sq)) : Prop :=
  ∃ cur, W.heap[g]? = some (.cells cur 67) ∧ ∀ j, j < es.length → cur[j * 4]? = some (.int .i64 (es.getD j (0, ⟨0, 0, 0⟩)).1) ∧ cur[j * 4 + 1]? = some (.int .i64 (es.getD j (0, ⟨0, 0, 0⟩)).2.n) ∧ cur[j * 4 + 2]? = some (.int .i64 (es.getD j (0, ⟨0, 0, 0⟩)).2.v) ∧ cur[j * 4 + 3]? = some (.int .i64 (es.getD j (0, ⟨0, 0, 0⟩)).2.p)

/-- What is told of what an instruction comes to. -/
def ExitsP (es : List (Int × Sq)) (W : World) (e : Ending) (W' : World) : Prop :=
  Below W.heap.size W W' ∧ ∃ ad c, e = .returned (.slice ad es.length c) ∧ (es = [] ∨ ∃ g, ad = some ⟨g, 0, none⟩ ∧ ExB W' g es)

theorem exits_none {W W' : World} (hb : Below W.heap.size W W') : ExitsP [] W (.returned (.slice none 0 0)) W' := ⟨hb, none, 0, rfl, Or.inl rfl⟩

theorem exits_one {W X : World} {t n v p : Int} {e : Int × Sq} (hb : Below W.heap.size W X) (he : e = (t, ⟨n, v, p⟩)) : ExitsP [e] W (.returned (.slice (some ⟨X.heap.size, 0, none⟩) 1 1)) (X.alloc (.cells #[.int .i64 t, .int .i64 n, .int .i64 v, .int .i64 p] 67)) := by
  subst he
  refine ⟨hb.alloc hb.size _, _, 1, rfl, Or.inr ⟨_, rfl, _, (MapKept.heap_alloc X _).1, fun j hj => ?_⟩⟩
  obtain rfl : j = 0 := by simpa using hj
  exact ⟨rfl, rfl, rfl, rfl⟩

theorem exits_two {W X : World} {t n v p t' n' v' p' : Int} {e e' : Int × Sq} (hb : Below W.heap.size W X) (he : e = (t, ⟨n, v, p⟩)) (he' : e' = (t', ⟨n', v', p'⟩)) : ExitsP [e, e'] W (.returned (.slice (some ⟨X.heap.size, 0, none⟩) 2 2)) (X.alloc (.cells #[.int .i64 t, .int .i64 n, .int .i64 v, .int .i64 p, .int .i64 t', .int .i64 n', .int .i64 v', .int .i64 p'] 67)) := by
  subst he he'
  refine ⟨hb.alloc hb.size _, _, 2, rfl, Or.inr ⟨_, rfl, _, (MapKept.heap_alloc X _).1, fun j hj => ?_⟩⟩
  have hj' : j = 0 ∨ j = 1 := by simp at hj; omega
  rcases hj' with rfl | rfl
  · exact ⟨rfl, rfl, rfl, rfl⟩
  · exact ⟨rfl, rfl, rfl, rfl⟩

/-- An instruction and a spot are kept in two boxes. -/
structure Boxed (W X : World) (b5 b6 : Nat) (op a b c n v p : Int) : Prop where
  bel : Below W.heap.size W X
  i : X.heap[b5]? = some (.cells #[.int .i64 op, .int .i64 a, .int .i64 b, .int .i64 c] 31)
  s : X.heap[b6]? = some (.cells #[.int .i64 n, .int .i64 v, .int .i64 p] 43)

def put4 (X : World) (g : Nat) (a b c d : Value) : World := (((X.setCell ⟨g, 0, none⟩ a).setCell ⟨g, 1, none⟩ b).setCell ⟨g, 2, none⟩ c).setCell ⟨g, 3, none⟩ d
def put3 (X : World) (g : Nat) (a b c : Value) : World := ((X.setCell ⟨g, 0, none⟩ a).setCell ⟨g, 1, none⟩ b).setCell ⟨g, 2, none⟩ c

theorem put4_is {X : World} {g : Nat} {x0 x1 x2 x3 : Value} {t : TypeId} (h : X.heap[g]? = some (.cells #[x0, x1, x2, x3] t)) (a b c d : Value) : (put4 X g a b c d).heap[g]? = some (.cells #[a, b, c, d] t) ∧ (∀ q, q ≠ g → (put4 X g a b c d).heap[q]? = X.heap[q]?) ∧ (put4 X g a b c d).heap.size = X.heap.size ∧ (put4 X g a b c d).os = X.os ∧ (put4 X g a b c d).tape = X.tape ∧ (put4 X g a b c d).output = X.output := by
  refine ⟨by simp [put4, World.setCell, Array.getElem?_modify, h], fun q hq => ?_, by simp [put4, World.setCell], by simp [put4, World.setCell], by simp [put4, World.setCell], by simp [put4, World.setCell]⟩
  unfold put4
  rw [Below.heap_setCell _ ⟨g, 3, none⟩ _ q hq, Below.heap_setCell _ ⟨g, 2, none⟩ _ q hq, Below.heap_setCell _ ⟨g, 1, none⟩ _ q hq, Below.heap_setCell _ ⟨g, 0, none⟩ _ q hq]

theorem put3_is {X : World} {g : Nat} {x0 x1 x2 : Value} {t : TypeId} (h : X.heap[g]? = some (.cells #[x0, x1, x2] t)) (a b c : Value) : (put3 X g a b c).heap[g]? = some (.cells #[a, b, c] t) ∧ (∀ q, q ≠ g → (put3 X g a b c).heap[q]? = X.heap[q]?) ∧ (put3 X g a b c).heap.size = X.heap.size ∧ (put3 X g a b c).os = X.os ∧ (put3 X g a b c).tape = X.tape ∧ (put3 X g a b c).output = X.output := by
  refine ⟨by simp [put3, World.setCell, Array.getElem?_modify, h], fun q hq => ?_, by simp [put3, World.setCell], by simp [put3, World.setCell], by simp [put3, World.setCell], by simp [put3, World.setCell]⟩
  unfold put3
  rw [Below.heap_setCell _ ⟨g, 2, none⟩ _ q hq, Below.heap_setCell _ ⟨g, 1, none⟩ _ q hq, Below.heap_setCell _ ⟨g, 0, none⟩ _ q hq]

theorem two_new (D : World) (o1 o2 : Obj) : ((D.alloc o1).alloc o2).heap[D.heap.size]? = some o1 ∧ ((D.alloc o1).alloc o2).heap[D.heap.size + 1]? = some o2 := by
  have h1 := (MapKept.heap_alloc D o1).1
  have h2 := MapKept.heap_alloc (D.alloc o1) o2
  have hs : (D.alloc o1).heap.size = D.heap.size + 1 := by simp
  refine ⟨(h2.2 _ (by omega)).trans h1, ?_⟩
  have h3 := h2.1
  rw [hs] at h3
  exact h3

theorem boxed {W X : World} {b5 b6 : Nat} {x0 x1 x2 x3 y0 y1 y2 : Value} (hb : Below W.heap.size W X) (h5 : X.heap[b5]? = some (.cells #[x0, x1, x2, x3] 31)) (h6 : X.heap[b6]? = some (.cells #[y0, y1, y2] 43)) (l5 : W.heap.size ≤ b5) (l6 : W.heap.size ≤ b6) (op a b c n v p : Int) :
    Boxed W (put3 (put4 X b5 (.int .i64 op) (.int .i64 a) (.int .i64 b) (.int .i64 c)) b6 (.int .i64 n) (.int .i64 v) (.int .i64 p)) b5 b6 op a b c n v p := by
  have hne : b6 ≠ b5 := fun e => by
    subst e
    rw [h5] at h6
    cases h6
  obtain ⟨p1, p2, p3, p4, p5, p6⟩ := put4_is h5 (.int .i64 op) (.int .i64 a) (.int .i64 b) (.int .i64 c)
  obtain ⟨q1, q2, q3, q4, q5, q6⟩ := put3_is ((p2 b6 hne).trans h6) (.int .i64 n) (.int .i64 v) (.int .i64 p)
  exact ⟨⟨q4.trans (p4.trans hb.os), q5.trans (p5.trans hb.tape), q6.trans (p6.trans hb.output), by rw [q3, p3]; exact hb.size, fun q hq => (q2 q (by omega)).trans ((p2 q (by omega)).trans (hb.block q hq))⟩, (q2 b5 (Ne.symm hne)).trans p1, q1⟩
end Go.Proofs.YtfmkgppkgmjpfaaGreatDoor
