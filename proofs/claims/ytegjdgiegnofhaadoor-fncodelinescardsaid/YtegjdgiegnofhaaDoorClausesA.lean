/- Where clauses stand: the specification's walk from the top, and the program's over every node's kids, come to the same. -/
import Derived.Test.YtegjdgiegnofhaaDoorPureForest
import Derived.Test.YtegjdgiegnofhaaDoorSpecDeep
import Derived.Test.YtegjdgiegnofhaaDoorKeyWalks
import Derived.Test.YtegjdgiegnofhaaDoorKept
import Derived.Laws.OwnMore
import Derived.BigQuiet
namespace Go.Proofs.YtegjdgiegnofhaaDoor
open Go.RowKit

/-- What a kid must be: 1 what a handler gives, 2 an operation, 0 an expression. -/
def role (pk : Int) (i : Nat) : Nat := if pk = 23 ∨ pk = 24 then (if 2 < i then 2 else i) else 0

/-- An operation's two names differ. -/
def ok26 (n : Nd) : Bool := !(n.kind == 26 && n.b.toList == n.c.toList)

def headOk (n : Nd) (c : Nat) : Bool := ((n.kind == 25) == (c == 1)) && ((n.kind == 26) == (c == 2)) && ok26 n

def isIn (ops : List ByteArray) (s : ByteArray) : Bool := ops.any (fun x => x.toList == s.toList)

def specKids : Fo → Int → Nat → List ByteArray → Bool
  | .none, _, _, _ => true
  | .tree n k r, pk, i, ops => headOk n (role pk i) && (specKids k n.kind 0 [] && (if role pk i = 2 then !isIn ops n.a && specKids r pk (i + 1) (ops ++ [n.a]) else specKids r pk (i + 1) ops))

def clauseZ (k : Int) : Int := if k = 25 ∨ k = 26 then k else 0

def wantedZ (pk : Int) (i : Nat) : Int := if ¬ (pk = 23 ∨ pk = 24) ∨ i = 0 then 0 else if i = 1 then 25 else 26

def implKids : Fo → Int → Nat → List ByteArray → Bool
  | .none, _, _, _ => true
  | .tree n _ r, pk, i, ops => (clauseZ n.kind == wantedZ pk i) && (!isIn ops n.a && implKids r pk (i + 1) (if n.kind = 26 then ops ++ [n.a] else ops))

def implAll : Fo → Bool
  | .none => true
  | .tree n k r => implKids k n.kind 0 [] && (implAll k && implAll r)

theorem role_le (pk : Int) (i : Nat) : role pk i ≤ 2 := by
  unfold role
  split <;> (try split) <;> omega

theorem role_next {pk : Int} {i : Nat} (h : role pk i = 2) : role pk (i + 1) = 2 := by
  unfold role at *
  split at h
  · rename_i hp
    rw [if_pos hp]
    split at h <;> split <;> omega
  · omega

theorem wanted_role (pk : Int) (i : Nat) : wantedZ pk i = if role pk i = 1 then 25 else if role pk i = 2 then 26 else 0 := by
  unfold wantedZ role
  by_cases hp : pk = 23 ∨ pk = 24
  · simp only [hp, not_true_eq_false, false_or, if_true]
    by_cases h0 : i = 0
    · simp [h0]
    · by_cases h1 : i = 1
      · simp [h1]
      · have h2 : (if 2 < i then 2 else i) = 2 := by split <;> omega
        simp [h0, h1, h2]
  · simp [hp]

theorem head_eq (n : Nd) (pk : Int) (i : Nat) (h : ok26 n = true) : headOk n (role pk i) = (clauseZ n.kind == wantedZ pk i) := by
  have hr := role_le pk i
  rw [wanted_role, headOk, h, Bool.and_true]
  unfold clauseZ
  generalize role pk i = c at *
  have hc : c = 0 ∨ c = 1 ∨ c = 2 := by omega
  by_cases h5 : n.kind = 25
  · rw [h5]
    rcases hc with rfl | rfl | rfl <;> rfl
  · by_cases h6 : n.kind = 26
    · rw [h6]
      rcases hc with rfl | rfl | rfl <;> rfl
    · have e5 : (n.kind == 25) = false := by rw [beq_eq_false_iff_ne]; exact h5
      have e6 : (n.kind == 26) = false := by rw [beq_eq_false_iff_ne]; exact h6
      rw [e5, e6, if_neg (by omega)]
      rcases hc with rfl | rfl | rfl <;> rfl

theorem head_op {n : Nd} {c : Nat} (h : headOk n c = true) : n.kind = 26 ↔ c = 2 := by
  simp only [headOk, Bool.and_eq_true, beq_iff_eq] at h
  have := h.1.2
  constructor
  · intro hk
    rw [hk] at this
    simpa using this
  · intro hc
    rw [hc] at this
    simpa using this

theorem clauses_eq : ∀ (f : Fo) (pk : Int) (i : Nat) (ops : List ByteArray), f.flat.all ok26 = true → (ops = [] ∨ role pk i = 2) → specKids f pk i ops = (implKids f pk i ops && implAll f)
  | .none, _, _, _, _, _ => rfl
  | .tree n k r, pk, i, ops, ha, ho => by
    simp only [Fo.flat, List.all_cons, List.all_append, Bool.and_eq_true] at ha
    obtain ⟨hn, hk, hr⟩ := ha
    simp only [specKids, implKids, implAll]
    rw [clauses_eq k n.kind 0 [] hk (Or.inl rfl), ← head_eq n pk i hn]
    cases hh : headOk n (role pk i) with
    | false => simp
    | true =>
      have hop := head_op hh
      by_cases hc : role pk i = 2
      · rw [if_pos hc, if_pos (hop.2 hc), clauses_eq r pk (i + 1) _ hr (Or.inr (role_next hc))]
        cases isIn ops n.a <;> cases implKids k n.kind 0 [] <;> cases implAll k <;> cases implAll r <;> cases implKids r pk (i + 1) (ops ++ [n.a]) <;> rfl
      · have he : ops = [] := ho.resolve_right hc
        subst he
        rw [if_neg hc, if_neg (fun x => hc (hop.1 x)), clauses_eq r pk (i + 1) _ hr (Or.inl rfl)]
        have : isIn [] n.a = false := rfl
        rw [this]
        cases implKids k n.kind 0 [] <;> cases implAll k <;> cases implAll r <;> cases implKids r pk (i + 1) [] <;> rfl

theorem spec_unlike : ∀ (f : Fo) (pk : Int) (i : Nat) (ops : List ByteArray), specKids f pk i ops = true → f.flat.all ok26 = true
  | .none, _, _, _, _ => rfl
  | .tree n k r, pk, i, ops, h => by
    simp only [specKids, Bool.and_eq_true] at h
    obtain ⟨h1, h2, h3⟩ := h
    have e1 : ok26 n = true := by
      simp only [headOk, Bool.and_eq_true] at h1
      exact h1.2
    have e2 := spec_unlike k _ _ _ h2
    have e3 : r.flat.all ok26 = true := by
      split at h3
      · simp only [Bool.and_eq_true] at h3
        exact spec_unlike r _ _ _ h3.2
      · exact spec_unlike r _ _ _ h3
    simp only [Fo.flat, List.all_cons, List.all_append, e1, e2, e3, Bool.and_self]

/-- The whole tree: its top an expression. -/
def specTree (n : Nd) (k : Fo) (c : Nat) : Bool := headOk n c && specKids k n.kind 0 []

def implTree (n : Nd) (k : Fo) : Bool := (clauseZ n.kind == 0) && (implKids k n.kind 0 [] && implAll k)

theorem trees_eq (n : Nd) (k : Fo) : specTree n k 0 = (implTree n k && (n :: k.flat).all ok26) := by
  unfold specTree implTree
  rw [List.all_cons]
  cases hn : ok26 n with
  | false => simp [headOk, hn]
  | true =>
    have e : headOk n 0 = (clauseZ n.kind == 0) := head_eq n 0 0 hn
    rw [e]
    cases hk : k.flat.all ok26 with
    | true =>
      rw [clauses_eq k n.kind 0 [] hk (Or.inl rfl)]
      simp
    | false =>
      have : specKids k n.kind 0 [] = false := by
        cases hs : specKids k n.kind 0 [] with
        | false => rfl
        | true => rw [spec_unlike k _ _ _ hs] at hk; cases hk
      rw [this]
      simp
end Go.Proofs.YtegjdgiegnofhaaDoor

/- Where clauses stand, as the specification asks it. -/
namespace Go.Proofs.YtegjdgiegnofhaaDoor
open Go.RowKit

def strs (ops : List ByteArray) : List Value := ops.map Value.string

set_option maxRecDepth 100000 in
/-- Whether a name is among those of a list of the call's own. -/
theorem isIn_calls (B : Nat) (v : Value) (ops : List ByteArray) (s : ByteArray) (w : World) (hl : ops.length ≤ 1000000) (hown : w.ownsRow B 9 1 v ops.length (strs ops)) :
    Calls Tryd.prog 69 #[v, .string s] w fun e w' => e = .returned (.bool (isIn ops s)) ∧ w = w' := by
  cases ops with
  | nil =>
    obtain ⟨a, c, rfl⟩ : ∃ a c, v = .slice a 0 c := by
      rcases hown.2 with ⟨h, _⟩ | ⟨g, c, cur, h, _⟩
      · exact ⟨none, 0, h⟩
      · exact ⟨_, _, h⟩
    clear hown
    go_enter Tryd.func69, Tryd.ntmps69
    go_wp2_with fail
    go_loop [5] (fun i => i = .int .i64 0) (fun _ => 0)
    case atStart => rfl
    case round =>
      subst hrel
      go_wp2_with fail
      go_ret
      exact ⟨rfl, rfl⟩
  | cons x r =>
    obtain ⟨g, c, rfl⟩ : ∃ g c, v = .slice (some ⟨g, 0, none⟩) (x :: r).length c := by
      rcases hown.2 with ⟨_, h⟩ | ⟨g, c, cur, h, _⟩
      · simp at h
      · exact ⟨_, _, h⟩
    refine (in_calls g 0 (x :: r).length c (x :: r) s w (Nat.le_refl _) hl (fun j hj => ?_)).mono ?_
    · rw [Nat.zero_add, hown.cellAt j (by omega)]
      rw [strs, List.getElem?_map, List.getElem?_eq_getElem hj, List.getD, List.getElem?_eq_getElem hj]
      rfl
    · rintro e w' ⟨rfl, rfl⟩
      exact ⟨by rw [List.take_length]; rfl, rfl⟩

set_option maxHeartbeats 1000000 in
set_option maxRecDepth 100000 in
/-- A node that may not stand there. -/
theorem clauses_bad (b off len cap : Nat) (n : Nd) (k : Fo) (p c : Nat) (w : World) (hpl : p < len)
    (c0 : w.cell? ⟨b, off + p * 6, none⟩ = some (.int .i64 n.kind)) (c1 : w.cell? ⟨b, off + p * 6 + 1, none⟩ = some (.int .i64 n.num)) (c2 : w.cell? ⟨b, off + p * 6 + 2, none⟩ = some (.string n.a))
    (c3 : w.cell? ⟨b, off + p * 6 + 3, none⟩ = some (.string n.b)) (c4 : w.cell? ⟨b, off + p * 6 + 4, none⟩ = some (.string n.c)) (c5 : w.cell? ⟨b, off + p * 6 + 5, none⟩ = some (.int .i64 n.kids)) (hc : c ≤ 2) (hh : headOk n c = false) :
    Calls Tryd.prog 65 #[.slice (some ⟨b, off, none⟩) len cap, .int .i64 p, .int .i64 c] w fun e w' => e = .returned (.bool (specTree n k c)) ∧ Below w.heap.size w w' := by
  have HO : Hid (specTree n k c = false) := by show _ = _; rw [specTree, hh]; rfl
  obtain ⟨kd, num, a, bb, cc, kids⟩ := n
  dsimp only at *
  have hc3 : c = 0 ∨ c = 1 ∨ c = 2 := by omega
  by_cases h5 : kd = 25
  · subst h5
    rcases hc3 with rfl | rfl | rfl
    all_goals first
      | (exfalso; simp [headOk, ok26] at hh; done)
      | (clear hh hc
         go_enter Tryd.func65, Tryd.ntmps65
         go_wp2_with fail
         go_ret
         exact ⟨by rw [HO.out]; rfl, (Below.refl _ _).alloc (Nat.le_refl _) _⟩)
  · by_cases h6 : kd = 26
    · subst h6
      clear h5
      rcases hc3 with rfl | rfl | rfl
      · clear hh hc
        go_enter Tryd.func65, Tryd.ntmps65
        go_wp2_with fail
        go_ret
        exact ⟨by rw [HO.out]; rfl, (Below.refl _ _).alloc (Nat.le_refl _) _⟩
      · clear hh hc
        go_enter Tryd.func65, Tryd.ntmps65
        go_wp2_with fail
        go_ret
        exact ⟨by rw [HO.out]; rfl, (Below.refl _ _).alloc (Nat.le_refl _) _⟩
      · have h4 : (bb.toList == cc.toList) = true := by
          simp [headOk, ok26] at hh
          simpa using hh
        clear hh hc
        go_enter Tryd.func65, Tryd.ntmps65
        go_wp2_with fail
        go_ret
        exact ⟨by rw [HO.out]; rfl, (Below.refl _ _).alloc (Nat.le_refl _) _⟩
    · have k5 : (kd == 25) = false := by rw [beq_eq_false_iff_ne]; exact h5
      have k6 : (kd == 26) = false := by rw [beq_eq_false_iff_ne]; exact h6
      rcases hc3 with rfl | rfl | rfl
      · exfalso
        simp [headOk, ok26, k5, k6] at hh
      all_goals
        clear hh hc h5 h6
        go_enter Tryd.func65, Tryd.ntmps65
        go_wp2_with fail
        go_ret
        exact ⟨by rw [HO.out]; rfl, (Below.refl _ _).alloc (Nat.le_refl _) _⟩
end Go.Proofs.YtegjdgiegnofhaaDoor

/- Where clauses stand, as the specification asks it: the kids one after the other. -/
namespace Go.Proofs.YtegjdgiegnofhaaDoor
open Go.RowKit

theorem info_str : (Tryd.prog.info? 9).map (fun i => (i.zero, i.size, i.bytes)) = some (some (.string ⟨#[]⟩), 1, 16) := by kernel_rfl

theorem cell_one_new (w : World) (n : Nat) (hn : n = w.heap.size) (a : Value) (t : TypeId) : ∀ j u, [a][j]? = some u → (w.alloc (.cells #[a] t)).cell? ((⟨n, 0, none⟩ : Addr).add j) = some u := by
  subst hn
  intro j u hj
  match j, hj with
  | 0, hj => simp at hj; subst hj; simp [Addr.add]
  | j + 1, hj => simp at hj

theorem kids_false {n : Nd} {k r : Fo} {pk : Int} {i : Nat} {ops : List ByteArray} (h : specTree n k (role pk i) = false) : specKids (.tree n k r) pk i ops = false := by
  simp only [specKids]
  unfold specTree at h
  rw [← Bool.and_assoc, h, Bool.false_and]

theorem kids_next {n : Nd} {k r : Fo} {pk : Int} {i : Nat} {ops : List ByteArray} (h : specTree n k (role pk i) = true) (hc : role pk i ≠ 2) : specKids (.tree n k r) pk i ops = specKids r pk (i + 1) ops := by
  simp only [specKids]
  unfold specTree at h
  rw [← Bool.and_assoc, h, Bool.true_and, if_neg hc]

theorem kids_in_false {n : Nd} {k r : Fo} {pk : Int} {i : Nat} {ops : List ByteArray} (hc : role pk i = 2) (hi : isIn ops n.a = true) : specKids (.tree n k r) pk i ops = false := by
  simp only [specKids]
  rw [if_pos hc, hi, Bool.not_true, Bool.false_and, Bool.and_false, Bool.and_false]

theorem kids_in_next {n : Nd} {k r : Fo} {pk : Int} {i : Nat} {ops : List ByteArray} (h : specTree n k (role pk i) = true) (hc : role pk i = 2) (hi : isIn ops n.a = false) : specKids (.tree n k r) pk i ops = specKids r pk (i + 1) (ops ++ [n.a]) := by
  simp only [specKids]
  unfold specTree at h
  rw [← Bool.and_assoc, h, Bool.true_and, if_pos hc, hi, Bool.not_false, Bool.true_and]

theorem role_cases (pk : Int) (i : Nat) (h : role pk i ≠ 2) : ((pk == 23) = false ∧ (pk == 24) = false ∧ role pk i = 0) ∨ ((pk == 23) = true ∧ (i : Int) ≤ 2 ∧ ((i : Int) == 2) = false ∧ role pk i = i) ∨ ((pk == 23) = false ∧ (pk == 24) = true ∧ (i : Int) ≤ 2 ∧ ((i : Int) == 2) = false ∧ role pk i = i) := by
  simp only [beq_iff_eq, beq_eq_false_iff_ne]
  unfold role at *
  split at h
  · rename_i hp
    rw [if_pos hp]
    split at h
    · exact absurd rfl h
    · rename_i h2
      rw [if_neg h2]
      omega
  · rename_i hp
    rw [if_neg hp]
    omega

theorem role_cases2 (pk : Int) (i : Nat) (h : role pk i = 2) : ((pk == 23) = true ∧ (i : Int) ≤ 2 ∧ ((i : Int) == 2) = true ∧ role pk i = i) ∨ ((pk == 23) = true ∧ (2 : Int) < (i : Int)) ∨ ((pk == 23) = false ∧ (pk == 24) = true ∧ (i : Int) ≤ 2 ∧ ((i : Int) == 2) = true ∧ role pk i = i) ∨ ((pk == 23) = false ∧ (pk == 24) = true ∧ (2 : Int) < (i : Int)) := by
  rw [h]
  simp only [beq_iff_eq, beq_eq_false_iff_ne]
  unfold role at h
  split at h
  · split at h <;> omega
  · omega

set_option maxHeartbeats 4000000 in
set_option maxRecDepth 100000 in
theorem clauses_calls (b off cap : Nat) (ns : List Nd) (hm : ns.length ≤ 1000000) : ∀ (N : Nat) (n : Nd) (k : Fo) (suf : List Nd) (p c : Nat) (w : World), c ≤ 2 → b < w.heap.size → NodesAt w b off ns → ns.drop p = n :: (k.flat ++ suf) → n.kids = k.count → k.wf → k.flat.length < N →
    Calls Tryd.prog 65 #[.slice (some ⟨b, off, none⟩) ns.length cap, .int .i64 p, .int .i64 c] w fun e w' => e = .returned (.bool (specTree n k c)) ∧ Below w.heap.size w w' := by
  intro N
  induction N with
  | zero => intro n k suf p c w _ _ _ _ _ _ h; omega
  | succ N ih =>
    intro n k suf p c w hc hbw hn hp hkc hk hN
    obtain ⟨hpl, hnd, hp1⟩ := at_drop hp
    have c0 := hn p hpl 0 (by omega)
    have c1 := hn p hpl 1 (by omega)
    have c2 := hn p hpl 2 (by omega)
    have c3 := hn p hpl 3 (by omega)
    have c4 := hn p hpl 4 (by omega)
    have c5 := hn p hpl 5 (by omega)
    rw [hnd] at c0 c1 c2 c3 c4 c5
    simp only [Nd.cell, Nat.add_zero] at c0 c1 c2 c3 c4 c5
    cases hh : headOk n c with
    | false => exact clauses_bad b off ns.length cap n k p c w hpl c0 c1 c2 c3 c4 c5 hc hh
    | true =>
      have hR : specTree n k c = specKids k n.kind 0 [] := by rw [specTree, hh]; rfl
      rw [hR]
      obtain ⟨R, hRd⟩ : ∃ R, specKids k n.kind 0 [] = R := ⟨_, rfl⟩
      rw [hRd]
      have hkl : k.flat.length ≤ ns.length := by
        have : (ns.drop (p + 1)).length = k.flat.length + suf.length := by rw [hp1, List.length_append]
        rw [List.length_drop] at this
        omega
      have hkk := Fo.count_le k
      rw [hkc] at c5
      have HS : Hid (specKids k n.kind 0 [] = R) := hRd
      have HI : Hid (∀ (n : Nd) (k : Fo) (suf : List Nd) (p c : Nat) (w : World), _) := ih
      have HN : Hid (NodesAt w b off ns) := hn
      have HM : Hid (ns.length ≤ 1048576) := by show _ ≤ _; omega
      have H1 : Hid (ns.drop (p + 1) = k.flat ++ suf) := hp1
      have Hk : Hid k.wf := hk
      obtain ⟨len, hlen⟩ : ∃ len, ns.length = len := ⟨_, rfl⟩
      have Hlen : Hid (ns.length = len) := hlen
      rw [hlen] at hm hpl hkl ⊢
      clear ih hn hp hp1 hk hnd hlen hkc hR hRd
      obtain ⟨kc, hkc⟩ : ∃ kc, k.count = kc := ⟨_, rfl⟩
      have Hkc : Hid (k.count = kc) := hkc
      rw [hkc] at c5 hkk
      have HP : Hid (len ≤ 1000000 ∧ p < len ∧ k.flat.length ≤ len ∧ kc ≤ k.flat.length ∧ k.flat.length < N + 1) := ⟨hm, hpl, hkl, hkk, hN⟩
      clear hkc hm hkl hkk hN
      have cases3 : (n.kind == 25) = true ∧ (n.kind == 26) = false ∧ c = 1 ∨ (n.kind == 25) = false ∧ (n.kind == 26) = true ∧ c = 2 ∧ (n.b.toList == n.c.toList) = false ∨ (n.kind == 25) = false ∧ (n.kind == 26) = false ∧ c = 0 := by
        have hc3 : c = 0 ∨ c = 1 ∨ c = 2 := by omega
        have hx : ¬ ((n.kind == 25) = true ∧ (n.kind == 26) = true) := by
          simp only [beq_iff_eq]
          omega
        simp only [headOk, ok26] at hh
        revert hh hx
        rcases hc3 with rfl | rfl | rfl <;> cases (n.kind == 25) <;> cases (n.kind == 26) <;> cases (n.b.toList == n.c.toList) <;> decide
      have cases4 : (n.kind == 25) = true ∧ (n.kind == 26) = false ∧ (c : Int) = 1 ∨ (n.kind == 25) = false ∧ (n.kind == 26) = true ∧ (c : Int) = 2 ∧ (n.b.toList == n.c.toList) = false ∨ (n.kind == 25) = false ∧ (n.kind == 26) = false ∧ (c : Int) = 0 := by
        rcases cases3 with ⟨k5, k6, rfl⟩ | ⟨k5, k6, rfl, h4⟩ | ⟨k5, k6, rfl⟩
        · exact Or.inl ⟨k5, k6, rfl⟩
        · exact Or.inr (Or.inl ⟨k5, k6, rfl, h4⟩)
        · exact Or.inr (Or.inr ⟨k5, k6, rfl⟩)
      clear hh hc cases3
      generalize (c : Int) = ci at cases4 ⊢
      clear c
      obtain ⟨kd, num, a, bb, cc, kids⟩ := n
      dsimp only at *
      have htt : (true != true) = false := rfl
      have hff : (false != false) = false := rfl
      rcases cases4 with ⟨k5, k6, rfl⟩ | ⟨k5, k6, rfl, h4⟩ | ⟨k5, k6, rfl⟩
      all_goals
        go_enter Tryd.func65, Tryd.ntmps65
        go_wp2_with fail
      all_goals
        clear c0 c1 c2 c3 c4 c5 htt hff
        go_loopw [8, 9, 10] (fun q o i wr => ∃ (q' i' : Nat) (r : Fo) (ops : List ByteArray), q = .int .i64 q' ∧ i = .int .i64 i' ∧ Hid (ns.drop q' = r.flat ++ suf ∧ r.wf ∧ i' + r.count = kc ∧ r.flat.length < N + 1 ∧ specKids r kd i' ops = R ∧ ops.length ≤ i') ∧ wr.ownsRow (w.heap.size + 1) 9 1 o ops.length (strs ops) ∧ wr.heap[w.heap.size]? = some (.cells #[.int .i64 kd, .int .i64 num, .string a, .string bb, .string cc, .int .i64 kc] 90) ∧ Below w.heap.size w wr) (fun _ _ i _ => kc - (intOf i).toNat)
        case atStart =>
          rw [wrap_succ (by have := HP.out; omega)]
          exact ⟨p + 1, 0, k, [], rfl, rfl, ⟨H1.out, Hk.out, by rw [Hkc.out]; omega, HP.out.2.2.2.2, HS.out, Nat.le_refl _⟩, World.ownsRow_nil _ _ _ _, (MapKept.heap_alloc w _).1, (Below.refl _ _).alloc (Nat.le_refl _) _⟩
        case round =>
          obtain ⟨q', i', r, ops, rfl, rfl, HR, hown, eA, hnx⟩ := hrel
          have a0 := cell_of_heap eA 0
          have a5 := cell_of_heap eA 5
          simp at a0 a5
          have hltA := heap_lt eA
          cases r with
          | none =>
            obtain ⟨_, _, h1, _, h2, _⟩ := HR.out
            simp only [Fo.count, specKids] at h1 h2
            have h1' : i' = kc := by omega
            subst h1' h2
            clear HR h1 HI HN HM H1 Hk Hlen Hkc HS eA hown
            go_wp2_with fail
            go_ret
            exact ⟨rfl, hnx⟩
          | tree n' k' r' =>
            obtain ⟨h0, hw, h1, h3, h4', h5'⟩ := HR.out
            obtain ⟨hw0, hw1, hw2⟩ := hw
            simp only [Fo.count, Fo.flat, List.length_cons, List.length_append] at h1 h3
            simp only [Fo.flat, List.cons_append, List.append_assoc] at h0
            obtain ⟨hql, hqn, hq1⟩ := at_drop h0
            have hnw : NodesAt wr b off ns := HN.out.below hnx hbw
            have hend : treeEnd ns q' = _ := treeEnd_at h0 hw0 hw1
            have hnew := drop_past hq1
            have hrl := role_le kd i'
            have hIH := fun w (hb : b < w.heap.size) (hn : NodesAt w b off ns) => HI.out n' k' (r'.flat ++ suf) q' (role kd i') w hrl hb hn h0 hw0 hw1 (by omega)
            have hi : (i' : Int) < (kc : Int) := by omega
            have HX : Hid (ns.drop (q' + 1 + k'.flat.length) = r'.flat ++ suf ∧ r'.wf ∧ i' + 1 + r'.count = kc ∧ r'.flat.length < N + 1 ∧ ops.length ≤ i') := ⟨hnew, hw2, by omega, by omega, h5'⟩
            have HC : Hid (∀ w, _) := hIH
            have HQ : Hid (q' < ns.length ∧ ns.getD q' default = n' ∧ treeEnd ns q' = ((q' + 1 + k'.flat.length : Nat) : Int)) := ⟨hql, hqn, hend⟩
            have HV : Hid (specKids (.tree n' k' r') kd i' ops = R) := h4'
            have HW : Hid (NodesAt wr b off ns) := hnw
            clear HR h0 hw0 hw1 hw2 hql hqn hq1 hnw hend hnew hIH h4' h5' h1 h3 HI
            rw [Hlen.out] at HC
            by_cases hc2 : role kd i' = 2
            · have hf : specTree n' k' (role kd i') = false → Hid (R = false) := fun h => by rw [← HV.out]; exact kids_false h
              have ht : specTree n' k' (role kd i') = true → isIn ops n'.a = false → Hid (specKids r' kd (i' + 1) (ops ++ [n'.a]) = R) := fun h h' => by rw [← HV.out]; exact (kids_in_next h hc2 h').symm
              have hin : isIn ops n'.a = true → Hid (R = false) := fun h => by rw [← HV.out]; exact kids_in_false hc2 h
              rcases role_cases2 kd i' hc2 with ⟨k23, hi2, heq, hr⟩ | ⟨k23, hgt⟩ | ⟨k23, k24, hi2, heq, hr⟩ | ⟨k23, k24, hgt⟩
              all_goals
                try (exfalso; have e := eq_of_beq k23; subst e; revert k5 k6; decide)
                try (exfalso; have e := eq_of_beq k24; subst e; revert k5 k6; decide)
              all_goals
                first
                  | rw [hr] at HC hf ht
                  | rw [hc2] at HC hf ht
                try clear hr
                clear hc2 hrl HV
                go_wp2_with fail
                refine (HC.out wr (by have := hnx.size; omega) HW.out).mono ?_
                rintro e w3 ⟨rfl, hb3⟩
                have eA3 := (hb3.block w.heap.size hltA).trans eA
                have hltA3 := heap_lt eA3
                have hown3 := owns_below hown hb3
                have hnx3 := hnx.trans (hb3.mono hnx.size)
                have HT : Hid (∀ w, NodesAt w b off ns → _) := fun w h => specEnd_calls b off cap ns q' w h HM.out
                rw [HQ.out.2.2, Hlen.out] at HT
                have hqi : q' < len := by have := HQ.out.1; rw [Hlen.out] at this; exact this
                have q2 := HN.out.below hnx3 hbw q' HQ.out.1 2 (by omega)
                rw [HQ.out.2.1] at q2
                simp only [Nd.cell] at q2
                have hA := isIn_calls _ _ ops n'.a w3 (by have := HP.out; have := HX.out; omega) hown3
                clear HC HW hb3 eA hown hnx a0 a5 hltA
                generalize q' + 1 + k'.flat.length = ee at *
                cases hst : specTree n' k' _ with
                | false =>
                  have HF := hf hst
                  clear hf ht hin hA
                  go_wp2_with fail
                  go_ret
                  exact ⟨by rw [HF.out]; rfl, hnx3⟩
                | true =>
                  cases hii : isIn ops n'.a with
                  | true =>
                    have HF := hin hii
                    rw [hii] at hA
                    have HA : Hid (Calls _ _ _ _ _) := hA
                    clear hf ht hin hA
                    go_wp2_with fail
                    refine HA.out.mono ?_
                    rintro e w4 ⟨rfl, rfl⟩
                    go_wp2_with fail
                    go_ret
                    exact ⟨by rw [HF.out]; rfl, hnx3⟩
                  | false =>
                    have HG := ht hst hii
                    rw [hii] at hA
                    have HA : Hid (Calls _ _ _ _ _) := hA
                    clear hf ht hin hA
                    go_wp2_with fail
                    refine HA.out.mono ?_
                    rintro e w4 ⟨rfl, rfl⟩
                    have hol : Hid (ops.length ≤ 1048576) := by show _ ≤ _; have := HP.out; have := HX.out; omega
                    obtain ⟨i0, hinf, hz0, hz1, hz2⟩ := info_parts info_str
                    go_wp2_with (first
                      | (at_builtin; refine wpList_append_own _ rfl _ _ 61 rfl (w.heap.size + 1) 9 i0 (.string ⟨#[]⟩) 1 16 Tryd.underlying61 hinf hz0 hz1 hz2 rfl (by decide) _ _ _ rfl (hown3.alloc _) ⟨w3.heap.size, 0, none⟩ 1 1 [.string n'.a] rfl rfl (cell_one_new _ _ rfl _ _) (fun x hx => by simp at hx; subst hx; rfl) (by have := hol.out; unfold maxLen; omega) (by have := hol.out; omega) (by simp; omega) ?_
                         intro v' w5 hown' hgrow hnil
                         have eA5 : Hid (w5.heap[w.heap.size]? = some (.cells #[.int .i64 kd, .int .i64 num, .string a, .string bb, .string cc, .int .i64 kc] 90)) := by
                           show w5.heap[w.heap.size]? = _
                           rw [hgrow.block w.heap.size (by simp; omega) (fun h => by have := (hown3.lt _ h.symm).1; omega), Below.heap_alloc _ _ _ hltA3]
                           exact eA3
                         have hnx5 : Below w.heap.size w w5 := Below.grown (hnx3.alloc (by omega) _) hgrow (by simp; omega) (fun j hj => by have := (hown3.lt _ hj).1; omega)
                         clear hgrow hnil eA3 hown3 hnx3 q2))
                    refine (HT.out w5 (HN.out.below hnx5 hbw)).mono ?_
                    rintro e w6 ⟨rfl, rfl⟩
                    go_wp2_with fail
                    have hi9 : i' ≤ 1048576 := by have := HP.out; omega
                    try rw [wrap_succ hi9]
                    refine ⟨⟨ee, i' + 1, r', ops ++ [n'.a], rfl, rfl, ⟨HX.out.1, HX.out.2.1, HX.out.2.2.1, HX.out.2.2.2.1, HG.out, ?_⟩, ?_, eA5.out, hnx5⟩, lt_step hi⟩
                    · rw [List.length_append]
                      exact Nat.succ_le_succ HX.out.2.2.2.2
                    · rw [List.length_append, strs, List.map_append]
                      exact hown'
            · have hf : specTree n' k' (role kd i') = false → Hid (R = false) := fun h => by rw [← HV.out]; exact kids_false h
              have ht : specTree n' k' (role kd i') = true → Hid (specKids r' kd (i' + 1) ops = R) := fun h => by rw [← HV.out]; exact (kids_next h hc2).symm
              rcases role_cases kd i' hc2 with ⟨k23, k24, hr⟩ | ⟨k23, hi2, hne, hr⟩ | ⟨k23, k24, hi2, hne, hr⟩
              all_goals
                try (exfalso; have e := eq_of_beq k23; subst e; revert k5 k6; decide)
                try (exfalso; have e := eq_of_beq k24; subst e; revert k5 k6; decide)
              all_goals
                rw [hr] at HC hf ht
                clear hc2 hrl hr HV
                go_wp2_with fail
                refine (HC.out wr (by have := hnx.size; omega) HW.out).mono ?_
                rintro e w3 ⟨rfl, hb3⟩
                have eA3 := (hb3.block w.heap.size hltA).trans eA
                have hown3 := owns_below hown hb3
                have hnx3 := hnx.trans (hb3.mono hnx.size)
                have hE := specEnd_calls b off cap ns q' w3 (HN.out.below hnx3 hbw) HM.out
                rw [HQ.out.2.2, Hlen.out] at hE
                have HT : Hid (Calls _ _ _ _ _) := hE
                clear HC HW hb3 eA hown hnx hE a0 a5 hltA
                generalize q' + 1 + k'.flat.length = ee at *
                cases hst : specTree n' k' _ with
                | false =>
                  have HF := hf hst
                  clear hf ht
                  go_wp2_with fail
                  go_ret
                  exact ⟨by rw [HF.out]; rfl, hnx3⟩
                | true =>
                  have HG := ht hst
                  clear hf ht
                  go_wp2_with fail
                  refine HT.out.mono ?_
                  rintro e w4 ⟨rfl, rfl⟩
                  go_wp2_with fail
                  have hi9 : i' ≤ 1048576 := by have := HP.out; omega
                  try rw [wrap_succ hi9]
                  exact ⟨⟨ee, i' + 1, r', ops, rfl, rfl, ⟨HX.out.1, HX.out.2.1, HX.out.2.2.1, HX.out.2.2.2.1, HG.out, Nat.le_succ_of_le HX.out.2.2.2.2⟩, hown3, eA3, hnx3⟩, lt_step hi⟩
end Go.Proofs.YtegjdgiegnofhaaDoor
