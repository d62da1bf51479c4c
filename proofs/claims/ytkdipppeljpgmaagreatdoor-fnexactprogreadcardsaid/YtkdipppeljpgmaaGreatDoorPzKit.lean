/- The specification's parser: what each of its functions does, told alike; nodes put together. -/
import Derived.Test.YtkdipppeljpgmaaGreatDoorPzStarts
namespace Go.Proofs.YtkdipppeljpgmaaGreatDoor
open Go.RowKit Go.Deep

/-- How much may still be called, at most. -/
def lvN : Nt (List Nd) → Nat
  | .expr => 11
  | .cons => 10
  | .comp => 9
  | .sum => 8
  | .sumL _ => 7
  | .prod => 6
  | .prodL _ => 5
  | .call => 4
  | .callL _ => 3
  | .atom => 2
  | .hand _ => 12
  | .opsL _ _ => 11

def ms (ws : List Wd) (nt : Nt (List Nd)) (s : Ps) : Nat := 16 * (ws.length - s.at_) + lvN nt

def PostN (d : Dr) (ws : List Wd) (ad : Option Addr) (cp : Nat) (r : List Nd × Ps) (W : World) (e : Ending) (W' : World) : Prop :=
  ∃ v, e = .returned v ∧ NodesD d W' v r.1 ∧ StepP d ws ad cp r.2 W W'

/-- What the functions of the parser do. -/
structure PcAll (d : Dr) (ws : List Wd) (ad : Option Addr) (cp : Nat) (f : Nat) : Prop where
  expr : ∀ s W, PsAt d ws ad cp s W → ms ws .expr s ≤ f → Calls Tryz.prog 12 #[.pointer (some ⟨d.B, 0, none⟩)] W (PostN d ws ad cp (spz ws f .expr s) W)
  cons : ∀ s W, PsAt d ws ad cp s W → ms ws .cons s ≤ f → Calls Tryz.prog 33 #[.pointer (some ⟨d.B, 0, none⟩)] W (PostN d ws ad cp (spz ws f .cons s) W)
  comp : ∀ s W, PsAt d ws ad cp s W → ms ws .comp s ≤ f → Calls Tryz.prog 57 #[.pointer (some ⟨d.B, 0, none⟩)] W (PostN d ws ad cp (spz ws f .comp s) W)
  sum : ∀ s W, PsAt d ws ad cp s W → ms ws .sum s ≤ f → Calls Tryz.prog 85 #[.pointer (some ⟨d.B, 0, none⟩)] W (PostN d ws ad cp (spz ws f .sum s) W)
  prod : ∀ s W, PsAt d ws ad cp s W → ms ws .prod s ≤ f → Calls Tryz.prog 102 #[.pointer (some ⟨d.B, 0, none⟩)] W (PostN d ws ad cp (spz ws f .prod s) W)
  call : ∀ s W, PsAt d ws ad cp s W → ms ws .call s ≤ f → Calls Tryz.prog 111 #[.pointer (some ⟨d.B, 0, none⟩)] W (PostN d ws ad cp (spz ws f .call s) W)
  atom : ∀ s W, PsAt d ws ad cp s W → ms ws .atom s ≤ f → Calls Tryz.prog 117 #[.pointer (some ⟨d.B, 0, none⟩)] W (PostN d ws ad cp (spz ws f .atom s) W)
  hand : ∀ k s W, PsAt d ws ad cp s W → ms ws (.hand k) s ≤ f → Calls Tryz.prog 122 #[.pointer (some ⟨d.B, 0, none⟩), .int .i64 k] W (PostN d ws ad cp (spz ws f (.hand k) s) W)

section
variable {d : Dr} {ws : List Wd} {ad : Option Addr} {cp : Nat}

theorem StepP.start {s : Ps} {W : World} (h : PsAt d ws ad cp s W) : StepP d ws ad cp s W W := ⟨h, Grew.refl d W⟩
theorem StepP.below {s : Ps} {W X X' : World} (h : StepP d ws ad cp s W X) (hb : Below X.heap.size X X') : StepP d ws ad cp s W X' := ⟨h.1.below hb, h.2.trans (Grew.of_below hb)⟩
theorem StepP.step {s s' : Ps} {W X X' : World} (h : StepP d ws ad cp s W X) (h' : StepP d ws ad cp s' X X') : StepP d ws ad cp s' W X' := ⟨h'.1, h.2.trans h'.2⟩

/-- A word is passed. -/
theorem StepP.next {s : Ps} {W X : World} (h : StepP d ws ad cp s W X) (hl : s.at_ < ws.length) : StepP d ws ad cp s.next W (X.setCell ⟨d.B, 1, none⟩ (.int .i64 ((s.at_ + 1 : Nat) : Int))) :=
  ⟨h.1.move (i := s.at_ + 1) (by omega), h.2.trans (grew_set X 1 _)⟩

theorem StepP.wrap {s : Ps} {W X : World} (h : StepP d ws ad cp s W X) : wrap64 ((s.at_ : Int) + 1) = ((s.at_ + 1 : Nat) : Int) := wrap_succ (by have := h.1.lt; have := h.1.few; omega)

theorem kids_litP {d : Dr} {X : World} (ls : List (Value × List Nd)) (c : Array Value) (hc : c = (ls.map Prod.fst).toArray) (h1 : d.B < X.heap.size) (h2 : d.G < X.heap.size) (h : ∀ x ∈ ls, NodesD d X x.1 x.2) :
    KidsV d (X.alloc (.cells c 23)) (.slice (some ⟨X.heap.size, 0, none⟩) ls.length ls.length) ls := by
  subst hc
  have hh := (MapKept.heap_alloc X (.cells (ls.map Prod.fst).toArray 23)).1
  refine ⟨Or.inr ⟨_, 0, _, rfl, Nat.le_refl _, rfl, ⟨heap_lt hh, by omega, by omega⟩, fun i hi => ?_⟩, fun x hx => (h x hx).grew (Grew.of_below ((Below.refl _ _).alloc (Nat.le_refl _) _))⟩
  rw [Nat.zero_add, cell_of_heap hh i, List.getElem?_toArray]
  rw [Nat.mul_one] at hi
  simp [List.getD, hi]

theorem put_any {X : World} {s : Ps} (h : PsAt d ws ad cp s X) (k nm kd : Int) (a b c : ByteArray) (ls : List (Value × List Nd)) (cs : Array Value) (m : Nat) (hc : cs = (ls.map Prod.fst).toArray) (hm : m = ls.length) (hls : ∀ x ∈ ls, NodesD d X x.1 x.2) (hb : Brief a ∧ Brief b ∧ Brief c) (hl : ls.length ≤ 1000) (hfl : (flatL ls).length ≤ 800000) :
    Calls Tryz.prog 32 #[.agg #[.int .i64 k, .int .i64 nm, .string a, .string b, .string c, .int .i64 kd], .slice (some ⟨X.heap.size, 0, none⟩) m m] (X.alloc (.cells cs 23)) fun e X' => ∃ v, e = .returned v ∧ NodesD d X' v (putN ⟨k, nm, a, b, c, kd⟩ (ls.map Prod.snd)) ∧ Below X.heap.size X X' := by
  subst hm
  have hB : (X.alloc (.cells cs 23)).heap.size = X.heap.size + 1 := by simp
  have hPB := heap_lt h.blk
  refine (gput_calls (d := d) k nm kd a b c (X.alloc (.cells cs 23)) _ ls (by rw [hB]; omega) (by rw [hB, h.eq]; omega) (kids_litP ls cs hc hPB (by rw [h.eq]; exact hPB) hls) hb hl hfl).mono ?_
  rintro e X' ⟨v, rfl, hn, hbl⟩
  refine ⟨v, rfl, ?_, ((Below.refl _ _).alloc (Nat.le_refl _) _).trans (hbl.mono (by rw [hB]; omega))⟩
  have e : putN ⟨k, nm, a, b, c, kd⟩ (ls.map Prod.snd) = ⟨k, nm, a, b, c, (ls.length : Int)⟩ :: flatL ls := by
    unfold putN Nd.with_ flatL
    rw [List.length_map, List.flatMap_def]
  rw [e]
  exact hn

theorem put0_calls {X : World} {s : Ps} (h : PsAt d ws ad cp s X) (k nm kd : Int) (a b c : ByteArray) (hb : Brief a ∧ Brief b ∧ Brief c) :
    Calls Tryz.prog 32 #[.agg #[.int .i64 k, .int .i64 nm, .string a, .string b, .string c, .int .i64 kd], .slice none 0 0] X fun e X' => ∃ v, e = .returned v ∧ NodesD d X' v (putN ⟨k, nm, a, b, c, kd⟩ []) ∧ Below X.heap.size X X' := by
  have hPB := heap_lt h.blk
  refine (gput_calls (d := d) k nm kd a b c X _ [] hPB (by rw [h.eq]; exact hPB) ⟨Or.inl ⟨rfl, rfl⟩, fun x hx => by cases hx⟩ hb (by simp) (by simp [flatL])).mono ?_
  rintro e X' ⟨v, rfl, hn, hbl⟩
  exact ⟨v, rfl, hn, hbl⟩

theorem put1_calls {X : World} {s : Ps} (h : PsAt d ws ad cp s X) (k nm kd : Int) (a b c : ByteArray) {v1 : Value} {n1 : List Nd} (h1 : NodesD d X v1 n1) (hb : Brief a ∧ Brief b ∧ Brief c) (hfl : n1.length ≤ 20000) :
    Calls Tryz.prog 32 #[.agg #[.int .i64 k, .int .i64 nm, .string a, .string b, .string c, .int .i64 kd], .slice (some ⟨X.heap.size, 0, none⟩) 1 1] (X.alloc (.cells #[v1] 23)) fun e X' => ∃ v, e = .returned v ∧ NodesD d X' v (putN ⟨k, nm, a, b, c, kd⟩ [n1]) ∧ Below X.heap.size X X' :=
  put_any h k nm kd a b c [(v1, n1)] _ 1 rfl rfl (fun x hx => by simp at hx; subst hx; exact h1) hb (by simp) (by simp [flatL]; omega)

theorem put2_calls {X : World} {s : Ps} (h : PsAt d ws ad cp s X) (k nm kd : Int) (a b c : ByteArray) {v1 v2 : Value} {n1 n2 : List Nd} (h1 : NodesD d X v1 n1) (h2 : NodesD d X v2 n2) (hb : Brief a ∧ Brief b ∧ Brief c) (hfl : n1.length ≤ 20000 ∧ n2.length ≤ 20000) :
    Calls Tryz.prog 32 #[.agg #[.int .i64 k, .int .i64 nm, .string a, .string b, .string c, .int .i64 kd], .slice (some ⟨X.heap.size, 0, none⟩) 2 2] (X.alloc (.cells #[v1, v2] 23)) fun e X' => ∃ v, e = .returned v ∧ NodesD d X' v (putN ⟨k, nm, a, b, c, kd⟩ [n1, n2]) ∧ Below X.heap.size X X' :=
  put_any h k nm kd a b c [(v1, n1), (v2, n2)] _ 2 rfl rfl (fun x hx => by simp at hx; rcases hx with rfl | rfl; exact h1; exact h2) hb (by simp) (by simp [flatL]; omega)

theorem put3_calls {X : World} {s : Ps} (h : PsAt d ws ad cp s X) (k nm kd : Int) (a b c : ByteArray) {v1 v2 v3 : Value} {n1 n2 n3 : List Nd} (h1 : NodesD d X v1 n1) (h2 : NodesD d X v2 n2) (h3 : NodesD d X v3 n3) (hb : Brief a ∧ Brief b ∧ Brief c) (hfl : n1.length ≤ 20000 ∧ n2.length ≤ 20000 ∧ n3.length ≤ 20000) :
    Calls Tryz.prog 32 #[.agg #[.int .i64 k, .int .i64 nm, .string a, .string b, .string c, .int .i64 kd], .slice (some ⟨X.heap.size, 0, none⟩) 3 3] (X.alloc (.cells #[v1, v2, v3] 23)) fun e X' => ∃ v, e = .returned v ∧ NodesD d X' v (putN ⟨k, nm, a, b, c, kd⟩ [n1, n2, n3]) ∧ Below X.heap.size X X' :=
  put_any h k nm kd a b c [(v1, n1), (v2, n2), (v3, n3)] _ 3 rfl rfl (fun x hx => by simp at hx; rcases hx with rfl | rfl | rfl; exact h1; exact h2; exact h3) hb (by simp) (by simp [flatL]; omega)

/-- What is read is not much, and goes on. -/
structure Goes (ws : List Wd) (s : Ps) (r : List Nd × Ps) (k : Nat) : Prop where
  on : s.at_ ≤ r.2.at_
  lt : r.2.at_ ≤ ws.length
  len : r.1.length ≤ 3 * (r.2.at_ - s.at_) + k

theorem goes_at (hw : BriefW ws) (f : Nat) (nt : Nt (List Nd)) (hb : NtB nt) {s : Ps} (hs : s.at_ ≤ ws.length) : Goes ws s (spz ws f nt s) (accN nt) := by
  by_cases ha : nt = .atom
  · subst ha
    obtain ⟨c, h1, h2, h3, -⟩ := (part_m hw f).atom s hs
    exact ⟨by omega, by omega, by omega⟩
  · obtain ⟨c, h1, h2, h3, -⟩ := (part_m hw f).at nt hb ha s hs
    exact ⟨by omega, by omega, by omega⟩

theorem take_goes {s : Ps} {l : List UInt8} (hl : l ≠ []) (hs : s.at_ ≤ ws.length) : s.at_ ≤ (takeS ws l s).2.at_ ∧ (takeS ws l s).2.at_ ≤ ws.length := by
  obtain ⟨c, h1, h2, -⟩ := Mv.take (ws := ws) hl s hs
  omega

theorem name_goes (hw : BriefW ws) {s : Ps} (hs : s.at_ ≤ ws.length) : s.at_ ≤ (nameS ws s).2.at_ ∧ (nameS ws s).2.at_ ≤ ws.length ∧ Brief (nameS ws s).1 := by
  obtain ⟨c, h1, h2, h3⟩ := Mv.name (ws := ws) hw s hs
  exact ⟨by omega, by omega, h3⟩
end
end Go.Proofs.YtkdipppeljpgmaaGreatDoor
