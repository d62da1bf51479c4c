/- The specification's TreeFree: the names that the program's walk finds free, each once, sorted. -/
import Derived.Test.YtlhdicichdihfaaGreatDoorSpecFree
namespace Go.Proofs.YtlhdicichdihfaaGreatDoor
open Go.RowKit Go.Deep

/-- A name's node bears no kids. -/
def leaf5 : Fo → Prop
  | .none => True
  | .tree n k r => (n.kind = 5 → k = .none) ∧ leaf5 k ∧ leaf5 r

theorem leaf5_of : ∀ (f : Fo), f.wf → (∀ m ∈ f.flat, m.kind = 5 → m.kids = 0) → leaf5 f
  | .none, _, _ => trivial
  | .tree n k r, hw, h => by
    obtain ⟨h1, h2, h3⟩ := hw
    refine ⟨fun e => ?_, leaf5_of k h2 (fun m hm => h m (by simp [Fo.flat, hm])), leaf5_of r h3 (fun m hm => h m (by simp [Fo.flat, hm]))⟩
    have h0 := h n (by simp [Fo.flat]) e
    cases k with
    | none => rfl
    | tree n' k' r' =>
      simp only [Fo.count] at h1
      omega

theorem findS_open : ∀ (xs ys : List ByteArray) (sc : Sco) (x : ByteArray), xs.length = ys.length → (findS ((xs.zip ys).foldl (fun s p => p :: s) sc) x ≠ none ↔ x ∈ xs ∨ findS sc x ≠ none)
  | [], ys, sc, x, _ => by simp
  | a :: xs, [], sc, x, h => by simp at h
  | a :: xs, b :: ys, sc, x, h => by
    rw [List.zip_cons_cons, List.foldl_cons, findS_open xs ys ((a, b) :: sc) x (by simpa using h), List.mem_cons]
    by_cases e : a = x
    · subst e
      simp [findS]
    · simp only [findS, if_neg e]
      constructor
      · rintro (h | h)
        · exact Or.inl (Or.inr h)
        · exact Or.inr h
      · rintro ((h | h) | h)
        · exact absurd h.symm e
        · exact Or.inl h
        · exact Or.inr h

theorem texts_app (a b : List ByteArray) : textsOf (a ++ b) = textsOf a ++ textsOf b := by unfold textsOf; rw [List.map_append]

theorem free_pure : ∀ (f : Fo) (old new : Nd) (i : Nat) (bd : List ByteArray) (sc : Sco) (s : Wst), leaf5 f → old.kind = new.kind → (∀ x, x ∈ bd ↔ findS sc x ≠ none) → freeK old i f bd ((textsOf s.free).foldl addL []) = (textsOf (kidsW old new i f sc s).free).foldl addL []
  | .none, _, _, _, _, _, _, _, _, _ => rfl
  | .tree n k r, old, new, i, bd, sc, s, hl, hk, hb => by
    obtain ⟨h1, h2, h3⟩ := hl
    have hb2 : ∀ x, x ∈ bd ++ knownZ old i ↔ findS (openS old new i sc) x ≠ none := fun x => by
      unfold openS
      rw [findS_open _ _ _ _ (knownZ_same hk i), List.mem_append, ← hb x, or_comm]
    rw [freeK, kidsW, ← free_pure r old new (i + 1) bd sc _ h3 hk hb]
    congr 1
    by_cases e : n.kind = 5
    · rw [if_pos e, h1 e]
      simp only [kidsW, stepW]
      unfold lostZ
      by_cases hf : findS (openS old new i sc) n.a = none
      · rw [if_neg (by rw [memB_iff, hb2]; exact fun h => h hf), if_pos ⟨e, hf⟩, texts_app, List.foldl_append]
        rfl
      · rw [if_pos (by rw [memB_iff, hb2]; exact hf), if_neg (fun h => hf h.2), List.append_nil]
    · rw [if_neg e, ← free_pure k n _ 0 _ _ _ h2 (renZ_kind _ _ _).symm hb2]
      congr 1
      unfold stepW lostZ
      rw [if_neg (fun h => e h.1)]
      simp

theorem free_whole (n : Nd) (k : Fo) (hl : leaf5 (.tree n k .none)) : freeN n k [] [] = freeOf (wholeW n k) := by
  obtain ⟨h1, h2, -⟩ := hl
  unfold freeN freeOf wholeW walkW
  by_cases e : n.kind = 5
  · rw [if_pos e, h1 e, if_neg (by rw [memB_iff]; simp)]
    simp only [kidsW, stepW, lostZ, findS]
    rw [if_pos ⟨e, trivial⟩]
    rfl
  · rw [if_neg e, ← free_pure k n _ 0 [] [] _ h2 (renZ_kind _ _ _).symm (fun x => by simp [findS])]
    congr 1
    unfold stepW lostZ
    rw [if_neg (fun h => e h.1)]
    rfl

theorem own_kids {m : Nd} (h : ownOk m = true) : (m.kind = 9 → m.kids ≤ 2) ∧ (m.kind = 5 → m.kids = 0) := by
  simp only [ownOk, Bool.and_eq_true] at h
  have hk := h.1
  constructor
  · intro e
    rw [e] at hk
    have : m.kids = 2 := of_decide_eq_true hk
    omega
  · intro e
    rw [e] at hk
    exact of_decide_eq_true hk

set_option maxRecDepth 100000 in
theorem specFree_calls {b off cap : Nat} {ns : List Nd} {n : Nd} {k : Fo} (w : World) (hm : ns.length ≤ 300) (hbw : b < w.heap.size) (hn : NodesAt w b off ns) (hA : SpecAns ns true) (hall : ns.all ownOk = true) (h1 : ns = n :: k.flat) (h2 : n.kids = k.count) (h3 : k.wf) :
    Calls Tryz.prog 12 #[.slice (some ⟨b, off, none⟩) ns.length cap] w fun e w' => ∃ u, e = .returned u ∧ NamesV w' u (bys (freeOf (wholeW n k))) ∧ Below w.heap.size w w' := by
  have HT := hid (specTree_calls b off cap ns w true (by omega) hbw hn hA)
  have hown : ∀ m ∈ ns, ownOk m = true := fun m hm => List.all_eq_true.1 hall m hm
  have hl : leaf5 (.tree n k .none) := leaf5_of _ ⟨h2, h3, trivial⟩ (fun m hm => (own_kids (hown m (by rw [h1]; simpa [Fo.flat] using hm))).2)
  have hkl : k.flat.length ≤ 300 := by rw [h1, List.length_cons] at hm; omega
  have HF := hid (fun X (hb : Below w.heap.size w X) => free_calls b off cap ns hm (fun m hm => (own_kids (hown m hm)).1) (k.flat.length + 1) n k [] 0 [] [] _ _ X (by have := hb.size; omega) (hn.below hb hbw) (by rw [h1]; simp) h2 h3 (Nat.lt_succ_self _) (names_none X) (names_none X) (by simp; omega) (by simp; omega))
  rw [← free_whole n k hl]
  clear hn hA hall hown hl hkl hm
  generalize ns.length = len at *
  go_enter Tryz.func12, Tryz.ntmps12
  go_wp2_with fail
  refine HT.out.mono ?_
  rintro e w2 ⟨rfl, hb2⟩
  go_wp2_with fail
  refine (HF.out w2 hb2).mono ?_
  rintro e w3 ⟨u, rfl, hu, hb3⟩
  have HU := hid (And.intro hu (hb2.trans (hb3.mono hb2.size)))
  clear hu hb3
  go_wp2_with fail
  go_ret
  exact ⟨_, rfl, HU.out.1, HU.out.2⟩

set_option maxRecDepth 100000 in
theorem specFree_bad {b off cap : Nat} {ns : List Nd} (w : World) (hm : ns.length ≤ 1048576) (hbw : b < w.heap.size) (hn : NodesAt w b off ns) (hA : SpecAns ns false) :
    Calls Tryz.prog 12 #[.slice (some ⟨b, off, none⟩) ns.length cap] w fun e w' => e = .returned (.slice none 0 0) ∧ Below w.heap.size w w' := by
  have HT := hid (specTree_calls b off cap ns w false hm hbw hn hA)
  clear hm hbw hn hA
  generalize ns.length = len at *
  go_enter Tryz.func12, Tryz.ntmps12
  go_wp2_with fail
  refine HT.out.mono ?_
  rintro e w2 ⟨rfl, hb2⟩
  go_wp2_with fail
  go_ret
  exact ⟨rfl, hb2⟩
end Go.Proofs.YtlhdicichdihfaaGreatDoor
