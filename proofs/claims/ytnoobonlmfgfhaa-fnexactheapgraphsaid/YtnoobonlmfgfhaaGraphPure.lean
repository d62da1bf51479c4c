/- What roots lead to, in plain words: objects are told by the place at which they are met. -/
import Derived.Test.YtnoobonlmfgfhaaHeapFacts
namespace Go.Proofs.Ytnoobonlmfgfhaa
open Go.RowKit

/-- Where an object lies now. -/
def nowZ (ws : List Int) (a : Nat) : Nat := if ws.getD a 0 % 16 = 15 then (ws.getD (a + 1) 0 / 8).toNat else a

/-- A word is told; an object that was not met yet is put behind those that were. -/
def tellZ (ws : List Int) (met : List Nat) (x : Int) : List Nat × Int :=
  if x % 8 = 0 then
    if nowZ ws (x / 8).toNat ∈ met then (met, 8 * (met.idxOf (nowZ ws (x / 8).toNat) : Int)) else (met ++ [nowZ ws (x / 8).toNat], 8 * (met.length : Int))
  else (met, x)

/-- So many words are told. -/
def tellsRun (ws xs : List Int) : Nat → List Nat → List Nat × List Int
  | 0, met => (met, [])
  | k + 1, met => ((tellZ ws (tellsRun ws xs k met).1 (xs.getD k 0)).1, (tellsRun ws xs k met).2 ++ [(tellZ ws (tellsRun ws xs k met).1 (xs.getD k 0)).2])

/-- The fields of an object. -/
def fieldsAtZ (ws : List Int) (a : Nat) : List Int := (List.range ((ws.getD a 0 / 16).toNat - 1)).map (fun i => ws.getD (a + 1 + i) 0)

/-- So many objects are told. -/
def graphRun (ws : List Int) : Nat → List Nat → List Nat × List (Int × List Int)
  | 0, met => (met, [])
  | k + 1, met => ((tellsRun ws (fieldsAtZ ws ((graphRun ws k met).1.getD k 0)) (fieldsAtZ ws ((graphRun ws k met).1.getD k 0)).length (graphRun ws k met).1).1, (graphRun ws k met).2 ++ [(ws.getD ((graphRun ws k met).1.getD k 0) 0 % 16, (tellsRun ws (fieldsAtZ ws ((graphRun ws k met).1.getD k 0)) (fieldsAtZ ws ((graphRun ws k met).1.getD k 0)).length (graphRun ws k met).1).2)])

/-- An object that lies where it is: its size, and where its fields may lead. -/
structure Node (ws S : List Int) (a : Nat) : Prop where
  here : S.getD a 0 ≠ 0
  kind : ws.getD a 0 % 16 ≠ 15

/-- A word leads to an object, if it leads anywhere. -/
def Leads (ws S : List Int) (x : Int) : Prop := x % 8 = 0 → 0 ≤ x / 8 ∧ x / 8 < (ws.length : Int) ∧ S.getD (x / 8).toNat 0 ≠ 0

theorem leads_of {ws S : List Int} {h : HpN} {x : Int} {old : Bool} (e : specLeads ws S h x old = true) : Leads ws S x := by
  intro hx
  obtain ⟨a1, a2, a3, -⟩ := specLeads_at hx e
  exact ⟨a1, a2, a3⟩

theorem at_ok {ws S : List Int} {h : HpN} (ok : OkHeap ws S h) {a : Nat} (hS : S.getD a 0 ≠ 0) : specAt ws S h a = true := by
  have ho := ok.objs
  unfold specObjs at ho
  rw [List.all_eq_true] at ho
  have h1 := ho a (List.mem_range.2 (ok.noted.2 a hS).1)
  rw [Bool.or_eq_true] at h1
  rcases h1 with h1 | h1
  · rw [beq_iff_eq] at h1
    exact absurd h1 hS
  · exact h1

theorem node_at {ws S : List Int} {h : HpN} (ok : OkHeap ws S h) {a : Nat} (n : Node ws S a) : (ws.getD a 0 / 16 = 3 ∨ ws.getD a 0 / 16 = 6) ∧ a + (ws.getD a 0 / 16).toNat ≤ ws.length ∧ ∀ i, i < (ws.getD a 0 / 16).toNat - 1 → Leads ws S (ws.getD (a + 1 + i) 0) := by
  have hd := (heads_noted ok.noted).2 a n.here
  have e := at_ok ok n.here
  unfold specAt at e
  rw [if_neg n.kind] at e
  have hn := ok.noted.2 a n.here
  have hsz : sizeN (ws.getD a 0) = (ws.getD a 0 / 16).toNat := by
    unfold sizeN
    rw [← hn.2.1, hd.2.2]
  rw [hsz] at e
  rw [List.all_eq_true] at e
  refine ⟨by rw [hd.2.2]; exact hd.1, by rw [← hsz]; exact hn.2.2, fun i hi => ?_⟩
  have e1 := e i (List.mem_range.2 hi)
  rw [show a + (i + 1) = a + 1 + i by omega] at e1
  exact leads_of e1

theorem now_node {ws S : List Int} {h : HpN} (ok : OkHeap ws S h) {x : Int} (hl : Leads ws S x) (hx : x % 8 = 0) : Node ws S (nowZ ws (x / 8).toNat) := by
  obtain ⟨h0, h1, hS⟩ := hl hx
  unfold nowZ
  by_cases hk : ws.getD (x / 8).toNat 0 % 16 = 15
  · rw [if_pos hk]
    have e := at_ok ok hS
    unfold specAt at e
    rw [if_pos hk] at e
    unfold specMoved at e
    rw [Bool.and_eq_true, Bool.and_eq_true, Bool.and_eq_true, decide_eq_true_eq, decide_eq_true_eq] at e
    obtain ⟨⟨⟨-, e1⟩, e2⟩, -⟩ := e
    obtain ⟨a1, a2, a3, a4⟩ := specLeads_at e2 e1
    rcases a4 with ⟨-, a4⟩ | ⟨-, a4⟩
    · exact ⟨a3, a4⟩
    · cases a4
  · rw [if_neg hk]
    exact ⟨hS, hk⟩

/-- The objects that were met. -/
structure Met (ws S : List Int) (met : List Nat) : Prop where
  once : met.Nodup
  nodes : ∀ a ∈ met, Node ws S a

theorem short_of_once : ∀ (N : Nat) (l : List Nat), l.Nodup → (∀ a ∈ l, a < N) → l.length ≤ N
  | 0, l, _, h => by
    cases l with
    | nil => exact Nat.le_refl _
    | cons a r => exact absurd (h a List.mem_cons_self) (by omega)
  | N + 1, l, hn, h => by
    by_cases hm : N ∈ l
    · have h1 := short_of_once N (l.erase N) (hn.erase N) (fun a ha => by
        have h2 := h a (List.mem_of_mem_erase ha)
        have h3 : a ≠ N := fun e => by
          subst e
          exact hn.not_mem_erase ha
        omega)
      have h4 := List.length_erase_of_mem hm
      have h5 : 0 < l.length := List.length_pos_of_mem hm
      omega
    · have := short_of_once N l hn (fun a ha => by
        have h2 := h a ha
        have h3 : a ≠ N := fun e => hm (e ▸ ha)
        omega)
      omega

theorem Met.short {ws S : List Int} {h : HpN} {met : List Nat} (ok : OkHeap ws S h) (m : Met ws S met) : met.length ≤ ws.length :=
  short_of_once _ _ m.once (fun a ha => (ok.noted.2 a (m.nodes a ha).here).1)

theorem Met.tell {ws S : List Int} {h : HpN} {met : List Nat} (ok : OkHeap ws S h) (m : Met ws S met) {x : Int} (hl : Leads ws S x) : Met ws S (tellZ ws met x).1 ∧ ∃ r, (tellZ ws met x).1 = met ++ r := by
  unfold tellZ
  by_cases hx : x % 8 = 0
  · rw [if_pos hx]
    by_cases hm : nowZ ws (x / 8).toNat ∈ met
    · rw [if_pos hm]
      exact ⟨m, [], by simp⟩
    · rw [if_neg hm]
      refine ⟨⟨?_, fun a ha => ?_⟩, _, rfl⟩
      · rw [List.nodup_append]
        refine ⟨m.once, by simp, fun a ha b hb => ?_⟩
        rw [List.mem_singleton] at hb
        subst hb
        exact fun e => hm (e ▸ ha)
      · rcases List.mem_append.1 ha with ha | ha
        · exact m.nodes a ha
        · rw [List.mem_singleton] at ha
          subst ha
          exact now_node ok hl hx
  · rw [if_neg hx]
    exact ⟨m, [], by simp⟩

theorem Met.tells {ws S xs : List Int} {h : HpN} {met : List Nat} (ok : OkHeap ws S h) (m : Met ws S met) (hl : ∀ i, i < xs.length → Leads ws S (xs.getD i 0)) : ∀ k, k ≤ xs.length → Met ws S (tellsRun ws xs k met).1 ∧ (∃ r, (tellsRun ws xs k met).1 = met ++ r) ∧ (tellsRun ws xs k met).2.length = k
  | 0, _ => ⟨m, ⟨[], by simp [tellsRun]⟩, rfl⟩
  | k + 1, hk => by
    obtain ⟨h1, ⟨r, h2⟩, h3⟩ := Met.tells ok m hl k (by omega)
    obtain ⟨h4, r', h5⟩ := h1.tell ok (hl k (by omega))
    unfold tellsRun
    refine ⟨h4, ⟨r ++ r', ?_⟩, by rw [List.length_append, h3]; rfl⟩
    dsimp only
    rw [h5, h2, List.append_assoc]

theorem fieldsAtZ_len (ws : List Int) (a : Nat) : (fieldsAtZ ws a).length = (ws.getD a 0 / 16).toNat - 1 := by
  unfold fieldsAtZ
  simp

theorem fieldsAtZ_get {ws : List Int} {a i : Nat} (hi : i < (ws.getD a 0 / 16).toNat - 1) : (fieldsAtZ ws a).getD i 0 = ws.getD (a + 1 + i) 0 := by
  unfold fieldsAtZ
  rw [List.getD_eq_getElem?_getD, List.getElem?_map, List.getElem?_range hi]
  rfl

theorem Met.graph {ws S : List Int} {h : HpN} {met : List Nat} (ok : OkHeap ws S h) (m : Met ws S met) : ∀ k, (∀ j, j < k → j < (graphRun ws j met).1.length) → Met ws S (graphRun ws k met).1 ∧ (∃ r, (graphRun ws k met).1 = met ++ r) ∧ (graphRun ws k met).2.length = k
  | 0, _ => ⟨m, ⟨[], by simp [graphRun]⟩, rfl⟩
  | k + 1, hj => by
    obtain ⟨h1, ⟨r, h2⟩, h3⟩ := Met.graph ok m k (fun j h => hj j (by omega))
    have hk := hj k (by omega)
    have hn : Node ws S ((graphRun ws k met).1.getD k 0) := h1.nodes _ (by simp [List.getD, hk])
    obtain ⟨-, -, hf⟩ := node_at ok hn
    obtain ⟨h4, ⟨r', h5⟩, h6⟩ := h1.tells ok (xs := fieldsAtZ ws ((graphRun ws k met).1.getD k 0)) (fun i hi => by
      rw [fieldsAtZ_len] at hi
      rw [fieldsAtZ_get hi]
      exact hf i hi) _ (Nat.le_refl _)
    unfold graphRun
    refine ⟨h4, ⟨r ++ r', ?_⟩, by rw [List.length_append, h3]; rfl⟩
    dsimp only
    rw [h5, h2, List.append_assoc]

/-- Which place an address has among those met. -/
def placeZ (met : List Nat) (a : Nat) : Int := if a ∈ met then (met.idxOf a : Int) else -1

theorem placeZ_new {met : List Nat} {a : Nat} (h : ¬ a ∈ met) (b : Nat) : placeZ (met ++ [a]) b = if b = a then (met.length : Int) else placeZ met b := by
  unfold placeZ
  by_cases hb : b = a
  · subst hb
    rw [if_pos (by simp), if_pos rfl, List.idxOf_append, if_neg h]
    simp
  · rw [if_neg hb]
    by_cases hm : b ∈ met
    · rw [if_pos (by simp [hm]), if_pos hm, List.idxOf_append, if_pos hm]
    · rw [if_neg (by simp [hm, hb]), if_neg hm]

theorem placeZ_range {met : List Nat} {a : Nat} : -1 ≤ placeZ met a ∧ placeZ met a < met.length := by
  unfold placeZ
  by_cases h : a ∈ met
  · rw [if_pos h]
    have := List.idxOf_lt_length_of_mem h
    omega
  · rw [if_neg h]
    omega

theorem placeZ_neg {met : List Nat} {a : Nat} : placeZ met a < 0 ↔ ¬ a ∈ met := by
  unfold placeZ
  by_cases h : a ∈ met
  · rw [if_pos h]
    constructor
    · intro h1
      omega
    · intro h1
      exact absurd h h1
  · rw [if_neg h]
    constructor
    · intro _
      exact h
    · intro _
      omega
end Go.Proofs.Ytnoobonlmfgfhaa
