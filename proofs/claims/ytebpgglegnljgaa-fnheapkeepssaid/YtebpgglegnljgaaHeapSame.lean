/- What the specification and the program ask of a heap is the same, all objects taken together. -/
import Derived.Test.YtebpgglegnljgaaSpecHeapE
import Derived.Test.YtebpgglegnljgaaImplHeapS
namespace Go.Proofs.Ytebpgglegnljgaa
open Go.RowKit

theorem specLeads_at {ws S : List Int} {h : HpN} {x : Int} {old : Bool} (hx : x % 8 = 0) (e : specLeads ws S h x old = true) :
    0 ≤ x / 8 ∧ x / 8 < (ws.length : Int) ∧ S.getD (x / 8).toNat 0 ≠ 0 ∧ ((inZ h (x / 8) = true ∧ ws.getD (x / 8).toNat 0 % 16 ≠ 15) ∨ (inZ h (x / 8) = false ∧ old = true)) := by
  unfold specLeads at e
  rw [if_neg (by simpa using hx)] at e
  split at e
  · cases e
  · rename_i hc
    refine ⟨by omega, by omega, by omega, ?_⟩
    cases hi : inZ h (x / 8)
    · rw [hi] at e
      right
      exact ⟨rfl, by simpa using e⟩
    · rw [hi] at e
      left
      exact ⟨rfl, by simpa using e⟩

theorem specLeads_mk {ws S : List Int} {h : HpN} {x : Int} {old : Bool} (hx : x % 8 = 0) (h0 : 0 ≤ x / 8) (h1 : x / 8 < (ws.length : Int)) (h2 : S.getD (x / 8).toNat 0 ≠ 0)
    (h3 : (inZ h (x / 8) = true ∧ ws.getD (x / 8).toNat 0 % 16 ≠ 15) ∨ (inZ h (x / 8) = false ∧ old = true)) : specLeads ws S h x old = true := by
  unfold specLeads
  rw [if_neg (by simpa using hx), if_neg (by omega)]
  rcases h3 with ⟨e1, e2⟩ | ⟨e1, e2⟩
  · rw [e1, decide_eq_true e2]
    rfl
  · rw [e1, e2]
    rfl

theorem leadsZ_mk {S : List Int} {size x sp : Int} (h0 : x % 8 = 0) (h1 : sp ≤ x / 8) (h2 : x / 8 < sp + size) (h3 : 0 < S.getD (x / 8).toNat 0) : leadsZ S size x sp = true := by
  unfold leadsZ
  rw [decide_eq_true h0, decide_eq_true (show sp ≤ x / 8 ∧ x / 8 < sp + size from ⟨h1, h2⟩), decide_eq_true h3]
  rfl

theorem noted_pos {ws S : List Int} (hS : Noted ws S) {a : Nat} (h : S.getD a 0 ≠ 0) : 0 < S.getD a 0 := by
  have e1 := hS.2 a h
  have e2 := size_three (ws.getD a 0)
  omega

theorem inZ_iff {h : HpN} {a : Int} : inZ h a = true ↔ h.to ≤ a ∧ a < h.to + h.size := by
  unfold inZ
  simp

theorem inZ_not {h : HpN} {a : Int} : inZ h a = false ↔ ¬ (h.to ≤ a ∧ a < h.to + h.size) := by
  unfold inZ
  rw [decide_eq_false_iff_not]

theorem field_to {ws S : List Int} {h : HpN} {old : Bool} {x : Int} (ho : Ordered h ws.length) (hS : Noted ws S) (e : specLeads ws S h x old = true) : implField S h old x = true := by
  obtain ⟨o1, o2, o3, o4, _⟩ := ho
  unfold implField wordOkZ
  by_cases hx : x % 8 = 0
  · obtain ⟨k0, k1, k2, k3⟩ := specLeads_at hx e
    have kp := noted_pos hS k2
    rw [if_pos hx]
    rcases k3 with ⟨hi, _⟩ | ⟨hi, ho⟩
    · have hi := inZ_iff.1 hi
      rw [leadsZ_mk hx hi.1 hi.2 kp]
      rfl
    · have hi := inZ_not.1 hi
      rw [ho, leadsZ_mk hx (sp := h.size - h.to) (by omega) (by omega) kp]
      simp
  · rw [if_neg hx]
    unfold specLeads at e
    rw [if_pos hx] at e
    rw [e]
    rfl

theorem field_from {ws S : List Int} {h : HpN} {old : Bool} {x : Int} (ho : Ordered h ws.length) (hm : ∀ a : Nat, inZ h (a : Int) = true → S.getD a 0 ≠ 0 → ws.getD a 0 % 16 ≠ 15) (e : implField S h old x = true) : specLeads ws S h x old = true := by
  obtain ⟨o1, o2, o3, o4, _⟩ := ho
  unfold implField wordOkZ at e
  by_cases hx : x % 8 = 0
  · rw [if_pos hx] at e
    rcases Bool.or_eq_true_iff.1 e with e | e
    · obtain ⟨k1, k2, k3, k4⟩ := leadsZ_at e
      have hi : inZ h (x / 8) = true := inZ_iff.2 ⟨k2, k3⟩
      have h0 : 0 ≤ x / 8 := by omega
      refine specLeads_mk hx h0 (by omega) (by omega) (Or.inl ⟨hi, hm _ ?_ (by omega)⟩)
      rw [Int.toNat_of_nonneg h0]
      exact hi
    · obtain ⟨e1, e2⟩ := Bool.and_eq_true_iff.1 e
      obtain ⟨k1, k2, k3, k4⟩ := leadsZ_at e2
      exact specLeads_mk hx (by omega) (by omega) (by omega) (Or.inr ⟨inZ_not.2 (by omega), e1⟩)
  · rw [if_neg hx] at e
    unfold specLeads
    rw [if_pos hx]
    rcases Bool.or_eq_true_iff.1 e with e | e
    · exact e
    · obtain ⟨e1, e2⟩ := Bool.and_eq_true_iff.1 e
      exact absurd (leadsZ_at e2).1 hx

theorem at_to {ws S : List Int} {h : HpN} {a : Nat} (ho : Ordered h ws.length) (hS : Noted ws S) (ha : S.getD a 0 ≠ 0) (e : specAt ws S h a = true) : implAt ws S h a = true := by
  unfold specAt at e
  unfold implAt
  split at e
  · rename_i hm
    rw [if_pos hm]
    unfold specMoved at e
    unfold implMoved
    simp only [Bool.and_eq_true, decide_eq_true_eq] at e
    obtain ⟨⟨⟨e1, e2⟩, e3⟩, e4⟩ := e
    obtain ⟨k0, k1, k2, k3⟩ := specLeads_at e3 e2
    rcases k3 with ⟨hi, _⟩ | ⟨_, hf⟩
    · have hi := inZ_iff.1 hi
      have s1 := (hS.2 _ k2).2.1
      have s2 := (hS.2 _ ha).2.1
      rw [e1, leadsZ_mk e3 hi.1 hi.2 (noted_pos hS k2), decide_eq_true (by rw [s1, s2]; exact e4)]
      rfl
    · cases hf
  · rename_i hm
    rw [if_neg hm, List.all_eq_true]
    rw [List.all_eq_true] at e
    exact fun i hi => field_to ho hS (e i hi)

theorem at_from {ws S : List Int} {h : HpN} {a : Nat} (ho : Ordered h ws.length) (hS : Noted ws S) (ha : S.getD a 0 ≠ 0) (hmv : ∀ a : Nat, inZ h (a : Int) = true → S.getD a 0 ≠ 0 → ws.getD a 0 % 16 ≠ 15) (e : implAt ws S h a = true) : specAt ws S h a = true := by
  have ho' := ho
  obtain ⟨o1, o2, o3, o4, _⟩ := ho'
  unfold implAt at e
  unfold specAt
  split at e
  · rename_i hm
    rw [if_pos hm]
    unfold implMoved at e
    unfold specMoved
    simp only [Bool.and_eq_true, decide_eq_true_eq] at e
    obtain ⟨e1, e2, e3⟩ := e
    obtain ⟨k1, k2, k3, k4⟩ := leadsZ_at e2
    have h0 : 0 ≤ ws.getD (a + 1) 0 / 8 := by omega
    have hi : inZ h (ws.getD (a + 1) 0 / 8) = true := inZ_iff.2 ⟨k2, k3⟩
    have hne : S.getD (ws.getD (a + 1) 0 / 8).toNat 0 ≠ 0 := by omega
    have hnm := hmv (ws.getD (a + 1) 0 / 8).toNat (by rw [Int.toNat_of_nonneg h0]; exact hi) hne
    have s1 := (hS.2 _ hne).2.1
    have s2 := (hS.2 _ ha).2.1
    rw [e1, specLeads_mk k1 h0 (by omega) hne (Or.inl ⟨hi, hnm⟩), decide_eq_true k1, decide_eq_true (by rw [← s1, ← s2]; exact e3)]
    rfl
  · rename_i hm
    rw [if_neg hm, List.all_eq_true]
    rw [List.all_eq_true] at e
    exact fun i hi => field_from ho hmv (e i hi)

theorem objs_same {ws S : List Int} {h : HpN} (ho : Ordered h ws.length) (hS : Noted ws S) : specObjs ws S h ws.length = implObjs ws S h ws.length := by
  unfold specObjs implObjs
  rw [Bool.eq_iff_iff, List.all_eq_true, List.all_eq_true]
  constructor
  · intro H a ha
    rcases Bool.or_eq_true_iff.1 (H a ha) with e | e
    · rw [e]
      rfl
    · by_cases h0 : S.getD a 0 = 0
      · rw [h0]
        rfl
      · rw [at_to ho hS h0 e]
        simp
  · intro H a ha
    have hmv : ∀ a : Nat, inZ h (a : Int) = true → S.getD a 0 ≠ 0 → ws.getD a 0 % 16 ≠ 15 := by
      intro c hc h0 hm
      rcases Bool.or_eq_true_iff.1 (H c (List.mem_range.2 (hS.2 c h0).1)) with e | e
      · exact h0 (by simpa using e)
      · unfold implAt at e
        rw [if_pos hm] at e
        unfold implMoved at e
        rw [hc] at e
        cases e
    rcases Bool.or_eq_true_iff.1 (H a ha) with e | e
    · rw [e]
      rfl
    · by_cases h0 : S.getD a 0 = 0
      · rw [h0]
        rfl
      · rw [at_from ho hS h0 hmv e]
        simp

theorem ok_same {ws : List Int} {h : HpN} (ho : Ordered h ws.length) : specOk ws h = implOk ws h := by
  have ho' := ho
  obtain ⟨o1, o2, o3, o4, o5, o6, o7, o8, o9, o10, o11, o12, o13⟩ := ho'
  unfold specOk implOk specLay implLay
  cases h1 : lay ws h.to.toNat h.bottom.toNat (List.replicate ws.length 0) with
  | none => rfl
  | some S1 =>
    have n1 := lay_noted (by omega) (zeros_noted ws) h1
    dsimp only
    cases h2 : lay ws h.top.toNat (h.to + h.size).toNat S1 with
    | none => rfl
    | some S2 =>
      have n2 := lay_noted (by omega) n1 h2
      dsimp only
      by_cases hs : h.scan < h.bottom
      · rw [if_pos hs, if_pos hs, decide_eq_true hs]
        cases h3 : lay ws (h.size - h.to).toNat h.fb.toNat S2 with
        | none =>
          dsimp only
          by_cases h0 : S2.getD h.scan.toNat 0 = 0
          · rw [if_pos h0]
          · rw [if_neg h0]
        | some S3 =>
          have n3 := lay_noted (by omega) n2 h3
          dsimp only
          cases h4 : lay ws h.ft.toNat (h.size - h.to + h.size).toNat S3 with
          | none =>
            dsimp only
            by_cases h0 : S2.getD h.scan.toNat 0 = 0
            · rw [if_pos h0]
            · rw [if_neg h0]
          | some S4 =>
            have n4 := lay_noted (by omega) n3 h4
            have k : S4.getD h.scan.toNat 0 = S2.getD h.scan.toNat 0 := (lay_else h4 _ (by omega)).trans (lay_else h3 _ (by omega))
            dsimp only
            rw [k]
            by_cases h0 : S2.getD h.scan.toNat 0 = 0
            · rw [if_pos h0, h0]
              rfl
            · rw [if_neg h0]
              have e0 : (S2.getD h.scan.toNat 0 == 0) = false := by simpa using h0
              rw [e0]
              exact objs_same ho n4
      · rw [if_neg hs, if_neg hs, decide_eq_false hs]
        exact objs_same ho n2
end Go.Proofs.Ytebpgglegnljgaa
