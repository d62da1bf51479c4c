/- What is known of a heap that may be: which words lead where. -/
import Derived.Test.YtebpgglegnljgaaHeapSame
import Derived.Test.YtebpgglegnljgaaSpecWkA
namespace Go.Proofs.Ytebpgglegnljgaa
open Go.RowKit

/-- A heap that may be, and what lies where in it. -/
structure OkHeap (ws S : List Int) (h : HpN) : Prop where
  ord : Ordered h ws.length
  spec : specLay ws h = some S
  impl : implLay ws h = some S
  noted : Noted ws S
  objs : specObjs ws S h ws.length = true
  scan : h.scan < h.bottom → S.getD h.scan.toNat 0 ≠ 0

theorem ok_facts {ws : List Int} {h : HpN} (ho : Ordered h ws.length) (hk : specOk ws h = true) : ∃ S, OkHeap ws S h := by
  have hi := ok_same ho
  rw [hk] at hi
  unfold specOk at hk
  cases hs : specLay ws h with
  | none => rw [hs] at hk; cases hk
  | some S =>
    rw [hs] at hk
    dsimp only at hk
    rw [Bool.and_eq_true] at hk
    refine ⟨S, ho, hs, ?_, specLay_noted rfl ho hs, hk.2, ?_⟩
    · have hsc := hk.1
      unfold specLay at hs
      unfold implLay
      cases h1 : lay ws h.to.toNat h.bottom.toNat (List.replicate ws.length 0) with
      | none => rw [h1] at hs; cases hs
      | some S1 =>
        rw [h1] at hs
        dsimp only at hs ⊢
        cases h2 : lay ws h.top.toNat (h.to + h.size).toNat S1 with
        | none => rw [h2] at hs; cases hs
        | some S2 =>
          rw [h2] at hs
          dsimp only at hs ⊢
          by_cases hb : h.scan < h.bottom
          · rw [if_pos hb] at hs ⊢
            obtain ⟨o1, o2, o3, o4, o5, o6, o7, o8, o9, o10, o11, o12, o13⟩ := ho
            cases h3 : lay ws (h.size - h.to).toNat h.fb.toNat S2 with
            | none => rw [h3] at hs; cases hs
            | some S3 =>
              rw [h3] at hs
              dsimp only at hs ⊢
              have k : S.getD h.scan.toNat 0 = S2.getD h.scan.toNat 0 := (lay_else hs _ (by omega)).trans (lay_else h3 _ (by omega))
              rw [decide_eq_true hb, k] at hsc
              rw [if_neg (by simpa using hsc)]
              exact hs
          · rw [if_neg hb] at hs ⊢
            exact hs
    · intro hb h0
      have hsc := hk.1
      rw [decide_eq_true hb, h0] at hsc
      cases hsc

/-- A word leads nowhere, or to where an object begins. -/
def GoodW (ws S : List Int) (x : Int) : Prop := x % 8 = 0 → 0 ≤ x / 8 ∧ x / 8 < (ws.length : Int) ∧ S.getD (x / 8).toNat 0 ≠ 0

theorem good_of_leads {ws S : List Int} {h : HpN} {x : Int} {old : Bool} (e : specLeads ws S h x old = true) : GoodW ws S x := by
  intro hx
  unfold specLeads at e
  rw [if_neg (by omega)] at e
  split at e
  · cases e
  · rename_i hn
    omega

theorem good_here {ws S : List Int} {h : HpN} {x : Int} (ho : Ordered h ws.length) (hg : GoodW ws S x) : hereZ h x = !lateZ h x := by
  obtain ⟨o1, o2, o3, o4, -⟩ := ho
  unfold hereZ lateZ inZ
  by_cases hx : x % 8 = 0
  · obtain ⟨g1, g2, -⟩ := hg hx
    rw [if_pos hx, decide_eq_true hx, Bool.true_and, Bool.eq_iff_iff]
    simp
    omega
  · rw [if_neg hx, decide_eq_false hx]
    rfl

theorem size_div {x : Int} (h : sizeZ x ≠ 0) : sizeZ x = x / 16 ∧ (x / 16 = 3 ∨ x / 16 = 6) := by
  have h3 := size_three x
  have e : sizeZ x = x / 16 := by
    unfold sizeZ at h ⊢
    split
    · rename_i h1
      rw [if_pos h1] at h
      split
      · rfl
      · rename_i h2
        rw [if_neg h2] at h
        exact absurd rfl h
    · rename_i h1
      rw [if_neg h1] at h
      split
      · rename_i h2
        rw [if_pos h2] at h
        exact absurd rfl h
      · rfl
  omega

/-- Where objects begin their first words tell their sizes, or that they were moved. -/
def Heads (ws S : List Int) : Prop := S.length = ws.length ∧ ∀ a, S.getD a 0 ≠ 0 → (S.getD a 0 = 3 ∨ S.getD a 0 = 6) ∧ a + (S.getD a 0).toNat ≤ ws.length ∧ ws.getD a 0 / 16 = S.getD a 0

theorem heads_noted {ws S : List Int} (hn : Noted ws S) : Heads ws S := by
  refine ⟨hn.1, fun a ha => ?_⟩
  obtain ⟨h1, h2, h3⟩ := hn.2 a ha
  rw [h2] at ha
  obtain ⟨e1, e2⟩ := size_div ha
  have e3 := sizeN_cast (ws.getD a 0)
  rw [h2, e1]
  refine ⟨e2, by omega, rfl⟩

theorem good_move {ws S : List Int} {h : HpN} {x : Int} (hn : Heads ws S) (hg : GoodW ws S x) : MoveOk ws h ws.length x := by
  intro hl
  have hx : x % 8 = 0 := by
    unfold lateZ at hl
    rw [Bool.and_eq_true, decide_eq_true_eq] at hl
    exact hl.1
  obtain ⟨g1, g2, g3⟩ := hg hx
  obtain ⟨h1, h2, h3⟩ := hn.2 _ g3
  refine ⟨by omega, fun _ => ?_⟩
  rw [h3]
  exact ⟨h1, h2⟩

/-- The fields of an object that lies in use lead somewhere. -/
theorem field_good {ws S : List Int} {h : HpN} (ok : OkHeap ws S h) {a i : Nat} (ha : S.getD a 0 ≠ 0) (hm : ws.getD a 0 % 16 ≠ 15) (hi : (i : Int) < S.getD a 0 - 1) : GoodW ws S (ws.getD (a + 1 + i) 0) := by
  have h1 := ok.noted.2 a ha
  have h2 := ok.objs
  unfold specObjs at h2
  rw [List.all_eq_true] at h2
  have h3 := h2 a (List.mem_range.2 h1.1)
  rw [Bool.or_eq_true] at h3
  have h4 : specAt ws S h a = true := h3.resolve_left (by simpa using ha)
  unfold specAt at h4
  rw [if_neg hm, List.all_eq_true] at h4
  have e3 := sizeN_cast (ws.getD a 0)
  have h5 := h4 i (List.mem_range.2 (by omega))
  rw [show a + 1 + i = a + (i + 1) by omega]
  exact good_of_leads h5

/-- Objects in use were not moved. -/
theorem used_stays {ws S : List Int} {h : HpN} (ok : OkHeap ws S h) {a : Nat} (ha : S.getD a 0 ≠ 0) (hin : inZ h (a : Int) = true) : ws.getD a 0 % 16 ≠ 15 := by
  intro hm
  have h1 := ok.noted.2 a ha
  have h2 := ok.objs
  unfold specObjs at h2
  rw [List.all_eq_true] at h2
  have h3 := h2 a (List.mem_range.2 h1.1)
  rw [Bool.or_eq_true] at h3
  have h4 : specAt ws S h a = true := h3.resolve_left (by simpa using ha)
  unfold specAt at h4
  rw [if_pos hm] at h4
  unfold specMoved at h4
  rw [hin] at h4
  cases h4

/-- To lead to an object in use is the same to both sides. -/
theorem used_same {ws S : List Int} {h : HpN} (ok : OkHeap ws S h) (x : Int) : wordOkZ S h x = specLeads ws S h x false := by
  rw [Bool.eq_iff_iff]
  have ho := ok.ord
  obtain ⟨o1, o2, o3, o4, -⟩ := ho
  unfold wordOkZ
  by_cases hx : x % 8 = 0
  · rw [if_pos hx]
    constructor
    · intro e
      obtain ⟨-, l1, l2, l3⟩ := leadsZ_at e
      have hst := used_stays ok (a := (x / 8).toNat) (by omega) (inZ_iff.2 (by omega))
      exact specLeads_mk hx (by omega) (by omega) (by omega) (Or.inl ⟨inZ_iff.2 ⟨l1, l2⟩, hst⟩)
    · intro e
      obtain ⟨a1, a2, a3, a4⟩ := specLeads_at hx e
      rcases a4 with ⟨b1, -⟩ | ⟨-, b2⟩
      · exact leadsZ_mk hx (inZ_iff.1 b1).1 (inZ_iff.1 b1).2 (noted_pos ok.noted a3)
      · cases b2
  · rw [if_neg hx]
    unfold specLeads
    rw [if_pos hx]
end Go.Proofs.Ytebpgglegnljgaa
