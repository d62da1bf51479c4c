/- What CodeDepths tells, on both sides the same. -/
import Derived.Test.YtfmkgppkgmjpfaaDoorImplDepths
import Derived.Test.YtfmkgppkgmjpfaaDoorCheckEnd
import Derived.Test.YtfmkgppkgmjpfaaDoorIntRows
namespace Go.Proofs.YtfmkgppkgmjpfaaDoor
open Go.RowKit

open Classical in
noncomputable def depT (is : List In) : List Sq := if h : validZ is = true ∧ ∃ T, Whole is T then h.2.choose else []

theorem depT_eq {is : List In} {T : List Sq} (hv : validZ is = true) (h : Whole is T) : depT is = T := by
  have hx : validZ is = true ∧ ∃ T, Whole is T := ⟨hv, T, h⟩
  unfold depT
  rw [dif_pos hx]
  exact whole_one hx.2.choose_spec h

theorem depT_bad {is : List In} (hv : validZ is = false) : depT is = [] := by
  unfold depT
  rw [dif_neg (by rw [hv]; simp)]

noncomputable def envL (is : List In) : List Int := (depT is).map envV
noncomputable def stkL (is : List In) : List Int := (depT is).map stkV

/-- Both sides' answer. -/
def BothP (is : List In) (w : World) (e : Ending) (w' : World) : Prop :=
  ∃ va vb, e = .returned (.tuple #[va, vb, .bool (validZ is)]) ∧ SliceR 3 1 w.heap.size w' va (depT is).length (intCells (envL is)) ∧ SliceR 3 1 w.heap.size w' vb (depT is).length (intCells (stkL is)) ∧ Below w.heap.size w w'

theorem rowI_map (f : Sq → Int) (T : List Sq) : rowI f T = (T.map f).map (fun b => .int .i64 b) := by
  unfold rowI
  rw [List.map_map]
  rfl

theorem specBoth {v : Value} {is : List In} (w : World) (h : InsSlice w v is) (hm : is.length ≤ 1048576) : Calls Tryd.prog 10 #[v] w (BothP is w) := by
  refine (specDepths_any w h hm).mono ?_
  rintro e w' ⟨hb, ⟨hv, rfl⟩ | ⟨hv, T, ve, vs, hw, rfl, r1, r2⟩⟩
  · refine ⟨_, _, by rw [hv], ?_, ?_, hb⟩
    · rw [depT_bad hv]
      exact ⟨none, 0, rfl, Or.inl rfl⟩
    · rw [depT_bad hv]
      exact ⟨none, 0, rfl, Or.inl rfl⟩
  · have hl := hw.len
    have he := depT_eq hv hw
    rw [rowI_map] at r1 r2
    refine ⟨_, _, by rw [hv], ?_, ?_, hb⟩
    · have := intSliceR_of_owns (bs := T.map envV) (by rw [List.length_map, hl]; exact r1)
      unfold envL
      rw [he]
      rw [List.length_map] at this
      exact this
    · have := intSliceR_of_owns (bs := T.map stkV) (by rw [List.length_map, hl]; exact r2)
      unfold stkL
      rw [he]
      rw [List.length_map] at this
      exact this

theorem cellRow_dep {w : World} {g n : Nat} {T : List Sq} {f : Sq → Int} (hl : T.length = n) (h : w.rowIs g 3 n (depF f T n)) : CellRow 3 w g (n * 1) (intCells (T.map f)) := by
  rw [Nat.mul_one]
  refine ⟨n, _, rw_of_row h n, Nat.le_refl _, fun i hi => ?_⟩
  unfold depF intCells tg
  rw [if_pos hi]
  have h2 : i < T.length := by omega
  simp [List.getD_eq_getElem?_getD, List.getElem?_map, List.getElem?_eq_getElem h2]

/-- The program's answer: its lists lie apart. -/
def BothI (is : List In) (w : World) (e : Ending) (w' : World) : Prop :=
  ∃ va vb, e = .returned (.tuple #[va, vb, .bool (validZ is)]) ∧ SliceR 3 1 w.heap.size w' va (depT is).length (intCells (envL is)) ∧ SliceR 3 1 w.heap.size w' vb (depT is).length (intCells (stkL is)) ∧ ((depT is).length ≠ 0 → va.ownBlock ≠ vb.ownBlock) ∧ Below w.heap.size w w'

theorem implBoth {ac : Option Addr} {cc : Nat} {is : List In} (w : World) (hL : LaidE w) (h : InsSlice w (.slice ac is.length cc) is) (hcc : is.length ≤ cc) : Calls Tryd.prog 11 #[.slice ac is.length cc] w (BothI is w) := by
  refine (implDepths_any w hL h hcc).mono ?_
  rintro e w' ⟨hb, ⟨hv, rfl⟩ | ⟨hv, T, gN, gV, hw, rfl, l1, l2, hne, r1, r2⟩⟩
  · refine ⟨_, _, by rw [hv], ?_, ?_, fun h => (by rw [depT_bad hv] at h; simp at h), hb⟩
    · rw [depT_bad hv]
      exact ⟨none, 0, rfl, Or.inl rfl⟩
    · rw [depT_bad hv]
      exact ⟨none, 0, rfl, Or.inl rfl⟩
  · have hl := hw.len
    have he := depT_eq hv hw
    refine ⟨_, _, by rw [hv], ?_, ?_, fun _ => by simp [Value.ownBlock]; exact hne, hb⟩
    · unfold envL
      rw [he, hl]
      exact ⟨_, _, rfl, Or.inr ⟨gN, rfl, l1, cellRow_dep hl r1⟩⟩
    · unfold stkL
      rw [he, hl]
      exact ⟨_, _, rfl, Or.inr ⟨gV, rfl, l2, cellRow_dep hl r2⟩⟩
end Go.Proofs.YtfmkgppkgmjpfaaDoor
