/- What the listed variables give the walk. -/
import Derived.Test.YtmjcifaihmecmaaDoorTextWalk
import Derived.Test.YtmjcifaihmecmaaDoorRows
import Derived.ProofKit
import Derived.LaidMore
import Derived.OpenShut
import Derived.Lib.LaidTab
namespace Go.Proofs.YtmjcifaihmecmaaDoor
open Go.ChangeShapes Go.WideShapes Go.ChangeAt Go.RowKit

/-- An array of texts that reads as the table holds the table's texts, cell for cell. -/
theorem cells_of_texts {H : Type} {enc : TypeId × Value → H} {P : Program} {w : World} {base : Nat} {sp : Nat → Bool} {held : Bool} {fuel : Nat} {t e : TypeId} {n : Nat} {cs : List Value} {zs : List (List UInt8)} {p : List MemPlace}
    (ht : P.underlying t = some (.array n e)) (he : P.underlying e = some .string) (hce : P.cellsOf e = 1) (hct : P.cellsOf t = n)
    (h : DataW.trod enc P w base sp held fuel t cs = some (.agg (zs.map fun z => .lit (.string z)), p)) : cs = zs.map fun z => Value.string ⟨z.toArray⟩ := by
  obtain ⟨xs, m, rfl, hx, hl, hn, hat⟩ := DataW.trod_array ht h
  rw [hct] at hl
  rw [Prod.mk.injEq, DataW.agg.injEq] at hx
  have hxs := hx.1
  have hzl : zs.length = n := by
    have := congrArg List.length hxs
    simp at this
    omega
  apply List.ext_getElem?
  intro i
  by_cases hi : i < n
  · have hi1 := hat i hi
    obtain ⟨b, hb⟩ : ∃ b, xs[i]? = some b := ⟨_, List.getElem?_eq_getElem (by omega)⟩
    rw [hb] at hi1
    obtain ⟨s, hc, rfl, _⟩ := DataW.trod_string he hi1
    have h1 : cs[i]? = some (.string s) := by
      have := congrArg (·[0]?) hc
      simpa [hce, List.getElem?_take, List.getElem?_drop] using this
    have h2 : (xs.map (·.1))[i]? = some (DataW.lit (.string s.data.toList) : DataW H) := by simp [hb]
    rw [← hxs] at h2
    simp only [List.getElem?_map, Option.map_eq_some_iff, DataW.lit.injEq, Lit.string.injEq] at h2
    obtain ⟨z, hz, rfl⟩ := h2
    simp [h1, hz]
  · rw [List.getElem?_eq_none (by omega), List.getElem?_eq_none (by simp; omega)]

theorem tWords : (Tryd.prog.globals[0]?).map (·.type) = some 46 := by kernel_rfl
theorem tPows : (Tryd.prog.globals[1]?).map (·.type) = some 67 := by kernel_rfl
theorem cWords : Tryd.prog.cellsOf 46 = 26 := by kernel_rfl
theorem cPows : Tryd.prog.cellsOf 67 = 20 := by kernel_rfl
theorem cString : Tryd.prog.cellsOf 9 = 1 := by kernel_rfl
theorem cUint : Tryd.prog.cellsOf 61 = 1 := by kernel_rfl

theorem pows_data : (Rows.laid_internal_strconv_uint64pow10 : DataW Unit) = Lib.tabData .u64 Lib.pow10Tab := by kernel_rfl
theorem words_data {H : Type} : (Rows.laid_loop_example_handrail_impl_insWords : DataW H) = .agg (insWordsL.map fun z => .lit (.string z)) := by kernel_rfl

theorem of_laid {W : World} (h : laidMetH Tryd.prog Rows.fnExactCodeTextRow.laid W) : Laid W := by
  rw [MakeChecks.laidMetH_plain _ _ _ (by kernel_rfl)] at h
  obtain ⟨ps, ⟨g0, t0, cs0, f0, p0, q0, hg0, ht0, hv0, hd0, ⟨g1, t1, cs1, f1, p1, q1, hg1, ht1, hv1, hd1, ⟨g2, t2, cs2, f2, p2, q2, hg2, ht2, hv2, hd2, ⟨g3, t3, cs3, f3, p3, q3, hg3, ht3, hv3, hd3, _⟩, _⟩, _⟩, _⟩, _⟩ := h
  obtain rfl := Option.some.inj (gPows.symm.trans hg2)
  obtain rfl := Option.some.inj (gWords.symm.trans hg3)
  obtain rfl := Option.some.inj (tPows.symm.trans ht2)
  obtain rfl := Option.some.inj (tWords.symm.trans ht3)
  refine ⟨?_, ?_⟩
  · rw [words_data] at hd3
    have := cells_of_texts Tryd.underlying46 Tryd.underlying9 cString cWords hd3
    rw [hv3, wordsArr, ← this]
  · rw [pows_data] at hd2
    have := Lib.cells_of_tab Tryd.underlying67 Tryd.underlying61 cUint cPows hd2
    unfold Lib.TabIs
    rw [hv2, ← this]
end Go.Proofs.YtmjcifaihmecmaaDoor
