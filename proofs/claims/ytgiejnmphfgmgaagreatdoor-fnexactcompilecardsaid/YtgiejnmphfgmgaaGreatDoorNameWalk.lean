/- The namer's walk over a form. -/
import Derived.Test.YtgiejnmphfgmgaaGreatDoorNameRenB
namespace Go.Proofs.YtgiejnmphfgmgaaGreatDoor
open Go.RowKit Go.Deep

theorem info_nd : (Tryz.prog.info? 81).map (fun i => (i.zero, i.size, i.bytes)) = some (some (.agg #[.int .i64 0, .int .i64 0, .string ⟨#[]⟩, .string ⟨#[]⟩, .string ⟨#[]⟩, .int .i64 0]), 6, 72) := by kernel_rfl

/-- A node that its form keeps whole. -/
def Whole (n : Nd) : Prop := bareZ n = { n with kids := 0 } ∧ n.a.size ≤ 281474976710656

theorem node6_set {w : World} {b : Nat} {t : TypeId} {x0 x1 x2 x3 x4 x5 : Value} (h : w.heap[b]? = some (.cells #[x0, x1, x2, x3, x4, x5] t)) (v : Value) : (w.setCell ⟨b, 5, none⟩ v).heap[b]? = some (.cells #[x0, x1, x2, x3, x4, v] t) := by
  simp [World.setCell, Array.getElem?_modify, h]

theorem nodeOf_result {tmps : Array Value} {g : Nat} {X : World} {v0 v1 v2 v3 v4 v5 : Value} (hg : tmps.getD 2 undef = .pointer (some ⟨g, 0, none⟩)) (h : X.heap[g]? = some (.cells #[v0, v1, v2, v3, v4, v5] 81)) : (results Tryz.f88 tmps).run Tryz.prog X = .ok (.agg #[v0, v1, v2, v3, v4, v5]) X := by
  rw [Array.getD_eq_getD_getElem?] at hg
  have c0 := cell_of_heap h 0
  have c1 := cell_of_heap h 1
  have c2 := cell_of_heap h 2
  have c3 := cell_of_heap h 3
  have c4 := cell_of_heap h 4
  have c5 := cell_of_heap h 5
  simp at c0 c1 c2 c3 c4 c5
  simp [results, Tryz.results88, go_sem, hg, c0, c1, c2, c3, c4, c5]

theorem sliceOf_len {B : Nat} {w : World} {sv : Value} {us : List Value} (h : SliceOf B w sv us) : ∃ ad c, sv = .slice ad us.length c := by
  rcases h with ⟨rfl, a, c, rfl⟩ | ⟨g, o, cap, rfl, -⟩
  · exact ⟨a, c, rfl⟩
  · exact ⟨_, _, rfl⟩

set_option maxHeartbeats 2000000 in
set_option maxRecDepth 100000 in
theorem nodeOfF_calls {B : Nat} {n : Nd} {us : List Value} {v : Value} (w : World) (hS : Shape B w n us v) (hi : ∀ u ∈ us, ∃ T p, u = .iface T p) (hw : Whole n) (hk : n.kids = us.length) :
    Calls Tryz.prog 88 #[v] w fun e w' => e = .returned (ndV n) ∧ Below w.heap.size w w' := by
  have hA := (MapKept.heap_alloc w (.cells #[.int .i64 0, .int .i64 0, .string ⟨#[]⟩, .string ⟨#[]⟩, .string ⟨#[]⟩, .int .i64 0] 81)).1
  have hbA := (Below.refl w.heap.size w).alloc (Nat.le_refl _) (.cells #[.int .i64 0, .int .i64 0, .string ⟨#[]⟩, .string ⟨#[]⟩, .string ⟨#[]⟩, .int .i64 0] 81)
  have hNo := nodeOf (hS.below hbA) hi
  rw [hw.1] at hNo
  obtain ⟨kd, num, a, b, c, kids⟩ := n
  dsimp only at hNo hk
  obtain ⟨T, pv, g, rv, e0, hmth, hcf, hNd⟩ := hNo
  subst e0
  have HS := hid (hS.below hbA)
  have HI := hid hi
  have HBA := hid hbA
  have HA := hid hA
  have HN := hid hNd
  subst hk
  unfold ndV
  dsimp only
  clear hS hi hw hNd hbA hA
  go_enter Tryz.func88, Tryz.ntmps88
  go_wp2_with fail
  refine HN.out.mono ?_
  rintro e w2 ⟨rfl, hb2⟩
  unfold ndV
  dsimp only
  generalize w.alloc (.cells #[.int .i64 0, .int .i64 0, .string ⟨#[]⟩, .string ⟨#[]⟩, .string ⟨#[]⟩, .int .i64 0] 81) = wA at *
  have hB3 := (MapKept.heap_alloc w2 (.cells #[.int .i64 kd, .int .i64 num, .string a, .string b, .string c, .int .i64 0] 81)).1
  have hb3 := (Below.refl w2.heap.size w2).alloc (Nat.le_refl _) (.cells #[.int .i64 kd, .int .i64 num, .string a, .string b, .string c, .int .i64 0] 81)
  have hA3 := (hb3.block _ (heap_lt ((hb2.block _ (heap_lt HA.out)).trans HA.out))).trans ((hb2.block _ (heap_lt HA.out)).trans HA.out)
  have hbA3 := hb2.trans (hb3.mono hb2.size)
  have hK := kidsOf (HS.out.below hbA3) HI.out
  obtain ⟨T', pv', g', rv', e1, hmth', hcf', hKd⟩ := hK
  cases e1
  have HK := hid hKd
  have HBw3 := hid (HBA.out.trans (hbA3.mono HBA.out.size))
  have hwlt : w.heap.size < w2.heap.size := by have := heap_lt HA.out; have := hb2.size; omega
  clear hKd HN hmth hcf hb2 hbA3 HS HA
  go_upto_region 2 with fail
  generalize w2.alloc (.cells #[.int .i64 kd, .int .i64 num, .string a, .string b, .string c, .int .i64 0] 81) = w3 at *
  generalize hB3g : w2.heap.size = b3 at *
  clear hB3g hb3
  go_wp2_with fail
  refine HK.out.mono ?_
  rintro e w4 ⟨sv, rfl, hsl, hb4⟩
  obtain ⟨ad, cc, rfl⟩ := sliceOf_len hsl
  have hA4 := (hb4.block _ (heap_lt hA3)).trans hA3
  have hB4 := (hb4.block _ (heap_lt hB3)).trans hB3
  have HBw4 := hid (HBw3.out.trans (hb4.mono HBw3.out.size))
  have c0 := cell_of_heap hB4 0
  have c1 := cell_of_heap hB4 1
  have c2 := cell_of_heap hB4 2
  have c3 := cell_of_heap hB4 3
  have c4 := cell_of_heap hB4 4
  have c5 := cell_of_heap hB4 5
  have z5 := frozen_of_heap hB4 5
  have e0 := cell_of_heap hA4 0
  have e1 := cell_of_heap hA4 1
  have e2 := cell_of_heap hA4 2
  have e3 := cell_of_heap hA4 3
  have e4 := cell_of_heap hA4 4
  have e5 := cell_of_heap hA4 5
  have y0 := frozen_of_heap hA4 0
  have y1 := frozen_of_heap hA4 1
  have y2 := frozen_of_heap hA4 2
  have y3 := frozen_of_heap hA4 3
  have y4 := frozen_of_heap hA4 4
  have y5 := frozen_of_heap hA4 5
  simp at c0 c1 c2 c3 c4 c5 e0 e1 e2 e3 e4 e5
  have HA4 := hid hA4
  have HB4 := hid hB4
  have hne : w.heap.size ≠ b3 := by omega
  clear HK hmth' hcf' hsl hb4 hA3 hB3 hA4 hB4 HBw3
  go_wp2_with fail
  refine bodyPost_ret (nodeOf_result (tmps := _) rfl (box6_all ((Below.heap_setCell w4 ⟨b3, 5, none⟩ _ _ hne).trans HA4.out) _ _ _ _ _ _)) rfl ?_
  exact ⟨rfl, (((((((HBw4.out.setCell (p := ⟨b3, 5, none⟩) (by dsimp only; omega) _).setCell (p := ⟨w.heap.size, 0, none⟩) (Nat.le_refl _) _).setCell (p := ⟨w.heap.size, 1, none⟩) (Nat.le_refl _) _).setCell (p := ⟨w.heap.size, 2, none⟩) (Nat.le_refl _) _).setCell (p := ⟨w.heap.size, 3, none⟩) (Nat.le_refl _) _).setCell (p := ⟨w.heap.size, 4, none⟩) (Nat.le_refl _) _).setCell (p := ⟨w.heap.size, 5, none⟩) (Nat.le_refl _) _)⟩
end Go.Proofs.YtgiejnmphfgmgaaGreatDoor
