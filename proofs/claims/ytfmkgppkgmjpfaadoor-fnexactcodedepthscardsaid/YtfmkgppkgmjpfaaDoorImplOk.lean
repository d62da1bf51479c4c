/- The program's CodeOk. -/
import Derived.Test.YtfmkgppkgmjpfaaDoorImplSpots
import Derived.Test.YtfmkgppkgmjpfaaDoorAsBad
import Derived.Test.YtfmkgppkgmjpfaaDoorInsHelp
namespace Go.Proofs.YtfmkgppkgmjpfaaDoor
open Go.RowKit

theorem LaidE.lt {w : World} (h : LaidE w) : 0 < w.heap.size := by
  rcases Nat.eq_zero_or_pos w.heap.size with h0 | h1
  · simp [LaidE, World.cell?, h0] at h
  · exact h1

theorem LaidE.stays {w w' : World} (h : LaidE w) (hb : Below w.heap.size w w') : LaidE w' := by
  have e := hb.block 0 h.lt
  unfold LaidE World.cell? at h ⊢
  simp only [e]
  exact h

theorem below_setAt {B : Nat} {W X : World} (h : Below B W X) (a : Addr) (v : Value) (ha : B ≤ a.block) : Below B W (X.setCell a v) := by
  have h0 := h.size
  exact ⟨h.os, h.tape, h.output, by simpa [World.setCell] using h0, fun q hq => (Below.heap_setCell X a v q (by omega)).trans (h.block q hq)⟩

theorem below_asW (w : World) (e t : Addr) {W : World} (h : Below W.heap.size W w) : Below W.heap.size W (asW w e t) := by
  unfold asW
  have h1 := h.alloc h.size (.cells #[.pointer (some t)] 67)
  have h2 := h1.alloc h1.size (.cells #[.pointer (some ⟨1, 67, none⟩), .pointer (some ⟨w.heap.size, 0, none⟩), .int .u64 150] 77)
  have h3 := h2.alloc h2.size (.cells #[.pointer (some ⟨1, 67, none⟩), .pointer (some ⟨w.heap.size, 0, none⟩), .int .u64 150] 77)
  exact h3.alloc h3.size _

theorem isBad_nil (w : World) : Calls Tryd.prog 19 #[.nilIface] w fun e w' => e = .returned (.bool false) ∧ Below w.heap.size w w' := by
  have HA := hid (fun t w => asBad_nil t w)
  go_enter Tryd.func19, Tryd.ntmps19
  go_wp2_with fail
  refine (HA.out _ _).mono ?_
  rintro e w2 ⟨rfl, rfl⟩
  go_wp2_with fail
  go_ret
  exact ⟨rfl, (Below.refl _ _).alloc (Nat.le_refl _) _⟩

theorem isBad_hit (pb : Nat) (w : World) (hL : LaidE w) : Calls Tryd.prog 19 #[.iface 55 (.pointer (some ⟨pb, 0, none⟩))] w fun e w' => e = .returned (.bool true) ∧ Below w.heap.size w w' := by
  have hb0 := (Below.refl w.heap.size w).alloc (Nat.le_refl _) (.cells #[.pointer none] 55)
  have HA := hid (asBad_hit ⟨pb, 0, none⟩ ⟨w.heap.size, 0, none⟩ (.pointer none) (w.alloc (.cells #[.pointer none] 55)) (hL.stays hb0) (by rw [World.cell?_alloc_at _ _ _ _ rfl]; rfl) (frozen_of_heap (MapKept.heap_alloc w (.cells #[.pointer none] 55)).1 0))
  have HB := hid (below_setAt (below_asW _ ⟨pb, 0, none⟩ ⟨w.heap.size, 0, none⟩ hb0) ⟨w.heap.size, 0, none⟩ (.pointer (some ⟨pb, 0, none⟩)) (Nat.le_refl _))
  clear hb0 hL
  go_enter Tryd.func19, Tryd.ntmps19
  go_wp2_with fail
  refine HA.out.mono ?_
  rintro e w2 ⟨rfl, rfl⟩
  obtain ⟨X, hX⟩ : ∃ X, (asW (w.alloc (.cells #[.pointer none] 55)) ⟨pb, 0, none⟩ ⟨w.heap.size, 0, none⟩).setCell ⟨w.heap.size, 0, none⟩ (.pointer (some ⟨pb, 0, none⟩)) = X := ⟨_, rfl⟩
  rw [hX] at HB ⊢
  clear hX HA
  go_wp2_with fail
  go_ret
  exact ⟨rfl, HB.out⟩

set_option maxRecDepth 100000 in
theorem indexNone_calls (ad : Option Addr) (cap : Nat) (w : World) :
    Calls Tryd.prog 40 #[.slice ad 0 cap, .func (.func 32) #[] #[]] w fun e w' => e = .returned (.int .i64 (-1)) ∧ w = w' := by
  go_enter Tryd.func40, Tryd.ntmps40
  go_wp2
  refine wp_loop_rounds 1 ?_
  rw [rounds_succ]
  go_wp2
  go_ret
  exact ⟨rfl, rfl⟩

set_option maxRecDepth 100000 in
theorem listNone_calls (ad : Option Addr) (cap : Nat) (w : World) :
    Calls Tryd.prog 24 #[.slice ad 0 cap] w fun e w' => e = .returned (.bool true) ∧ Below w.heap.size w w' := by
  have HY : Hid (∀ X, Calls Tryd.prog 31 #[.slice ad 0 cap, .func (.func 32) #[] #[]] X fun e w' => e = .returned (.bool false) ∧ X = w') := by
    show ∀ X, _
    intro X
    go_enter Tryd.func31, Tryd.ntmps31
    go_wp2_with fail
    refine (indexNone_calls ad cap _).mono ?_
    rintro e w2 ⟨rfl, rfl⟩
    go_wp2_with fail
    go_ret
    exact ⟨rfl, rfl⟩
  go_enter Tryd.func24, Tryd.ntmps24
  go_wp2_with fail
  refine (HY.out _).mono ?_
  rintro e w2 ⟨rfl, rfl⟩
  go_wp2_with fail
  go_ret
  exact ⟨rfl, Below.refl _ _⟩

theorem spots_any {ac : Option Addr} {cc : Nat} {is : List In} (w : World) (h : InsSlice w (.slice ac is.length cc) is) (hcc : is.length ≤ cc) :
    Calls Tryd.prog 18 #[.slice ac is.length cc] w (SpotsP is w) := by
  obtain ⟨a, cap, e, hh⟩ := h
  have e1 : ac = a := by injection e
  subst e1
  refine codeSpots_calls ac cc is w hcc (hh.imp id fun ⟨b, o, h1, h2, h3⟩ => ⟨b, o, h1, h2, h3⟩) ?_
  show Calls _ _ _ _ _
  rcases hh with rfl | ⟨b, o, rfl, h2, h3⟩
  · exact listNone_calls ac cc w
  · exact listOk_calls b o cc is w h2 h3

theorem implOk_any {ac : Option Addr} {cc : Nat} {is : List In} (w : World) (hL : LaidE w) (h : InsSlice w (.slice ac is.length cc) is) (hcc : is.length ≤ cc) :
    Calls Tryd.prog 8 #[.slice ac is.length cc] w fun e w' => e = .returned (.bool (validZ is)) ∧ Below w.heap.size w w' := by
  have HS := hid (spots_any w h hcc)
  have HL := hid hL
  clear h hL hcc
  go_enter Tryd.func8, Tryd.ntmps8
  go_wp2_with fail
  refine HS.out.mono ?_
  rintro e W1 ⟨hb, ⟨hv, pb, rfl⟩ | ⟨hv, T, g, -, rfl, -⟩⟩
  · have HI := hid (isBad_hit pb W1 (HL.out.stays hb))
    have HB := hid hb
    have HV := hid hv
    clear hb hv HS HL
    go_wp2_with fail
    refine HI.out.mono ?_
    rintro e W2 ⟨rfl, hb2⟩
    have HB2 := hid hb2
    clear hb2 HI
    go_wp2_with fail
    go_ret
    exact ⟨by rw [HV.out]; rfl, HB.out.trans (HB2.out.mono HB.out.size)⟩
  · have HI := hid (isBad_nil W1)
    have HB := hid hb
    have HV := hid hv
    clear hb hv HS HL
    go_wp2_with fail
    refine HI.out.mono ?_
    rintro e W2 ⟨rfl, hb2⟩
    have HB2 := hid hb2
    clear hb2 HI
    go_wp2_with fail
    go_ret
    exact ⟨by rw [HV.out]; rfl, HB.out.trans (HB2.out.mono HB.out.size)⟩
end Go.Proofs.YtfmkgppkgmjpfaaDoor
