/- At every list of instructions the program's CodeOk is the specification's. -/
import Derived.Test.YtfmkgppkgmjpfaaDoorImplOk
import Derived.Test.YtfmkgppkgmjpfaaDoorCheckEnd
import Derived.Test.YtfmkgppkgmjpfaaDoorInsMarks
namespace Go.Proofs.YtfmkgppkgmjpfaaDoor
open Go.RowKit

theorem toInsC {v : Value} {ns : List In} (w : World) (hv : InsSlice w v ns) (hm : ns.length ≤ 1048576) :
    Calls Tryd.prog 7 #[v] w fun e w' => (e = .returned (.slice (some ⟨w.heap.size, 0, none⟩) ns.length ns.length) ∧ SliceR 40 4 w.heap.size w' (.slice (some ⟨w.heap.size, 0, none⟩) ns.length ns.length) ns.length (insCells ns)) ∧ Below w.heap.size w w' := by
  obtain ⟨a, cap, rfl, h⟩ := hv
  by_cases he : ns = []
  · subst he
    refine (toInsS_none a cap w).mono ?_
    rintro e w' ⟨rfl, h2⟩
    exact ⟨⟨rfl, _, _, rfl, Or.inl rfl⟩, h2⟩
  · obtain ⟨b, off, rfl, hb, hn⟩ := h.resolve_left he
    refine (toInsS_rows b off cap ns w hb hn hm).mono ?_
    rintro e w' ⟨rfl, h1, h2⟩
    exact ⟨⟨rfl, _, _, rfl, Or.inr ⟨_, rfl, Nat.le_refl _, h1⟩⟩, h2⟩

set_option maxHeartbeats 4000000 in
set_option maxRecDepth 100000 in
theorem okWalk {v : Value} {cs : List In} (w : World) (hL : LaidE w) (hv : InsSlice w v cs) (hm : cs.length ≤ maxLen) :
    Calls Tryd.prog 3 #[v] w fun e w' => e = .returned (.bool true) ∧ Below w.heap.size w w' := by
  have hv' := hv
  obtain ⟨a0, cap, hvv, _⟩ := hv'
  have HSZ : Hid (∀ w, Calls Tryd.prog 5 #[v, .int .i64 1048576] w fun e w' => (∃ r : Int, e = .returned (.int .i64 r) ∧ (r < 0 ∨ (0 ≤ r ∧ cs.length ≤ 1048576))) ∧ w = w') := fun w => by rw [hvv]; exact szInsS_calls a0 cs.length cap w hm
  clear hvv hm
  have HS : Hid (∀ (w : World) (v : Value), InsSlice w v cs → cs.length ≤ 1048576 → _) := fun w v h h' => specOk_any (is := cs) w h h'
  have HI : Hid (∀ (w : World) (g : Nat), LaidE w → InsSlice w (.slice (some ⟨g, 0, none⟩) cs.length cs.length) cs → _) := fun w g hL h => implOk_any (is := cs) w hL h (Nat.le_refl _)
  generalize validZ cs = ans at *
  have HV : Hid (InsSlice w v cs) := hv
  have HLA : Hid (LaidE w) := hL
  clear hv hL
  go_enter Tryd.func3, Tryd.ntmps3
  go_wp2_with fail
  refine (HSZ.out _).mono ?_
  rintro e W0 ⟨⟨r, rfl, hr⟩, rfl⟩
  by_cases hneg : r < 0
  · go_wp2_with fail
    go_ret
    exact ⟨rfl, Below.refl _ _⟩
  have HL : Hid (cs.length ≤ 1048576) := (hr.resolve_left hneg).2
  clear hr HSZ
  go_wp2_with fail
  refine (toInsS_any _ HV.out HL.out).mono ?_
  rintro e W1 ⟨⟨v1, rfl, hs1⟩, hb1⟩
  have HS1 := hid hs1.insSlice
  clear hs1
  go_wp2_with fail
  refine (HS.out _ _ HS1.out HL.out).mono ?_
  rintro e W2 ⟨rfl, hb2⟩
  have k02 := hb1.trans (hb2.mono hb1.size)
  clear HS HS1 hb1 hb2
  go_wp2_with fail
  refine (toInsC _ (HV.out.below k02) HL.out).mono ?_
  rintro e W3 ⟨⟨rfl, hs3⟩, hb3⟩
  have HS3 := hid hs3
  have k03 := k02.trans (hb3.mono k02.size)
  clear hs3 hb3
  go_wp2_with fail
  refine (HI.out _ _ (HLA.out.stays k03) HS3.out.insSlice).mono ?_
  rintro e W4 ⟨rfl, hb4⟩
  have HS4 := hid (HS3.out.below hb4)
  have k04 := k03.trans (hb4.mono k03.size)
  clear HS3 hb4 k03 k02 HI
  cases ans <;>
  · go_wp2_with fail
    refine (toInsS_any _ (HV.out.below k04) HL.out).mono ?_
    rintro e W5 ⟨⟨v5, rfl, hs5⟩, hb5⟩
    have HS5 := hid hs5.insSlice
    have HS45 := hid (HS4.out.below hb5)
    have k05 := k04.trans (hb5.mono k04.size)
    clear hs5 hb5 HS4 k04
    go_wp2_with fail
    refine (eqInsS_any _ HL.out HS45.out.insSlice HS5.out).mono ?_
    rintro e W6 ⟨rfl, hb6⟩
    have k06 := k05.trans (hb6.mono k05.size)
    go_wp2_with fail
    go_ret
    exact ⟨rfl, k06⟩
end Go.Proofs.YtfmkgppkgmjpfaaDoor
