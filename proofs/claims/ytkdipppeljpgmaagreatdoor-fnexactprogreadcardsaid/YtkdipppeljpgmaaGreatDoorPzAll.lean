/- The specification's parser: all its functions. -/
import Derived.Test.YtkdipppeljpgmaaGreatDoorPzAtom
import Derived.Test.YtkdipppeljpgmaaGreatDoorPzCall
import Derived.Test.YtkdipppeljpgmaaGreatDoorPzHand
namespace Go.Proofs.YtkdipppeljpgmaaGreatDoor
open Go.RowKit Go.Deep

section
variable {d : Dr} {ws : List Wd} {ad : Option Addr} {cp : Nat}

theorem pc_upto (hw : BriefW ws) (hn : NumW ws) : ∀ (f g : Nat), g ≤ f → PcAll d ws ad cp g
  | 0, g, hg => by
    obtain rfl : g = 0 := by omega
    exact ⟨fun s W _ h => by simp only [ms, lvN] at h; omega, fun s W _ h => by simp only [ms, lvN] at h; omega, fun s W _ h => by simp only [ms, lvN] at h; omega, fun s W _ h => by simp only [ms, lvN] at h; omega, fun s W _ h => by simp only [ms, lvN] at h; omega, fun s W _ h => by simp only [ms, lvN] at h; omega, fun s W _ h => by simp only [ms, lvN] at h; omega, fun k s W _ h => by simp only [ms, lvN] at h; omega⟩
  | f + 1, g, hg => by
    have ih := pc_upto hw hn f
    by_cases e : g ≤ f
    · exact ih g e
    · obtain rfl : g = f + 1 := by omega
      have hf := ih f (Nat.le_refl _)
      exact ⟨pexpr_calls hw hf, pcons_calls hw hf, pcomp_calls hw hf, psum_calls hw ih, pprod_calls hw ih, pcall_calls hw ih, patom_calls hw hn hf, phand_calls hw ih⟩

theorem pc_all (hw : BriefW ws) (hn : NumW ws) (f : Nat) : PcAll d ws ad cp f := pc_upto hw hn f f (Nat.le_refl _)

/-- The whole expression, from wherever it begins. -/
theorem whole_calls (hw : BriefW ws) (hn : NumW ws) (s : Ps) (W : World) (h : PsAt d ws ad cp s W) : Calls Tryz.prog 12 #[.pointer (some ⟨d.B, 0, none⟩)] W (PostN d ws ad cp (spz ws (16 * ws.length + 11) .expr s) W) :=
  (pc_all hw hn _).expr s W h (by simp only [ms, lvN]; omega)
end
end Go.Proofs.YtkdipppeljpgmaaGreatDoor
