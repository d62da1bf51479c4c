/- The program's reader: comparisons, sums, products: its loops. -/
import Derived.Test.YtkdipppeljpgmaaGreatDoorGrpMR2
import Derived.Test.YtkdipppeljpgmaaGreatDoorGrpMR0
import Derived.Test.YtkdipppeljpgmaaGreatDoorPzRow
import Derived.Test.YtkdipppeljpgmaaGreatDoorStagesG
import Derived.Maps.AppendAt
import Derived.Test.YtkdipppeljpgmaaGreatDoorPzNum
import Derived.Test.YtkdipppeljpgmaaGreatDoorShelf
import Derived.Lib.SmallJoins
import Derived.Test.YtkdipppeljpgmaaGreatDoorParseEffs
import Derived.Test.YtkdipppeljpgmaaGreatDoorPzEffs
import Derived.Tactics
import Derived.Tactics2
import Derived.Defers
import Derived.Recover
import Derived.Laws.Pointers
import Derived.Test.YtkdipppeljpgmaaGreatDoorParseWf
import Derived.Deep.CutRange
import Derived.Deep.CutBlock
import Derived.Test.YtkdipppeljpgmaaGreatDoorPureLex
import Derived.Test.YtkdipppeljpgmaaGreatDoorSpecLex
import Derived.WalkMore
namespace Go.Proofs.YtkdipppeljpgmaaGreatDoor
open Go.RowKit Go.Deep

set_option maxRecDepth 100000 in
theorem sign_text (k : Int) (t : ByteArray) (h : (k = 14 ∧ t = ⟨#[61]⟩) ∨ (k = 15 ∧ t = ⟨#[60]⟩)) (W : World) : Calls Tryz.prog 107 #[.int .i64 k] W fun e W' => e = .returned (.string t) ∧ W' = W := by
  rcases h with ⟨rfl, rfl⟩ | ⟨rfl, rfl⟩
  all_goals
    go_enter Tryz.func107, Tryz.ntmps107
    go_wp2_with fail
    go_ret
    exact ⟨rfl, rfl⟩

section
variable {d : Dr} {ws : List Wd} {ad : Option Addr} {cp sz : Nat}

set_option maxHeartbeats 8000000 in
set_option maxRecDepth 100000 in
theorem icomp_calls (hw : BriefW ws) (ho : WordsOk ws) {f : Nat} (hc : PiAll d ws ad cp sz f) (i : Nat) (W : World) (h : RdAt d ws ad cp sz i W) (hm : mi ws 9 i ≤ f + 1) :
    Calls Tryz.prog 95 #[.pointer (some ⟨d.B, 0, none⟩)] W (PostT d ws ad cp sz (ipz ws (f + 1) .comp i) W) := by
  obtain ⟨R, hR⟩ : ∃ R, ipz ws (f + 1) .comp i = R := ⟨_, rfl⟩
  rw [hR]
  have HR := hid (show compI ws (ipz ws f) i = R from hR)
  have S := hid (St.start h)
  have H := hid (And.intro hw (And.intro ho hc))
  have M := hid hm
  have G := hid (show i + 0 ≤ i from Nat.le_refl _)
  clear h hm hR hw ho hc
  go_enter Tryz.func95, Tryz.ntmps95
  go_wp2_with fail
  refine (H.out.2.2.sum _ _ S.out.rd (by have h1 := G.out; have h2 := M.out; have h3 := S.out.rd.lt; unfold mi at h2 ⊢; omega)).mono ?_
  intro e X1 hp
  rcases post_x hp with ⟨j, hq, rfl, hg⟩ | ⟨t1, i1, hq, ⟨T1, p1, rfl, hf⟩, hr, hg⟩
  · exact ⟨rfl, S.out.err (bi_er HR.out hq) hg⟩
  have G := hid (show i + 0 ≤ i1 by have h1 := G.out; have h2 := ip_goes H.out.1 H.out.2.1 f NtR.sum trivial S.out.rd.lt hq; omega)
  have S := hid (S.out.form hr hg hf)
  have HR := hid (bi_ok HR.out hq)
  clear hp hq hf hr hg
  go_wp2_with fail
  refine wp_loop_rounds 3 ?_
  rw [rounds_succ]
  go_wp2_with fail
  refine (sign_text 14 ⟨#[61]⟩ (by simp) _).mono ?_
  rintro e Y ⟨rfl, rfl⟩
  go_wp2_with fail
  by_cases z : seesI ws i1 gEq = true
  · refine (skips_t S.out.rd (by kernel_rfl) (by decide) z).mono ?_
    rintro e X2 ⟨rfl, hr, hg⟩
    have S := hid (S.out.go hr hg)
    have HR := hid (oi_t HR.out z)
    have G := hid (show i + 1 ≤ i1 + 1 by have := G.out; omega)
    clear hr hg z
    go_wp2_with fail
    refine (H.out.2.2.sum _ _ S.out.rd (by have h1 := G.out; have h2 := M.out; have h3 := S.out.rd.lt; unfold mi at h2 ⊢; omega)).mono ?_
    intro e X3 hp
    rcases post_x hp with ⟨j, hq, rfl, hg⟩ | ⟨t3, i3, hq, ⟨T3, p3, rfl, hf⟩, hr, hg⟩
    · exact ⟨rfl, S.out.err (bi_er HR.out hq) hg⟩
    have G := hid (show i + 1 ≤ i3 by have h1 := G.out; have h2 := ip_goes H.out.1 H.out.2.1 f NtR.sum trivial S.out.rd.lt hq; omega)
    have S := hid (S.out.form hr hg hf)
    have HR := hid (bi_ok HR.out hq)
    clear hp hq hf hr hg
    go_wp2_with fail
    go_ret
    exact S.out.fin HR.out (S.out.mk2 (.tail _ (.head _)) (.head _) (.sign (k := 14) (by simp)))
  refine (skips_f (l := gEq) S.out.rd (by kernel_rfl) (by decide) (by simpa using z)).mono ?_
  rintro e X2 ⟨rfl, hr, hg⟩
  have S := hid (S.out.go hr hg)
  have HR := hid (oi_f HR.out (by simpa using z))
  clear hr hg z
  go_wp2_with fail
  rw [rounds_succ]
  go_wp2_with fail
  refine (sign_text 15 ⟨#[60]⟩ (by simp) _).mono ?_
  rintro e Y ⟨rfl, rfl⟩
  go_wp2_with fail
  by_cases z : seesI ws i1 gLt = true
  · refine (skips_t S.out.rd (by kernel_rfl) (by decide) z).mono ?_
    rintro e X4 ⟨rfl, hr, hg⟩
    have S := hid (S.out.go hr hg)
    have HR := hid (oi_t HR.out z)
    have G := hid (show i + 1 ≤ i1 + 1 by have := G.out; omega)
    clear hr hg z
    go_wp2_with fail
    refine (H.out.2.2.sum _ _ S.out.rd (by have h1 := G.out; have h2 := M.out; have h3 := S.out.rd.lt; unfold mi at h2 ⊢; omega)).mono ?_
    intro e X5 hp
    rcases post_x hp with ⟨j, hq, rfl, hg⟩ | ⟨t5, i5, hq, ⟨T5, p5, rfl, hf⟩, hr, hg⟩
    · exact ⟨rfl, S.out.err (bi_er HR.out hq) hg⟩
    have G := hid (show i + 1 ≤ i5 by have h1 := G.out; have h2 := ip_goes H.out.1 H.out.2.1 f NtR.sum trivial S.out.rd.lt hq; omega)
    have S := hid (S.out.form hr hg hf)
    have HR := hid (bi_ok HR.out hq)
    clear hp hq hf hr hg
    go_wp2_with fail
    go_ret
    exact S.out.fin HR.out (S.out.mk2 (.tail _ (.head _)) (.head _) (.sign (k := 15) (by simp)))
  refine (skips_f (l := gLt) S.out.rd (by kernel_rfl) (by decide) (by simpa using z)).mono ?_
  rintro e X4 ⟨rfl, hr, hg⟩
  have S := hid (S.out.go hr hg)
  have HR := hid (oi_f HR.out (by simpa using z))
  clear hr hg z
  go_wp2_with fail
  rw [rounds_succ]
  go_wp2_with fail
  go_ret
  exact S.out.fin HR.out (S.out.same (.head _))

theorem rd_pos {i : Nat} {W : World} (h : RdAt d ws ad cp sz i W) : posOf d W = i := by
  have q := cell_of_heap h.blk 1
  simp at q
  unfold posOf
  rw [q]
  simp [intOf]

/-- What holds of a loop that reads on. -/
def LoopR (d : Dr) (ws : List Wd) (ad : Option Addr) (cp sz f : Nat) (nt : Tr → Nt Tr) (lv : Nat) (R : Except Nat (Tr × Nat)) (W : World) (v : Value) (wr : World) : Prop :=
  ∃ (t : Tr) (T : TypeId) (p : Value) (g k : Nat), v = .iface T p ∧ St d ws ad cp sz W [] [⟨W.heap.size, wr.heap.size, t, .iface T p⟩] k wr ∧ ipz ws g (nt t) k = R ∧ mi ws lv k ≤ g ∧ g ≤ f

set_option maxHeartbeats 8000000 in
set_option maxRecDepth 100000 in
theorem iprod_calls (hw : BriefW ws) (ho : WordsOk ws) {f : Nat} (ha : ∀ g, g ≤ f → PiAll d ws ad cp sz g) (i : Nat) (W : World) (h : RdAt d ws ad cp sz i W) (hm : mi ws 6 i ≤ f + 1) :
    Calls Tryz.prog 116 #[.pointer (some ⟨d.B, 0, none⟩)] W (PostT d ws ad cp sz (ipz ws (f + 1) .prod i) W) := by
  obtain ⟨R, hR⟩ : ∃ R, ipz ws (f + 1) .prod i = R := ⟨_, rfl⟩
  rw [hR]
  have HR := hid (show prodI (ipz ws f) i = R from hR)
  have S := hid (St.start h)
  have H := hid (And.intro hw (And.intro ho (ha f (Nat.le_refl f))))
  have M := hid hm
  have G := hid (show i + 0 ≤ i from Nat.le_refl _)
  have HA := hid ha
  clear h hm hR hw ho ha
  go_enter Tryz.func116, Tryz.ntmps116
  go_wp2_with fail
  refine (H.out.2.2.call _ _ S.out.rd (by have h1 := G.out; have h2 := M.out; have h3 := S.out.rd.lt; unfold mi at h2 ⊢; omega)).mono ?_
  intro e X1 hp
  rcases post_x hp with ⟨j, hq, rfl, hg⟩ | ⟨t1, i1, hq, ⟨T1, p1, rfl, hf⟩, hr, hg⟩
  · exact ⟨rfl, S.out.err (bi_er HR.out hq) hg⟩
  have G := hid (show i + 0 ≤ i1 by have h1 := G.out; have h2 := ip_goes H.out.1 H.out.2.1 f NtR.call trivial S.out.rd.lt hq; omega)
  have S := hid (S.out.form hr hg hf)
  have HR := hid (bi_ok HR.out hq)
  clear hp hq hf hr hg
  go_wp2_with fail
  have S := hid (S.out.fold (S.out.same (.head _)))
  go_loopw [3] (fun v wr => Hid (LoopR d ws ad cp sz f Nt.prodL 5 R W v wr)) (fun _ wr => ws.length - posOf d wr)
  case atStart => exact hid ⟨t1, T1, p1, f, i1, rfl, S.out, HR.out, (by have h1 := G.out; have h2 := M.out; have h3 := S.out.rd.lt; unfold mi at h2 ⊢; omega), Nat.le_refl _⟩
  case round =>
    obtain ⟨t, T, p, g, k, rfl, hS, hF, hm, hg⟩ := hrel.out
    clear hrel
    obtain ⟨g, rfl⟩ : ∃ x, g = x + 1 := ⟨g - 1, by unfold mi at hm; omega⟩
    have S := hid hS
    have HR := hid (show prodLI ws (ipz ws g) t k = R from hF)
    have M := hid hm
    have HG := hid hg
    have HP := hid (rd_pos hS.rd)
    have H := hid (And.intro H.out.1 (And.intro H.out.2.1 (HA.out g (by omega))))
    have G := hid (show k + 0 ≤ k from Nat.le_refl _)
    clear hS hF hm hg
    go_wp2_with fail
    by_cases z : seesI ws k gStar = true
    · refine (skips_t S.out.rd (by kernel_rfl) (by decide) z).mono ?_
      rintro e X2 ⟨rfl, hr, hg⟩
      have S := hid (S.out.go hr hg)
      have HR := hid (oi_t HR.out z)
      have G := hid (show k + 1 ≤ k + 1 by have := G.out; omega)
      clear hr hg z
      go_wp2_with fail
      refine (H.out.2.2.call _ _ S.out.rd (by have h1 := G.out; have h2 := M.out; have h3 := S.out.rd.lt; unfold mi at h2 ⊢; omega)).mono ?_
      intro e X3 hp
      rcases post_x hp with ⟨j, hq, rfl, hg⟩ | ⟨t3, i3, hq, ⟨T3, p3, rfl, hf⟩, hr, hg⟩
      · exact ⟨rfl, S.out.err (bi_er HR.out hq) hg⟩
      have G := hid (show k + 1 ≤ i3 by have h1 := G.out; have h2 := ip_goes H.out.1 H.out.2.1 g NtR.call trivial S.out.rd.lt hq; omega)
      have S := hid (S.out.form hr hg hf)
      have HR := hid (bi_ok HR.out hq)
      clear hp hq hf hr hg
      go_wp2_with fail
      have S := hid (S.out.fold (S.out.mk2 (.tail _ (.head _)) (.head _) (n := nd0 13) (v := .iface 131 (.agg #[.int .i64 13, .iface T p, .iface T3 p3])) (.sign (k := 13) (by simp))))
      exact ⟨hid ⟨_, _, _, g, i3, rfl, S.out, HR.out, (by have h1 := G.out; have h2 := M.out; have h3 := S.out.rd.lt; unfold mi at h2 ⊢; omega), (by have := HG.out; omega)⟩, by
        rw [HP.out, rd_pos S.out.rd]
        have h1 := G.out
        have h2 := S.out.rd.lt
        omega⟩
    refine (skips_f (l := gStar) S.out.rd (by kernel_rfl) (by decide) (by simpa using z)).mono ?_
    rintro e X2 ⟨rfl, hr, hg⟩
    have S := hid (S.out.go hr hg)
    have HR := hid (oi_f HR.out (by simpa using z))
    clear hr hg z
    go_wp2_with fail
    go_ret
    exact S.out.fin HR.out (S.out.same (.head _))

set_option maxHeartbeats 8000000 in
set_option maxRecDepth 100000 in
theorem isum_calls (hw : BriefW ws) (ho : WordsOk ws) {f : Nat} (ha : ∀ g, g ≤ f → PiAll d ws ad cp sz g) (i : Nat) (W : World) (h : RdAt d ws ad cp sz i W) (hm : mi ws 8 i ≤ f + 1) :
    Calls Tryz.prog 106 #[.pointer (some ⟨d.B, 0, none⟩)] W (PostT d ws ad cp sz (ipz ws (f + 1) .sum i) W) := by
  obtain ⟨R, hR⟩ : ∃ R, ipz ws (f + 1) .sum i = R := ⟨_, rfl⟩
  rw [hR]
  have HR := hid (show sumI (ipz ws f) i = R from hR)
  have S := hid (St.start h)
  have H := hid (And.intro hw (And.intro ho (ha f (Nat.le_refl f))))
  have M := hid hm
  have G := hid (show i + 0 ≤ i from Nat.le_refl _)
  have HA := hid ha
  clear h hm hR hw ho ha
  go_enter Tryz.func106, Tryz.ntmps106
  go_wp2_with fail
  refine (H.out.2.2.prod _ _ S.out.rd (by have h1 := G.out; have h2 := M.out; have h3 := S.out.rd.lt; unfold mi at h2 ⊢; omega)).mono ?_
  intro e X1 hp
  rcases post_x hp with ⟨j, hq, rfl, hg⟩ | ⟨t1, i1, hq, ⟨T1, p1, rfl, hf⟩, hr, hg⟩
  · exact ⟨rfl, S.out.err (bi_er HR.out hq) hg⟩
  have G := hid (show i + 0 ≤ i1 by have h1 := G.out; have h2 := ip_goes H.out.1 H.out.2.1 f NtR.prod trivial S.out.rd.lt hq; omega)
  have S := hid (S.out.form hr hg hf)
  have HR := hid (bi_ok HR.out hq)
  clear hp hq hf hr hg
  go_wp2_with fail
  have S := hid (S.out.fold (S.out.same (.head _)))
  go_loopw [3] (fun v wr => Hid (LoopR d ws ad cp sz f Nt.sumL 7 R W v wr)) (fun _ wr => ws.length - posOf d wr)
  case atStart => exact hid ⟨t1, T1, p1, f, i1, rfl, S.out, HR.out, (by have h1 := G.out; have h2 := M.out; have h3 := S.out.rd.lt; unfold mi at h2 ⊢; omega), Nat.le_refl _⟩
  case round =>
    obtain ⟨t, T, p, g, k, rfl, hS, hF, hm, hg⟩ := hrel.out
    clear hrel
    obtain ⟨g, rfl⟩ : ∃ x, g = x + 1 := ⟨g - 1, by unfold mi at hm; omega⟩
    have S := hid hS
    have HR := hid (show sumLI ws (ipz ws g) t k = R from hF)
    have M := hid hm
    have HG := hid hg
    have HP := hid (rd_pos hS.rd)
    have H := hid (And.intro H.out.1 (And.intro H.out.2.1 (HA.out g (by omega))))
    have G := hid (show k + 0 ≤ k from Nat.le_refl _)
    clear hS hF hm hg
    go_wp2_with fail
    by_cases z : seesI ws k gPlus = true
    · refine (skips_t S.out.rd (by kernel_rfl) (by decide) z).mono ?_
      rintro e X2 ⟨rfl, hr, hg⟩
      have S := hid (S.out.go hr hg)
      have HR := hid (oi_t HR.out z)
      have G := hid (show k + 1 ≤ k + 1 by have := G.out; omega)
      clear hr hg z
      go_wp2_with fail
      refine (H.out.2.2.prod _ _ S.out.rd (by have h1 := G.out; have h2 := M.out; have h3 := S.out.rd.lt; unfold mi at h2 ⊢; omega)).mono ?_
      intro e X3 hp
      rcases post_x hp with ⟨j, hq, rfl, hg⟩ | ⟨t3, i3, hq, ⟨T3, p3, rfl, hf⟩, hr, hg⟩
      · exact ⟨rfl, S.out.err (bi_er HR.out hq) hg⟩
      have G := hid (show k + 1 ≤ i3 by have h1 := G.out; have h2 := ip_goes H.out.1 H.out.2.1 g NtR.prod trivial S.out.rd.lt hq; omega)
      have S := hid (S.out.form hr hg hf)
      have HR := hid (bi_ok HR.out hq)
      clear hp hq hf hr hg
      go_wp2_with fail
      have S := hid (S.out.fold (S.out.mk2 (.tail _ (.head _)) (.head _) (n := nd0 11) (v := .iface 131 (.agg #[.int .i64 11, .iface T p, .iface T3 p3])) (.sign (k := 11) (by simp))))
      exact ⟨hid ⟨_, _, _, g, i3, rfl, S.out, HR.out, (by have h1 := G.out; have h2 := M.out; have h3 := S.out.rd.lt; unfold mi at h2 ⊢; omega), (by have := HG.out; omega)⟩, by
        rw [HP.out, rd_pos S.out.rd]
        have h1 := G.out
        have h2 := S.out.rd.lt
        omega⟩
    refine (skips_f (l := gPlus) S.out.rd (by kernel_rfl) (by decide) (by simpa using z)).mono ?_
    rintro e X2 ⟨rfl, hr, hg⟩
    have S := hid (S.out.go hr hg)
    have HR := hid (oi_f HR.out (by simpa using z))
    clear hr hg z
    go_wp2_with fail
    by_cases z : seesI ws k gMinus = true
    · refine (skips_t S.out.rd (by kernel_rfl) (by decide) z).mono ?_
      rintro e X4 ⟨rfl, hr, hg⟩
      have S := hid (S.out.go hr hg)
      have HR := hid (oi_t HR.out z)
      have G := hid (show k + 1 ≤ k + 1 by have := G.out; omega)
      clear hr hg z
      go_wp2_with fail
      refine (H.out.2.2.prod _ _ S.out.rd (by have h1 := G.out; have h2 := M.out; have h3 := S.out.rd.lt; unfold mi at h2 ⊢; omega)).mono ?_
      intro e X5 hp
      rcases post_x hp with ⟨j, hq, rfl, hg⟩ | ⟨t5, i5, hq, ⟨T5, p5, rfl, hf⟩, hr, hg⟩
      · exact ⟨rfl, S.out.err (bi_er HR.out hq) hg⟩
      have G := hid (show k + 1 ≤ i5 by have h1 := G.out; have h2 := ip_goes H.out.1 H.out.2.1 g NtR.prod trivial S.out.rd.lt hq; omega)
      have S := hid (S.out.form hr hg hf)
      have HR := hid (bi_ok HR.out hq)
      clear hp hq hf hr hg
      go_wp2_with fail
      have S := hid (S.out.fold (S.out.mk2 (.tail _ (.head _)) (.head _) (n := nd0 12) (v := .iface 131 (.agg #[.int .i64 12, .iface T p, .iface T5 p5])) (.sign (k := 12) (by simp))))
      exact ⟨hid ⟨_, _, _, g, i5, rfl, S.out, HR.out, (by have h1 := G.out; have h2 := M.out; have h3 := S.out.rd.lt; unfold mi at h2 ⊢; omega), (by have := HG.out; omega)⟩, by
        rw [HP.out, rd_pos S.out.rd]
        have h1 := G.out
        have h2 := S.out.rd.lt
        omega⟩
    refine (skips_f (l := gMinus) S.out.rd (by kernel_rfl) (by decide) (by simpa using z)).mono ?_
    rintro e X4 ⟨rfl, hr, hg⟩
    have S := hid (S.out.go hr hg)
    have HR := hid (oi_f HR.out (by simpa using z))
    clear hr hg z
    go_wp2_with fail
    go_ret
    exact S.out.fin HR.out (S.out.same (.head _))

end
end Go.Proofs.YtkdipppeljpgmaaGreatDoor

/- The program's reader: clauses of handlers, handlers. -/
namespace Go.Proofs.YtkdipppeljpgmaaGreatDoor
open Go.RowKit Go.Deep

/-- What holds where a call gives up. -/
def DiesIf (D : List PanicEntry → World → Prop) (Q : Exit → Act → World → Prop) : Exit → Act → World → Prop
  | .panic c, a, w => a.defers = [] ∧ D c w
  | e, a, w => Q e a w

section
variable {P : Program} {l0 : List Oper} {Q : Exit → Act → World → Prop} {S : World → Prop} {D : List PanicEntry → World → Prop}

theorem dies_begin {id n c : Nat} {ls : Array Bool} {a : Act} {w : World} (hQ : ∀ c a w, a.defers = [] → D c w → Q (.panic c) a w) (hm : P.follows .mixedOrders = true) (hn : l0.length = n) (hl : Array.replicate l0.length false = ls) (h : wpTill P l0.toArray (DiesIf D Q) S c (wpAny P .any l0.toArray (DiesIf D Q)) n ls a w.drew) : (Code.region id l0.toArray true).wp P Q a w := by
  refine Code.wp_mono (Q := DiesIf D Q) (fun e a w h => ?_) (wp_region_any hm ?_)
  · cases e <;> first | exact h | exact hQ _ _ _ h.1 h.2
  · subst hn
    subst hl
    have := any_of_till _ _ _ _ h
    simpa using this

/-- One that only reads. -/
theorem dies_op {k n c : Nat} {o : Oper} {v : Value} {ls ls' : Array Bool} {a a' : Act} {w : World} (hls : ls = upTo l0.length k) (hk : k ≤ l0.length) (hsh : shutB l0 k = true) (hs : Region.noSelect l0.toArray = true) (ho : l0[k]? = some o) (hf : Region.free .any l0.toArray ls k = true) (hr : (Region.ready .any l0.toArray ls).contains k = true) (hc : waitsB l0.toArray 10 c k = true) (hkc : k ≠ c) (hl : ls.setIfInBounds k true = ls')
    (hw : Region.wanted o (yielded l0.toArray a.tmps) = true) (hy : ∀ w', S w' → (execOp a.eval o).run P w' = .ok (.value v) w') (hS : S w) (hput : a.put o.dst v = a') (hQ : ∀ c a w, DiesIf D Q (.panic c) (a.put o.dst v) w → DiesIf D Q (.panic c) a w) (h : wpTill P l0.toArray (DiesIf D Q) S c (wpAny P .any l0.toArray (DiesIf D Q)) n ls' a' w) : wpTill P l0.toArray (DiesIf D Q) S c (wpAny P .any l0.toArray (DiesIf D Q)) (n + 1) ls a w := by
  subst hl
  subst hput
  have ho' : l0.toArray[k]? = some o := by simpa using ho
  exact till_first ho' hs hQ hc hkc n ls a w (hls ▸ shut_upTo hk hsh) (Region.free_spec ho' hf) (by simpa using hr) (Or.inl ⟨hw, hy⟩) hS h

/-- One that is alone ready. -/
theorem dies_make {i n c : Nat} {o : Oper} {v : Value} {ls ls' : Array Bool} {a a' : Act} {w w1 : World} (ho : l0[i]? = some o) (hr : (Region.ready .any l0.toArray ls == [i]) = true) (hic : i ≠ c) (hl : ls.setIfInBounds i true = ls')
    (hw : Region.wanted o (yielded l0.toArray a.tmps) = true) (hrun : (execOp a.eval o).run P w = .ok (.value v) w1) (hS : S w1) (hput : a.put o.dst v = a') (h : wpTill P l0.toArray (DiesIf D Q) S c (wpAny P .any l0.toArray (DiesIf D Q)) n ls' a' w1) : wpTill P l0.toArray (DiesIf D Q) S c (wpAny P .any l0.toArray (DiesIf D Q)) (n + 1) ls a w := by
  subst hl
  subst hput
  have ho' : l0.toArray[i]? = some o := by simpa using ho
  have hr' : Region.ready .any l0.toArray ls = [i] := by simpa using hr
  refine ⟨by rw [hr']; simp, fun j hj => ?_⟩
  rw [hr', List.mem_singleton] at hj
  subst hj
  rw [if_neg hic]
  unfold wpOp
  rw [ho']
  dsimp only
  rw [if_pos hw]
  refine Or.inl ?_
  unfold Oper.wp
  rw [hrun]
  exact ⟨hS, h⟩

/-- A call that is alone ready, and may give up. -/
theorem dies_enter {i n c : Nat} {o : Oper} {f : FuncId} {args : Array Value} {ls ls' : Array Bool} {a : Act} {w : World} (ho : l0[i]? = some o) (hr : (Region.ready .any l0.toArray ls == [i]) = true) (hic : i ≠ c) (hl : ls.setIfInBounds i true = ls') (hw : Region.wanted o (yielded l0.toArray a.tmps) = true)
    (hrun : (execOp a.eval o).run P w = .ok (.enter f args) w) (hd : a.defers = []) (h : Calls P f args w fun e w' => (∃ v, e = .returned v ∧ S w' ∧ wpTill P l0.toArray (DiesIf D Q) S c (wpAny P .any l0.toArray (DiesIf D Q)) n ls' (a.put o.dst v) w') ∨ ∃ c, e = .panicked c ∧ D c w') : wpTill P l0.toArray (DiesIf D Q) S c (wpAny P .any l0.toArray (DiesIf D Q)) (n + 1) ls a w := by
  subst hl
  have ho' : l0.toArray[i]? = some o := by simpa using ho
  have hr' : Region.ready .any l0.toArray ls = [i] := by simpa using hr
  refine ⟨by rw [hr']; simp, fun j hj => ?_⟩
  rw [hr', List.mem_singleton] at hj
  subst hj
  rw [if_neg hic]
  unfold wpOp
  rw [ho']
  dsimp only
  rw [if_pos hw]
  refine Or.inl ?_
  unfold Oper.wp
  rw [hrun]
  refine Calls.mono h ?_
  rintro e w3 (⟨v, rfl, hS, hn⟩ | ⟨c, rfl, hc⟩)
  · exact ⟨hS, hn⟩
  · exact ⟨hd, hc⟩

theorem dies_frame {n c : Nat} {ls : Array Bool} {a a' : Act} {w : World} {K : Nat → Array Bool → Act → World → Prop} (ha : a = a') (h : wpTill P l0.toArray (DiesIf D Q) S c K n ls a' w) : wpTill P l0.toArray (DiesIf D Q) S c K n ls a w := by
  subst ha
  exact h

/-- The last one, a store. -/
theorem dies_last {c n : Nat} {o : Oper} {ls ls' : Array Bool} {a : Act} {w w1 : World} (hd : o.dst = none) (ho : l0[c]? = some o) (hr : (Region.ready .any l0.toArray ls == [c]) = true) (hl : ls.setIfInBounds c true = ls') (hw : Region.wanted o (yielded l0.toArray a.tmps) = true)
    (hrun : (execOp a.eval o).run P w = .ok .skip w1) (hr2 : (Region.ready .any l0.toArray ls').isEmpty = true) (h : Q .normal a w1) : wpTill P l0.toArray (DiesIf D Q) S c (wpAny P .any l0.toArray (DiesIf D Q)) (n + 1) ls a w := by
  subst hl
  have ho' : l0.toArray[c]? = some o := by simpa using ho
  have hr' : Region.ready .any l0.toArray ls = [c] := by simpa using hr
  refine ⟨by rw [hr']; simp, fun j hj => ?_⟩
  rw [hr', List.mem_singleton] at hj
  subst hj
  rw [if_pos rfl]
  unfold wpOp
  rw [ho']
  dsimp only
  rw [if_pos hw]
  refine Or.inl ?_
  have hp : a.put o.dst undef = a := by rw [hd]; rfl
  unfold Oper.wp
  rw [hrun]
  show wpAny P .any l0.toArray (DiesIf D Q) n _ (a.put o.dst undef) w1
  rw [hp]
  exact wpAny_of_held (S := fun _ => True) _ _ _ _ (wpAnyH_done (Q := DiesIf D Q) (by simpa using hr2) h n)
end

theorem wpList_append_run {P : Program} {ops : Array Oper} {rest : List Oper} {o : Oper} {a : Act} {w : World} {Q : Exit → Act → World → Prop} (hgd : o.guard = none) (s x : Operand) (t : TypeId)
    (ho : o.op = .call { callee := .builtin .append, args := #[s, x], argTypes := #[t, t] }) (v xv : Value) (hs : a.eval s = v) (hx : a.eval x = xv) {v' : Value} {w' : World}
    (hr : (Builtin.append_ #[t, t] o.type #[v, xv]).run P w = .ok v' w') (h : wpList P ops Q rest (a.put o.dst v') w') :
    wpList P ops Q (o :: rest) a w := by
  refine wpList_plain hgd fun K hK => ?_
  unfold Oper.wp execOp
  simp only [ho, resolve, invoke, builtin, Sem.run_bind, Sem.run_pure, Result.andThen_ok, List.map_toArray, List.map_cons, List.map_nil, hs, hx, hr]
  exact hK _ _ h

/-- A tree over one that is read, where that one lies. -/
theorem FmAt.node1 {lo hi : Nat} {X : World} {n : Nd} {t : Tr} {v u : Value} (h : FmAt lo hi X t v) (hs : ∀ w, Shape lo w (n.with_ 1) [v] u) : FmAt lo hi X (mkT n [t]) u := by
  obtain ⟨W0, h1, h2, h3, h4⟩ := h
  obtain ⟨v', us, rest, e, g1, g2, g3⟩ := h1
  obtain ⟨rfl, rfl⟩ : v = v' ∧ rest = [] := by simp at e; exact e
  exact ⟨W0, ⟨u, [v], [], rfl, ⟨v, us, [], rfl, g1, g2, rfl⟩, hs W0, rfl⟩, h2, h3, h4⟩

theorem bind_assoc {α β γ : Type} (p : PI α) (k : α → PI β) (m : β → PI γ) : bindI (bindI p k) m = bindI p (fun a => bindI (k a) m) := by
  funext i
  unfold bindI
  cases p i with
  | error j => rfl
  | ok r => rfl

theorem pure_bindI {α β : Type} (a : α) (m : α → PI β) : bindI (pureI a) m = m a := rfl

/-- A clause. -/
def opI' (ws : List Wd) (go : Nt Tr → PI Tr) : PI Tr := bindI (nameI ws) fun a => bindI (nameI ws) fun b => bindI (nameI ws) fun c => bindI (takeI ws gTo) fun _ => bindI (go .expr) fun e => pureI (mkT (nd3 26 a b c) [e])

theorem ops_split (ws : List Wd) (go : Nt Tr → PI Tr) (k : Int) (ks : List Tr) : opsLI ws go k ks = orI ws gBar (bindI (opI' ws go) fun t => go (.opsL k (ks ++ [t]))) (bindI (takeI ws kEnd) fun _ => pureI (mkT (nd0 k) ks)) := by
  unfold opsLI opI'
  simp only [bind_assoc, pure_bindI]

section
variable {d : Dr} {ws : List Wd} {ad : Option Addr} {cp sz : Nat}

set_option maxHeartbeats 8000000 in
set_option maxRecDepth 100000 in
theorem iop_calls (hw : BriefW ws) (ho : WordsOk ws) {f : Nat} (hc : PiAll d ws ad cp sz f) (i : Nat) (W : World) (h : RdAt d ws ad cp sz i W) (hm : mi ws 11 i ≤ f) :
    Calls Tryz.prog 131 #[.pointer (some ⟨d.B, 0, none⟩)] W (PostT d ws ad cp sz (opI' ws (ipz ws f) i) W) := by
  obtain ⟨R, hR⟩ : ∃ R, opI' ws (ipz ws f) i = R := ⟨_, rfl⟩
  rw [hR]
  have HR := hid hR
  have S := hid (St.start h)
  have H := hid (And.intro hw (And.intro ho hc))
  have M := hid hm
  have G := hid (show i + 0 ≤ i from Nat.le_refl _)
  clear h hm hR hw ho hc
  go_enter Tryz.func131, Tryz.ntmps131
  go_wp2_with fail
  refine (rname_calls _ _ S.out.rd).mono ?_
  intro e X1 hp
  rcases post_x hp with ⟨j, hq, rfl, hg⟩ | ⟨n1, i1, hq, rfl, hr, hg⟩
  · exact ⟨rfl, S.out.err (bi_er HR.out hq) hg⟩
  have G := hid (show i + 1 ≤ i1 by have h1 := G.out; have h2 := name_on hq; omega)
  have S := hid (S.out.go hr hg)
  have HR := hid (bi_ok HR.out hq)
  clear hp hq hr hg
  go_wp2_with fail
  have S := hid (S.out.alloc #[.string n1, .string ⟨#[]⟩, .string ⟨#[]⟩, .nilIface] 159)
  try rw [show X1.heap.size + 1 = (X1.alloc (.cells #[.string n1, .string ⟨#[]⟩, .string ⟨#[]⟩, .nilIface] 159)).heap.size by simp]
  obtain ⟨Y2, hY⟩ : ∃ y, X1.alloc (.cells #[.string n1, .string ⟨#[]⟩, .string ⟨#[]⟩, .nilIface] 159) = y := ⟨_, rfl⟩
  rw [hY] at S ⊢
  obtain ⟨g2, hg⟩ : ∃ g, X1.heap.size = g := ⟨_, rfl⟩
  rw [hg] at S ⊢
  clear hY hg
  refine (rname_calls _ _ S.out.rd).mono ?_
  intro e X3 hp
  rcases post_x hp with ⟨j, hq, rfl, hg⟩ | ⟨n3, i3, hq, rfl, hr, hg⟩
  · exact ⟨rfl, S.out.err (bi_er HR.out hq) hg⟩
  have G := hid (show i + 2 ≤ i3 by have h1 := G.out; have h2 := name_on hq; omega)
  have S := hid (S.out.go hr hg)
  have HR := hid (bi_ok HR.out hq)
  clear hp hq hr hg
  have b := cell_of_heap S.out.box 1
  have z := frozen_of_heap S.out.box 1
  simp at b
  go_wp2_with fail
  have S := hid (S.out.put 1 (.string n3))
  try rw [put_size X3 g2 1 (.string n3)]
  obtain ⟨Z4, hZ⟩ : ∃ Z, X3.setCell ⟨g2, 1, none⟩ (.string n3) = Z := ⟨_, rfl⟩
  rw [hZ] at S ⊢
  clear hZ b z
  refine (rname_calls _ _ S.out.rd).mono ?_
  intro e X5 hp
  rcases post_x hp with ⟨j, hq, rfl, hg⟩ | ⟨n5, i5, hq, rfl, hr, hg⟩
  · exact ⟨rfl, S.out.err (bi_er HR.out hq) hg⟩
  have G := hid (show i + 3 ≤ i5 by have h1 := G.out; have h2 := name_on hq; omega)
  have S := hid (S.out.go hr hg)
  have HR := hid (bi_ok HR.out hq)
  clear hp hq hr hg
  have b := cell_of_heap S.out.box 2
  have z := frozen_of_heap S.out.box 2
  simp at b
  go_wp2_with fail
  have S := hid (S.out.put 2 (.string n5))
  try rw [put_size X5 g2 2 (.string n5)]
  obtain ⟨Z6, hZ⟩ : ∃ Z, X5.setCell ⟨g2, 2, none⟩ (.string n5) = Z := ⟨_, rfl⟩
  rw [hZ] at S ⊢
  clear hZ b z
  refine (must1 _ S.out.rd (l1 := gTo) (by kernel_rfl) (by decide)).mono ?_
  intro e X7 hp
  rcases post_x hp with ⟨j, hq, rfl, hg⟩ | ⟨u, i7, hq, ⟨v, rfl⟩, hr, hg⟩
  · exact ⟨rfl, S.out.err (m1_er HR.out hq) hg⟩
  have HQ := m1_ok HR.out hq
  have G := hid (show i + 4 ≤ i7 by have h1 := G.out; have h2 := HQ.2; omega)
  have S := hid (S.out.go hr hg)
  have HR := hid HQ.1
  clear hp hq hr hg HQ
  go_wp2_with fail
  refine (H.out.2.2.expr _ _ S.out.rd (by have h1 := G.out; have h2 := M.out; have h3 := S.out.rd.lt; unfold mi at h2 ⊢; omega)).mono ?_
  intro e X8 hp
  rcases post_x hp with ⟨j, hq, rfl, hg⟩ | ⟨t8, i8, hq, ⟨T8, p8, rfl, hf⟩, hr, hg⟩
  · exact ⟨rfl, S.out.err (bi_er HR.out hq) hg⟩
  have G := hid (show i + 4 ≤ i8 by have h1 := G.out; have h2 := ip_goes H.out.1 H.out.2.1 f NtR.expr trivial S.out.rd.lt hq; omega)
  have S := hid (S.out.form hr hg hf)
  have HR := hid (bi_ok HR.out hq)
  clear hp hq hf hr hg
  have b0 := cell_of_heap S.out.box 0
  have b1 := cell_of_heap S.out.box 1
  have b2 := cell_of_heap S.out.box 2
  have b3 := cell_of_heap S.out.box 3
  have z := frozen_of_heap S.out.box 3
  simp at b0 b1 b2 b3
  go_wp2_with fail
  have S := hid (S.out.put 3 (.iface T8 p8))
  go_ret
  exact S.out.fin HR.out (S.out.mk1 (.head _) .op)


/-- Behind an append: everything as it was, but a row of one's own. -/
theorem St.grown {W X X' : World} {bx : List (Nat × Array Value × TypeId)} {fs : List Fr} {i : Nat} (h : St d ws ad cp sz W bx fs i X) {row : Option Nat} (hg : X.grownBy X' row) (hr : ∀ g, row = some g → W.heap.size ≤ g ∧ (∀ b ∈ bx, b.1 ≠ g) ∧ ∀ x ∈ fs, g < x.lo ∨ x.hi ≤ g) : St d ws ad cp sz W bx fs i X' := by
  have hB := h.hB
  have hk : ∀ q, q < X.heap.size → (∀ g, row = some g → q ≠ g) → X'.heap[q]? = X.heap[q]? := fun q hq hn => hg.block q hq (fun e => hn q e.symm rfl)
  have hgr : Grew d W X' := ⟨hg.os.trans h.gr.os, hg.tape.trans h.gr.tape, hg.output.trans h.gr.output, Nat.le_trans h.gr.size hg.size, fun q hq => (hk q (Nat.lt_of_lt_of_le hq.1 h.gr.size) (fun g hg' => by have := (hr g hg').1; have := hq.1; omega)).trans (h.gr.block q hq)⟩
  have hblk : X'.heap[d.B]? = X.heap[d.B]? := hk d.B (heap_lt h.rd.blk) (fun g hg' => by have := (hr g hg').1; omega)
  refine ⟨⟨hblk.trans h.rd.blk, h.rd.eq, h.rd.lt, h.rd.few, ?_⟩, hgr, hB, h.wd, fun b hb => ?_, h.nd, fun x hx => ?_⟩
  · rcases h.rd.words with h1 | ⟨b, off, cap, e, hn, rfl, hqb, hc⟩
    · exact Or.inl h1
    · refine Or.inr ⟨b, 0, cap, e, hn, rfl, ⟨Nat.lt_of_lt_of_le hqb.1 hg.size, hqb.2⟩, fun j hj => ?_⟩
      cases e
      have hbW := h.wd b rfl
      rw [← hc j hj]
      exact World.cell?_of_block (hk b hqb.1 (fun g hg' => by have := (hr g hg').1; omega))
  · obtain ⟨h1, h2⟩ := h.bxs b hb
    exact ⟨(hk _ (heap_lt h1) (fun g hg' => (hr g hg').2.1 b hb)).trans h1, h2⟩
  · obtain ⟨h1, h2, h3⟩ := h.fss x hx
    have ht := h1.top
    exact ⟨h1.keep (Nat.le_trans ht hg.size) (fun q hq hq' => hk q (by omega) (fun g hg' e => by have := (hr g hg').2.2 x hx; omega)), h2, h3⟩

/-- A handler's own block, its body, its clauses so far in a row of their own. -/
structure HSt (d : Dr) (ws : List Wd) (ad : Option Addr) (cp sz : Nat) (W : World) (gf : Nat) (kd : Int) (a : Fr) (l : List Fr) (cv : Value) (i : Nat) (X : World) : Prop where
  st : St d ws ad cp sz W [(gf, #[.int .i64 kd, a.v, cv], 156)] (a :: l) i X
  own : X.ownsRow W.heap.size 47 1 cv l.length (l.map Fr.v)
  off : ∀ g, cv.ownBlock = some g → g ≠ gf ∧ ∀ x ∈ a :: l, g < x.lo ∨ x.hi ≤ g
  few : l.length ≤ i
  ifc : ∀ x ∈ a :: l, ∃ T p, x.v = .iface T p

section
variable {W X X' : World} {gf i k : Nat} {kd : Int} {a : Fr} {l : List Fr} {cv : Value}

theorem HSt.go (h : HSt d ws ad cp sz W gf kd a l cv i X) (hr : RdAt d ws ad cp sz k X') (hg : Grew d X X') (hik : i ≤ k) : HSt d ws ad cp sz W gf kd a l cv k X' := by
  have hB := h.st.hB
  exact ⟨h.st.go hr hg, y_same h.own (fun g hg' => hg.block g ⟨(h.own.lt g hg').2, by have := (h.own.lt g hg').1; omega, by rw [hr.eq]; have := (h.own.lt g hg').1; omega⟩), h.off, Nat.le_trans h.few hik, h.ifc⟩

/-- The row's values, one more: made, put behind, stored. -/
theorem HSt.more (h : HSt d ws ad cp sz W gf kd a l cv i X) {lo hi : Nat} {t : Tr} {T : TypeId} {p : Value} (hf : FmAt lo hi X t (.iface T p)) (hlo : W.heap.size ≤ lo) (hgf : gf < lo ∨ hi ≤ gf) (hro : ∀ g, cv.ownBlock = some g → g < lo ∨ hi ≤ g) (hl : l.length + 1 ≤ i) {cv' : Value} {Z : World} (ho : Z.ownsRow W.heap.size 47 1 cv' (l.length + 1) (l.map Fr.v ++ [.iface T p])) (hgw : (X.alloc (.cells #[.iface T p] 47)).grownBy Z cv.ownBlock) (hb : cv'.ownBlock = cv.ownBlock ∨ cv'.ownBlock = some (X.alloc (.cells #[.iface T p] 47)).heap.size) :
    HSt d ws ad cp sz W gf kd a (l ++ [⟨lo, hi, t, .iface T p⟩]) cv' i (Z.setCell ⟨gf, 2, none⟩ cv') := by
  have hbl : Below X.heap.size X (X.alloc (.cells #[.iface T p] 47)) := (Below.refl _ _).alloc (Nat.le_refl _) _
  have hsz : (X.alloc (.cells #[.iface T p] 47)).heap.size = X.heap.size + 1 := by simp
  have h1 := h.st.below hbl
  have hft := hf.top
  have hfs : ∀ x ∈ a :: (l ++ [(⟨lo, hi, t, .iface T p⟩ : Fr)]), FmAt x.lo x.hi (X.alloc (.cells #[.iface T p] 47)) x.t x.v ∧ W.heap.size ≤ x.lo ∧ ∀ b ∈ [(gf, #[.int .i64 kd, a.v, cv], 156)], b.1 < x.lo ∨ x.hi ≤ b.1 := fun x hx => by
    rw [← List.cons_append, List.mem_append] at hx
    rcases hx with hx | hx
    · exact h1.fss x hx
    · simp at hx
      subst hx
      exact ⟨hf.keep (by rw [hsz]; omega) (fun q _ hq' => hbl.block q (by omega)), hlo, fun b hb => by simp at hb; subst hb; exact hgf⟩
  have h2 : St d ws ad cp sz W [(gf, #[.int .i64 kd, a.v, cv], 156)] (a :: (l ++ [(⟨lo, hi, t, .iface T p⟩ : Fr)])) i (X.alloc (.cells #[.iface T p] 47)) := ⟨h1.rd, h1.gr, h1.hB, h1.wd, h1.bxs, h1.nd, hfs⟩
  have hoffA : ∀ g, cv.ownBlock = some g → g ≠ gf ∧ ∀ x ∈ a :: (l ++ [(⟨lo, hi, t, .iface T p⟩ : Fr)]), g < x.lo ∨ x.hi ≤ g := fun g hg => by
    refine ⟨(h.off g hg).1, fun x hx => ?_⟩
    rw [← List.cons_append, List.mem_append] at hx
    rcases hx with hx | hx
    · exact (h.off g hg).2 x hx
    · simp at hx
      subst hx
      exact hro g hg
  have h3 := (h2.grown hgw (fun g hg => ⟨(h.own.lt g hg).1, fun b hb => by simp at hb; subst hb; exact fun e => (hoffA g hg).1 e.symm, (hoffA g hg).2⟩)).put 2 cv'
  have hgfl := heap_lt (h.st.box)
  have hne : ∀ g, cv'.ownBlock = some g → g ≠ gf ∧ ∀ x ∈ a :: (l ++ [(⟨lo, hi, t, .iface T p⟩ : Fr)]), g < x.lo ∨ x.hi ≤ g := fun g hg => by
    rcases hb with hb | hb
    · exact hoffA g (hb.symm.trans hg)
    · rw [hb, hsz] at hg
      cases hg
      refine ⟨by omega, fun x hx => Or.inr ?_⟩
      rw [← List.cons_append, List.mem_append] at hx
      rcases hx with hx | hx
      · have := (h.st.fss x hx).1.top
        omega
      · simp at hx
        subst hx
        dsimp only
        omega
  refine ⟨h3, ?_, hne, by rw [List.length_append]; exact hl, fun x hx => ?_⟩
  · rw [List.length_append, List.map_append]
    exact y_same ho (fun g hg => Below.heap_setCell Z ⟨gf, 2, none⟩ cv' g (hne g hg).1)
  · rw [← List.cons_append, List.mem_append] at hx
    rcases hx with hx | hx
    · exact h.ifc x hx
    · simp at hx
      subst hx
      exact ⟨T, p, rfl⟩

theorem form_info : ∃ i, Tryz.prog.info? 47 = some i ∧ i.zero = some .nilIface ∧ i.size = 1 ∧ i.bytes = 16 := by
  obtain ⟨i0, h1, h2, h3, h4⟩ := info_parts info_form
  exact ⟨i0, h1, h2, h3, h4⟩

/-- One value is put behind a row of one's own. -/
theorem form_append {B n : Nat} {xs : List Value} (h : X.ownsRow B 47 1 cv n xs) (T : TypeId) (p : Value) (hB : B ≤ X.heap.size) (hn : n ≤ 2000) :
    ∃ cv' Z, (Builtin.append_ #[75, 75] 75 #[cv, .slice (some ⟨X.heap.size, 0, none⟩) 1 1]).run Tryz.prog (X.alloc (.cells #[.iface T p] 47)) = .ok cv' Z ∧ Z.ownsRow B 47 1 cv' (n + 1) (xs ++ [.iface T p]) ∧ (X.alloc (.cells #[.iface T p] 47)).grownBy Z cv.ownBlock ∧ (cv'.ownBlock = cv.ownBlock ∨ cv'.ownBlock = some (X.alloc (.cells #[.iface T p] 47)).heap.size) := by
  obtain ⟨i0, h1, h2, h3, h4⟩ := form_info
  have hbl : Below X.heap.size X (X.alloc (.cells #[.iface T p] 47)) := (Below.refl _ _).alloc (Nat.le_refl _) _
  have ho := owns_below h hbl
  have hc := (MapKept.heap_alloc X (.cells #[.iface T p] 47)).1
  obtain ⟨v', w', hr, g2, g3, -, g5⟩ := run_append_own_at (P := Tryz.prog) (X.alloc (.cells #[.iface T p] 47)) B 75 75 47 i0 .nilIface 1 16 Tryz.underlying75 h1 h2 h3 h4 rfl (by decide) cv n xs ho ⟨X.heap.size, 0, none⟩ 1 1 [.iface T p] rfl (fun j u hj => by
    have hj0 : j = 0 := by
      rcases j with _ | j
      · rfl
      · simp at hj
    subst hj0
    simp at hj
    subst hj
    rw [WideShapes.add_plain]
    exact cell_of_heap hc 0) (fun u hu => by simp at hu; subst hu; rfl) (by unfold maxLen; omega) (by omega) (by have := hbl.size; omega)
  exact ⟨v', w', hr, g2, g3, g5⟩
end

theorem op_goes (hw : BriefW ws) (ho : WordsOk ws) {f i k : Nat} {t : Tr} (h : opI' ws (ipz ws f) i = .ok (t, k)) : i + 1 ≤ k := by
  have hn : ∀ {i k : Nat} {n : ByteArray}, nameI ws i = .ok (n, k) → k = i + 1 ∧ k ≤ ws.length := fun {i k n} h1 => by
    have h2 := name_on h1
    unfold nameI at h1
    split at h1
    · rename_i hc
      have := hc.1
      exact ⟨h2, by omega⟩
    · cases h1
  unfold opI' at h
  cases h1 : nameI ws i with
  | error e => exact absurd (bi_er h h1) (by simp)
  | ok r =>
    obtain ⟨a, b⟩ := r
    have h := bi_ok h h1
    cases h2 : nameI ws b with
    | error e => exact absurd (bi_er h h2) (by simp)
    | ok r =>
      obtain ⟨a2, b2⟩ := r
      have h := bi_ok h h2
      cases h3 : nameI ws b2 with
      | error e => exact absurd (bi_er h h3) (by simp)
      | ok r =>
        obtain ⟨a3, b3⟩ := r
        have h := bi_ok h h3
        cases h4 : takeI ws gTo b3 with
        | error e => exact absurd (bi_er h h4) (by simp)
        | ok r =>
          obtain ⟨a4, b4⟩ := r
          have h := bi_ok h h4
          have e4 := taken_on h4
          have e1 := hn h1
          have e2 := hn h2
          have e3 := hn h3
          have h5 : b4 ≤ ws.length := by
            unfold takeI seesI at h4
            split at h4
            · rename_i hc
              simp at hc
              omega
            · cases h4
          cases h6 : ipz ws f .expr b4 with
          | error e => exact absurd (bi_er h h6) (by simp)
          | ok r =>
            obtain ⟨a6, b6⟩ := r
            have h := bi_ok h h6
            have h7 := ip_goes hw ho f NtR.expr trivial h5 h6
            simp only [pureI, Except.ok.injEq, Prod.mk.injEq] at h
            omega

/-- What holds of the loop over clauses. -/
def LoopC (d : Dr) (ws : List Wd) (ad : Option Addr) (cp sz f : Nat) (gf : Nat) (kd : Int) (a : Fr) (R : Except Nat (Tr × Nat)) (W wr : World) : Prop :=
  ∃ (l : List Fr) (cv : Value) (g k : Nat), HSt d ws ad cp sz W gf kd a l cv k wr ∧ l ≠ [] ∧ ipz ws g (.opsL kd (a.t :: l.map Fr.t)) k = R ∧ mi ws 11 k ≤ g ∧ g ≤ f

set_option maxHeartbeats 8000000 in
set_option maxRecDepth 100000 in
theorem ihand_calls (hw : BriefW ws) (ho : WordsOk ws) {f : Nat} (ha : ∀ g, g ≤ f → PiAll d ws ad cp sz g) (i : Nat) (W : World) (h : RdAt d ws ad cp sz i W) (hm : mi ws 12 i ≤ f + 1) (kd : Int) (hkd : kd = 23 ∨ kd = 24) :
    Calls Tryz.prog 129 #[.pointer (some ⟨d.B, 0, none⟩), .int .i64 kd] W (PostT d ws ad cp sz (ipz ws (f + 1) (.hand kd) i) W) := by
  obtain ⟨R, hR⟩ : ∃ R, ipz ws (f + 1) (.hand kd) i = R := ⟨_, rfl⟩
  rw [hR]
  have HR := hid (show handI ws (ipz ws f) kd i = R from hR)
  have S := hid (St.start h)
  have H := hid (And.intro hw (And.intro ho (ha f (Nat.le_refl f))))
  have M := hid hm
  have G := hid (show i + 0 ≤ i from Nat.le_refl _)
  have HA := hid ha
  have HK := hid hkd
  clear h hm hR hw ho ha hkd
  go_enter Tryz.func129, Tryz.ntmps129
  go_wp2_with fail
  refine (H.out.2.2.expr _ _ S.out.rd (by have h1 := G.out; have h2 := M.out; have h3 := S.out.rd.lt; unfold mi at h2 ⊢; omega)).mono ?_
  intro e X1 hp
  rcases post_x hp with ⟨j, hq, rfl, hg⟩ | ⟨t1, i1, hq, ⟨T1, p1, rfl, hf⟩, hr, hg⟩
  · exact ⟨rfl, S.out.err (bi_er HR.out hq) hg⟩
  have G := hid (show i + 0 ≤ i1 by have h1 := G.out; have h2 := ip_goes H.out.1 H.out.2.1 f NtR.expr trivial S.out.rd.lt hq; omega)
  have S := hid (S.out.form hr hg hf)
  have HR := hid (bi_ok HR.out hq)
  clear hp hq hf hr hg
  go_wp2_with fail
  have S := hid (S.out.alloc #[.int .i64 kd, .iface T1 p1, .slice none 0 0] 156)
  try rw [show X1.heap.size + 1 = (X1.alloc (.cells #[.int .i64 kd, .iface T1 p1, .slice none 0 0] 156)).heap.size by simp]
  obtain ⟨Y2, hY⟩ : ∃ y, X1.alloc (.cells #[.int .i64 kd, .iface T1 p1, .slice none 0 0] 156) = y := ⟨_, rfl⟩
  rw [hY] at S ⊢
  obtain ⟨g2, hg⟩ : ∃ g, X1.heap.size = g := ⟨_, rfl⟩
  rw [hg] at S ⊢
  clear hY hg
  refine (must2 _ _ S.out.rd (l1 := kWith) (l2 := kRet) (by kernel_rfl) (by decide) (by kernel_rfl) (by decide)).mono ?_
  intro e X3 hp
  rcases post_x hp with ⟨j, hq, rfl, hg⟩ | ⟨u, i3, hq, ⟨v, rfl⟩, hr, hg⟩
  · exact ⟨rfl, S.out.err (m2_er HR.out hq) hg⟩
  have HQ := m2_ok HR.out hq
  have G := hid (show i + 2 ≤ i3 by have h1 := G.out; have h2 := HQ.2; omega)
  have S := hid (S.out.go hr hg)
  have HR := hid HQ.1
  clear hp hq hr hg HQ
  go_wp2_with fail
  refine (rname_calls _ _ S.out.rd).mono ?_
  intro e X4 hp
  rcases post_x hp with ⟨j, hq, rfl, hg⟩ | ⟨n4, i4, hq, rfl, hr, hg⟩
  · exact ⟨rfl, S.out.err (bi_er HR.out hq) hg⟩
  have G := hid (show i + 3 ≤ i4 by have h1 := G.out; have h2 := name_on hq; omega)
  have S := hid (S.out.go hr hg)
  have HR := hid (bi_ok HR.out hq)
  clear hp hq hr hg
  go_wp2_with fail
  have S := hid (S.out.alloc #[.string n4, .nilIface] 157)
  try rw [show X4.heap.size + 1 = (X4.alloc (.cells #[.string n4, .nilIface] 157)).heap.size by simp]
  obtain ⟨Y5, hY⟩ : ∃ y, X4.alloc (.cells #[.string n4, .nilIface] 157) = y := ⟨_, rfl⟩
  rw [hY] at S ⊢
  obtain ⟨g5, hg⟩ : ∃ g, X4.heap.size = g := ⟨_, rfl⟩
  rw [hg] at S ⊢
  clear hY hg
  refine (must1 _ S.out.rd (l1 := gTo) (by kernel_rfl) (by decide)).mono ?_
  intro e X6 hp
  rcases post_x hp with ⟨j, hq, rfl, hg⟩ | ⟨u, i6, hq, ⟨v, rfl⟩, hr, hg⟩
  · exact ⟨rfl, S.out.err (m1_er HR.out hq) hg⟩
  have HQ := m1_ok HR.out hq
  have G := hid (show i + 4 ≤ i6 by have h1 := G.out; have h2 := HQ.2; omega)
  have S := hid (S.out.go hr hg)
  have HR := hid HQ.1
  clear hp hq hr hg HQ
  go_wp2_with fail
  refine (H.out.2.2.expr _ _ S.out.rd (by have h1 := G.out; have h2 := M.out; have h3 := S.out.rd.lt; unfold mi at h2 ⊢; omega)).mono ?_
  intro e X7 hp
  rcases post_x hp with ⟨j, hq, rfl, hg⟩ | ⟨t7, i7, hq, ⟨T7, p7, rfl, hf⟩, hr, hg⟩
  · exact ⟨rfl, S.out.err (bi_er HR.out hq) hg⟩
  have G := hid (show i + 4 ≤ i7 by have h1 := G.out; have h2 := ip_goes H.out.1 H.out.2.1 f NtR.expr trivial S.out.rd.lt hq; omega)
  have S := hid (S.out.form hr hg hf)
  have HR := hid (bi_ok HR.out hq)
  clear hp hq hf hr hg
  have hb2 := S.out.box
  have hb1 := S.out.drop.box
  have hne : g2 ≠ g5 := fun e => by
    subst e
    have := S.out.nd
    simp at this
  have r0 := cell_of_heap hb2 0
  have r1 := cell_of_heap hb2 1
  have c2 := cell_of_heap hb1 2
  have zr := frozen_of_heap hb2 1
  simp at r0 r1 c2
  clear hb1 hb2
  go_upto_region 6 with fail
  have S := hid (S.out.put 1 (.iface T7 p7))
  obtain ⟨Z, hZ⟩ : ∃ Z, X7.setCell ⟨g5, 1, none⟩ (.iface T7 p7) = Z := ⟨_, rfl⟩
  rw [hZ] at S ⊢
  clear hZ r0 r1 c2 zr
  have hbx2 := S.out.box
  have hbx1 := S.out.drop.box
  have r0 := cell_of_heap hbx2 0
  have r1 := cell_of_heap hbx2 1
  have c2 := cell_of_heap hbx1 2
  simp at r0 r1 c2
  have hf1 := S.out.fss _ (.tail _ (.head _))
  have hf2 := S.out.fss _ (.head _)
  have hsf : St d ws ad cp sz W [(g2, #[.int .i64 kd, .iface T1 p1, .slice none 0 0], 156)] [⟨_, _, t1, .iface T1 p1⟩] i7 Z := ⟨S.out.rd, S.out.gr, S.out.hB, S.out.wd, S.out.drop.bxs, S.out.drop.nd, fun x hx => by simp at hx; subst hx; exact ⟨hf1.1, hf1.2.1, fun b hb => hf1.2.2 b (List.mem_cons_of_mem _ hb)⟩⟩
  have hH0 : HSt d ws ad cp sz W g2 kd ⟨_, _, t1, .iface T1 p1⟩ [] (.slice none 0 0) i7 Z := ⟨hsf, ⟨rfl, Or.inl ⟨rfl, rfl⟩⟩, fun g hg => (by cases hg), Nat.zero_le _, fun x hx => (by simp at hx; subst hx; exact ⟨_, _, rfl⟩)⟩
  have hnode := hf2.1.node1 (n := nd1 25 n4) (u := .iface 157 (.agg #[.string n4, .iface T7 p7])) (fun w => .ret)
  obtain ⟨cv, Y, hrun, hown, hgw, hblk⟩ := form_append hH0.own 157 (.agg #[.string n4, .iface T7 p7]) S.out.gr.size (Nat.zero_le _)
  have hM := hH0.more hnode hf2.2.1 (hf2.2.2 _ (.tail _ (.head _))) (fun g hg => (by cases hg)) (by have h1 := G.out; simp; omega) hown hgw hblk
  have hbY : Y.heap[g2]? = some (.cells #[.int .i64 kd, .iface T1 p1, .slice none 0 0] 156) := (hgw.block g2 (by have := heap_lt hbx1; simp; omega) (by simp [Value.ownBlock])).trans (((Below.refl _ _).alloc (Nat.le_refl _) _ : Below Z.heap.size Z _).block _ (heap_lt hbx1) |>.trans hbx1)
  obtain ⟨av, cpv, nv, hcv⟩ : ∃ av cpv nv, cv = .slice av nv cpv := by
    obtain ⟨x, y, z⟩ := y_is hown
    exact ⟨x, y, _, z⟩
  subst hcv
  have HM := hid hM
  have HRun := hid hrun
  have HY := hid hbY
  have HIf := hid hH0.ifc
  clear hf1 hf2 hsf hH0 hnode hown hgw hblk hM hrun hbY hbx1 hbx2
  have HR := hid HR.out
  go_wp2_with (at_builtin; refine wpList_append_run rfl _ _ 75 rfl _ _ rfl rfl HRun.out ?_; have c2 := cell_of_heap HY.out 2; have z2 := frozen_of_heap HY.out 2; simp at c2)
  have hex : ∃ (fa : Fr) (l : List Fr), HSt d ws ad cp sz W g2 kd fa l (.slice av nv cpv) i7 (Y.setCell ⟨g2, 2, none⟩ (.slice av nv cpv)) ∧ fa.v = .iface T1 p1 ∧ fa.t = t1 ∧ l ≠ [] ∧ l.map Fr.t = [mkT (nd1 25 n4) [t7]] := ⟨_, _, HM.out, rfl, rfl, by simp, rfl⟩
  obtain ⟨fa, l0, hH, hfv, hft, hl0, hlt⟩ := hex
  have HM := hid hH
  have HFv := hid (And.intro hfv (And.intro hft (And.intro hl0 hlt)))
  obtain ⟨Y0, hY0⟩ : ∃ Y0, Y.setCell ⟨g2, 2, none⟩ (.slice av nv cpv) = Y0 := ⟨_, rfl⟩
  rw [hY0] at HM ⊢
  clear hH hfv hft hl0 hlt hY0 c2 z2 HRun HY r0 r1
  go_loopw [] (fun wr => Hid (LoopC d ws ad cp sz f g2 kd fa R W wr)) (fun wr => ws.length - posOf d wr)
  case atStart => exact hid ⟨l0, _, f, i7, HM.out, HFv.out.2.2.1, by rw [HFv.out.2.1, HFv.out.2.2.2]; exact HR.out, (by have h1 := G.out; have h2 := M.out; have h3 := S.out.rd.lt; unfold mi at h2 ⊢; omega), Nat.le_refl _⟩
  case round =>
    obtain ⟨l, cl, g, k, hS, hl, hF, hm, hg⟩ := hrel.out
    clear hrel
    obtain ⟨g, rfl⟩ : ∃ x, g = x + 1 := ⟨g - 1, by unfold mi at hm; omega⟩
    have HS := hid hS
    have HL := hid hl
    have HR := hid (show opsLI ws (ipz ws g) kd (fa.t :: l.map Fr.t) k = R from hF)
    have HR := hid ((congrFun (ops_split ws (ipz ws g) kd (fa.t :: l.map Fr.t)) k).symm.trans HR.out)
    have M := hid hm
    have HG := hid hg
    have HP := hid (rd_pos hS.st.rd)
    have H := hid (And.intro H.out.1 (And.intro H.out.2.1 (HA.out g (by omega))))
    obtain ⟨acl, ncl, hcl⟩ := y_is hS.own
    subst hcl
    clear hS hl hF hm hg
    go_wp2_with fail
    by_cases z : seesI ws k gBar = true
    · refine (skips_t HS.out.st.rd (by kernel_rfl) (by decide) z).mono ?_
      rintro e X1 ⟨rfl, hr, hg⟩
      have HR := hid (oi_t HR.out z)
      have HS := hid (HS.out.go hr hg (Nat.le_succ _))
      clear hr hg z
      go_wp2_with fail
      have hD : Below X1.heap.size X1 X1.drew := (Below.refl _ _).drew
      have HS := hid (HS.out.go (HS.out.st.rd.below hD) (Grew.of_below hD) (Nat.le_refl _))
      have hS2 := cell_of_heap HS.out.st.box 2
      simp at hS2
      have hgfl := heap_lt HS.out.st.box
      refine dies_begin (S := fun w' => w'.cell? ⟨g2, 2, none⟩ = some (.slice acl l.length ncl)) (c := 7) (D := fun c w => PostT d ws ad cp sz R W (.panicked c) w) (fun c a w h1 h2 => ⟨h1, h2⟩) (by kernel_rfl) rfl rfl ?_
      obtain ⟨Xd, hXd⟩ : ∃ Y, X1.drew = Y := ⟨_, rfl⟩
      rw [hXd] at HS hgfl ⊢
      have hS2 : Xd.cell? ⟨g2, 2, none⟩ = some (.slice acl l.length ncl) := by rw [← hXd]; exact hS2
      clear hD hXd
      refine dies_op (k := 0) (v := .pointer (some ⟨g2, 2, none⟩)) (by kernel_rfl) (by decide) (by kernel_rfl) (by kernel_rfl) rfl (by kernel_rfl) (by kernel_rfl) (by kernel_rfl) (by decide) rfl rfl (fun w' _ => by simp [go_sem]) hS2 (by simp [go_sem]; exact rfl) (fun c a w h => h) ?_
      refine dies_op (k := 1) (v := .slice acl l.length ncl) (by kernel_rfl) (by decide) (by kernel_rfl) (by kernel_rfl) rfl (by kernel_rfl) (by kernel_rfl) (by kernel_rfl) (by decide) rfl rfl (fun w' h => by simp [go_sem, h]) hS2 (by simp [go_sem]; exact rfl) (fun c a w h => h) ?_
      refine dies_op (k := 2) (v := .pointer (some ⟨d.B, 0, none⟩)) (by kernel_rfl) (by decide) (by kernel_rfl) (by kernel_rfl) rfl (by kernel_rfl) (by kernel_rfl) (by kernel_rfl) (by decide) rfl rfl (fun w' _ => by simp [go_sem]) hS2 (by simp [go_sem]; exact rfl) (fun c a w h => h) ?_
      refine dies_enter (i := 3) (f := 131) (args := #[.pointer (some ⟨d.B, 0, none⟩)]) rfl (by kernel_rfl) (by decide) rfl rfl (by simp [go_sem]) rfl ?_
      refine (iop_calls H.out.1 H.out.2.1 H.out.2.2 _ _ HS.out.st.rd (by have h2 := M.out; have h3 := HS.out.st.rd.lt; unfold mi at h2 ⊢; omega)).mono ?_
      intro e X2 hp
      rcases post_x hp with ⟨j, hq, rfl, hg⟩ | ⟨t2, k2, hq, ⟨T2, p2, rfl, hf⟩, hr, hg⟩
      · exact Or.inr ⟨_, rfl, HS.out.st.err (bi_er HR.out hq) hg⟩
      have hk2 := op_goes H.out.1 H.out.2.1 hq
      have HR := hid (bi_ok HR.out hq)
      have HS2 := HS.out.go hr hg (by omega)
      obtain ⟨cv, Z, hrun, hown, hgw, hblk⟩ := form_append HS2.own T2 p2 HS2.st.gr.size (by have h1 := HS2.few; have h2 := HS2.st.rd.lt; have h3 := HS2.st.rd.few; omega)
      have hM := HS2.more hf HS.out.st.gr.size (Or.inl hgfl) (fun g hg => Or.inl (HS.out.own.lt g hg).2) (by have h1 := HS.out.few; omega) hown hgw hblk
      have hb2 := HS2.st.box
      have hbA := (((Below.refl _ _).alloc (Nat.le_refl _) (.cells #[.iface T2 p2] 47) : Below X2.heap.size X2 _).block _ (heap_lt hb2)).trans hb2
      have hbZ := (hgw.block g2 (heap_lt hbA) (fun e => (HS2.off g2 e.symm).1 rfl)).trans hbA
      obtain ⟨av, cpv, nv, hcv⟩ : ∃ av cpv nv, cv = .slice av nv cpv := by
        obtain ⟨x, y, z⟩ := y_is hown
        exact ⟨x, y, _, z⟩
      subst hcv
      have cA := cell_of_heap hbA 2
      have cZ := cell_of_heap hbZ 2
      have c2 := cell_of_heap hb2 2
      have zZ := frozen_of_heap hbZ 2
      simp at cZ c2
      refine Or.inl ⟨_, rfl, c2, ?_⟩
      refine dies_frame (by simp [go_sem]; exact rfl) ?_
      refine dies_make (i := 4) (v := .slice (some ⟨X2.heap.size, 0, none⟩) 1 1) (w1 := X2.alloc (.cells #[.iface T2 p2] 47)) rfl (by kernel_rfl) (by decide) rfl rfl (by simp [go_sem]) cA (by simp [go_sem]; exact rfl) ?_
      refine dies_make (i := 5) (v := .slice av nv cpv) (w1 := Z) rfl (by kernel_rfl) (by decide) rfl rfl (append_runN (s := .tmp 33) (x := .tmp 36) (t := 75) rfl rfl rfl hrun) cZ (by simp [go_sem]; exact rfl) ?_
      refine dies_make (i := 6) (v := .pointer (some ⟨g2, 2, none⟩)) (w1 := Z) rfl (by kernel_rfl) (by decide) rfl rfl (by simp [go_sem]) cZ (by simp [go_sem]; exact rfl) ?_
      refine dies_last (w1 := Z.setCell ⟨g2, 2, none⟩ (.slice av nv cpv)) rfl rfl (by kernel_rfl) rfl rfl (by simp [go_sem, cZ, zZ]) (by kernel_rfl) ?_
      have HM := hid hM
      have HK2 := hid hk2
      have HP2 := hid (rd_pos hM.st.rd)
      obtain ⟨Y9, hY9⟩ : ∃ Y9, Z.setCell ⟨g2, 2, none⟩ (.slice av nv cpv) = Y9 := ⟨_, rfl⟩
      rw [hY9] at HM HP2 ⊢
      clear hM hk2 hY9 cA cZ c2 zZ hbA hbZ hb2 hrun hown hgw hblk HS2 hf hr hg hq hp hgfl hS2
      go_wp2_with fail
      exact ⟨hid ⟨_, _, g, k2, HM.out, by simp, by rw [List.map_append]; exact HR.out, (by have h1 := HK2.out; have h2 := M.out; have h3 := HM.out.st.rd.lt; unfold mi at h2 ⊢; omega), (by have := HG.out; omega)⟩, by
        rw [HP.out, HP2.out]
        have h1 := HK2.out
        have h2 := HM.out.st.rd.lt
        omega⟩
    · refine (skips_f (l := gBar) HS.out.st.rd (by kernel_rfl) (by decide) (by simpa using z)).mono ?_
      rintro e X1 ⟨rfl, hr, hg⟩
      have HR := hid (oi_f HR.out (by simpa using z))
      have HS := hid (HS.out.go hr hg (Nat.le_refl _))
      clear hr hg z
      go_wp2_with fail
      refine (must1 _ HS.out.st.rd (l1 := kEnd) (by kernel_rfl) (by decide)).mono ?_
      intro e X2 hp
      rcases post_x hp with ⟨j, hq, rfl, hg⟩ | ⟨u, k2, hq, ⟨v, rfl⟩, hr, hg⟩
      · exact ⟨rfl, HS.out.st.err (m1_er HR.out hq) hg⟩
      have HQ := m1_ok HR.out hq
      have HS := hid (HS.out.go hr hg (by have h1 := HQ.2; omega))
      have HR := hid HQ.1
      clear hp hq hr hg HQ
      have b0 := cell_of_heap HS.out.st.box 0
      have b1 := cell_of_heap HS.out.st.box 1
      have b2 := cell_of_heap HS.out.st.box 2
      simp at b0 b1 b2
      rw [HFv.out.1] at b1
      go_wp2_with fail
      go_ret
      have hlen : l.length ≤ 1500 := by have h1 := HS.out.few; have h2 := HS.out.st.rd.lt; have h3 := HS.out.st.rd.few; omega
      have hrow : RowAt W.heap.size X2 (.slice acl l.length ncl) (l.map Fr.v) := by
        rcases sliceOf_own HS.out.own (Nat.le_refl _) with ⟨h0, -⟩ | h0
        · exact absurd (List.map_eq_nil_iff.1 h0) HL.out
        · exact h0
      have hsh : Shape W.heap.size X2 ((nd0 kd).with_ ((fa :: l).map Fr.t).length) ((fa :: l).map Fr.v) (.iface 156 (.agg #[.int .i64 kd, .iface T1 p1, .slice acl l.length ncl])) := by
        rw [← HFv.out.1]
        exact .handler HK.out hrow (by rw [List.length_map]; exact hlen)
      exact HS.out.st.fin HR.out (HS.out.st.node (fa :: l) (fun x hx => hx) hsh)
end
end Go.Proofs.YtkdipppeljpgmaaGreatDoor

/- The program's reader: whether an atom begins, numbers, brackets, atoms. -/
namespace Go.Proofs.YtkdipppeljpgmaaGreatDoor
open Go.RowKit Go.Deep

theorem starts_cur {ws : List Wd} {sz i : Nat} : startsI ws i = begins (curI ws sz i) := by
  unfold startsI curI
  by_cases hi : i < ws.length
  · rw [if_pos hi, decide_eq_true hi, Bool.true_and]
  · rw [if_neg hi, decide_eq_false hi, Bool.false_and]
    have := no_bytes
    unfold begins
    dsimp only
    rw [this]
    rfl

theorem dec_num : ∀ (l : List UInt8) (a : Nat), (∀ b ∈ l, 48 ≤ b.toNat ∧ b.toNat ≤ 57) → Lib.decFrom a l = some (l.foldl (fun n b => 10 * n + (b.toNat - 48)) a)
  | [], _, _ => rfl
  | b :: r, a, h => by
    unfold Lib.decFrom Lib.digitVal
    rw [if_pos (h b (by simp))]
    dsimp only
    rw [Nat.mul_comm a 10]
    exact dec_num r _ (fun x hx => h x (by simp [hx]))

theorem atoi_num {t : ByteArray} (h : NumB t) (h0 : t.toList ≠ []) : Lib.atoi t.data.toList = some (numZ t.toList : Int) := by
  have e := bytes_list t
  rw [e] at h0 ⊢
  have h2 := h.2
  rw [e] at h2
  generalize t.data.toList = l at h0 h2 ⊢
  match l, h0, h2 with
  | b :: r, _, h2 =>
    have hb := h2 b (by simp)
    unfold Lib.atoi
    dsimp only
    rw [if_neg (by simp; intro e; subst e; revert hb; decide), if_neg (by simp; intro e; subst e; revert hb; decide)]
    unfold Lib.decNat
    rw [if_neg (by simp), dec_num _ _ h2]
    rfl

section
variable {d : Dr} {ws : List Wd} {ad : Option Addr} {cp sz : Nat}

set_option maxHeartbeats 4000000 in
set_option maxRecDepth 100000 in
theorem isees_atom (i : Nat) (W : World) (h : RdAt d ws ad cp sz i W) :
    Calls Tryz.prog 125 #[.pointer (some ⟨d.B, 0, none⟩)] W fun e W' => e = .returned (.bool (startsI ws i)) ∧ Below W.heap.size W W' := by
  have H := hid h
  rw [starts_cur (ws := ws) (sz := sz) (i := i)]
  obtain ⟨⟨kd, tx, wa⟩, hc⟩ : ∃ c, curI ws sz i = c := ⟨_, rfl⟩
  rw [hc]
  have HC := hid hc
  obtain ⟨B, hB⟩ : ∃ b, begins ⟨kd, tx, wa⟩ = b := ⟨_, rfl⟩
  rw [hB]
  have HB := hid hB
  clear h hc hB
  go_enter Tryz.func125, Tryz.ntmps125
  go_wp2_with fail
  refine (peek_at H.out HC.out).mono ?_
  rintro e X ⟨rfl, hb⟩
  have HX := hid (hb.trans (((Below.refl X.heap.size X).alloc (Nat.le_refl _) (.cells #[.int .i64 kd, .string tx, .int .i64 (wa : Int)] 43)).mono hb.size))
  clear hb
  by_cases a0 : (tx.toList == ([116, 114, 117, 101] : List UInt8)) = true
  · have HV := hid (HB.out.symm.trans (show begins ⟨kd, tx, wa⟩ = true by simp [begins, kTrue, beq_iff_eq.1 a0]))
    go_wp2_with fail
    go_ret
    rw [HV.out]
    exact ⟨rfl, HX.out⟩
  have f0 : (tx.toList == ([116, 114, 117, 101] : List UInt8)) = false := by simpa using a0
  clear a0
  by_cases a1 : (tx.toList == ([102, 97, 108, 115, 101] : List UInt8)) = true
  · have HV := hid (HB.out.symm.trans (show begins ⟨kd, tx, wa⟩ = true by simp [begins, kFalse, beq_iff_eq.1 a1]))
    go_wp2_with fail
    go_ret
    rw [HV.out]
    exact ⟨rfl, HX.out⟩
  have f1 : (tx.toList == ([102, 97, 108, 115, 101] : List UInt8)) = false := by simpa using a1
  clear a1
  by_cases a2 : (tx.toList == ([110, 105, 108] : List UInt8)) = true
  · have HV := hid (HB.out.symm.trans (show begins ⟨kd, tx, wa⟩ = true by simp [begins, kNil, beq_iff_eq.1 a2]))
    go_wp2_with fail
    go_ret
    rw [HV.out]
    exact ⟨rfl, HX.out⟩
  have f2 : (tx.toList == ([110, 105, 108] : List UInt8)) = false := by simpa using a2
  clear a2
  by_cases a3 : (tx.toList == ([40] : List UInt8)) = true
  · have HV := hid (HB.out.symm.trans (show begins ⟨kd, tx, wa⟩ = true by simp [begins, gOpen, beq_iff_eq.1 a3]))
    go_wp2_with fail
    go_ret
    rw [HV.out]
    exact ⟨rfl, HX.out⟩
  have f3 : (tx.toList == ([40] : List UInt8)) = false := by simpa using a3
  clear a3
  by_cases a4 : (tx.toList == ([104, 97, 110, 100, 108, 101] : List UInt8)) = true
  · have HV := hid (HB.out.symm.trans (show begins ⟨kd, tx, wa⟩ = true by simp [begins, kHandle, beq_iff_eq.1 a4]))
    go_wp2_with fail
    go_ret
    rw [HV.out]
    exact ⟨rfl, HX.out⟩
  have f4 : (tx.toList == ([104, 97, 110, 100, 108, 101] : List UInt8)) = false := by simpa using a4
  clear a4
  by_cases a5 : (tx.toList == ([115, 104, 97, 108, 108, 111, 119] : List UInt8)) = true
  · have HV := hid (HB.out.symm.trans (show begins ⟨kd, tx, wa⟩ = true by simp [begins, kShallow, beq_iff_eq.1 a5]))
    go_wp2_with fail
    go_ret
    rw [HV.out]
    exact ⟨rfl, HX.out⟩
  have f5 : (tx.toList == ([115, 104, 97, 108, 108, 111, 119] : List UInt8)) = false := by simpa using a5
  clear a5
  have HV := hid (HB.out.symm.trans (show begins ⟨kd, tx, wa⟩ = (decide (kd = 1) || decide (kd = 2)) by simp only [begins, gOpen, kTrue, kFalse, kNil, kHandle, kShallow, f0, f1, f2, f3, f4, f5, Bool.or_false]))
  by_cases k1 : kd = 1
  · subst k1
    go_wp2_with fail
    go_ret
    rw [HV.out]
    exact ⟨rfl, HX.out⟩
  by_cases k2 : kd = 2
  · subst k2
    go_wp2_with fail
    go_ret
    rw [HV.out]
    exact ⟨rfl, HX.out⟩
  have k1' : (kd == 1) = false := by simpa using k1
  have k2' : (kd == 2) = false := by simpa using k2
  have HW := hid (HV.out.trans (by rw [decide_eq_false k1, decide_eq_false k2]; rfl : _ = false))
  go_wp2_with fail
  go_ret
  rw [HW.out]
  exact ⟨rfl, HX.out⟩

set_option maxHeartbeats 4000000 in
set_option maxRecDepth 100000 in
theorem inumber_calls {i : Nat} {W : World} {tx : ByteArray} {wa : Nat} (h : RdAt d ws ad cp sz i W) (hc : curI ws sz i = ⟨1, tx, wa⟩) (hn : NumB tx) (h0 : tx.toList ≠ []) (hi : i < ws.length) :
    Calls Tryz.prog 127 #[.pointer (some ⟨d.B, 0, none⟩)] W (PostT d ws ad cp sz (.ok (mkT (ndN 1 (numZ tx.toList : Int)) [], i + 1)) W) := by
  obtain ⟨R, hR⟩ : ∃ R, (Except.ok (mkT (ndN 1 (numZ tx.toList : Int)) [], i + 1) : Except Nat (Tr × Nat)) = R := ⟨_, rfl⟩
  rw [hR]
  have HR := hid hR
  have S := hid (St.start h)
  have hP := peek_at h hc
  have HP := hid hP
  have hat := atoi_num hn h0
  obtain ⟨n, hnn⟩ : ∃ n : Int, (numZ tx.toList : Int) = n := ⟨_, rfl⟩
  rw [hnn] at hat HR
  have HA := hid (fun (X : World) => Tryz.strconv_Atoi tx n (by have := hn.1; omega) hat X)
  have hf := fld_1 1 tx (wa : Int)
  have HW := hid (And.intro (wrap_succ (by have := h.few; omega) : wrap64 ((i : Int) + 1) = ((i + 1 : Nat) : Int)) hi)
  clear h hR hc hn h0 hP hat hnn hi
  go_enter Tryz.func127, Tryz.ntmps127
  go_wp2_with fail
  refine HP.out.mono ?_
  rintro e X ⟨rfl, hb⟩
  have S := hid (S.out.below hb)
  clear hb
  go_wp2_with fail
  refine (HA.out X).mono ?_
  rintro e Y ⟨rfl, t, hY⟩
  have hbl : Below X.heap.size X Y := by
    rw [hY]
    exact Joins.below_bytesWorld _ X _ t (Nat.le_refl _)
  have S := hid (S.out.below hbl)
  clear hY hbl
  have q1 := cell_of_heap S.out.rd.blk 1
  have z1 := frozen_of_heap S.out.rd.blk 1
  simp at q1
  go_wp2_with fail
  go_ret
  rw [HW.out.1]
  have S := S.out.go (S.out.rd.move (k := i + 1) HW.out.2) (grew_set Y 1 _)
  exact S.fin HR.out (S.mk0 .int)

set_option maxHeartbeats 8000000 in
set_option maxRecDepth 100000 in
theorem ibrack_calls (hw : BriefW ws) (ho : WordsOk ws) {f : Nat} (hc : PiAll d ws ad cp sz f) (i : Nat) (W : World) (h : RdAt d ws ad cp sz i W) (hm : mi ws 11 i ≤ f) :
    Calls Tryz.prog 128 #[.pointer (some ⟨d.B, 0, none⟩)] W (PostT d ws ad cp sz (brackI ws (ipz ws f) i) W) := by
  obtain ⟨R, hR⟩ : ∃ R, brackI ws (ipz ws f) i = R := ⟨_, rfl⟩
  rw [hR]
  have HR := hid hR
  have S := hid (St.start h)
  have H := hid (And.intro hw (And.intro ho hc))
  have M := hid hm
  have G := hid (show i + 0 ≤ i from Nat.le_refl _)
  clear h hm hR hw ho hc
  go_enter Tryz.func128, Tryz.ntmps128
  go_wp2_with fail
  by_cases z : seesI ws i gShut = true
  · refine (skips_t S.out.rd (by kernel_rfl) (by decide) z).mono ?_
    rintro e X1 ⟨rfl, hr, hg⟩
    have S := hid (S.out.go hr hg)
    have HR := hid (oi_t HR.out z)
    have G := hid (show i + 1 ≤ i + 1 by have := G.out; omega)
    clear hr hg z
    go_wp2_with fail
    go_ret
    exact S.out.fin HR.out (S.out.mk0 .unit)
  refine (skips_f (l := gShut) S.out.rd (by kernel_rfl) (by decide) (by simpa using z)).mono ?_
  rintro e X1 ⟨rfl, hr, hg⟩
  have S := hid (S.out.go hr hg)
  have HR := hid (oi_f HR.out (by simpa using z))
  clear hr hg z
  go_wp2_with fail
  refine (H.out.2.2.expr _ _ S.out.rd (by have h1 := G.out; have h2 := M.out; have h3 := S.out.rd.lt; unfold mi at h2 ⊢; omega)).mono ?_
  intro e X2 hp
  rcases post_x hp with ⟨j, hq, rfl, hg⟩ | ⟨t2, i2, hq, ⟨T2, p2, rfl, hf⟩, hr, hg⟩
  · exact ⟨rfl, S.out.err (bi_er HR.out hq) hg⟩
  have G := hid (show i + 0 ≤ i2 by have h1 := G.out; have h2 := ip_goes H.out.1 H.out.2.1 f NtR.expr trivial S.out.rd.lt hq; omega)
  have S := hid (S.out.form hr hg hf)
  have HR := hid (bi_ok HR.out hq)
  clear hp hq hf hr hg
  go_wp2_with fail
  by_cases z : seesI ws i2 gComma = true
  · refine (skips_t S.out.rd (by kernel_rfl) (by decide) z).mono ?_
    rintro e X3 ⟨rfl, hr, hg⟩
    have S := hid (S.out.go hr hg)
    have HR := hid (oi_t HR.out z)
    have G := hid (show i + 1 ≤ i2 + 1 by have := G.out; omega)
    clear hr hg z
    go_wp2_with fail
    refine (H.out.2.2.expr _ _ S.out.rd (by have h1 := G.out; have h2 := M.out; have h3 := S.out.rd.lt; unfold mi at h2 ⊢; omega)).mono ?_
    intro e X4 hp
    rcases post_x hp with ⟨j, hq, rfl, hg⟩ | ⟨t4, i4, hq, ⟨T4, p4, rfl, hf⟩, hr, hg⟩
    · exact ⟨rfl, S.out.err (bi_er HR.out hq) hg⟩
    have G := hid (show i + 1 ≤ i4 by have h1 := G.out; have h2 := ip_goes H.out.1 H.out.2.1 f NtR.expr trivial S.out.rd.lt hq; omega)
    have S := hid (S.out.form hr hg hf)
    have HR := hid (bi_ok HR.out hq)
    clear hp hq hf hr hg
    go_wp2_with fail
    have S := hid (S.out.fold (S.out.mk2 (.tail _ (.head _)) (.head _) (n := nd0 16) (v := .iface 150 (.agg #[.iface T2 p2, .iface T4 p4])) .pair))
    refine (must1 _ S.out.rd (l1 := gShut) (by kernel_rfl) (by decide)).mono ?_
    intro e X5 hp
    rcases post_x hp with ⟨j, hq, rfl, hg⟩ | ⟨u, i5, hq, ⟨v, rfl⟩, hr, hg⟩
    · exact ⟨rfl, S.out.err (m1_er HR.out hq) hg⟩
    have HQ := m1_ok HR.out hq
    have G := hid (show i + 2 ≤ i5 by have h1 := G.out; have h2 := HQ.2; omega)
    have S := hid (S.out.go hr hg)
    have HR := hid HQ.1
    clear hp hq hr hg HQ
    go_wp2_with fail
    go_ret
    exact S.out.fin HR.out (S.out.same (.head _))
  refine (skips_f (l := gComma) S.out.rd (by kernel_rfl) (by decide) (by simpa using z)).mono ?_
  rintro e X3 ⟨rfl, hr, hg⟩
  have S := hid (S.out.go hr hg)
  have HR := hid (oi_f HR.out (by simpa using z))
  clear hr hg z
  go_wp2_with fail
  refine (must1 _ S.out.rd (l1 := gShut) (by kernel_rfl) (by decide)).mono ?_
  intro e X6 hp
  rcases post_x hp with ⟨j, hq, rfl, hg⟩ | ⟨u, i6, hq, ⟨v, rfl⟩, hr, hg⟩
  · exact ⟨rfl, S.out.err (m1_er HR.out hq) hg⟩
  have HQ := m1_ok HR.out hq
  have G := hid (show i + 1 ≤ i6 by have h1 := G.out; have h2 := HQ.2; omega)
  have S := hid (S.out.go hr hg)
  have HR := hid HQ.1
  clear hp hq hr hg HQ
  go_wp2_with fail
  go_ret
  exact S.out.fin HR.out (S.out.same (.head _))

set_option maxHeartbeats 8000000 in
set_option maxRecDepth 100000 in
theorem iatom_calls (hw : BriefW ws) (ho : WordsOk ws) {f : Nat} (hc : PiAll d ws ad cp sz f) (i : Nat) (W : World) (h : RdAt d ws ad cp sz i W) (hm : mi ws 2 i ≤ f + 1) (hnum : NumW ws) (hne : ∀ w ∈ ws, w.kind = 1 → w.text.toList ≠ []) :
    Calls Tryz.prog 126 #[.pointer (some ⟨d.B, 0, none⟩)] W (PostT d ws ad cp sz (ipz ws (f + 1) .atom i) W) := by
  obtain ⟨R, hR⟩ : ∃ R, ipz ws (f + 1) .atom i = R := ⟨_, rfl⟩
  rw [hR]
  have HR := hid (show atomI ws (ipz ws f) i = R from hR)
  obtain ⟨⟨kd, tx, wa⟩, hcc⟩ : ∃ c, curI ws sz i = c := ⟨_, rfl⟩
  have HC := hid hcc
  have HN := hid (And.intro hnum hne)
  have S := hid (St.start h)
  have H := hid (And.intro hw (And.intro ho hc))
  have M := hid hm
  have G := hid (show i + 0 ≤ i from Nat.le_refl _)
  clear hnum hne hcc h hm hR hw ho hc
  go_enter Tryz.func126, Tryz.ntmps126
  go_wp2_with fail
  refine (peek_at S.out.rd HC.out).mono ?_
  rintro e X0 ⟨rfl, hb⟩
  have S := hid (S.out.below hb)
  have hf := fld_0 kd tx (wa : Int)
  clear hb
  have hlt : begins ⟨kd, tx, wa⟩ = true → i < ws.length := fun hx => by
    have h1 := HC.out
    unfold curI at h1
    split at h1
    · assumption
    · simp at h1
      obtain ⟨h2, h3, -⟩ := h1
      subst h2 h3
      exact absurd hx (by unfold begins; dsimp only; rw [no_bytes]; exact Bool.false_ne_true)
  have HL := hid hlt
  clear hlt
  have hat : begins ⟨kd, tx, wa⟩ = true → wordI ws (ipz ws f) ⟨kd, tx, wa⟩ (i + 1) = R := fun hx => by
    have h1 := HR.out
    have h2 := HC.out
    unfold curI at h2
    rw [if_pos (HL.out hx)] at h2
    unfold atomI startsI at h1
    rw [h2, hx, decide_eq_true (HL.out hx)] at h1
    exact h1
  have hno : begins ⟨kd, tx, wa⟩ = false → Except.error i = R := fun hx => by
    have h1 := HR.out
    have h2 := starts_cur (ws := ws) (sz := sz) (i := i)
    rw [HC.out, hx] at h2
    unfold atomI at h1
    rw [h2] at h1
    exact h1
  have HAt := hid hat
  have HNo := hid hno
  have M2 := hid (fun (hx : begins ⟨kd, tx, wa⟩ = true) => show mi ws 12 (i + 1) ≤ f by have h1 := HL.out hx; have h2 := M.out; unfold mi at h2 ⊢; omega)
  clear hat hno
  by_cases k1 : kd = 1
  · subst k1
    go_wp2_with fail
    have hmem : curW ws i ∈ ws := cur_mem (HL.out (by simp [begins]))
    have h2 := HC.out
    unfold curI at h2
    rw [if_pos (HL.out (by simp [begins]))] at h2
    rw [h2] at hmem
    refine (inumber_calls S.out.rd HC.out (HN.out.1 _ hmem rfl) (HN.out.2 _ hmem rfl) (HL.out (by simp [begins]))).mono ?_
    rintro e X1 ⟨⟨T1, p1, rfl, hf⟩, hr, hg⟩
    have S := hid (S.out.form hr hg hf)
    have HR := hid (HAt.out (by simp [begins]))
    clear hf hr hg hmem h2
    go_wp2_with fail
    go_ret
    exact S.out.fin (show Except.ok (_, i + 1) = R from (by have h1 := HR.out; unfold wordI at h1; rw [if_pos rfl] at h1; exact h1)) (S.out.same (.head _))
  have g1 : (kd == 1) = false := by simpa using k1
  go_wp2_with fail
  refine (peek_at S.out.rd HC.out).mono ?_
  rintro e X1 ⟨rfl, hb⟩
  have S := hid (S.out.below hb)
  clear hb
  by_cases k2 : kd = 2
  · subst k2
    go_wp2_with fail
    have hn : nameI ws i = .ok (tx, i + 1) := by
      have h2 := HC.out
      unfold curI at h2
      rw [if_pos (HL.out (by simp [begins]))] at h2
      unfold nameI
      rw [h2, if_pos ⟨HL.out (by simp [begins]), rfl⟩]
    have hnc := rname_calls (d := d) (ws := ws) (ad := ad) (cp := cp) (sz := sz) i X1 S.out.rd
    rw [hn] at hnc
    refine hnc.mono ?_
    rintro e X2 ⟨rfl, hr, hg⟩
    have S := hid (S.out.go hr hg)
    have HR := hid (HAt.out (by simp [begins]))
    clear hr hg hn hnc
    go_wp2_with fail
    go_ret
    exact S.out.fin (show Except.ok (mkT (nd1 5 tx) [], i + 1) = R from (by have h1 := HR.out; unfold wordI at h1; rw [if_neg (show ¬ (2 : Int) = 1 by decide), if_pos rfl] at h1; exact h1)) (S.out.mk0 .var)
  have g2 : (kd == 2) = false := by simpa using k2
  have HB := hid (show begins ⟨kd, tx, wa⟩ = ((tx.toList == gOpen) || ((tx.toList == kTrue) || ((tx.toList == kFalse) || ((tx.toList == kNil) || ((tx.toList == kHandle) || (tx.toList == kShallow)))))) by simp [begins, k1, k2])
  have HS := hid (fun (l : List UInt8) (hl : l ≠ []) => (show (tx.toList == l) = seesI ws i l by have h1 := sees_cur (ws := ws) (sz := sz) (i := i) hl; rw [HC.out] at h1; exact h1))
  have HK := hid (And.intro k1 k2)
  clear k1 k2
  go_wp2_with fail
  clear g1 g2 hf
  by_cases z : seesI ws i kTrue = true
  · refine (skips_t S.out.rd (by kernel_rfl) (by decide) z).mono ?_
    rintro e X2 ⟨rfl, hr, hg⟩
    have S := hid (S.out.go hr hg)
    have hx : begins ⟨kd, tx, wa⟩ = true := by rw [HB.out, HS.out kTrue (by decide), z]; simp
    have h1 := HAt.out hx
    have M := hid (M2.out hx)
    unfold wordI at h1
    rw [if_neg HK.out.1, if_neg HK.out.2] at h1
    dsimp only at h1
    rw [if_pos (by rw [HS.out kTrue (by decide)]; exact z)] at h1
    have HR := hid h1
    clear hr hg z hx h1
    go_wp2_with fail
    go_ret
    exact S.out.fin HR.out (S.out.mk0 .bool)
  refine (skips_f (l := kTrue) S.out.rd (by kernel_rfl) (by decide) (by simpa using z)).mono ?_
  rintro e X2 ⟨rfl, hr, hg⟩
  have S := hid (S.out.go hr hg)
  have FkTrue := hid (show seesI ws i kTrue = false by simpa using z)
  clear hr hg z
  go_wp2_with fail
  by_cases z : seesI ws i kFalse = true
  · refine (skips_t S.out.rd (by kernel_rfl) (by decide) z).mono ?_
    rintro e X3 ⟨rfl, hr, hg⟩
    have S := hid (S.out.go hr hg)
    have hx : begins ⟨kd, tx, wa⟩ = true := by rw [HB.out, HS.out kFalse (by decide), z]; simp
    have h1 := HAt.out hx
    have M := hid (M2.out hx)
    unfold wordI at h1
    rw [if_neg HK.out.1, if_neg HK.out.2] at h1
    dsimp only at h1
    rw [if_neg (by rw [HS.out kTrue (by decide), FkTrue.out]; decide)] at h1
    rw [if_pos (by rw [HS.out kFalse (by decide)]; exact z)] at h1
    have HR := hid h1
    clear hr hg z hx h1
    go_wp2_with fail
    go_ret
    exact S.out.fin HR.out (S.out.mk0 .bool)
  refine (skips_f (l := kFalse) S.out.rd (by kernel_rfl) (by decide) (by simpa using z)).mono ?_
  rintro e X3 ⟨rfl, hr, hg⟩
  have S := hid (S.out.go hr hg)
  have FkFalse := hid (show seesI ws i kFalse = false by simpa using z)
  clear hr hg z
  go_wp2_with fail
  by_cases z : seesI ws i kNil = true
  · refine (skips_t S.out.rd (by kernel_rfl) (by decide) z).mono ?_
    rintro e X4 ⟨rfl, hr, hg⟩
    have S := hid (S.out.go hr hg)
    have hx : begins ⟨kd, tx, wa⟩ = true := by rw [HB.out, HS.out kNil (by decide), z]; simp
    have h1 := HAt.out hx
    have M := hid (M2.out hx)
    unfold wordI at h1
    rw [if_neg HK.out.1, if_neg HK.out.2] at h1
    dsimp only at h1
    rw [if_neg (by rw [HS.out kTrue (by decide), FkTrue.out]; decide)] at h1
    rw [if_neg (by rw [HS.out kFalse (by decide), FkFalse.out]; decide)] at h1
    rw [if_pos (by rw [HS.out kNil (by decide)]; exact z)] at h1
    have HR := hid h1
    clear hr hg z hx h1
    go_wp2_with fail
    go_ret
    exact S.out.fin HR.out (S.out.mk0 .nil)
  refine (skips_f (l := kNil) S.out.rd (by kernel_rfl) (by decide) (by simpa using z)).mono ?_
  rintro e X4 ⟨rfl, hr, hg⟩
  have S := hid (S.out.go hr hg)
  have FkNil := hid (show seesI ws i kNil = false by simpa using z)
  clear hr hg z
  go_wp2_with fail
  by_cases z : seesI ws i gOpen = true
  · refine (skips_t S.out.rd (by kernel_rfl) (by decide) z).mono ?_
    rintro e X5 ⟨rfl, hr, hg⟩
    have S := hid (S.out.go hr hg)
    have hx : begins ⟨kd, tx, wa⟩ = true := by rw [HB.out, HS.out gOpen (by decide), z]; simp
    have h1 := HAt.out hx
    have M := hid (M2.out hx)
    unfold wordI at h1
    rw [if_neg HK.out.1, if_neg HK.out.2] at h1
    dsimp only at h1
    rw [if_neg (by rw [HS.out kTrue (by decide), FkTrue.out]; decide)] at h1
    rw [if_neg (by rw [HS.out kFalse (by decide), FkFalse.out]; decide)] at h1
    rw [if_neg (by rw [HS.out kNil (by decide), FkNil.out]; decide)] at h1
    rw [if_neg (fun e => (by have e1 := beq_iff_eq.1 ((HS.out gOpen (by decide)).trans z); rw [e1] at e; exact absurd e (by decide)))] at h1
    rw [if_neg (fun e => (by have e1 := beq_iff_eq.1 ((HS.out gOpen (by decide)).trans z); rw [e1] at e; exact absurd e (by decide)))] at h1
    have HR := hid h1
    clear hr hg z hx h1
    go_wp2_with fail
    refine (ibrack_calls H.out.1 H.out.2.1 H.out.2.2 _ _ S.out.rd (by have h1 := M.out; unfold mi at h1 ⊢; omega)).mono ?_
    intro e X5 hp
    rcases post_x hp with ⟨j, hq, rfl, hg⟩ | ⟨t5, i5, hq, ⟨T5, p5, rfl, hf⟩, hr, hg⟩
    · exact ⟨rfl, S.out.err (hq.symm.trans HR.out) hg⟩
    have S := hid (S.out.form hr hg hf)
    have HR := hid (hq.symm.trans HR.out)
    clear hp hq hf hr hg
    go_wp2_with fail
    go_ret
    exact S.out.fin HR.out (S.out.same (.head _))
  refine (skips_f (l := gOpen) S.out.rd (by kernel_rfl) (by decide) (by simpa using z)).mono ?_
  rintro e X5 ⟨rfl, hr, hg⟩
  have S := hid (S.out.go hr hg)
  have FgOpen := hid (show seesI ws i gOpen = false by simpa using z)
  clear hr hg z
  go_wp2_with fail
  by_cases z : seesI ws i kHandle = true
  · refine (skips_t S.out.rd (by kernel_rfl) (by decide) z).mono ?_
    rintro e X6 ⟨rfl, hr, hg⟩
    have S := hid (S.out.go hr hg)
    have hx : begins ⟨kd, tx, wa⟩ = true := by rw [HB.out, HS.out kHandle (by decide), z]; simp
    have h1 := HAt.out hx
    have M := hid (M2.out hx)
    unfold wordI at h1
    rw [if_neg HK.out.1, if_neg HK.out.2] at h1
    dsimp only at h1
    rw [if_neg (by rw [HS.out kTrue (by decide), FkTrue.out]; decide)] at h1
    rw [if_neg (by rw [HS.out kFalse (by decide), FkFalse.out]; decide)] at h1
    rw [if_neg (by rw [HS.out kNil (by decide), FkNil.out]; decide)] at h1
    rw [if_pos (by rw [HS.out kHandle (by decide)]; exact z)] at h1
    have HR := hid h1
    clear hr hg z hx h1
    go_wp2_with fail
    refine (H.out.2.2.hand 23 _ _ S.out.rd M.out (by simp)).mono ?_
    intro e X6 hp
    rcases post_x hp with ⟨j, hq, rfl, hg⟩ | ⟨t6, i6, hq, ⟨T6, p6, rfl, hf⟩, hr, hg⟩
    · exact ⟨rfl, S.out.err (hq.symm.trans HR.out) hg⟩
    have S := hid (S.out.form hr hg hf)
    have HR := hid (hq.symm.trans HR.out)
    clear hp hq hf hr hg
    go_wp2_with fail
    go_ret
    exact S.out.fin HR.out (S.out.same (.head _))
  refine (skips_f (l := kHandle) S.out.rd (by kernel_rfl) (by decide) (by simpa using z)).mono ?_
  rintro e X6 ⟨rfl, hr, hg⟩
  have S := hid (S.out.go hr hg)
  have FkHandle := hid (show seesI ws i kHandle = false by simpa using z)
  clear hr hg z
  go_wp2_with fail
  by_cases z : seesI ws i kShallow = true
  · refine (skips_t S.out.rd (by kernel_rfl) (by decide) z).mono ?_
    rintro e X7 ⟨rfl, hr, hg⟩
    have S := hid (S.out.go hr hg)
    have hx : begins ⟨kd, tx, wa⟩ = true := by rw [HB.out, HS.out kShallow (by decide), z]; simp
    have h1 := HAt.out hx
    have M := hid (M2.out hx)
    unfold wordI at h1
    rw [if_neg HK.out.1, if_neg HK.out.2] at h1
    dsimp only at h1
    rw [if_neg (by rw [HS.out kTrue (by decide), FkTrue.out]; decide)] at h1
    rw [if_neg (by rw [HS.out kFalse (by decide), FkFalse.out]; decide)] at h1
    rw [if_neg (by rw [HS.out kNil (by decide), FkNil.out]; decide)] at h1
    rw [if_neg (by rw [HS.out kHandle (by decide), FkHandle.out]; decide)] at h1
    rw [if_pos (by rw [HS.out kShallow (by decide)]; exact z)] at h1
    have HR := hid h1
    clear hr hg z hx h1
    go_wp2_with fail
    refine (H.out.2.2.hand 24 _ _ S.out.rd M.out (by simp)).mono ?_
    intro e X7 hp
    rcases post_x hp with ⟨j, hq, rfl, hg⟩ | ⟨t7, i7, hq, ⟨T7, p7, rfl, hf⟩, hr, hg⟩
    · exact ⟨rfl, S.out.err (hq.symm.trans HR.out) hg⟩
    have S := hid (S.out.form hr hg hf)
    have HR := hid (hq.symm.trans HR.out)
    clear hp hq hf hr hg
    go_wp2_with fail
    go_ret
    exact S.out.fin HR.out (S.out.same (.head _))
  refine (skips_f (l := kShallow) S.out.rd (by kernel_rfl) (by decide) (by simpa using z)).mono ?_
  rintro e X7 ⟨rfl, hr, hg⟩
  have S := hid (S.out.go hr hg)
  have FkShallow := hid (show seesI ws i kShallow = false by simpa using z)
  clear hr hg z
  go_wp2_with fail
  refine (misfit_calls _ _ S.out.rd).mono ?_
  rintro e Y ⟨rfl, hb⟩
  go_wp2_with fail
  refine ⟨rfl, S.out.err (HNo.out ?_) (Grew.of_below hb)⟩
  rw [HB.out, HS.out gOpen (by decide), HS.out kTrue (by decide), HS.out kFalse (by decide), HS.out kNil (by decide), HS.out kHandle (by decide), HS.out kShallow (by decide), FgOpen.out, FkTrue.out, FkFalse.out, FkNil.out, FkHandle.out, FkShallow.out]
  rfl

end
end Go.Proofs.YtkdipppeljpgmaaGreatDoor

/- The program's reader: calls. -/
namespace Go.Proofs.YtkdipppeljpgmaaGreatDoor
open Go.RowKit Go.Deep

theorem cl_t {ws : List Wd} {go : Nt Tr → PI Tr} {a : Tr} {k : Nat} {R : Except Nat (Tr × Nat)} (h : callLI ws go a k = R) (hs : startsI ws k = true) : bindI (go .atom) (fun b => go (.callL (mkT (nd0 7) [a, b]))) k = R := by
  unfold callLI at h
  rw [if_pos hs] at h
  exact h

theorem cl_f {ws : List Wd} {go : Nt Tr → PI Tr} {a : Tr} {k : Nat} {R : Except Nat (Tr × Nat)} (h : callLI ws go a k = R) (hs : startsI ws k = false) : Except.ok (a, k) = R := by
  unfold callLI at h
  rw [hs] at h
  exact h

section
variable {d : Dr} {ws : List Wd} {ad : Option Addr} {cp sz : Nat}

set_option maxHeartbeats 8000000 in
set_option maxRecDepth 100000 in
theorem ihead_calls (hw : BriefW ws) (ho : WordsOk ws) {f : Nat} (hc : PiAll d ws ad cp sz f) (i : Nat) (W : World) (h : RdAt d ws ad cp sz i W) (hm : mi ws 3 i ≤ f) :
    Calls Tryz.prog 124 #[.pointer (some ⟨d.B, 0, none⟩)] W (PostT d ws ad cp sz (headI ws (ipz ws f) i) W) := by
  obtain ⟨R, hR⟩ : ∃ R, headI ws (ipz ws f) i = R := ⟨_, rfl⟩
  rw [hR]
  have HR := hid hR
  have S := hid (St.start h)
  have H := hid (And.intro hw (And.intro ho hc))
  have M := hid hm
  have G := hid (show i + 0 ≤ i from Nat.le_refl _)
  clear h hm hR hw ho hc
  go_enter Tryz.func124, Tryz.ntmps124
  go_wp2_with fail
  by_cases z : seesI ws i kFst = true
  · refine (skips_t S.out.rd (by kernel_rfl) (by decide) z).mono ?_
    rintro e X1 ⟨rfl, hr, hg⟩
    have S := hid (S.out.go hr hg)
    have HR := hid (oi_t HR.out z)
    have G := hid (show i + 1 ≤ i + 1 by have := G.out; omega)
    clear hr hg z
    go_wp2_with fail
    refine (H.out.2.2.atom _ _ S.out.rd (by have h1 := G.out; have h2 := M.out; have h3 := S.out.rd.lt; unfold mi at h2 ⊢; omega)).mono ?_
    intro e X2 hp
    rcases post_x hp with ⟨j, hq, rfl, hg⟩ | ⟨t2, i2, hq, ⟨T2, p2, rfl, hf⟩, hr, hg⟩
    · exact ⟨rfl, S.out.err (bi_er HR.out hq) hg⟩
    have G := hid (show i + 1 ≤ i2 by have h1 := G.out; have h2 := ip_goes H.out.1 H.out.2.1 f NtR.atom trivial S.out.rd.lt hq; omega)
    have S := hid (S.out.form hr hg hf)
    have HR := hid (bi_ok HR.out hq)
    clear hp hq hf hr hg
    go_wp2_with fail
    go_ret
    exact S.out.fin HR.out (S.out.mk1 (.head _) (.take (k := 17) (by simp)))
  refine (skips_f (l := kFst) S.out.rd (by kernel_rfl) (by decide) (by simpa using z)).mono ?_
  rintro e X1 ⟨rfl, hr, hg⟩
  have S := hid (S.out.go hr hg)
  have HR := hid (oi_f HR.out (by simpa using z))
  clear hr hg z
  go_wp2_with fail
  by_cases z : seesI ws i kSnd = true
  · refine (skips_t S.out.rd (by kernel_rfl) (by decide) z).mono ?_
    rintro e X3 ⟨rfl, hr, hg⟩
    have S := hid (S.out.go hr hg)
    have HR := hid (oi_t HR.out z)
    have G := hid (show i + 1 ≤ i + 1 by have := G.out; omega)
    clear hr hg z
    go_wp2_with fail
    refine (H.out.2.2.atom _ _ S.out.rd (by have h1 := G.out; have h2 := M.out; have h3 := S.out.rd.lt; unfold mi at h2 ⊢; omega)).mono ?_
    intro e X4 hp
    rcases post_x hp with ⟨j, hq, rfl, hg⟩ | ⟨t4, i4, hq, ⟨T4, p4, rfl, hf⟩, hr, hg⟩
    · exact ⟨rfl, S.out.err (bi_er HR.out hq) hg⟩
    have G := hid (show i + 1 ≤ i4 by have h1 := G.out; have h2 := ip_goes H.out.1 H.out.2.1 f NtR.atom trivial S.out.rd.lt hq; omega)
    have S := hid (S.out.form hr hg hf)
    have HR := hid (bi_ok HR.out hq)
    clear hp hq hf hr hg
    go_wp2_with fail
    go_ret
    exact S.out.fin HR.out (S.out.mk1 (.head _) (.take (k := 18) (by simp)))
  refine (skips_f (l := kSnd) S.out.rd (by kernel_rfl) (by decide) (by simpa using z)).mono ?_
  rintro e X3 ⟨rfl, hr, hg⟩
  have S := hid (S.out.go hr hg)
  have HR := hid (oi_f HR.out (by simpa using z))
  clear hr hg z
  go_wp2_with fail
  by_cases z : seesI ws i kPrint = true
  · refine (skips_t S.out.rd (by kernel_rfl) (by decide) z).mono ?_
    rintro e X5 ⟨rfl, hr, hg⟩
    have S := hid (S.out.go hr hg)
    have HR := hid (oi_t HR.out z)
    have G := hid (show i + 1 ≤ i + 1 by have := G.out; omega)
    clear hr hg z
    go_wp2_with fail
    refine (H.out.2.2.atom _ _ S.out.rd (by have h1 := G.out; have h2 := M.out; have h3 := S.out.rd.lt; unfold mi at h2 ⊢; omega)).mono ?_
    intro e X6 hp
    rcases post_x hp with ⟨j, hq, rfl, hg⟩ | ⟨t6, i6, hq, ⟨T6, p6, rfl, hf⟩, hr, hg⟩
    · exact ⟨rfl, S.out.err (bi_er HR.out hq) hg⟩
    have G := hid (show i + 1 ≤ i6 by have h1 := G.out; have h2 := ip_goes H.out.1 H.out.2.1 f NtR.atom trivial S.out.rd.lt hq; omega)
    have S := hid (S.out.form hr hg hf)
    have HR := hid (bi_ok HR.out hq)
    clear hp hq hf hr hg
    go_wp2_with fail
    go_ret
    exact S.out.fin HR.out (S.out.mk1 (.head _) (.take (k := 21) (by simp)))
  refine (skips_f (l := kPrint) S.out.rd (by kernel_rfl) (by decide) (by simpa using z)).mono ?_
  rintro e X5 ⟨rfl, hr, hg⟩
  have S := hid (S.out.go hr hg)
  have HR := hid (oi_f HR.out (by simpa using z))
  clear hr hg z
  go_wp2_with fail
  by_cases z : seesI ws i kDo = true
  · refine (skips_t S.out.rd (by kernel_rfl) (by decide) z).mono ?_
    rintro e X7 ⟨rfl, hr, hg⟩
    have S := hid (S.out.go hr hg)
    have HR := hid (oi_t HR.out z)
    have G := hid (show i + 1 ≤ i + 1 by have := G.out; omega)
    clear hr hg z
    go_wp2_with fail
    refine (rname_calls _ _ S.out.rd).mono ?_
    intro e X8 hp
    rcases post_x hp with ⟨j, hq, rfl, hg⟩ | ⟨n8, i8, hq, rfl, hr, hg⟩
    · exact ⟨rfl, S.out.err (bi_er HR.out hq) hg⟩
    have G := hid (show i + 2 ≤ i8 by have h1 := G.out; have h2 := name_on hq; omega)
    have S := hid (S.out.go hr hg)
    have HR := hid (bi_ok HR.out hq)
    clear hp hq hr hg
    go_wp2_with fail
    have S := hid (S.out.alloc #[.string n8, .nilIface] 154)
    try rw [show X8.heap.size + 1 = (X8.alloc (.cells #[.string n8, .nilIface] 154)).heap.size by simp]
    obtain ⟨Y9, hY⟩ : ∃ y, X8.alloc (.cells #[.string n8, .nilIface] 154) = y := ⟨_, rfl⟩
    rw [hY] at S ⊢
    obtain ⟨g9, hg⟩ : ∃ g, X8.heap.size = g := ⟨_, rfl⟩
    rw [hg] at S ⊢
    clear hY hg
    refine (H.out.2.2.atom _ _ S.out.rd (by have h1 := G.out; have h2 := M.out; have h3 := S.out.rd.lt; unfold mi at h2 ⊢; omega)).mono ?_
    intro e X10 hp
    rcases post_x hp with ⟨j, hq, rfl, hg⟩ | ⟨t10, i10, hq, ⟨T10, p10, rfl, hf⟩, hr, hg⟩
    · exact ⟨rfl, S.out.err (bi_er HR.out hq) hg⟩
    have G := hid (show i + 2 ≤ i10 by have h1 := G.out; have h2 := ip_goes H.out.1 H.out.2.1 f NtR.atom trivial S.out.rd.lt hq; omega)
    have S := hid (S.out.form hr hg hf)
    have HR := hid (bi_ok HR.out hq)
    clear hp hq hf hr hg
    have b0 := cell_of_heap S.out.box 0
    have b1 := cell_of_heap S.out.box 1
    have z := frozen_of_heap S.out.box 1
    simp at b0 b1
    go_wp2_with fail
    have S := hid (S.out.put 1 (.iface T10 p10))
    go_ret
    exact S.out.fin HR.out (S.out.mk1 (.head _) .perform)
  refine (skips_f (l := kDo) S.out.rd (by kernel_rfl) (by decide) (by simpa using z)).mono ?_
  rintro e X7 ⟨rfl, hr, hg⟩
  have S := hid (S.out.go hr hg)
  have HR := hid (oi_f HR.out (by simpa using z))
  clear hr hg z
  go_wp2_with fail
  refine (H.out.2.2.atom _ _ S.out.rd (by have h1 := G.out; have h2 := M.out; have h3 := S.out.rd.lt; unfold mi at h2 ⊢; omega)).mono ?_
  intro e X11 hp
  rcases post_x hp with ⟨j, hq, rfl, hg⟩ | ⟨t11, i11, hq, ⟨T11, p11, rfl, hf⟩, hr, hg⟩
  · exact ⟨rfl, S.out.err (hq.symm.trans HR.out) hg⟩
  have G := hid (show i + 0 ≤ i11 by have h1 := G.out; have h2 := ip_goes H.out.1 H.out.2.1 f NtR.atom trivial S.out.rd.lt hq; omega)
  have S := hid (S.out.form hr hg hf)
  have HR := hid (hq.symm.trans HR.out)
  clear hp hq hf hr hg
  go_wp2_with fail
  go_ret
  exact S.out.fin HR.out (S.out.same (.head _))

theorem head_goes (hw : BriefW ws) (ho : WordsOk ws) {f i k : Nat} {t : Tr} (hi : i ≤ ws.length) (h : headI ws (ipz ws f) i = .ok (t, k)) : i ≤ k := by
  have hat : ∀ {j k : Nat} {t : Tr}, j ≤ ws.length → ipz ws f .atom j = .ok (t, k) → j ≤ k := fun hj hq => (ip_goes hw ho f NtR.atom trivial hj hq).1
  have hone : ∀ {n : Nd} {j k : Nat} {t : Tr}, j ≤ ws.length → bindI (ipz ws f .atom) (fun a => pureI (mkT n [a])) j = .ok (t, k) → j ≤ k := fun {n j k t} hj hq => by
    cases h1 : ipz ws f .atom j with
    | error e => exact absurd (bi_er hq h1) (by simp)
    | ok r =>
      obtain ⟨a, b⟩ := r
      have h2 := bi_ok hq h1
      have h3 := hat hj h1
      simp only [pureI, Except.ok.injEq, Prod.mk.injEq] at h2
      omega
  have hs : ∀ l, seesI ws i l = true → i + 1 ≤ ws.length := fun l hz => by unfold seesI at hz; simp at hz; exact hz.1
  unfold headI orI at h
  repeat' split at h
  · have := hone (hs _ (by assumption)) h; omega
  · have := hone (hs _ (by assumption)) h; omega
  · have := hone (hs _ (by assumption)) h; omega
  · cases h1 : nameI ws (i + 1) with
    | error e => exact absurd (bi_er h h1) (by simp)
    | ok r =>
      obtain ⟨a, b⟩ := r
      have h2 := bi_ok h h1
      have h3 := name_on h1
      have h4 : b ≤ ws.length := by
        unfold nameI at h1
        split at h1
        · rename_i hc
          have := hc.1
          omega
        · cases h1
      have := hone h4 h2
      omega
  · exact hat hi h

set_option maxHeartbeats 8000000 in
set_option maxRecDepth 100000 in
theorem icall_calls (hw : BriefW ws) (ho : WordsOk ws) {f : Nat} (ha : ∀ g, g ≤ f → PiAll d ws ad cp sz g) (i : Nat) (W : World) (h : RdAt d ws ad cp sz i W) (hm : mi ws 4 i ≤ f + 1) :
    Calls Tryz.prog 120 #[.pointer (some ⟨d.B, 0, none⟩)] W (PostT d ws ad cp sz (ipz ws (f + 1) .call i) W) := by
  obtain ⟨R, hR⟩ : ∃ R, ipz ws (f + 1) .call i = R := ⟨_, rfl⟩
  rw [hR]
  have HR := hid (show callI ws (ipz ws f) i = R from hR)
  have S := hid (St.start h)
  have H := hid (And.intro hw (And.intro ho (ha f (Nat.le_refl f))))
  have M := hid hm
  have G := hid (show i + 0 ≤ i from Nat.le_refl _)
  have HA := hid ha
  clear h hm hR hw ho ha
  go_enter Tryz.func120, Tryz.ntmps120
  go_wp2_with fail
  refine (ihead_calls H.out.1 H.out.2.1 H.out.2.2 _ _ S.out.rd (by have h1 := G.out; have h2 := M.out; have h3 := S.out.rd.lt; unfold mi at h2 ⊢; omega)).mono ?_
  intro e X1 hp
  rcases post_x hp with ⟨j, hq, rfl, hg⟩ | ⟨t1, i1, hq, ⟨T1, p1, rfl, hf⟩, hr, hg⟩
  · exact ⟨rfl, S.out.err (bi_er HR.out hq) hg⟩
  have HGo := hid (show i ≤ i1 from head_goes H.out.1 H.out.2.1 S.out.rd.lt hq)
  have S := hid (S.out.form hr hg hf)
  have HR := hid (bi_ok HR.out hq)
  clear hp hq hf hr hg
  go_wp2_with fail
  have G := hid (show i + 0 ≤ i1 from HGo.out)
  have S := hid (S.out.fold (S.out.same (.head _)))
  go_loopw [3] (fun v wr => Hid (LoopR d ws ad cp sz f Nt.callL 3 R W v wr)) (fun _ wr => ws.length - posOf d wr)
  case atStart => exact hid ⟨t1, T1, p1, f, i1, rfl, S.out, HR.out, (by have h1 := G.out; have h2 := M.out; have h3 := S.out.rd.lt; unfold mi at h2 ⊢; omega), Nat.le_refl _⟩
  case round =>
    obtain ⟨t, T, p, g, k, rfl, hS, hF, hm, hg⟩ := hrel.out
    clear hrel
    obtain ⟨g, rfl⟩ : ∃ x, g = x + 1 := ⟨g - 1, by unfold mi at hm; omega⟩
    have S := hid hS
    have HR := hid (show callLI ws (ipz ws g) t k = R from hF)
    have M := hid hm
    have HG := hid hg
    have HP := hid (rd_pos hS.rd)
    have H := hid (And.intro H.out.1 (And.intro H.out.2.1 (HA.out g (by omega))))
    have G := hid (show k + 0 ≤ k from Nat.le_refl _)
    clear hS hF hm hg
    go_wp2_with fail
    refine (isees_atom _ _ S.out.rd).mono ?_
    rintro e Xs ⟨rfl, hb⟩
    have S := hid (S.out.below hb)
    clear hb
    by_cases z : startsI ws k = true
    · rw [z]
      have HR := hid (cl_t HR.out z)
      clear z
      go_wp2_with fail
      refine (H.out.2.2.atom _ _ S.out.rd (by have h1 := G.out; have h2 := M.out; have h3 := S.out.rd.lt; unfold mi at h2 ⊢; omega)).mono ?_
      intro e X2 hp
      rcases post_x hp with ⟨j, hq, rfl, hg⟩ | ⟨t2, i2, hq, ⟨T2, p2, rfl, hf⟩, hr, hg⟩
      · exact ⟨rfl, S.out.err (bi_er HR.out hq) hg⟩
      have G := hid (show k + 1 ≤ i2 from ip_atom H.out.1 H.out.2.1 g S.out.rd.lt hq)
      have S := hid (S.out.form hr hg hf)
      have HR := hid (bi_ok HR.out hq)
      clear hp hq hf hr hg
      go_wp2_with fail
      have S := hid (S.out.fold (S.out.mk2 (.tail _ (.head _)) (.head _) (n := nd0 7) (v := .iface 148 (.agg #[.iface T p, .iface T2 p2])) .app))
      exact ⟨hid ⟨_, _, _, g, i2, rfl, S.out, HR.out, (by have h1 := G.out; have h2 := M.out; have h3 := S.out.rd.lt; unfold mi at h2 ⊢; omega), (by have := HG.out; omega)⟩, by
        rw [HP.out, rd_pos S.out.rd]
        have h1 := G.out
        have h2 := S.out.rd.lt
        omega⟩
    have z2 : startsI ws k = false := by simpa using z
    rw [z2]
    have HR := hid (cl_f HR.out z2)
    clear z z2
    go_wp2_with fail
    go_ret
    exact S.out.fin HR.out (S.out.same (.head _))

end
end Go.Proofs.YtkdipppeljpgmaaGreatDoor

/- The program's reader: every function that reads a part of an expression. -/
namespace Go.Proofs.YtkdipppeljpgmaaGreatDoor
open Go.RowKit Go.Deep

section
variable {d : Dr} {ws : List Wd} {ad : Option Addr} {cp sz : Nat}

theorem pi_all (hw : BriefW ws) (ho : WordsOk ws) (hnum : NumW ws) (hne : ∀ w ∈ ws, w.kind = 1 → w.text.toList ≠ []) : ∀ f g, g ≤ f → PiAll d ws ad cp sz g
  | 0, g, hg => by
    have e : g = 0 := by omega
    subst e
    exact ⟨fun i W _ h => absurd h (by unfold mi; omega), fun i W _ h => absurd h (by unfold mi; omega), fun i W _ h => absurd h (by unfold mi; omega), fun i W _ h => absurd h (by unfold mi; omega), fun i W _ h => absurd h (by unfold mi; omega), fun i W _ h => absurd h (by unfold mi; omega), fun i W _ h => absurd h (by unfold mi; omega), fun k i W _ h => absurd h (by unfold mi; omega)⟩
  | f + 1, g, hg => by
    have ih := pi_all hw ho hnum hne f
    by_cases h : g ≤ f
    · exact ih g h
    · have e : g = f + 1 := by omega
      subst e
      have hc := ih f (Nat.le_refl _)
      exact ⟨fun i W hr hm => iexpr_calls hw ho hc i W hr hm, fun i W hr hm => icons_calls hw ho hc i W hr hm, fun i W hr hm => icomp_calls hw ho hc i W hr hm, fun i W hr hm => isum_calls hw ho ih i W hr hm, fun i W hr hm => iprod_calls hw ho ih i W hr hm, fun i W hr hm => icall_calls hw ho ih i W hr hm, fun i W hr hm => iatom_calls hw ho hc i W hr hm hnum hne, fun k i W hr hm hk => ihand_calls hw ho ih i W hr hm k hk⟩

/-- The whole expression. -/
theorem iwhole_calls (hw : BriefW ws) (ho : WordsOk ws) (hnum : NumW ws) (hne : ∀ w ∈ ws, w.kind = 1 → w.text.toList ≠ []) (i : Nat) (W : World) (h : RdAt d ws ad cp sz i W) :
    Calls Tryz.prog 42 #[.pointer (some ⟨d.B, 0, none⟩)] W (PostT d ws ad cp sz (ipz ws (16 * ws.length + 11) .expr i) W) :=
  (pi_all hw ho hnum hne (16 * ws.length + 11) _ (Nat.le_refl _)).expr i W h (by unfold mi; omega)
end
end Go.Proofs.YtkdipppeljpgmaaGreatDoor

/- The program's reader: base types, operations. -/
namespace Go.Proofs.YtkdipppeljpgmaaGreatDoor
open Go.RowKit Go.Deep

set_option maxRecDepth 100000 in
theorem base_text (k : Int) (t : ByteArray) (h : (k = 1 ∧ t = ⟨#[105, 110, 116]⟩) ∨ (k = 2 ∧ t = ⟨#[98, 111, 111, 108]⟩) ∨ (k = 3 ∧ t = ⟨#[117, 110, 105, 116]⟩) ∨ (k = 4 ∧ t = ⟨#[108, 105, 115, 116]⟩)) (W : World) : Calls Tryz.prog 93 #[.int .i64 k] W fun e W' => e = .returned (.string t) ∧ W' = W := by
  rcases h with ⟨rfl, rfl⟩ | ⟨rfl, rfl⟩ | ⟨rfl, rfl⟩ | ⟨rfl, rfl⟩
  all_goals
    go_enter Tryz.func93, Tryz.ntmps93
    go_wp2_with fail
    go_ret
    exact ⟨rfl, rfl⟩

section
variable {d : Dr} {ws : List Wd} {ad : Option Addr} {cp sz : Nat}

set_option maxHeartbeats 8000000 in
set_option maxRecDepth 100000 in
theorem ibase_calls (i : Nat) (W : World) (h : RdAt d ws ad cp sz i W) :
    Calls Tryz.prog 69 #[.pointer (some ⟨d.B, 0, none⟩)] W (PostN' d ws ad cp sz (baseI ws i) W) := by
  obtain ⟨R, hR⟩ : ∃ R, baseI ws i = R := ⟨_, rfl⟩
  rw [hR]
  have HR := hid hR
  have S := hid (St.start h)
  have G := hid (show i + 0 ≤ i from Nat.le_refl _)
  clear h hR
  go_enter Tryz.func69, Tryz.ntmps69
  go_wp2_with fail
  refine wp_loop_rounds 5 ?_
  rw [rounds_succ]
  go_wp2_with fail
  refine (base_text 1 ⟨#[105, 110, 116]⟩ (by simp) _).mono ?_
  rintro e Y ⟨rfl, rfl⟩
  go_wp2_with fail
  by_cases z : seesI ws i kInt = true
  · refine (skips_t S.out.rd (by kernel_rfl) (by decide) z).mono ?_
    rintro e X1 ⟨rfl, hr, hg⟩
    have S := hid (S.out.go hr hg)
    have HR := hid (oi_t HR.out z)
    have G := hid (show i + 1 ≤ i + 1 by have := G.out; omega)
    clear hr hg z
    go_wp2_with fail
    go_ret
    rw [← HR.out]
    exact ⟨rfl, S.out.rd, S.out.gr⟩
  refine (skips_f (l := kInt) S.out.rd (by kernel_rfl) (by decide) (by simpa using z)).mono ?_
  rintro e X1 ⟨rfl, hr, hg⟩
  have S := hid (S.out.go hr hg)
  have HR := hid (oi_f HR.out (by simpa using z))
  clear hr hg z
  go_wp2_with fail
  rw [rounds_succ]
  go_wp2_with fail
  refine (base_text 2 ⟨#[98, 111, 111, 108]⟩ (by simp) _).mono ?_
  rintro e Y ⟨rfl, rfl⟩
  go_wp2_with fail
  by_cases z : seesI ws i kBool = true
  · refine (skips_t S.out.rd (by kernel_rfl) (by decide) z).mono ?_
    rintro e X2 ⟨rfl, hr, hg⟩
    have S := hid (S.out.go hr hg)
    have HR := hid (oi_t HR.out z)
    have G := hid (show i + 1 ≤ i + 1 by have := G.out; omega)
    clear hr hg z
    go_wp2_with fail
    go_ret
    rw [← HR.out]
    exact ⟨rfl, S.out.rd, S.out.gr⟩
  refine (skips_f (l := kBool) S.out.rd (by kernel_rfl) (by decide) (by simpa using z)).mono ?_
  rintro e X2 ⟨rfl, hr, hg⟩
  have S := hid (S.out.go hr hg)
  have HR := hid (oi_f HR.out (by simpa using z))
  clear hr hg z
  go_wp2_with fail
  rw [rounds_succ]
  go_wp2_with fail
  refine (base_text 3 ⟨#[117, 110, 105, 116]⟩ (by simp) _).mono ?_
  rintro e Y ⟨rfl, rfl⟩
  go_wp2_with fail
  by_cases z : seesI ws i kUnit = true
  · refine (skips_t S.out.rd (by kernel_rfl) (by decide) z).mono ?_
    rintro e X3 ⟨rfl, hr, hg⟩
    have S := hid (S.out.go hr hg)
    have HR := hid (oi_t HR.out z)
    have G := hid (show i + 1 ≤ i + 1 by have := G.out; omega)
    clear hr hg z
    go_wp2_with fail
    go_ret
    rw [← HR.out]
    exact ⟨rfl, S.out.rd, S.out.gr⟩
  refine (skips_f (l := kUnit) S.out.rd (by kernel_rfl) (by decide) (by simpa using z)).mono ?_
  rintro e X3 ⟨rfl, hr, hg⟩
  have S := hid (S.out.go hr hg)
  have HR := hid (oi_f HR.out (by simpa using z))
  clear hr hg z
  go_wp2_with fail
  rw [rounds_succ]
  go_wp2_with fail
  refine (base_text 4 ⟨#[108, 105, 115, 116]⟩ (by simp) _).mono ?_
  rintro e Y ⟨rfl, rfl⟩
  go_wp2_with fail
  by_cases z : seesI ws i kList = true
  · refine (skips_t S.out.rd (by kernel_rfl) (by decide) z).mono ?_
    rintro e X4 ⟨rfl, hr, hg⟩
    have S := hid (S.out.go hr hg)
    have HR := hid (oi_t HR.out z)
    have G := hid (show i + 1 ≤ i + 1 by have := G.out; omega)
    clear hr hg z
    go_wp2_with fail
    go_ret
    rw [← HR.out]
    exact ⟨rfl, S.out.rd, S.out.gr⟩
  refine (skips_f (l := kList) S.out.rd (by kernel_rfl) (by decide) (by simpa using z)).mono ?_
  rintro e X4 ⟨rfl, hr, hg⟩
  have S := hid (S.out.go hr hg)
  have HR := hid (oi_f HR.out (by simpa using z))
  clear hr hg z
  go_wp2_with fail
  rw [rounds_succ]
  go_wp2_with fail
  refine (misfit_calls _ _ S.out.rd).mono ?_
  rintro e Y ⟨rfl, hb⟩
  go_wp2_with fail
  exact ⟨rfl, S.out.err HR.out (Grew.of_below hb)⟩

/-- An operation, told. -/
def effI' (ws : List Wd) : PI Ef := bindI (takeI ws kEffect) fun _ => bindI (nameI ws) fun x => bindI (takeI ws gColon) fun _ => bindI (baseI ws) fun a => bindI (takeI ws gGives) fun _ => bindI (baseI ws) fun r => bindI (takeI ws gSemi) fun _ => pureI ⟨x, a, r⟩

def QE (x : Ef) (e : Ending) (_ : World) : Prop := e = .returned (.agg #[.string x.name, .int .i64 x.arg, .int .i64 x.res])

theorem ibase_on {i k : Nat} {n : Int} (h : baseI ws i = .ok (n, k)) : i + 1 ≤ k := by
  unfold baseI orI pureI badI at h
  repeat' split at h
  all_goals first
    | (simp at h; omega)
    | (cases h)

set_option maxHeartbeats 8000000 in
set_option maxRecDepth 100000 in
theorem ieff_calls (i : Nat) (W : World) (h : RdAt d ws ad cp sz i W) :
    Calls Tryz.prog 41 #[.pointer (some ⟨d.B, 0, none⟩)] W (PostX d ws ad cp sz QE (effI' ws i) W) := by
  obtain ⟨R, hR⟩ : ∃ R, effI' ws i = R := ⟨_, rfl⟩
  rw [hR]
  have HR := hid hR
  have S := hid (St.start h)
  have G := hid (show i + 0 ≤ i from Nat.le_refl _)
  clear h hR
  go_enter Tryz.func41, Tryz.ntmps41
  go_wp2_with fail
  have S := hid (S.out.alloc #[.string ⟨#[]⟩, .int .i64 0, .int .i64 0] 59)
  try rw [show W.heap.size + 1 = (W.alloc (.cells #[.string ⟨#[]⟩, .int .i64 0, .int .i64 0] 59)).heap.size by simp]
  obtain ⟨Y1, hY⟩ : ∃ y, W.alloc (.cells #[.string ⟨#[]⟩, .int .i64 0, .int .i64 0] 59) = y := ⟨_, rfl⟩
  rw [hY] at S ⊢
  obtain ⟨g1, hg⟩ : ∃ g, W.heap.size = g := ⟨_, rfl⟩
  rw [hg] at S ⊢
  clear hY hg
  have S := hid (S.out.alloc #[.string ⟨#[]⟩, .int .i64 0, .int .i64 0] 59)
  try rw [show Y1.heap.size + 1 = (Y1.alloc (.cells #[.string ⟨#[]⟩, .int .i64 0, .int .i64 0] 59)).heap.size by simp]
  obtain ⟨Y2, hY⟩ : ∃ y, Y1.alloc (.cells #[.string ⟨#[]⟩, .int .i64 0, .int .i64 0] 59) = y := ⟨_, rfl⟩
  rw [hY] at S ⊢
  obtain ⟨g2, hg⟩ : ∃ g, Y1.heap.size = g := ⟨_, rfl⟩
  rw [hg] at S ⊢
  clear hY hg
  refine (must1 _ S.out.rd (l1 := kEffect) (by kernel_rfl) (by decide)).mono ?_
  intro e X3 hp
  rcases post_x hp with ⟨j, hq, rfl, hg⟩ | ⟨u, i3, hq, ⟨v, rfl⟩, hr, hg⟩
  · exact ⟨rfl, S.out.err (m1_er HR.out hq) hg⟩
  have HQ := m1_ok HR.out hq
  have G := hid (show i + 1 ≤ i3 by have h1 := G.out; have h2 := HQ.2; omega)
  have S := hid (S.out.go hr hg)
  have HR := hid HQ.1
  clear hp hq hr hg HQ
  go_wp2_with fail
  refine (rname_calls _ _ S.out.rd).mono ?_
  intro e X4 hp
  rcases post_x hp with ⟨j, hq, rfl, hg⟩ | ⟨n4, i4, hq, rfl, hr, hg⟩
  · exact ⟨rfl, S.out.err (bi_er HR.out hq) hg⟩
  have G := hid (show i + 2 ≤ i4 by have h1 := G.out; have h2 := name_on hq; omega)
  have S := hid (S.out.go hr hg)
  have HR := hid (bi_ok HR.out hq)
  clear hp hq hr hg
  have b := cell_of_heap S.out.box 0
  have z := frozen_of_heap S.out.box 0
  simp at b
  go_wp2_with fail
  have S := hid (S.out.put 0 (.string n4))
  try rw [put_size X4 g2 0 (.string n4)]
  obtain ⟨Z5, hZ⟩ : ∃ Z, X4.setCell ⟨g2, 0, none⟩ (.string n4) = Z := ⟨_, rfl⟩
  rw [hZ] at S ⊢
  clear hZ b z
  refine (must1 _ S.out.rd (l1 := gColon) (by kernel_rfl) (by decide)).mono ?_
  intro e X6 hp
  rcases post_x hp with ⟨j, hq, rfl, hg⟩ | ⟨u, i6, hq, ⟨v, rfl⟩, hr, hg⟩
  · exact ⟨rfl, S.out.err (m1_er HR.out hq) hg⟩
  have HQ := m1_ok HR.out hq
  have G := hid (show i + 3 ≤ i6 by have h1 := G.out; have h2 := HQ.2; omega)
  have S := hid (S.out.go hr hg)
  have HR := hid HQ.1
  clear hp hq hr hg HQ
  go_wp2_with fail
  refine (ibase_calls _ _ S.out.rd).mono ?_
  intro e X7 hp
  rcases post_x hp with ⟨j, hq, rfl, hg⟩ | ⟨n7, i7, hq, rfl, hr, hg⟩
  · exact ⟨rfl, S.out.err (bi_er HR.out hq) hg⟩
  have G := hid (show i + 4 ≤ i7 by have h1 := G.out; have h2 := ibase_on hq; omega)
  have S := hid (S.out.go hr hg)
  have HR := hid (bi_ok HR.out hq)
  clear hp hq hr hg
  have b := cell_of_heap S.out.box 1
  have z := frozen_of_heap S.out.box 1
  simp at b
  go_wp2_with fail
  have S := hid (S.out.put 1 (.int .i64 n7))
  try rw [put_size X7 g2 1 (.int .i64 n7)]
  obtain ⟨Z8, hZ⟩ : ∃ Z, X7.setCell ⟨g2, 1, none⟩ (.int .i64 n7) = Z := ⟨_, rfl⟩
  rw [hZ] at S ⊢
  clear hZ b z
  refine (must1 _ S.out.rd (l1 := gGives) (by kernel_rfl) (by decide)).mono ?_
  intro e X9 hp
  rcases post_x hp with ⟨j, hq, rfl, hg⟩ | ⟨u, i9, hq, ⟨v, rfl⟩, hr, hg⟩
  · exact ⟨rfl, S.out.err (m1_er HR.out hq) hg⟩
  have HQ := m1_ok HR.out hq
  have G := hid (show i + 5 ≤ i9 by have h1 := G.out; have h2 := HQ.2; omega)
  have S := hid (S.out.go hr hg)
  have HR := hid HQ.1
  clear hp hq hr hg HQ
  go_wp2_with fail
  refine (ibase_calls _ _ S.out.rd).mono ?_
  intro e X10 hp
  rcases post_x hp with ⟨j, hq, rfl, hg⟩ | ⟨n10, i10, hq, rfl, hr, hg⟩
  · exact ⟨rfl, S.out.err (bi_er HR.out hq) hg⟩
  have G := hid (show i + 6 ≤ i10 by have h1 := G.out; have h2 := ibase_on hq; omega)
  have S := hid (S.out.go hr hg)
  have HR := hid (bi_ok HR.out hq)
  clear hp hq hr hg
  have b := cell_of_heap S.out.box 2
  have z := frozen_of_heap S.out.box 2
  simp at b
  go_wp2_with fail
  have S := hid (S.out.put 2 (.int .i64 n10))
  try rw [put_size X10 g2 2 (.int .i64 n10)]
  obtain ⟨Z11, hZ⟩ : ∃ Z, X10.setCell ⟨g2, 2, none⟩ (.int .i64 n10) = Z := ⟨_, rfl⟩
  rw [hZ] at S ⊢
  clear hZ b z
  refine (must1 _ S.out.rd (l1 := gSemi) (by kernel_rfl) (by decide)).mono ?_
  intro e X12 hp
  rcases post_x hp with ⟨j, hq, rfl, hg⟩ | ⟨u, i12, hq, ⟨v, rfl⟩, hr, hg⟩
  · exact ⟨rfl, S.out.err (m1_er HR.out hq) hg⟩
  have HQ := m1_ok HR.out hq
  have G := hid (show i + 7 ≤ i12 by have h1 := G.out; have h2 := HQ.2; omega)
  have S := hid (S.out.go hr hg)
  have HR := hid HQ.1
  clear hp hq hr hg HQ
  have b0 := cell_of_heap S.out.box 0
  have c0 := cell_of_heap S.out.drop.box 0
  have z0 := frozen_of_heap S.out.drop.box 0
  have b1 := cell_of_heap S.out.box 1
  have c1 := cell_of_heap S.out.drop.box 1
  have z1 := frozen_of_heap S.out.drop.box 1
  have b2 := cell_of_heap S.out.box 2
  have c2 := cell_of_heap S.out.drop.box 2
  have z2 := frozen_of_heap S.out.drop.box 2
  simp at b0 b1 b2 c0 c1 c2
  go_wp2_with fail
  have S := ((S.out.drop.put 0 (.string n4)).put 1 (.int .i64 n7)).put 2 (.int .i64 n10)
  have k0 := cell_of_heap S.box 0
  have k1 := cell_of_heap S.box 1
  have k2 := cell_of_heap S.box 2
  simp at k0 k1 k2
  refine bodyPost_ret (v := .agg #[.string n4, .int .i64 n7, .int .i64 n10]) (by simp [results, Tryz.results41, go_sem, k0, k1, k2]) rfl ?_
  rw [← HR.out]
  exact ⟨rfl, S.rd, S.gr⟩
end
end Go.Proofs.YtkdipppeljpgmaaGreatDoor

/- The program's reader of words: its face, which catches what gives up. -/
namespace Go.Proofs.YtkdipppeljpgmaaGreatDoor
open Go.RowKit Go.Deep

theorem fault_is (a b : Value) (w : World) : (Instr.typeAssert (.iface 27 (.agg #[a, b])) 20 27 false).run Tryz.prog w = .ok (.agg #[a, b]) w := by kernel_rfl

set_option maxHeartbeats 2000000 in
set_option maxRecDepth 100000 in
theorem catch_fault (g : Nat) (a b : Int) (x y : Value) (w : World) (hb : w.heap[g]? = some (.cells #[x, y] 27)) :
    CallsD Tryz.prog 39 #[.pointer (some ⟨g, 0, none⟩)] (.panicking [{ v := .iface 27 (.agg #[.int .i64 a, .int .i64 b]), recovered := false }]) w fun e u' w' =>
      e = .returned (.tuple #[]) ∧ u' = .panicking [{ v := .iface 27 (.agg #[.int .i64 a, .int .i64 b]), recovered := true }] ∧ w' = (w.setCell ⟨g, 0, none⟩ (.int .i64 a)).setCell ⟨g, 1, none⟩ (.int .i64 b) := by
  have c0 := cell_of_heap hb 0
  have c1 := cell_of_heap hb 1
  have z0 := frozen_of_heap hb 0
  have z1 := frozen_of_heap hb 1
  have hf := fault_is (.int .i64 a) (.int .i64 b)
  simp at c0 c1
  refine callsD_of_wpS Tryz.func39 rfl fun c₀ cs hu => ?_
  apply wpS_seq
  apply wpS_region
  simp [wpOpsS, go_sem, recoverD, hu, Tryz.ntmps39, Exit.thenS]
  apply wpS_seq
  apply wpS_region
  simp [wpOpsS, go_sem, Exit.thenS]
  refine wpS_cond (t := true) (by simp [Act.eval, Array.replicate]) ?_
  simp only [if_true]
  refine wpS_of_wp ?_
  go_wp2_with fail
  simp [bodyPostS, results, Tryz.results39]

set_option maxHeartbeats 2000000 in
set_option maxRecDepth 100000 in
theorem catch_none (g : Nat) (w : World) :
    CallsD Tryz.prog 39 #[.pointer (some ⟨g, 0, none⟩)] .returning w fun e u' w' => e = .returned (.tuple #[]) ∧ u' = .returning ∧ w' = w := by
  refine callsD_of_wpS Tryz.func39 rfl fun c₀ cs hu => ?_
  apply wpS_seq
  apply wpS_region
  simp [wpOpsS, go_sem, recoverD, hu, Tryz.ntmps39, Exit.thenS]
  apply wpS_seq
  apply wpS_region
  simp [wpOpsS, go_sem, Exit.thenS]
  refine wpS_cond (t := false) (by simp [Act.eval, Array.replicate]) ?_
  simp only [Bool.false_eq_true, if_false]
  refine wpS_of_wp (wp_skip ?_)
  cases c₀
  simp_all [bodyPostS, results, Tryz.results39]

/-- What is read, or where that fails: no word may be left over. -/
def leftI (ws : List Wd) : Except Nat (List Ef × Tr) := match wholeI ws with
  | .error j => .error j
  | .ok r => if r.2 < ws.length then .error r.2 else .ok r.1

def ReadPost (ws : List Wd) (sz : Nat) (W : World) (r : Except Nat (List Ef × Tr)) (e : Ending) (W' : World) : Prop := match r with
  | .error j => ∃ v1 v2, e = .returned (.tuple #[v1, v2, faultV ws sz j]) ∧ Below W.heap.size W W'
  | .ok x => ∃ ve T p lo hi, e = .returned (.tuple #[ve, .iface T p, .agg #[.int .i64 0, .int .i64 0]]) ∧ W'.ownsRow W.heap.size 59 3 ve x.1.length (rowZ Ef.cell 3 x.1) ∧ FmAt lo hi W' x.2 (.iface T p) ∧ W.heap.size ≤ lo ∧ Below W.heap.size W W'

theorem effs_t {ws : List Wd} {f : Nat} {es : List Ef} {i : Nat} {R : Except Nat (List Ef × Nat)} (h : effsI ws (f + 1) es i = R) (hz : seesI ws i kEffect = true) : bindI (effI' ws) (fun x => effsI ws f (es ++ [x])) i = R := by
  have h1 := oi_t h hz
  have h2 : bindI (effI' ws) (fun x => effsI ws f (es ++ [x])) = bindI (takeI ws kEffect) fun _ => bindI (nameI ws) fun x => bindI (takeI ws gColon) fun _ => bindI (baseI ws) fun a => bindI (takeI ws gGives) fun _ => bindI (baseI ws) fun r => bindI (takeI ws gSemi) fun _ => effsI ws f (es ++ [⟨x, a, r⟩]) := by
    unfold effI'
    simp only [bind_assoc, pure_bindI]
  rw [h2]
  unfold bindI at h1 ⊢
  rw [take_t hz]
  exact h1

theorem effs_f {ws : List Wd} {f : Nat} {es : List Ef} {i : Nat} {R : Except Nat (List Ef × Nat)} (h : effsI ws (f + 1) es i = R) (hz : seesI ws i kEffect = false) : .ok (es, i) = R := oi_f h hz

/-- What holds of the loop over operations. -/
def LoopEf (d : Dr) (ws : List Wd) (ad : Option Addr) (cp sz : Nat) (W : World) (RE : Except Nat (List Ef × Nat)) (v : Value) (wr : World) : Prop :=
  ∃ (es : List Ef) (g k : Nat), wr.ownsRow W.heap.size 59 3 v es.length (rowZ Ef.cell 3 es) ∧ St d ws ad cp sz W [] [] k wr ∧ effsI ws g es k = RE ∧ ws.length - k < g ∧ es.length ≤ k

section
variable {ws : List Wd} {ad : Option Addr} {cp sz : Nat}

theorem left_1 {j : Nat} (h : effsI ws (ws.length + 1) [] 0 = .error j) : leftI ws = .error j := by
  unfold leftI wholeI bindI
  rw [h]

theorem left_2 {es : List Ef} {k j : Nat} (h : effsI ws (ws.length + 1) [] 0 = .ok (es, k)) (h2 : ipz ws (16 * ws.length + 11) .expr k = .error j) : leftI ws = .error j := by
  unfold leftI wholeI bindI
  rw [h]
  dsimp only
  rw [h2]

theorem left_3 {es : List Ef} {t : Tr} {k k2 : Nat} (h : effsI ws (ws.length + 1) [] 0 = .ok (es, k)) (h2 : ipz ws (16 * ws.length + 11) .expr k = .ok (t, k2)) (h3 : k2 < ws.length) : leftI ws = .error k2 := by
  unfold leftI wholeI bindI
  rw [h]
  dsimp only
  rw [h2]
  dsimp only [pureI]
  rw [if_pos h3]

theorem left_4 {es : List Ef} {t : Tr} {k k2 : Nat} (h : effsI ws (ws.length + 1) [] 0 = .ok (es, k)) (h2 : ipz ws (16 * ws.length + 11) .expr k = .ok (t, k2)) (h3 : ¬ k2 < ws.length) : leftI ws = .ok (es, t) := by
  unfold leftI wholeI bindI
  rw [h]
  dsimp only
  rw [h2]
  dsimp only [pureI]
  rw [if_neg h3]

theorem eff_on {i k : Nat} {x : Ef} (h : effI' ws i = .ok (x, k)) : i + 1 ≤ k := by
  have step : ∀ {α β : Type} {p : PI α} {m : α → PI β} {i k : Nat} {y : β}, bindI p m i = .ok (y, k) → ∃ a j, p i = .ok (a, j) ∧ m a j = .ok (y, k) := fun {α β p m i k y} h => by
    cases h1 : p i with
    | error e => exact absurd (bi_er h h1) (by simp)
    | ok r => exact ⟨r.1, r.2, rfl, bi_ok h h1⟩
  unfold effI' at h
  obtain ⟨a1, j1, h1, h⟩ := step h
  obtain ⟨a2, j2, h2, h⟩ := step h
  obtain ⟨a3, j3, h3, h⟩ := step h
  obtain ⟨a4, j4, h4, h⟩ := step h
  obtain ⟨a5, j5, h5, h⟩ := step h
  obtain ⟨a6, j6, h6, h⟩ := step h
  obtain ⟨a7, j7, h7, h⟩ := step h
  have e1 := taken_on h1
  have e2 := name_on h2
  have e3 := taken_on h3
  have e4 := ibase_on h4
  have e5 := taken_on h5
  have e6 := ibase_on h6
  have e7 := taken_on h7
  simp only [pureI, Except.ok.injEq, Prod.mk.injEq] at h
  omega

/-- Where something gave up: the fault is what is told. -/
theorem door_dies {W X : World} {tm : Array Value} {g j : Nat} {v4 v5 x y : Value} {R : Ending → World → Prop} (h4 : tm[4]?.getD undef = v4) (h5 : tm[5]?.getD undef = v5) (h6 : tm[6]?.getD undef = .pointer (some ⟨g, 0, none⟩)) (hb : X.heap[g]? = some (.cells #[x, y] 27)) (hg : W.heap.size ≤ g) (hX : Below W.heap.size W X) (hR : ∀ X', Below W.heap.size W X' → R (.returned (.tuple #[v4, v5, faultV ws sz j])) X') :
    bodyPostD Tryz.prog Tryz.f16 R (.panic [faultAt ws sz j]) { tmps := tm, defers := [{ target := .fn (.func 39) #[.pointer (some ⟨g, 0, none⟩)], args := #[] }] } X := by
  show Leaves Tryz.prog Tryz.f16 tm R _ (.panicking [faultAt ws sz j]) X
  unfold faultAt faultV at *
  refine leaves_cons (f := 39) (args := #[.pointer (some ⟨g, 0, none⟩)]) (by simp) (by simp [go_sem]) ?_
  refine (catch_fault g 5 _ x y X hb).mono ?_
  rintro e u' w'' ⟨rfl, rfl, rfl⟩
  have k0 := cell_of_heap (set_block (i := 1) (.int .i64 ((curI ws sz j).at_ : Int)) (set_block (i := 0) (.int .i64 5) hb)) 0
  have k1 := cell_of_heap (set_block (i := 1) (.int .i64 ((curI ws sz j).at_ : Int)) (set_block (i := 0) (.int .i64 5) hb)) 1
  simp at k0 k1
  have hl := (hX.setCell (p := ⟨g, 0, none⟩) hg (.int .i64 5)).setCell (p := ⟨g, 1, none⟩) hg (.int .i64 ((curI ws sz j).at_ : Int))
  refine ⟨_, ?_, hR _ hl⟩
  simp [results, Tryz.results16, go_sem, h4, h5, h6, k0, k1]

/-- Where nothing gave up. -/
theorem door_back {X : World} {tm : Array Value} {g : Nat} {v4 v5 : Value} {R : Ending → World → Prop} (h4 : tm[4]?.getD undef = v4) (h5 : tm[5]?.getD undef = v5) (h6 : tm[6]?.getD undef = .pointer (some ⟨g, 0, none⟩)) (hb : X.heap[g]? = some (.cells #[.int .i64 0, .int .i64 0] 27)) (hR : R (.returned (.tuple #[v4, v5, .agg #[.int .i64 0, .int .i64 0]])) X) :
    bodyPostD Tryz.prog Tryz.f16 R .ret { tmps := tm, defers := [{ target := .fn (.func 39) #[.pointer (some ⟨g, 0, none⟩)], args := #[] }] } X := by
  show Leaves Tryz.prog Tryz.f16 tm R _ .returning X
  refine leaves_cons (f := 39) (args := #[.pointer (some ⟨g, 0, none⟩)]) (by simp) (by simp [go_sem]) ?_
  refine (catch_none g X).mono ?_
  rintro e u' w'' ⟨rfl, rfl, rfl⟩
  have k0 := cell_of_heap hb 0
  have k1 := cell_of_heap hb 1
  simp at k0 k1
  refine ⟨_, ?_, hR⟩
  simp [results, Tryz.results16, go_sem, h4, h5, h6, k0, k1]

theorem own_mono {W : World} {B B' : Nat} {e : TypeId} {z : Nat} {v : Value} {n : Nat} {xs : List Value} (h : W.ownsRow B e z v n xs) (hB : B' ≤ B) : W.ownsRow B' e z v n xs := by
  obtain ⟨h0, h1 | ⟨g, cap, cur, h1, h2, h3⟩⟩ := h
  · exact ⟨h0, Or.inl h1⟩
  · exact ⟨h0, Or.inr ⟨g, cap, cur, h1, Nat.le_trans hB h2, h3⟩⟩

set_option maxHeartbeats 8000000 in
set_option maxRecDepth 100000 in
theorem readWords_calls (hw : BriefW ws) (ho : WordsOk ws) (hnum : NumW ws) (hne : ∀ w ∈ ws, w.kind = 1 → w.text.toList ≠ []) (hfew : ws.length ≤ 1500) (W : World) (hrow : ∀ d : Dr, W.heap.size ≤ d.B → W.heap.size ≤ d.G → Lies d W (.slice ad ws.length cp) ws.length 3 (fun i => wdC (ws.getD (i / 3) default) (i % 3))) :
    Calls Tryz.prog 16 #[.slice ad ws.length cp, .int .i64 (sz : Int)] W (ReadPost ws sz W (leftI ws)) := by
  have hmf : ∀ (fn : Fn) (first cap : Array Value) (w : World), (Instr.makeFunc fn first cap).run Tryz.prog w = .ok (.func fn first cap) w := fun _ _ _ _ => rfl
  have H := hid (And.intro hw (And.intro ho (And.intro hnum hne)))
  obtain ⟨R, hR⟩ : ∃ R, leftI ws = R := ⟨_, rfl⟩
  rw [hR]
  have HR := hid hR
  obtain ⟨RE, hRE⟩ : ∃ RE, effsI ws (ws.length + 1) [] 0 = RE := ⟨_, rfl⟩
  have HRE := hid hRE
  have hst : ∃ d : Dr, d.B = W.heap.size + 1 ∧ St d ws ad cp sz ((W.alloc (.cells #[.int .i64 0, .int .i64 0] 27)).alloc (.cells #[.slice ad ws.length cp, .int .i64 0, .int .i64 (sz : Int)] 70)) [] [] 0 ((W.alloc (.cells #[.int .i64 0, .int .i64 0] 27)).alloc (.cells #[.slice ad ws.length cp, .int .i64 0, .int .i64 (sz : Int)] 70)) := by
    have h1 : Below W.heap.size W (W.alloc (.cells #[.int .i64 0, .int .i64 0] 27)) := (Below.refl _ _).alloc (Nat.le_refl _) _
    have s1 : (W.alloc (.cells #[.int .i64 0, .int .i64 0] 27)).heap.size = W.heap.size + 1 := by simp
    have h2 := h1.alloc h1.size (.cells #[.slice ad ws.length cp, .int .i64 0, .int .i64 (sz : Int)] 70)
    have h3 := (MapKept.heap_alloc (W.alloc (.cells #[.int .i64 0, .int .i64 0] 27)) (.cells #[.slice ad ws.length cp, .int .i64 0, .int .i64 (sz : Int)] 70)).1
    rw [s1] at h3
    exact ⟨⟨W.heap.size + 1, W.heap.size + 1, none, 0, 0⟩, rfl, St.start ⟨h3, rfl, Nat.zero_le _, hfew, (hrow ⟨W.heap.size + 1, W.heap.size + 1, none, 0, 0⟩ (Nat.le_succ _) (Nat.le_succ _)).grew (Grew.of_below h2)⟩⟩
  have hfl : ((W.alloc (.cells #[.int .i64 0, .int .i64 0] 27)).alloc (.cells #[.slice ad ws.length cp, .int .i64 0, .int .i64 (sz : Int)] 70)).heap[W.heap.size]? = some (.cells #[.int .i64 0, .int .i64 0] 27) := by
    rw [(MapKept.heap_alloc (W.alloc (.cells #[.int .i64 0, .int .i64 0] 27)) _).2 _ (by simp)]
    exact (MapKept.heap_alloc W _).1
  have hbl : Below W.heap.size W ((W.alloc (.cells #[.int .i64 0, .int .i64 0] 27)).alloc (.cells #[.slice ad ws.length cp, .int .i64 0, .int .i64 (sz : Int)] 70)) := by
    have h1 : Below W.heap.size W (W.alloc (.cells #[.int .i64 0, .int .i64 0] 27)) := (Below.refl _ _).alloc (Nat.le_refl _) _
    exact h1.alloc h1.size _
  obtain ⟨d, hdB, hS⟩ := hst
  obtain ⟨L, hL⟩ : ∃ L, ws.length = L := ⟨_, rfl⟩
  have HL := hid hL
  rw [hL] at hS hfl hbl ⊢
  have S := hid hS
  have HFl := hid hfl
  have HBl := hid hbl
  have HdB := hid hdB
  clear hw ho hnum hne hfew hrow hR hRE hL hS hfl hbl
  go_enter_defers Tryz.func16, Tryz.ntmps16
  go_wp2_with fail
  rw [← hdB]
  clear hdB
  obtain ⟨W2, hW2⟩ : ∃ Y, ((W.alloc (.cells #[.int .i64 0, .int .i64 0] 27)).alloc (.cells #[.slice ad L cp, .int .i64 0, .int .i64 (sz : Int)] 70)) = Y := ⟨_, rfl⟩
  rw [hW2] at S HFl HBl ⊢
  obtain ⟨g0, hg0⟩ : ∃ g, W.heap.size = g := ⟨_, rfl⟩
  have HG0 := hid hg0
  rw [hg0] at HFl ⊢
  clear hW2 hg0
  have HX := hid (fun (X : World) (hg : Grew d W2 X) => show X.heap[g0]? = some (.cells #[.int .i64 0, .int .i64 0] 27) ∧ Below W.heap.size W X from by
    have h1 := HdB.out
    have h2 := HG0.out
    have h3 := heap_lt HFl.out
    have h4 := S.out.rd.eq
    have h5 := HBl.out.size
    exact ⟨(hg.block g0 ⟨h3, by omega, by omega⟩).trans HFl.out, HBl.out.trans (hg.below h5 (by omega) (by omega))⟩)
  clear HFl HBl
  go_loopw [4] (fun v wr => Hid (LoopEf d ws ad cp sz W2 RE v wr)) (fun _ wr => ws.length - posOf d wr)
  case atStart => exact hid ⟨[], ws.length + 1, 0, ⟨rfl, Or.inl ⟨rfl, rfl⟩⟩, S.out, HRE.out, by omega, Nat.le_refl _⟩
  case round =>
    obtain ⟨es, g, k, hown, hS, hE, hg, hes⟩ := hrel.out
    clear hrel
    obtain ⟨g, rfl⟩ : ∃ x, g = x + 1 := ⟨g - 1, by omega⟩
    obtain ⟨av, cpv, rfl⟩ := y_is hown
    have Ow := hid hown
    have S := hid hS
    have HE := hid hE
    have HG := hid (And.intro hg hes)
    have HP := hid (rd_pos hS.rd)
    clear hown hS hE hg hes
    go_wp2_with fail
    have hsee := sees_calls (d := d) (ad := ad) (cp := cp) (sz := sz) k ⟨#[101, 102, 102, 101, 99, 116]⟩ kEffect (by kernel_rfl) (by decide) wr S.out.rd
    by_cases z : seesI ws k kEffect = true
    · rw [z] at hsee
      refine hsee.mono ?_
      rintro e X1 ⟨rfl, hb⟩
      have S := hid (S.out.below hb)
      have Ow := hid (owns_below Ow.out hb)
      have HE := hid (effs_t HE.out z)
      clear hb z hsee
      go_wp2_with fail
      refine (ieff_calls _ _ S.out.rd).mono ?_
      intro e X2 hp
      rcases post_x hp with ⟨j, hq, rfl, hg⟩ | ⟨x, k2, hq, hx, hr, hg⟩
      · have hx := HX.out _ (S.out.gr.trans hg)
        exact door_dies rfl rfl rfl hx.1 (by rw [HG0.out]; exact Nat.le_refl _) hx.2 (fun X' hX' => by
          rw [← HR.out, left_1 (HRE.out.trans (bi_er HE.out hq).symm)]
          exact ⟨_, _, rfl, hX'⟩)
      have hx' : e = _ := hx
      subst hx'
      have HK := hid (eff_on hq)
      have HE := hid (bi_ok HE.out hq)
      have S := hid (S.out.go hr hg)
      have Ow := hid (y_grew Ow.out S.out.hB (by rw [S.out.rd.eq]; exact S.out.hB) hg)
      obtain ⟨i0, hinf, hz0, hz1, hz2⟩ := info_parts info_eff
      have hb : Below X2.heap.size X2 (X2.alloc (.cells #[.string x.name, .int .i64 x.arg, .int .i64 x.res] 59)) := (Below.refl _ _).alloc (Nat.le_refl _) _
      have hli : Lies d (X2.alloc (.cells #[.string x.name, .int .i64 x.arg, .int .i64 x.res] 59)) (.slice (some ⟨X2.heap.size, 0, none⟩) 1 1) [x].length 3 (fun i => Ef.cell ([x].getD (i / 3) default) (i % 3)) :=
        lies_lit (f := Ef.cell) (sz := 3) (by decide) X2 59 [x] _ rfl (heap_lt S.out.rd.blk) (by rw [S.out.rd.eq]; exact heap_lt S.out.rd.blk)
      obtain ⟨v', Z, hrun, hown, hgw⟩ := app_row (d := d) ef_one Tryz.underlying22 hinf hz0 hz1 hz2 rfl (by decide) (by decide) (owns_below Ow.out hb) hli (by have h1 := HG.out.2; have h2 := S.out.rd.lt; have h3 := S.out.rd.few; have h4 := HK.out; simp; omega) (Nat.le_trans S.out.gr.size hb.size) 22
      obtain ⟨a', c', n', hv⟩ : ∃ a c n, v' = .slice a n c := by
        obtain ⟨p, q, h⟩ := y_is hown
        exact ⟨p, q, _, h⟩
      subst hv
      have S := hid ((S.out.below hb).grown hgw (fun g hg => ⟨(Ow.out.lt g hg).1, fun b hb => (by cases hb), fun x hx => (by cases hx)⟩))
      have HRun := hid hrun
      have Ow := hid hown
      clear hp hq hx hr hg hb hli hrun hown hgw hinf hz0 hz1 hz2
      go_wp2_with (at_builtin; refine wpList_append_run rfl _ _ 22 rfl _ _ rfl rfl HRun.out ?_)
      exact ⟨hid ⟨es ++ [x], g, k2, Ow.out, S.out, HE.out, by have h1 := HG.out.1; have h2 := HK.out; have h3 := S.out.rd.lt; omega, by have h1 := HG.out.2; have h2 := HK.out; simp; omega⟩, by
        rw [HP.out, rd_pos S.out.rd]
        have h1 := HK.out
        have h2 := S.out.rd.lt
        omega⟩
    · have z2 : seesI ws k kEffect = false := by simpa using z
      rw [z2] at hsee
      refine hsee.mono ?_
      rintro e X1 ⟨rfl, hb⟩
      have S := hid (S.out.below hb)
      have Ow := hid (owns_below Ow.out hb)
      have HE := hid (effs_f HE.out z2)
      clear hb z z2 hsee
      go_wp2_with fail
      refine (iwhole_calls H.out.1 H.out.2.1 H.out.2.2.1 H.out.2.2.2 _ _ S.out.rd).mono ?_
      intro e X2 hp
      rcases post_x hp with ⟨j, hq, rfl, hg⟩ | ⟨t, k2, hq, ⟨T2, p2, rfl, hf⟩, hr, hg⟩
      · have hx := HX.out _ (S.out.gr.trans hg)
        exact door_dies rfl rfl rfl hx.1 (by rw [HG0.out]; exact Nat.le_refl _) hx.2 (fun X' hX' => by
          rw [← HR.out, left_2 (HRE.out.trans HE.out.symm) hq]
          exact ⟨_, _, rfl, hX'⟩)
      have Ow := hid (y_grew Ow.out S.out.hB (by rw [S.out.rd.eq]; exact S.out.hB) hg)
      have S := hid (S.out.form hr hg hf)
      have HQ := hid hq
      clear hp hq hf hr hg
      have q1 := cell_of_heap S.out.rd.blk 1
      simp at q1
      by_cases hlt : (k2 : Int) < (L : Int)
      · go_wp2_with fail
        refine (misfit_calls _ _ S.out.rd).mono ?_
        rintro e X3 ⟨rfl, hb⟩
        go_wp2_with fail
        have hx := HX.out _ (S.out.gr.trans (Grew.of_below hb))
        exact door_dies rfl rfl rfl hx.1 (by rw [HG0.out]; exact Nat.le_refl _) hx.2 (fun X' hX' => by
          rw [← HR.out, left_3 (HRE.out.trans HE.out.symm) HQ.out (by have := HL.out; omega)]
          exact ⟨_, _, rfl, hX'⟩)
      · have hx := HX.out _ S.out.gr
        have c0 := cell_of_heap hx.1 0
        have c1 := cell_of_heap hx.1 1
        have z0 := frozen_of_heap hx.1 0
        have z1 := frozen_of_heap hx.1 1
        simp at c0 c1
        have HXx := hid hx
        clear hx
        go_wp2_with fail
        have hsz : g0 < W2.heap.size := by
          have h1 := S.out.hB
          have h2 := HdB.out
          have h3 := HG0.out
          omega
        have hff := S.out.fss _ (.head _)
        have hkeep : ∀ q, q ≠ g0 → ((X2.setCell ⟨g0, 0, none⟩ (.int .i64 0)).setCell ⟨g0, 1, none⟩ (.int .i64 0)).heap[q]? = X2.heap[q]? := fun q hq => (Below.heap_setCell _ ⟨g0, 1, none⟩ _ q hq).trans (Below.heap_setCell _ ⟨g0, 0, none⟩ _ q hq)
        have hbx := (HXx.out.2.setCell (p := ⟨g0, 0, none⟩) (by rw [HG0.out]; exact Nat.le_refl _) (.int .i64 0)).setCell (p := ⟨g0, 1, none⟩) (by rw [HG0.out]; exact Nat.le_refl _) (.int .i64 0)
        have hnl : ¬ k2 < ws.length := by have := HL.out; omega
        refine door_back rfl rfl rfl (set_block (i := 1) (.int .i64 0) (set_block (i := 0) (.int .i64 0) HXx.out.1)) ?_
        rw [← HR.out, left_4 (HRE.out.trans HE.out.symm) HQ.out hnl]
        exact ⟨_, T2, p2, _, _, rfl, own_mono (y_same Ow.out (fun g hg => hkeep g (by have := (Ow.out.lt g hg).1; omega))) (by have := HG0.out; omega), hff.1.keep (Nat.le_trans hff.1.top (by simp [World.setCell])) (fun q hq _ => hkeep q (by have := hff.2.1; omega)), Nat.le_trans (by have := HG0.out; omega) hff.2.1, hbx⟩
end
end Go.Proofs.YtkdipppeljpgmaaGreatDoor

/- The node of a form, as its method tells it. -/
namespace Go.Proofs.YtkdipppeljpgmaaGreatDoor
open Go.RowKit Go.Deep

/-- A node as a value. -/
def ndV (n : Nd) : Value := .agg #[.int .i64 n.kind, .int .i64 n.num, .string n.a, .string n.b, .string n.c, .int .i64 n.kids]

/-- What a form keeps of a node. -/
def bareZ (n : Nd) : Nd :=
  ⟨n.kind, if n.kind = 1 ∨ n.kind = 2 then n.num else 0, if 1 ≤ namesZ n.kind then n.a else ⟨#[]⟩, if 2 ≤ namesZ n.kind then n.b else ⟨#[]⟩, if 3 ≤ namesZ n.kind then n.c else ⟨#[]⟩, 0⟩

def NodePost (m : Nd) (w : World) (e : Ending) (w' : World) : Prop := e = .returned (ndV m) ∧ Below w.heap.size w w'

/-- A call of the method 'node' of this value tells this node. -/
def NodeOf (w : World) (v : Value) (m : Nd) : Prop :=
  ∃ T pv g rv, v = .iface T pv ∧ (∀ w, (method 312 T pv "loop.example/handrail/impl.node").run Tryz.prog w = .ok (g, rv) w) ∧ (∀ args w, (callFunc g args).run Tryz.prog w = .ok (.enter g args) w) ∧ Calls Tryz.prog g #[rv] w (NodePost m w)

set_option maxRecDepth 100000 in
theorem node_int (num : Int) (w : World) : Calls Tryz.prog 198 #[.agg #[.int .i64 num]] w (NodePost ⟨1, num, ⟨#[]⟩, ⟨#[]⟩, ⟨#[]⟩, 0⟩ w) := by
  go_enter Tryz.func198, Tryz.ntmps198
  go_wp2_with fail
  refine bodyPost_ret (v := ndV ⟨1, num, ⟨#[]⟩, ⟨#[]⟩, ⟨#[]⟩, 0⟩) (by simp [results, Tryz.results198, go_sem, ndV]) rfl ?_
  exact ⟨rfl, by repeat (first | exact Below.refl _ _ | refine Below.alloc ?_ (by first | (simp; done) | (simp; omega)) _)⟩

set_option maxRecDepth 100000 in
theorem node_bool (num : Int) (w : World) : Calls Tryz.prog 200 #[.agg #[.int .i64 num]] w (NodePost ⟨2, num, ⟨#[]⟩, ⟨#[]⟩, ⟨#[]⟩, 0⟩ w) := by
  go_enter Tryz.func200, Tryz.ntmps200
  go_wp2_with fail
  refine bodyPost_ret (v := ndV ⟨2, num, ⟨#[]⟩, ⟨#[]⟩, ⟨#[]⟩, 0⟩) (by simp [results, Tryz.results200, go_sem, ndV]) rfl ?_
  exact ⟨rfl, by repeat (first | exact Below.refl _ _ | refine Below.alloc ?_ (by first | (simp; done) | (simp; omega)) _)⟩

set_option maxRecDepth 100000 in
theorem node_unit  (w : World) : Calls Tryz.prog 202 #[.agg #[]] w (NodePost ⟨3, 0, ⟨#[]⟩, ⟨#[]⟩, ⟨#[]⟩, 0⟩ w) := by
  go_enter Tryz.func202, Tryz.ntmps202
  go_wp2_with fail
  refine bodyPost_ret (v := ndV ⟨3, 0, ⟨#[]⟩, ⟨#[]⟩, ⟨#[]⟩, 0⟩) (by simp [results, Tryz.results202, go_sem, ndV]) rfl ?_
  exact ⟨rfl, by repeat (first | exact Below.refl _ _ | refine Below.alloc ?_ (by first | (simp; done) | (simp; omega)) _)⟩

set_option maxRecDepth 100000 in
theorem node_nil  (w : World) : Calls Tryz.prog 204 #[.agg #[]] w (NodePost ⟨4, 0, ⟨#[]⟩, ⟨#[]⟩, ⟨#[]⟩, 0⟩ w) := by
  go_enter Tryz.func204, Tryz.ntmps204
  go_wp2_with fail
  refine bodyPost_ret (v := ndV ⟨4, 0, ⟨#[]⟩, ⟨#[]⟩, ⟨#[]⟩, 0⟩) (by simp [results, Tryz.results204, go_sem, ndV]) rfl ?_
  exact ⟨rfl, by repeat (first | exact Below.refl _ _ | refine Below.alloc ?_ (by first | (simp; done) | (simp; omega)) _)⟩

set_option maxRecDepth 100000 in
theorem node_var (a : ByteArray) (w : World) : Calls Tryz.prog 206 #[.agg #[.string a]] w (NodePost ⟨5, 0, a, ⟨#[]⟩, ⟨#[]⟩, 0⟩ w) := by
  go_enter Tryz.func206, Tryz.ntmps206
  go_wp2_with fail
  refine bodyPost_ret (v := ndV ⟨5, 0, a, ⟨#[]⟩, ⟨#[]⟩, 0⟩) (by simp [results, Tryz.results206, go_sem, ndV]) rfl ?_
  exact ⟨rfl, by repeat (first | exact Below.refl _ _ | refine Below.alloc ?_ (by first | (simp; done) | (simp; omega)) _)⟩

set_option maxRecDepth 100000 in
theorem node_fn (a : ByteArray) (T0 : TypeId) (p0 : Value) (w : World) : Calls Tryz.prog 174 #[.agg #[.string a, .iface T0 p0]] w (NodePost ⟨6, 0, a, ⟨#[]⟩, ⟨#[]⟩, 0⟩ w) := by
  go_enter Tryz.func174, Tryz.ntmps174
  go_wp2_with fail
  refine bodyPost_ret (v := ndV ⟨6, 0, a, ⟨#[]⟩, ⟨#[]⟩, 0⟩) (by simp [results, Tryz.results174, go_sem, ndV]) rfl ?_
  exact ⟨rfl, by repeat (first | exact Below.refl _ _ | refine Below.alloc ?_ (by first | (simp; done) | (simp; omega)) _)⟩

set_option maxRecDepth 100000 in
theorem node_app (T0 T1 : TypeId) (p0 p1 : Value) (w : World) : Calls Tryz.prog 210 #[.agg #[.iface T0 p0, .iface T1 p1]] w (NodePost ⟨7, 0, ⟨#[]⟩, ⟨#[]⟩, ⟨#[]⟩, 0⟩ w) := by
  go_enter Tryz.func210, Tryz.ntmps210
  go_wp2_with fail
  refine bodyPost_ret (v := ndV ⟨7, 0, ⟨#[]⟩, ⟨#[]⟩, ⟨#[]⟩, 0⟩) (by simp [results, Tryz.results210, go_sem, ndV]) rfl ?_
  exact ⟨rfl, by repeat (first | exact Below.refl _ _ | refine Below.alloc ?_ (by first | (simp; done) | (simp; omega)) _)⟩

set_option maxRecDepth 100000 in
theorem node_bind (a : ByteArray) (T0 T1 : TypeId) (p0 p1 : Value) (w : World) : Calls Tryz.prog 177 #[.agg #[.string a, .iface T0 p0, .iface T1 p1]] w (NodePost ⟨8, 0, a, ⟨#[]⟩, ⟨#[]⟩, 0⟩ w) := by
  go_enter Tryz.func177, Tryz.ntmps177
  go_wp2_with fail
  refine bodyPost_ret (v := ndV ⟨8, 0, a, ⟨#[]⟩, ⟨#[]⟩, 0⟩) (by simp [results, Tryz.results177, go_sem, ndV]) rfl ?_
  exact ⟨rfl, by repeat (first | exact Below.refl _ _ | refine Below.alloc ?_ (by first | (simp; done) | (simp; omega)) _)⟩

set_option maxRecDepth 100000 in
theorem node_recur (a b : ByteArray) (T0 T1 : TypeId) (p0 p1 : Value) (w : World) : Calls Tryz.prog 190 #[.agg #[.string a, .string b, .iface T0 p0, .iface T1 p1]] w (NodePost ⟨9, 0, a, b, ⟨#[]⟩, 0⟩ w) := by
  go_enter Tryz.func190, Tryz.ntmps190
  go_wp2_with fail
  refine bodyPost_ret (v := ndV ⟨9, 0, a, b, ⟨#[]⟩, 0⟩) (by simp [results, Tryz.results190, go_sem, ndV]) rfl ?_
  exact ⟨rfl, by repeat (first | exact Below.refl _ _ | refine Below.alloc ?_ (by first | (simp; done) | (simp; omega)) _)⟩

set_option maxRecDepth 100000 in
theorem node_cond (T0 T1 T2 : TypeId) (p0 p1 p2 : Value) (w : World) : Calls Tryz.prog 180 #[.agg #[.iface T0 p0, .iface T1 p1, .iface T2 p2]] w (NodePost ⟨10, 0, ⟨#[]⟩, ⟨#[]⟩, ⟨#[]⟩, 0⟩ w) := by
  go_enter Tryz.func180, Tryz.ntmps180
  go_wp2_with fail
  refine bodyPost_ret (v := ndV ⟨10, 0, ⟨#[]⟩, ⟨#[]⟩, ⟨#[]⟩, 0⟩) (by simp [results, Tryz.results180, go_sem, ndV]) rfl ?_
  exact ⟨rfl, by repeat (first | exact Below.refl _ _ | refine Below.alloc ?_ (by first | (simp; done) | (simp; omega)) _)⟩

set_option maxRecDepth 100000 in
theorem node_sign (k : Int) (T0 T1 : TypeId) (p0 p1 : Value) (w : World) : Calls Tryz.prog 194 #[.agg #[.int .i64 k, .iface T0 p0, .iface T1 p1]] w (NodePost ⟨k, 0, ⟨#[]⟩, ⟨#[]⟩, ⟨#[]⟩, 0⟩ w) := by
  go_enter Tryz.func194, Tryz.ntmps194
  go_wp2_with fail
  refine bodyPost_ret (v := ndV ⟨k, 0, ⟨#[]⟩, ⟨#[]⟩, ⟨#[]⟩, 0⟩) (by simp [results, Tryz.results194, go_sem, ndV]) rfl ?_
  exact ⟨rfl, by repeat (first | exact Below.refl _ _ | refine Below.alloc ?_ (by first | (simp; done) | (simp; omega)) _)⟩

set_option maxRecDepth 100000 in
theorem node_pair (T0 T1 : TypeId) (p0 p1 : Value) (w : World) : Calls Tryz.prog 214 #[.agg #[.iface T0 p0, .iface T1 p1]] w (NodePost ⟨16, 0, ⟨#[]⟩, ⟨#[]⟩, ⟨#[]⟩, 0⟩ w) := by
  go_enter Tryz.func214, Tryz.ntmps214
  go_wp2_with fail
  refine bodyPost_ret (v := ndV ⟨16, 0, ⟨#[]⟩, ⟨#[]⟩, ⟨#[]⟩, 0⟩) (by simp [results, Tryz.results214, go_sem, ndV]) rfl ?_
  exact ⟨rfl, by repeat (first | exact Below.refl _ _ | refine Below.alloc ?_ (by first | (simp; done) | (simp; omega)) _)⟩

set_option maxRecDepth 100000 in
theorem node_take (k : Int) (T0 : TypeId) (p0 : Value) (w : World) : Calls Tryz.prog 218 #[.agg #[.int .i64 k, .iface T0 p0]] w (NodePost ⟨k, 0, ⟨#[]⟩, ⟨#[]⟩, ⟨#[]⟩, 0⟩ w) := by
  go_enter Tryz.func218, Tryz.ntmps218
  go_wp2_with fail
  refine bodyPost_ret (v := ndV ⟨k, 0, ⟨#[]⟩, ⟨#[]⟩, ⟨#[]⟩, 0⟩) (by simp [results, Tryz.results218, go_sem, ndV]) rfl ?_
  exact ⟨rfl, by repeat (first | exact Below.refl _ _ | refine Below.alloc ?_ (by first | (simp; done) | (simp; omega)) _)⟩

set_option maxRecDepth 100000 in
theorem node_cons (T0 T1 : TypeId) (p0 p1 : Value) (w : World) : Calls Tryz.prog 187 #[.agg #[.iface T0 p0, .iface T1 p1]] w (NodePost ⟨19, 0, ⟨#[]⟩, ⟨#[]⟩, ⟨#[]⟩, 0⟩ w) := by
  go_enter Tryz.func187, Tryz.ntmps187
  go_wp2_with fail
  refine bodyPost_ret (v := ndV ⟨19, 0, ⟨#[]⟩, ⟨#[]⟩, ⟨#[]⟩, 0⟩) (by simp [results, Tryz.results187, go_sem, ndV]) rfl ?_
  exact ⟨rfl, by repeat (first | exact Below.refl _ _ | refine Below.alloc ?_ (by first | (simp; done) | (simp; omega)) _)⟩

set_option maxRecDepth 100000 in
theorem node_case (a b : ByteArray) (T0 T1 T2 : TypeId) (p0 p1 p2 : Value) (w : World) : Calls Tryz.prog 183 #[.agg #[.iface T0 p0, .iface T1 p1, .string a, .string b, .iface T2 p2]] w (NodePost ⟨20, 0, a, b, ⟨#[]⟩, 0⟩ w) := by
  go_enter Tryz.func183, Tryz.ntmps183
  go_wp2_with fail
  refine bodyPost_ret (v := ndV ⟨20, 0, a, b, ⟨#[]⟩, 0⟩) (by simp [results, Tryz.results183, go_sem, ndV]) rfl ?_
  exact ⟨rfl, by repeat (first | exact Below.refl _ _ | refine Below.alloc ?_ (by first | (simp; done) | (simp; omega)) _)⟩

set_option maxRecDepth 100000 in
theorem node_perform (a : ByteArray) (T0 : TypeId) (p0 : Value) (w : World) : Calls Tryz.prog 222 #[.agg #[.string a, .iface T0 p0]] w (NodePost ⟨22, 0, a, ⟨#[]⟩, ⟨#[]⟩, 0⟩ w) := by
  go_enter Tryz.func222, Tryz.ntmps222
  go_wp2_with fail
  refine bodyPost_ret (v := ndV ⟨22, 0, a, ⟨#[]⟩, ⟨#[]⟩, 0⟩) (by simp [results, Tryz.results222, go_sem, ndV]) rfl ?_
  exact ⟨rfl, by repeat (first | exact Below.refl _ _ | refine Below.alloc ?_ (by first | (simp; done) | (simp; omega)) _)⟩

set_option maxRecDepth 100000 in
theorem node_handler (k : Int) (T0 : TypeId) (p0 : Value) (ad : Option Addr) (sn sc : Nat) (w : World) : Calls Tryz.prog 226 #[.agg #[.int .i64 k, .iface T0 p0, .slice ad sn sc]] w (NodePost ⟨k, 0, ⟨#[]⟩, ⟨#[]⟩, ⟨#[]⟩, 0⟩ w) := by
  go_enter Tryz.func226, Tryz.ntmps226
  go_wp2_with fail
  refine bodyPost_ret (v := ndV ⟨k, 0, ⟨#[]⟩, ⟨#[]⟩, ⟨#[]⟩, 0⟩) (by simp [results, Tryz.results226, go_sem, ndV]) rfl ?_
  exact ⟨rfl, by repeat (first | exact Below.refl _ _ | refine Below.alloc ?_ (by first | (simp; done) | (simp; omega)) _)⟩

set_option maxRecDepth 100000 in
theorem node_ret (a : ByteArray) (T0 : TypeId) (p0 : Value) (w : World) : Calls Tryz.prog 229 #[.agg #[.string a, .iface T0 p0]] w (NodePost ⟨25, 0, a, ⟨#[]⟩, ⟨#[]⟩, 0⟩ w) := by
  go_enter Tryz.func229, Tryz.ntmps229
  go_wp2_with fail
  refine bodyPost_ret (v := ndV ⟨25, 0, a, ⟨#[]⟩, ⟨#[]⟩, 0⟩) (by simp [results, Tryz.results229, go_sem, ndV]) rfl ?_
  exact ⟨rfl, by repeat (first | exact Below.refl _ _ | refine Below.alloc ?_ (by first | (simp; done) | (simp; omega)) _)⟩

set_option maxRecDepth 100000 in
theorem node_op (a b c : ByteArray) (T0 : TypeId) (p0 : Value) (w : World) : Calls Tryz.prog 232 #[.agg #[.string a, .string b, .string c, .iface T0 p0]] w (NodePost ⟨26, 0, a, b, c, 0⟩ w) := by
  go_enter Tryz.func232, Tryz.ntmps232
  go_wp2_with fail
  refine bodyPost_ret (v := ndV ⟨26, 0, a, b, c, 0⟩) (by simp [results, Tryz.results232, go_sem, ndV]) rfl ?_
  exact ⟨rfl, by repeat (first | exact Below.refl _ _ | refine Below.alloc ?_ (by first | (simp; done) | (simp; omega)) _)⟩

theorem nodeOf_mk {w : World} {v : Value} {m m' : Nd} (T : TypeId) (pv : Value) (g : FuncId) (hv : v = .iface T pv) (hm : ∀ w, (method 312 T pv "loop.example/handrail/impl.node").run Tryz.prog w = .ok (g, pv) w)
    (hc : ∀ args w, (callFunc g args).run Tryz.prog w = .ok (.enter g args) w) (he : m' = m) (hK : Calls Tryz.prog g #[pv] w (NodePost m w)) : NodeOf w v m' := by
  subst he
  exact ⟨T, pv, g, pv, hv, hm, hc, hK⟩

theorem nodeOf {B : Nat} {w : World} {n : Nd} {us : List Value} {v : Value} (h : Shape B w n us v) (hi : ∀ u ∈ us, ∃ T p, u = .iface T p) : NodeOf w v (bareZ n) := by
  cases h with
  | int =>
    exact nodeOf_mk _ _ 198 rfl (fun w => by kernel_rfl) (fun args w => by kernel_rfl) rfl (node_int _ w)
  | bool =>
    exact nodeOf_mk _ _ 200 rfl (fun w => by kernel_rfl) (fun args w => by kernel_rfl) rfl (node_bool _ w)
  | unit =>
    exact nodeOf_mk _ _ 202 rfl (fun w => by kernel_rfl) (fun args w => by kernel_rfl) rfl (node_unit  w)
  | nil =>
    exact nodeOf_mk _ _ 204 rfl (fun w => by kernel_rfl) (fun args w => by kernel_rfl) rfl (node_nil  w)
  | var =>
    exact nodeOf_mk _ _ 206 rfl (fun w => by kernel_rfl) (fun args w => by kernel_rfl) rfl (node_var _ w)
  | fn =>
    obtain ⟨T0, p0, rfl⟩ := hi _ (List.mem_of_getElem? (i := 0) rfl)
    exact nodeOf_mk _ _ 174 rfl (fun w => by kernel_rfl) (fun args w => by kernel_rfl) rfl (node_fn _ _ _ w)
  | app =>
    obtain ⟨T0, p0, rfl⟩ := hi _ (List.mem_of_getElem? (i := 0) rfl)
    obtain ⟨T1, p1, rfl⟩ := hi _ (List.mem_of_getElem? (i := 1) rfl)
    exact nodeOf_mk _ _ 210 rfl (fun w => by kernel_rfl) (fun args w => by kernel_rfl) rfl (node_app _ _ _ _ w)
  | bind =>
    obtain ⟨T0, p0, rfl⟩ := hi _ (List.mem_of_getElem? (i := 0) rfl)
    obtain ⟨T1, p1, rfl⟩ := hi _ (List.mem_of_getElem? (i := 1) rfl)
    exact nodeOf_mk _ _ 177 rfl (fun w => by kernel_rfl) (fun args w => by kernel_rfl) rfl (node_bind _ _ _ _ _ w)
  | recur =>
    obtain ⟨T0, p0, rfl⟩ := hi _ (List.mem_of_getElem? (i := 0) rfl)
    obtain ⟨T1, p1, rfl⟩ := hi _ (List.mem_of_getElem? (i := 1) rfl)
    exact nodeOf_mk _ _ 190 rfl (fun w => by kernel_rfl) (fun args w => by kernel_rfl) rfl (node_recur _ _ _ _ _ _ w)
  | cond =>
    obtain ⟨T0, p0, rfl⟩ := hi _ (List.mem_of_getElem? (i := 0) rfl)
    obtain ⟨T1, p1, rfl⟩ := hi _ (List.mem_of_getElem? (i := 1) rfl)
    obtain ⟨T2, p2, rfl⟩ := hi _ (List.mem_of_getElem? (i := 2) rfl)
    exact nodeOf_mk _ _ 180 rfl (fun w => by kernel_rfl) (fun args w => by kernel_rfl) rfl (node_cond _ _ _ _ _ _ w)
  | sign h =>
    obtain ⟨T0, p0, rfl⟩ := hi _ (List.mem_of_getElem? (i := 0) rfl)
    obtain ⟨T1, p1, rfl⟩ := hi _ (List.mem_of_getElem? (i := 1) rfl)
    exact nodeOf_mk _ _ 194 rfl (fun w => by kernel_rfl) (fun args w => by kernel_rfl) (by rcases h with rfl | rfl | rfl | rfl | rfl <;> rfl) (node_sign _ _ _ _ _ w)
  | pair =>
    obtain ⟨T0, p0, rfl⟩ := hi _ (List.mem_of_getElem? (i := 0) rfl)
    obtain ⟨T1, p1, rfl⟩ := hi _ (List.mem_of_getElem? (i := 1) rfl)
    exact nodeOf_mk _ _ 214 rfl (fun w => by kernel_rfl) (fun args w => by kernel_rfl) rfl (node_pair _ _ _ _ w)
  | take h =>
    obtain ⟨T0, p0, rfl⟩ := hi _ (List.mem_of_getElem? (i := 0) rfl)
    exact nodeOf_mk _ _ 218 rfl (fun w => by kernel_rfl) (fun args w => by kernel_rfl) (by rcases h with rfl | rfl | rfl <;> rfl) (node_take _ _ _ w)
  | cons =>
    obtain ⟨T0, p0, rfl⟩ := hi _ (List.mem_of_getElem? (i := 0) rfl)
    obtain ⟨T1, p1, rfl⟩ := hi _ (List.mem_of_getElem? (i := 1) rfl)
    exact nodeOf_mk _ _ 187 rfl (fun w => by kernel_rfl) (fun args w => by kernel_rfl) rfl (node_cons _ _ _ _ w)
  | case =>
    obtain ⟨T0, p0, rfl⟩ := hi _ (List.mem_of_getElem? (i := 0) rfl)
    obtain ⟨T1, p1, rfl⟩ := hi _ (List.mem_of_getElem? (i := 1) rfl)
    obtain ⟨T2, p2, rfl⟩ := hi _ (List.mem_of_getElem? (i := 2) rfl)
    exact nodeOf_mk _ _ 183 rfl (fun w => by kernel_rfl) (fun args w => by kernel_rfl) rfl (node_case _ _ _ _ _ _ _ _ w)
  | perform =>
    obtain ⟨T0, p0, rfl⟩ := hi _ (List.mem_of_getElem? (i := 0) rfl)
    exact nodeOf_mk _ _ 222 rfl (fun w => by kernel_rfl) (fun args w => by kernel_rfl) rfl (node_perform _ _ _ w)
  | handler h hs hl =>
    obtain ⟨T0, p0, rfl⟩ := hi _ (List.mem_of_getElem? (i := 0) rfl)
    obtain ⟨g0, o0, c0, rfl, -⟩ := hs
    exact nodeOf_mk _ _ 226 rfl (fun w => by kernel_rfl) (fun args w => by kernel_rfl) (by rcases h with rfl | rfl <;> rfl) (node_handler _ _ _ _ _ _ w)
  | ret =>
    obtain ⟨T0, p0, rfl⟩ := hi _ (List.mem_of_getElem? (i := 0) rfl)
    exact nodeOf_mk _ _ 229 rfl (fun w => by kernel_rfl) (fun args w => by kernel_rfl) rfl (node_ret _ _ _ w)
  | op =>
    obtain ⟨T0, p0, rfl⟩ := hi _ (List.mem_of_getElem? (i := 0) rfl)
    exact nodeOf_mk _ _ 232 rfl (fun w => by kernel_rfl) (fun args w => by kernel_rfl) rfl (node_op _ _ _ _ _ w)
end Go.Proofs.YtkdipppeljpgmaaGreatDoor

/- The trees that are read have in each node what its kind has, and nothing else. -/
namespace Go.Proofs.YtkdipppeljpgmaaGreatDoor
open Go.RowKit

/-- A node has what its kind has. -/
def BareN (n : Nd) : Prop := (n.kind = 1 ∨ n.kind = 2 ∨ n.num = 0) ∧ (1 ≤ namesZ n.kind ∨ n.a = ⟨#[]⟩) ∧ (2 ≤ namesZ n.kind ∨ n.b = ⟨#[]⟩) ∧ (3 ≤ namesZ n.kind ∨ n.c = ⟨#[]⟩)

def bareF : Fo → Prop
  | .none => True
  | .tree n k r => BareN n ∧ bareF k ∧ bareF r

def BareT (t : Tr) : Prop := BareN t.1 ∧ bareF t.2

theorem bn0 (k : Int) : BareN (nd0 k) := ⟨Or.inr (Or.inr rfl), Or.inr rfl, Or.inr rfl, Or.inr rfl⟩
theorem bn1 {k : Int} {x : ByteArray} (h : 1 ≤ namesZ k) : BareN (nd1 k x) := ⟨Or.inr (Or.inr rfl), Or.inl h, Or.inr rfl, Or.inr rfl⟩
theorem bn2 {k : Int} {x y : ByteArray} (h : 2 ≤ namesZ k) : BareN (nd2 k x y) := ⟨Or.inr (Or.inr rfl), Or.inl (by show 1 ≤ namesZ k; omega), Or.inl h, Or.inr rfl⟩
theorem bn3 {k : Int} {x y z : ByteArray} (h : 3 ≤ namesZ k) : BareN (nd3 k x y z) := ⟨Or.inr (Or.inr rfl), Or.inl (by show 1 ≤ namesZ k; omega), Or.inl (by show 2 ≤ namesZ k; omega), Or.inl h⟩
theorem bnI {n : Int} : BareN (ndN 1 n) := ⟨Or.inl rfl, Or.inr rfl, Or.inr rfl, Or.inr rfl⟩
theorem bnB {n : Int} : BareN (ndN 2 n) := ⟨Or.inr (Or.inl rfl), Or.inr rfl, Or.inr rfl, Or.inr rfl⟩

theorem foL_bare : ∀ (l : List Tr), (∀ t ∈ l, BareT t) → bareF (foL l)
  | [], _ => trivial
  | t :: r, h => ⟨(h t (by simp)).1, (h t (by simp)).2, foL_bare r (fun x hx => h x (by simp [hx]))⟩

theorem mk_bare {n : Nd} (hn : BareN n) (ks : List Tr) (h : ∀ t ∈ ks, BareT t) : BareT (mkT n ks) := ⟨hn, foL_bare ks h⟩

def NtBare : Nt Tr → Prop
  | .sumL a => BareT a
  | .prodL a => BareT a
  | .callL a => BareT a
  | .opsL _ ks => ∀ t ∈ ks, BareT t
  | _ => True

theorem bare0 {n : Nd} (hn : BareN n) : BareT (mkT n []) := mk_bare hn [] (fun t ht => by cases ht)
theorem bare1 {n : Nd} {a : Tr} (hn : BareN n) (h : BareT a) : BareT (mkT n [a]) := mk_bare hn [a] (fun t ht => by simp at ht; subst ht; exact h)
theorem bare2 {n : Nd} {a b : Tr} (hn : BareN n) (h : BareT a) (h' : BareT b) : BareT (mkT n [a, b]) := mk_bare hn [a, b] (fun t ht => by simp at ht; rcases ht with rfl | rfl; exact h; exact h')
theorem bare3 {n : Nd} {a b c : Tr} (hn : BareN n) (h : BareT a) (h' : BareT b) (h'' : BareT c) : BareT (mkT n [a, b, c]) := mk_bare hn [a, b, c] (fun t ht => by simp at ht; rcases ht with rfl | rfl | rfl; exact h; exact h'; exact h'')

section
variable {ws : List Wd} {go : Nt Tr → PI Tr}

theorem step_bare (hg : ∀ nt, NtBare nt → AllI BareT (go nt)) : ∀ nt, NtBare nt → AllI BareT (stepI ws go nt) := by
  have ex := hg .expr trivial
  have at' := hg .atom trivial
  have cl := hg .call trivial
  have pr := hg .prod trivial
  have sm := hg .sum trivial
  intro nt hn
  cases nt with
  | expr =>
    refine AllI.or (AllI.or ?_ ?_) (AllI.or ?_ (AllI.or ?_ (AllI.or ?_ (hg .cons trivial))))
    · exact AllI.skip fun _ => AllI.skip fun _ => AllI.skip fun _ => ex.bind fun a ha => AllI.skip fun _ => ex.bind fun b hb => AllI.pure (bare2 (bn2 (by decide)) ha hb)
    · exact AllI.skip fun _ => AllI.skip fun _ => ex.bind fun a ha => AllI.skip fun _ => ex.bind fun b hb => AllI.pure (bare2 (bn1 (by decide)) ha hb)
    · exact ex.bind fun a ha => AllI.skip fun _ => ex.bind fun b hb => AllI.skip fun _ => ex.bind fun c hc => AllI.pure (bare3 (bn0 _) ha hb hc)
    · exact AllI.skip fun _ => AllI.skip fun _ => ex.bind fun a ha => AllI.pure (bare1 (bn1 (by decide)) ha)
    · exact ex.bind fun a ha => AllI.skip fun _ => AllI.skip fun _ => AllI.skip fun _ => ex.bind fun b hb => AllI.skip fun _ => AllI.skip fun _ => AllI.skip fun _ => AllI.skip fun _ => AllI.skip fun _ => ex.bind fun c hc => AllI.pure (bare3 (bn2 (by decide)) ha hb hc)
  | cons => exact (hg .comp trivial).bind fun a ha => AllI.or ((hg .cons trivial).bind fun b hb => AllI.pure (bare2 (bn0 _) ha hb)) (AllI.pure ha)
  | comp => exact sm.bind fun a ha => AllI.or (sm.bind fun b hb => AllI.pure (bare2 (bn0 _) ha hb)) (AllI.or (sm.bind fun b hb => AllI.pure (bare2 (bn0 _) ha hb)) (AllI.pure ha))
  | sum => exact pr.bind fun a ha => hg (.sumL a) ha
  | prod => exact cl.bind fun a ha => hg (.prodL a) ha
  | sumL a => exact AllI.or (pr.bind fun b hb => hg (.sumL _) (bare2 (bn0 _) hn hb)) (AllI.or (pr.bind fun b hb => hg (.sumL _) (bare2 (bn0 _) hn hb)) (AllI.pure hn))
  | prodL a => exact AllI.or (cl.bind fun b hb => hg (.prodL _) (bare2 (bn0 _) hn hb)) (AllI.pure hn)
  | call =>
    refine AllI.bind (P := BareT) ?_ fun a ha => hg (.callL a) ha
    exact AllI.or (at'.bind fun a ha => AllI.pure (bare1 (bn0 _) ha)) (AllI.or (at'.bind fun a ha => AllI.pure (bare1 (bn0 _) ha)) (AllI.or (at'.bind fun a ha => AllI.pure (bare1 (bn0 _) ha)) (AllI.or (AllI.skip fun _ => at'.bind fun a ha => AllI.pure (bare1 (bn1 (by decide)) ha)) at')))
  | callL a =>
    intro i r hr
    simp only [stepI, callLI] at hr
    split at hr
    · exact (at'.bind fun b hb => hg (.callL (mkT (nd0 7) [a, b])) (bare2 (bn0 _) hn hb)) i r hr
    · exact AllI.pure (show BareT a from hn) i r hr
  | atom =>
    intro i r hr
    simp only [stepI, atomI] at hr
    split at hr
    · have hb : AllI BareT (brackI ws go) := AllI.or (AllI.pure (bare0 (bn0 _))) (ex.bind fun a ha => AllI.or (ex.bind fun b hb => AllI.skip fun _ => AllI.pure (bare2 (bn0 _) ha hb)) (AllI.skip fun _ => AllI.pure ha))
      have hw : ∀ w, AllI BareT (wordI ws go w) := fun w => by
        unfold wordI
        split
        · exact AllI.pure (bare0 bnI)
        split
        · exact AllI.pure (bare0 (bn1 (by decide)))
        split
        · exact AllI.pure (bare0 bnB)
        split
        · exact AllI.pure (bare0 (bn0 _))
        split
        · exact AllI.pure (bare0 (bn0 _))
        split
        · exact hg (.hand 23) trivial
        split
        · exact hg (.hand 24) trivial
        · exact hb
      exact hw _ _ r hr
    · cases hr
  | hand k =>
    refine ex.bind fun a ha => AllI.skip fun _ => AllI.skip fun _ => AllI.skip fun x => AllI.skip fun _ => ex.bind fun b hb => hg (.opsL k [a, mkT (nd1 25 x) [b]]) (show ∀ t ∈ [a, mkT (nd1 25 x) [b]], BareT t from fun t ht => ?_)
    simp only [List.mem_cons, List.not_mem_nil, or_false] at ht
    rcases ht with rfl | rfl
    · exact ha
    · exact bare1 (bn1 (by decide)) hb
  | opsL k ks =>
    refine AllI.or ?_ (AllI.skip fun _ => AllI.pure (mk_bare (bn0 _) _ hn))
    refine AllI.skip fun _ => AllI.skip fun _ => AllI.skip fun _ => AllI.skip fun _ => ex.bind fun e he => hg (.opsL k _) (fun t ht => ?_)
    rw [List.mem_append, List.mem_singleton] at ht
    rcases ht with ht | rfl
    · exact hn t ht
    · exact bare1 (bn3 (by decide)) he

theorem read_bare : ∀ (f : Nat) (nt : Nt Tr), NtBare nt → AllI BareT (ipz ws f nt)
  | 0, _, _ => fun i r hr => by cases hr
  | f + 1, nt, hn => step_bare (fun nt hn => read_bare f nt hn) nt hn

theorem whole_bare {r : (List Ef × Tr) × Nat} (h : wholeI ws = .ok r) : BareT r.1.2 := by
  have hA : AllI (fun x : List Ef × Tr => BareT x.2) (bindI (effsI ws (ws.length + 1) []) (fun es => bindI (ipz ws (16 * ws.length + 11) .expr) (fun t => pureI (es, t)))) :=
    AllI.skip fun es => (read_bare _ .expr trivial).bind fun t ht => AllI.pure ht
  exact hA 0 r h
end
end Go.Proofs.YtkdipppeljpgmaaGreatDoor

/- A form's node, as it stands in a tree; a form's nodes put behind a list. -/
namespace Go.Proofs.YtkdipppeljpgmaaGreatDoor
open Go.RowKit Go.Deep

theorem info_nd : (Tryz.prog.info? 64).map (fun i => (i.zero, i.size, i.bytes)) = some (some (.agg #[.int .i64 0, .int .i64 0, .string ⟨#[]⟩, .string ⟨#[]⟩, .string ⟨#[]⟩, .int .i64 0]), 6, 72) := by kernel_rfl

theorem bare_is {n : Nd} (h : BareN n) : bareZ n = { n with kids := 0 } := by
  obtain ⟨kd, num, a, b, c, kids⟩ := n
  obtain ⟨h1, h2, h3, h4⟩ := h
  dsimp only at h1 h2 h3 h4
  unfold bareZ
  dsimp only
  congr 1
  · split
    · rfl
    · rcases h1 with h | h | h
      · exact absurd (Or.inl h) (by assumption)
      · exact absurd (Or.inr h) (by assumption)
      · exact h.symm
  · rcases h2 with h | h
    · rw [if_pos h]
    · rw [h]; split <;> rfl
  · rcases h3 with h | h
    · rw [if_pos h]
    · rw [h]; split <;> rfl
  · rcases h4 with h | h
    · rw [if_pos h]
    · rw [h]; split <;> rfl

theorem box6_all {w : World} {b : Nat} {t : TypeId} {x0 x1 x2 x3 x4 x5 : Value} (h : w.heap[b]? = some (.cells #[x0, x1, x2, x3, x4, x5] t)) (v0 v1 v2 v3 v4 v5 : Value) :
    ((((((w.setCell ⟨b, 0, none⟩ v0).setCell ⟨b, 1, none⟩ v1).setCell ⟨b, 2, none⟩ v2).setCell ⟨b, 3, none⟩ v3).setCell ⟨b, 4, none⟩ v4).setCell ⟨b, 5, none⟩ v5).heap[b]? = some (.cells #[v0, v1, v2, v3, v4, v5] t) := by
  simp [World.setCell, Array.getElem?_modify, h]

theorem node6_set {w : World} {b : Nat} {t : TypeId} {x0 x1 x2 x3 x4 x5 : Value} (h : w.heap[b]? = some (.cells #[x0, x1, x2, x3, x4, x5] t)) (v : Value) : (w.setCell ⟨b, 5, none⟩ v).heap[b]? = some (.cells #[x0, x1, x2, x3, x4, v] t) := by
  simp [World.setCell, Array.getElem?_modify, h]

theorem nodeOf_result {tmps : Array Value} {g : Nat} {X : World} {v0 v1 v2 v3 v4 v5 : Value} (hg : tmps.getD 2 undef = .pointer (some ⟨g, 0, none⟩)) (h : X.heap[g]? = some (.cells #[v0, v1, v2, v3, v4, v5] 64)) : (results Tryz.f44 tmps).run Tryz.prog X = .ok (.agg #[v0, v1, v2, v3, v4, v5]) X := by
  rw [Array.getD_eq_getD_getElem?] at hg
  have c0 := cell_of_heap h 0
  have c1 := cell_of_heap h 1
  have c2 := cell_of_heap h 2
  have c3 := cell_of_heap h 3
  have c4 := cell_of_heap h 4
  have c5 := cell_of_heap h 5
  simp at c0 c1 c2 c3 c4 c5
  simp [results, Tryz.results44, go_sem, hg, c0, c1, c2, c3, c4, c5]

theorem sliceOf_len {B : Nat} {w : World} {sv : Value} {us : List Value} (h : SliceOf B w sv us) : ∃ ad c, sv = .slice ad us.length c := by
  rcases h with ⟨rfl, a, c, rfl⟩ | ⟨g, o, cap, rfl, -⟩
  · exact ⟨a, c, rfl⟩
  · exact ⟨_, _, rfl⟩

set_option maxHeartbeats 2000000 in
set_option maxRecDepth 100000 in
theorem nodeOfF_calls {B : Nat} {n : Nd} {us : List Value} {v : Value} (w : World) (hS : Shape B w n us v) (hi : ∀ u ∈ us, ∃ T p, u = .iface T p) (hw : bareZ n = { n with kids := 0 }) (hk : n.kids = us.length) :
    Calls Tryz.prog 44 #[v] w fun e w' => e = .returned (ndV n) ∧ Below w.heap.size w w' := by
  have hA := (MapKept.heap_alloc w (.cells #[.int .i64 0, .int .i64 0, .string ⟨#[]⟩, .string ⟨#[]⟩, .string ⟨#[]⟩, .int .i64 0] 64)).1
  have hbA := (Below.refl w.heap.size w).alloc (Nat.le_refl _) (.cells #[.int .i64 0, .int .i64 0, .string ⟨#[]⟩, .string ⟨#[]⟩, .string ⟨#[]⟩, .int .i64 0] 64)
  have hNo := nodeOf (hS.below hbA) hi
  rw [hw] at hNo
  obtain ⟨kd, num, a, b, c, kids⟩ := n
  dsimp only at hNo hk
  obtain ⟨T, pv, g, rv, e0, hmth, hcf, hNd⟩ := hNo
  subst e0
  have HS := hid (hS.below hbA)
  have HI := hid hi
  have HBA := hid hbA
  have HA := hid hA
  have HN := hid hNd
  subst hk
  unfold ndV
  dsimp only
  clear hS hi hw hNd hbA hA
  go_enter Tryz.func44, Tryz.ntmps44
  go_wp2_with fail
  refine HN.out.mono ?_
  rintro e w2 ⟨rfl, hb2⟩
  unfold ndV
  dsimp only
  generalize w.alloc (.cells #[.int .i64 0, .int .i64 0, .string ⟨#[]⟩, .string ⟨#[]⟩, .string ⟨#[]⟩, .int .i64 0] 64) = wA at *
  have hB3 := (MapKept.heap_alloc w2 (.cells #[.int .i64 kd, .int .i64 num, .string a, .string b, .string c, .int .i64 0] 64)).1
  have hb3 := (Below.refl w2.heap.size w2).alloc (Nat.le_refl _) (.cells #[.int .i64 kd, .int .i64 num, .string a, .string b, .string c, .int .i64 0] 64)
  have hA3 := (hb3.block _ (heap_lt ((hb2.block _ (heap_lt HA.out)).trans HA.out))).trans ((hb2.block _ (heap_lt HA.out)).trans HA.out)
  have hbA3 := hb2.trans (hb3.mono hb2.size)
  have hK := kidsOf (HS.out.below hbA3) HI.out
  obtain ⟨T', pv', g', rv', e1, hmth', hcf', hKd⟩ := hK
  cases e1
  have HK := hid hKd
  have HBw3 := hid (HBA.out.trans (hbA3.mono HBA.out.size))
  have hwlt : w.heap.size < w2.heap.size := by have := heap_lt HA.out; have := hb2.size; omega
  clear hKd HN hmth hcf hb2 hbA3 HS HA
  go_upto_region 2 with fail
  generalize w2.alloc (.cells #[.int .i64 kd, .int .i64 num, .string a, .string b, .string c, .int .i64 0] 64) = w3 at *
  generalize hB3g : w2.heap.size = b3 at *
  clear hB3g hb3
  go_wp2_with fail
  refine HK.out.mono ?_
  rintro e w4 ⟨sv, rfl, hsl, hb4⟩
  obtain ⟨ad, cc, rfl⟩ := sliceOf_len hsl
  have hA4 := (hb4.block _ (heap_lt hA3)).trans hA3
  have hB4 := (hb4.block _ (heap_lt hB3)).trans hB3
  have HBw4 := hid (HBw3.out.trans (hb4.mono HBw3.out.size))
  have c0 := cell_of_heap hB4 0
  have c1 := cell_of_heap hB4 1
  have c2 := cell_of_heap hB4 2
  have c3 := cell_of_heap hB4 3
  have c4 := cell_of_heap hB4 4
  have c5 := cell_of_heap hB4 5
  have z5 := frozen_of_heap hB4 5
  have e0 := cell_of_heap hA4 0
  have e1 := cell_of_heap hA4 1
  have e2 := cell_of_heap hA4 2
  have e3 := cell_of_heap hA4 3
  have e4 := cell_of_heap hA4 4
  have e5 := cell_of_heap hA4 5
  have y0 := frozen_of_heap hA4 0
  have y1 := frozen_of_heap hA4 1
  have y2 := frozen_of_heap hA4 2
  have y3 := frozen_of_heap hA4 3
  have y4 := frozen_of_heap hA4 4
  have y5 := frozen_of_heap hA4 5
  simp at c0 c1 c2 c3 c4 c5 e0 e1 e2 e3 e4 e5
  have HA4 := hid hA4
  have HB4 := hid hB4
  have hne : w.heap.size ≠ b3 := by omega
  clear HK hmth' hcf' hsl hb4 hA3 hB3 hA4 hB4 HBw3
  go_wp2_with fail
  refine bodyPost_ret (nodeOf_result (tmps := _) rfl (box6_all ((Below.heap_setCell w4 ⟨b3, 5, none⟩ _ _ hne).trans HA4.out) _ _ _ _ _ _)) rfl ?_
  exact ⟨rfl, (((((((HBw4.out.setCell (p := ⟨b3, 5, none⟩) (by dsimp only; omega) _).setCell (p := ⟨w.heap.size, 0, none⟩) (Nat.le_refl _) _).setCell (p := ⟨w.heap.size, 1, none⟩) (Nat.le_refl _) _).setCell (p := ⟨w.heap.size, 2, none⟩) (Nat.le_refl _) _).setCell (p := ⟨w.heap.size, 3, none⟩) (Nat.le_refl _) _).setCell (p := ⟨w.heap.size, 4, none⟩) (Nat.le_refl _) _).setCell (p := ⟨w.heap.size, 5, none⟩) (Nat.le_refl _) _)⟩

/-- One node is put behind a row of one's own. -/
theorem node_append {X : World} {cv : Value} {B n : Nat} {xs : List Value} (h : X.ownsRow B 64 6 cv n xs) (kd num kids : Int) (a b c : ByteArray) (hB : B ≤ X.heap.size) (hn : n ≤ 200000) :
    ∃ cv' Z, (Builtin.append_ #[23, 23] 23 #[cv, .slice (some ⟨X.heap.size, 0, none⟩) 1 1]).run Tryz.prog (X.alloc (.cells #[.int .i64 kd, .int .i64 num, .string a, .string b, .string c, .int .i64 kids] 64)) = .ok cv' Z ∧ Z.ownsRow B 64 6 cv' (n + 1) (xs ++ [.int .i64 kd, .int .i64 num, .string a, .string b, .string c, .int .i64 kids]) ∧ (X.alloc (.cells #[.int .i64 kd, .int .i64 num, .string a, .string b, .string c, .int .i64 kids] 64)).grownBy Z cv.ownBlock ∧ (cv'.ownBlock = cv.ownBlock ∨ cv'.ownBlock = some (X.alloc (.cells #[.int .i64 kd, .int .i64 num, .string a, .string b, .string c, .int .i64 kids] 64)).heap.size) := by
  obtain ⟨i0, h1, h2, h3, h4⟩ := info_parts info_nd
  have hbl : Below X.heap.size X (X.alloc (.cells #[.int .i64 kd, .int .i64 num, .string a, .string b, .string c, .int .i64 kids] 64)) := (Below.refl _ _).alloc (Nat.le_refl _) _
  have ho := owns_below h hbl
  have hc := (MapKept.heap_alloc X (.cells #[.int .i64 kd, .int .i64 num, .string a, .string b, .string c, .int .i64 kids] 64)).1
  obtain ⟨v', w', hr, g2, g3, -, g5⟩ := run_append_own_at (P := Tryz.prog) _ B 23 23 64 i0 _ 6 72 Tryz.underlying23 h1 h2 h3 h4 rfl (by decide) cv n xs ho ⟨X.heap.size, 0, none⟩ 1 1 [.int .i64 kd, .int .i64 num, .string a, .string b, .string c, .int .i64 kids] rfl (fun j u hj => by
    rw [WideShapes.add_plain, Nat.zero_add, cell_of_heap hc j]
    simpa using hj) (fun u hu => by simp at hu; rcases hu with rfl | rfl | rfl | rfl | rfl | rfl <;> rfl) (by unfold maxLen; omega) (by omega) (by have := hbl.size; omega)
  exact ⟨v', w', hr, g2, g3, g5⟩

theorem rowZ_last (l : List Nd) (kd num kids : Int) (a b c : ByteArray) : rowZ Nd.cell 6 l ++ [.int .i64 kd, .int .i64 num, .string a, .string b, .string c, .int .i64 kids] = rowZ Nd.cell 6 (l ++ [⟨kd, num, a, b, c, kids⟩]) := by
  unfold rowZ
  rw [List.flatMap_append]
  rfl

theorem grown_trans {X Y Z : World} {r r' : Option Nat} (h : X.grownBy Y r) (h' : Y.grownBy Z r') (hr : r' = r ∨ ∃ g, r' = some g ∧ X.heap.size ≤ g) : X.grownBy Z r :=
  ⟨h'.os.trans h.os, h'.tape.trans h.tape, h'.output.trans h.output, Nat.le_trans h.size h'.size, fun k hk hne => (h'.block k (Nat.lt_of_lt_of_le hk h.size) (fun e => by
    rcases hr with hr | ⟨g, hr, hg⟩
    · exact hne (e.trans hr)
    · rw [hr] at e
      cases e
      omega)).trans (h.block k hk hne)⟩

/-- What is told of a form's nodes behind a list. -/
def AddP (W0 W : World) (lv : Value) (l : List Nd) (e : Ending) (W' : World) : Prop :=
  ∃ v', e = .returned v' ∧ W'.ownsRow W0.heap.size 64 6 v' l.length (rowZ Nd.cell 6 l) ∧ W.grownBy W' lv.ownBlock ∧ (v'.ownBlock = lv.ownBlock ∨ ∃ g, v'.ownBlock = some g ∧ W.heap.size ≤ g)

/-- What holds of the loop over kids. -/
def LoopN (B : Nat) (W0 W : World) (lv : Value) (us : List Value) (g0 o : Nat) (all : List Nd) (N L : Nat) (v : Value) (i : Nat) (wr : World) : Prop :=
  ∃ (r : Fo) (l : List Nd), Forms B W0 r (us.drop i) ∧ i + r.count = L ∧ wr.ownsRow W0.heap.size 64 6 v l.length (rowZ Nd.cell 6 l) ∧ l ++ r.flat = all ∧ r.wf ∧ bareF r ∧ r.flat.length < N + 1 ∧ W.grownBy wr lv.ownBlock ∧ (v.ownBlock = lv.ownBlock ∨ ∃ g, v.ownBlock = some g ∧ W.heap.size ≤ g) ∧ (∀ g, v.ownBlock = some g → g ≠ g0) ∧ g0 < wr.heap.size ∧ ∀ j, j < us.length → wr.cell? ⟨g0, o + j, none⟩ = us[j]?

set_option maxHeartbeats 8000000 in
set_option maxRecDepth 100000 in
theorem add_calls (W0 : World) : ∀ (N B : Nat) (n : Nd) (k : Fo) (us : List Value) (v lv : Value) (l : List Nd) (W : World), Forms B W0 k us → Shape B W0 n us v → n.kids = k.count → k.wf → BareN n → bareF k → Below W0.heap.size W0 W → W.ownsRow W0.heap.size 64 6 lv l.length (rowZ Nd.cell 6 l) → l.length + 1 + k.flat.length ≤ 100000 → k.flat.length < N →
    Calls Tryz.prog 17 #[lv, v] W (AddP W0 W lv (l ++ n :: k.flat)) := by
  intro N
  induction N with
  | zero => intro B n k us v lv l W _ _ _ _ _ _ _ _ _ h; omega
  | succ N ih =>
    intro B n k us v lv l W hF hS hk hwf hb hbf hbl hown hm hN
    obtain ⟨all, hall⟩ : ∃ a, l ++ n :: k.flat = a := ⟨_, rfl⟩
    rw [hall]
    have hlen := hF.length
    have hFi := hF.ifaces
    have hSW := hS.below hbl
    have hNd := nodeOfF_calls W hSW hFi (bare_is hb) (by rw [hk, hlen])
    obtain ⟨T, pv, hv⟩ := hS.iface
    subst hv
    obtain ⟨adl, cpl, hlv⟩ := y_is hown
    subst hlv
    have HI := hid ih
    have HNd := hid hNd
    have HF := hid (And.intro hF (And.intro hS (And.intro hlen hFi)))
    have HK := hid (And.intro hk (And.intro hwf (And.intro hbf (And.intro hm hN))))
    have HB := hid hbl
    have HO := hid hown
    have HA := hid hall
    clear ih hF hS hk hwf hb hbf hbl hown hm hN hall hlen hFi hSW hNd
    go_enter Tryz.func17, Tryz.ntmps17
    go_wp2_with fail
    refine HNd.out.mono ?_
    rintro e X1 ⟨rfl, hb1⟩
    obtain ⟨kd, num, a, b, c, kids⟩ := n
    unfold ndV
    dsimp only
    have HO1 := hid (owns_below HO.out hb1)
    have HB1 := hid (HB.out.trans (hb1.mono HB.out.size))
    have HG1 := hid (kept_of_below hb1 (Value.slice adl l.length cpl).ownBlock)
    clear hb1 HNd
    obtain ⟨i0, hinf, hz0, hz1, hz2⟩ := info_parts info_nd
    have hbA : Below X1.heap.size X1 (X1.alloc (.cells #[.int .i64 kd, .int .i64 num, .string a, .string b, .string c, .int .i64 kids] 64)) := (Below.refl _ _).alloc (Nat.le_refl _) _
    obtain ⟨cv, Z, hrun, hown, hgw, hblk⟩ := node_append HO1.out kd num kids a b c HB1.out.size (by have := HK.out.2.2.2.1; omega)
    obtain ⟨av, cpv, nv, hcv⟩ : ∃ av cpv nv, cv = .slice av nv cpv := by
      obtain ⟨x, y, z⟩ := y_is hown
      exact ⟨x, y, _, z⟩
    subst hcv
    rw [rowZ_last] at hown
    have hgZ : W.grownBy Z (Value.slice adl l.length cpl).ownBlock := grown_trans (grown_trans HG1.out (kept_of_below hbA (Value.slice adl l.length cpl).ownBlock) (Or.inl rfl)) hgw (Or.inl rfl)
    have hZ0 : Below W0.heap.size W0 Z := ⟨hgZ.os.trans HB.out.os, hgZ.tape.trans HB.out.tape, hgZ.output.trans HB.out.output, Nat.le_trans HB.out.size hgZ.size, fun q hq => (hgZ.block q (Nat.lt_of_lt_of_le hq HB.out.size) (fun e => by have := (HO.out.lt q e.symm).1; omega)).trans (HB.out.block q hq)⟩
    have hon : (Value.slice av nv cpv).ownBlock = (Value.slice adl l.length cpl).ownBlock ∨ ∃ g, (Value.slice av nv cpv).ownBlock = some g ∧ W.heap.size ≤ g := by
      rcases hblk with h | h
      · exact Or.inl h
      · exact Or.inr ⟨_, h, by have h1 := HG1.out.size; have h2 := hbA.size; omega⟩
    have HRun := hid hrun
    have HOZ := hid hown
    have HGZ := hid hgZ
    have HZ0 := hid hZ0
    have HOn := hid hon
    have hK := kidsOf (HF.out.2.1.below hZ0) HF.out.2.2.2
    obtain ⟨T', pv', g', rv', e1, hmth', hcf', hKd⟩ := hK
    cases e1
    have HKd := hid hKd
    clear hrun hown hgw hblk hgZ hZ0 hon hbA hinf hz0 hz1 hz2 hKd
    go_wp2_with (at_builtin; refine wpList_append_run rfl _ _ 23 rfl _ _ rfl rfl HRun.out ?_)
    refine HKd.out.mono ?_
    rintro e X2 ⟨sv, rfl, hsl, hb2⟩
    have HOl := hid (fun g hg' => (HOZ.out.lt g hg').2)
    have HOZ := hid (owns_below HOZ.out hb2)
    have HGZ2 := hid (grown_trans HGZ.out (kept_of_below hb2 (Value.slice adl l.length cpl).ownBlock) (Or.inl rfl))
    have HZ2 := hid (HZ0.out.trans (hb2.mono HZ0.out.size))
    clear HKd hmth' hcf' HRun hb2
    rcases hsl with ⟨h0, ad, c', rfl⟩ | ⟨g0, o, cap, rfl, hg, hg0, hc0⟩
    · have hk0 : k = .none := by
        have h1 := HF.out.2.2.1
        rw [h0] at h1
        cases k with
        | none => rfl
        | tree => simp [Fo.count] at h1
      have hall : l ++ [⟨kd, num, a, b, c, kids⟩] = all := by
        have h1 := HA.out
        rw [hk0] at h1
        exact h1
      have HAl := hid hall
      clear hk0 hall h0
      go_wp2_with fail
      refine wp_loop_rounds 1 ?_
      rw [rounds_succ]
      go_wp2_with fail
      go_ret
      refine ⟨_, rfl, ?_, HGZ2.out, HOn.out⟩
      rw [← HAl.out, List.length_append]
      exact HOZ.out
    · obtain ⟨L, hL⟩ : ∃ L, us.length = L := ⟨_, rfl⟩
      have HL := hid hL
      have HC := hid hc0
      have HGl := hid (And.intro hg hg0)
      have hLo : LoopN B W0 W (.slice adl l.length cpl) us g0 o all N L (.slice av nv cpv) 0 X2 := by
        refine ⟨k, l ++ [⟨kd, num, a, b, c, kids⟩], HF.out.1, by rw [← hL, HF.out.2.2.1]; omega, ?_, by rw [List.append_assoc]; exact HA.out, HK.out.2.1, HK.out.2.2.1, HK.out.2.2.2.2, HGZ2.out, HOn.out, fun g hg' => ?_, hg0, hc0⟩
        · rw [List.length_append]
          exact HOZ.out
        · have h1 := HOl.out g hg'
          omega
      have HLo := hid hLo
      rw [hL]
      clear hL hc0 hg hg0 hLo
      go_wp2_with fail
      go_loopw [0, 15] (fun v i wr => ∃ (av : Option Addr) (nv cpv : Nat) (i' : Nat), v = .slice av nv cpv ∧ i = .int .i64 i' ∧ Hid (LoopN B W0 W (.slice adl l.length cpl) us g0 o all N L v i' wr)) (fun _ i _ => L - (intOf i).toNat)
      case atStart => exact ⟨av, nv, cpv, 0, rfl, rfl, HLo.out⟩
      case round =>
        obtain ⟨av, nv, cpv, i', rfl, rfl, hr⟩ := hrel
        obtain ⟨r, l1, f1, f2, f3, f4, f5, f6, f7, f8, f9, f10, f11, f12⟩ := hr.out
        clear hr
        have hBr : Below W0.heap.size W0 wr := ⟨f8.os.trans HB.out.os, f8.tape.trans HB.out.tape, f8.output.trans HB.out.output, Nat.le_trans HB.out.size f8.size, fun q hq => (f8.block q (Nat.lt_of_lt_of_le hq HB.out.size) (fun e => by have := (HO.out.lt q e.symm).1; omega)).trans (HB.out.block q hq)⟩
        cases r with
        | none =>
          simp only [Fo.count, Nat.add_zero] at f2
          subst f2
          have HE := hid (And.intro f3 (And.intro f4 (And.intro f8 f9)))
          clear f1 f3 f4 f5 f6 f7 f8 f9 f10 f11 f12 hBr
          go_wp2_with fail
          go_ret
          obtain ⟨e3, e4, e8, e9⟩ := HE.out
          refine ⟨_, rfl, ?_, e8, e9⟩
          rw [← e4]
          simp only [Fo.flat, List.append_nil]
          exact e3
        | tree n' k' r' =>
          obtain ⟨v', us', rest', e1, hF1, hS1, hF2⟩ := f1
          simp only [Fo.count] at f2
          have hi : (i' : Int) < (L : Int) := by omega
          have hil : i' < us.length := by rw [HL.out]; omega
          have hcell : wr.cell? ⟨g0, o + i', none⟩ = some v' := by
            rw [f12 i' hil]
            rw [List.drop_eq_getElem_cons hil] at e1
            rw [List.getElem?_eq_getElem hil, (List.cons.inj e1).1]
          have hdrop : us.drop (i' + 1) = rest' := by
            rw [List.drop_eq_getElem_cons hil] at e1
            exact (List.cons.inj e1).2
          obtain ⟨T', p', rfl⟩ := hS1.iface
          have f4' : (l1 ++ n' :: k'.flat) ++ r'.flat = all := by
            rw [← f4]
            simp [Fo.flat]
          have hal : all.length ≤ 100000 := by
            have h1 := congrArg List.length HA.out
            have h2 := HK.out.2.2.2.1
            simp at h1
            omega
          have hll : l1.length + 1 + k'.flat.length + r'.flat.length ≤ 100000 := by
            have h1 := congrArg List.length f4'
            simp at h1
            omega
          simp only [Fo.flat, List.length_cons, List.length_append] at f7
          have hIH := HI.out B n' k' us' _ _ l1 wr hF1 hS1 f5.1 f5.2.1 f6.1 f6.2.1 hBr f3 (by omega) (by omega)
          have HC := hid hIH
          have HX := hid (And.intro hF2 (And.intro hdrop (And.intro f5.2.2 (And.intro f6.2.2 f4'))))
          have HY := hid (And.intro f8 (And.intro f9 (And.intro f10 (And.intro f11 f12))))
          have HO3 := hid f3
          have HN2 := hid (show r'.flat.length < N + 1 by omega)
          have HL2 := hid (show i' + 1 + r'.count = L by omega)
          clear f2 f3 f4 f4' f5 f6 f7 f8 f9 f10 f11 f12 hF1 hS1 hF2 hdrop hIH hil hal hll hBr e1
          go_wp2_with fail
          refine HC.out.mono ?_
          rintro e X3 ⟨v3, rfl, hO3, hG3, hon3⟩
          obtain ⟨a3, c3, n3, hv3⟩ : ∃ a c n, v3 = .slice a n c := by
            obtain ⟨x, y, z⟩ := y_is hO3
            exact ⟨x, y, _, z⟩
          subst hv3
          have hsz := (HGl.out.2)
          obtain ⟨y8, y9, y10, y11, y12⟩ := HY.out
          have hg3 : W.grownBy X3 (Value.slice adl l.length cpl).ownBlock := by
            refine grown_trans y8 hG3 ?_
            rcases y9 with h | ⟨g, h, h2⟩
            · exact Or.inl h
            · exact Or.inr ⟨g, h, h2⟩
          have hn3 : (Value.slice a3 n3 c3).ownBlock = (Value.slice adl l.length cpl).ownBlock ∨ ∃ g, (Value.slice a3 n3 c3).ownBlock = some g ∧ W.heap.size ≤ g := by
            rcases hon3 with h | ⟨g, h, h2⟩
            · rw [h]; exact y9
            · exact Or.inr ⟨g, h, by have := y8.size; omega⟩
          have hk3 : X3.heap[g0]? = wr.heap[g0]? := hG3.block g0 y11 (fun e => y10 g0 e.symm rfl)
          have hne3 : ∀ g, (Value.slice a3 n3 c3).ownBlock = some g → g ≠ g0 := fun g hg' => by
            rcases hon3 with h | ⟨g', h, h2⟩
            · exact y10 g (h.symm.trans hg')
            · rw [h] at hg'
              cases hg'
              omega
          have HR := hid (show LoopN B W0 W (.slice adl l.length cpl) us g0 o all N L (.slice a3 n3 c3) (i' + 1) X3 from ⟨r', l1 ++ n' :: k'.flat, by rw [HX.out.2.1]; exact HX.out.1, HL2.out, hO3, HX.out.2.2.2.2, HX.out.2.2.1, HX.out.2.2.2.1, HN2.out, hg3, hn3, hne3, Nat.lt_of_lt_of_le y11 hG3.size, fun j hj => (World.cell?_of_block (a := ⟨g0, o + j, none⟩) hk3).trans (y12 j hj)⟩)
          have HI9 := hid (show i' ≤ 1048576 by have h1 := HK.out.2.2.2.1; have h2 := HF.out.2.2.1; have h3 := Fo.count_le k; have h4 := HL.out; omega)
          clear hO3 hG3 hon3 hsz y8 y9 y10 y11 y12 hg3 hn3 hk3 hne3 HC HX HY HO3
          go_wp2_with fail
          rw [wrap_succ HI9.out]
          exact ⟨⟨a3, n3, c3, i' + 1, rfl, rfl, HR⟩, lt_step hi⟩
end Go.Proofs.YtkdipppeljpgmaaGreatDoor

/- The program's own word at the beginning of a rest: runs, copies, signs. -/
namespace Go.Proofs.YtkdipppeljpgmaaGreatDoor
open Go.RowKit

theorem okb_false (x : Int) : okb false x = digitZ x := by simp [okb]

set_option maxRecDepth 100000 in
theorem digit_runL (x : Int) (w : World) : Calls Tryz.prog 60 #[.int .i32 x] w fun e w' => e = .returned (.bool (okb false x)) ∧ w = w' := by
  rw [okb_false]
  exact digit20 x w

set_option maxRecDepth 100000 in
theorem part_run (x : Int) (w : World) : Calls Tryz.prog 89 #[.int .i32 x] w fun e w' => e = .returned (.bool (okb true x)) ∧ w = w' := by
  have e : okb true x = (letterZ x || digitZ x) := by simp [okb, Bool.or_comm]
  rw [e]
  cases hL : letterZ x with
  | true =>
    go_enter Tryz.func89, Tryz.ntmps89
    go_wp2_with (first | (go_at_call 62; refine (letter19 _ _).mono ?_; rintro e w2 ⟨rfl, rfl⟩) | (go_at_call 60; refine (digit20 _ _).mono ?_; rintro e w2 ⟨rfl, rfl⟩))
    go_ret
    exact ⟨rfl, rfl⟩
  | false =>
    go_enter Tryz.func89, Tryz.ntmps89
    go_wp2_with (first | (go_at_call 62; refine (letter19 _ _).mono ?_; rintro e w2 ⟨rfl, rfl⟩) | (go_at_call 60; refine (digit20 _ _).mono ?_; rintro e w2 ⟨rfl, rfl⟩))
    go_ret
    exact ⟨rfl, rfl⟩

set_option maxHeartbeats 1000000 in
set_option maxRecDepth 100000 in
theorem runDigits_calls (t : ByteArray) (hs : t.size ≤ 1500) (w : World) :
    Calls Tryz.prog 88 #[.string t, .func (.func 60) #[] #[]] w fun e w' => e = .returned (.int .i64 (runTo t false 0)) ∧ Below w.heap.size w w' := by
  obtain ⟨R, hR⟩ : ∃ R, runTo t false 0 = R := ⟨_, rfl⟩
  rw [hR]
  have HR : Hid (runTo t false 0 = R) := hR
  clear hR
  go_enter Tryz.func88, Tryz.ntmps88
  go_wp2_with fail
  go_loopg [] t.size (fun g wx => ∃ pos : Nat, wx.heap[w.heap.size]? = some (.stringIter t pos) ∧ Below w.heap.size w wx ∧ (∀ j, j < pos → okb false (bz t j) = true) ∧ t.size ≤ pos + g ∧ pos ≤ t.size)
  case atStart => exact ⟨0, World.iter_heap w t 0, (Below.refl _ w).alloc (Nat.le_refl _) _, fun j hj => by omega, by omega, by omega⟩
  case round =>
    obtain ⟨pos, hit, hbw, hall, hfu, hps⟩ := hrel
    have fin : (pos < t.size → okb false (bz t pos) = false) → Hid (R = pos) := fun h => by
      rw [← HR.out]
      exact (IsRun.eq ⟨Nat.zero_le _, hps, fun j _ h2 => hall j h2, h⟩).symm
    have step : okb false (bz t pos) = true → Hid (∀ j, j < pos + 1 → okb false (bz t j) = true) := fun h j hj => by
      by_cases e : j = pos
      · rw [e]
        exact h
      · exact hall j (by omega)
    clear hall HR
    by_cases hp : pos < t.size
    · obtain ⟨g, rfl⟩ : ∃ g, gk = g + 1 := ⟨gk - 1, by omega⟩
      by_cases ha : (t[pos]'hp).toNat < 128
      · have hnx : ∀ ty, (Instr.next (.pointer (some ⟨w.heap.size, 0, none⟩)) true ty).run Tryz.prog wr = _ := fun ty => Lib.run_next_ascii_at wr w.heap.size t pos ty hit hp ha
        have hit2 := Lib.iterAt_heap wr w.heap.size t pos (pos + 1) hit
        have hbw2 := Lib.below_iterAt hbw (k := w.heap.size) (Nat.le_refl _) t (pos + 1)
        obtain ⟨W, hWd⟩ : ∃ W, wr.iterAt w.heap.size t (pos + 1) = W := ⟨_, rfl⟩
        rw [hWd] at hnx hit2 hbw2
        have hit3 : Hid (W.heap[w.heap.size]? = some (.stringIter t (pos + 1))) := hit2
        clear hWd hit hbw hit2
        rw [bz_at t hp] at fin step
        generalize ((t[pos]'hp).toNat : Int) = x at *
        cases hk : okb false x with
        | true =>
          have HS := step hk
          clear fin step
          go_wp2_with (first | (go_at_call 60; refine (digit_runL _ _).mono ?_; rintro e w2 ⟨rfl, rfl⟩))
          go_roundg g
          case measure => omega
          case rel => exact ⟨pos + 1, hit3.out, hbw2, HS.out, by omega, by omega⟩
        | false =>
          have HF := fin (fun _ => hk)
          clear fin step
          go_wp2_with (first | (go_at_call 60; refine (digit_runL _ _).mono ?_; rintro e w2 ⟨rfl, rfl⟩))
          go_ret
          exact ⟨by rw [HF.out]; rfl, hbw2⟩
      · have hnx : ∀ ty, (Instr.next (.pointer (some ⟨w.heap.size, 0, none⟩)) true ty).run Tryz.prog wr = _ := fun ty => Lib.run_next_any_at wr w.heap.size t pos ty hit hp
        have hhi := (decode_high t pos hp (by omega)).1
        have hbw2 := Lib.below_iterAt hbw (k := w.heap.size) (Nat.le_refl _) t (pos + (Utf8.decode t pos).2)
        obtain ⟨X, hX⟩ : ∃ X, (Utf8.decode t pos).1 = X := ⟨_, rfl⟩
        rw [hX] at hnx hhi
        obtain ⟨W, hWd⟩ : ∃ W, wr.iterAt w.heap.size t (pos + (Utf8.decode t pos).2) = W := ⟨_, rfl⟩
        rw [hWd] at hnx hbw2
        clear hWd hit hbw hX
        have hk : okb false (X : Int) = false := by
          have h1 : letterZ (X : Int) = false := by simp [letterZ]; omega
          have h2 : digitZ (X : Int) = false := by simp [digitZ]; omega
          simp [okb, h1, h2]
        have HF := fin (fun _ => by
          rw [bz_at t hp]
          have h1 : letterZ ((t[pos]'hp).toNat : Int) = false := by simp [letterZ]; omega
          have h2 : digitZ ((t[pos]'hp).toNat : Int) = false := by simp [digitZ]; omega
          simp [okb, h1, h2])
        clear ha hhi fin step
        go_wp2_with (first | (go_at_call 60; refine (digit_runL _ _).mono ?_; rintro e w2 ⟨rfl, rfl⟩))
        go_ret
        exact ⟨by rw [HF.out]; rfl, hbw2⟩
    · have hnx : ∀ ty, (Instr.next (.pointer (some ⟨w.heap.size, 0, none⟩)) true ty).run Tryz.prog wr = _ := fun ty => Lib.run_next_end_at wr w.heap.size t pos ty hit hp
      have HF := fin (fun h => absurd h hp)
      have hpe : pos = t.size := by omega
      have HP : Hid (pos = t.size) := hpe
      clear fin step hpe
      go_wp2_with fail
      go_ret
      exact ⟨by rw [HF.out, HP.out]; rfl, hbw⟩

set_option maxHeartbeats 1000000 in
set_option maxRecDepth 100000 in
theorem runParts_calls (t : ByteArray) (hs : t.size ≤ 1500) (w : World) :
    Calls Tryz.prog 88 #[.string t, .func (.func 89) #[] #[]] w fun e w' => e = .returned (.int .i64 (runTo t true 0)) ∧ Below w.heap.size w w' := by
  obtain ⟨R, hR⟩ : ∃ R, runTo t true 0 = R := ⟨_, rfl⟩
  rw [hR]
  have HR : Hid (runTo t true 0 = R) := hR
  clear hR
  go_enter Tryz.func88, Tryz.ntmps88
  go_wp2_with fail
  go_loopg [] t.size (fun g wx => ∃ pos : Nat, wx.heap[w.heap.size]? = some (.stringIter t pos) ∧ Below w.heap.size w wx ∧ (∀ j, j < pos → okb true (bz t j) = true) ∧ t.size ≤ pos + g ∧ pos ≤ t.size)
  case atStart => exact ⟨0, World.iter_heap w t 0, (Below.refl _ w).alloc (Nat.le_refl _) _, fun j hj => by omega, by omega, by omega⟩
  case round =>
    obtain ⟨pos, hit, hbw, hall, hfu, hps⟩ := hrel
    have fin : (pos < t.size → okb true (bz t pos) = false) → Hid (R = pos) := fun h => by
      rw [← HR.out]
      exact (IsRun.eq ⟨Nat.zero_le _, hps, fun j _ h2 => hall j h2, h⟩).symm
    have step : okb true (bz t pos) = true → Hid (∀ j, j < pos + 1 → okb true (bz t j) = true) := fun h j hj => by
      by_cases e : j = pos
      · rw [e]
        exact h
      · exact hall j (by omega)
    clear hall HR
    by_cases hp : pos < t.size
    · obtain ⟨g, rfl⟩ : ∃ g, gk = g + 1 := ⟨gk - 1, by omega⟩
      by_cases ha : (t[pos]'hp).toNat < 128
      · have hnx : ∀ ty, (Instr.next (.pointer (some ⟨w.heap.size, 0, none⟩)) true ty).run Tryz.prog wr = _ := fun ty => Lib.run_next_ascii_at wr w.heap.size t pos ty hit hp ha
        have hit2 := Lib.iterAt_heap wr w.heap.size t pos (pos + 1) hit
        have hbw2 := Lib.below_iterAt hbw (k := w.heap.size) (Nat.le_refl _) t (pos + 1)
        obtain ⟨W, hWd⟩ : ∃ W, wr.iterAt w.heap.size t (pos + 1) = W := ⟨_, rfl⟩
        rw [hWd] at hnx hit2 hbw2
        have hit3 : Hid (W.heap[w.heap.size]? = some (.stringIter t (pos + 1))) := hit2
        clear hWd hit hbw hit2
        rw [bz_at t hp] at fin step
        generalize ((t[pos]'hp).toNat : Int) = x at *
        cases hk : okb true x with
        | true =>
          have HS := step hk
          clear fin step
          go_wp2_with (first | (go_at_call 89; refine (part_run _ _).mono ?_; rintro e w2 ⟨rfl, rfl⟩))
          go_roundg g
          case measure => omega
          case rel => exact ⟨pos + 1, hit3.out, hbw2, HS.out, by omega, by omega⟩
        | false =>
          have HF := fin (fun _ => hk)
          clear fin step
          go_wp2_with (first | (go_at_call 89; refine (part_run _ _).mono ?_; rintro e w2 ⟨rfl, rfl⟩))
          go_ret
          exact ⟨by rw [HF.out]; rfl, hbw2⟩
      · have hnx : ∀ ty, (Instr.next (.pointer (some ⟨w.heap.size, 0, none⟩)) true ty).run Tryz.prog wr = _ := fun ty => Lib.run_next_any_at wr w.heap.size t pos ty hit hp
        have hhi := (decode_high t pos hp (by omega)).1
        have hbw2 := Lib.below_iterAt hbw (k := w.heap.size) (Nat.le_refl _) t (pos + (Utf8.decode t pos).2)
        obtain ⟨X, hX⟩ : ∃ X, (Utf8.decode t pos).1 = X := ⟨_, rfl⟩
        rw [hX] at hnx hhi
        obtain ⟨W, hWd⟩ : ∃ W, wr.iterAt w.heap.size t (pos + (Utf8.decode t pos).2) = W := ⟨_, rfl⟩
        rw [hWd] at hnx hbw2
        clear hWd hit hbw hX
        have hk : okb true (X : Int) = false := by
          have h1 : letterZ (X : Int) = false := by simp [letterZ]; omega
          have h2 : digitZ (X : Int) = false := by simp [digitZ]; omega
          simp [okb, h1, h2]
        have HF := fin (fun _ => by
          rw [bz_at t hp]
          have h1 : letterZ ((t[pos]'hp).toNat : Int) = false := by simp [letterZ]; omega
          have h2 : digitZ ((t[pos]'hp).toNat : Int) = false := by simp [digitZ]; omega
          simp [okb, h1, h2])
        clear ha hhi fin step
        go_wp2_with (first | (go_at_call 89; refine (part_run _ _).mono ?_; rintro e w2 ⟨rfl, rfl⟩))
        go_ret
        exact ⟨by rw [HF.out]; rfl, hbw2⟩
    · have hnx : ∀ ty, (Instr.next (.pointer (some ⟨w.heap.size, 0, none⟩)) true ty).run Tryz.prog wr = _ := fun ty => Lib.run_next_end_at wr w.heap.size t pos ty hit hp
      have HF := fin (fun h => absurd h hp)
      have hpe : pos = t.size := by omega
      have HP : Hid (pos = t.size) := hpe
      clear fin step hpe
      go_wp2_with fail
      go_ret
      exact ⟨by rw [HF.out, HP.out]; rfl, hbw⟩

set_option maxRecDepth 100000 in
theorem clone_calls (t : ByteArray) (hs : t.size ≤ 1500) (w : World) :
    Calls Tryz.prog 92 #[.string t] w fun e w' => e = .returned (.string t) ∧ Below w.heap.size w w' := by
  go_enter Tryz.func92, Tryz.ntmps92
  go_wp2_with fail
  refine (Tryz.stringslite_Clone t _ (by omega)).mono ?_
  rintro e w2 ⟨rfl, hb⟩
  go_wp2_with fail
  go_ret
  exact ⟨rfl, hb⟩

set_option maxRecDepth 100000 in
theorem wordOf_calls (k : Int) (t : ByteArray) (n : Nat) (hn : n ≤ t.size) (hs : t.size ≤ 1500) (w : World) :
    Calls Tryz.prog 65 #[.int .i64 k, .string t, .int .i64 n] w fun e w' => e = .returned (.agg #[.int .i64 k, .string (t.extract 0 n), .int .i64 0]) ∧ Below w.heap.size w w' := by
  go_enter Tryz.func65, Tryz.ntmps65
  go_wp2_with fail
  refine (clone_calls _ (by simp [ByteArray.size_extract]; omega) _).mono ?_
  rintro e w2 ⟨rfl, hb⟩
  have e1 : (w.alloc (.cells #[.int .i64 0, .string ⟨#[]⟩, .int .i64 0] 43)).heap[w.heap.size]? = some (.cells #[.int .i64 0, .string ⟨#[]⟩, .int .i64 0] 43) := (MapKept.heap_alloc w _).1
  have eA := (hb.block w.heap.size (by simp)).trans e1
  have hbw : Below w.heap.size w w2 := ((Below.refl _ _).alloc (Nat.le_refl _) _).trans (hb.mono (by simp))
  have a0 := cell_of_heap eA 0
  have a1 := cell_of_heap eA 1
  have a2 := cell_of_heap eA 2
  have z0 := frozen_of_heap eA 0
  have z1 := frozen_of_heap eA 1
  have z2 := frozen_of_heap eA 2
  simp at a0 a1 a2
  clear e1 eA hb
  go_wp2_with fail
  refine bodyPost_ret (v := .agg #[.int .i64 k, .string (t.extract 0 n), .int .i64 0]) (by simp [results, Tryz.results65, go_sem, a0, a1, a2]) rfl ⟨rfl, ?_⟩
  repeat (first | exact hbw | refine Below.setCell ?_ (by simp) _)

set_option maxRecDepth 100000 in
theorem prefix_calls (t g : ByteArray) (w : World) :
    Calls Tryz.prog 90 #[.string t, .string g] w fun e w' => e = .returned (.bool (signHit t g)) ∧ w = w' := by
  by_cases hge : g.size ≤ t.size
  · have e : signHit t g = ((t.extract 0 g.size).toList == g.toList) := by simp [signHit, hge]
    rw [e]
    go_enter Tryz.func90, Tryz.ntmps90
    go_wp2
    go_ret
    exact ⟨rfl, rfl⟩
  · have e : signHit t g = false := by simp [signHit, hge]
    rw [e]
    go_enter Tryz.func90, Tryz.ntmps90
    go_wp2
    go_ret
    exact ⟨rfl, rfl⟩
end Go.Proofs.YtkdipppeljpgmaaGreatDoor

/- A rune beyond ASCII stands in no text of ASCII signs. -/
namespace Go.Proofs.YtkdipppeljpgmaaGreatDoor
open Go.RowKit

theorem encode_high (r : Nat) (h : 128 ≤ r) :
    (∃ x y : UInt8, Utf8.encode (r : Int) = ⟨#[x, y]⟩ ∧ 128 ≤ y.toNat) ∨ (∃ x y z : UInt8, Utf8.encode (r : Int) = ⟨#[x, y, z]⟩ ∧ 128 ≤ z.toNat) ∨ (∃ x y z u : UInt8, Utf8.encode (r : Int) = ⟨#[x, y, z, u]⟩ ∧ 128 ≤ u.toNat) := by
  have hlast : ∀ c : Nat, 128 ≤ (UInt8.ofNat (128 + c % 64)).toNat := fun c => by
    simp
    omega
  unfold Utf8.encode
  dsimp only
  have hc : ¬ (if Utf8.valid (r : Int) then (r : Int).toNat else Utf8.runeError) < 128 := by
    split
    · simp; omega
    · decide
  generalize (if Utf8.valid (r : Int) then (r : Int).toNat else Utf8.runeError) = c at *
  rw [if_neg hc]
  split
  · exact Or.inl ⟨_, _, rfl, hlast c⟩
  · split
    · exact Or.inr (Or.inl ⟨_, _, _, rfl, hlast c⟩)
    · exact Or.inr (Or.inr ⟨_, _, _, _, rfl, hlast c⟩)

theorem indexByte_none (c : UInt8) (hc : 128 ≤ c.toNat) : ∀ l : List UInt8, (∀ b ∈ l, b.toNat < 128) → Lib.indexByte l c = -1
  | [], _ => rfl
  | b :: l, h => by
    have hb := h b (by simp)
    have hne : (b == c) = false := by
      rw [beq_eq_false_iff_ne]
      intro e
      rw [e] at hb
      omega
    have ih := indexByte_none c hc l (fun x hx => h x (by simp [hx]))
    simp [Lib.indexByte, hne, ih]

theorem index_high (s : ByteArray) (y : UInt8) (hy : 128 ≤ y.toNat) (hs : ∀ b ∈ s.data.toList, b.toNat < 128) (w : World) :
    Calls Tryz.prog 112 #[.string s, .int .u8 (y.toNat : Int)] w fun e w' => e = .returned (.int .i64 (-1)) ∧ w' = w := by
  refine (Tryz.strings_IndexByte s _ w).mono ?_
  rintro e w' ⟨rfl, rfl⟩
  rw [indexByte_none _ (by simpa using hy) _ hs]
  exact ⟨rfl, rfl⟩

set_option maxHeartbeats 1000000 in
set_option maxRecDepth 1000000 in
theorem high_calls (r : Nat) (h0 : 128 ≤ r) (w : World) :
    Calls Tryz.prog 104 #[.string ⟨#[40, 41, 44, 43, 45, 42, 61, 60, 124, 58, 59]⟩, .int .i32 r] w fun e w' => e = .returned (.int .i64 (-1)) ∧ Below w.heap.size w w' := by
  by_cases he : (r : Int) = 65533
  · have he' : ((r : Int) == 65533) = true := by rw [he]; rfl
    clear he
    go_enter Tryz.func104, Tryz.ntmps104
    go_wp2_with fail
    obtain ⟨t, ht⟩ : ∃ t : ByteArray, t = ⟨#[40, 41, 44, 43, 45, 42, 61, 60, 124, 58, 59]⟩ := ⟨_, rfl⟩
    have hts : t.size = 11 := by rw [ht]; rfl
    have hta : ∀ j (hj : j < t.size), (t[j]'hj).toNat < 128 := by
      subst ht
      decide
    rw [← ht]
    have Hts : Hid (t.size = 11) := hts
    have Hta : Hid (∀ j (hj : j < t.size), (t[j]'hj).toNat < 128) := hta
    clear ht hts hta
    go_loopg [] 12 (fun g wx => ∃ pos : Nat, wx.heap[w.heap.size]? = some (.stringIter t pos) ∧ Below w.heap.size w wx ∧ 12 ≤ pos + g)
    case atStart => exact ⟨0, World.iter_heap w t 0, (Below.refl _ w).alloc (Nat.le_refl _) _, by omega⟩
    case round =>
      obtain ⟨pos, hit, hbw, hfu⟩ := hrel
      by_cases hp : pos < t.size
      · obtain ⟨g, rfl⟩ : ∃ g, gk = g + 1 := ⟨gk - 1, by have := Hts.out; omega⟩
        have ha := Hta.out pos hp
        have hnx : ∀ ty, (Instr.next (.pointer (some ⟨w.heap.size, 0, none⟩)) true ty).run Tryz.prog wr = _ := fun ty => Lib.run_next_ascii_at wr w.heap.size t pos ty hit hp ha
        have hit2 := Lib.iterAt_heap wr w.heap.size t pos (pos + 1) hit
        have hbw2 := Lib.below_iterAt hbw (k := w.heap.size) (Nat.le_refl _) t (pos + 1)
        obtain ⟨W, hWd⟩ : ∃ W, wr.iterAt w.heap.size t (pos + 1) = W := ⟨_, rfl⟩
        rw [hWd] at hnx hit2 hbw2
        have hit3 : Hid (W.heap[w.heap.size]? = some (.stringIter t (pos + 1))) := hit2
        have hne : (((t[pos]'hp).toNat : Int) == 65533) = false := by rw [beq_eq_false_iff_ne]; omega
        clear hWd hit hbw hit2 ha Hta
        generalize ((t[pos]'hp).toNat : Int) = x at *
        go_wp2_with fail
        go_roundg g
        case measure => omega
        case rel => exact ⟨pos + 1, hit3.out, hbw2, by omega⟩
      · have hnx : ∀ ty, (Instr.next (.pointer (some ⟨w.heap.size, 0, none⟩)) true ty).run Tryz.prog wr = _ := fun ty => Lib.run_next_end_at wr w.heap.size t pos ty hit hp
        go_wp2_with fail
        go_ret
        exact ⟨rfl, hbw⟩
  · have he' : ((r : Int) == 65533) = false := by rw [beq_eq_false_iff_ne]; exact he
    clear he
    have hvr := Tryz.utf8_ValidRune (r : Int)
    cases hv : Lib.validRune (r : Int) with
    | false =>
      rw [hv] at hvr
      have HV : Hid (∀ w, _) := hvr
      clear hvr hv
      go_enter Tryz.func104, Tryz.ntmps104
      go_wp2_with fail
      refine (HV.out _).mono ?_
      rintro e w2 ⟨rfl, rfl⟩
      go_wp2_with fail
      go_ret
      exact ⟨rfl, Below.refl _ _⟩
    | true =>
      rw [hv] at hvr
      have HV : Hid (∀ w, _) := hvr
      have hen := encode_high r h0
      clear hvr hv
      go_enter Tryz.func104, Tryz.ntmps104
      go_wp2_with fail
      refine (HV.out _).mono ?_
      rintro e w2 ⟨rfl, rfl⟩
      clear HV
      rcases hen with ⟨x, y, hE, hy⟩ | ⟨x, y, z, hE, hy⟩ | ⟨x, y, z, u, hE, hy⟩
      · have hne : ((((⟨#[40, 41, 44, 43, 45, 42, 61, 60, 124, 58, 59]⟩ : ByteArray)[1]'(by decide)).toNat : Int) != (((⟨#[x, y]⟩ : ByteArray)[1]'(show 1 < 2 by omega)).toNat : Int)) = true := by
          show ((41 : Int) != (y.toNat : Int)) = true
          rw [bne_iff_ne]
          omega
        go_wp2_with fail
        go_step3
        go_wp2_with fail
        refine wp_loop_rounds 1 ?_
        rw [rounds_succ]
        go_wp2_with fail
        go_step3
        go_wp2_with fail
        go_quiet (fail)
        go_wp2_with fail
        have hbq : Below w2.heap.size w2 (w2.drewN nq) := below_drewN (Below.refl _ _) nq
        generalize w2.drewN nq = W at *
        go_quiet (first | (go_at_call 112; refine Calls.quiet_of_same (index_high _ y hy (by decide) _)))
        go_wp2_with fail
        dsimp only [Exit.noGoto, Exit.inBlock, Exit.then]
        go_ret
        exact ⟨rfl, below_drewN hbq _⟩
      · have hne : ((((⟨#[40, 41, 44, 43, 45, 42, 61, 60, 124, 58, 59]⟩ : ByteArray)[2]'(by decide)).toNat : Int) != (((⟨#[x, y, z]⟩ : ByteArray)[2]'(show 2 < 3 by omega)).toNat : Int)) = true := by
          show ((44 : Int) != (z.toNat : Int)) = true
          rw [bne_iff_ne]
          omega
        go_wp2_with fail
        go_step3
        go_wp2_with fail
        refine wp_loop_rounds 1 ?_
        rw [rounds_succ]
        go_wp2_with fail
        go_step3
        go_wp2_with fail
        go_quiet (fail)
        go_wp2_with fail
        have hbq : Below w2.heap.size w2 (w2.drewN nq) := below_drewN (Below.refl _ _) nq
        generalize w2.drewN nq = W at *
        go_quiet (first | (go_at_call 112; refine Calls.quiet_of_same (index_high _ z hy (by decide) _)))
        go_wp2_with fail
        dsimp only [Exit.noGoto, Exit.inBlock, Exit.then]
        go_ret
        exact ⟨rfl, below_drewN hbq _⟩
      · have hne : ((((⟨#[40, 41, 44, 43, 45, 42, 61, 60, 124, 58, 59]⟩ : ByteArray)[3]'(by decide)).toNat : Int) != (((⟨#[x, y, z, u]⟩ : ByteArray)[3]'(show 3 < 4 by omega)).toNat : Int)) = true := by
          show ((43 : Int) != (u.toNat : Int)) = true
          rw [bne_iff_ne]
          omega
        go_wp2_with fail
        go_step3
        go_wp2_with fail
        refine wp_loop_rounds 1 ?_
        rw [rounds_succ]
        go_wp2_with fail
        go_step3
        go_wp2_with fail
        go_quiet (fail)
        go_wp2_with fail
        have hbq : Below w2.heap.size w2 (w2.drewN nq) := below_drewN (Below.refl _ _) nq
        generalize w2.drewN nq = W at *
        go_quiet (first | (go_at_call 112; refine Calls.quiet_of_same (index_high _ u hy (by decide) _)))
        go_wp2_with fail
        dsimp only [Exit.noGoto, Exit.inBlock, Exit.then]
        go_ret
        exact ⟨rfl, below_drewN hbq _⟩
end Go.Proofs.YtkdipppeljpgmaaGreatDoor
