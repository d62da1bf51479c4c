/- A rune beyond ASCII stands in no text of ASCII signs. -/
import Derived.Test.YthpoplpamkgocaaImplLex
import Derived.WalkMore
namespace Go.Proofs.Ythpoplpamkgocaa
open Go.RowKit

theorem encode_high (r : Nat) (h : 128 ≤ r) :
    (∃ x y : UInt8, Utf8.encode (r : Int) = ⟨#[x, y]⟩ ∧ 128 ≤ y.toNat) ∨ (∃ x y z : UInt8, Utf8.encode (r : Int) = ⟨#[x, y, z]⟩ ∧ 128 ≤ z.toNat) ∨ (∃ x y z u : UInt8, Utf8.encode (r : Int) = ⟨#[x, y, z, u]⟩ ∧ 128 ≤ u.toNat) := by
  have hlast : ∀ c : Nat, 128 ≤ (UInt8.ofNat (128 + c % 64)).toNat := fun c => by
    simp
    omega
  unfold Utf8.encode
  dsimp only
  have hc : ¬ (if Utf8.valid (r : Int) then (r : Int).toNat else Utf8.runeError) < 128 := by
    split
    · simp; omega
    · decide
  generalize (if Utf8.valid (r : Int) then (r : Int).toNat else Utf8.runeError) = c at *
  rw [if_neg hc]
  split
  · exact Or.inl ⟨_, _, rfl, hlast c⟩
  · split
    · exact Or.inr (Or.inl ⟨_, _, _, rfl, hlast c⟩)
    · exact Or.inr (Or.inr ⟨_, _, _, _, rfl, hlast c⟩)

theorem indexByte_none (c : UInt8) (hc : 128 ≤ c.toNat) : ∀ l : List UInt8, (∀ b ∈ l, b.toNat < 128) → Lib.indexByte l c = -1
  | [], _ => rfl
  | b :: l, h => by
    have hb := h b (by simp)
    have hne : (b == c) = false := by
      rw [beq_eq_false_iff_ne]
      intro e
      rw [e] at hb
      omega
    have ih := indexByte_none c hc l (fun x hx => h x (by simp [hx]))
    simp [Lib.indexByte, hne, ih]

theorem index_high (s : ByteArray) (y : UInt8) (hy : 128 ≤ y.toNat) (hs : ∀ b ∈ s.data.toList, b.toNat < 128) (w : World) :
    Calls Try.prog 37 #[.string s, .int .u8 (y.toNat : Int)] w fun e w' => e = .returned (.int .i64 (-1)) ∧ w' = w := by
  refine (Try.strings_IndexByte s _ w).mono ?_
  rintro e w' ⟨rfl, rfl⟩
  rw [indexByte_none _ (by simpa using hy) _ hs]
  exact ⟨rfl, rfl⟩

set_option maxHeartbeats 1000000 in
set_option maxRecDepth 1000000 in
theorem high_calls (r : Nat) (h0 : 128 ≤ r) (w : World) :
    Calls Try.prog 35 #[.string ⟨#[40, 41, 44, 43, 45, 42, 61, 60, 124, 58, 59]⟩, .int .i32 r] w fun e w' => e = .returned (.int .i64 (-1)) ∧ Below w.heap.size w w' := by
  by_cases he : (r : Int) = 65533
  · have he' : ((r : Int) == 65533) = true := by rw [he]; rfl
    clear he
    go_enter Try.func35, Try.ntmps35
    go_wp2_with fail
    obtain ⟨t, ht⟩ : ∃ t : ByteArray, t = ⟨#[40, 41, 44, 43, 45, 42, 61, 60, 124, 58, 59]⟩ := ⟨_, rfl⟩
    have hts : t.size = 11 := by rw [ht]; rfl
    have hta : ∀ j (hj : j < t.size), (t[j]'hj).toNat < 128 := by
      subst ht
      decide
    rw [← ht]
    have Hts : Hid (t.size = 11) := hts
    have Hta : Hid (∀ j (hj : j < t.size), (t[j]'hj).toNat < 128) := hta
    clear ht hts hta
    go_loopg [] 12 (fun g wx => ∃ pos : Nat, wx.heap[w.heap.size]? = some (.stringIter t pos) ∧ Below w.heap.size w wx ∧ 12 ≤ pos + g)
    case atStart => exact ⟨0, World.iter_heap w t 0, (Below.refl _ w).alloc (Nat.le_refl _) _, by omega⟩
    case round =>
      obtain ⟨pos, hit, hbw, hfu⟩ := hrel
      by_cases hp : pos < t.size
      · obtain ⟨g, rfl⟩ : ∃ g, gk = g + 1 := ⟨gk - 1, by have := Hts.out; omega⟩
        have ha := Hta.out pos hp
        have hnx : ∀ ty, (Instr.next (.pointer (some ⟨w.heap.size, 0, none⟩)) true ty).run Try.prog wr = _ := fun ty => Lib.run_next_ascii_at wr w.heap.size t pos ty hit hp ha
        have hit2 := Lib.iterAt_heap wr w.heap.size t pos (pos + 1) hit
        have hbw2 := Lib.below_iterAt hbw (k := w.heap.size) (Nat.le_refl _) t (pos + 1)
        obtain ⟨W, hWd⟩ : ∃ W, wr.iterAt w.heap.size t (pos + 1) = W := ⟨_, rfl⟩
        rw [hWd] at hnx hit2 hbw2
        have hit3 : Hid (W.heap[w.heap.size]? = some (.stringIter t (pos + 1))) := hit2
        have hne : (((t[pos]'hp).toNat : Int) == 65533) = false := by rw [beq_eq_false_iff_ne]; omega
        clear hWd hit hbw hit2 ha Hta
        generalize ((t[pos]'hp).toNat : Int) = x at *
        go_wp2_with fail
        go_roundg g
        case measure => omega
        case rel => exact ⟨pos + 1, hit3.out, hbw2, by omega⟩
      · have hnx : ∀ ty, (Instr.next (.pointer (some ⟨w.heap.size, 0, none⟩)) true ty).run Try.prog wr = _ := fun ty => Lib.run_next_end_at wr w.heap.size t pos ty hit hp
        go_wp2_with fail
        go_ret
        exact ⟨rfl, hbw⟩
  · have he' : ((r : Int) == 65533) = false := by rw [beq_eq_false_iff_ne]; exact he
    clear he
    have hvr := Try.utf8_ValidRune (r : Int)
    cases hv : Lib.validRune (r : Int) with
    | false =>
      rw [hv] at hvr
      have HV : Hid (∀ w, _) := hvr
      clear hvr hv
      go_enter Try.func35, Try.ntmps35
      go_wp2_with fail
      refine (HV.out _).mono ?_
      rintro e w2 ⟨rfl, rfl⟩
      go_wp2_with fail
      go_ret
      exact ⟨rfl, Below.refl _ _⟩
    | true =>
      rw [hv] at hvr
      have HV : Hid (∀ w, _) := hvr
      have hen := encode_high r h0
      clear hvr hv
      go_enter Try.func35, Try.ntmps35
      go_wp2_with fail
      refine (HV.out _).mono ?_
      rintro e w2 ⟨rfl, rfl⟩
      clear HV
      rcases hen with ⟨x, y, hE, hy⟩ | ⟨x, y, z, hE, hy⟩ | ⟨x, y, z, u, hE, hy⟩
      · have hne : ((((⟨#[40, 41, 44, 43, 45, 42, 61, 60, 124, 58, 59]⟩ : ByteArray)[1]'(by decide)).toNat : Int) != (((⟨#[x, y]⟩ : ByteArray)[1]'(show 1 < 2 by omega)).toNat : Int)) = true := by
          show ((41 : Int) != (y.toNat : Int)) = true
          rw [bne_iff_ne]
          omega
        go_wp2_with fail
        go_step3
        go_wp2_with fail
        refine wp_loop_rounds 1 ?_
        rw [rounds_succ]
        go_wp2_with fail
        go_step3
        go_wp2_with fail
        go_quiet (fail)
        go_wp2_with fail
        have hbq : Below w2.heap.size w2 (w2.drewN nq) := below_drewN (Below.refl _ _) nq
        generalize w2.drewN nq = W at *
        go_quiet (first | (go_at_call 37; refine Calls.quiet_of_same (index_high _ y hy (by decide) _)))
        go_wp2_with fail
        dsimp only [Exit.noGoto, Exit.inBlock, Exit.then]
        go_ret
        exact ⟨rfl, below_drewN hbq _⟩
      · have hne : ((((⟨#[40, 41, 44, 43, 45, 42, 61, 60, 124, 58, 59]⟩ : ByteArray)[2]'(by decide)).toNat : Int) != (((⟨#[x, y, z]⟩ : ByteArray)[2]'(show 2 < 3 by omega)).toNat : Int)) = true := by
          show ((44 : Int) != (z.toNat : Int)) = true
          rw [bne_iff_ne]
          omega
        go_wp2_with fail
        go_step3
        go_wp2_with fail
        refine wp_loop_rounds 1 ?_
        rw [rounds_succ]
        go_wp2_with fail
        go_step3
        go_wp2_with fail
        go_quiet (fail)
        go_wp2_with fail
        have hbq : Below w2.heap.size w2 (w2.drewN nq) := below_drewN (Below.refl _ _) nq
        generalize w2.drewN nq = W at *
        go_quiet (first | (go_at_call 37; refine Calls.quiet_of_same (index_high _ z hy (by decide) _)))
        go_wp2_with fail
        dsimp only [Exit.noGoto, Exit.inBlock, Exit.then]
        go_ret
        exact ⟨rfl, below_drewN hbq _⟩
      · have hne : ((((⟨#[40, 41, 44, 43, 45, 42, 61, 60, 124, 58, 59]⟩ : ByteArray)[3]'(by decide)).toNat : Int) != (((⟨#[x, y, z, u]⟩ : ByteArray)[3]'(show 3 < 4 by omega)).toNat : Int)) = true := by
          show ((43 : Int) != (u.toNat : Int)) = true
          rw [bne_iff_ne]
          omega
        go_wp2_with fail
        go_step3
        go_wp2_with fail
        refine wp_loop_rounds 1 ?_
        rw [rounds_succ]
        go_wp2_with fail
        go_step3
        go_wp2_with fail
        go_quiet (fail)
        go_wp2_with fail
        have hbq : Below w2.heap.size w2 (w2.drewN nq) := below_drewN (Below.refl _ _) nq
        generalize w2.drewN nq = W at *
        go_quiet (first | (go_at_call 37; refine Calls.quiet_of_same (index_high _ u hy (by decide) _)))
        go_wp2_with fail
        dsimp only [Exit.noGoto, Exit.inBlock, Exit.then]
        go_ret
        exact ⟨rfl, below_drewN hbq _⟩
end Go.Proofs.Ythpoplpamkgocaa
