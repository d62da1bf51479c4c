/- A copy of a list of instructions; two that hold the same compare as alike; marks that are put into one are held by it. -/
import Derived.Test.YtfmkgppkgmjpfaaDoorInsRows
namespace Go.Proofs.YtfmkgppkgmjpfaaDoor
open Go.RowKit

/-- The cells of a list of instructions, told by place. -/
def insCells (ns : List In) (i : Nat) : Value := (ns.getD (i / 4) default).cell (i % 4)

theorem insCells_at (ns : List In) (k c : Nat) (hc : c < 4) : insCells ns (k * 4 + c) = (ns.getD k default).cell c := by
  unfold insCells
  rw [show (k * 4 + c) / 4 = k by omega, show (k * 4 + c) % 4 = c by omega]

theorem CellRow.insAt {w : World} {g : Nat} {ns : List In} (h : CellRow 40 w g (ns.length * 4) (insCells ns)) : InsAt w g 0 ns := by
  intro k hk c hc
  have := h.cell (i := k * 4 + c) (by omega)
  rw [insCells_at ns k c hc] at this
  simpa using this

theorem info_ins : (Tryd.prog.info? 40).map (fun i => (i.zero, i.size, i.bytes)) = some (some (.agg #[.int .i64 0, .int .i64 0, .int .i64 0, .int .i64 0]), 4, 32) := by kernel_rfl

theorem made_ins (len : Nat) (hl : len ≤ 1048576) (w : World) : ∃ c : Array Value, c.size = len * 4 ∧
    (Instr.makeSlice 25 (.int .i64 (len : Int)) (.int .i64 (len : Int))).run Tryd.prog w = .ok (.slice (some ⟨w.heap.size, 0, none⟩) len len) (w.alloc (.cells c 40)) := by
  obtain ⟨i0, hi, hz0, hz1, hz2⟩ := info_parts info_ins
  have h := run_make (P := Tryd.prog) w 25 40 i0 _ Tryd.underlying25 hi hz0 .i64 .i64 len len (by omega) (Int.le_refl _) (by rw [hz2]; omega) (by omega)
  rw [hz1] at h
  simp only [Int.toNat_natCast] at h
  exact ⟨_, size_madeCells _ _, h⟩

/-- One instruction more is stored. -/
theorem ins_step {w1 : World} {B t N k : Nat} {f : Nat → Value} {n : Nat} (a b c d : Value) (h : Rw w1 B t N f n) :
    ∃ f', Rw ((((w1.setCell ⟨B, k * 4, none⟩ a).setCell ⟨B, k * 4 + 1, none⟩ b).setCell ⟨B, k * 4 + 2, none⟩ c).setCell ⟨B, k * 4 + 3, none⟩ d) B t N f' n ∧
      f' (k * 4) = a ∧ f' (k * 4 + 1) = b ∧ f' (k * 4 + 2) = c ∧ f' (k * 4 + 3) = d ∧ ∀ i, i < k * 4 → f' i = f i := by
  refine ⟨_, (((h.set _ _).set _ _).set _ _).set _ _, ?_, ?_, ?_, ?_, fun i hi => ?_⟩
  · rw [if_neg (by omega), if_neg (by omega), if_neg (by omega), if_pos (by omega)]
  · rw [if_neg (by omega), if_neg (by omega), if_pos (by omega)]
  · rw [if_neg (by omega), if_pos (by omega)]
  · rw [if_pos (by omega)]
  · rw [if_neg (by omega), if_neg (by omega), if_neg (by omega), if_neg (by omega)]

theorem ins_more {k : Nat} {f f' F : Nat → Value} (hf : ∀ i, i < k * 4 → f i = F i) (ho : ∀ i, i < k * 4 → f' i = f i)
    (h0 : f' (k * 4) = F (k * 4)) (h1 : f' (k * 4 + 1) = F (k * 4 + 1)) (h2 : f' (k * 4 + 2) = F (k * 4 + 2)) (h3 : f' (k * 4 + 3) = F (k * 4 + 3)) : ∀ i, i < (k + 1) * 4 → f' i = F i := by
  intro i hi
  by_cases h : i < k * 4
  · rw [ho i h, hf i h]
  · have : i = k * 4 ∨ i = k * 4 + 1 ∨ i = k * 4 + 2 ∨ i = k * 4 + 3 := by omega
    rcases this with rfl | rfl | rfl | rfl
    · exact h0
    · exact h1
    · exact h2
    · exact h3

set_option maxRecDepth 100000 in
theorem toInsS_none (a : Option Addr) (cap : Nat) (w : World) :
    Calls Tryd.prog 7 #[.slice a 0 cap] w fun e w' => e = .returned (.slice (some ⟨w.heap.size, 0, none⟩) 0 0) ∧ Below w.heap.size w w' := by
  obtain ⟨c, hcs, hmk⟩ := made_ins 0 (by omega) w
  simp only [Int.cast_ofNat_Int] at hmk
  go_enter Tryd.func7, Tryd.ntmps7
  go_wp2
  refine wp_loop_rounds 1 ?_
  rw [rounds_succ]
  go_wp2
  go_ret
  exact ⟨rfl, (Below.refl _ _).alloc (Nat.le_refl _) _⟩

set_option maxHeartbeats 1000000 in
set_option maxRecDepth 100000 in
theorem toInsS_rows (b off cap : Nat) (ns : List In) (w : World) (hb : b < w.heap.size) (hn : InsAt w b off ns) (hm : ns.length ≤ 1048576) :
    Calls Tryd.prog 7 #[.slice (some ⟨b, off, none⟩) ns.length cap] w fun e w' => e = .returned (.slice (some ⟨w.heap.size, 0, none⟩) ns.length ns.length) ∧ CellRow 40 w' w.heap.size (ns.length * 4) (insCells ns) ∧ Below w.heap.size w w' := by
  obtain ⟨len, hlen⟩ : ∃ len, ns.length = len := ⟨_, rfl⟩
  have Hlen : Hid (ns.length = len) := hlen
  have HM : Hid (len ≤ 1048576) := by show _ ≤ _; omega
  have HN : Hid (InsAt w b off ns) := hn
  rw [hlen]
  clear hlen hm hn
  obtain ⟨c, hcs, hmk⟩ := made_ins len HM.out w
  have hrow := World.rowIs_alloc w c 40 (fun i => c.getD i undef) (fun i hi => by simp [hi])
  rw [hcs] at hrow
  go_enter Tryd.func7, Tryd.ntmps7
  go_wp2_with fail
  clear hmk
  go_loopw [4] (fun i wr => ∃ (k : Nat) (f : Nat → Value), k ≤ len ∧ i = .int .i64 k ∧ Rw wr w.heap.size 40 (len * 4) f (len * 4) ∧ Hid (∀ j, j < k * 4 → f j = insCells ns j) ∧ Below w.heap.size w wr) (fun i _ => len - (intOf i).toNat)
  case atStart => exact ⟨0, _, Nat.zero_le _, rfl, rw_of_row hrow _, fun j hj => by omega, (Below.refl _ _).alloc (Nat.le_refl _) _⟩
  case round =>
    obtain ⟨k, f, hk, rfl, hown, HF, hnx⟩ := hrel
    clear hrow
    by_cases hkl : (k : Int) < (len : Int)
    · have hcell := fun c (hc : c < 4) => (hnx.cell (p := ⟨b, off + k * 4 + c, none⟩) hb).trans (HN.out k (by rw [Hlen.out]; omega) c hc)
      have HE : Hid (∀ c, c < 4 → insCells ns (k * 4 + c) = (ns.getD k default).cell c) := fun c hc => insCells_at ns k c hc
      generalize ns.getD k default = n at hcell HE
      have c0 := hcell 0 (by omega)
      have c1 := hcell 1 (by omega)
      have c2 := hcell 2 (by omega)
      have c3 := hcell 3 (by omega)
      simp only [In.cell, Nat.add_zero] at c0 c1 c2 c3
      clear hcell
      go_wp2_with fail
      refine (toIns_calls _ _ _ _ _).mono ?_
      rintro e w1 ⟨rfl, hb1⟩
      clear c0 c1 c2 c3
      have hown1 := hown.of_block (hb1.block w.heap.size hown.lt)
      have hnx1 := hnx.trans (hb1.mono hnx.size)
      have q0 := hown1.cell (i := k * 4) (by omega)
      have q1 := hown1.cell (i := k * 4 + 1) (by omega)
      have q2 := hown1.cell (i := k * 4 + 2) (by omega)
      have q3 := hown1.cell (i := k * 4 + 3) (by omega)
      have z0 := hown1.frozen (k * 4) (by omega)
      have z1 := hown1.frozen (k * 4 + 1) (by omega)
      have z2 := hown1.frozen (k * 4 + 2) (by omega)
      have z3 := hown1.frozen (k * 4 + 3) (by omega)
      clear hown hnx hb1
      go_wp2_with fail
      obtain ⟨f', hr', e0, e1, e2, e3, eo⟩ := ins_step (k := k) (.int .i64 n.op) (.int .i64 n.a) (.int .i64 n.b) (.int .i64 n.c) hown1
      have hs : len - (intOf (.int .i64 ((k + 1 : Nat) : Int))).toNat < len - (intOf (.int .i64 (k : Int))).toNat := by simp only [intOf, Int.toNat_natCast]; omega
      try rw [wrap_one (by omega) HM.out]
      refine ⟨⟨k + 1, f', by omega, rfl, hr', ins_more HF.out eo ?_ ?_ ?_ ?_, (((hnx1.setCell (by simp) _).setCell (by simp) _).setCell (by simp) _).setCell (by simp) _⟩, hs⟩
      · rw [e0]; exact (HE.out 0 (by omega)).symm
      · rw [e1]; exact (HE.out 1 (by omega)).symm
      · rw [e2]; exact (HE.out 2 (by omega)).symm
      · rw [e3]; exact (HE.out 3 (by omega)).symm
    · have hkn : k = len := by omega
      subst hkn
      go_wp2_with fail
      go_ret
      exact ⟨rfl, ⟨_, f, hown, Nat.le_refl _, HF.out⟩, hnx⟩

theorem toInsS_any {v : Value} {ns : List In} (w : World) (hv : InsSlice w v ns) (hm : ns.length ≤ 1048576) :
    Calls Tryd.prog 7 #[v] w fun e w' => (∃ v', e = .returned v' ∧ SliceR 40 4 w.heap.size w' v' ns.length (insCells ns)) ∧ Below w.heap.size w w' := by
  obtain ⟨a, cap, rfl, h⟩ := hv
  by_cases he : ns = []
  · subst he
    refine (toInsS_none a cap w).mono ?_
    rintro e w' ⟨rfl, h2⟩
    exact ⟨⟨_, rfl, _, _, rfl, Or.inl rfl⟩, h2⟩
  · obtain ⟨b, off, rfl, hb, hn⟩ := h.resolve_left he
    refine (toInsS_rows b off cap ns w hb hn hm).mono ?_
    rintro e w' ⟨rfl, h1, h2⟩
    exact ⟨⟨_, rfl, _, _, rfl, Or.inr ⟨_, rfl, Nat.le_refl _, h1⟩⟩, h2⟩

theorem SliceR.insSlice {B : Nat} {w : World} {v : Value} {ns : List In} (h : SliceR 40 4 B w v ns.length (insCells ns)) : InsSlice w v ns := by
  obtain ⟨ad, cap, rfl, h⟩ := h
  refine ⟨ad, cap, rfl, ?_⟩
  by_cases h0 : ns = []
  · exact Or.inl h0
  · obtain ⟨g, rfl, _, hr⟩ := h.resolve_left (fun e => h0 (List.length_eq_zero_iff.1 e))
    exact Or.inr ⟨g, 0, rfl, hr.lt, hr.insAt⟩

set_option maxRecDepth 100000 in
theorem eqInsS_none (ad ad' : Option Addr) (cap cap' : Nat) (w : World) :
    Calls Tryd.prog 9 #[.slice ad 0 cap, .slice ad' 0 cap'] w fun e w' => e = .returned (.bool true) ∧ Below w.heap.size w w' := by
  go_enter Tryd.func9, Tryd.ntmps9
  go_wp2
  refine wp_loop_rounds 1 ?_
  rw [rounds_succ]
  go_wp2
  go_ret
  exact ⟨rfl, Below.refl _ _⟩

set_option maxHeartbeats 1000000 in
set_option maxRecDepth 100000 in
theorem eqInsS_rows (b off b' off' len cap cap' : Nat) (ns : List In) (w : World) (hb : b < w.heap.size) (hb' : b' < w.heap.size) (hn : InsAt w b off ns) (hn' : InsAt w b' off' ns) (hl : len = ns.length) (hm : len ≤ 1048576) :
    Calls Tryd.prog 9 #[.slice (some ⟨b, off, none⟩) len cap, .slice (some ⟨b', off', none⟩) len cap'] w fun e w' => e = .returned (.bool true) ∧ Below w.heap.size w w' := by
  have HM : Hid (len ≤ 1048576) := hm
  have HL : Hid (len = ns.length) := hl
  have HN : Hid (InsAt w b off ns ∧ InsAt w b' off' ns) := ⟨hn, hn'⟩
  clear hm hl hn hn'
  go_enter Tryd.func9, Tryd.ntmps9
  go_wp2_with fail
  go_loopw [5] (fun i wr => ∃ k : Nat, k ≤ len ∧ i = .int .i64 k ∧ Below w.heap.size w wr) (fun i _ => len - (intOf i).toNat)
  case atStart => exact ⟨0, Nat.zero_le _, rfl, Below.refl _ _⟩
  case round =>
    obtain ⟨k, hk, rfl, hnx⟩ := hrel
    by_cases hkl : (k : Int) < (len : Int)
    · have hkn : k < ns.length := by rw [← HL.out]; omega
      have hcell := fun c (hc : c < 4) => (hnx.cell (p := ⟨b, off + k * 4 + c, none⟩) hb).trans (HN.out.1 k hkn c hc)
      have hcell' := fun c (hc : c < 4) => (hnx.cell (p := ⟨b', off' + k * 4 + c, none⟩) hb').trans (HN.out.2 k hkn c hc)
      generalize ns.getD k default = n at hcell hcell'
      have c0 := hcell 0 (by omega)
      have c1 := hcell 1 (by omega)
      have c2 := hcell 2 (by omega)
      have c3 := hcell 3 (by omega)
      have d0 := hcell' 0 (by omega)
      have d1 := hcell' 1 (by omega)
      have d2 := hcell' 2 (by omega)
      have d3 := hcell' 3 (by omega)
      simp only [In.cell, Nat.add_zero] at c0 c1 c2 c3 d0 d1 d2 d3
      clear hcell hcell' hkn
      have hi0 : (0 : Int) ≤ (k : Int) := by omega
      go_wp2_with fail
      go_region_with (go_at_call 20; refine (eqIns_calls _ _ _ _ _).mono ?_; rintro e w1 ⟨rfl, hb1⟩)
      all_goals
        have hb2 := hnx.drew.trans (hb1.mono hnx.size)
        clear hb1 c0 c1 c2 c3 d0 d1 d2 d3
        go_wp2_with fail
        have hs : len - (intOf (.int .i64 ((k + 1 : Nat) : Int))).toNat < len - (intOf (.int .i64 (k : Int))).toNat := by simp only [intOf, Int.toNat_natCast]; omega
        try rw [wrap_one (by omega) HM.out]
        exact ⟨⟨k + 1, by omega, rfl, hb2⟩, hs⟩
    · go_wp2_with fail
      go_ret
      exact ⟨rfl, hnx⟩

theorem eqInsS_any {v v' : Value} {ns : List In} (w : World) (hm : ns.length ≤ 1048576) (h : InsSlice w v ns) (h' : InsSlice w v' ns) :
    Calls Tryd.prog 9 #[v, v'] w fun e w' => e = .returned (.bool true) ∧ Below w.heap.size w w' := by
  obtain ⟨ad, cap, rfl, h⟩ := h
  obtain ⟨ad', cap', rfl, h'⟩ := h'
  by_cases h0 : ns = []
  · subst h0
    exact eqInsS_none ad ad' cap cap' w
  · obtain ⟨g, o, rfl, hb, hr⟩ := h.resolve_left h0
    obtain ⟨g', o', rfl, hb', hr'⟩ := h'.resolve_left h0
    exact eqInsS_rows g o g' o' _ cap cap' ns w hb hb' hr hr' rfl hm
end Go.Proofs.YtfmkgppkgmjpfaaDoor
