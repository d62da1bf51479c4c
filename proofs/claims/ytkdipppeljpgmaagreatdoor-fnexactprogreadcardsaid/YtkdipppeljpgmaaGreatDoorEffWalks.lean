/- Lists of operations as they lie in memory: what the laws' own helpers do to them. -/
import Derived.Test.YtkdipppeljpgmaaGreatDoorNodeArgs
namespace Go.Proofs.YtkdipppeljpgmaaGreatDoor
open Go.RowKit Go.Deep Go.ChangeShapes Go.WideShapes

/-- An operation as a plain value. -/
structure Ef where
  name : ByteArray
  arg : Int
  res : Int

instance : Inhabited Ef := ⟨⟨ByteArray.empty, 0, 0⟩⟩

def Ef.cell (n : Ef) : Nat → Value
  | 0 => .string n.name
  | 1 => .int .i64 n.arg
  | _ => .int .i64 n.res

def EffsAt (w : World) (b off : Nat) (es : List Ef) : Prop :=
  ∀ k, k < es.length → ∀ c, c < 3 → w.cell? ⟨b, off + k * 3 + c, none⟩ = some ((es.getD k default).cell c)

def EfShort (es : List Ef) : Prop := ∀ n ∈ es, n.name.size ≤ maxLen

theorem EffsAt.below {w w' : World} {b off B : Nat} {es : List Ef} (h : EffsAt w b off es) (hb : Below B w w') (hB : b < B) : EffsAt w' b off es :=
  fun k hk c hc => (hb.cell hB).trans (h k hk c hc)

theorem EfShort.at {es : List Ef} (h : EfShort es) {k : Nat} (hk : k < es.length) : (es.getD k default).name.size ≤ maxLen := by
  have e : es.getD k default = es[k] := by simp [List.getD, List.getElem?_eq_getElem hk]
  rw [e]
  exact h _ (List.getElem_mem hk)

set_option maxRecDepth 100000 in
theorem eqEff_calls (a : ByteArray) (x y : Int) (w : World) :
    Calls Tryz.prog 49 #[.agg #[.string a, .int .i64 x, .int .i64 y], .agg #[.string a, .int .i64 x, .int .i64 y]] w fun e w' => e = .returned (.bool true) ∧ Below w.heap.size w w' := by
  go_enter Tryz.func49, Tryz.ntmps49
  go_wp2
  go_ret
  exact ⟨rfl, by repeat (first | exact Below.refl _ _ | refine Below.alloc ?_ (by first | (simp; done) | (simp; omega)) _)⟩

theorem info_eff : (Tryz.prog.info? 59).map (fun i => (i.zero, i.size, i.bytes)) = some (some (.agg #[.string ByteArray.empty, .int .i64 0, .int .i64 0]), 3, 32) := by kernel_rfl

theorem made_effs (len : Nat) (hl : len ≤ 1048576) (w : World) : ∃ c : Array Value, c.size = len * 3 ∧
    (Instr.makeSlice 22 (.int .i64 (len : Int)) (.int .i64 (len : Int))).run Tryz.prog w = .ok (.slice (some ⟨w.heap.size, 0, none⟩) len len) (w.alloc (.cells c 59)) := by
  obtain ⟨i0, hi, hz0, hz1, hz2⟩ := info_parts info_eff
  have h := run_make (P := Tryz.prog) w 22 59 i0 _ Tryz.underlying22 hi hz0 .i64 .i64 len len (by omega) (Int.le_refl _) (by rw [hz2]; omega) (by omega)
  rw [hz1] at h
  simp only [Int.toNat_natCast] at h
  exact ⟨_, size_madeCells _ _, h⟩

theorem copy_eff {w1 : World} {B t N k : Nat} {f : Nat → Value} {es : List Ef} {n : Ef} (h : w1.rowIs B t N f) (hf : ∀ j, j < k → ∀ c, c < 3 → f (j * 3 + c) = (es.getD j default).cell c) (hn : es.getD k default = n) :
    ∃ f', (((w1.setCell ⟨B, k * 3, none⟩ (.string n.name)).setCell ⟨B, k * 3 + 1, none⟩ (.int .i64 n.arg)).setCell ⟨B, k * 3 + 2, none⟩ (.int .i64 n.res)).rowIs B t N f' ∧
      ∀ j, j < k + 1 → ∀ c, c < 3 → f' (j * 3 + c) = (es.getD j default).cell c := by
  refine ⟨_, ((h.set _ _).set _ _).set _ _, fun j hj c hc => ?_⟩
  by_cases hjk : j < k
  · rw [if_neg (by omega), if_neg (by omega), if_neg (by omega)]
    exact hf j hjk c hc
  · have e : j = k := by omega
    subst e
    rw [hn]
    match c, hc with
    | 0, _ => rw [if_neg (by omega), if_neg (by omega), if_pos (by omega)]; rfl
    | 1, _ => rw [if_neg (by omega), if_pos (by omega)]; rfl
    | 2, _ => rw [if_pos (by omega)]; rfl

set_option maxRecDepth 100000 in
theorem eqEffS_calls (b off b' off' len cap cap' : Nat) (es : List Ef) (w : World) (hb : b < w.heap.size) (hb' : b' < w.heap.size) (hn : EffsAt w b off es) (hn' : EffsAt w b' off' es) (hl : len ≤ es.length) (hm : len ≤ 1048576) :
    Calls Tryz.prog 20 #[.slice (some ⟨b, off, none⟩) len cap, .slice (some ⟨b', off', none⟩) len cap'] w fun e w' => e = .returned (.bool true) ∧ Below w.heap.size w w' := by
  go_enter Tryz.func20, Tryz.ntmps20
  go_wp2_with fail
  go_loopw [5] (fun i wr => ∃ k : Nat, k ≤ len ∧ i = .int .i64 k ∧ Below w.heap.size w wr) (fun i _ => len - (intOf i).toNat)
  case atStart => exact ⟨0, Nat.zero_le _, rfl, Below.refl _ _⟩
  case round =>
    obtain ⟨k, hk, rfl, hnx⟩ := hrel
    by_cases hkl : k < len
    · have hcell := fun c (hc : c < 3) => (hnx.cell (p := ⟨b, off + k * 3 + c, none⟩) hb).trans (hn k (by omega) c hc)
      have hcell' := fun c (hc : c < 3) => (hnx.cell (p := ⟨b', off' + k * 3 + c, none⟩) hb').trans (hn' k (by omega) c hc)
      obtain ⟨n, hnd⟩ : ∃ n, es.getD k default = n := ⟨_, rfl⟩
      rw [hnd] at hcell hcell'
      have c0 := hcell 0 (by omega)
      have c1 := hcell 1 (by omega)
      have c2 := hcell 2 (by omega)
      have d0 := hcell' 0 (by omega)
      have d1 := hcell' 1 (by omega)
      have d2 := hcell' 2 (by omega)
      simp only [Ef.cell, Nat.add_zero] at c0 c1 c2 d0 d1 d2
      clear hcell hcell' hn hn' hnd
      have hi : (k : Int) < (len : Int) := by omega
      have hi0 : (0 : Int) ≤ (k : Int) := by omega
      go_wp2_with fail
      go_region_with (go_at_call 49; refine (eqEff_calls _ _ _ _).mono ?_; rintro e w1 ⟨rfl, hb1⟩)
      all_goals
        have hb2 := hnx.drew.trans (hb1.mono hnx.size)
        clear hb1 c0 c1 c2 d0 d1 d2
        go_wp2_with fail
        exact ⟨⟨k + 1, by omega, by simp, hb2⟩, by simp [intOf]; omega⟩
    · go_wp2_with fail
      go_ret
      exact ⟨rfl, hnx⟩
end Go.Proofs.YtkdipppeljpgmaaGreatDoor
