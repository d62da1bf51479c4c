/- Lists of operations as they lie in memory: what the laws' own helpers do to them. -/
import Derived.Test.YtgiejnmphfgmgaaGreatDoorNodeArgs
namespace Go.Proofs.YtgiejnmphfgmgaaGreatDoor
open Go.RowKit Go.Deep Go.ChangeShapes Go.WideShapes

/-- An operation as a plain value. -/
structure Ef where
  name : ByteArray
  arg : Int
  res : Int

instance : Inhabited Ef := ⟨⟨ByteArray.empty, 0, 0⟩⟩

def Ef.cell (n : Ef) : Nat → Value
  | 0 => .string n.name
  | 1 => .int .i64 n.arg
  | _ => .int .i64 n.res

def EffsAt (w : World) (b off : Nat) (es : List Ef) : Prop :=
  ∀ k, k < es.length → ∀ c, c < 3 → w.cell? ⟨b, off + k * 3 + c, none⟩ = some ((es.getD k default).cell c)

def EfShort (es : List Ef) : Prop := ∀ n ∈ es, n.name.size ≤ maxLen

theorem EffsAt.below {w w' : World} {b off B : Nat} {es : List Ef} (h : EffsAt w b off es) (hb : Below B w w') (hB : b < B) : EffsAt w' b off es :=
  fun k hk c hc => (hb.cell hB).trans (h k hk c hc)

theorem EfShort.at {es : List Ef} (h : EfShort es) {k : Nat} (hk : k < es.length) : (es.getD k default).name.size ≤ maxLen := by
  have e : es.getD k default = es[k] := by simp [List.getD, List.getElem?_eq_getElem hk]
  rw [e]
  exact h _ (List.getElem_mem hk)

set_option maxRecDepth 100000 in
theorem szEff_calls (a : ByteArray) (x y : Int) (left : Int) (w : World) (h0 : 0 ≤ left) (h1 : left ≤ 1048576) (ha : a.size ≤ maxLen) :
    Calls Tryz.prog 32 #[.agg #[.string a, .int .i64 x, .int .i64 y], .int .i64 left] w fun e w' => (∃ r : Int, e = .returned (.int .i64 r) ∧ -1 ≤ r ∧ r ≤ left) ∧ Below w.heap.size w w' := by
  have H1 : Hid (wrap64 (left - a.size) = left - a.size) := wrap_sub h0 h1 ha
  clear ha
  go_enter Tryz.func32, Tryz.ntmps32
  go_wp2
  · go_ret
    exact ⟨⟨_, rfl, by decide, by omega⟩, by repeat (first | exact Below.refl _ _ | refine Below.alloc ?_ (by first | (simp; done) | (simp; omega)) _)⟩
  · rename_i g1
    go_ret
    refine ⟨⟨_, rfl, by omega, ?_⟩, by repeat (first | exact Below.refl _ _ | refine Below.alloc ?_ (by first | (simp; done) | (simp; omega)) _)⟩
    rw [H1.out]
    omega

set_option maxRecDepth 100000 in
theorem toEff_calls (a : ByteArray) (x y : Int) (w : World) :
    Calls Tryz.prog 45 #[.agg #[.string a, .int .i64 x, .int .i64 y]] w fun e w' => e = .returned (.agg #[.string a, .int .i64 x, .int .i64 y]) ∧ Below w.heap.size w w' := by
  go_enter Tryz.func45, Tryz.ntmps45
  go_wp2
  refine bodyPost_ret (v := .agg #[.string a, .int .i64 x, .int .i64 y]) (by simp [results, Tryz.results45, go_sem]) rfl ⟨rfl, ?_⟩
  repeat (first | exact Below.refl _ _ | refine Below.alloc ?_ (by first | (simp; done) | (simp; omega)) _)

set_option maxRecDepth 100000 in
theorem eqEff_calls (a : ByteArray) (x y : Int) (w : World) :
    Calls Tryz.prog 65 #[.agg #[.string a, .int .i64 x, .int .i64 y], .agg #[.string a, .int .i64 x, .int .i64 y]] w fun e w' => e = .returned (.bool true) ∧ Below w.heap.size w w' := by
  go_enter Tryz.func65, Tryz.ntmps65
  go_wp2
  go_ret
  exact ⟨rfl, by repeat (first | exact Below.refl _ _ | refine Below.alloc ?_ (by first | (simp; done) | (simp; omega)) _)⟩

set_option maxRecDepth 100000 in
theorem szEffS_calls (b off len cap : Nat) (es : List Ef) (left : Int) (w : World) (hb : b < w.heap.size) (hn : EffsAt w b off es) (hs : EfShort es) (hl : len ≤ es.length) (hm : len ≤ maxLen) (h0 : 0 ≤ left) (h1 : left ≤ 1048576) :
    Calls Tryz.prog 13 #[.slice (some ⟨b, off, none⟩) len cap, .int .i64 left] w fun e w' => (∃ r : Int, e = .returned (.int .i64 r) ∧ r ≤ left ∧ (r < 0 ∨ len ≤ 1048576)) ∧ Below w.heap.size w w' := by
  have e1 := wrap_sub h0 h1 hm
  by_cases hbig : (left - (len : Int) < 0)
  · have H1 : (wrap64 (left - (len : Int)) < 0) := by rw [e1]; exact hbig
    clear e1
    go_enter Tryz.func13, Tryz.ntmps13
    go_wp2
    go_ret
    exact ⟨⟨_, rfl, by omega, Or.inl (by omega)⟩, Below.refl _ _⟩
  have hlen : len ≤ 1048576 := by omega
  clear e1
  go_enter Tryz.func13, Tryz.ntmps13
  go_wp2
  go_loopw [1, 5] (fun l i wr => ∃ k : Nat, k ≤ len ∧ i = .int .i64 k ∧ Below w.heap.size w wr ∧ ∃ q : Int, l = .int .i64 q ∧ 0 ≤ q ∧ q ≤ left) (fun _ i _ => len - (intOf i).toNat)
  case atStart => exact ⟨0, Nat.zero_le _, rfl, Below.refl _ _, _, rfl, by omega, by omega⟩
  case round =>
    obtain ⟨k, hk, rfl, hnx, q, rfl, hq0, hq1⟩ := hrel
    by_cases hkl : k < len
    · have hcell := fun c (hc : c < 3) => (hnx.cell (p := ⟨b, off + k * 3 + c, none⟩) hb).trans (hn k (by omega) c hc)
      have hsh := hs.at (k := k) (by omega)
      obtain ⟨n, hnd⟩ : ∃ n, es.getD k default = n := ⟨_, rfl⟩
      rw [hnd] at hcell hsh
      have c0 := hcell 0 (by omega)
      have c1 := hcell 1 (by omega)
      have c2 := hcell 2 (by omega)
      simp only [Ef.cell, Nat.add_zero] at c0 c1 c2
      clear hcell hnd hn hs
      go_wp2_with fail
      refine (szEff_calls _ _ _ q _ hq0 (by omega) hsh).mono ?_
      rintro e w1 ⟨⟨r, rfl, hr0, hr1⟩, hb1⟩
      clear c0 c1 c2 hsh
      go_wp2_with fail
      · go_ret
        exact ⟨⟨_, rfl, by omega, Or.inl (by omega)⟩, hnx.trans (hb1.mono hnx.size)⟩
      · go_roundw
        case rel => exact ⟨k + 1, by omega, by simp, hnx.trans (hb1.mono hnx.size), r, rfl, by omega, by omega⟩
        case measure => simp [intOf]; omega
    · go_wp2_with fail
      go_ret
      exact ⟨⟨_, rfl, hq1, Or.inr hlen⟩, hnx⟩

theorem info_eff : (Tryz.prog.info? 78).map (fun i => (i.zero, i.size, i.bytes)) = some (some (.agg #[.string ByteArray.empty, .int .i64 0, .int .i64 0]), 3, 32) := by kernel_rfl

theorem made_effs (len : Nat) (hl : len ≤ 1048576) (w : World) : ∃ c : Array Value, c.size = len * 3 ∧
    (Instr.makeSlice 30 (.int .i64 (len : Int)) (.int .i64 (len : Int))).run Tryz.prog w = .ok (.slice (some ⟨w.heap.size, 0, none⟩) len len) (w.alloc (.cells c 78)) := by
  obtain ⟨i0, hi, hz0, hz1, hz2⟩ := info_parts info_eff
  have h := run_make (P := Tryz.prog) w 30 78 i0 _ Tryz.underlying30 hi hz0 .i64 .i64 len len (by omega) (Int.le_refl _) (by rw [hz2]; omega) (by omega)
  rw [hz1] at h
  simp only [Int.toNat_natCast] at h
  exact ⟨_, size_madeCells _ _, h⟩

theorem copy_eff {w1 : World} {B t N k : Nat} {f : Nat → Value} {es : List Ef} {n : Ef} (h : w1.rowIs B t N f) (hf : ∀ j, j < k → ∀ c, c < 3 → f (j * 3 + c) = (es.getD j default).cell c) (hn : es.getD k default = n) :
    ∃ f', (((w1.setCell ⟨B, k * 3, none⟩ (.string n.name)).setCell ⟨B, k * 3 + 1, none⟩ (.int .i64 n.arg)).setCell ⟨B, k * 3 + 2, none⟩ (.int .i64 n.res)).rowIs B t N f' ∧
      ∀ j, j < k + 1 → ∀ c, c < 3 → f' (j * 3 + c) = (es.getD j default).cell c := by
  refine ⟨_, ((h.set _ _).set _ _).set _ _, fun j hj c hc => ?_⟩
  by_cases hjk : j < k
  · rw [if_neg (by omega), if_neg (by omega), if_neg (by omega)]
    exact hf j hjk c hc
  · have e : j = k := by omega
    subst e
    rw [hn]
    match c, hc with
    | 0, _ => rw [if_neg (by omega), if_neg (by omega), if_pos (by omega)]; rfl
    | 1, _ => rw [if_neg (by omega), if_pos (by omega)]; rfl
    | 2, _ => rw [if_pos (by omega)]; rfl

set_option maxRecDepth 100000 in
theorem toEffS_calls (b off len cap : Nat) (es : List Ef) (w : World) (hb : b < w.heap.size) (hn : EffsAt w b off es) (hl : len ≤ es.length) (hm : len ≤ 1048576) :
    Calls Tryz.prog 20 #[.slice (some ⟨b, off, none⟩) len cap] w fun e w' => e = .returned (.slice (some ⟨w.heap.size, 0, none⟩) len len) ∧ EffsAt w' w.heap.size 0 (es.take len) ∧ w.heap.size < w'.heap.size ∧ Below w.heap.size w w' := by
  obtain ⟨c, hcs, hmk⟩ := made_effs len hm w
  have hrow := World.rowIs_alloc w c 78 (fun i => c.getD i undef) (fun i hi => by simp [hi])
  rw [hcs] at hrow
  go_enter Tryz.func20, Tryz.ntmps20
  go_wp2_with fail
  clear hmk
  go_loopw [4] (fun i wr => ∃ (k : Nat) (f : Nat → Value), k ≤ len ∧ i = .int .i64 k ∧ wr.rowIs w.heap.size 78 (len * 3) f ∧ (∀ j, j < k → ∀ c, c < 3 → f (j * 3 + c) = (es.getD j default).cell c) ∧ Below w.heap.size w wr) (fun i _ => len - (intOf i).toNat)
  case atStart => exact ⟨0, _, Nat.zero_le _, rfl, hrow, fun j hj => by omega, (Below.refl _ _).alloc (Nat.le_refl _) _⟩
  case round =>
    obtain ⟨k, f, hk, rfl, hown, hf, hnx⟩ := hrel
    by_cases hkl : k < len
    · have hcell := fun c (hc : c < 3) => (hnx.cell (p := ⟨b, off + k * 3 + c, none⟩) hb).trans (hn k (by omega) c hc)
      obtain ⟨n, hnd⟩ : ∃ n, es.getD k default = n := ⟨_, rfl⟩
      rw [hnd] at hcell
      have c0 := hcell 0 (by omega)
      have c1 := hcell 1 (by omega)
      have c2 := hcell 2 (by omega)
      simp only [Ef.cell, Nat.add_zero] at c0 c1 c2
      have Hf : Hid (∀ j, j < k → ∀ c, c < 3 → f (j * 3 + c) = (es.getD j default).cell c) := hf
      have Hnd : Hid (es.getD k default = n) := hnd
      clear hcell hn hf hnd
      go_wp2_with fail
      refine (toEff_calls _ _ _ _).mono ?_
      rintro e w1 ⟨rfl, hb1⟩
      clear c0 c1 c2
      have hown1 := hown.of_block (hb1.block w.heap.size hown.lt)
      have hnx1 := hnx.trans (hb1.mono hnx.size)
      have q0 := hown1.cell (i := k * 3) (by omega)
      have q1 := hown1.cell (i := k * 3 + 1) (by omega)
      have q2 := hown1.cell (i := k * 3 + 2) (by omega)
      have z0 := hown1.frozen (k * 3)
      have z1 := hown1.frozen (k * 3 + 1)
      have z2 := hown1.frozen (k * 3 + 2)
      clear hown hnx hb1
      go_wp2_with fail
      obtain ⟨f', hr', hf'⟩ := copy_eff hown1 Hf.out Hnd.out
      refine ⟨⟨k + 1, f', by omega, by simp, hr', hf', ?_⟩, by simp [intOf]; omega⟩
      exact ((hnx1.setCell (by simp) _).setCell (by simp) _).setCell (by simp) _
    · go_wp2_with fail
      go_ret
      refine ⟨rfl, ?_, hown.lt, hnx⟩
      intro j hj c hc
      have hj' : j < len := by simp at hj; omega
      have := hown.cell (i := j * 3 + c) (by omega)
      rw [hf j (by omega) c hc] at this
      simp only [Nat.zero_add]
      rw [this]
      simp [List.getD, hj']

set_option maxRecDepth 100000 in
theorem eqEffS_calls (b off b' off' len cap cap' : Nat) (es : List Ef) (w : World) (hb : b < w.heap.size) (hb' : b' < w.heap.size) (hn : EffsAt w b off es) (hn' : EffsAt w b' off' es) (hl : len ≤ es.length) (hm : len ≤ 1048576) :
    Calls Tryz.prog 28 #[.slice (some ⟨b, off, none⟩) len cap, .slice (some ⟨b', off', none⟩) len cap'] w fun e w' => e = .returned (.bool true) ∧ Below w.heap.size w w' := by
  go_enter Tryz.func28, Tryz.ntmps28
  go_wp2_with fail
  go_loopw [5] (fun i wr => ∃ k : Nat, k ≤ len ∧ i = .int .i64 k ∧ Below w.heap.size w wr) (fun i _ => len - (intOf i).toNat)
  case atStart => exact ⟨0, Nat.zero_le _, rfl, Below.refl _ _⟩
  case round =>
    obtain ⟨k, hk, rfl, hnx⟩ := hrel
    by_cases hkl : k < len
    · have hcell := fun c (hc : c < 3) => (hnx.cell (p := ⟨b, off + k * 3 + c, none⟩) hb).trans (hn k (by omega) c hc)
      have hcell' := fun c (hc : c < 3) => (hnx.cell (p := ⟨b', off' + k * 3 + c, none⟩) hb').trans (hn' k (by omega) c hc)
      obtain ⟨n, hnd⟩ : ∃ n, es.getD k default = n := ⟨_, rfl⟩
      rw [hnd] at hcell hcell'
      have c0 := hcell 0 (by omega)
      have c1 := hcell 1 (by omega)
      have c2 := hcell 2 (by omega)
      have d0 := hcell' 0 (by omega)
      have d1 := hcell' 1 (by omega)
      have d2 := hcell' 2 (by omega)
      simp only [Ef.cell, Nat.add_zero] at c0 c1 c2 d0 d1 d2
      clear hcell hcell' hn hn' hnd
      have hi : (k : Int) < (len : Int) := by omega
      have hi0 : (0 : Int) ≤ (k : Int) := by omega
      go_wp2_with fail
      go_region_with (go_at_call 65; refine (eqEff_calls _ _ _ _).mono ?_; rintro e w1 ⟨rfl, hb1⟩)
      all_goals
        have hb2 := hnx.drew.trans (hb1.mono hnx.size)
        clear hb1 c0 c1 c2 d0 d1 d2
        go_wp2_with fail
        exact ⟨⟨k + 1, by omega, by simp, hb2⟩, by simp [intOf]; omega⟩
    · go_wp2_with fail
      go_ret
      exact ⟨rfl, hnx⟩
end Go.Proofs.YtgiejnmphfgmgaaGreatDoor
