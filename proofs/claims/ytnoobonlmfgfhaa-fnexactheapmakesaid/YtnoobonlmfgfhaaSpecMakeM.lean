/- The specification makes an object. -/
import Derived.Test.YtnoobonlmfgfhaaImplMakeM
import Derived.Test.YtnoobonlmfgfhaaSpecWkAll
import Derived.BigQuiet
namespace Go.Proofs.Ytnoobonlmfgfhaa
open Go.RowKit

/-- What making an object comes to on the specification's side. -/
def SNewPost (W : World) (bm bw N cap g n gf : Nat) (o : Option (List Int × CN)) (e : Ending) (w' : World) : Prop :=
  match o with
  | some (rs, s) => e = .returned (.int .i64 (makeZ 0 s.h.top)) ∧ Wk w' bm bw N cap s false w' ∧ CellRow 3 w' g n (intCells rs) ∧ Frm4 W bm bw g gf w'
  | none => e = .returned (.int .i64 0) ∧ (∃ s, Wk w' bm bw N cap s true w') ∧ Frm4 W bm bw g gf w'

/-- What looking through so many has come to. -/
def ScanInv (W : World) (bm bw N cap : Nat) (o : Option CN) (X : World) : Prop :=
  match o with
  | some s => Wk W bm bw N cap s false X
  | none => ∃ s, Wk W bm bw N cap s true X

/-- Fields moved, k of them, behind a change of spaces. -/
def fieldsO (o : Option (List Int × CN)) (fs : List Int) (k : Nat) : Option (List Int × CN) :=
  match o with
  | none => none
  | some (_, s) => movesRun fs k s

/-- The roots behind a change of spaces. -/
def rsO (o : Option (List Int × CN)) : List Int :=
  match o with
  | none => []
  | some (rs, _) => rs

theorem fieldsO_none {o : Option (List Int × CN)} {fs : List Int} {k : Nat} (h : fieldsO o fs k = none) : fieldsO o fs (k + 1) = none := by
  cases o with
  | none => rfl
  | some p => exact movesRun_none h 1

theorem fieldsO_more {o : Option (List Int × CN)} {fs ys : List Int} {s' s'' : CN} {k : Nat} {y : Int} (h : fieldsO o fs k = some (ys, s')) (he : moveZ s' (ys.getD k 0) = (some y, s'')) : fieldsO o fs (k + 1) = some (ys.set k y, s'') := by
  cases o with
  | none => cases h
  | some p => exact movesRun_more h he

theorem fieldsO_stop {o : Option (List Int × CN)} {fs ys : List Int} {s' s'' : CN} {k : Nat} (h : fieldsO o fs k = some (ys, s')) (he : moveZ s' (ys.getD k 0) = (none, s'')) : fieldsO o fs (k + 1) = none := by
  cases o with
  | none => cases h
  | some p => exact movesRun_stop h he

/-- What is made of the fields that were moved. -/
def endZ (kind : Int) (n : Nat) (rs : List Int) : Option (List Int × CN) → Option (List Int × CN)
  | none => none
  | some (fs, s) => if s.h.top - s.h.bottom < n then none else some (rs, putZ kind fs s)

set_option maxHeartbeats 16000000 in
set_option maxRecDepth 100000 in
theorem sMake_full {W : World} {bm bw N cap g n gc gf nf fc m : Nat} {kind mi : Int} (n1 : Int) (hn1 : wrap64 (1 + (nf : Int)) = n1) (Hmi : Hid (mi = (m : Int) ∧ m ≤ 20)) (s0 : CN) (HW : Hid (Wk W bm bw N cap s0 false W))
    (HSc : Hid (∀ (k : Nat) (X : World), k < m → ScanInv W bm bw N cap (scanRun k s0) X → Calls Try.prog 56 #[.pointer (some ⟨bm, 0, none⟩)] X fun e w' => e = .returned (.tuple #[]) ∧ ScanInv W bm bw N cap (scanRun (k + 1) s0) w'))
    (hsn : scanRun m s0 = none) :
    Calls Try.prog 44 #[.pointer (some ⟨bm, 0, none⟩), .slice (some ⟨g, 0, none⟩) n gc, .int .i64 kind, .slice (some ⟨gf, 0, none⟩) nf fc, .int .i64 mi] W (SNewPost W bm bw N cap g n gf none) := by
  have hn0 := hn1
  have Hn1 := hid hn1
  clear hn1
  go_enter Try.func44, Try.ntmps44
  go_wp2_with fail
  go_loopw [11] (fun i wr => ∃ (ii : Int) (k : Nat), i = .int .i64 ii ∧ Hid (ii = (k : Int) ∧ k ≤ m) ∧ Hid (ScanInv W bm bw N cap (scanRun k s0) wr)) (fun i _ => m - (intOf i).toNat)
  case atStart => exact ⟨0, 0, rfl, ⟨rfl, by omega⟩, HW.out⟩
  case round =>
    obtain ⟨ii, k, rfl, HQ, HI⟩ := hrel
    clear HW
    by_cases hlt : ii < mi
    · have hkm : k < m := by have := HQ.out; have := Hmi.out; omega
      have hs : Hid (m - (intOf (.int .i64 (ii + 1))).toNat < m - (intOf (.int .i64 ii)).toNat) := by have := HQ.out; show _ < _; simp only [intOf]; omega
      have hw : Hid (wrap64 (ii + 1) = ii + 1) := by have := HQ.out; have := Hmi.out; show _ = _; unfold wrap64; omega
      have HS1 := hid (HSc.out k wr hkm HI.out)
      clear HI
      go_wp2_with fail
      refine HS1.out.mono ?_
      rintro e W1 ⟨rfl, hC1⟩
      have HC1 := hid hC1
      clear hC1 HS1
      go_wp2_with fail
      rw [hw.out]
      exact ⟨⟨ii + 1, k + 1, rfl, ⟨by have := HQ.out; push_cast; omega, by omega⟩, HC1.out⟩, hs.out⟩
    have hkm : k = m := by have := HQ.out; have := Hmi.out; omega
    subst hkm
    rename World => W1
    rw [hsn] at HI
    obtain ⟨s1, hC⟩ := HI.out
    have HC1 := hid hC
    obtain ⟨-, -, -, c3, c4, c5, -, -, -, -, c10⟩ := hC.blk.cells
    clear hC HI hsn
    obtain ⟨tp, htp⟩ : ∃ tp, s1.h.top = tp := ⟨_, rfl⟩
    obtain ⟨bt, hbt⟩ : ∃ bt, s1.h.bottom = bt := ⟨_, rfl⟩
    obtain ⟨sc, hsc⟩ : ∃ sc, s1.h.scan = sc := ⟨_, rfl⟩
    rw [htp] at c4
    rw [hbt] at c3
    rw [hsc] at c5
    clear htp hbt hsc
    obtain ⟨ai, hai⟩ : ∃ ai, wrap64 (tp - n1) = ai := ⟨_, rfl⟩
    have hq : decide (ai < bt) = false ∨ (decide (ai < bt) = true ∧ (sc == bt) = false) ∨ (decide (ai < bt) = true ∧ (sc == bt) = true) := by
      cases decide (ai < bt) <;> cases (sc == bt) <;> simp
    rcases hq with hd | ⟨hd, he⟩ | ⟨hd, he⟩
    all_goals
      go_wp2_with fail
      go_quiet (fail)
      have HC := hid (HC1.out.keep (below_drewN (Below.refl _ _) nq))
      have d3 : (W1.drewN nq).cell? ⟨bm, 3, none⟩ = _ := c3
      have d4 : (W1.drewN nq).cell? ⟨bm, 4, none⟩ = _ := c4
      have d10 : (W1.drewN nq).cell? ⟨bm, 10, none⟩ = _ := c10
      clear c3 c4 c5 c10 HC1
      generalize W1.drewN nq = W2 at *
      clear nq
      have HCd := hid (fun nq => (HC.out.keep (below_drewN (Below.refl _ _) nq)).filled true)
      have f10 := fun nq => frozen_of_heap (HC.out.keep (below_drewN (Below.refl _ _) nq)).blk 10
      have c10' := fun nq => (HC.out.keep (below_drewN (Below.refl _ _) nq)).blk.cells.2.2.2.2.2.2.2.2.2.2
      clear HC
      go_wp2_with fail
      go_quiet (fail)
      have HCe := hid (HCd.out nq)
      have f10' := f10 nq
      have c10'' := c10' nq
      clear f10 d3 d4 d10 c10' HCd
      generalize W2.drewN nq = We at *
      go_wp2_with fail
      go_ret
      exact ⟨rfl, ⟨s1, HCe.out.rebase _ (Frm.refl _ _ _)⟩, HCe.out.frame.four _ _⟩

set_option maxHeartbeats 16000000 in
set_option maxRecDepth 100000 in
theorem sMake_late {W : World} {bm bw N cap g n gc gf nf fc m : Nat} {kind mi : Int} (n1 : Int) (hn1 : wrap64 (1 + (nf : Int)) = n1) (Hmi : Hid (mi = (m : Int) ∧ m ≤ 20)) (s0 : CN) (HW : Hid (Wk W bm bw N cap s0 false W))
    (HSc : Hid (∀ (k : Nat) (X : World), k < m → ScanInv W bm bw N cap (scanRun k s0) X → Calls Try.prog 56 #[.pointer (some ⟨bm, 0, none⟩)] X fun e w' => e = .returned (.tuple #[]) ∧ ScanInv W bm bw N cap (scanRun (k + 1) s0) w'))
    (s1 : CN) (hsn : scanRun m s0 = some s1) (ai : Int) (hai : wrap64 (s1.h.top - n1) = ai) (hd : decide (ai < s1.h.bottom) = true) (hne : (s1.h.scan == s1.h.bottom) = false) :
    Calls Try.prog 44 #[.pointer (some ⟨bm, 0, none⟩), .slice (some ⟨g, 0, none⟩) n gc, .int .i64 kind, .slice (some ⟨gf, 0, none⟩) nf fc, .int .i64 mi] W (SNewPost W bm bw N cap g n gf none) := by
  have hn0 := hn1
  have Hn1 := hid hn1
  clear hn1
  go_enter Try.func44, Try.ntmps44
  go_wp2_with fail
  go_loopw [11] (fun i wr => ∃ (ii : Int) (k : Nat), i = .int .i64 ii ∧ Hid (ii = (k : Int) ∧ k ≤ m) ∧ Hid (ScanInv W bm bw N cap (scanRun k s0) wr)) (fun i _ => m - (intOf i).toNat)
  case atStart => exact ⟨0, 0, rfl, ⟨rfl, by omega⟩, HW.out⟩
  case round =>
    obtain ⟨ii, k, rfl, HQ, HI⟩ := hrel
    clear HW
    by_cases hlt : ii < mi
    · have hkm : k < m := by have := HQ.out; have := Hmi.out; omega
      have hs : Hid (m - (intOf (.int .i64 (ii + 1))).toNat < m - (intOf (.int .i64 ii)).toNat) := by have := HQ.out; show _ < _; simp only [intOf]; omega
      have hw : Hid (wrap64 (ii + 1) = ii + 1) := by have := HQ.out; have := Hmi.out; show _ = _; unfold wrap64; omega
      have HS1 := hid (HSc.out k wr hkm HI.out)
      clear HI
      go_wp2_with fail
      refine HS1.out.mono ?_
      rintro e W1 ⟨rfl, hC1⟩
      have HC1 := hid hC1
      clear hC1 HS1
      go_wp2_with fail
      rw [hw.out]
      exact ⟨⟨ii + 1, k + 1, rfl, ⟨by have := HQ.out; push_cast; omega, by omega⟩, HC1.out⟩, hs.out⟩
    have hkm : k = m := by have := HQ.out; have := Hmi.out; omega
    subst hkm
    rename World => W1
    rw [hsn] at HI
    have HC1 : Hid (Wk W bm bw N cap s1 false W1) := HI.out
    obtain ⟨-, -, -, c3, c4, c5, -, -, -, -, c10⟩ := HC1.out.blk.cells
    clear HI hsn
    obtain ⟨tp, htp⟩ : ∃ tp, s1.h.top = tp := ⟨_, rfl⟩
    obtain ⟨bt, hbt⟩ : ∃ bt, s1.h.bottom = bt := ⟨_, rfl⟩
    obtain ⟨sc, hsc⟩ : ∃ sc, s1.h.scan = sc := ⟨_, rfl⟩
    rw [htp] at c4 hai
    rw [hbt] at c3 hd
    rw [hsc] at c5
    rw [hsc, hbt] at hne
    clear htp hbt hsc
    go_wp2_with fail
    go_quiet (fail)
    have HC := hid (HC1.out.keep (below_drewN (Below.refl _ _) nq))
    have d3 : (W1.drewN nq).cell? ⟨bm, 3, none⟩ = _ := c3
    have d4 : (W1.drewN nq).cell? ⟨bm, 4, none⟩ = _ := c4
    have d10 : (W1.drewN nq).cell? ⟨bm, 10, none⟩ = _ := c10
    clear c3 c4 c5 c10 HC1
    generalize W1.drewN nq = W2 at *
    clear nq
    have HCd := hid (fun nq => (HC.out.keep (below_drewN (Below.refl _ _) nq)).filled true)
    have f10 := fun nq => frozen_of_heap (HC.out.keep (below_drewN (Below.refl _ _) nq)).blk 10
    have c10' := fun nq => (HC.out.keep (below_drewN (Below.refl _ _) nq)).blk.cells.2.2.2.2.2.2.2.2.2.2
    clear HC
    go_wp2_with fail
    go_quiet (fail)
    have HCe := hid (HCd.out nq)
    have f10' := f10 nq
    have c10'' := c10' nq
    clear f10 d3 d4 d10 c10' HCd
    generalize W2.drewN nq = We at *
    go_wp2_with fail
    go_ret
    exact ⟨rfl, ⟨s1, HCe.out.rebase _ (Frm.refl _ _ _)⟩, HCe.out.frame.four _ _⟩

set_option maxHeartbeats 16000000 in
set_option maxRecDepth 100000 in
theorem sMake_room {W : World} {bm bw N cap g n gc gf nf fc m : Nat} {kind mi : Int} (n1 : Int) (hn1 : wrap64 (1 + (nf : Int)) = n1) (Hmi : Hid (mi = (m : Int) ∧ m ≤ 20)) (s0 : CN) (HW : Hid (Wk W bm bw N cap s0 false W))
    (HSc : Hid (∀ (k : Nat) (X : World), k < m → ScanInv W bm bw N cap (scanRun k s0) X → Calls Try.prog 56 #[.pointer (some ⟨bm, 0, none⟩)] X fun e w' => e = .returned (.tuple #[]) ∧ ScanInv W bm bw N cap (scanRun (k + 1) s0) w'))
    (fs rs : List Int) (hl : fs.length = nf) (HNf : Hid (nf = 2 ∨ nf = 5)) (HK : Hid (0 ≤ kind ∧ kind ≤ 15)) (hg1 : gf ≠ bm) (hg2 : gf ≠ bw) (hq1 : g ≠ bm) (hq2 : g ≠ bw)
    (HRf : Hid (CellRow 3 W gf nf (intCells fs))) (HRr : Hid (CellRow 3 W g n (intCells rs)))
    (s1 : CN) (hsn : scanRun m s0 = some s1) (ai : Int) (hai : wrap64 (s1.h.top - n1) = ai) (hd : decide (ai < s1.h.bottom) = false)
    (Hput : Hid (0 ≤ ai ∧ s1.h.top = ai + (1 + nf : Nat) ∧ s1.h.top ≤ (N : Int) ∧ N ≤ 8000)) :
    Calls Try.prog 44 #[.pointer (some ⟨bm, 0, none⟩), .slice (some ⟨g, 0, none⟩) n gc, .int .i64 kind, .slice (some ⟨gf, 0, none⟩) nf fc, .int .i64 mi] W (SNewPost W bm bw N cap g n gf (some (rs, putZ kind fs s1))) := by
  have hn0 := hn1
  have Hn1 := hid hn1
  clear hn1
  go_enter Try.func44, Try.ntmps44
  go_wp2_with fail
  go_loopw [11] (fun i wr => ∃ (ii : Int) (k : Nat), i = .int .i64 ii ∧ Hid (ii = (k : Int) ∧ k ≤ m) ∧ Hid (ScanInv W bm bw N cap (scanRun k s0) wr)) (fun i _ => m - (intOf i).toNat)
  case atStart => exact ⟨0, 0, rfl, ⟨rfl, by omega⟩, HW.out⟩
  case round =>
    obtain ⟨ii, k, rfl, HQ, HI⟩ := hrel
    clear HW
    by_cases hlt : ii < mi
    · have hkm : k < m := by have := HQ.out; have := Hmi.out; omega
      have hs : Hid (m - (intOf (.int .i64 (ii + 1))).toNat < m - (intOf (.int .i64 ii)).toNat) := by have := HQ.out; show _ < _; simp only [intOf]; omega
      have hw : Hid (wrap64 (ii + 1) = ii + 1) := by have := HQ.out; have := Hmi.out; show _ = _; unfold wrap64; omega
      have HS1 := hid (HSc.out k wr hkm HI.out)
      clear HI
      go_wp2_with fail
      refine HS1.out.mono ?_
      rintro e W1 ⟨rfl, hC1⟩
      have HC1 := hid hC1
      clear hC1 HS1
      go_wp2_with fail
      rw [hw.out]
      exact ⟨⟨ii + 1, k + 1, rfl, ⟨by have := HQ.out; push_cast; omega, by omega⟩, HC1.out⟩, hs.out⟩
    have hkm : k = m := by have := HQ.out; have := Hmi.out; omega
    subst hkm
    rename World => W1
    rw [hsn] at HI
    have HC1 : Hid (Wk W bm bw N cap s1 false W1) := HI.out
    obtain ⟨-, -, -, c3, c4, c5, -, -, -, -, c10⟩ := HC1.out.blk.cells
    clear HI hsn
    obtain ⟨tp, htp⟩ : ∃ tp, s1.h.top = tp := ⟨_, rfl⟩
    obtain ⟨bt, hbt⟩ : ∃ bt, s1.h.bottom = bt := ⟨_, rfl⟩
    obtain ⟨sc, hsc⟩ : ∃ sc, s1.h.scan = sc := ⟨_, rfl⟩
    rw [htp] at c4 hai
    rw [hbt] at c3 hd
    rw [hsc] at c5
    clear htp hbt hsc
    go_wp2_with fail
    go_quiet (fail)
    have HC := hid (HC1.out.keep (below_drewN (Below.refl _ _) nq))
    have d3 : (W1.drewN nq).cell? ⟨bm, 3, none⟩ = _ := c3
    have d4 : (W1.drewN nq).cell? ⟨bm, 4, none⟩ = _ := c4
    have d10 : (W1.drewN nq).cell? ⟨bm, 10, none⟩ = _ := c10
    clear c3 c4 c5 c10 HC1
    generalize W1.drewN nq = W2 at *
    clear nq
    have HCd := hid (fun nq => HC.out.keep (below_drewN (Below.refl _ _) nq))
    clear HC
    go_wp2_with fail
    go_quiet (fail)
    have HC4 := hid (HCd.out nq)
    have c4 : (W2.drewN nq).cell? ⟨bm, 4, none⟩ = _ := d4
    have f4 := frozen_of_heap HC4.out.blk 4
    have HC5 := hid (HC4.out.topSet ai)
    clear d3 d4 d10 HCd hd
    generalize W2.drewN nq = W3 at *
    clear nq
    obtain ⟨an, han⟩ : ∃ an : Nat, ai = (an : Int) := ⟨ai.toNat, by have := Hput.out; omega⟩
    have Han := hid han
    have hnn : Hid (n1 = ((1 + nf : Nat) : Int)) := by have := Hn1.out; have := HNf.out; show _ = _; unfold wrap64 at *; omega
    obtain ⟨hv, hhv⟩ : ∃ hv : Int, wrap64 (wrap64 (16 * n1) + kind) = hv := ⟨_, rfl⟩
    have Hhv : Hid (hv = ((1 + nf : Nat) : Int) * 16 + kind) := by have := hnn.out; have := HNf.out; have := HK.out; show _ = _; rw [← hhv]; unfold wrap64; omega
    obtain ⟨hw, hhw⟩ : ∃ hw : Int, wrap64 (16 * n1) = hw := ⟨_, rfl⟩
    rw [hhw] at hhv
    have HS4 : Hid (headZ kind (1 + nf) an s1 = ⟨s1.ws.set an hv, { s1.h with top := ai }, s1.r, s1.t + 1⟩) := by show _ = _; rw [Hhv.out, Han.out]; rfl
    have hanN : an < N := by have := Hput.out; have := Han.out; omega
    have HWr : Hid (Calls Try.prog 72 #[.pointer (some ⟨bm, 0, none⟩), .int .i64 ai, .int .i64 hv] (W3.setCell ⟨bm, 4, none⟩ (.int .i64 ai)) (fun e w' => e = .returned (.tuple #[]) ∧ Wk W bm bw N cap ⟨s1.ws.set an hv, { s1.h with top := ai }, s1.r, s1.t + 1⟩ false w')) := by
      have e := swrite_calls HC5.out hanN hv
      rw [← Han.out] at e
      exact e
    clear HC4 HC5 han
    go_wp2_with fail
    refine HWr.out.mono ?_
    rintro e W4 ⟨rfl, hC6⟩
    have HC6 : Hid (Wk W bm bw N cap (headZ kind (1 + nf) an s1) false W4) := by rw [HS4.out]; exact hC6
    obtain ⟨s5, hs5⟩ : ∃ s5, headZ kind (1 + nf) an s1 = s5 := ⟨_, rfl⟩
    rw [hs5] at HC6
    have Hs5 := hid hs5
    have HT5 : Hid (s5.h.top = ai) := by show _ = _; rw [← hs5, Han.out]; rfl
    have HL := hid hl
    clear hC6 HWr c4 f4 HS4 hs5 hl hai hhv hhw
    go_wp2_with fail
    go_loopw [15] (fun i wr => ∃ (ii : Int) (k : Nat), i = .int .i64 ii ∧ Hid (ii = (k : Int) ∧ k ≤ nf) ∧ Hid (Wk W bm bw N cap (writesRun fs an k s5) false wr)) (fun i _ => nf - (intOf i).toNat)
    case atStart => exact ⟨0, 0, rfl, ⟨rfl, by omega⟩, HC6.out⟩
    case round =>
      obtain ⟨ii, k, rfl, HQ, HI⟩ := hrel
      have hi0 : 0 ≤ ii := by have := HQ.out; omega
      obtain ⟨k1, k2, k3, k4⟩ := writesRun_keeps fs an s5 k
      by_cases hlt : ii < (nf : Int)
      · have hkn : k < nf := by have := HQ.out; omega
        have hik : ii.toNat = k := by have := HQ.out; omega
        have q0 := (HRf.out.of_block (HI.out.frame.block gf HRf.out.lt hg1 hg2)).cell (i := k) hkn
        unfold intCells at q0
        obtain ⟨z1, hw1⟩ : ∃ z1, wrap64 (ai + 1) = z1 := ⟨_, rfl⟩
        obtain ⟨z2, hw2⟩ : ∃ z2, wrap64 (z1 + ii) = z2 := ⟨_, rfl⟩
        have hz2 : z2 = ((an + 1 + k : Nat) : Int) := by have := Hput.out; have := HQ.out; have := Han.out; rw [← hw2, ← hw1]; unfold wrap64; omega
        have HWk := hid (swrite_calls HI.out (i := an + 1 + k) (by have := Hput.out; have := Han.out; omega) (fs.getD k 0))
        rw [← hz2] at HWk
        have hsd : Hid (nf - (intOf (.int .i64 (ii + 1))).toNat < nf - (intOf (.int .i64 ii)).toNat) := by show _ < _; simp only [intOf]; have := HQ.out; omega
        obtain ⟨fk, hfk⟩ : ∃ fk, fs.getD k 0 = fk := ⟨_, rfl⟩
        rw [hfk] at q0 HWk
        have Hfk := hid hfk
        clear hfk k1 k2 k3 k4 hz2
        go_wp2_with fail
        refine HWk.out.mono ?_
        rintro e W6 ⟨rfl, hC7⟩
        have HC7 := hid hC7
        clear hC7 HWk q0 HI
        go_wp2_with fail
        have hw : wrap64 (ii + 1) = ii + 1 := by have := HQ.out; have := HNf.out; unfold wrap64; omega
        rw [hw]
        exact ⟨⟨ii + 1, k + 1, rfl, ⟨by have := HQ.out; push_cast; omega, by omega⟩, by have e := HC7.out; rw [← Hfk.out] at e; exact e⟩, hsd.out⟩
      · have hkn : k = nf := by have := HQ.out; omega
        have HIf := HI
        have HPt : Hid (writesRun fs an k s5 = putZ kind fs s1) := by
          show _ = _
          unfold putZ
          rw [hkn, ← Hs5.out, HL.out, show (s1.h.top - ((1 + nf : Nat) : Int)).toNat = an by have := Hput.out; have := Han.out; omega]
        have HTp : Hid ((putZ kind fs s1).h.top = ai) := by show _ = _; rw [← HPt.out, k2]; exact HT5.out
        have HMk := hid (fun w => specMake_calls 0 ai w)
        go_wp2_with fail
        refine (HMk.out _).mono ?_
        rintro e W7 ⟨rfl, rfl⟩
        go_wp2_with fail
        go_ret
        refine ⟨by rw [HTp.out]; rfl, ?_, HRr.out.of_block (HIf.out.frame.block g HRr.out.lt hq1 hq2), HIf.out.frame.four _ _⟩
        rw [← HPt.out]
        exact HIf.out.rebase _ (Frm.refl _ _ _)

set_option maxHeartbeats 16000000 in
set_option maxRecDepth 100000 in
theorem sMake_flip {W : World} {bm bw N cap g n gc gf nf fc m : Nat} {kind mi : Int} (n1 : Int) (hn1 : wrap64 (1 + (nf : Int)) = n1) (Hmi : Hid (mi = (m : Int) ∧ m ≤ 20)) (s0 : CN) (HW : Hid (Wk W bm bw N cap s0 false W))
    (HSc : Hid (∀ (k : Nat) (X : World), k < m → ScanInv W bm bw N cap (scanRun k s0) X → Calls Try.prog 56 #[.pointer (some ⟨bm, 0, none⟩)] X fun e w' => e = .returned (.tuple #[]) ∧ ScanInv W bm bw N cap (scanRun (k + 1) s0) w'))
    (fs rs : List Int) (hlf : fs.length = nf) (HNf : Hid (nf = 2 ∨ nf = 5)) (HK : Hid (0 ≤ kind ∧ kind ≤ 15)) (hg1 : gf ≠ bm) (hg2 : gf ≠ bw) (hq1 : g ≠ bm) (hq2 : g ≠ bw) (hgg : gf ≠ g)
    (HRf : Hid (CellRow 3 W gf nf (intCells fs))) (HRr : Hid (CellRow 3 W g n (intCells rs)))
    (s1 : CN) (hsn : scanRun m s0 = some s1) (ai0 : Int) (hai0 : wrap64 (s1.h.top - n1) = ai0) (hd0 : decide (ai0 < s1.h.bottom) = true) (heq : (s1.h.scan == s1.h.bottom) = true)
    (o2 : Option (List Int × CN)) (S : List Int)
    (HFl : Hid (∀ w0 X, Wk w0 bm bw N cap s1 false X → CellRow 3 X g n (intCells rs) → Calls Try.prog 58 #[.pointer (some ⟨bm, 0, none⟩), .slice (some ⟨g, 0, none⟩) n gc] X (SMovesPost X bm bw N cap g n o2)))
    (HMv : Hid (∀ k, k < nf → ∀ ys s', fieldsO o2 fs k = some (ys, s') → Mvs S N (20 + k) s' ∧ ys.length = nf ∧ Aim S s'.h N (ys.getD k 0)))
    (HFin : Hid (∀ ys s', fieldsO o2 fs nf = some (ys, s') → (0 ≤ s'.h.bottom ∧ s'.h.bottom ≤ s'.h.top ∧ s'.h.top ≤ (N : Int) ∧ N ≤ 8000) ∧ ys.length = nf)) :
    Calls Try.prog 44 #[.pointer (some ⟨bm, 0, none⟩), .slice (some ⟨g, 0, none⟩) n gc, .int .i64 kind, .slice (some ⟨gf, 0, none⟩) nf fc, .int .i64 mi] W (SNewPost W bm bw N cap g n gf (endZ kind (1 + nf) (rsO o2) (fieldsO o2 fs nf))) := by
  obtain ⟨R, hR⟩ : ∃ R, endZ kind (1 + nf) (rsO o2) (fieldsO o2 fs nf) = R := ⟨_, rfl⟩
  rw [hR]
  have HR := hid hR
  clear hR
  have hn0 := hn1
  have Hn1 := hid hn1
  clear hn1
  go_enter Try.func44, Try.ntmps44
  go_wp2_with fail
  go_loopw [11] (fun i wr => ∃ (ii : Int) (k : Nat), i = .int .i64 ii ∧ Hid (ii = (k : Int) ∧ k ≤ m) ∧ Hid (ScanInv W bm bw N cap (scanRun k s0) wr)) (fun i _ => m - (intOf i).toNat)
  case atStart => exact ⟨0, 0, rfl, ⟨rfl, by omega⟩, HW.out⟩
  case round =>
    obtain ⟨ii, k, rfl, HQ, HI⟩ := hrel
    clear HW
    by_cases hlt : ii < mi
    · have hkm : k < m := by have := HQ.out; have := Hmi.out; omega
      have hs : Hid (m - (intOf (.int .i64 (ii + 1))).toNat < m - (intOf (.int .i64 ii)).toNat) := by have := HQ.out; show _ < _; simp only [intOf]; omega
      have hw : Hid (wrap64 (ii + 1) = ii + 1) := by have := HQ.out; have := Hmi.out; show _ = _; unfold wrap64; omega
      have HS1 := hid (HSc.out k wr hkm HI.out)
      clear HI
      go_wp2_with fail
      refine HS1.out.mono ?_
      rintro e W1 ⟨rfl, hC1⟩
      have HC1 := hid hC1
      clear hC1 HS1
      go_wp2_with fail
      rw [hw.out]
      exact ⟨⟨ii + 1, k + 1, rfl, ⟨by have := HQ.out; push_cast; omega, by omega⟩, HC1.out⟩, hs.out⟩
    have hkm : k = m := by have := HQ.out; have := Hmi.out; omega
    subst hkm
    rename World => W1
    rw [hsn] at HI
    have HC1 : Hid (Wk W bm bw N cap s1 false W1) := HI.out
    obtain ⟨-, -, -, c3, c4, c5, -, -, -, -, c10⟩ := HC1.out.blk.cells
    clear HI hsn
    obtain ⟨tp, htp⟩ : ∃ tp, s1.h.top = tp := ⟨_, rfl⟩
    obtain ⟨bt, hbt⟩ : ∃ bt, s1.h.bottom = bt := ⟨_, rfl⟩
    obtain ⟨sc, hsc⟩ : ∃ sc, s1.h.scan = sc := ⟨_, rfl⟩
    rw [htp] at c4 hai0
    rw [hbt] at c3 hd0
    rw [hsc] at c5
    rw [hsc, hbt] at heq
    clear htp hbt hsc
    go_wp2_with fail
    go_quiet (fail)
    have HC := hid (HC1.out.keep (below_drewN (Below.refl _ _) nq))
    have d3 : (W1.drewN nq).cell? ⟨bm, 3, none⟩ = _ := c3
    have d4 : (W1.drewN nq).cell? ⟨bm, 4, none⟩ = _ := c4
    have d10 : (W1.drewN nq).cell? ⟨bm, 10, none⟩ = _ := c10
    clear c3 c4 c5 c10 HC1
    generalize W1.drewN nq = W2 at *
    clear nq
    clear hai0 hd0 heq
    go_wp2_with fail
    refine (HFl.out _ _ HC.out (HRr.out.of_block (HC.out.frame.block g HRr.out.lt hq1 hq2))).mono ?_
    rintro e W3 ⟨rfl, hf3, hP3⟩
    have HF3 := hid ((HC.out.frame.four g gf).trans (hf3.four gf))
    have hrw := HRf.out.of_block (HC.out.frame.block gf HRf.out.lt hg1 hg2)
    have HRf3 := hid (hrw.of_block (hf3.2.2.2.2 gf hrw.lt hg1 hg2 hgg))
    have HRg : Hid (∀ rs' s2, o2 = some (rs', s2) → CellRow 3 W3 g n (intCells rs')) := fun rs' s2 e => by
      subst e
      exact hP3.2
    have HIn : Hid ((∃ ys s', Hid (fieldsO o2 fs 0 = some (ys, s')) ∧ Hid (Wk W3 bm bw N cap s' false W3) ∧ Hid (CellRow 3 W3 gf nf (intCells ys))) ∨ (Hid (fieldsO o2 fs 0 = none) ∧ (∃ s', Hid (Wk W3 bm bw N cap s' true W3) ∧ Hid (FullOk s')) ∧ ∃ ys : List Int, Hid (ys.length = nf) ∧ Hid (CellRow 3 W3 gf nf (intCells ys)))) := by
      cases o2 with
      | none =>
        obtain ⟨⟨s', hw, hfo⟩, -⟩ := hP3
        exact Or.inr ⟨rfl, ⟨s', hw, hfo⟩, fs, hlf, HRf3.out⟩
      | some p =>
        obtain ⟨rs', s2⟩ := p
        exact Or.inl ⟨fs, s2, rfl, hP3.1, HRf3.out⟩
    have HLf := hid hlf
    clear hlf hrw hf3 hP3 HC d3 d4 d10 HFl HRf3
    go_wp2_with fail
    go_loopw [13] (fun i wr => ∃ (ii : Int) (k : Nat), i = .int .i64 ii ∧ Hid (ii = (k : Int) ∧ k ≤ nf) ∧ Hid (Frm3 W3 bm bw gf wr) ∧ ((∃ ys s', Hid (fieldsO o2 fs k = some (ys, s')) ∧ Hid (Wk wr bm bw N cap s' false wr) ∧ Hid (CellRow 3 wr gf nf (intCells ys))) ∨ (Hid (fieldsO o2 fs k = none) ∧ (∃ s', Hid (Wk wr bm bw N cap s' true wr) ∧ Hid (FullOk s')) ∧ ∃ ys : List Int, Hid (ys.length = nf) ∧ Hid (CellRow 3 wr gf nf (intCells ys))))) (fun i _ => nf - (intOf i).toNat)
    case atStart => exact ⟨0, 0, rfl, ⟨rfl, by omega⟩, Frm3.refl _ _ _ _, HIn.out⟩
    case round =>
      obtain ⟨ii, k, rfl, HQ, HF, hcase⟩ := hrel
      clear HIn
      have hi0 : 0 ≤ ii := by have := HQ.out; omega
      by_cases hlt : ii < (nf : Int)
      · have hkn : k < nf := by have := HQ.out; omega
        have hik : ii.toNat = k := by have := HQ.out; omega
        have hw : Hid (wrap64 (ii + 1) = ii + 1) := by have := HQ.out; have := HNf.out; show _ = _; unfold wrap64; omega
        have hs : Hid (nf - (intOf (.int .i64 (ii + 1))).toNat < nf - (intOf (.int .i64 ii)).toNat) := by show _ < _; simp only [intOf]; have := HQ.out; omega
        rcases hcase with ⟨ys, s', HK', HI, HRo⟩ | ⟨HK', ⟨s', HI, HB⟩, ys, HLy, HRo⟩
        · obtain ⟨m1, m2, e2⟩ := HMv.out k hkn ys s' HK'.out
          have hm2 := m1.step e2
          obtain ⟨k2, k3, k4, k5, k6, k7, k8, k9, k10, k11, k12⟩ := m1.asks (by have := HNf.out; omega) e2
          have HMo := hid (smove_calls HI.out (ys.getD k 0) k2 k3 k4 k5 k6 k7 k8 k11 k12)
          have q0 := HRo.out.cell (i := k) hkn
          unfold intCells at q0
          have HLy : Hid (ys.length = nf) := m2
          obtain ⟨o, s2, hz⟩ : ∃ o s2, moveZ s' (ys.getD k 0) = (o, s2) := ⟨_, _, rfl⟩
          rw [hz] at HMo hm2
          have HZ := hid hz
          have HN2 := hid hm2.1.nums
          clear hz m1 m2 e2 k2 k3 k4 k5 k6 k7 k8 k9 k10 k11 k12 hm2
          go_wp2_with fail
          refine HMo.out.mono ?_
          rintro e W4 ⟨rfl, hC4⟩
          have HC4 := hid hC4
          have hblk := hC4.frame.block gf HRo.out.lt hg1 hg2
          have HRo4 := hid (HRo.out.of_block hblk)
          have q0' : W4.cell? ⟨gf, k, none⟩ = some (.int .i64 (ys.getD k 0)) := (World.cell?_of_block (w := wr) hblk).trans q0
          obtain ⟨_, _, hrow, _, _⟩ := HRo4.out
          have q1' := hrow.frozen k hkn
          clear hC4 HMo q0 hrow hblk
          cases o with
          | some y =>
            dsimp only [smoveV]
            go_wp2_with fail
            rw [hw.out]
            exact ⟨⟨ii + 1, k + 1, rfl, ⟨by have := HQ.out; push_cast; omega, by omega⟩, (HF.out.step HC4.out.frame).set k _, Or.inl ⟨ys.set k y, s2, fieldsO_more HK'.out HZ.out, HC4.out.beside hg1 hg2 k _, row_set HRo4.out HLy.out hkn y⟩⟩, hs.out⟩
          | none =>
            dsimp only [smoveV]
            have HSt := hid (fieldsO_stop HK'.out HZ.out)
            have HBd : Hid (FullOk s2) := by
              have o1 := HN2.out.s0
              have o2 := HN2.out.s1
              have o4 := HN2.out.to
              have o5 := HN2.out.b0
              have o6 := HN2.out.bt
              have o7 := HN2.out.te
              exact ⟨by omega, by omega, o2, by omega, o6, by omega⟩
            clear HZ
            generalize ys.getD k 0 = y at *
            go_wp2_with fail
            rw [hw.out]
            exact ⟨⟨ii + 1, k + 1, rfl, ⟨by have := HQ.out; push_cast; omega, by omega⟩, (HF.out.step HC4.out.frame).set k _, Or.inr ⟨HSt.out, ⟨s2, HC4.out.beside hg1 hg2 k _, HBd.out⟩, ys.set k y, by show _ = _; rw [List.length_set]; exact HLy.out, row_set HRo4.out HLy.out hkn y⟩⟩, hs.out⟩
        · obtain ⟨b1, b2, b3, b4, b5, b6⟩ := HB.out
          have HMo := hid (smove_dead HI.out (ys.getD k 0) b1 b2 b3 b4 b5 b6)
          have q0 := HRo.out.cell (i := k) hkn
          unfold intCells at q0
          clear b1 b2 b3 b4 b5 b6
          generalize ys.getD k 0 = x at *
          go_wp2_with fail
          refine HMo.out.mono ?_
          rintro e W4 ⟨⟨y, rfl⟩, hC4⟩
          have HC4 := hid hC4
          have hblk := hC4.frame.block gf HRo.out.lt hg1 hg2
          have HRo4 := hid (HRo.out.of_block hblk)
          have q0' : W4.cell? ⟨gf, k, none⟩ = some (.int .i64 x) := (World.cell?_of_block (w := wr) hblk).trans q0
          obtain ⟨_, _, hrow, _, _⟩ := HRo4.out
          have q1' := hrow.frozen k hkn
          clear hC4 HMo q0 hrow hblk
          go_wp2_with fail
          rw [hw.out]
          exact ⟨⟨ii + 1, k + 1, rfl, ⟨by have := HQ.out; push_cast; omega, by omega⟩, (HF.out.step HC4.out.frame).set k _, Or.inr ⟨fieldsO_none HK'.out, ⟨s', HC4.out.beside hg1 hg2 k _, HB.out⟩, ys.set k y, by show _ = _; rw [List.length_set]; exact HLy.out, row_set HRo4.out HLy.out hkn y⟩⟩, hs.out⟩
      have hkn : k = nf := by have := HQ.out; omega
      rename World => W5
      have HF5 := hid (HF3.out.trans (HF.out.four' g))
      rcases hcase with ⟨ys, s', HK', HI, HRo⟩ | ⟨HK', ⟨s', HI, HB⟩, ys, HLy, HRo⟩
      · have HEn : fieldsO o2 fs nf = some (ys, s') := by rw [← hkn]; exact HK'.out
        obtain ⟨⟨p1, p2, p3, p4⟩, m2⟩ := HFin.out ys s' HEn
        obtain ⟨rs', s2, ho2⟩ : ∃ rs' s2, o2 = some (rs', s2) := by
          cases o2 with
          | none => exact absurd HEn (by simp [fieldsO])
          | some p => exact ⟨_, _, rfl⟩
        have HRg5 := hid ((HRg.out rs' s2 ho2).of_block (HF.out.2.2.2.2 g (HRg.out rs' s2 ho2).lt hq1 hq2 (Ne.symm hgg)))
        have hrs : rsO o2 = rs' := by rw [ho2]; rfl
        have HC := HI
        obtain ⟨-, -, -, d3, d4, -, -, -, -, -, d10⟩ := HC.out.blk.cells
        obtain ⟨tp, htp⟩ : ∃ tp, s'.h.top = tp := ⟨_, rfl⟩
        obtain ⟨bt, hbt⟩ : ∃ bt, s'.h.bottom = bt := ⟨_, rfl⟩
        obtain ⟨ai, hai⟩ : ∃ ai, wrap64 (tp - n1) = ai := ⟨_, rfl⟩
        rw [htp] at d4
        rw [hbt] at d3
        have hnn : n1 = ((1 + nf : Nat) : Int) := by have := Hn1.out; have := HNf.out; unfold wrap64 at *; omega
        by_cases hr : s'.h.top - s'.h.bottom < ((1 + nf : Nat) : Int)
        · have HRn : Hid (R = none) := by show _ = _; rw [← HR.out, HEn, hrs]; exact if_pos hr
          have hd : decide (ai < bt) = true := by have := HNf.out; rw [decide_eq_true_eq, ← hai]; unfold wrap64; omega
          clear hr htp hbt p1 p2 p3 p4 hnn m2 HI ho2 hrs HEn
          have HCd := hid (fun nq => (HC.out.keep (below_drewN (Below.refl _ _) nq)).filled true)
          have f10 := fun nq => frozen_of_heap (HC.out.keep (below_drewN (Below.refl _ _) nq)).blk 10
          have c10' := fun nq => (HC.out.keep (below_drewN (Below.refl _ _) nq)).blk.cells.2.2.2.2.2.2.2.2.2.2
          clear HC
          go_wp2_with fail
          go_quiet (fail)
          have HCe := hid (HCd.out nq)
          have f10' := f10 nq
          have c10'' := c10' nq
          clear f10 d3 d4 d10 c10' HCd
          generalize W5.drewN nq = We at *
          go_wp2_with fail
          go_ret
          rw [HRn.out]
          exact ⟨rfl, ⟨s', HCe.out.rebase _ (Frm.refl _ _ _)⟩, HF5.out.trans (HCe.out.frame.four _ _)⟩
        · have HRn : Hid (R = some (rs', putZ kind ys s')) := by show _ = _; rw [← HR.out, HEn, hrs]; exact if_neg hr
          have hai2 : ai = s'.h.top - ((1 + nf : Nat) : Int) := by have := HNf.out; rw [← hai, htp]; unfold wrap64; omega
          have hd : decide (ai < bt) = false := by rw [decide_eq_false_iff_not]; omega
          have Hput : Hid (0 ≤ ai ∧ s'.h.top = ai + ((1 + nf : Nat) : Int) ∧ s'.h.top ≤ (N : Int) ∧ N ≤ 8000) := ⟨by omega, by omega, p3, p4⟩
          have hl := m2
          clear hr htp hbt p1 p2 p3 p4 hnn m2 HI ho2 hrs HEn hai2
          have HCd := hid (fun nq => HC.out.keep (below_drewN (Below.refl _ _) nq))
          clear HC
          go_wp2_with fail
          go_quiet (fail)
          have HC4 := hid (HCd.out nq)
          have c4 : (W5.drewN nq).cell? ⟨bm, 4, none⟩ = _ := d4
          have f4 := frozen_of_heap HC4.out.blk 4
          have HC5 := hid (HC4.out.topSet ai)
          clear d3 d4 d10 HCd hd
          generalize W5.drewN nq = W3 at *
          clear nq
          obtain ⟨an, han⟩ : ∃ an : Nat, ai = (an : Int) := ⟨ai.toNat, by have := Hput.out; omega⟩
          have Han := hid han
          have hnn : Hid (n1 = ((1 + nf : Nat) : Int)) := by have := Hn1.out; have := HNf.out; show _ = _; unfold wrap64 at *; omega
          obtain ⟨hv, hhv⟩ : ∃ hv : Int, wrap64 (wrap64 (16 * n1) + kind) = hv := ⟨_, rfl⟩
          have Hhv : Hid (hv = ((1 + nf : Nat) : Int) * 16 + kind) := by have := hnn.out; have := HNf.out; have := HK.out; show _ = _; rw [← hhv]; unfold wrap64; omega
          obtain ⟨hw, hhw⟩ : ∃ hw : Int, wrap64 (16 * n1) = hw := ⟨_, rfl⟩
          rw [hhw] at hhv
          have HS4 : Hid (headZ kind (1 + nf) an s' = ⟨s'.ws.set an hv, { s'.h with top := ai }, s'.r, s'.t + 1⟩) := by show _ = _; rw [Hhv.out, Han.out]; rfl
          have hanN : an < N := by have := Hput.out; have := Han.out; omega
          have HWr : Hid (Calls Try.prog 72 #[.pointer (some ⟨bm, 0, none⟩), .int .i64 ai, .int .i64 hv] (W3.setCell ⟨bm, 4, none⟩ (.int .i64 ai)) (fun e w' => e = .returned (.tuple #[]) ∧ Wk W5 bm bw N cap ⟨s'.ws.set an hv, { s'.h with top := ai }, s'.r, s'.t + 1⟩ false w')) := by
            have e := swrite_calls HC5.out hanN hv
            rw [← Han.out] at e
            exact e
          clear HC4 HC5 han
          go_wp2_with fail
          refine HWr.out.mono ?_
          rintro e W4 ⟨rfl, hC6⟩
          have HC6 : Hid (Wk W5 bm bw N cap (headZ kind (1 + nf) an s') false W4) := by rw [HS4.out]; exact hC6
          obtain ⟨s5, hs5⟩ : ∃ s5, headZ kind (1 + nf) an s' = s5 := ⟨_, rfl⟩
          rw [hs5] at HC6
          have Hs5 := hid hs5
          have HT5 : Hid (s5.h.top = ai) := by show _ = _; rw [← hs5, Han.out]; rfl
          have HL := hid hl
          clear hC6 HWr c4 f4 HS4 hs5 hl hai hhv hhw
          go_wp2_with fail
          go_loopw [15] (fun i wr => ∃ (ii : Int) (k : Nat), i = .int .i64 ii ∧ Hid (ii = (k : Int) ∧ k ≤ nf) ∧ Hid (Wk W5 bm bw N cap (writesRun ys an k s5) false wr)) (fun i _ => nf - (intOf i).toNat)
          case atStart => exact ⟨0, 0, rfl, ⟨rfl, by omega⟩, HC6.out⟩
          case round =>
            obtain ⟨ii, k, rfl, HQ, HI⟩ := hrel
            have hi0 : 0 ≤ ii := by have := HQ.out; omega
            obtain ⟨k1, k2, k3, k4⟩ := writesRun_keeps ys an s5 k
            by_cases hlt : ii < (nf : Int)
            · have hkn : k < nf := by have := HQ.out; omega
              have hik : ii.toNat = k := by have := HQ.out; omega
              have q0 := (HRo.out.of_block (HI.out.frame.block gf HRo.out.lt hg1 hg2)).cell (i := k) hkn
              unfold intCells at q0
              obtain ⟨z1, hw1⟩ : ∃ z1, wrap64 (ai + 1) = z1 := ⟨_, rfl⟩
              obtain ⟨z2, hw2⟩ : ∃ z2, wrap64 (z1 + ii) = z2 := ⟨_, rfl⟩
              have hz2 : z2 = ((an + 1 + k : Nat) : Int) := by have := Hput.out; have := HQ.out; have := Han.out; rw [← hw2, ← hw1]; unfold wrap64; omega
              have HWk := hid (swrite_calls HI.out (i := an + 1 + k) (by have := Hput.out; have := Han.out; omega) (ys.getD k 0))
              rw [← hz2] at HWk
              have hsd : Hid (nf - (intOf (.int .i64 (ii + 1))).toNat < nf - (intOf (.int .i64 ii)).toNat) := by show _ < _; simp only [intOf]; have := HQ.out; omega
              obtain ⟨fk, hfk⟩ : ∃ fk, ys.getD k 0 = fk := ⟨_, rfl⟩
              rw [hfk] at q0 HWk
              have Hfk := hid hfk
              clear hfk k1 k2 k3 k4 hz2
              go_wp2_with fail
              refine HWk.out.mono ?_
              rintro e W6 ⟨rfl, hC7⟩
              have HC7 := hid hC7
              clear hC7 HWk q0 HI
              go_wp2_with fail
              have hw : wrap64 (ii + 1) = ii + 1 := by have := HQ.out; have := HNf.out; unfold wrap64; omega
              rw [hw]
              exact ⟨⟨ii + 1, k + 1, rfl, ⟨by have := HQ.out; push_cast; omega, by omega⟩, by have e := HC7.out; rw [← Hfk.out] at e; exact e⟩, hsd.out⟩
            · have hkn : k = nf := by have := HQ.out; omega
              have HIf := HI
              have HPt : Hid (writesRun ys an k s5 = putZ kind ys s') := by
                show _ = _
                unfold putZ
                rw [hkn, ← Hs5.out, HL.out, show (s'.h.top - ((1 + nf : Nat) : Int)).toNat = an by have := Hput.out; have := Han.out; omega]
              have HTp : Hid ((putZ kind ys s').h.top = ai) := by show _ = _; rw [← HPt.out, k2]; exact HT5.out
              have HMk := hid (fun w => specMake_calls 0 ai w)
              go_wp2_with fail
              refine (HMk.out _).mono ?_
              rintro e W7 ⟨rfl, rfl⟩
              go_wp2_with fail
              go_ret
              rw [HRn.out]
              refine ⟨by rw [HTp.out]; rfl, ?_, HRg5.out.of_block (HIf.out.frame.block g HRg5.out.lt hq1 hq2), HF5.out.trans (HIf.out.frame.four _ _)⟩
              rw [← HPt.out]
              exact HIf.out.rebase _ (Frm.refl _ _ _)
      · have HEn : fieldsO o2 fs nf = none := by rw [← hkn]; exact HK'.out
        have HRn : Hid (R = none) := by show _ = _; rw [← HR.out, HEn]; rfl
        have HC := HI
        obtain ⟨-, -, -, d3, d4, -, -, -, -, -, d10⟩ := HC.out.blk.cells
        obtain ⟨tp, htp⟩ : ∃ tp, s'.h.top = tp := ⟨_, rfl⟩
        obtain ⟨bt, hbt⟩ : ∃ bt, s'.h.bottom = bt := ⟨_, rfl⟩
        obtain ⟨ai, hai⟩ : ∃ ai, wrap64 (tp - n1) = ai := ⟨_, rfl⟩
        rw [htp] at d4
        rw [hbt] at d3
        have hq : decide (ai < bt) = true ∨ decide (ai < bt) = false := by cases decide (ai < bt) <;> simp
        clear htp hbt HI HB HLy HRo HEn hkn
        rcases hq with hd | hd
        all_goals
          have HCd := hid (fun nq => (HC.out.keep (below_drewN (Below.refl _ _) nq)).filled true)
          have f10 := fun nq => frozen_of_heap (HC.out.keep (below_drewN (Below.refl _ _) nq)).blk 10
          have c10' := fun nq => (HC.out.keep (below_drewN (Below.refl _ _) nq)).blk.cells.2.2.2.2.2.2.2.2.2.2
          clear HC
          go_wp2_with fail
          go_quiet (fail)
          have HCe := hid (HCd.out nq)
          have f10' := f10 nq
          have c10'' := c10' nq
          clear f10 d3 d4 d10 c10' HCd
          generalize W5.drewN nq = We at *
          go_wp2_with fail
          go_ret
          rw [HRn.out]
          exact ⟨rfl, ⟨s', HCe.out.rebase _ (Frm.refl _ _ _)⟩, HF5.out.trans (HCe.out.frame.four _ _)⟩
end Go.Proofs.Ytnoobonlmfgfhaa
