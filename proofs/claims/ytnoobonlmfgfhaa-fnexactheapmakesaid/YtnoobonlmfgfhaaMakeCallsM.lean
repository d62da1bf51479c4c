/- An object is made: the contracts of both sides, in one plain function. -/
import Derived.Test.YtnoobonlmfgfhaaSpecMakeM
namespace Go.Proofs.Ytnoobonlmfgfhaa
open Go.RowKit

theorem Mvs.more {S : List Int} {N j j' : Nat} {s : CN} (c : Mvs S N j s) (h : j ≤ j') : Mvs S N j' s :=
  ⟨c.len, c.nums, c.fro, c.r0, by have := c.r1; omega, c.t0, c.t1⟩

theorem Scn.asks {S : List Int} {N : Nat} {s : CN} (c : Scn S N s) : 0 ≤ s.h.to ∧ s.h.to ≤ s.h.size ∧ s.h.size ≤ 4000 ∧ 0 ≤ s.h.bottom ∧ s.h.bottom ≤ 8000 ∧ 0 ≤ s.h.top ∧ s.h.top ≤ 8000 ∧ s.h.top ≤ (N : Int) ∧ N ≤ 8000 ∧ s.h.bottom ≤ s.h.top := by
  have o1 := c.nums.s0
  have o2 := c.nums.s1
  have o3 := c.nums.len
  have o4 := c.nums.to
  have o5 := c.nums.b0
  have o6 := c.nums.bt
  have o7 := c.nums.te
  omega

theorem Mvs.nums' {S : List Int} {N j : Nat} {s : CN} (c : Mvs S N j s) : 0 ≤ s.h.to ∧ s.h.to ≤ s.h.size ∧ s.h.size ≤ 4000 ∧ 0 ≤ s.h.bottom ∧ s.h.bottom ≤ 8000 ∧ 0 ≤ s.h.top ∧ s.h.top ≤ 8000 ∧ s.h.top ≤ (N : Int) ∧ N ≤ 8000 ∧ s.h.bottom ≤ s.h.top := by
  have o1 := c.nums.s0
  have o2 := c.nums.s1
  have o3 := c.nums.len
  have o4 := c.nums.to
  have o5 := c.nums.b0
  have o6 := c.nums.bt
  have o7 := c.nums.te
  omega

theorem room_iff {a b : Int} {n : Nat} : decide (((1 + n : Nat) : Int) ≤ a - b) = !decide (a - b < ((1 + n : Nat) : Int)) := by
  by_cases h : a - b < ((1 + n : Nat) : Int)
  · rw [decide_eq_true h, decide_eq_false (by omega)]
    rfl
  · rw [decide_eq_false h, decide_eq_true (by omega)]
    rfl

/-- What making an object asks of heap, roots and fields. -/
structure MakeOk (S : List Int) (N n nf m : Nat) (s0 : CN) (rs fs : List Int) (kind : Int) : Prop where
  scn : Scn S N s0
  flip : ∀ s1, scanRun m s0 = some s1 → Mvs S N 0 { s1 with h := flipH s1.h }
  m20 : m ≤ 20
  rlen : rs.length = n
  flen : fs.length = nf
  n20 : n ≤ 20
  nf : nf = 2 ∨ nf = 5
  k0 : 0 ≤ kind
  k1 : kind ≤ 15
  raim : ∀ (h' : HpN) i, i < rs.length → Aim S h' N (rs.getD i 0)
  faim : ∀ (h' : HpN) i, i < fs.length → Aim S h' N (fs.getD i 0)

theorem inew_calls {S : List Int} {W : World} {bc bw N cap g n gc gf nf fc m : Nat} {s0 : CN} {rs fs : List Int} {kind : Int} (ok : MakeOk S N n nf m s0 rs fs kind) (c : ColAt W bc bw N cap s0 W)
    (hg1 : gf ≠ bc) (hg2 : gf ≠ bw) (hq1 : g ≠ bc) (hq2 : g ≠ bw) (hgg : gf ≠ g) (HRf : CellRow 3 W gf nf (intCells fs)) (HRr : CellRow 3 W g n (intCells rs)) :
    Calls Try.prog 50 #[.pointer (some ⟨bc, 0, none⟩), .slice (some ⟨g, 0, none⟩) n gc, .int .i64 kind, .slice (some ⟨gf, 0, none⟩) nf fc, .int .i64 (m : Int)] W (NewPost W bc bw N cap g n gf (makeRun rs fs kind m s0)) := by
  have hnf := ok.nf
  have hn1 : wrap64 (1 + (nf : Int)) = ((1 + nf : Nat) : Int) := by unfold wrap64; omega
  have hlk := look_calls s0 c ok.scn m (by have := ok.m20; omega)
  unfold makeRun
  rw [ok.flen, ok.rlen]
  cases h1 : scanRun m s0 with
  | none =>
    rw [h1] at hlk
    exact iNew_scan _ hn1 hlk
  | some s1 =>
    rw [h1] at hlk
    have c1 := scanRun_scn ok.scn m s1 h1
    obtain ⟨a1, a2, a3, a4, a5, a6, a7, a8, a9, a10⟩ := c1.asks
    have hrm : ∀ w0 X, ColAt w0 bc bw N cap s1 X → Calls Try.prog 76 #[.pointer (some ⟨bc, 0, none⟩), .int .i64 ((1 + nf : Nat) : Int)] X fun e w' => e = .returned (.bool (!decide (s1.h.top - s1.h.bottom < ((1 + nf : Nat) : Int)))) ∧ Below X.heap.size X w' := fun w0 X hX => by
      have e := hasRoom_calls hX ((1 + nf : Nat) : Int) a4 a5 a6 a7
      rw [room_iff] at e
      exact e
    dsimp only
    by_cases hr : s1.h.top - s1.h.bottom < ((1 + nf : Nat) : Int)
    · rw [if_pos hr]
      rw [decide_eq_true hr] at hrm
      by_cases hsc : s1.h.scan = s1.h.bottom
      · rw [if_pos hsc]
        have heq : (s1.h.scan == s1.h.bottom) = true := by simpa using hsc
        have hmv := ok.flip s1 h1
        have hch : ∀ w0 X, ColAt w0 bc bw N cap s1 X → CellRow 3 X g n (intCells rs) → Calls Try.prog 59 #[.pointer (some ⟨bc, 0, none⟩), .slice (some ⟨g, 0, none⟩) n gc] X (MovesPost X bc bw N cap g n (movesRun rs n { s1 with h := flipH s1.h })) := fun w0 X hX hrx => change_calls s1 hX a1 a2 a3 hmv rs ok.rlen ok.n20 hq1 hq2 hrx (ok.raim _)
        cases h2 : movesRun rs n { s1 with h := flipH s1.h } with
        | none =>
          rw [h2] at hch
          exact iNew_roots _ hn1 s1 hlk fs rs hg1 hg2 hq1 hq2 HRf HRr heq hrm hch
        | some p =>
          obtain ⟨rs', s2⟩ := p
          rw [h2] at hch
          obtain ⟨m2, l2, -⟩ := movesRun_mvs hmv (ok.raim _) n (by rw [ok.rlen]; exact Nat.le_refl _) rs' s2 h2
          rw [Nat.zero_add] at m2
          have hma : ∀ w0 X, ColAt w0 bc bw N cap s2 X → CellRow 3 X gf nf (intCells fs) → Calls Try.prog 77 #[.pointer (some ⟨bc, 0, none⟩), .slice (some ⟨gf, 0, none⟩) nf fc] X (MovesPost X bc bw N cap gf nf (movesRun fs nf s2)) := fun w0 X hX hrx => moveAll_calls s2 hX m2 fs ok.flen (by have := ok.n20; omega) hg1 hg2 hrx (ok.faim _)
          dsimp only
          cases h3 : movesRun fs nf s2 with
          | none =>
            rw [h3] at hma
            exact iNew_fields _ hn1 s1 hlk fs rs rs' s2 hg1 hg2 hq1 hq2 hgg HRf HRr heq hrm hch hma
          | some p =>
            obtain ⟨fs', s3⟩ := p
            rw [h3] at hma
            obtain ⟨m3, l3, -⟩ := movesRun_mvs m2 (ok.faim _) nf (by rw [ok.flen]; exact Nat.le_refl _) fs' s3 h3
            obtain ⟨b1, b2, b3, b4, b5, b6, b7, b8, b9, b10⟩ := m3.nums'
            have hrm2 : ∀ w0 X, ColAt w0 bc bw N cap s3 X → Calls Try.prog 76 #[.pointer (some ⟨bc, 0, none⟩), .int .i64 ((1 + nf : Nat) : Int)] X fun e w' => e = .returned (.bool (!decide (s3.h.top - s3.h.bottom < ((1 + nf : Nat) : Int)))) ∧ Below X.heap.size X w' := fun w0 X hX => by
              have e := hasRoom_calls hX ((1 + nf : Nat) : Int) b4 b5 b6 b7
              rw [room_iff] at e
              exact e
            dsimp only
            by_cases hr3 : s3.h.top - s3.h.bottom < ((1 + nf : Nat) : Int)
            · rw [if_pos hr3]
              rw [decide_eq_true hr3] at hrm2
              exact iNew_still _ hn1 s1 hlk fs rs rs' fs' s2 s3 hg1 hg2 hq1 hq2 hgg HRf HRr heq hrm hrm2 hch hma
            · rw [if_neg hr3]
              rw [decide_eq_false hr3] at hrm2
              exact iNew_flip _ hn1 s1 hlk fs rs rs' fs' s2 s3 (by rw [l3, ok.flen]) hnf ⟨ok.k0, ok.k1⟩ hg1 hg2 hq1 hq2 hgg HRf HRr (m3.put hr3) heq hrm hrm2 hch hma
      · rw [if_neg hsc]
        exact iNew_late _ hn1 s1 hlk (by simpa using hsc) hrm
    · rw [if_neg hr]
      rw [decide_eq_false hr] at hrm
      exact iNew_room _ hn1 s1 hlk fs rs ok.flen hnf ⟨ok.k0, ok.k1⟩ hg1 hg2 hq1 hq2 HRf HRr (c1.put hr) hrm

theorem scan_next {S : List Int} {W : World} {bm bw N cap : Nat} {s0 : CN} (hs : Scn S N s0) (k : Nat) (X : World) (hI : ScanInv W bm bw N cap (scanRun k s0) X) :
    Calls Try.prog 56 #[.pointer (some ⟨bm, 0, none⟩)] X fun e w' => e = .returned (.tuple #[]) ∧ ScanInv W bm bw N cap (scanRun (k + 1) s0) w' := by
  unfold scanRun
  cases h : scanRun k s0 with
  | none =>
    rw [h] at hI
    obtain ⟨s, hc⟩ := hI
    refine (sscan_full hc).mono ?_
    rintro e w' ⟨rfl, h'⟩
    exact ⟨rfl, s, h'⟩
  | some s =>
    rw [h] at hI
    refine (sscan_calls hI (scanRun_scn hs k s h)).mono ?_
    rintro e w' ⟨rfl, h'⟩
    refine ⟨rfl, ?_⟩
    dsimp only
    cases h1 : scanOne s with
    | none => rw [h1] at h'; exact h'
    | some s' => rw [h1] at h'; exact h'

theorem snew_calls {S : List Int} {W : World} {bm bw N cap g n gc gf nf fc m : Nat} {s0 : CN} {rs fs : List Int} {kind : Int} (ok : MakeOk S N n nf m s0 rs fs kind) (c : Wk W bm bw N cap s0 false W)
    (hg1 : gf ≠ bm) (hg2 : gf ≠ bw) (hq1 : g ≠ bm) (hq2 : g ≠ bw) (hgg : gf ≠ g) (HRf : CellRow 3 W gf nf (intCells fs)) (HRr : CellRow 3 W g n (intCells rs)) :
    Calls Try.prog 44 #[.pointer (some ⟨bm, 0, none⟩), .slice (some ⟨g, 0, none⟩) n gc, .int .i64 kind, .slice (some ⟨gf, 0, none⟩) nf fc, .int .i64 (m : Int)] W (SNewPost W bm bw N cap g n gf (makeRun rs fs kind m s0)) := by
  have hnf := ok.nf
  have hn1 : wrap64 (1 + (nf : Int)) = ((1 + nf : Nat) : Int) := by unfold wrap64; omega
  have hsc := fun k X (_ : k < m) h => scan_next (W := W) (bm := bm) (bw := bw) (cap := cap) ok.scn k X h
  have hmi : (m : Int) = (m : Int) ∧ m ≤ 20 := ⟨rfl, ok.m20⟩
  unfold makeRun
  rw [ok.flen, ok.rlen]
  cases h1 : scanRun m s0 with
  | none => exact sMake_full _ hn1 hmi s0 c hsc h1
  | some s1 =>
    have c1 := scanRun_scn ok.scn m s1 h1
    obtain ⟨a1, a2, a3, a4, a5, a6, a7, a8, a9, a10⟩ := c1.asks
    have hai : wrap64 (s1.h.top - ((1 + nf : Nat) : Int)) = s1.h.top - ((1 + nf : Nat) : Int) := by unfold wrap64; omega
    dsimp only
    by_cases hr : s1.h.top - s1.h.bottom < ((1 + nf : Nat) : Int)
    · rw [if_pos hr]
      have hd : decide (s1.h.top - ((1 + nf : Nat) : Int) < s1.h.bottom) = true := by rw [decide_eq_true_eq]; omega
      by_cases he : s1.h.scan = s1.h.bottom
      · rw [if_pos he]
        have heq : (s1.h.scan == s1.h.bottom) = true := by simpa using he
        have hmv := ok.flip s1 h1
        have hfl : ∀ w0 X, Wk w0 bm bw N cap s1 false X → CellRow 3 X g n (intCells rs) → Calls Try.prog 58 #[.pointer (some ⟨bm, 0, none⟩), .slice (some ⟨g, 0, none⟩) n gc] X (SMovesPost X bm bw N cap g n (movesRun rs n { s1 with h := flipH s1.h })) := fun w0 X hX hrx => sflip_calls hX a1 a2 a3 hmv rs ok.rlen ok.n20 hq1 hq2 hrx (ok.raim _)
        have hrun := fun rs' s2 h2 => movesRun_mvs hmv (ok.raim _) n (by rw [ok.rlen]; exact Nat.le_refl _) rs' s2 h2
        obtain ⟨o2, ho2⟩ : ∃ o2, movesRun rs n { s1 with h := flipH s1.h } = o2 := ⟨_, rfl⟩
        rw [ho2] at hfl
        have hmk : ∀ k, k ≤ nf → ∀ ys s', fieldsO o2 fs k = some (ys, s') → Mvs S N (20 + k) s' ∧ ys.length = nf ∧ (k < nf → Aim S s'.h N (ys.getD k 0)) := fun k hk ys s' hf => by
          cases o2 with
          | none => cases hf
          | some p =>
            obtain ⟨rs', s2⟩ := p
            obtain ⟨m2, -, -⟩ := hrun rs' s2 ho2
            rw [Nat.zero_add] at m2
            obtain ⟨m3, l3, a3'⟩ := movesRun_mvs m2 (ok.faim _) k (by rw [ok.flen]; exact hk) ys s' hf
            refine ⟨m3.more (by have := ok.n20; omega), by rw [l3, ok.flen], fun hkn => ?_⟩
            obtain ⟨e1, e2⟩ := a3' k (Nat.le_refl _) (by rw [ok.flen]; exact hkn)
            rw [e1]
            exact e2
        have hend := sMake_flip _ hn1 hmi s0 c hsc fs rs ok.flen hnf ⟨ok.k0, ok.k1⟩ hg1 hg2 hq1 hq2 hgg HRf HRr s1 h1 _ hai hd heq o2 S hfl (fun k hk ys s' hf => by obtain ⟨e1, e2, e3⟩ := hmk k (by omega) ys s' hf; exact ⟨e1, e2, e3 hk⟩) (fun ys s' hf => by obtain ⟨e1, e2, -⟩ := hmk nf (Nat.le_refl _) ys s' hf; obtain ⟨b1, b2, b3, b4, b5, b6, b7, b8, b9, b10⟩ := e1.nums'; exact ⟨⟨b4, b10, b8, b9⟩, e2⟩) (gc := gc) (fc := fc)
        rw [ho2]
        cases o2 with
        | none => exact hend
        | some p =>
          obtain ⟨rs', s2⟩ := p
          unfold fieldsO rsO at hend
          dsimp only at hend ⊢
          cases h3 : movesRun fs nf s2 with
          | none => rw [h3] at hend; exact hend
          | some p => rw [h3] at hend; exact hend
      · rw [if_neg he]
        exact sMake_late _ hn1 hmi s0 c hsc s1 h1 _ hai hd (by simpa using he)
    · rw [if_neg hr]
      exact sMake_room _ hn1 hmi s0 c hsc fs rs ok.flen hnf ⟨ok.k0, ok.k1⟩ hg1 hg2 hq1 hq2 HRf HRr s1 h1 _ hai (by rw [decide_eq_false_iff_not]; omega) ⟨by omega, by omega, a8, a9⟩
end Go.Proofs.Ytnoobonlmfgfhaa
