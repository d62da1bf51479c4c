/- The spaces change, and words are moved in order, in plain words. -/
import Derived.Test.YtjcdiehhooinkaaScanStart
import Derived.Test.YtjcdiehhooinkaaImplScan
import Derived.Deep.RegionHeld3
import Derived.Test.YtjcdiehhooinkaaSpecScan
import Derived.Test.YtjcdiehhooinkaaImplHeapF
import Derived.Test.YtjcdiehhooinkaaHeapFacts
namespace Go.Proofs.Ytjcdiehhooinkaa
open Go.RowKit

/-- The numbers behind a change of spaces. -/
def flipH (h : HpN) : HpN := ⟨h.size, h.size - h.to, h.size - h.to, h.size - h.to + h.size, h.size - h.to, h.bottom, h.top, wrap64 (h.flips + 1), h.touched⟩

/-- Words are moved, k of them. -/
def movesRun (xs : List Int) : Nat → CN → Option (List Int × CN)
  | 0, s => some (xs, s)
  | k + 1, s => match movesRun xs k s with
    | none => none
    | some (ys, s') => match moveZ s' (ys.getD k 0) with
      | (some y, s'') => some (ys.set k y, s'')
      | (none, _) => none

theorem movesRun_none {xs : List Int} {s : CN} {k : Nat} (h : movesRun xs k s = none) : ∀ j, movesRun xs (k + j) s = none
  | 0 => h
  | j + 1 => by
    rw [← Nat.add_assoc]
    unfold movesRun
    rw [movesRun_none h j]

theorem movesRun_more {xs ys : List Int} {s s' s'' : CN} {k : Nat} {y : Int} (h : movesRun xs k s = some (ys, s')) (he : moveZ s' (ys.getD k 0) = (some y, s'')) : movesRun xs (k + 1) s = some (ys.set k y, s'') := by
  unfold movesRun
  rw [h]
  dsimp only
  rw [he]

theorem movesRun_stop {xs ys : List Int} {s s' s'' : CN} {k : Nat} (h : movesRun xs k s = some (ys, s')) (he : moveZ s' (ys.getD k 0) = (none, s'')) : movesRun xs (k + 1) s = none := by
  unfold movesRun
  rw [h]
  dsimp only
  rw [he]

/-- While words are moved: j moves were made. -/
structure Mvs (S : List Int) (N j : Nat) (s : CN) : Prop where
  len : s.ws.length = N
  nums : Nums s.h N
  fro : Fro S s.ws s.h
  r0 : 0 ≤ s.r
  r1 : s.r ≤ 40000 + 2 * j + s.h.bottom
  t0 : 0 ≤ s.t
  t1 : s.t ≤ 40000 + 2 * s.h.bottom

theorem Mvs.asks {S : List Int} {N j : Nat} {s : CN} {x : Int} (c : Mvs S N j s) (hj : j ≤ 30) (ha : Aim S s.h N x) : 0 ≤ s.h.to ∧ s.h.to ≤ s.h.size ∧ s.h.size ≤ 4000 ∧ 0 ≤ s.h.bottom ∧ s.h.bottom ≤ s.h.top ∧ s.h.top ≤ (N : Int) ∧ N ≤ 8000 ∧ s.r ≤ 70000 ∧ s.t ≤ 70000 ∧ MoveOk s.ws s.h N x ∧ hereZ s.h x = !lateZ s.h x := by
  have o1 := c.nums.s0
  have o2 := c.nums.s1
  have o3 := c.nums.len
  have o4 := c.nums.to
  have o5 := c.nums.b0
  have o6 := c.nums.bt
  have o7 := c.nums.te
  have e1 := c.r1
  have e2 := c.t1
  exact ⟨by omega, by omega, o2, by omega, o6, by omega, by omega, by omega, by omega, aim_move c.nums c.fro ha, aim_here c.nums ha⟩

theorem Mvs.step {S : List Int} {N j : Nat} {s : CN} {x : Int} (c : Mvs S N j s) (ha : Aim S s.h N x) : Mvs S N (j + 1) (moveZ s x).2 ∧ ∀ y, Aim S s.h N y → Aim S (moveZ s x).2.h N y := by
  have m := moveZ_keeps c.len c.nums c.fro ha
  have e1 := m.r0
  have e2 := m.r1
  have e3 := m.t0
  have e4 := m.t1
  have e5 := c.r0
  have e6 := c.r1
  have e7 := c.t0
  have e8 := c.t1
  have e9 := m.grow
  refine ⟨⟨m.len.trans c.len, m.nums, m.fro, by omega, by push_cast; omega, by omega, by omega⟩, fun y hy hy8 => ?_⟩
  obtain ⟨a1, a2, a3⟩ := hy hy8
  refine ⟨a1, a2, fun ho => a3 ?_⟩
  rw [m.h] at ho
  exact ho

theorem movesRun_mvs {S : List Int} {N j : Nat} {s : CN} {xs : List Int} (c : Mvs S N j s) (ha : ∀ i, i < xs.length → Aim S s.h N (xs.getD i 0)) : ∀ k, k ≤ xs.length → ∀ ys s', movesRun xs k s = some (ys, s') → Mvs S N (j + k) s' ∧ ys.length = xs.length ∧ ∀ i, k ≤ i → i < xs.length → ys.getD i 0 = xs.getD i 0 ∧ Aim S s'.h N (xs.getD i 0)
  | 0, _, ys, s', h => by
    cases h
    exact ⟨c, rfl, fun i _ hi => ⟨rfl, ha i hi⟩⟩
  | k + 1, hk, ys, s', h => by
    unfold movesRun at h
    cases h1 : movesRun xs k s with
    | none => rw [h1] at h; cases h
    | some r =>
      obtain ⟨zs, s1⟩ := r
      rw [h1] at h
      obtain ⟨c1, hl, hi⟩ := movesRun_mvs c ha k (by omega) zs s1 h1
      dsimp only at h
      obtain ⟨e1, e2⟩ := hi k (Nat.le_refl _) (by omega)
      rw [← e1] at e2
      obtain ⟨c2, hA⟩ := c1.step e2
      cases h2 : moveZ s1 (zs.getD k 0) with
      | mk o s2 =>
        rw [h2] at h c2 hA
        cases o with
        | none => cases h
        | some y =>
          cases h
          refine ⟨c2, by rw [List.length_set, hl], fun i h3 h4 => ?_⟩
          obtain ⟨f1, f2⟩ := hi i (by omega) h4
          refine ⟨?_, hA _ f2⟩
          rw [getD_set, if_neg (by omega)]
          exact f1

/-- Objects in use lie within their space. -/
theorem lay_used {ws S : List Int} {h : HpN} (ho : Ordered h ws.length) (hs : specLay ws h = some S) : ∀ a : Nat, inZ h (a : Int) = true → S.getD a 0 ≠ 0 → (a : Int) + S.getD a 0 ≤ h.to + h.size := by
  obtain ⟨o1, o2, o3, o4, o5, o6, o7, o8, o9, o10, o11, o12, o13⟩ := ho
  unfold specLay at hs
  intro a ha hS
  rw [inZ_iff] at ha
  cases h1 : lay ws h.to.toNat h.bottom.toNat (List.replicate ws.length 0) with
  | none => rw [h1] at hs; cases hs
  | some S1 =>
    rw [h1] at hs
    dsimp only at hs
    obtain ⟨a1, a2, a3, a4⟩ := lay_apart h1 (by simp; omega) (fun a b _ ha _ => absurd (zeros_getD _ a) ha) (fun a => by rw [zeros_getD]; omega) (fun a ha => absurd (zeros_getD _ a) ha)
    have a4' : ∀ a : Nat, S1.getD a 0 ≠ 0 → h.to.toNat ≤ a ∧ (a : Int) + S1.getD a 0 ≤ h.bottom.toNat := fun a ha => by
      rcases a4 a ha with ⟨j, _⟩ | j
      · exact absurd (zeros_getD _ a) j
      · exact j
    rw [List.length_replicate] at a3
    cases h2 : lay ws h.top.toNat (h.to + h.size).toNat S1 with
    | none => rw [h2] at hs; cases hs
    | some S2 =>
      rw [h2] at hs
      dsimp only at hs
      obtain ⟨b1, b2, b3, b4⟩ := lay_apart h2 (by omega) a1 a2 (fun a ha => by have := a4' a ha; omega)
      have b4' : ∀ a : Nat, S2.getD a 0 ≠ 0 → h.to.toNat ≤ a ∧ (a : Int) + S2.getD a 0 ≤ (h.to + h.size).toNat := fun a ha => by
        rcases b4 a ha with ⟨j1, j2⟩ | j
        · have := a4' a j1
          omega
        · omega
      by_cases hb : h.scan < h.bottom
      · rw [if_pos hb] at hs
        cases h3 : lay ws (h.size - h.to).toNat h.fb.toNat S2 with
        | none => rw [h3] at hs; cases hs
        | some S3 =>
          rw [h3] at hs
          dsimp only at hs
          have e1 := lay_else hs a (by omega)
          have e2 := lay_else h3 a (by omega)
          rw [e1, e2] at hS ⊢
          have := b4' a hS
          omega
      · rw [if_neg hb] at hs
        cases hs
        have := b4' a hS
        omega

/-- Behind a change of spaces words may be moved. -/
theorem mvs_start {ws ws' S : List Int} {h h' : HpN} (ok : OkHeap ws S h) (hsz : h'.size = h.size) (hto : h'.to = h.to) (hl : ws'.length = ws.length) (hd : ∀ a : Nat, inZ h (a : Int) = true → S.getD a 0 ≠ 0 → ws'.getD a 0 / 16 = S.getD a 0) {r t : Int} (hr : 0 ≤ r) (hr1 : r ≤ 40000) (ht : 0 ≤ t) (ht1 : t ≤ 40000) : Mvs S ws.length 0 ⟨ws', flipH h', r, t⟩ := by
  have hn := heads_noted ok.noted
  have hu := lay_used ok.ord ok.spec
  have hp := (lay_places ok.ord ok.spec).1
  obtain ⟨o1, o2, o3, o4, -⟩ := id ok.ord
  have hO : ∀ a : Nat, Old (flipH h') a → inZ h (a : Int) = true := fun a ha => by
    unfold Old flipH at ha
    dsimp only at ha
    rw [inZ_iff]
    omega
  refine ⟨hl, ⟨?_, ?_, ?_, ?_, ?_, ?_, ?_⟩, ⟨fun a ha hS => ⟨(hn.2 a hS).1, ?_, hd a (hO a ha) hS⟩, hp⟩, hr, ?_, ht, ?_⟩
  all_goals unfold flipH
  all_goals dsimp only
  all_goals try omega
  have := hu a (hO a ha) hS
  omega

theorem used_aim {ws S : List Int} {h h' : HpN} {x : Int} (ok : OkHeap ws S h) (hx : wordOkZ S h x = true) : Aim S (flipH h') ws.length x := by
  rw [used_same ok] at hx
  intro hx8
  obtain ⟨a1, a2, a3, a4⟩ := specLeads_at hx8 hx
  exact ⟨a1, a2, fun _ => a3⟩
end Go.Proofs.Ytjcdiehhooinkaa

/- The program changes the spaces and moves words. -/
namespace Go.Proofs.Ytjcdiehhooinkaa
open Go.RowKit

/-- All that was there is as it was, but for three blocks. -/
def Frm3 (w0 : World) (b1 b2 b3 : Nat) (W : World) : Prop := W.os = w0.os ∧ W.tape = w0.tape ∧ W.output = w0.output ∧ w0.heap.size ≤ W.heap.size ∧ ∀ g, g < w0.heap.size → g ≠ b1 → g ≠ b2 → g ≠ b3 → W.heap[g]? = w0.heap[g]?

theorem Frm3.refl (w : World) (b1 b2 b3 : Nat) : Frm3 w b1 b2 b3 w := ⟨rfl, rfl, rfl, Nat.le_refl _, fun _ _ _ _ _ => rfl⟩

theorem Frm3.step {w0 W W' : World} {b1 b2 b3 : Nat} (f : Frm3 w0 b1 b2 b3 W) (g : Frm W b1 b2 W') : Frm3 w0 b1 b2 b3 W' := by
  obtain ⟨f1, f2, f3, f4, f5⟩ := f
  exact ⟨g.os.trans f1, g.tape.trans f2, g.output.trans f3, Nat.le_trans f4 g.size, fun c hc h1 h2 h3 => (g.block c (Nat.lt_of_lt_of_le hc f4) h1 h2).trans (f5 c hc h1 h2 h3)⟩

theorem Frm3.trans {w0 W W' : World} {b1 b2 b3 : Nat} (f : Frm3 w0 b1 b2 b3 W) (g : Frm3 W b1 b2 b3 W') : Frm3 w0 b1 b2 b3 W' := by
  obtain ⟨f1, f2, f3, f4, f5⟩ := f
  obtain ⟨g1, g2, g3, g4, g5⟩ := g
  exact ⟨g1.trans f1, g2.trans f2, g3.trans f3, Nat.le_trans f4 g4, fun c hc h1 h2 h3 => (g5 c (Nat.lt_of_lt_of_le hc f4) h1 h2 h3).trans (f5 c hc h1 h2 h3)⟩

theorem Frm3.set {w0 W : World} {b1 b2 b3 : Nat} (f : Frm3 w0 b1 b2 b3 W) (i : Nat) (v : Value) : Frm3 w0 b1 b2 b3 (W.setCell ⟨b3, i, none⟩ v) := by
  obtain ⟨f1, f2, f3, f4, f5⟩ := f
  exact ⟨f1, f2, f3, by simpa [World.setCell] using f4, fun c hc h1 h2 h3 => (Below.heap_setCell _ _ _ _ h3).trans (f5 c hc h1 h2 h3)⟩

/-- A list of words in a row of its own. -/
theorem row_set {W : World} {g n : Nat} {xs : List Int} (hr : CellRow 3 W g n (intCells xs)) (hl : xs.length = n) {i : Nat} (hi : i < n) (x : Int) : CellRow 3 (W.setCell ⟨g, i, none⟩ (.int .i64 x)) g n (intCells (xs.set i x)) := by
  obtain ⟨N', f, hrow, hN', hf⟩ := hr
  exact ⟨N', _, hrow.set i _, hN', int_set xs i (by omega) x hf⟩

theorem Col.beside {w0 W : World} {bc bw N cap g : Nat} {ws : List Int} {h : HpN} {r t : Int} (c : Col w0 bc bw N cap ws h r t W) (h1 : g ≠ bc) (h2 : g ≠ bw) (i : Nat) (x : Value) : Col (W.setCell ⟨g, i, none⟩ x) bc bw N cap ws h r t (W.setCell ⟨g, i, none⟩ x) :=
  ⟨(Below.heap_setCell _ _ _ _ (fun e => h1 e.symm)).trans c.blk, c.row.of_block (Below.heap_setCell _ _ _ _ (fun e => h2 e.symm)), c.len, c.ne, Frm.refl _ _ _⟩

/-- What moving a list comes to. -/
def MovesPost (W : World) (bc bw N cap g n : Nat) (o : Option (List Int × CN)) (e : Ending) (w' : World) : Prop :=
  match o with
  | some (ys, s) => e = .returned (.bool true) ∧ ColAt w' bc bw N cap s w' ∧ CellRow 3 w' g n (intCells ys) ∧ Frm3 W bc bw g w'
  | none => e = .returned (.bool false) ∧ (∃ s, ColAt w' bc bw N cap s w') ∧ Frm3 W bc bw g w'

set_option maxHeartbeats 4000000 in
set_option maxRecDepth 100000 in
theorem moveAll_calls {w0 W : World} {bc bw N cap g n gcap j : Nat} {S : List Int} (s : CN) (c : ColAt w0 bc bw N cap s W) (hs : Mvs S N j s) (xs : List Int) (hl : xs.length = n) (hn : j + n ≤ 30) (hg1 : g ≠ bc) (hg2 : g ≠ bw) (hr : CellRow 3 W g n (intCells xs)) (ha : ∀ i, i < xs.length → Aim S s.h N (xs.getD i 0)) :
    Calls Try.prog 77 #[.pointer (some ⟨bc, 0, none⟩), .slice (some ⟨g, 0, none⟩) n gcap] W (MovesPost W bc bw N cap g n (movesRun xs n s)) := by
  have HC := hid (Col.rebase c W (Frm.refl _ _ _))
  have HRw := hid hr
  have HMv := hid (movesRun_mvs hs ha)
  obtain ⟨R, hR⟩ : ∃ R, movesRun xs n s = R := ⟨_, rfl⟩
  rw [hR]
  have HR := hid hR
  have HL := hid hl
  have HG1 := hid hg1
  have HG2 := hid hg2
  have HNn := hid hn
  clear c hr hR hs ha hl hg1 hg2 hn
  go_enter Try.func77, Try.ntmps77
  go_wp2_with fail
  go_loopw [11] (fun i wr => ∃ (ii : Int) (k : Nat) (ys : List Int) (s' : CN), i = .int .i64 ii ∧ Hid (ii = (k : Int) ∧ k ≤ n) ∧ Hid (movesRun xs k s = some (ys, s')) ∧ Hid (ColAt wr bc bw N cap s' wr) ∧ Hid (CellRow 3 wr g n (intCells ys)) ∧ Hid (Frm3 W bc bw g wr)) (fun i _ => n - (intOf i).toNat)
  case atStart => exact ⟨0, 0, xs, s, rfl, ⟨rfl, by omega⟩, rfl, HC.out, HRw.out, Frm3.refl _ _ _ _⟩
  case round =>
    obtain ⟨ii, k, ys, s', rfl, HQ, HK, HI, HRo, HF3⟩ := hrel
    clear HC HRw
    have hi0 : 0 ≤ ii := by have := HQ.out; omega
    by_cases hlt : ii < (n : Int)
    · have hkn : k < n := by have := HQ.out; omega
      obtain ⟨m1, m2, m3⟩ := HMv.out k (by have := HL.out; omega) ys s' HK.out
      obtain ⟨e1, e2⟩ := m3 k (Nat.le_refl _) (by have := HL.out; omega)
      rw [← e1] at e2
      obtain ⟨k2, k3, k4, k5, k6, k7, k8, k9, k10, k11, k12⟩ := m1.asks (by have := HNn.out; omega) e2
      have HMo := hid (move_calls s' HI.out (ys.getD k 0) k2 k3 k4 k5 k6 k7 k8 m1.r0 k9 m1.t0 k10 k11)
      have q0 := HRo.out.cell (i := k) hkn
      unfold intCells at q0
      obtain ⟨_, _, hrow, _, _⟩ := HRo.out
      have q1 := hrow.frozen k hkn
      have hik : ii.toNat = k := by have := HQ.out; omega
      have HLy : Hid (ys.length = n) := m2.trans HL.out
      obtain ⟨o, s2, hz⟩ : ∃ o s2, moveZ s' (ys.getD k 0) = (o, s2) := ⟨_, _, rfl⟩
      rw [hz] at HMo
      have HZ := hid hz
      clear hz m1 m2 m3 e1 e2 k2 k3 k4 k5 k6 k7 k8 k9 k10 k11 k12 hrow
      have hs : Hid (n - (intOf (.int .i64 (ii + 1))).toNat < n - (intOf (.int .i64 ii)).toNat) := by show _ < _; simp only [intOf]; have := HQ.out; omega
      cases o with
      | none =>
        dsimp only [moveV] at HMo
        have HF : Hid (R = none) := by
          have h1 := movesRun_none (movesRun_stop HK.out HZ.out) (n - (k + 1))
          rw [show k + 1 + (n - (k + 1)) = n by omega, HR.out] at h1
          exact h1
        go_wp2_with fail
        refine HMo.out.mono ?_
        rintro e W4 ⟨rfl, hC4⟩
        have HC4 := hid hC4
        clear hC4 HMo q0 q1
        go_wp2_with fail
        go_ret
        rw [HF.out]
        exact ⟨rfl, ⟨s2, HC4.out.rebase _ (Frm.refl _ _ _)⟩, HF3.out.step HC4.out.frame⟩
      | some y =>
        dsimp only [moveV] at HMo
        go_wp2_with fail
        refine HMo.out.mono ?_
        rintro e W4 ⟨rfl, hC4⟩
        have HC4 := hid hC4
        have hblk := hC4.frame.block g HRo.out.lt HG1.out HG2.out
        have HRo4 := hid (HRo.out.of_block hblk)
        have q0' : W4.cell? ⟨g, k, none⟩ = some (.int .i64 (ys.getD k 0)) := (World.cell?_of_block (w := wr) hblk).trans q0
        obtain ⟨_, _, hrow, _, _⟩ := HRo4.out
        have q1' := hrow.frozen k hkn
        clear hC4 HMo q0 q1 hrow hblk
        go_wp2_with fail
        have hw : wrap64 (ii + 1) = ii + 1 := by have := HQ.out; have := HNn.out; unfold wrap64; omega
        rw [hw]
        exact ⟨⟨ii + 1, k + 1, ys.set k y, s2, rfl, ⟨by have := HQ.out; push_cast; omega, by omega⟩, movesRun_more HK.out HZ.out, HC4.out.beside HG1.out HG2.out k _, row_set HRo4.out HLy.out hkn y, (HF3.out.step HC4.out.frame).set k _⟩, hs.out⟩
    · have hkn : k = n := by have := HQ.out; omega
      have HF : Hid (R = some (ys, s')) := by have h := HK.out; rw [hkn, HR.out] at h; exact h
      go_wp2_with fail
      go_ret
      rw [HF.out]
      exact ⟨rfl, HI.out, HRo.out, HF3.out⟩

theorem cell_off (W : World) (b : Nat) {i j : Nat} (h : i ≠ j) (v : Value) : (W.setCell ⟨b, i, none⟩ v).cell? ⟨b, j, none⟩ = W.cell? ⟨b, j, none⟩ :=
  World.cell?_setCell_other _ _ _ _ (fun e => h (by cases e; rfl))

theorem Col.toSet {w0 W : World} {bc bw N cap : Nat} {ws : List Int} {h : HpN} {r t : Int} (c : Col w0 bc bw N cap ws h r t W) (x : Int) : Col w0 bc bw N cap ws { h with to := x } r t (W.setCell ⟨bc, 2, none⟩ (.int .i64 x)) :=
  ⟨by simpa [ColBlk] using set_block c.blk 2 (.int .i64 x), c.row.of_block (Below.heap_setCell _ _ _ _ (fun e => c.ne e.symm)), c.len, c.ne, c.frame.set (Or.inl rfl) _⟩

theorem Col.topSet {w0 W : World} {bc bw N cap : Nat} {ws : List Int} {h : HpN} {r t : Int} (c : Col w0 bc bw N cap ws h r t W) (x : Int) : Col w0 bc bw N cap ws { h with top := x } r t (W.setCell ⟨bc, 4, none⟩ (.int .i64 x)) :=
  ⟨by simpa [ColBlk] using set_block c.blk 4 (.int .i64 x), c.row.of_block (Below.heap_setCell _ _ _ _ (fun e => c.ne e.symm)), c.len, c.ne, c.frame.set (Or.inl rfl) _⟩

theorem Col.fbSet {w0 W : World} {bc bw N cap : Nat} {ws : List Int} {h : HpN} {r t : Int} (c : Col w0 bc bw N cap ws h r t W) (x : Int) : Col w0 bc bw N cap ws { h with fb := x } r t (W.setCell ⟨bc, 6, none⟩ (.int .i64 x)) :=
  ⟨by simpa [ColBlk] using set_block c.blk 6 (.int .i64 x), c.row.of_block (Below.heap_setCell _ _ _ _ (fun e => c.ne e.symm)), c.len, c.ne, c.frame.set (Or.inl rfl) _⟩

theorem Col.ftSet {w0 W : World} {bc bw N cap : Nat} {ws : List Int} {h : HpN} {r t : Int} (c : Col w0 bc bw N cap ws h r t W) (x : Int) : Col w0 bc bw N cap ws { h with ft := x } r t (W.setCell ⟨bc, 7, none⟩ (.int .i64 x)) :=
  ⟨by simpa [ColBlk] using set_block c.blk 7 (.int .i64 x), c.row.of_block (Below.heap_setCell _ _ _ _ (fun e => c.ne e.symm)), c.len, c.ne, c.frame.set (Or.inl rfl) _⟩

theorem Col.flipsSet {w0 W : World} {bc bw N cap : Nat} {ws : List Int} {h : HpN} {r t : Int} (c : Col w0 bc bw N cap ws h r t W) (x : Int) : Col w0 bc bw N cap ws { h with flips := x } r t (W.setCell ⟨bc, 8, none⟩ (.int .i64 x)) :=
  ⟨by simpa [ColBlk] using set_block c.blk 8 (.int .i64 x), c.row.of_block (Below.heap_setCell _ _ _ _ (fun e => c.ne e.symm)), c.len, c.ne, c.frame.set (Or.inl rfl) _⟩

set_option maxHeartbeats 4000000 in
set_option maxRecDepth 100000 in
/-- The spaces change; then whatever list is moved. -/
theorem change_any {w0 W : World} {bc bw N cap : Nat} (s : CN) (c : ColAt w0 bc bw N cap s W) (h0 : 0 ≤ s.h.to) (h1 : s.h.to ≤ s.h.size) (h2 : s.h.size ≤ 4000) (v : Value) (Q : Bool → World → Prop)
    (hMA : ∀ X, ColAt X bc bw N cap { s with h := flipH s.h } X → Frm W bc bw X → Calls Try.prog 77 #[.pointer (some ⟨bc, 0, none⟩), v] X fun e w' => ∃ b, e = .returned (.bool b) ∧ Q b w') :
    Calls Try.prog 59 #[.pointer (some ⟨bc, 0, none⟩), v] W fun e w' => ∃ b, e = .returned (.bool b) ∧ Q b w' := by
  have HC := hid (Col.rebase c W (Frm.refl _ _ _))
  have HMA := hid hMA
  obtain ⟨c0, c1, c2, c3, c4, c5, c6, c7, c8, c9, c10, c11⟩ := c.blk.cells
  have hOt := hid (fun w => other_calls (.slice (some ⟨bw, 0, none⟩) N cap) { s.h with fb := s.h.bottom, ft := s.h.top } w h0 (show s.h.to ≤ 4000 by omega) (show 0 ≤ s.h.size by omega) h2)
  clear c hMA
  obtain ⟨ws, ⟨g1, g2, g3, g4, g5, g6, g7, g8, g9⟩, r, t⟩ := s
  unfold heapV at hOt
  dsimp only at *
  have f2 := frozen_of_heap HC.out.blk 2
  have f3 := frozen_of_heap HC.out.blk 3
  have f4 := frozen_of_heap HC.out.blk 4
  have f5 := frozen_of_heap HC.out.blk 5
  have f6 := frozen_of_heap HC.out.blk 6
  have f7 := frozen_of_heap HC.out.blk 7
  have f8 := frozen_of_heap HC.out.blk 8
  go_enter Try.func59, Try.ntmps59
  go_wp2_with fail
  go_region_held3 (fun w' => w'.cell? ⟨bc, 3, none⟩ = some (.int .i64 g3) ∧ w'.cell? ⟨bc, 4, none⟩ = some (.int .i64 g4)) (first | (refine ⟨(cell_off _ _ (by decide) _).trans c3, (cell_off _ _ (by decide) _).trans c4⟩) | (refine ⟨(cell_off _ _ (by decide) _).trans ((cell_off _ _ (by decide) _).trans c3), (cell_off _ _ (by decide) _).trans ((cell_off _ _ (by decide) _).trans c4)⟩) | (simp [*]; done)) (fail)
  have HC1 := hid (((HC.out.fbSet g3).ftSet g4).keep (Below.refl _ _).drew)
  generalize ((W.setCell ⟨bc, 6, none⟩ (.int .i64 g3)).setCell ⟨bc, 7, none⟩ (.int .i64 g4)).drew = W1 at *
  dsimp only at HC1
  obtain ⟨d0, d1, d2, d3, d4, d5, d6, d7, d8, d9, d10, d11⟩ := HC1.out.blk.cells
  dsimp only at d0 d1 d2 d3 d4 d5 d6 d7 d8 d9
  clear c0 c1 c2 c3 c4 c5 c6 c7 c8 c9 c10 c11 f2 f3 f4 f5 f6 f7 f8 HC
  go_wp2_with fail
  refine (hOt.out _).mono ?_
  rintro e W2 ⟨rfl, hb2⟩
  have HC2 := hid (HC1.out.keep hb2)
  have f2 := frozen_of_heap HC2.out.blk 2
  have d2' := HC2.out.blk.cells.2.2.1
  have d1' := HC2.out.blk.cells.2.1
  have HC3 := hid (HC2.out.toSet (g1 - g2))
  have d1b := HC3.out.blk.cells.2.1
  have d2b := HC3.out.blk.cells.2.2.1
  have f3 := frozen_of_heap HC3.out.blk 3
  have f4 := frozen_of_heap HC3.out.blk 4
  have f5 := frozen_of_heap HC3.out.blk 5
  have d3b := HC3.out.blk.cells.2.2.2.1
  have d4b := HC3.out.blk.cells.2.2.2.2.1
  have d5b := HC3.out.blk.cells.2.2.2.2.2.1
  dsimp only at d1' d2' d1b d2b d3b d4b d5b
  clear hb2 HC1 HC2 hOt d0 d1 d2 d3 d4 d5 d6 d7 d8 d9 d10 d11
  go_wp2_with fail
  generalize W2.setCell ⟨bc, 2, none⟩ (.int .i64 (g1 - g2)) = W3 at *
  go_region_held3 (fun w' => w'.cell? ⟨bc, 1, none⟩ = some (.int .i64 g1) ∧ w'.cell? ⟨bc, 2, none⟩ = some (.int .i64 (g1 - g2))) (first | (refine ⟨d1b, d2b⟩) | (refine ⟨(cell_off _ _ (by decide) _).trans (d1b), (cell_off _ _ (by decide) _).trans (d2b)⟩) | (refine ⟨(cell_off _ _ (by decide) _).trans ((cell_off _ _ (by decide) _).trans (d1b)), (cell_off _ _ (by decide) _).trans ((cell_off _ _ (by decide) _).trans (d2b))⟩) | (refine ⟨(cell_off _ _ (by decide) _).trans ((cell_off _ _ (by decide) _).trans ((cell_off _ _ (by decide) _).trans (d1b))), (cell_off _ _ (by decide) _).trans ((cell_off _ _ (by decide) _).trans ((cell_off _ _ (by decide) _).trans (d2b)))⟩) | (simp [*]; done)) (fail)
  have hw : IntKind.i64.wrap (g1 - g2 + g1) = g1 - g2 + g1 := by
    rw [IntKind.wrap_i64]
    omega
  rw [hw]
  have HC4 := hid ((((HC3.out.bottom (g1 - g2)).scanned (g1 - g2)).topSet (g1 - g2 + g1)).keep (Below.refl _ _).drew)
  generalize (((W3.setCell ⟨bc, 3, none⟩ (.int .i64 (g1 - g2))).setCell ⟨bc, 5, none⟩ (.int .i64 (g1 - g2))).setCell ⟨bc, 4, none⟩ (.int .i64 (g1 - g2 + g1))).drew = W4 at *
  have d8 := HC4.out.blk.cells.2.2.2.2.2.2.2.2.1
  have f8 := frozen_of_heap HC4.out.blk 8
  have HC5 := hid (HC4.out.flipsSet (wrap64 (g8 + 1)))
  dsimp only at d8 HC5
  clear HC3 HC4 hw d1b d2b d3b d4b d5b d1' d2' f2 f3 f4 f5
  go_wp2_with fail
  refine (HMA.out _ (HC5.out.rebase _ (Frm.refl _ _ _)) HC5.out.frame).mono ?_
  rintro e W6 ⟨b, rfl, hP⟩
  have HP := hid hP
  clear hP HMA HC5
  go_wp2_with fail
  go_ret
  exact ⟨b, rfl, HP.out⟩

theorem MovesPost.from {W X w' : World} {bc bw N cap g n : Nat} {o : Option (List Int × CN)} {e : Ending} (f : Frm W bc bw X) (h : MovesPost X bc bw N cap g n o e w') : MovesPost W bc bw N cap g n o e w' := by
  cases o with
  | none =>
    obtain ⟨h1, h2, h3⟩ := h
    exact ⟨h1, h2, ((Frm3.refl _ _ _ _).step f).trans h3⟩
  | some p =>
    obtain ⟨ys, s⟩ := p
    obtain ⟨h1, h2, h3, h4⟩ := h
    exact ⟨h1, h2, h3, ((Frm3.refl _ _ _ _).step f).trans h4⟩

theorem MovesPost.bool {W w' : World} {bc bw N cap g n : Nat} {o : Option (List Int × CN)} {e : Ending} (h : MovesPost W bc bw N cap g n o e w') : ∃ b, e = .returned (.bool b) := by
  cases o with
  | none => exact ⟨_, h.1⟩
  | some p => exact ⟨_, h.1⟩

theorem change_calls {w0 W : World} {bc bw N cap g n gcap : Nat} {S : List Int} (s : CN) (c : ColAt w0 bc bw N cap s W) (h0 : 0 ≤ s.h.to) (h1 : s.h.to ≤ s.h.size) (h2 : s.h.size ≤ 4000) (hs : Mvs S N 0 { s with h := flipH s.h }) (xs : List Int) (hl : xs.length = n) (hn : n ≤ 20) (hg1 : g ≠ bc) (hg2 : g ≠ bw) (hr : CellRow 3 W g n (intCells xs)) (ha : ∀ i, i < xs.length → Aim S (flipH s.h) N (xs.getD i 0)) :
    Calls Try.prog 59 #[.pointer (some ⟨bc, 0, none⟩), .slice (some ⟨g, 0, none⟩) n gcap] W (MovesPost W bc bw N cap g n (movesRun xs n { s with h := flipH s.h })) := by
  refine (change_any s c h0 h1 h2 (.slice (some ⟨g, 0, none⟩) n gcap) (fun b w' => MovesPost W bc bw N cap g n (movesRun xs n { s with h := flipH s.h }) (.returned (.bool b)) w') (fun X hX hf => ?_)).mono ?_
  · refine (moveAll_calls (gcap := gcap) { s with h := flipH s.h } hX hs xs hl (by omega) hg1 hg2 (hr.of_block (hf.block g hr.lt hg1 hg2)) ha).mono ?_
    intro e w' hP
    obtain ⟨b, rfl⟩ := hP.bool
    exact ⟨b, rfl, hP.from hf⟩
  · rintro e w' ⟨b, rfl, hP⟩
    exact hP

set_option maxRecDepth 100000 in
theorem moveAll_none {w0 W : World} {bc bw N cap c : Nat} {ad : Option Addr} {s : CN} (_hc : ColAt w0 bc bw N cap s W) :
    Calls Try.prog 77 #[.pointer (some ⟨bc, 0, none⟩), .slice ad 0 c] W fun e w' => e = .returned (.bool true) ∧ W = w' := by
  go_enter Try.func77, Try.ntmps77
  go_wp2_with fail
  refine wp_loop_rounds 1 ?_
  rw [rounds_succ]
  go_wp2_with fail
  go_ret
  exact ⟨rfl, rfl⟩
end Go.Proofs.Ytjcdiehhooinkaa

/- The specification changes the spaces and moves words. -/
namespace Go.Proofs.Ytjcdiehhooinkaa
open Go.RowKit

set_option maxRecDepth 100000 in
theorem sread_full {w0 W : World} {bm bw N cap : Nat} {s : CN} (c : Wk w0 bm bw N cap s true W) (i : Int) :
    Calls Try.prog 81 #[.pointer (some ⟨bm, 0, none⟩), .int .i64 i] W fun e w' => e = .returned (.int .i64 3) ∧ W = w' := by
  obtain ⟨-, -, -, -, -, -, -, -, -, -, c10⟩ := c.blk.cells
  have HMk := hid (fun w => specMake_calls 3 0 w)
  have HMz : Hid (makeZ 3 0 = 3) := by show _ = _; simp [makeZ, wrap64]
  rw [HMz.out] at HMk
  clear c
  go_enter Try.func81, Try.ntmps81
  go_wp2_with fail
  refine (HMk.out _).mono ?_
  rintro e w1 ⟨rfl, rfl⟩
  go_wp2_with fail
  go_ret
  exact ⟨rfl, rfl⟩

set_option maxHeartbeats 2000000 in
set_option maxRecDepth 100000 in
/-- Where there is no room any more a move changes nothing. -/
theorem smove_dead {w0 W : World} {bm bw N cap : Nat} {s : CN} (c : Wk w0 bm bw N cap s true W) (x : Int) (h0 : 0 ≤ s.h.to) (h1 : s.h.to ≤ s.h.size) (h3 : s.h.size ≤ 4000) (hb0 : 0 ≤ s.h.bottom) (hbt : s.h.bottom ≤ s.h.top) (hN : s.h.top ≤ 8000) :
    Calls Try.prog 71 #[.pointer (some ⟨bm, 0, none⟩), .int .i64 x] W fun e w' => (∃ z : Int, e = .returned (.int .i64 z)) ∧ Wk w0 bm bw N cap s true w' := by
  have HIo := hid (here_calls c x h0 (by omega) (by omega) h3)
  have HC := hid c
  clear c
  cases hh : hereZ s.h x with
  | true =>
    rw [hh] at HIo
    go_enter Try.func71, Try.ntmps71
    go_wp2_with fail
    refine HIo.out.mono ?_
    rintro e W1 ⟨rfl, hb1⟩
    have HC1 := hid (HC.out.keep hb1)
    clear hb1 HIo
    go_wp2_with fail
    go_ret
    exact ⟨⟨_, rfl⟩, HC1.out⟩
  | false =>
    rw [hh] at HIo
    have HNum := hid (fun w => specNum_calls x w)
    unfold numZ at HNum
    have HMk := hid (fun (y : Int) w => specMake_calls 0 y w)
    go_enter Try.func71, Try.ntmps71
    go_wp2_with fail
    refine HIo.out.mono ?_
    rintro e W1 ⟨rfl, hb1⟩
    have HC1 := hid (HC.out.keep hb1)
    have HRd := hid (fun i => sread_full HC1.out i)
    clear hb1 HIo HC
    go_wp2_with fail
    refine (HNum.out _).mono ?_
    rintro e W2 ⟨rfl, rfl⟩
    go_wp2_with fail
    refine (HRd.out _).mono ?_
    rintro e W3 ⟨rfl, rfl⟩
    obtain ⟨-, -, -, c3, c4, -, -, -, -, -, -⟩ := HC1.out.blk.cells
    have f3 := frozen_of_heap HC1.out.blk 3
    have hk : bits .and .i64 3 15 = 3 := rfl
    have HWr := hid (fun nq i y => swrite_full (HC1.out.keep (below_drewN (Below.refl _ _) nq)) i y)
    have HBs := hid (fun nq => (HC1.out.keep (below_drewN (Below.refl _ _) nq)).bottom s.h.bottom)
    generalize hbt' : s.h.bottom = bt at *
    generalize s.h.top = tp at *
    go_wp2_with fail
    go_quiet (fail)
    have HWr' := hid (HWr.out nq)
    have HBs' := hid (HBs.out nq)
    have c3' : (W1.drewN nq).cell? ⟨bm, 3, none⟩ = some (.int .i64 bt) := c3
    have f3' : (W1.drewN nq).frozen? ⟨bm, 3, none⟩ = false := f3
    clear HWr HBs c3 c4 f3 HRd HC1
    generalize W1.drewN nq = W4 at *
    go_wp2_with fail
    refine (HWr'.out _ _).mono ?_
    rintro e W5 ⟨rfl, rfl⟩
    go_wp2_with fail
    refine wp_loop_rounds 1 ?_
    rw [rounds_succ]
    have HS5 : Hid (Wk w0 bm bw N cap s true (W4.setCell ⟨bm, 3, none⟩ (.int .i64 bt))) := by
      have e := HBs'.out
      rw [← hbt'] at e ⊢
      exact e
    have HWs := hid (fun i y => swrite_full HS5.out i y)
    clear HBs'
    go_wp2_with fail
    refine (HWs.out _ _).mono ?_
    rintro e W6 ⟨rfl, rfl⟩
    go_wp2_with fail
    refine (HMk.out _ _).mono ?_
    rintro e W7 ⟨rfl, rfl⟩
    go_wp2_with fail
    refine (HWs.out _ _).mono ?_
    rintro e W8 ⟨rfl, rfl⟩
    go_wp2_with fail
    refine (HMk.out _ _).mono ?_
    rintro e W9 ⟨rfl, rfl⟩
    go_wp2_with fail
    go_ret
    exact ⟨⟨_, rfl⟩, HS5.out⟩

theorem Wk.beside {w0 W : World} {bm bw N cap g : Nat} {s : CN} {full : Bool} (c : Wk w0 bm bw N cap s full W) (h1 : g ≠ bm) (h2 : g ≠ bw) (i : Nat) (x : Value) : Wk (W.setCell ⟨g, i, none⟩ x) bm bw N cap s full (W.setCell ⟨g, i, none⟩ x) :=
  ⟨(Below.heap_setCell _ _ _ _ (fun e => h1 e.symm)).trans c.blk, c.row.of_block (Below.heap_setCell _ _ _ _ (fun e => h2 e.symm)), c.len, c.ne, Frm.refl _ _ _⟩

/-- What moving a list comes to on the specification's side. -/
def SMovesPost (W : World) (bm bw N cap g n : Nat) (o : Option (List Int × CN)) (e : Ending) (w' : World) : Prop :=
  e = .returned (.tuple #[]) ∧ Frm3 W bm bw g w' ∧ match o with
  | some (ys, s) => Wk w' bm bw N cap s false w' ∧ CellRow 3 w' g n (intCells ys)
  | none => (∃ s, Wk w' bm bw N cap s true w') ∧ ∃ ys : List Int, ys.length = n ∧ CellRow 3 w' g n (intCells ys)

theorem Wk.toSet {w0 W : World} {bm bw N cap : Nat} {s : CN} {full : Bool} (c : Wk w0 bm bw N cap s full W) (x : Int) : Wk w0 bm bw N cap { s with h := { s.h with to := x } } full (W.setCell ⟨bm, 2, none⟩ (.int .i64 x)) :=
  ⟨by simpa [WkBlk, touchZ] using set_block c.blk 2 (.int .i64 x), c.row.of_block (Below.heap_setCell _ _ _ _ (fun e => c.ne e.symm)), c.len, c.ne, c.frame.set (Or.inl rfl) _⟩

theorem Wk.topSet {w0 W : World} {bm bw N cap : Nat} {s : CN} {full : Bool} (c : Wk w0 bm bw N cap s full W) (x : Int) : Wk w0 bm bw N cap { s with h := { s.h with top := x } } full (W.setCell ⟨bm, 4, none⟩ (.int .i64 x)) :=
  ⟨by simpa [WkBlk, touchZ] using set_block c.blk 4 (.int .i64 x), c.row.of_block (Below.heap_setCell _ _ _ _ (fun e => c.ne e.symm)), c.len, c.ne, c.frame.set (Or.inl rfl) _⟩

theorem Wk.fbSet {w0 W : World} {bm bw N cap : Nat} {s : CN} {full : Bool} (c : Wk w0 bm bw N cap s full W) (x : Int) : Wk w0 bm bw N cap { s with h := { s.h with fb := x } } full (W.setCell ⟨bm, 6, none⟩ (.int .i64 x)) :=
  ⟨by simpa [WkBlk, touchZ] using set_block c.blk 6 (.int .i64 x), c.row.of_block (Below.heap_setCell _ _ _ _ (fun e => c.ne e.symm)), c.len, c.ne, c.frame.set (Or.inl rfl) _⟩

theorem Wk.ftSet {w0 W : World} {bm bw N cap : Nat} {s : CN} {full : Bool} (c : Wk w0 bm bw N cap s full W) (x : Int) : Wk w0 bm bw N cap { s with h := { s.h with ft := x } } full (W.setCell ⟨bm, 7, none⟩ (.int .i64 x)) :=
  ⟨by simpa [WkBlk, touchZ] using set_block c.blk 7 (.int .i64 x), c.row.of_block (Below.heap_setCell _ _ _ _ (fun e => c.ne e.symm)), c.len, c.ne, c.frame.set (Or.inl rfl) _⟩

theorem Wk.flipsSet {w0 W : World} {bm bw N cap : Nat} {s : CN} {full : Bool} (c : Wk w0 bm bw N cap s full W) (x : Int) : Wk w0 bm bw N cap { s with h := { s.h with flips := x } } full (W.setCell ⟨bm, 8, none⟩ (.int .i64 x)) :=
  ⟨by simpa [WkBlk, touchZ] using set_block c.blk 8 (.int .i64 x), c.row.of_block (Below.heap_setCell _ _ _ _ (fun e => c.ne e.symm)), c.len, c.ne, c.frame.set (Or.inl rfl) _⟩

set_option maxHeartbeats 4000000 in
set_option maxRecDepth 100000 in
theorem sflip_calls {w0 W : World} {bm bw N cap g n gcap : Nat} {S : List Int} {s : CN} (c : Wk w0 bm bw N cap s false W) (h0 : 0 ≤ s.h.to) (h1 : s.h.to ≤ s.h.size) (h2 : s.h.size ≤ 4000) (hs : Mvs S N 0 { s with h := flipH s.h }) (xs : List Int) (hl : xs.length = n) (hn : n ≤ 20) (hg1 : g ≠ bm) (hg2 : g ≠ bw) (hr : CellRow 3 W g n (intCells xs)) (ha : ∀ i, i < xs.length → Aim S (flipH s.h) N (xs.getD i 0)) :
    Calls Try.prog 58 #[.pointer (some ⟨bm, 0, none⟩), .slice (some ⟨g, 0, none⟩) n gcap] W (SMovesPost W bm bw N cap g n (movesRun xs n { s with h := flipH s.h })) := by
  have HC := hid (Wk.rebase c W (Frm.refl _ _ _))
  have HRw := hid hr
  have HMv := hid (movesRun_mvs hs ha)
  obtain ⟨R, hR⟩ : ∃ R, movesRun xs n { s with h := flipH s.h } = R := ⟨_, rfl⟩
  rw [hR]
  have HR := hid hR
  have HL := hid hl
  have HG1 := hid hg1
  have HG2 := hid hg2
  have HNn := hid hn
  obtain ⟨c0, c1, c2, c3, c4, c5, c6, c7, c8, c9, c10⟩ := c.blk.cells
  have hFr := hid (fun w => specFrom_calls (.slice (some ⟨bw, 0, none⟩) N cap) { s.h with touched := touchZ s } w h0 (show s.h.to ≤ 4000 by omega) (show 0 ≤ s.h.size by omega) h2)
  have f2 := frozen_of_heap HC.out.blk 2
  have f3 := frozen_of_heap HC.out.blk 3
  have f4 := frozen_of_heap HC.out.blk 4
  have f5 := frozen_of_heap HC.out.blk 5
  have f6 := frozen_of_heap HC.out.blk 6
  have f7 := frozen_of_heap HC.out.blk 7
  have f8 := frozen_of_heap HC.out.blk 8
  clear c hr hR hs ha hl hg1 hg2 hn
  obtain ⟨ws, ⟨g1, g2, g3, g4, g5, g6, g7, g8, g9⟩, r, t⟩ := s
  unfold heapV at hFr
  dsimp only at *
  generalize hTau : touchZ ⟨ws, ⟨g1, g2, g3, g4, g5, g6, g7, g8, g9⟩, r, t⟩ = tau at hFr c9
  clear hTau
  go_enter Try.func58, Try.ntmps58
  go_wp2_with fail
  refine (hFr.out _).mono ?_
  rintro e W1 ⟨rfl, hb1⟩
  have HC1 := hid (HC.out.keep hb1)
  have HC2 := hid (((((((HC1.out.fbSet g3).ftSet g4).toSet (g1 - g2)).bottom (g1 - g2)).scanned (g1 - g2)).topSet (g1 - g2 + g1)).flipsSet (wrap64 (g8 + 1)))
  clear c0 c1 c2 c3 c4 c5 c6 c7 c8 c9 c10 f2 f3 f4 f5 f6 f7 f8 hb1 hFr HC
  obtain ⟨-, c1, c2, c3, c4, c5, c6, c7, c8, -, -⟩ := HC1.out.blk.cells
  have f2 := frozen_of_heap HC1.out.blk 2
  have f3 := frozen_of_heap HC1.out.blk 3
  have f4 := frozen_of_heap HC1.out.blk 4
  have f5 := frozen_of_heap HC1.out.blk 5
  have f6 := frozen_of_heap HC1.out.blk 6
  have f7 := frozen_of_heap HC1.out.blk 7
  have f8 := frozen_of_heap HC1.out.blk 8
  dsimp only at c1 c2 c3 c4 c5 c6 c7 c8 HC2
  clear HC1
  go_wp2_with fail
  have HC3 : Hid (Wk _ bm bw N cap ⟨ws, flipH ⟨g1, g2, g3, g4, g5, g6, g7, g8, g9⟩, r, t⟩ false _) := HC2.out
  have HRw3 := hid (HRw.out.of_block (HC3.out.frame.block g HRw.out.lt HG1.out HG2.out))
  have HF3 := hid ((Frm3.refl W bm bw g).step HC3.out.frame)
  have HC4 := hid (HC3.out.rebase _ (Frm.refl _ _ _))
  clear HC2 HC3 HRw c1 c2 c3 c4 c5 c6 c7 c8 f2 f3 f4 f5 f6 f7 f8
  generalize (((((((W1.setCell ⟨bm, 6, none⟩ (.int .i64 g3)).setCell ⟨bm, 7, none⟩ (.int .i64 g4)).setCell ⟨bm, 2, none⟩ (.int .i64 (g1 - g2))).setCell ⟨bm, 3, none⟩ (.int .i64 (g1 - g2))).setCell ⟨bm, 5, none⟩ (.int .i64 (g1 - g2))).setCell ⟨bm, 4, none⟩ (.int .i64 (g1 - g2 + g1))).setCell ⟨bm, 8, none⟩ (.int .i64 (wrap64 (g8 + 1)))) = W2 at *
  generalize (⟨ws, flipH ⟨g1, g2, g3, g4, g5, g6, g7, g8, g9⟩, r, t⟩ : CN) = s1 at *
  go_loopw [5] (fun i wr => ∃ (ii : Int) (k : Nat), i = .int .i64 ii ∧ Hid (ii = (k : Int) ∧ k ≤ n) ∧ Hid (Frm3 W bm bw g wr) ∧ ((∃ ys s', Hid (movesRun xs k s1 = some (ys, s')) ∧ Hid (Wk wr bm bw N cap s' false wr) ∧ Hid (CellRow 3 wr g n (intCells ys))) ∨ (Hid (movesRun xs k s1 = none) ∧ (∃ s', Hid (Wk wr bm bw N cap s' true wr) ∧ Hid (0 ≤ s'.h.to ∧ s'.h.to ≤ s'.h.size ∧ s'.h.size ≤ 4000 ∧ 0 ≤ s'.h.bottom ∧ s'.h.bottom ≤ s'.h.top ∧ s'.h.top ≤ 8000)) ∧ ∃ ys : List Int, Hid (ys.length = n) ∧ Hid (CellRow 3 wr g n (intCells ys))))) (fun i _ => n - (intOf i).toNat)
  case atStart => exact ⟨0, 0, rfl, ⟨rfl, by omega⟩, HF3.out, Or.inl ⟨xs, s1, rfl, HC4.out, HRw3.out⟩⟩
  case round =>
    obtain ⟨ii, k, rfl, HQ, HF, hcase⟩ := hrel
    clear HC4 HRw3 HF3
    have hi0 : 0 ≤ ii := by have := HQ.out; omega
    by_cases hlt : ii < (n : Int)
    · have hkn : k < n := by have := HQ.out; omega
      have hik : ii.toNat = k := by have := HQ.out; omega
      have hw : Hid (wrap64 (ii + 1) = ii + 1) := by have := HQ.out; have := HNn.out; show _ = _; unfold wrap64; omega
      have hs : Hid (n - (intOf (.int .i64 (ii + 1))).toNat < n - (intOf (.int .i64 ii)).toNat) := by show _ < _; simp only [intOf]; have := HQ.out; omega
      rcases hcase with ⟨ys, s', HK, HI, HRo⟩ | ⟨HK, ⟨s', HI, HB⟩, ys, HLy, HRo⟩
      · obtain ⟨m1, m2, m3⟩ := HMv.out k (by have := HL.out; omega) ys s' HK.out
        obtain ⟨e1, e2⟩ := m3 k (Nat.le_refl _) (by have := HL.out; omega)
        rw [← e1] at e2
        have hm2 := m1.step e2
        obtain ⟨k2, k3, k4, k5, k6, k7, k8, k9, k10, k11, k12⟩ := m1.asks (by have := HNn.out; omega) e2
        have HMo := hid (smove_calls HI.out (ys.getD k 0) k2 k3 k4 k5 k6 k7 k8 k11 k12)
        have q0 := HRo.out.cell (i := k) hkn
        unfold intCells at q0
        have HLy : Hid (ys.length = n) := m2.trans HL.out
        obtain ⟨o, s2, hz⟩ : ∃ o s2, moveZ s' (ys.getD k 0) = (o, s2) := ⟨_, _, rfl⟩
        rw [hz] at HMo hm2
        have HZ := hid hz
        have HN2 := hid hm2.1.nums
        clear hz m1 m2 m3 e1 e2 k2 k3 k4 k5 k6 k7 k8 k9 k10 k11 k12 hm2
        go_wp2_with fail
        refine HMo.out.mono ?_
        rintro e W4 ⟨rfl, hC4⟩
        have HC4 := hid hC4
        have hblk := hC4.frame.block g HRo.out.lt HG1.out HG2.out
        have HRo4 := hid (HRo.out.of_block hblk)
        have q0' : W4.cell? ⟨g, k, none⟩ = some (.int .i64 (ys.getD k 0)) := (World.cell?_of_block (w := wr) hblk).trans q0
        obtain ⟨_, _, hrow, _, _⟩ := HRo4.out
        have q1' := hrow.frozen k hkn
        clear hC4 HMo q0 hrow hblk
        cases o with
        | some y =>
          dsimp only [smoveV]
          go_wp2_with fail
          rw [hw.out]
          exact ⟨⟨ii + 1, k + 1, rfl, ⟨by have := HQ.out; push_cast; omega, by omega⟩, (HF.out.step HC4.out.frame).set k _, Or.inl ⟨ys.set k y, s2, movesRun_more HK.out HZ.out, HC4.out.beside HG1.out HG2.out k _, row_set HRo4.out HLy.out hkn y⟩⟩, hs.out⟩
        | none =>
          dsimp only [smoveV]
          have HSt := hid (movesRun_stop HK.out HZ.out)
          have HBd : Hid (0 ≤ s2.h.to ∧ s2.h.to ≤ s2.h.size ∧ s2.h.size ≤ 4000 ∧ 0 ≤ s2.h.bottom ∧ s2.h.bottom ≤ s2.h.top ∧ s2.h.top ≤ 8000) := by
            have o1 := HN2.out.s0
            have o2 := HN2.out.s1
            have o4 := HN2.out.to
            have o5 := HN2.out.b0
            have o6 := HN2.out.bt
            have o7 := HN2.out.te
            exact ⟨by omega, by omega, o2, by omega, o6, by omega⟩
          clear HZ
          generalize ys.getD k 0 = y at *
          go_wp2_with fail
          rw [hw.out]
          exact ⟨⟨ii + 1, k + 1, rfl, ⟨by have := HQ.out; push_cast; omega, by omega⟩, (HF.out.step HC4.out.frame).set k _, Or.inr ⟨HSt.out, ⟨s2, HC4.out.beside HG1.out HG2.out k _, HBd.out⟩, ys.set k y, by show _ = _; rw [List.length_set]; exact HLy.out, row_set HRo4.out HLy.out hkn y⟩⟩, hs.out⟩
      · obtain ⟨b1, b2, b3, b4, b5, b6⟩ := HB.out
        have HMo := hid (smove_dead HI.out (ys.getD k 0) b1 b2 b3 b4 b5 b6)
        have q0 := HRo.out.cell (i := k) hkn
        unfold intCells at q0
        clear b1 b2 b3 b4 b5 b6
        generalize ys.getD k 0 = x at *
        go_wp2_with fail
        refine HMo.out.mono ?_
        rintro e W4 ⟨⟨y, rfl⟩, hC4⟩
        have HC4 := hid hC4
        have hblk := hC4.frame.block g HRo.out.lt HG1.out HG2.out
        have HRo4 := hid (HRo.out.of_block hblk)
        have q0' : W4.cell? ⟨g, k, none⟩ = some (.int .i64 x) := (World.cell?_of_block (w := wr) hblk).trans q0
        obtain ⟨_, _, hrow, _, _⟩ := HRo4.out
        have q1' := hrow.frozen k hkn
        clear hC4 HMo q0 hrow hblk
        go_wp2_with fail
        rw [hw.out]
        exact ⟨⟨ii + 1, k + 1, rfl, ⟨by have := HQ.out; push_cast; omega, by omega⟩, (HF.out.step HC4.out.frame).set k _, Or.inr ⟨movesRun_none HK.out 1, ⟨s', HC4.out.beside HG1.out HG2.out k _, HB.out⟩, ys.set k y, by show _ = _; rw [List.length_set]; exact HLy.out, row_set HRo4.out HLy.out hkn y⟩⟩, hs.out⟩
    · have hkn : k = n := by have := HQ.out; omega
      rcases hcase with ⟨ys, s', HK, HI, HRo⟩ | ⟨HK, ⟨s', HI, HB⟩, ys, HLy, HRo⟩
      · have HFi : Hid (R = some (ys, s')) := by have h := HK.out; rw [hkn, HR.out] at h; exact h
        go_wp2_with fail
        go_end0
        rw [HFi.out]
        exact ⟨rfl, HF.out, HI.out, HRo.out⟩
      · have HFi : Hid (R = none) := by have h := HK.out; rw [hkn, HR.out] at h; exact h
        go_wp2_with fail
        go_end0
        rw [HFi.out]
        exact ⟨rfl, HF.out, ⟨s', HI.out⟩, ys, HLy.out, HRo.out⟩
end Go.Proofs.Ytjcdiehhooinkaa

/- The program asks whether words lead to objects in use. -/
namespace Go.Proofs.Ytjcdiehhooinkaa
open Go.RowKit

def implRoots (S : List Int) (h : HpN) (xs : List Int) : Bool := (List.range xs.length).all (fun k => wordOkZ S h (xs.getD k 0))

theorem roots_same {ws S : List Int} {h : HpN} (ok : OkHeap ws S h) (xs : List Int) : implRoots S h xs = (List.range xs.length).all (fun k => specLeads ws S h (xs.getD k 0) false) := by
  unfold implRoots
  simp only [used_same ok]

set_option maxRecDepth 100000 in
theorem okClosure_calls (b off cap gb N P : Nat) (ws S : List Int) (h : HpN) (x : Int) (w : World) (ho : Ordered h N) (hs : ISt b off gb N ws S w) (hP : LayBlk w P (.slice (some ⟨b, off, none⟩) N cap) h (.slice (some ⟨gb, 0, none⟩) N N)) :
    Calls Try.prog 74 #[.int .i64 x, .pointer (some ⟨P, 0, none⟩)] w fun e w' => e = .returned (.bool (!wordOkZ S h x)) ∧ Below w.heap.size w w' := by
  have HW := hid (wordOk_st (gcap := N) hs (.slice (some ⟨b, off, none⟩) N cap) h ho x)
  obtain ⟨c0, c1, c2, c3, c4, c5, c6, c7, c8, c9, c10⟩ := hP.cells
  clear hP hs ho
  obtain ⟨g1, g2, g3, g4, g5, g6, g7, g8, g9⟩ := h
  unfold layV at HW
  dsimp only at *
  go_enter Try.func74, Try.ntmps74
  go_wp2_with fail
  refine HW.out.mono ?_
  rintro e w2 ⟨rfl, hb2⟩
  go_wp2_with fail
  go_ret
  exact ⟨rfl, hb2⟩

theorem all_yes2 {P : Nat → Bool} {m : Nat} (H : ∀ k, k < m → P k = true) : (List.range m).all P = true := by
  rw [List.all_eq_true]
  exact fun k hk => H k (List.mem_range.1 hk)

theorem all_no2 {P : Nat → Bool} {m j : Nat} (hj : j < m) (hf : P j = false) : (List.range m).all P = false := by
  rw [List.all_eq_false]
  exact ⟨j, List.mem_range.2 hj, by simp [hf]⟩

set_option maxHeartbeats 1000000 in
set_option maxRecDepth 100000 in
theorem okIndex_calls (ad : Option Addr) (c b off cap gb N P : Nat) (ws S : List Int) (h : HpN) (xs : List Int) (w : World) (ho : Ordered h N) (hs : ISt b off gb N ws S w) (hP : LayBlk w P (.slice (some ⟨b, off, none⟩) N cap) h (.slice (some ⟨gb, 0, none⟩) N N)) (hv : IntSlice w (.slice ad xs.length c) xs) (hm : xs.length ≤ 20) :
    Calls Try.prog 91 #[.slice ad xs.length c, .func (.func 74) #[] #[.pointer (some ⟨P, 0, none⟩)]] w fun e w' => (∃ r : Int, e = .returned (.int .i64 r) ∧ decide (0 ≤ r) = !implRoots S h xs) ∧ Below w.heap.size w w' := by
  have HC := hid (fun (X : World) (hX : Below w.heap.size w X) (x : Int) => okClosure_calls b off cap gb N P ws S h x X ho (hs.kept hX) (hP.below hX))
  have HV := hid hv
  obtain ⟨len, hlen⟩ : ∃ len, xs.length = len := ⟨_, rfl⟩
  have Hlen := hid hlen
  have HM : Hid (len ≤ 20) := by show _ ≤ _; omega
  obtain ⟨R, hR⟩ : ∃ R, implRoots S h xs = R := ⟨_, rfl⟩
  have HR := hid hR
  rw [hlen, hR]
  rw [hlen] at HV
  clear hlen hR hm hv hs hP ho
  go_enter Try.func91, Try.ntmps91
  go_wp2_with fail
  go_loopw [8] (fun i wr => ∃ (ii : Int) (k : Nat), i = .int .i64 ii ∧ Hid (ii = (k : Int) ∧ k ≤ len) ∧ Hid (∀ j, j < k → wordOkZ S h (xs.getD j 0) = true) ∧ Hid (Below w.heap.size w wr)) (fun i _ => len - (intOf i).toNat)
  case atStart => exact ⟨0, 0, rfl, ⟨rfl, by omega⟩, fun j hj => by omega, Below.refl _ _⟩
  case round =>
    obtain ⟨ii, k, rfl, HQ, HA, HB⟩ := hrel
    have hi0 : 0 ≤ ii := by have := HQ.out; omega
    by_cases hlt : ii < (len : Int)
    · have hkn : k < len := by have := HQ.out; omega
      have hik : ii.toNat = k := by have := HQ.out; omega
      obtain ⟨ad', c', e, hh⟩ := HV.out
      have hl2 := Hlen.out
      obtain ⟨rfl, -, rfl⟩ : ad = ad' ∧ len = xs.length ∧ c = c' := by cases e; exact ⟨rfl, hl2.symm, rfl⟩
      have hkx : k < xs.length := by omega
      obtain ⟨b', o', rfl, hb', hc⟩ := hh.resolve_left (fun h => by rw [h] at hkx; cases hkx)
      have q0 := (HB.out.cell (p := ⟨b', o' + k, none⟩) hb').trans (hc k (by omega))
      clear hh hc hb' e
      have HL := hid (HC.out wr HB.out (xs.getD k 0))
      obtain ⟨y, hy⟩ : ∃ y, wordOkZ S h (xs.getD k 0) = y := ⟨_, rfl⟩
      rw [hy] at HL
      have HY := hid hy
      clear hy
      generalize hx : xs.getD k 0 = x at *
      clear hl2
      go_wp2_with fail
      refine HL.out.mono ?_
      rintro e w2 ⟨rfl, hb2⟩
      have HB2 := hid (HB.out.trans (hb2.mono HB.out.size))
      clear hb2 HL q0
      cases y with
      | false =>
        have HF : Hid (R = false) := by
          show _ = _
          rw [← HR.out]
          unfold implRoots
          exact all_no2 (j := k) hkx (by rw [hx]; exact HY.out)
        go_wp2_with fail
        go_ret
        exact ⟨⟨_, rfl, by rw [HF.out]; exact decide_eq_true hi0⟩, HB2.out⟩
      | true =>
        go_wp2_with fail
        have hw : wrap64 (ii + 1) = ii + 1 := by have := HQ.out; have := HM.out; unfold wrap64; omega
        try rw [hw]
        have hs : len - (intOf (.int .i64 (ii + 1))).toNat < len - (intOf (.int .i64 ii)).toNat := by simp only [intOf]; omega
        refine ⟨⟨ii + 1, k + 1, rfl, ⟨by have := HQ.out; push_cast; omega, by omega⟩, fun j hj => ?_, HB2.out⟩, hs⟩
        by_cases hjk : j = k
        · rw [hjk, hx]
          exact HY.out
        · exact HA.out j (by omega)
    · have HF : Hid (R = true) := by
        show _ = _
        rw [← HR.out]
        unfold implRoots
        exact all_yes2 (fun j hj => HA.out j (by have := HQ.out; have := Hlen.out; omega))
      go_wp2_with fail
      go_ret
      exact ⟨⟨-1, rfl, by rw [HF.out]; rfl⟩, HB.out⟩

set_option maxHeartbeats 1000000 in
set_option maxRecDepth 100000 in
theorem allOk_calls (ad : Option Addr) (c b off cap gb N : Nat) (ws S : List Int) (h : HpN) (xs : List Int) (w : World) (ho : Ordered h N) (hs : ISt b off gb N ws S w) (hv : IntSlice w (.slice ad xs.length c) xs) (hm : xs.length ≤ 20) :
    Calls Try.prog 47 #[layV (.slice (some ⟨b, off, none⟩) N cap) h (.slice (some ⟨gb, 0, none⟩) N N), .slice ad xs.length c] w fun e w' => e = .returned (.bool (implRoots S h xs)) ∧ Below w.heap.size w w' := by
  have hL := LayBlk.new w (.slice (some ⟨b, off, none⟩) N cap) h (.slice (some ⟨gb, 0, none⟩) N N)
  have k1 := (Below.refl w.heap.size w).alloc (Nat.le_refl _) (.cells #[.slice (some ⟨b, off, none⟩) N cap, .int .i64 h.size, .int .i64 h.to, .int .i64 h.bottom, .int .i64 h.top, .int .i64 h.scan, .int .i64 h.fb, .int .i64 h.ft, .int .i64 h.flips, .int .i64 h.touched, .slice (some ⟨gb, 0, none⟩) N N] 59)
  have HX := hid (okIndex_calls ad c b off cap gb N w.heap.size ws S h xs _ ho (hs.kept k1) hL (hv.below k1) hm)
  have HK := hid k1
  clear hL k1 hs hv hm ho
  obtain ⟨g1, g2, g3, g4, g5, g6, g7, g8, g9⟩ := h
  generalize implRoots S ⟨g1, g2, g3, g4, g5, g6, g7, g8, g9⟩ xs = R at *
  generalize xs.length = len at *
  unfold layV
  dsimp only at *
  generalize hW : w.alloc (.cells #[.slice (some ⟨b, off, none⟩) N cap, .int .i64 g1, .int .i64 g2, .int .i64 g3, .int .i64 g4, .int .i64 g5, .int .i64 g6, .int .i64 g7, .int .i64 g8, .int .i64 g9, .slice (some ⟨gb, 0, none⟩) N N] 59) = W1 at *
  have HY : Hid (Calls Try.prog 73 #[.slice ad len c, .func (.func 74) #[] #[.pointer (some ⟨w.heap.size, 0, none⟩)]] W1 fun e w' => e = .returned (.bool (!R)) ∧ Below w.heap.size w w') := by
    show Calls _ _ _ _ _
    go_enter Try.func73, Try.ntmps73
    go_wp2_with fail
    refine HX.out.mono ?_
    rintro e w2 ⟨⟨r, rfl, hr⟩, hb2⟩
    have Hr : Hid (decide (0 ≤ r) = !R) := hr
    have HB := hid (HK.out.trans (hb2.mono HK.out.size))
    clear hr hb2
    go_wp2_with fail
    go_ret
    exact ⟨by rw [← Hr.out]; rfl, HB.out⟩
  clear HX
  have HW := hid hW
  clear hW
  go_enter Try.func47, Try.ntmps47
  go_wp2_with fail
  rw [HW.out]
  refine HY.out.mono ?_
  rintro e w2 ⟨rfl, hb2⟩
  have HB := hid hb2
  clear hb2 HY
  cases R
  all_goals
    go_wp2_with fail
    go_ret
    exact ⟨rfl, HB.out⟩

set_option maxHeartbeats 1000000 in
set_option maxRecDepth 100000 in
theorem rootsOk_calls (ad : Option Addr) (c b off cap gb N : Nat) (ws S : List Int) (h : HpN) (xs : List Int) (w : World) (ho : Ordered h N) (hs : ISt b off gb N ws S w) (hv : IntSlice w (.slice ad xs.length c) xs) (hm : xs.length ≤ 1048576) :
    Calls Try.prog 46 #[layV (.slice (some ⟨b, off, none⟩) N cap) h (.slice (some ⟨gb, 0, none⟩) N N), .slice ad xs.length c] w fun e w' => e = .returned (.bool (decide (xs.length ≤ 20) && implRoots S h xs)) ∧ Below w.heap.size w w' := by
  have k1 := (Below.refl w.heap.size w).alloc (Nat.le_refl _) (.cells #[.slice (some ⟨b, off, none⟩) N cap, .int .i64 h.size, .int .i64 h.to, .int .i64 h.bottom, .int .i64 h.top, .int .i64 h.scan, .int .i64 h.fb, .int .i64 h.ft, .int .i64 h.flips, .int .i64 h.touched, .slice (some ⟨gb, 0, none⟩) N N] 59)
  have HX := hid (fun hm => allOk_calls ad c b off cap gb N ws S h xs _ ho (hs.kept k1) (hv.below k1) hm)
  have HX0 := hid (fun hm => allOk_calls ad c b off cap gb N ws S h xs _ ho hs hv hm)
  have HK := hid k1
  clear k1 hs hv ho
  obtain ⟨g1, g2, g3, g4, g5, g6, g7, g8, g9⟩ := h
  generalize implRoots S ⟨g1, g2, g3, g4, g5, g6, g7, g8, g9⟩ xs = R at *
  generalize xs.length = len at *
  unfold layV at *
  dsimp only at *
  by_cases h20 : (len : Int) ≤ 20
  · rw [decide_eq_true (show len ≤ 20 by omega), Bool.true_and]
    go_enter Try.func46, Try.ntmps46
    go_wp2_with fail
    first
      | refine (HX.out (by omega)).mono ?_
      | refine (HX0.out (by omega)).mono ?_
    rintro e w2 ⟨rfl, hb2⟩
    have HB := hid (HK.out.trans (hb2.mono HK.out.size))
    clear hb2
    go_wp2_with fail
    go_ret
    exact ⟨rfl, HB.out⟩
  · rw [decide_eq_false (show ¬ len ≤ 20 by omega), Bool.false_and]
    go_enter Try.func46, Try.ntmps46
    go_wp2_with fail
    go_ret
    exact ⟨rfl, by first | exact HK.out | exact Below.refl _ _⟩
end Go.Proofs.Ytjcdiehhooinkaa
