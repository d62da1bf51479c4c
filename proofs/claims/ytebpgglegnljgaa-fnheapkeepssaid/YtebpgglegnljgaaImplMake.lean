/- The program makes an object. -/
import Derived.Test.YtebpgglegnljgaaMakeRun
import Derived.Test.YtebpgglegnljgaaImplFlip
import Derived.Test.YtebpgglegnljgaaStagesC
namespace Go.Proofs.Ytebpgglegnljgaa
open Go.RowKit

/-- All that was there is as it was, but for four blocks. -/
def Frm4 (w0 : World) (b1 b2 b3 b4 : Nat) (W : World) : Prop := W.os = w0.os ∧ W.tape = w0.tape ∧ W.output = w0.output ∧ w0.heap.size ≤ W.heap.size ∧ ∀ g, g < w0.heap.size → g ≠ b1 → g ≠ b2 → g ≠ b3 → g ≠ b4 → W.heap[g]? = w0.heap[g]?

theorem Frm.four {w0 W : World} {b1 b2 : Nat} (f : Frm w0 b1 b2 W) (b3 b4 : Nat) : Frm4 w0 b1 b2 b3 b4 W := ⟨f.os, f.tape, f.output, f.size, fun g hg h1 h2 _ _ => f.block g hg h1 h2⟩

theorem Frm3.four {w0 W : World} {b1 b2 b3 : Nat} (f : Frm3 w0 b1 b2 b3 W) (b4 : Nat) : Frm4 w0 b1 b2 b3 b4 W := by
  obtain ⟨f1, f2, f3, f4, f5⟩ := f
  exact ⟨f1, f2, f3, f4, fun g hg h1 h2 h3 _ => f5 g hg h1 h2 h3⟩

theorem Frm3.four' {w0 W : World} {b1 b2 b4 : Nat} (f : Frm3 w0 b1 b2 b4 W) (b3 : Nat) : Frm4 w0 b1 b2 b3 b4 W := by
  obtain ⟨f1, f2, f3, f4, f5⟩ := f
  exact ⟨f1, f2, f3, f4, fun g hg h1 h2 _ h4 => f5 g hg h1 h2 h4⟩

theorem Frm4.trans {w0 W W' : World} {b1 b2 b3 b4 : Nat} (f : Frm4 w0 b1 b2 b3 b4 W) (g : Frm4 W b1 b2 b3 b4 W') : Frm4 w0 b1 b2 b3 b4 W' := by
  obtain ⟨f1, f2, f3, f4, f5⟩ := f
  obtain ⟨g1, g2, g3, g4, g5⟩ := g
  exact ⟨g1.trans f1, g2.trans f2, g3.trans f3, Nat.le_trans f4 g4, fun c hc h1 h2 h3 h4 => (g5 c (Nat.lt_of_lt_of_le hc f4) h1 h2 h3 h4).trans (f5 c hc h1 h2 h3 h4)⟩

/-- What making an object comes to. -/
def NewPost (W : World) (bc bw N cap g n gf : Nat) (o : Option (List Int × CN)) (e : Ending) (w' : World) : Prop :=
  match o with
  | some (rs, s) => e = .returned (.tuple #[.int .i64 (makeZ 0 s.h.top), .bool true]) ∧ ColAt w' bc bw N cap s w' ∧ CellRow 3 w' g n (intCells rs) ∧ Frm4 W bc bw g gf w'
  | none => e = .returned (.tuple #[.int .i64 0, .bool false]) ∧ Frm4 W bc bw g gf w'

set_option maxRecDepth 100000 in
theorem head_any (n : Nat) (hn : n = 3 ∨ n = 6) (kind : Int) (h0 : 0 ≤ kind) (h1 : kind ≤ 15) (w : World) : Calls Try.prog 73 #[.int .i64 kind, .int .i64 (n : Int)] w fun e w' => e = .returned (.int .i64 ((n : Int) * 16 + kind)) ∧ w = w' := by
  rcases hn with rfl | rfl
  · go_enter Try.func73, Try.ntmps73
    go_wp2
    go_ret
    exact ⟨rfl, rfl⟩
  · go_enter Try.func73, Try.ntmps73
    go_wp2
    go_ret
    exact ⟨rfl, rfl⟩

theorem Col.topAt {w0 W : World} {bc bw N cap : Nat} {s : CN} (c : ColAt w0 bc bw N cap s W) (x : Int) : ColAt w0 bc bw N cap { s with h := { s.h with top := x } } (W.setCell ⟨bc, 4, none⟩ (.int .i64 x)) := Col.topSet c x

set_option maxHeartbeats 4000000 in
set_option maxRecDepth 100000 in
theorem iNew_scan {W : World} {bc bw N cap g n gc gf nf fc : Nat} {kind m : Int} (n1 : Int) (hn1 : wrap64 (1 + (nf : Int)) = n1)
    (HLk : Hid (Calls Try.prog 50 #[.pointer (some ⟨bc, 0, none⟩), .int .i64 m] W (LookPost W bc bw N cap none))) :
    Calls Try.prog 44 #[.pointer (some ⟨bc, 0, none⟩), .slice (some ⟨g, 0, none⟩) n gc, .int .i64 kind, .slice (some ⟨gf, 0, none⟩) nf fc, .int .i64 m] W (NewPost W bc bw N cap g n gf none) := by
  go_enter Try.func44, Try.ntmps44
  go_wp2_with fail
  refine HLk.out.mono ?_
  rintro e W1 ⟨rfl, s1, hC1⟩
  have HF := hid (Col.frame hC1)
  clear hC1 HLk
  go_wp2_with fail
  go_ret2
  exact ⟨rfl, HF.out.four _ _⟩

set_option maxHeartbeats 1600000 in
set_option maxRecDepth 100000 in
theorem iNew_room {W : World} {bc bw N cap g n gc gf nf fc : Nat} {kind m : Int} (n1 : Int) (hn1 : wrap64 (1 + (nf : Int)) = n1) (s1 : CN)
    (HLk : Hid (Calls Try.prog 50 #[.pointer (some ⟨bc, 0, none⟩), .int .i64 m] W (LookPost W bc bw N cap (some s1))))
    (fs rs : List Int) (hl : fs.length = nf) (HNf : Hid (nf = 2 ∨ nf = 5)) (HK : Hid (0 ≤ kind ∧ kind ≤ 15)) (hg1 : gf ≠ bc) (hg2 : gf ≠ bw) (hq1 : g ≠ bc) (hq2 : g ≠ bw)
    (HRf : Hid (CellRow 3 W gf nf (intCells fs))) (HRr : Hid (CellRow 3 W g n (intCells rs))) (PK : Hid (PutOk N (1 + nf) s1))
    (HRm : Hid (∀ w0 X, ColAt w0 bc bw N cap s1 X → Calls Try.prog 70 #[.pointer (some ⟨bc, 0, none⟩), .int .i64 n1] X fun e w' => e = .returned (.bool true) ∧ Below X.heap.size X w')) :
    Calls Try.prog 44 #[.pointer (some ⟨bc, 0, none⟩), .slice (some ⟨g, 0, none⟩) n gc, .int .i64 kind, .slice (some ⟨gf, 0, none⟩) nf fc, .int .i64 m] W (NewPost W bc bw N cap g n gf (some (rs, putZ kind fs s1))) := by
  go_enter Try.func44, Try.ntmps44
  go_wp2_with fail
  refine HLk.out.mono ?_
  rintro e W1 ⟨rfl, hC1⟩
  have HC1 := hid hC1
  clear hC1 HLk
  go_wp2_with fail
  refine stage_begin (S := fun w' => ∃ x : Later W1.heap.size W1, w' = x.w) (by kernel_rfl) ?_
  refine stage_walk (by kernel_rfl) 28 0 _ _ (by kernel_rfl) ⟨⟨W1.drew, (Below.refl _ _).drew⟩, rfl⟩ ?_
  simp only [List.drop_zero, List.take_succ_cons, List.take_zero]
  repeat (go_big_quiet_step (first | (rename_i y; go_at_call 70; refine (HRm.out _ _ (Col.keep HC1.out y.h)).mono ?_; rintro e w5 ⟨rfl, hb5⟩; exact ⟨rfl, ⟨w5, y.h.trans (hb5.mono y.h.size)⟩, rfl⟩)))
  refine wpQuiet_nil ?_
  rintro w6 ⟨y, rfl⟩
  refine stage_end (by kernel_rfl) ?_
  have HC2 := hid (Col.keep HC1.out y.h)
  generalize y.w = W2 at *
  clear y HC1
  go_wp2_with fail
  refine (HRm.out _ _ HC2.out).mono ?_
  rintro e T3 ⟨rfl, hb3⟩
  have HC3 := hid (Col.keep HC2.out hb3)
  have c4 := (Col.blk HC3.out).cells.2.2.2.2.1
  have f4 := frozen_of_heap (Col.blk HC3.out) 4
  obtain ⟨an, han⟩ : ∃ an : Nat, s1.h.top = (an : Int) + (1 + nf : Nat) := ⟨(s1.h.top - (1 + nf : Nat)).toNat, by have := PK.out.room; have := PK.out.b0; omega⟩
  have Han := hid han
  obtain ⟨ai, hai⟩ : ∃ ai : Int, ai = (an : Int) := ⟨_, rfl⟩
  have Hai := hid hai
  have hat : wrap64 (s1.h.top - n1) = ai := by have := PK.out.top; have := PK.out.N1; have := hn1; have := HNf.out; unfold wrap64 at *; omega
  have HC4 := hid (Col.topAt HC3.out ai)
  have HL := hid hl
  have Hn1 := hid hn1
  obtain ⟨tp, htp⟩ : ∃ tp, s1.h.top = tp := ⟨_, rfl⟩
  have Htp := hid htp
  rw [htp] at c4 hat
  clear hb3 HC2 han hl hn1 htp hai
  go_wp2_with fail
  have hnn : n1 = ((1 + nf : Nat) : Int) := by have := Hn1.out; have := HNf.out; unfold wrap64 at *; omega
  obtain ⟨hv, hhv⟩ : ∃ hv : Int, ((1 + nf : Nat) : Int) * 16 + kind = hv := ⟨_, rfl⟩
  have HHd : Hid (∀ w, Calls Try.prog 73 #[.int .i64 kind, .int .i64 n1] w fun e w' => e = .returned (.int .i64 hv) ∧ w = w') := fun w => by rw [hnn, ← hhv]; exact head_any (1 + nf) (by have := HNf.out; omega) kind HK.out.1 HK.out.2 w
  have HS4 : Hid (headZ kind (1 + nf) an s1 = ⟨s1.ws.set an hv, { s1.h with top := ai }, s1.r, s1.t + 1⟩) := by show _ = _; rw [← hhv, Hai.out]; rfl
  have hanN : an < N := by have := PK.out.top; have := Han.out; omega
  have HWr := hid (fun (X : World) (hX : ColAt W bc bw N cap { s1 with h := { s1.h with top := ai } } X) => show Calls Try.prog 72 #[.pointer (some ⟨bc, 0, none⟩), .int .i64 ai, .int .i64 hv] X (fun e w' => e = .returned (.tuple #[]) ∧ ColAt W bc bw N cap ⟨s1.ws.set an hv, { s1.h with top := ai }, s1.r, s1.t + 1⟩ w') from by
    have e := write_calls hX hanN hv PK.out.t0 (by have := PK.out.t1; dsimp only; omega)
    rw [← Hai.out] at e
    exact e)
  generalize T3.setCell ⟨bc, 4, none⟩ (.int .i64 ai) = T4 at *
  have c4' : ∀ y : Later T4.heap.size T4, y.w.cell? ⟨bc, 4, none⟩ = some (.int .i64 ai) := fun y => y.cell (heap_lt (Col.blk HC4.out)) (Col.blk HC4.out).cells.2.2.2.2.1
  clear c4 f4 HC3 hat hhv hnn
  refine till_begin (c := 9) (S := fun w' => ∃ x : Later T4.heap.size T4, w' = x.w) (by kernel_rfl) ?_
  refine till_walk (by kernel_rfl) 9 0 _ _ (by kernel_rfl) (by kernel_rfl) ⟨⟨T4.drew, (Below.refl _ _).drew⟩, rfl⟩ ?_
  simp only [List.drop_zero, List.take_succ_cons, List.take_zero]
  repeat (go_big_quiet_step (first | (rename_i y; go_at_call 73; refine (HHd.out _).mono ?_; rintro e w5 ⟨rfl, rfl⟩; exact ⟨rfl, y, rfl⟩)))
  refine wpQuiet_nil ?_
  rintro w5 ⟨x1, rfl⟩
  refine till_enter (c := 9) (f := 72) (args := #[.pointer (some ⟨bc, 0, none⟩), .int .i64 ai, .int .i64 hv]) rfl (by kernel_rfl) rfl (by simp [go_sem]) ?_
  refine (HWr.out _ (Col.keep HC4.out x1.h)).mono ?_
  rintro e T5 ⟨rfl, hC5⟩
  refine ⟨_, rfl, ?_⟩
  have HC5 : Hid (ColAt W bc bw N cap (headZ kind (1 + nf) an s1) T5) := by rw [HS4.out]; exact hC5
  clear hC5 HC4 c4' HWr HHd HS4 x1
  refine any_frame (by simp [go_sem]; exact rfl) ?_
  refine any_stage (fun _ => True) ?_
  refine stage_end (by kernel_rfl) ?_
  obtain ⟨s5, hs5⟩ : ∃ s5, headZ kind (1 + nf) an s1 = s5 := ⟨_, rfl⟩
  rw [hs5] at HC5
  have Hs5 := hid hs5
  have HT5 : Hid (s5.h.top = ai ∧ 0 ≤ s5.t ∧ s5.t ≤ 70001 ∧ an + 1 + nf ≤ N ∧ N ≤ 8000) := by
    have := PK.out.t0
    have := PK.out.t1
    have := PK.out.top
    have := PK.out.N1
    have := Han.out
    show _ ∧ _
    have := Hai.out
    have := Htp.out
    rw [← hs5]
    unfold headZ
    dsimp only
    omega
  clear hs5
  go_wp2_with fail
  go_loopw [76] (fun i wr => ∃ (ii : Int) (k : Nat), i = .int .i64 ii ∧ Hid (ii = (k : Int) ∧ k ≤ nf) ∧ Hid (ColAt W bc bw N cap (writesRun fs an k s5) wr)) (fun i _ => nf - (intOf i).toNat)
  case atStart => exact ⟨0, 0, rfl, ⟨rfl, by omega⟩, HC5.out⟩
  case round =>
    obtain ⟨ii, k, rfl, HQ, HI⟩ := hrel
    have hi0 : 0 ≤ ii := by have := HQ.out; omega
    obtain ⟨k1, k2, k3, k4⟩ := writesRun_keeps fs an s5 k
    have c4 := (Col.blk HI.out).cells.2.2.2.2.1
    rw [k2, HT5.out.1] at c4
    by_cases hlt : ii < (nf : Int)
    · have hkn : k < nf := by have := HQ.out; omega
      have hik : ii.toNat = k := by have := HQ.out; omega
      have q0 := (HRf.out.of_block ((Col.frame HI.out).block gf HRf.out.lt hg1 hg2)).cell (i := k) hkn
      unfold intCells at q0
      obtain ⟨z1, hw1⟩ : ∃ z1, wrap64 (ai + 1) = z1 := ⟨_, rfl⟩
      obtain ⟨z2, hw2⟩ : ∃ z2, wrap64 (z1 + ii) = z2 := ⟨_, rfl⟩
      have hz2 : z2 = ((an + 1 + k : Nat) : Int) := by have := HT5.out; have := HQ.out; have := Hai.out; rw [← hw2, ← hw1]; unfold wrap64; omega
      have HWk := hid (write_calls HI.out (i := an + 1 + k) (by have := HT5.out; omega) (fs.getD k 0) (by rw [k4]; have := HT5.out; omega) (by rw [k4]; have := HT5.out; have := HNf.out; omega))
      rw [← hz2] at HWk
      have hsd : Hid (nf - (intOf (.int .i64 (ii + 1))).toNat < nf - (intOf (.int .i64 ii)).toNat) := by show _ < _; simp only [intOf]; have := HQ.out; omega
      obtain ⟨fk, hfk⟩ : ∃ fk, fs.getD k 0 = fk := ⟨_, rfl⟩
      rw [hfk] at q0 HWk
      have Hfk := hid hfk
      clear hfk
      clear k1 k2 k3 k4 hz2
      go_wp2_with fail
      refine HWk.out.mono ?_
      rintro e T6 ⟨rfl, hC6⟩
      have HC6 := hid hC6
      clear hC6 HWk q0 c4 HI
      go_wp2_with fail
      have hw : wrap64 (ii + 1) = ii + 1 := by have := HQ.out; have := HNf.out; unfold wrap64; omega
      rw [hw]
      exact ⟨⟨ii + 1, k + 1, rfl, ⟨by have := HQ.out; push_cast; omega, by omega⟩, by have e := HC6.out; rw [← Hfk.out] at e; exact e⟩, hsd.out⟩
    · have hkn : k = nf := by have := HQ.out; omega
      have HIf := HI
      have HPt : Hid (writesRun fs an k s5 = putZ kind fs s1) := by
        show _ = _
        unfold putZ
        rw [hkn, ← Hs5.out, HL.out, Htp.out, show (tp - ((1 + nf : Nat) : Int)).toNat = an by have := Han.out; have := Htp.out; omega]
      have HTp : Hid ((putZ kind fs s1).h.top = ai) := by show _ = _; rw [← HPt.out, k2]; exact HT5.out.1
      have HMk := hid (fun w => implMake_calls 0 ai w)
      go_wp2_with fail
      refine (HMk.out _).mono ?_
      rintro e T7 ⟨rfl, rfl⟩
      go_wp2_with fail
      go_ret2
      refine ⟨by rw [HTp.out]; rfl, ?_, HRr.out.of_block ((Col.frame HIf.out).block g HRr.out.lt hq1 hq2), (Col.frame HIf.out).four _ _⟩
      rw [← HPt.out]
      exact Col.rebase HIf.out _ (Frm.refl _ _ _)

set_option maxHeartbeats 1600000 in
set_option maxRecDepth 100000 in
theorem iNew_late {W : World} {bc bw N cap g n gc gf nf fc : Nat} {kind m : Int} (n1 : Int) (hn1 : wrap64 (1 + (nf : Int)) = n1) (s1 : CN)
    (HLk : Hid (Calls Try.prog 50 #[.pointer (some ⟨bc, 0, none⟩), .int .i64 m] W (LookPost W bc bw N cap (some s1))))
    (hne : (s1.h.scan == s1.h.bottom) = false)
    (HRm : Hid (∀ w0 X, ColAt w0 bc bw N cap s1 X → Calls Try.prog 70 #[.pointer (some ⟨bc, 0, none⟩), .int .i64 n1] X fun e w' => e = .returned (.bool false) ∧ Below X.heap.size X w')) :
    Calls Try.prog 44 #[.pointer (some ⟨bc, 0, none⟩), .slice (some ⟨g, 0, none⟩) n gc, .int .i64 kind, .slice (some ⟨gf, 0, none⟩) nf fc, .int .i64 m] W (NewPost W bc bw N cap g n gf none) := by
  go_enter Try.func44, Try.ntmps44
  go_wp2_with fail
  refine HLk.out.mono ?_
  rintro e W1 ⟨rfl, hC1⟩
  have HC1 := hid hC1
  clear hC1 HLk
  go_wp2_with fail
  have c3 : ∀ y : Later W1.heap.size W1, y.w.cell? ⟨bc, 3, none⟩ = some (.int .i64 s1.h.bottom) := fun y => y.cell (heap_lt (Col.blk HC1.out)) (Col.blk HC1.out).cells.2.2.2.1
  have c5 : ∀ y : Later W1.heap.size W1, y.w.cell? ⟨bc, 5, none⟩ = some (.int .i64 s1.h.scan) := fun y => y.cell (heap_lt (Col.blk HC1.out)) (Col.blk HC1.out).cells.2.2.2.2.2.1
  generalize s1.h.bottom = bt at *
  generalize s1.h.scan = sc at *
  refine stage_begin (S := fun w' => ∃ x : Later W1.heap.size W1, w' = x.w) (by kernel_rfl) ?_
  refine stage_walk (by kernel_rfl) 28 0 _ _ (by kernel_rfl) ⟨⟨W1.drew, (Below.refl _ _).drew⟩, rfl⟩ ?_
  simp only [List.drop_zero, List.take_succ_cons, List.take_zero]
  repeat (go_big_quiet_step (first | (rename_i y; go_at_call 70; refine (HRm.out _ _ (Col.keep HC1.out y.h)).mono ?_; rintro e w5 ⟨rfl, hb5⟩; exact ⟨rfl, ⟨w5, y.h.trans (hb5.mono y.h.size)⟩, rfl⟩)))
  refine wpQuiet_nil ?_
  rintro w6 ⟨y, rfl⟩
  refine stage_end (by kernel_rfl) ?_
  have HC2 := hid (Col.keep HC1.out y.h)
  generalize y.w = W2 at *
  clear y HC1
  go_wp2_with fail
  refine (HRm.out _ _ HC2.out).mono ?_
  rintro e W3 ⟨rfl, hb3⟩
  have HF3 := hid (Col.frame (Col.keep HC2.out hb3))
  clear hb3 HC2
  go_wp2_with fail
  go_ret2
  exact ⟨rfl, HF3.out.four _ _⟩

set_option maxHeartbeats 1600000 in
set_option maxRecDepth 100000 in
theorem iNew_roots {W : World} {bc bw N cap g n gc gf nf fc : Nat} {kind m : Int} (n1 : Int) (hn1 : wrap64 (1 + (nf : Int)) = n1) (s1 : CN)
    (HLk : Hid (Calls Try.prog 50 #[.pointer (some ⟨bc, 0, none⟩), .int .i64 m] W (LookPost W bc bw N cap (some s1))))
    (fs rs : List Int) (hg1 : gf ≠ bc) (hg2 : gf ≠ bw) (hq1 : g ≠ bc) (hq2 : g ≠ bw)
    (HRf : Hid (CellRow 3 W gf nf (intCells fs))) (HRr : Hid (CellRow 3 W g n (intCells rs)))
    (heq : (s1.h.scan == s1.h.bottom) = true)
    (HRm : Hid (∀ w0 X, ColAt w0 bc bw N cap s1 X → Calls Try.prog 70 #[.pointer (some ⟨bc, 0, none⟩), .int .i64 n1] X fun e w' => e = .returned (.bool false) ∧ Below X.heap.size X w'))
    (HCh : Hid (∀ w0 X, ColAt w0 bc bw N cap s1 X → CellRow 3 X g n (intCells rs) → Calls Try.prog 48 #[.pointer (some ⟨bc, 0, none⟩), .slice (some ⟨g, 0, none⟩) n gc] X (MovesPost X bc bw N cap g n none))) :
    Calls Try.prog 44 #[.pointer (some ⟨bc, 0, none⟩), .slice (some ⟨g, 0, none⟩) n gc, .int .i64 kind, .slice (some ⟨gf, 0, none⟩) nf fc, .int .i64 m] W (NewPost W bc bw N cap g n gf none) := by
  go_enter Try.func44, Try.ntmps44
  go_wp2_with fail
  refine HLk.out.mono ?_
  rintro e W1 ⟨rfl, hC1⟩
  have HC1 := hid hC1
  clear hC1 HLk
  go_wp2_with fail
  have c3 : ∀ y : Later W1.heap.size W1, y.w.cell? ⟨bc, 3, none⟩ = some (.int .i64 s1.h.bottom) := fun y => y.cell (heap_lt (Col.blk HC1.out)) (Col.blk HC1.out).cells.2.2.2.1
  have c5 : ∀ y : Later W1.heap.size W1, y.w.cell? ⟨bc, 5, none⟩ = some (.int .i64 s1.h.scan) := fun y => y.cell (heap_lt (Col.blk HC1.out)) (Col.blk HC1.out).cells.2.2.2.2.2.1
  have HRr1 := hid (HRr.out.of_block ((Col.frame HC1.out).block g HRr.out.lt hq1 hq2))
  have HRf1 := hid (HRf.out.of_block ((Col.frame HC1.out).block gf HRf.out.lt hg1 hg2))
  generalize s1.h.bottom = bt at *
  generalize s1.h.scan = sc at *
  refine till_begin (c := 20) (S := fun w' => ∃ x : Later W1.heap.size W1, w' = x.w) (by kernel_rfl) ?_
  refine till_walk (by kernel_rfl) 20 0 _ _ (by kernel_rfl) (by kernel_rfl) ⟨⟨W1.drew, (Below.refl _ _).drew⟩, rfl⟩ ?_
  simp only [List.drop_zero, List.take_succ_cons, List.take_zero]
  repeat (go_big_quiet_step (first | (rename_i y; go_at_call 70; refine (HRm.out _ _ (Col.keep HC1.out y.h)).mono ?_; rintro e w5 ⟨rfl, hb5⟩; exact ⟨rfl, ⟨w5, y.h.trans (hb5.mono y.h.size)⟩, rfl⟩)))
  refine wpQuiet_nil ?_
  rintro w5 ⟨x1, rfl⟩
  refine till_enter (c := 20) (f := 48) (args := #[.pointer (some ⟨bc, 0, none⟩), .slice (some ⟨g, 0, none⟩) n gc]) rfl (by kernel_rfl) rfl (by simp [go_sem]) ?_
  refine (HCh.out _ _ (Col.keep HC1.out x1.h) (HRr1.out.of_block (x1.h.block g HRr1.out.lt))).mono ?_
  intro e W2 hP
  have HX1 := hid (Col.frame (Col.keep HC1.out x1.h))
  have HRfx := hid (HRf1.out.of_block (x1.h.block gf HRf1.out.lt))
  clear c3 c5 HC1 HCh HRr1 HRf1
  obtain ⟨rfl, -, hf⟩ := hP
  refine ⟨_, rfl, ?_⟩
  have HF2 := hid ((HX1.out.four g gf).trans (hf.four gf))
  clear hf
  refine any_frame (by simp [go_sem]; exact rfl) ?_
  refine any_stage (fun w' => ∃ x : Later W2.heap.size W2, w' = x.w) ?_
  refine stage_walk (by kernel_rfl) 7 21 _ _ (by kernel_rfl) ⟨⟨W2, Below.refl _ _⟩, rfl⟩ ?_
  simp only [List.drop_zero, List.drop_succ_cons, List.take_succ_cons, List.take_zero]
  repeat (go_big_quiet_step (fail))
  refine wpQuiet_nil ?_
  rintro w6 ⟨y, rfl⟩
  refine stage_end (by kernel_rfl) ?_
  have HF3 := hid (HF2.out.trans ((Frm.of_below y.h).four _ _))
  generalize y.w = W3 at *
  go_wp2_with fail
  go_ret2
  exact ⟨rfl, HF3.out⟩

set_option maxHeartbeats 1600000 in
set_option maxRecDepth 100000 in
theorem iNew_fields {W : World} {bc bw N cap g n gc gf nf fc : Nat} {kind m : Int} (n1 : Int) (hn1 : wrap64 (1 + (nf : Int)) = n1) (s1 : CN)
    (HLk : Hid (Calls Try.prog 50 #[.pointer (some ⟨bc, 0, none⟩), .int .i64 m] W (LookPost W bc bw N cap (some s1))))
    (fs rs rs' : List Int) (s2 : CN) (hg1 : gf ≠ bc) (hg2 : gf ≠ bw) (hq1 : g ≠ bc) (hq2 : g ≠ bw) (hgg : gf ≠ g)
    (HRf : Hid (CellRow 3 W gf nf (intCells fs))) (HRr : Hid (CellRow 3 W g n (intCells rs)))
    (heq : (s1.h.scan == s1.h.bottom) = true)
    (HRm : Hid (∀ w0 X, ColAt w0 bc bw N cap s1 X → Calls Try.prog 70 #[.pointer (some ⟨bc, 0, none⟩), .int .i64 n1] X fun e w' => e = .returned (.bool false) ∧ Below X.heap.size X w'))
    (HCh : Hid (∀ w0 X, ColAt w0 bc bw N cap s1 X → CellRow 3 X g n (intCells rs) → Calls Try.prog 48 #[.pointer (some ⟨bc, 0, none⟩), .slice (some ⟨g, 0, none⟩) n gc] X (MovesPost X bc bw N cap g n (some (rs', s2)))))
    (HMa : Hid (∀ w0 X, ColAt w0 bc bw N cap s2 X → CellRow 3 X gf nf (intCells fs) → Calls Try.prog 71 #[.pointer (some ⟨bc, 0, none⟩), .slice (some ⟨gf, 0, none⟩) nf fc] X (MovesPost X bc bw N cap gf nf none))) :
    Calls Try.prog 44 #[.pointer (some ⟨bc, 0, none⟩), .slice (some ⟨g, 0, none⟩) n gc, .int .i64 kind, .slice (some ⟨gf, 0, none⟩) nf fc, .int .i64 m] W (NewPost W bc bw N cap g n gf none) := by
  go_enter Try.func44, Try.ntmps44
  go_wp2_with fail
  refine HLk.out.mono ?_
  rintro e W1 ⟨rfl, hC1⟩
  have HC1 := hid hC1
  clear hC1 HLk
  go_wp2_with fail
  have c3 : ∀ y : Later W1.heap.size W1, y.w.cell? ⟨bc, 3, none⟩ = some (.int .i64 s1.h.bottom) := fun y => y.cell (heap_lt (Col.blk HC1.out)) (Col.blk HC1.out).cells.2.2.2.1
  have c5 : ∀ y : Later W1.heap.size W1, y.w.cell? ⟨bc, 5, none⟩ = some (.int .i64 s1.h.scan) := fun y => y.cell (heap_lt (Col.blk HC1.out)) (Col.blk HC1.out).cells.2.2.2.2.2.1
  have HRr1 := hid (HRr.out.of_block ((Col.frame HC1.out).block g HRr.out.lt hq1 hq2))
  have HRf1 := hid (HRf.out.of_block ((Col.frame HC1.out).block gf HRf.out.lt hg1 hg2))
  generalize s1.h.bottom = bt at *
  generalize s1.h.scan = sc at *
  refine till_begin (c := 20) (S := fun w' => ∃ x : Later W1.heap.size W1, w' = x.w) (by kernel_rfl) ?_
  refine till_walk (by kernel_rfl) 20 0 _ _ (by kernel_rfl) (by kernel_rfl) ⟨⟨W1.drew, (Below.refl _ _).drew⟩, rfl⟩ ?_
  simp only [List.drop_zero, List.take_succ_cons, List.take_zero]
  repeat (go_big_quiet_step (first | (rename_i y; go_at_call 70; refine (HRm.out _ _ (Col.keep HC1.out y.h)).mono ?_; rintro e w5 ⟨rfl, hb5⟩; exact ⟨rfl, ⟨w5, y.h.trans (hb5.mono y.h.size)⟩, rfl⟩)))
  refine wpQuiet_nil ?_
  rintro w5 ⟨x1, rfl⟩
  refine till_enter (c := 20) (f := 48) (args := #[.pointer (some ⟨bc, 0, none⟩), .slice (some ⟨g, 0, none⟩) n gc]) rfl (by kernel_rfl) rfl (by simp [go_sem]) ?_
  refine (HCh.out _ _ (Col.keep HC1.out x1.h) (HRr1.out.of_block (x1.h.block g HRr1.out.lt))).mono ?_
  intro e W2 hP
  have HX1 := hid (Col.frame (Col.keep HC1.out x1.h))
  have HRfx := hid (HRf1.out.of_block (x1.h.block gf HRf1.out.lt))
  clear c3 c5 HC1 HCh HRr1 HRf1
  obtain ⟨rfl, hC2, hr2, hf⟩ := hP
  have HC2 := hid hC2
  have HRr2 := hid hr2
  have HF2 := hid ((HX1.out.four g gf).trans (hf.four gf))
  have hblk := hf.2.2.2.2 gf HRfx.out.lt hg1 hg2 hgg
  have HRf2 := hid (HRfx.out.of_block hblk)
  refine ⟨_, rfl, ?_⟩
  clear hf hC2 hr2 HX1 HRfx hblk
  refine any_frame (by simp [go_sem]; exact rfl) ?_
  refine any_till (fun w' => ∃ x : Later W2.heap.size W2, w' = x.w) 24 ?_
  refine till_walk (by kernel_rfl) 3 21 _ _ (by kernel_rfl) (by kernel_rfl) ⟨⟨W2, Below.refl _ _⟩, rfl⟩ ?_
  simp only [List.drop_zero, List.drop_succ_cons, List.take_succ_cons, List.take_zero]
  repeat (go_big_quiet_step (fail))
  refine wpQuiet_nil ?_
  rintro w6 ⟨x2, rfl⟩
  have HRr3 := hid (HRr2.out.of_block (x2.h.block g HRr2.out.lt))
  have HF3 := hid (HF2.out.trans ((Frm.of_below x2.h).four _ _))
  refine till_enter (c := 24) (f := 71) (args := #[.pointer (some ⟨bc, 0, none⟩), .slice (some ⟨gf, 0, none⟩) nf fc]) rfl (by kernel_rfl) rfl (by simp [go_sem]) ?_
  refine (HMa.out _ _ (Col.keep HC2.out x2.h) (HRf2.out.of_block (x2.h.block gf HRf2.out.lt))).mono ?_
  intro e W4 hP
  clear HC2 HMa HRr2 HRf2 HF2
  obtain ⟨rfl, -, hf⟩ := hP
  have HF4 := hid (HF3.out.trans (hf.four' g))
  refine ⟨_, rfl, ?_⟩
  clear hf HRr3 HF3
  refine any_frame (by simp [go_sem]; exact rfl) ?_
  refine any_stage (fun w' => ∃ x : Later W4.heap.size W4, w' = x.w) ?_
  refine stage_walk (by kernel_rfl) 3 25 _ _ (by kernel_rfl) ⟨⟨W4, Below.refl _ _⟩, rfl⟩ ?_
  simp only [List.drop_zero, List.drop_succ_cons, List.take_succ_cons, List.take_zero]
  repeat (go_big_quiet_step (fail))
  refine wpQuiet_nil ?_
  rintro w6 ⟨y, rfl⟩
  refine stage_end (by kernel_rfl) ?_
  have HF5 := hid (HF4.out.trans ((Frm.of_below y.h).four _ _))
  generalize y.w = W5 at *
  go_wp2_with fail
  go_ret2
  exact ⟨rfl, HF5.out⟩

set_option maxHeartbeats 1600000 in
set_option maxRecDepth 100000 in
theorem iNew_still {W : World} {bc bw N cap g n gc gf nf fc : Nat} {kind m : Int} (n1 : Int) (hn1 : wrap64 (1 + (nf : Int)) = n1) (s1 : CN)
    (HLk : Hid (Calls Try.prog 50 #[.pointer (some ⟨bc, 0, none⟩), .int .i64 m] W (LookPost W bc bw N cap (some s1))))
    (fs rs rs' fs' : List Int) (s2 s3 : CN) (hg1 : gf ≠ bc) (hg2 : gf ≠ bw) (hq1 : g ≠ bc) (hq2 : g ≠ bw) (hgg : gf ≠ g)
    (HRf : Hid (CellRow 3 W gf nf (intCells fs))) (HRr : Hid (CellRow 3 W g n (intCells rs)))
    (heq : (s1.h.scan == s1.h.bottom) = true)
    (HRm : Hid (∀ w0 X, ColAt w0 bc bw N cap s1 X → Calls Try.prog 70 #[.pointer (some ⟨bc, 0, none⟩), .int .i64 n1] X fun e w' => e = .returned (.bool false) ∧ Below X.heap.size X w'))
    (HRm2 : Hid (∀ w0 X, ColAt w0 bc bw N cap s3 X → Calls Try.prog 70 #[.pointer (some ⟨bc, 0, none⟩), .int .i64 n1] X fun e w' => e = .returned (.bool false) ∧ Below X.heap.size X w'))
    (HCh : Hid (∀ w0 X, ColAt w0 bc bw N cap s1 X → CellRow 3 X g n (intCells rs) → Calls Try.prog 48 #[.pointer (some ⟨bc, 0, none⟩), .slice (some ⟨g, 0, none⟩) n gc] X (MovesPost X bc bw N cap g n (some (rs', s2)))))
    (HMa : Hid (∀ w0 X, ColAt w0 bc bw N cap s2 X → CellRow 3 X gf nf (intCells fs) → Calls Try.prog 71 #[.pointer (some ⟨bc, 0, none⟩), .slice (some ⟨gf, 0, none⟩) nf fc] X (MovesPost X bc bw N cap gf nf (some (fs', s3))))) :
    Calls Try.prog 44 #[.pointer (some ⟨bc, 0, none⟩), .slice (some ⟨g, 0, none⟩) n gc, .int .i64 kind, .slice (some ⟨gf, 0, none⟩) nf fc, .int .i64 m] W (NewPost W bc bw N cap g n gf none) := by
  go_enter Try.func44, Try.ntmps44
  go_wp2_with fail
  refine HLk.out.mono ?_
  rintro e W1 ⟨rfl, hC1⟩
  have HC1 := hid hC1
  clear hC1 HLk
  go_wp2_with fail
  have c3 : ∀ y : Later W1.heap.size W1, y.w.cell? ⟨bc, 3, none⟩ = some (.int .i64 s1.h.bottom) := fun y => y.cell (heap_lt (Col.blk HC1.out)) (Col.blk HC1.out).cells.2.2.2.1
  have c5 : ∀ y : Later W1.heap.size W1, y.w.cell? ⟨bc, 5, none⟩ = some (.int .i64 s1.h.scan) := fun y => y.cell (heap_lt (Col.blk HC1.out)) (Col.blk HC1.out).cells.2.2.2.2.2.1
  have HRr1 := hid (HRr.out.of_block ((Col.frame HC1.out).block g HRr.out.lt hq1 hq2))
  have HRf1 := hid (HRf.out.of_block ((Col.frame HC1.out).block gf HRf.out.lt hg1 hg2))
  generalize s1.h.bottom = bt at *
  generalize s1.h.scan = sc at *
  refine till_begin (c := 20) (S := fun w' => ∃ x : Later W1.heap.size W1, w' = x.w) (by kernel_rfl) ?_
  refine till_walk (by kernel_rfl) 20 0 _ _ (by kernel_rfl) (by kernel_rfl) ⟨⟨W1.drew, (Below.refl _ _).drew⟩, rfl⟩ ?_
  simp only [List.drop_zero, List.take_succ_cons, List.take_zero]
  repeat (go_big_quiet_step (first | (rename_i y; go_at_call 70; refine (HRm.out _ _ (Col.keep HC1.out y.h)).mono ?_; rintro e w5 ⟨rfl, hb5⟩; exact ⟨rfl, ⟨w5, y.h.trans (hb5.mono y.h.size)⟩, rfl⟩)))
  refine wpQuiet_nil ?_
  rintro w5 ⟨x1, rfl⟩
  refine till_enter (c := 20) (f := 48) (args := #[.pointer (some ⟨bc, 0, none⟩), .slice (some ⟨g, 0, none⟩) n gc]) rfl (by kernel_rfl) rfl (by simp [go_sem]) ?_
  refine (HCh.out _ _ (Col.keep HC1.out x1.h) (HRr1.out.of_block (x1.h.block g HRr1.out.lt))).mono ?_
  intro e W2 hP
  have HX1 := hid (Col.frame (Col.keep HC1.out x1.h))
  have HRfx := hid (HRf1.out.of_block (x1.h.block gf HRf1.out.lt))
  clear c3 c5 HC1 HCh HRr1 HRf1
  obtain ⟨rfl, hC2, hr2, hf⟩ := hP
  have HC2 := hid hC2
  have HRr2 := hid hr2
  have HF2 := hid ((HX1.out.four g gf).trans (hf.four gf))
  have hblk := hf.2.2.2.2 gf HRfx.out.lt hg1 hg2 hgg
  have HRf2 := hid (HRfx.out.of_block hblk)
  refine ⟨_, rfl, ?_⟩
  clear hf hC2 hr2 HX1 HRfx hblk
  refine any_frame (by simp [go_sem]; exact rfl) ?_
  refine any_till (fun w' => ∃ x : Later W2.heap.size W2, w' = x.w) 24 ?_
  refine till_walk (by kernel_rfl) 3 21 _ _ (by kernel_rfl) (by kernel_rfl) ⟨⟨W2, Below.refl _ _⟩, rfl⟩ ?_
  simp only [List.drop_zero, List.drop_succ_cons, List.take_succ_cons, List.take_zero]
  repeat (go_big_quiet_step (fail))
  refine wpQuiet_nil ?_
  rintro w6 ⟨x2, rfl⟩
  have HRr3 := hid (HRr2.out.of_block (x2.h.block g HRr2.out.lt))
  have HF3 := hid (HF2.out.trans ((Frm.of_below x2.h).four _ _))
  refine till_enter (c := 24) (f := 71) (args := #[.pointer (some ⟨bc, 0, none⟩), .slice (some ⟨gf, 0, none⟩) nf fc]) rfl (by kernel_rfl) rfl (by simp [go_sem]) ?_
  refine (HMa.out _ _ (Col.keep HC2.out x2.h) (HRf2.out.of_block (x2.h.block gf HRf2.out.lt))).mono ?_
  intro e W4 hP
  clear HC2 HMa HRr2 HRf2 HF2
  obtain ⟨rfl, hC4, hr4, hf⟩ := hP
  have HF4 := hid (HF3.out.trans (hf.four' g))
  have HRr4 := hid (HRr3.out.of_block (hf.2.2.2.2 g HRr3.out.lt hq1 hq2 (Ne.symm hgg)))
  have HRf4 := hid hr4
  have HC4 := hid hC4
  refine ⟨_, rfl, ?_⟩
  clear hf hC4 hr4 HRr3 HF3
  refine any_frame (by simp [go_sem]; exact rfl) ?_
  refine any_stage (fun w' => ∃ x : Later W4.heap.size W4, w' = x.w) ?_
  refine stage_walk (by kernel_rfl) 3 25 _ _ (by kernel_rfl) ⟨⟨W4, Below.refl _ _⟩, rfl⟩ ?_
  simp only [List.drop_zero, List.drop_succ_cons, List.take_succ_cons, List.take_zero]
  repeat (go_big_quiet_step (fail))
  refine wpQuiet_nil ?_
  rintro w6 ⟨y, rfl⟩
  refine stage_end (by kernel_rfl) ?_
  have HC2 := hid (Col.keep HC4.out y.h)
  generalize y.w = W2 at *
  clear HC4
  go_wp2_with fail
  refine (HRm2.out _ _ HC2.out).mono ?_
  rintro e W3 ⟨rfl, hb3⟩
  have HF3 := hid (Col.frame (Col.keep HC2.out hb3))
  clear hb3 HC2
  go_wp2_with fail
  go_ret2
  exact ⟨rfl, HF4.out.trans (HF3.out.four _ _)⟩

set_option maxHeartbeats 1600000 in
set_option maxRecDepth 100000 in
theorem iNew_flip {W : World} {bc bw N cap g n gc gf nf fc : Nat} {kind m : Int} (n1 : Int) (hn1 : wrap64 (1 + (nf : Int)) = n1) (s1 : CN)
    (HLk : Hid (Calls Try.prog 50 #[.pointer (some ⟨bc, 0, none⟩), .int .i64 m] W (LookPost W bc bw N cap (some s1))))
    (fs rs rs' fs' : List Int) (s2 s3 : CN) (hl : fs'.length = nf) (HNf : Hid (nf = 2 ∨ nf = 5)) (HK : Hid (0 ≤ kind ∧ kind ≤ 15)) (hg1 : gf ≠ bc) (hg2 : gf ≠ bw) (hq1 : g ≠ bc) (hq2 : g ≠ bw) (hgg : gf ≠ g)
    (HRf : Hid (CellRow 3 W gf nf (intCells fs))) (HRr : Hid (CellRow 3 W g n (intCells rs))) (PK : Hid (PutOk N (1 + nf) s3))
    (heq : (s1.h.scan == s1.h.bottom) = true)
    (HRm : Hid (∀ w0 X, ColAt w0 bc bw N cap s1 X → Calls Try.prog 70 #[.pointer (some ⟨bc, 0, none⟩), .int .i64 n1] X fun e w' => e = .returned (.bool false) ∧ Below X.heap.size X w'))
    (HRm2 : Hid (∀ w0 X, ColAt w0 bc bw N cap s3 X → Calls Try.prog 70 #[.pointer (some ⟨bc, 0, none⟩), .int .i64 n1] X fun e w' => e = .returned (.bool true) ∧ Below X.heap.size X w'))
    (HCh : Hid (∀ w0 X, ColAt w0 bc bw N cap s1 X → CellRow 3 X g n (intCells rs) → Calls Try.prog 48 #[.pointer (some ⟨bc, 0, none⟩), .slice (some ⟨g, 0, none⟩) n gc] X (MovesPost X bc bw N cap g n (some (rs', s2)))))
    (HMa : Hid (∀ w0 X, ColAt w0 bc bw N cap s2 X → CellRow 3 X gf nf (intCells fs) → Calls Try.prog 71 #[.pointer (some ⟨bc, 0, none⟩), .slice (some ⟨gf, 0, none⟩) nf fc] X (MovesPost X bc bw N cap gf nf (some (fs', s3))))) :
    Calls Try.prog 44 #[.pointer (some ⟨bc, 0, none⟩), .slice (some ⟨g, 0, none⟩) n gc, .int .i64 kind, .slice (some ⟨gf, 0, none⟩) nf fc, .int .i64 m] W (NewPost W bc bw N cap g n gf (some (rs', putZ kind fs' s3))) := by
  go_enter Try.func44, Try.ntmps44
  go_wp2_with fail
  refine HLk.out.mono ?_
  rintro e W1 ⟨rfl, hC1⟩
  have HC1 := hid hC1
  clear hC1 HLk
  go_wp2_with fail
  have c3 : ∀ y : Later W1.heap.size W1, y.w.cell? ⟨bc, 3, none⟩ = some (.int .i64 s1.h.bottom) := fun y => y.cell (heap_lt (Col.blk HC1.out)) (Col.blk HC1.out).cells.2.2.2.1
  have c5 : ∀ y : Later W1.heap.size W1, y.w.cell? ⟨bc, 5, none⟩ = some (.int .i64 s1.h.scan) := fun y => y.cell (heap_lt (Col.blk HC1.out)) (Col.blk HC1.out).cells.2.2.2.2.2.1
  have HRr1 := hid (HRr.out.of_block ((Col.frame HC1.out).block g HRr.out.lt hq1 hq2))
  have HRf1 := hid (HRf.out.of_block ((Col.frame HC1.out).block gf HRf.out.lt hg1 hg2))
  generalize s1.h.bottom = bt at *
  generalize s1.h.scan = sc at *
  refine till_begin (c := 20) (S := fun w' => ∃ x : Later W1.heap.size W1, w' = x.w) (by kernel_rfl) ?_
  refine till_walk (by kernel_rfl) 20 0 _ _ (by kernel_rfl) (by kernel_rfl) ⟨⟨W1.drew, (Below.refl _ _).drew⟩, rfl⟩ ?_
  simp only [List.drop_zero, List.take_succ_cons, List.take_zero]
  repeat (go_big_quiet_step (first | (rename_i y; go_at_call 70; refine (HRm.out _ _ (Col.keep HC1.out y.h)).mono ?_; rintro e w5 ⟨rfl, hb5⟩; exact ⟨rfl, ⟨w5, y.h.trans (hb5.mono y.h.size)⟩, rfl⟩)))
  refine wpQuiet_nil ?_
  rintro w5 ⟨x1, rfl⟩
  refine till_enter (c := 20) (f := 48) (args := #[.pointer (some ⟨bc, 0, none⟩), .slice (some ⟨g, 0, none⟩) n gc]) rfl (by kernel_rfl) rfl (by simp [go_sem]) ?_
  refine (HCh.out _ _ (Col.keep HC1.out x1.h) (HRr1.out.of_block (x1.h.block g HRr1.out.lt))).mono ?_
  intro e W2 hP
  have HX1 := hid (Col.frame (Col.keep HC1.out x1.h))
  have HRfx := hid (HRf1.out.of_block (x1.h.block gf HRf1.out.lt))
  clear c3 c5 HC1 HCh HRr1 HRf1
  obtain ⟨rfl, hC2, hr2, hf⟩ := hP
  have HC2 := hid hC2
  have HRr2 := hid hr2
  have HF2 := hid ((HX1.out.four g gf).trans (hf.four gf))
  have hblk := hf.2.2.2.2 gf HRfx.out.lt hg1 hg2 hgg
  have HRf2 := hid (HRfx.out.of_block hblk)
  refine ⟨_, rfl, ?_⟩
  clear hf hC2 hr2 HX1 HRfx hblk
  refine any_frame (by simp [go_sem]; exact rfl) ?_
  refine any_till (fun w' => ∃ x : Later W2.heap.size W2, w' = x.w) 24 ?_
  refine till_walk (by kernel_rfl) 3 21 _ _ (by kernel_rfl) (by kernel_rfl) ⟨⟨W2, Below.refl _ _⟩, rfl⟩ ?_
  simp only [List.drop_zero, List.drop_succ_cons, List.take_succ_cons, List.take_zero]
  repeat (go_big_quiet_step (fail))
  refine wpQuiet_nil ?_
  rintro w6 ⟨x2, rfl⟩
  have HRr3 := hid (HRr2.out.of_block (x2.h.block g HRr2.out.lt))
  have HF3 := hid (HF2.out.trans ((Frm.of_below x2.h).four _ _))
  refine till_enter (c := 24) (f := 71) (args := #[.pointer (some ⟨bc, 0, none⟩), .slice (some ⟨gf, 0, none⟩) nf fc]) rfl (by kernel_rfl) rfl (by simp [go_sem]) ?_
  refine (HMa.out _ _ (Col.keep HC2.out x2.h) (HRf2.out.of_block (x2.h.block gf HRf2.out.lt))).mono ?_
  intro e W4 hP
  clear HC2 HMa HRr2 HRf2 HF2
  obtain ⟨rfl, hC4, hr4, hf⟩ := hP
  have HF4 := hid (HF3.out.trans (hf.four' g))
  have HRr4 := hid (HRr3.out.of_block (hf.2.2.2.2 g HRr3.out.lt hq1 hq2 (Ne.symm hgg)))
  have HRf4 := hid hr4
  have HC4 := hid hC4
  refine ⟨_, rfl, ?_⟩
  clear hf hC4 hr4 HRr3 HF3
  refine any_frame (by simp [go_sem]; exact rfl) ?_
  refine any_stage (fun w' => ∃ x : Later W4.heap.size W4, w' = x.w) ?_
  refine stage_walk (by kernel_rfl) 3 25 _ _ (by kernel_rfl) ⟨⟨W4, Below.refl _ _⟩, rfl⟩ ?_
  simp only [List.drop_zero, List.drop_succ_cons, List.take_succ_cons, List.take_zero]
  repeat (go_big_quiet_step (fail))
  refine wpQuiet_nil ?_
  rintro w6 ⟨y, rfl⟩
  refine stage_end (by kernel_rfl) ?_
  have HC2 := hid (Col.keep HC4.out y.h)
  generalize y.w = W2 at *
  clear HC4
  go_wp2_with fail
  refine (HRm2.out _ _ HC2.out).mono ?_
  rintro e T3 ⟨rfl, hb3⟩
  have HC3 := hid (Col.keep HC2.out hb3)
  have c4 := (Col.blk HC3.out).cells.2.2.2.2.1
  have f4 := frozen_of_heap (Col.blk HC3.out) 4
  obtain ⟨an, han⟩ : ∃ an : Nat, s3.h.top = (an : Int) + (1 + nf : Nat) := ⟨(s3.h.top - (1 + nf : Nat)).toNat, by have := PK.out.room; have := PK.out.b0; omega⟩
  have Han := hid han
  obtain ⟨ai, hai⟩ : ∃ ai : Int, ai = (an : Int) := ⟨_, rfl⟩
  have Hai := hid hai
  have hat : wrap64 (s3.h.top - n1) = ai := by have := PK.out.top; have := PK.out.N1; have := hn1; have := HNf.out; unfold wrap64 at *; omega
  have HC4 := hid (Col.topAt HC3.out ai)
  have HL := hid hl
  have Hn1 := hid hn1
  obtain ⟨tp, htp⟩ : ∃ tp, s3.h.top = tp := ⟨_, rfl⟩
  have Htp := hid htp
  rw [htp] at c4 hat
  clear hb3 HC2 han hl hn1 htp hai
  go_wp2_with fail
  have hnn : n1 = ((1 + nf : Nat) : Int) := by have := Hn1.out; have := HNf.out; unfold wrap64 at *; omega
  obtain ⟨hv, hhv⟩ : ∃ hv : Int, ((1 + nf : Nat) : Int) * 16 + kind = hv := ⟨_, rfl⟩
  have HHd : Hid (∀ w, Calls Try.prog 73 #[.int .i64 kind, .int .i64 n1] w fun e w' => e = .returned (.int .i64 hv) ∧ w = w') := fun w => by rw [hnn, ← hhv]; exact head_any (1 + nf) (by have := HNf.out; omega) kind HK.out.1 HK.out.2 w
  have HS4 : Hid (headZ kind (1 + nf) an s3 = ⟨s3.ws.set an hv, { s3.h with top := ai }, s3.r, s3.t + 1⟩) := by show _ = _; rw [← hhv, Hai.out]; rfl
  have hanN : an < N := by have := PK.out.top; have := Han.out; omega
  have HWr := hid (fun (X : World) (hX : ColAt W4 bc bw N cap { s3 with h := { s3.h with top := ai } } X) => show Calls Try.prog 72 #[.pointer (some ⟨bc, 0, none⟩), .int .i64 ai, .int .i64 hv] X (fun e w' => e = .returned (.tuple #[]) ∧ ColAt W4 bc bw N cap ⟨s3.ws.set an hv, { s3.h with top := ai }, s3.r, s3.t + 1⟩ w') from by
    have e := write_calls hX hanN hv PK.out.t0 (by have := PK.out.t1; dsimp only; omega)
    rw [← Hai.out] at e
    exact e)
  generalize T3.setCell ⟨bc, 4, none⟩ (.int .i64 ai) = T4 at *
  have c4' : ∀ y : Later T4.heap.size T4, y.w.cell? ⟨bc, 4, none⟩ = some (.int .i64 ai) := fun y => y.cell (heap_lt (Col.blk HC4.out)) (Col.blk HC4.out).cells.2.2.2.2.1
  clear c4 f4 HC3 hat hhv hnn
  refine till_begin (c := 9) (S := fun w' => ∃ x : Later T4.heap.size T4, w' = x.w) (by kernel_rfl) ?_
  refine till_walk (by kernel_rfl) 9 0 _ _ (by kernel_rfl) (by kernel_rfl) ⟨⟨T4.drew, (Below.refl _ _).drew⟩, rfl⟩ ?_
  simp only [List.drop_zero, List.take_succ_cons, List.take_zero]
  repeat (go_big_quiet_step (first | (rename_i y; go_at_call 73; refine (HHd.out _).mono ?_; rintro e w5 ⟨rfl, rfl⟩; exact ⟨rfl, y, rfl⟩)))
  refine wpQuiet_nil ?_
  rintro w5 ⟨x1, rfl⟩
  refine till_enter (c := 9) (f := 72) (args := #[.pointer (some ⟨bc, 0, none⟩), .int .i64 ai, .int .i64 hv]) rfl (by kernel_rfl) rfl (by simp [go_sem]) ?_
  refine (HWr.out _ (Col.keep HC4.out x1.h)).mono ?_
  rintro e T5 ⟨rfl, hC5⟩
  refine ⟨_, rfl, ?_⟩
  have HC5 : Hid (ColAt W4 bc bw N cap (headZ kind (1 + nf) an s3) T5) := by rw [HS4.out]; exact hC5
  clear hC5 HC4 c4' HWr HHd HS4 x1
  refine any_frame (by simp [go_sem]; exact rfl) ?_
  refine any_stage (fun _ => True) ?_
  refine stage_end (by kernel_rfl) ?_
  obtain ⟨s5, hs5⟩ : ∃ s5, headZ kind (1 + nf) an s3 = s5 := ⟨_, rfl⟩
  rw [hs5] at HC5
  have Hs5 := hid hs5
  have HT5 : Hid (s5.h.top = ai ∧ 0 ≤ s5.t ∧ s5.t ≤ 70001 ∧ an + 1 + nf ≤ N ∧ N ≤ 8000) := by
    have := PK.out.t0
    have := PK.out.t1
    have := PK.out.top
    have := PK.out.N1
    have := Han.out
    show _ ∧ _
    have := Hai.out
    have := Htp.out
    rw [← hs5]
    unfold headZ
    dsimp only
    omega
  clear hs5
  go_wp2_with fail
  go_loopw [76] (fun i wr => ∃ (ii : Int) (k : Nat), i = .int .i64 ii ∧ Hid (ii = (k : Int) ∧ k ≤ nf) ∧ Hid (ColAt W4 bc bw N cap (writesRun fs' an k s5) wr)) (fun i _ => nf - (intOf i).toNat)
  case atStart => exact ⟨0, 0, rfl, ⟨rfl, by omega⟩, HC5.out⟩
  case round =>
    obtain ⟨ii, k, rfl, HQ, HI⟩ := hrel
    have hi0 : 0 ≤ ii := by have := HQ.out; omega
    obtain ⟨k1, k2, k3, k4⟩ := writesRun_keeps fs' an s5 k
    have c4 := (Col.blk HI.out).cells.2.2.2.2.1
    rw [k2, HT5.out.1] at c4
    by_cases hlt : ii < (nf : Int)
    · have hkn : k < nf := by have := HQ.out; omega
      have hik : ii.toNat = k := by have := HQ.out; omega
      have q0 := (HRf4.out.of_block ((Col.frame HI.out).block gf HRf4.out.lt hg1 hg2)).cell (i := k) hkn
      unfold intCells at q0
      obtain ⟨z1, hw1⟩ : ∃ z1, wrap64 (ai + 1) = z1 := ⟨_, rfl⟩
      obtain ⟨z2, hw2⟩ : ∃ z2, wrap64 (z1 + ii) = z2 := ⟨_, rfl⟩
      have hz2 : z2 = ((an + 1 + k : Nat) : Int) := by have := HT5.out; have := HQ.out; have := Hai.out; rw [← hw2, ← hw1]; unfold wrap64; omega
      have HWk := hid (write_calls HI.out (i := an + 1 + k) (by have := HT5.out; omega) (fs'.getD k 0) (by rw [k4]; have := HT5.out; omega) (by rw [k4]; have := HT5.out; have := HNf.out; omega))
      rw [← hz2] at HWk
      have hsd : Hid (nf - (intOf (.int .i64 (ii + 1))).toNat < nf - (intOf (.int .i64 ii)).toNat) := by show _ < _; simp only [intOf]; have := HQ.out; omega
      obtain ⟨fk, hfk⟩ : ∃ fk, fs'.getD k 0 = fk := ⟨_, rfl⟩
      rw [hfk] at q0 HWk
      have Hfk := hid hfk
      clear hfk
      clear k1 k2 k3 k4 hz2
      go_wp2_with fail
      refine HWk.out.mono ?_
      rintro e T6 ⟨rfl, hC6⟩
      have HC6 := hid hC6
      clear hC6 HWk q0 c4 HI
      go_wp2_with fail
      have hw : wrap64 (ii + 1) = ii + 1 := by have := HQ.out; have := HNf.out; unfold wrap64; omega
      rw [hw]
      exact ⟨⟨ii + 1, k + 1, rfl, ⟨by have := HQ.out; push_cast; omega, by omega⟩, by have e := HC6.out; rw [← Hfk.out] at e; exact e⟩, hsd.out⟩
    · have hkn : k = nf := by have := HQ.out; omega
      have HIf := HI
      have HPt : Hid (writesRun fs' an k s5 = putZ kind fs' s3) := by
        show _ = _
        unfold putZ
        rw [hkn, ← Hs5.out, HL.out, Htp.out, show (tp - ((1 + nf : Nat) : Int)).toNat = an by have := Han.out; have := Htp.out; omega]
      have HTp : Hid ((putZ kind fs' s3).h.top = ai) := by show _ = _; rw [← HPt.out, k2]; exact HT5.out.1
      have HMk := hid (fun w => implMake_calls 0 ai w)
      go_wp2_with fail
      refine (HMk.out _).mono ?_
      rintro e T7 ⟨rfl, rfl⟩
      go_wp2_with fail
      go_ret2
      refine ⟨by rw [HTp.out]; rfl, ?_, HRr4.out.of_block ((Col.frame HIf.out).block g HRr4.out.lt hq1 hq2), HF4.out.trans ((Col.frame HIf.out).four _ _)⟩
      rw [← HPt.out]
      exact Col.rebase HIf.out _ (Frm.refl _ _ _)
end Go.Proofs.Ytebpgglegnljgaa
