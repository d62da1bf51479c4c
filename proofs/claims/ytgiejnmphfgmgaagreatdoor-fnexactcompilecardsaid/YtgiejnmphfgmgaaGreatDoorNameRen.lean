/- The namer makes names anew and gives a node its new names. -/
import Derived.Test.YtgiejnmphfgmgaaGreatDoorNameFn
import Derived.Test.YtgiejnmphfgmgaaGreatDoorCalm
import Derived.Test.YtgiejnmphfgmgaaGreatDoorStagesE
namespace Go.Proofs.YtgiejnmphfgmgaaGreatDoor
open Go.RowKit Go.Deep

theorem Laid.same {W W' : World} (h : Laid W) (e : W'.heap[0]? = W.heap[0]?) : Laid W' := by
  obtain ⟨h⟩ := h
  refine ⟨?_⟩
  unfold Lib.TabIs at h ⊢
  rw [← h]
  unfold World.var?
  rw [gPows]
  simp [e]

theorem Laid.stays {w w' : World} (h : Laid w) (hb : Below w.heap.size w w') : Laid w' := ⟨Joins.var_stays gPows h.pows hb (Nat.le_refl _)⟩

theorem grow_below (w : World) (k : Nat) (os : Array Obj) : Below w.heap.size w (Go.Sort.grow (w.drewN k) os) :=
  ⟨rfl, rfl, rfl, by rw [Go.Sort.size_grow]; exact Nat.le_add_right _ _, fun j hj => by rw [Go.Sort.heap_grow_old (w.drewN k) os hj]; rfl⟩

theorem itoa_calls (n : Int) (h0 : 0 ≤ n) (h1 : n ≤ 1000000) (w : World) (hL : Laid w) :
    Calls Tryz.prog 127 #[.int .i64 n] w fun e w' => e = .returned (.string ⟨(Lib.itoa n).toArray⟩) ∧ Below w.heap.size w w' := by
  refine (Tryz.strconv_Itoa n (by omega) (by omega) w hL.pows).mono ?_
  rintro e w' ⟨rfl, k, os, rfl⟩
  exact ⟨rfl, grow_below w k os⟩

set_option maxRecDepth 100000 in
theorem clone_calls (s : ByteArray) (w : World) (h : s.size ≤ 281474976710656) : Calls Tryz.prog 109 #[.string s] w fun e w' => e = .returned (.string s) ∧ Below w.heap.size w w' := by
  have HC := hid (Tryz.stringslite_Clone s w h)
  clear h
  go_enter Tryz.func109, Tryz.ntmps109
  go_wp2_with fail
  refine HC.out.mono ?_
  rintro e w1 ⟨rfl, hb⟩
  go_wp2_with fail
  go_ret
  exact ⟨rfl, hb⟩

/-- The namer's third cell is set. -/
theorem nms_made {W0 : World} {Nb : Nat} {s : Wst} {vp vf : Value} {W : World} (h : Nms W0 Nb s vp vf W) (m : Nat) : Nms W0 Nb { s with made := m } vp vf (W.setCell ⟨Nb, 2, none⟩ (.int .i64 (m : Int))) ∧ Nfr Nb vp vf W (W.setCell ⟨Nb, 2, none⟩ (.int .i64 (m : Int))) := by
  have e : ∀ q, q ≠ Nb → (W.setCell ⟨Nb, 2, none⟩ (.int .i64 (m : Int))).heap[q]? = W.heap[q]? := fun q hq => Below.heap_setCell W ⟨Nb, 2, none⟩ _ q hq
  have hs : (W.setCell ⟨Nb, 2, none⟩ (.int .i64 (m : Int))).heap.size = W.heap.size := by simp [World.setCell]
  have ap := h.apart h.blk
  refine ⟨⟨?_, own_same h.prow (fun g eg => e g (fun e2 => by subst e2; exact ap.1 (by decide) eg)), own_same h.frow (fun g eg => e g (fun e2 => by subst e2; exact ap.2 (by decide) eg)), h.os, h.tape, h.output, by rw [hs]; exact h.size, fun q hq hn => (e q hn).trans (h.kept q hq hn), h.nb⟩, ⟨rfl, rfl, rfl, by rw [hs]; exact Nat.le_refl _, fun q _ hn _ _ => e q hn⟩⟩
  have hb := h.blk
  simp [World.setCell, Array.getElem?_modify, hb]

theorem bytes_append (a b : List UInt8) : (⟨a.toArray⟩ : ByteArray) ++ ⟨b.toArray⟩ = ⟨(a ++ b).toArray⟩ := by
  apply ByteArray.ext
  simp

theorem v_append (l : List UInt8) : (⟨#[118]⟩ : ByteArray) ++ ⟨l.toArray⟩ = ⟨(118 :: l).toArray⟩ := bytes_append [118] l

set_option maxHeartbeats 1000000 in
set_option maxRecDepth 100000 in
theorem fresh_calls {W0 : World} {Nb : Nat} {s : Wst} {vp vf : Value} (W : World) (n : Nms W0 Nb s vp vf W) (hL : Laid W) (h0 : Nb ≠ 0) (hm : s.made ≤ 100000) :
    Calls Tryz.prog 110 #[.pointer (some ⟨Nb, 0, none⟩)] W fun e W' => e = .returned (.string (freshZ s.made)) ∧ Nms W0 Nb { s with made := s.made + 1 } vp vf W' ∧ Nfr Nb vp vf W W' ∧ Laid W' := by
  obtain ⟨sp, sf, m⟩ := s
  dsimp only at *
  have c2 := cell_of_heap n.blk 2
  have z2 := frozen_of_heap n.blk 2
  simp at c2
  have hw1 : wrap64 ((m : Int) + 1) = (m : Int) + 1 := by unfold wrap64; omega
  have hw2 : wrap64 ((m : Int) + 1 - 1) = (m : Int) := by unfold wrap64; omega
  obtain ⟨n1, f1⟩ := nms_made n (m + 1)
  have hcast : ((m + 1 : Nat) : Int) = (m : Int) + 1 := by omega
  dsimp only at n1 f1
  rw [hcast] at n1 f1
  have hL1 := hL.same (f1.block 0 (by have := heap_lt n.blk; omega) (fun e => h0 e.symm) (fun e => by have := (own_type n.prow e).1; have := n.nb; omega) (fun e => by have := (own_type n.frow e).1; have := n.nb; omega))
  have HN := hid n1
  have HF := hid f1
  have HI := hid (itoa_calls (m : Int) (by omega) (by omega) _ hL1)
  have HL := hid hL1
  have d2 := cell_of_heap n1.blk 2
  simp at d2
  clear n n1 f1 hL hL1 hcast
  go_enter Tryz.func110, Tryz.ntmps110
  go_wp2_with fail
  refine HI.out.mono ?_
  rintro e W2 ⟨rfl, hb2⟩
  have HN2 := hid (HN.out.below hb2)
  have HF2 := hid (HF.out.trans (Or.inl rfl) (Or.inl rfl) (Nfr.of_below hb2))
  have HL2 := hid (HL.out.stays hb2)
  have hva := hid (v_append (Lib.itoa (m : Int)))
  have hds : (⟨(Lib.itoa (m : Int)).toArray⟩ : ByteArray).size ≤ 21 := by
    have := Lib.itoa_length_le (m : Int) (by omega) (by omega)
    simp [ByteArray.size]
    omega
  generalize (⟨(Lib.itoa (m : Int)).toArray⟩ : ByteArray) = D at *
  clear HI HN HF HL c2 d2 hb2
  go_wp2_with fail
  go_ret
  refine ⟨?_, HN2.out, HF2.out, HL2.out⟩
  have e := hva.out
  unfold freshZ
  rw [← e]
  rfl

/-- A box of a node. -/
theorem box6_set {w : World} {b : Nat} {t : TypeId} {x0 x1 x2 x3 x4 x5 : Value} (h : w.heap[b]? = some (.cells #[x0, x1, x2, x3, x4, x5] t)) (v : Value) :
    (w.setCell ⟨b, 2, none⟩ v).heap[b]? = some (.cells #[x0, x1, v, x3, x4, x5] t) ∧ (w.setCell ⟨b, 3, none⟩ v).heap[b]? = some (.cells #[x0, x1, x2, v, x4, x5] t) ∧ (w.setCell ⟨b, 4, none⟩ v).heap[b]? = some (.cells #[x0, x1, x2, x3, v, x5] t) := by
  refine ⟨?_, ?_, ?_⟩ <;> simp [World.setCell, Array.getElem?_modify, h]

/-- A cell of a block beside is set. -/
theorem nms_box {W0 : World} {Nb : Nat} {s : Wst} {vp vf : Value} {W : World} (h : Nms W0 Nb s vp vf W) {b : Nat} (hb : W0.heap.size ≤ b) (h1 : vp.ownBlock ≠ some b) (h2 : vf.ownBlock ≠ some b) (i : Nat) (v : Value) : Nms W0 Nb s vp vf (W.setCell ⟨b, i, none⟩ v) := by
  have hnb := h.nb
  have e : ∀ q, q ≠ b → (W.setCell ⟨b, i, none⟩ v).heap[q]? = W.heap[q]? := fun q hq => Below.heap_setCell W ⟨b, i, none⟩ _ q hq
  have hs : (W.setCell ⟨b, i, none⟩ v).heap.size = W.heap.size := by simp [World.setCell]
  exact ⟨(e Nb (by omega)).trans h.blk, own_same h.prow (fun g eg => e g (fun e2 => h1 (e2 ▸ eg))), own_same h.frow (fun g eg => e g (fun e2 => h2 (e2 ▸ eg))), h.os, h.tape, h.output, by rw [hs]; exact h.size, fun q hq hn => (e q (by omega)).trans (h.kept q hq hn), h.nb⟩
/-- A name more is found free. -/
theorem nms_free {W0 : World} {Nb : Nat} {s : Wst} {vp vf : Value} {X Y : World} (h : Nms W0 Nb s vp vf X) {vf' : Value} {a : ByteArray} (hown : Y.ownsRow W0.heap.size 9 1 vf' (s.free.length + 1) (strRow s.free ++ [.string a])) (hg : X.grownBy Y vf.ownBlock) (hat : vf'.ownBlock = vf.ownBlock ∨ vf'.ownBlock = some X.heap.size) :
    Nms W0 Nb ⟨s.plain, s.free ++ [a], s.made⟩ vp vf' (Y.setCell ⟨Nb, 1, none⟩ vf') ∧ Nfr Nb vp vf X (Y.setCell ⟨Nb, 1, none⟩ vf') ∧ Movd X vf vf' := by
  have hnb := h.nb
  have hsz := h.size
  have gs := hg.size
  have apN := h.apart h.blk
  have kb : ∀ q, q < X.heap.size → vf.ownBlock ≠ some q → Y.heap[q]? = X.heap[q]? := fun q hq hn => hg.block q hq (fun e => hn e.symm)
  have hbY : Y.heap[Nb]? = some (.cells #[vp, vf, .int .i64 (s.made : Int)] 93) := (kb Nb (heap_lt h.blk) (apN.2 (by decide))).trans h.blk
  have e : ∀ q, q ≠ Nb → (Y.setCell ⟨Nb, 1, none⟩ vf').heap[q]? = Y.heap[q]? := fun q hq => Below.heap_setCell Y ⟨Nb, 1, none⟩ _ q hq
  have hs : (Y.setCell ⟨Nb, 1, none⟩ vf').heap.size = Y.heap.size := by simp [World.setCell]
  have hmv : Movd X vf vf' := by
    rcases hat with h | h
    · exact Or.inl h
    · exact Or.inr ⟨_, h, Nat.le_refl _⟩
  have hpf : ∀ g, vp.ownBlock = some g → vf.ownBlock ≠ some g := fun g eg => by
    obtain ⟨-, cur, hc⟩ := own_type h.prow eg
    exact (h.apart hc).2 (by decide)
  refine ⟨⟨?_, ?_, ?_, hg.os.trans h.os, hg.tape.trans h.tape, hg.output.trans h.output, by rw [hs]; omega, fun q hq hn => ?_, hnb⟩, ⟨hg.os, hg.tape, hg.output, by rw [hs]; exact gs, fun q hq h1 h2 h3 => (e q h1).trans (kb q hq h3)⟩, hmv⟩
  · simp [World.setCell, Array.getElem?_modify, hbY]
  · refine own_same h.prow (fun g eg => ?_)
    obtain ⟨hB, cur, hc⟩ := own_type h.prow eg
    exact (e g (by omega)).trans (kb g (heap_lt hc) (hpf g eg))
  · have hown2 : Y.ownsRow W0.heap.size 9 1 vf' (s.free ++ [a]).length (strRow (s.free ++ [a])) := by
      rw [strRow_snoc, List.length_append]
      exact hown
    exact own_same hown2 (fun g eg => e g (by have := (own_type hown2 eg).1; omega))
  · refine (e q hn).trans ((kb q (by omega) (fun eq => ?_)).trans (h.kept q hq hn))
    have := (own_type h.frow eq).1
    omega

/-- A node more is named anew. -/
theorem nms_plain {W0 : World} {Nb : Nat} {s : Wst} {vp vf : Value} {X Y : World} (h : Nms W0 Nb s vp vf X) {vp' : Value} {m : Nd} (hown : Y.ownsRow W0.heap.size 81 6 vp' (s.plain.length + 1) (ndRow s.plain ++ [.int .i64 m.kind, .int .i64 m.num, .string m.a, .string m.b, .string m.c, .int .i64 m.kids])) (hg : X.grownBy Y vp.ownBlock) (hat : vp'.ownBlock = vp.ownBlock ∨ vp'.ownBlock = some X.heap.size) :
    Nms W0 Nb ⟨s.plain ++ [m], s.free, s.made⟩ vp' vf (Y.setCell ⟨Nb, 0, none⟩ vp') ∧ Nfr Nb vp vf X (Y.setCell ⟨Nb, 0, none⟩ vp') ∧ Movd X vp vp' := by
  have hnb := h.nb
  have hsz := h.size
  have gs := hg.size
  have apN := h.apart h.blk
  have kb : ∀ q, q < X.heap.size → vp.ownBlock ≠ some q → Y.heap[q]? = X.heap[q]? := fun q hq hn => hg.block q hq (fun e => hn e.symm)
  have hbY : Y.heap[Nb]? = some (.cells #[vp, vf, .int .i64 (s.made : Int)] 93) := (kb Nb (heap_lt h.blk) (apN.1 (by decide))).trans h.blk
  have e : ∀ q, q ≠ Nb → (Y.setCell ⟨Nb, 0, none⟩ vp').heap[q]? = Y.heap[q]? := fun q hq => Below.heap_setCell Y ⟨Nb, 0, none⟩ _ q hq
  have hs : (Y.setCell ⟨Nb, 0, none⟩ vp').heap.size = Y.heap.size := by simp [World.setCell]
  have hmv : Movd X vp vp' := by
    rcases hat with h | h
    · exact Or.inl h
    · exact Or.inr ⟨_, h, Nat.le_refl _⟩
  have hpf : ∀ g, vf.ownBlock = some g → vp.ownBlock ≠ some g := fun g eg => by
    obtain ⟨-, cur, hc⟩ := own_type h.frow eg
    exact (h.apart hc).1 (by decide)
  refine ⟨⟨?_, ?_, ?_, hg.os.trans h.os, hg.tape.trans h.tape, hg.output.trans h.output, by rw [hs]; omega, fun q hq hn => ?_, hnb⟩, ⟨hg.os, hg.tape, hg.output, by rw [hs]; exact gs, fun q hq h1 h2 h3 => (e q h1).trans (kb q hq h2)⟩, hmv⟩
  · simp [World.setCell, Array.getElem?_modify, hbY]
  · have hown2 : Y.ownsRow W0.heap.size 81 6 vp' (s.plain ++ [m]).length (ndRow (s.plain ++ [m])) := by
      rw [ndRow_snoc, List.length_append]
      exact hown
    exact own_same hown2 (fun g eg => e g (by have := (own_type hown2 eg).1; omega))
  · refine own_same h.frow (fun g eg => ?_)
    obtain ⟨hB, cur, hc⟩ := own_type h.frow eg
    exact (e g (by omega)).trans (kb g (heap_lt hc) (hpf g eg))
  · refine (e q hn).trans ((kb q (by omega) (fun eq => ?_)).trans (h.kept q hq hn))
    have := (own_type h.prow eq).1
    omega
end Go.Proofs.YtgiejnmphfgmgaaGreatDoor
