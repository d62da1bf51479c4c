/- The specification's reader of words in memory: what comes, what is taken. -/
import Derived.Test.YtkdipppeljpgmaaGreatDoorParseBound
import Derived.Test.YtkdipppeljpgmaaGreatDoorGenA
import Derived.BigQuiet
namespace Go.Proofs.YtkdipppeljpgmaaGreatDoor
open Go.RowKit Go.Deep

def wdC (w : Wd) : Nat → Value
  | 0 => .int .i64 w.kind
  | 1 => .string w.text
  | _ => .int .i64 w.at_

/-- The reader in memory. -/
structure PsAt (d : Dr) (ws : List Wd) (ad : Option Addr) (cp : Nat) (s : Ps) (W : World) : Prop where
  blk : W.heap[d.B]? = some (.cells #[.slice ad ws.length cp, .int .i64 (s.at_ : Int), .bool s.bad] 39)
  eq : d.G = d.B
  lt : s.at_ ≤ ws.length
  few : ws.length ≤ 1500
  words : Lies d W (.slice ad ws.length cp) ws.length 3 (fun i => wdC (ws.getD (i / 3) default) (i % 3))

theorem below_drawn (B : Nat) (w : World) (n : Nat) : Below B w (w.drewN n) := ⟨rfl, rfl, rfl, Nat.le_refl _, fun _ _ => rfl⟩

section
variable {d : Dr} {ws : List Wd} {ad : Option Addr} {cp : Nat}

theorem PsAt.below {s : Ps} {W W' : World} (h : PsAt d ws ad cp s W) (hb : Below W.heap.size W W') : PsAt d ws ad cp s W' :=
  ⟨(hb.block _ (heap_lt h.blk)).trans h.blk, h.eq, h.lt, h.few, h.words.grew (Grew.of_below hb)⟩

theorem PsAt.lies {s : Ps} {W : World} (h : PsAt d ws ad cp s W) (hi : 0 < ws.length) : ∃ b, ad = some ⟨b, 0, none⟩ ∧ ∀ i, i < ws.length → W.cell? ⟨b, i * 3, none⟩ = some (.int .i64 (curW ws i).kind) ∧ W.cell? ⟨b, i * 3 + 1, none⟩ = some (.string (curW ws i).text) ∧ W.cell? ⟨b, i * 3 + 2, none⟩ = some (.int .i64 (curW ws i).at_) := by
  rcases h.words with ⟨-, h0⟩ | ⟨b, off, cap, e, -, rfl, -, hc⟩
  · omega
  cases e
  refine ⟨b, rfl, fun i hi => ?_⟩
  have e : ∀ c, c < 3 → W.cell? ⟨b, i * 3 + c, none⟩ = some (wdC (ws.getD i default) c) := fun c hc' => by
    have := hc (i * 3 + c) (by omega)
    rw [Nat.zero_add] at this
    rw [this]
    exact congrArg some (cell_div ws wdC 3 i c hc')
  exact ⟨e 0 (by omega), e 1 (by omega), e 2 (by omega)⟩

set_option maxHeartbeats 2000000 in
set_option maxRecDepth 100000 in
theorem text_calls (s : Ps) (W : World) (h : PsAt d ws ad cp s W) :
    Calls Tryz.prog 27 #[.pointer (some ⟨d.B, 0, none⟩)] W fun e W' => e = .returned (.string (txt ws s)) ∧ Below W.heap.size W W' := by
  have p0 := cell_of_heap h.blk 0
  have p1 := cell_of_heap h.blk 1
  have p2 := cell_of_heap h.blk 2
  simp at p0 p1 p2
  obtain ⟨L, hL⟩ : ∃ L, ws.length = L := ⟨_, rfl⟩
  have hle : s.at_ ≤ L := by rw [← hL]; exact h.lt
  have H := hid h
  have HL := hid hL
  rw [hL] at p0
  clear h hL
  obtain ⟨i, bad⟩ := s
  dsimp only at p1 p2 hle
  go_enter Tryz.func27, Tryz.ntmps27
  cases bad with
  | true =>
    have ht : txt ws ⟨i, true⟩ = ⟨#[]⟩ := by unfold txt; rw [if_pos (Or.inl rfl)]
    go_wp2_with fail
    go_quiet (fail)
    go_wp2_with fail
    go_ret
    rw [ht]
    exact ⟨rfl, below_drawn _ _ _⟩
  | false =>
    by_cases hi : L ≤ i
    · have ht : txt ws ⟨i, false⟩ = ⟨#[]⟩ := by unfold txt; rw [if_pos (Or.inr (Or.inl (by have := HL.out; dsimp only; omega)))]
      go_wp2_with fail
      go_quiet (fail)
      go_wp2_with fail
      go_ret
      rw [ht]
      exact ⟨rfl, below_drawn _ _ _⟩
    · have hlt : i < ws.length := by have := HL.out; omega
      obtain ⟨b, rfl, hw⟩ := H.out.lies (by omega)
      obtain ⟨w0, w1, -⟩ := hw i hlt
      by_cases hk : (curW ws i).kind < 3
      · have ht : txt ws ⟨i, false⟩ = ⟨#[]⟩ := by unfold txt; rw [if_pos (Or.inr (Or.inr hk))]
        have hi0 : (0 : Int) ≤ (i : Int) := by omega
        have hd : decide (L ≤ i) = false := decide_eq_false hi
        have hd2 : decide ((curW ws i).kind < 3) = true := decide_eq_true hk
        have hi1 : i < L := by omega
        clear hw
        go_wp2_with fail
        go_quiet (fail)
        go_wp2_with fail
        go_ret
        rw [ht]
        exact ⟨rfl, below_drawn _ _ _⟩
      · have ht : txt ws ⟨i, false⟩ = (curW ws i).text := by unfold txt; rw [if_neg (by simp; omega)]
        have hi0 : (0 : Int) ≤ (i : Int) := by omega
        have hd : decide (L ≤ i) = false := decide_eq_false hi
        have hd2 : decide ((curW ws i).kind < 3) = false := decide_eq_false hk
        have hi1 : i < L := by omega
        clear hw
        go_wp2_with fail
        go_quiet (fail)
        go_wp2_with fail
        go_quiet (fail)
        go_wp2_with fail
        go_ret
        rw [ht]
        exact ⟨rfl, rfl, rfl, rfl, Nat.le_refl _, fun _ _ => rfl⟩

theorem set_block {W : World} {B i : Nat} {c : Array Value} {t : TypeId} (v : Value) (h : W.heap[B]? = some (.cells c t)) : (W.setCell ⟨B, i, none⟩ v).heap[B]? = some (.cells (c.setIfInBounds i v) t) := by
  rw [setCell_eq_setRow W B i c t (0, 0) v h]
  exact setRow_heap W B _ _ t _ h

theorem grew_set {d : Dr} (W : World) (i : Nat) (v : Value) : Grew d W (W.setCell ⟨d.B, i, none⟩ v) :=
  ⟨rfl, rfl, rfl, by simp [World.setCell], fun q hq => Below.heap_setCell W ⟨d.B, i, none⟩ v q (fun e => hq.2.1 e)⟩

theorem PsAt.move {s : Ps} {W : World} (h : PsAt d ws ad cp s W) {i : Nat} (hi : i ≤ ws.length) : PsAt d ws ad cp ⟨i, s.bad⟩ (W.setCell ⟨d.B, 1, none⟩ (.int .i64 (i : Int))) :=
  ⟨set_block _ h.blk, h.eq, hi, h.few, h.words.grew (grew_set W 1 _)⟩

theorem PsAt.fails {s : Ps} {W : World} (h : PsAt d ws ad cp s W) : PsAt d ws ad cp s.fail (W.setCell ⟨d.B, 2, none⟩ (.bool true)) :=
  ⟨set_block _ h.blk, h.eq, h.lt, h.few, h.words.grew (grew_set W 2 _)⟩

def StepP (d : Dr) (ws : List Wd) (ad : Option Addr) (cp : Nat) (s : Ps) (W W' : World) : Prop := PsAt d ws ad cp s W' ∧ Grew d W W'

theorem sees_not {s : Ps} {l : List UInt8} (h : ¬ seesS ws s l = true) : seesS ws s l = false := by
  cases hc : seesS ws s l with
  | true => exact absurd hc h
  | false => rfl

set_option maxHeartbeats 1000000 in
set_option maxRecDepth 100000 in
theorem take_calls (s : Ps) (t : ByteArray) (ht : t.toList ≠ []) (W : World) (h : PsAt d ws ad cp s W) :
    Calls Tryz.prog 29 #[.pointer (some ⟨d.B, 0, none⟩), .string t] W fun e W' => (∃ x, e = .returned x) ∧ StepP d ws ad cp (takeS ws t.toList s).2 W W' := by
  have HT := hid (text_calls s W h)
  have H := hid h
  have HN := hid ht
  obtain ⟨u, hu⟩ : ∃ u, txt ws s = u := ⟨_, rfl⟩
  rw [hu] at HT
  have HU := hid hu
  clear h hu ht
  go_enter Tryz.func29, Tryz.ntmps29
  go_wp2_with fail
  refine HT.out.mono ?_
  rintro e W1 ⟨rfl, hb⟩
  have H1 := hid (H.out.below hb)
  have G1 := hid (Grew.of_below (d := d) hb)
  clear hb
  have q1 := cell_of_heap H1.out.blk 1
  have q2 := cell_of_heap H1.out.blk 2
  have z1 := frozen_of_heap H1.out.blk 1
  have z2 := frozen_of_heap H1.out.blk 2
  simp at q1 q2
  have HZ := hid (H1.out.few)
  by_cases hs : (u.toList == t.toList) = true
  · have hsee : seesS ws s t.toList = true := by unfold seesS; rw [HU.out]; exact hs
    have hlt := sees_lt HN.out hsee
    have HM := hid (H1.out.move (i := s.at_ + 1) (by omega))
    have hw : wrap64 ((s.at_ : Int) + 1) = ((s.at_ + 1 : Nat) : Int) := wrap_succ (by have := HZ.out; omega)
    have e2 : (takeS ws t.toList s).2 = ⟨s.at_ + 1, s.bad⟩ := by unfold takeS; rw [hsee]; rfl
    have HWr := hid (And.intro hw e2)
    clear hw e2 hsee hlt
    go_wp2_with fail
    go_end0
    rw [HWr.out.1, HWr.out.2]
    exact ⟨⟨_, rfl⟩, HM.out, G1.out.trans (grew_set W1 1 _)⟩
  · have hsee : seesS ws s t.toList = false := sees_not (by unfold seesS; rw [HU.out]; exact hs)
    have e2 : (takeS ws t.toList s).2 = s.fail := by unfold takeS; rw [hsee]; rfl
    have hs2 : (u.toList == t.toList) = false := by simpa using hs
    have HWr := hid e2
    clear hsee e2 hs
    go_wp2_with fail
    first | go_end0 | refine bodyPost_ret (results_none rfl _ _ _) rfl ?_
    rw [HWr.out]
    exact ⟨⟨_, rfl⟩, H1.out.fails, G1.out.trans (grew_set W1 2 _)⟩
end
end Go.Proofs.YtkdipppeljpgmaaGreatDoor
