/- A mark: a number as a text. -/
import Derived.Test.YtlhdicichdihfaaGreatDoorOwnRow
import Derived.Deep.RegionWith
import Derived.BigQuiet
import Derived.Test.YtlhdicichdihfaaGreatDoorNodeArgs
namespace Go.Proofs.YtlhdicichdihfaaGreatDoor
open Go.RowKit

def dig (j : Nat) : ByteArray := ⟨#[UInt8.ofNat (48 + j % 10)]⟩

theorem dig_run (j : Nat) (w : World) : (convert 71 9 (.slice (some ⟨w.heap.size, 0, none⟩) 1 1)).run Tryz.prog (w.alloc (.cells #[.int .u8 (48 + (j : Int) % 10)] 5)) = .ok (.string (dig j)) (w.alloc (.cells #[.int .u8 (48 + (j : Int) % 10)] 5)) := by
  have h := run_convert_bytes_back (P := Tryz.prog) (w.alloc (.cells #[.int .u8 (48 + (j : Int) % 10)] 5)) 71 9 5 ⟨w.heap.size, 0, none⟩ 1 [UInt8.ofNat (48 + j % 10)] Tryz.underlying71 Tryz.underlying5 Tryz.underlying9 (fun i hi => by
    have h0 : i = 0 := by simpa using hi
    subst h0
    simp [Addr.add]
    omega)
  exact h

/-- The digits of a mark, put ahead one by one. -/
def markGo : Nat → Nat → ByteArray → ByteArray
  | 0, _, out => out
  | f + 1, j, out => if j = 0 then out else markGo f (j / 10) (dig j ++ out)

def markOf (k : Nat) : ByteArray := if k = 0 then ⟨#[109, 48]⟩ else ⟨#[109]⟩ ++ markGo k k ⟨#[]⟩

set_option maxHeartbeats 1000000 in
set_option maxRecDepth 100000 in
theorem mark_calls (k : Nat) (HK : Hid (k ≤ 10000000)) (w : World) :
    Calls Tryz.prog 25 #[.int .i64 k] w fun e w' => e = .returned (.string (markOf k)) ∧ Below w.heap.size w w' := by
  by_cases h0 : k = 0
  · subst h0
    go_enter Tryz.func25, Tryz.ntmps25
    go_wp2_with fail
    go_ret
    exact ⟨rfl, Below.refl _ _⟩
  obtain ⟨R, hR⟩ : ∃ R, markGo k k ⟨#[]⟩ = R := ⟨_, rfl⟩
  have e : markOf k = ⟨#[109]⟩ ++ R := by rw [markOf, if_neg h0, hR]
  rw [e]
  have HR : Hid (markGo k k ⟨#[]⟩ = R) := hR
  clear hR e
  go_enter Tryz.func25, Tryz.ntmps25
  go_wp2_with fail
  go_loopw [0, 3] (fun a o wr => ∃ (j f : Nat) (out : ByteArray), a = .int .i64 j ∧ o = .string out ∧ (j : Int) ≤ 10000000 ∧ out.size ≤ 8 ∧ Hid (j ≤ f ∧ ∃ d, out.size + d ≤ 8 ∧ j < 10 ^ d) ∧ Hid (markGo f j out = R) ∧ Below w.heap.size w wr) (fun a _ _ => (intOf a).toNat)
  case atStart => exact ⟨k, k, _, rfl, rfl, by have := HK.out; omega, Nat.zero_le _, ⟨Nat.le_refl _, 8, Nat.le_refl _, by have := HK.out; omega⟩, HR, Below.refl _ _⟩
  case round =>
    obtain ⟨j, f, out, rfl, rfl, hj9, hos, HFo, HE, hnx⟩ := hrel
    clear HR
    by_cases hj0 : j = 0
    · subst hj0
      have hE : out = R := by
        have := HE.out
        cases f with
        | zero => exact this
        | succ f => simpa [markGo] using this
      subst hE
      clear HE
      go_wp2_with fail
      go_ret
      exact ⟨rfl, hnx⟩
    · obtain ⟨f, rfl⟩ : ∃ f', f = f' + 1 := ⟨f - 1, by have := HFo.out.1; omega⟩
      have HFn : Hid (j / 10 ≤ f ∧ ∃ d, out.size + 1 + d ≤ 8 ∧ j / 10 < 10 ^ d) := by
        obtain ⟨h1, d, h2, h3⟩ := HFo.out
        cases d with
        | zero => exfalso; simp at h3; omega
        | succ d => exact ⟨by omega, d, by omega, by rw [Nat.pow_succ] at h3; omega⟩
      have hos2 : out.size ≤ 7 := by obtain ⟨-, d, h, -⟩ := HFn.out; omega
      have hE := HE.out
      rw [markGo, if_neg hj0] at hE
      have HE' : Hid (markGo f (j / 10) (dig j ++ out) = R) := hE
      have hcv := dig_run j wr
      have hdz : (dig j).size = 1 := rfl
      clear HE hE
      generalize dig j = dj at *
      go_wp2_with fail
      refine ⟨⟨j / 10, f, dj ++ out, by simp, rfl, by omega, ?_, ⟨HFn.out.1, ?_⟩, HE', hnx.alloc hnx.size _⟩, by simp [intOf]; omega⟩
      · rw [ByteArray.size_append, hdz]
        omega
      · obtain ⟨-, d, h1, h2⟩ := HFn.out
        exact ⟨d, by rw [ByteArray.size_append, hdz]; omega, h2⟩

theorem mark_callsZ (x : Int) (HX : Hid (0 ≤ x ∧ x ≤ 10000000)) (w : World) :
    Calls Tryz.prog 25 #[.int .i64 x] w fun e w' => e = .returned (.string (markOf x.toNat)) ∧ Below w.heap.size w w' := by
  obtain ⟨n, rfl⟩ := Int.eq_ofNat_of_zero_le HX.out.1
  rw [Int.toNat_natCast]
  exact mark_calls n (by have := HX.out.2; show _ ≤ _; omega) w
end Go.Proofs.YtlhdicichdihfaaGreatDoor

/- Lists of texts in memory: two that hold the same compare as alike; marks that are put into one are held by it. -/
namespace Go.Proofs.YtlhdicichdihfaaGreatDoor
open Go.RowKit

def strF (ss : List ByteArray) (i : Nat) : Value := .string (ss.getD i ⟨#[]⟩)

/-- The marks, told by the place. -/
def strMarks (i : Nat) : Value := .string (markOf (1 + i))

theorem wrap_inc {k n : Nat} (hk : k < n) (hm : n ≤ 1048576) : wrap64 ((k : Int) + 1) = ((k + 1 : Nat) : Int) := by
  unfold wrap64
  omega

theorem wrap_inc1 {x : Int} {k n : Nat} (hx : x = 1 + (k : Int)) (hk : k < n) (hm : n ≤ 1048576) : wrap64 (x + 1) = x + 1 := by
  unfold wrap64
  omega

/-- A slice that holds these texts. -/
def StrSlice (w : World) (v : Value) (ss : List ByteArray) : Prop :=
  ∃ ad cap, v = .slice ad ss.length cap ∧ (ss.length = 0 ∨ ∃ g o, ad = some ⟨g, o, none⟩ ∧ g < w.heap.size ∧ ∀ k, k < ss.length → w.cell? ⟨g, o + k, none⟩ = some (strF ss k))

theorem StrSlice.below {w w' : World} {v : Value} {ss : List ByteArray} (h : StrSlice w v ss) (hb : Below w.heap.size w w') : StrSlice w' v ss := by
  obtain ⟨ad, cap, rfl, h⟩ := h
  refine ⟨ad, cap, rfl, h.imp id ?_⟩
  rintro ⟨g, o, rfl, hg, hc⟩
  exact ⟨g, o, rfl, Nat.lt_of_lt_of_le hg hb.size, fun k hk => (hb.cell (p := ⟨g, o + k, none⟩) hg).trans (hc k hk)⟩

theorem SliceR.strSlice {B : Nat} {w : World} {v : Value} {ss : List ByteArray} (h : SliceR 9 1 B w v ss.length (strF ss)) : StrSlice w v ss := by
  obtain ⟨ad, cap, rfl, h⟩ := h
  refine ⟨ad, cap, rfl, h.imp id ?_⟩
  rintro ⟨g, rfl, hB, hr⟩
  exact ⟨g, 0, rfl, hr.lt, fun k hk => by rw [Nat.zero_add]; exact hr.cell (by omega)⟩

set_option maxRecDepth 100000 in
theorem eqStringS_none (ad ad' : Option Addr) (cap cap' : Nat) (w : World) :
    Calls Tryz.prog 14 #[.slice ad 0 cap, .slice ad' 0 cap'] w fun e w' => e = .returned (.bool true) ∧ Below w.heap.size w w' := by
  go_enter Tryz.func14, Tryz.ntmps14
  go_wp2
  refine wp_loop_rounds 1 ?_
  rw [rounds_succ]
  go_wp2
  go_ret
  exact ⟨rfl, Below.refl _ _⟩

set_option maxHeartbeats 1000000 in
set_option maxRecDepth 100000 in
theorem eqStringS_rows (b off b' off' len cap cap' : Nat) (bs : List ByteArray) (w : World) (hn : ∀ k, k < len → w.cell? ⟨b, off + k, none⟩ = some (strF bs k)) (hn' : ∀ k, k < len → w.cell? ⟨b', off' + k, none⟩ = some (strF bs k)) (hm : len ≤ 1048576) :
    Calls Tryz.prog 14 #[.slice (some ⟨b, off, none⟩) len cap, .slice (some ⟨b', off', none⟩) len cap'] w fun e w' => e = .returned (.bool true) ∧ Below w.heap.size w w' := by
  have HM : Hid (len ≤ 1048576) := hm
  have HN := hid (And.intro hn hn')
  clear hm hn hn'
  go_enter Tryz.func14, Tryz.ntmps14
  go_wp2_with fail
  go_loopw [5] (fun i wr => ∃ k : Nat, k ≤ len ∧ i = .int .i64 k ∧ Below w.heap.size w wr ∧ ∀ a, wr.cell? a = w.cell? a) (fun i _ => len - (intOf i).toNat)
  case atStart => exact ⟨0, Nat.zero_le _, rfl, Below.refl _ _, fun _ => rfl⟩
  case round =>
    obtain ⟨k, hk, rfl, hnx, hce⟩ := hrel
    by_cases hkl : (k : Int) < (len : Int)
    · have c0 := (hce _).trans (HN.out.1 k (by omega))
      have d0 := (hce _).trans (HN.out.2 k (by omega))
      unfold strF at c0 d0
      generalize bs.getD k ⟨#[]⟩ = n at c0 d0
      have hi0 : (0 : Int) ≤ (k : Int) := by omega
      have Hce : Hid (∀ a, wr.cell? a = w.cell? a) := hce
      clear hce
      go_wp2_with fail
      go_region
      all_goals
        go_wp2_with fail
        have hs : len - (intOf (.int .i64 ((k + 1 : Nat) : Int))).toNat < len - (intOf (.int .i64 (k : Int))).toNat := by simp only [intOf, Int.toNat_natCast]; omega
        try rw [wrap_inc (n := len) (by omega) HM.out]
        exact ⟨⟨k + 1, by omega, rfl, hnx.drew, Hce.out⟩, hs⟩
    · go_wp2_with fail
      go_ret
      exact ⟨rfl, hnx⟩

theorem eqStringS_any {v v' : Value} {bs : List ByteArray} (w : World) (hm : bs.length ≤ 1048576) (h : StrSlice w v bs) (h' : StrSlice w v' bs) :
    Calls Tryz.prog 14 #[v, v'] w fun e w' => e = .returned (.bool true) ∧ Below w.heap.size w w' := by
  obtain ⟨ad, cap, rfl, h⟩ := h
  obtain ⟨ad', cap', rfl, h'⟩ := h'
  by_cases h0 : bs.length = 0
  · rw [h0]
    exact eqStringS_none ad ad' cap cap' w
  · obtain ⟨g, o, rfl, hb, hr⟩ := h.resolve_left h0
    obtain ⟨g', o', rfl, hb', hr'⟩ := h'.resolve_left h0
    exact eqStringS_rows g o g' o' _ cap cap' bs w hr hr' hm

theorem row_more {k : Nat} {f f' F : Nat → Value} (hf : ∀ i, i < k → f i = F i) (ho : ∀ i, i < k → f' i = f i) (h0 : f' k = F k) : ∀ i, i < k + 1 → f' i = F i := by
  intro i hi
  by_cases h : i < k
  · rw [ho i h, hf i h]
  · rw [show i = k by omega]
    exact h0

set_option maxHeartbeats 1000000 in
set_option maxRecDepth 100000 in
theorem markStringS_rows (g n cap : Nat) (F : Nat → Value) (w : World) (hm : n ≤ 1048576) (hr : CellRow 9 w g n F) :
    Calls Tryz.prog 15 #[.slice (some ⟨g, 0, none⟩) n cap, .int .i64 1] w fun e w' => e = .returned (.int .i64 (1 + (n : Int))) ∧ CellRow 9 w' g n strMarks ∧ w.grownBy w' (some g) := by
  obtain ⟨N, f, hf, hN, _⟩ := hr
  have HM : Hid (n ≤ 1048576) := hm
  clear hm
  go_enter Tryz.func15, Tryz.ntmps15
  go_wp2_with fail
  go_loopw [1, 5] (fun m i wr => ∃ (k : Nat) (x : Int) (f : Nat → Value), k ≤ n ∧ i = .int .i64 k ∧ m = .int .i64 x ∧ Hid (x = 1 + (k : Int)) ∧ Rw wr g 9 N f n ∧ Hid (∀ j, j < k → f j = strMarks j) ∧ w.grownBy wr (some g)) (fun _ i _ => n - (intOf i).toNat)
  case atStart => exact ⟨0, 1, f, Nat.zero_le _, rfl, rfl, by show _ = _; simp, hf, fun j hj => by omega, kept_refl _ _⟩
  case round =>
    obtain ⟨k, x, f, hk, rfl, rfl, Hx, hrow, HF, hgr⟩ := hrel
    clear hf
    by_cases hkl : (k : Int) < (n : Int)
    · have HW : Hid _ := wrap_inc1 Hx.out (by omega) HM.out
      have HC := hid (fun X => mark_callsZ x (by show _ ∧ _; have := Hx.out; have := HM.out; omega) X)
      have hmk : markOf x.toNat = markOf (1 + k) := by rw [Hx.out]; congr 1
      rw [hmk] at HC
      have HB : Hid (strMarks k = .string (markOf (1 + k))) := rfl
      generalize markOf (1 + k) = mk at *
      clear hmk
      go_wp2_with fail
      refine (HC.out _).mono ?_
      rintro e W1 ⟨rfl, hb1⟩
      have hrow1 := hrow.of_block (hb1.block g hrow.lt)
      have hgr1 := kept_below hgr hb1
      have q0 := hrow1.cell (i := k) (by omega)
      have z0 := hrow1.frozen k (by omega)
      clear hrow hgr hb1 HC
      go_wp2_with fail
      rw [HW.out, wrap_inc (n := n) (by omega) HM.out]
      have hs : n - (intOf (.int .i64 ((k + 1 : Nat) : Int))).toNat < n - (intOf (.int .i64 (k : Int))).toNat := by simp only [intOf, Int.toNat_natCast]; omega
      have hx := Hx.out
      refine ⟨⟨k + 1, x + 1, _, by omega, rfl, rfl, by show _ = _; omega, hrow1.set k _, row_more HF.out (fun i hi => by rw [if_neg (by omega)]) ?_, kept_set hgr1 _ _⟩, hs⟩
      rw [if_pos rfl, HB.out]
    · have hkn : k = n := by omega
      subst hkn
      have HX : Hid (x = 1 + (k : Int)) := Hx
      clear Hx
      go_wp2_with fail
      go_ret
      exact ⟨by rw [← HX.out]; rfl, ⟨N, f, hrow, hN, HF.out⟩, hgr⟩

set_option maxHeartbeats 1000000 in
set_option maxRecDepth 100000 in
theorem heldStringS_rows (g n cap : Nat) (w : World) (hm : n ≤ 1048576) (hr : CellRow 9 w g n strMarks) :
    Calls Tryz.prog 16 #[.slice (some ⟨g, 0, none⟩) n cap, .int .i64 1] w fun e w' => e = .returned (.int .i64 (1 + (n : Int))) ∧ Below w.heap.size w w' := by
  have HM : Hid (n ≤ 1048576) := hm
  have HR := hid hr
  clear hm hr
  go_enter Tryz.func16, Tryz.ntmps16
  go_wp2_with fail
  go_loopw [1, 5] (fun m i wr => ∃ (k : Nat) (x : Int), k ≤ n ∧ i = .int .i64 k ∧ m = .int .i64 x ∧ Hid (x = 1 + (k : Int)) ∧ Below w.heap.size w wr) (fun _ i _ => n - (intOf i).toNat)
  case atStart => exact ⟨0, 1, Nat.zero_le _, rfl, rfl, by show _ = _; simp, Below.refl _ _⟩
  case round =>
    obtain ⟨k, x, hk, rfl, rfl, Hx, hnx⟩ := hrel
    by_cases hkl : (k : Int) < (n : Int)
    · have q0 := (hnx.cell (p := ⟨g, k, none⟩) HR.out.lt).trans (HR.out.cell (i := k) (by omega))
      have HW : Hid _ := wrap_inc1 Hx.out (by omega) HM.out
      have HC := hid (fun X => mark_callsZ x (by show _ ∧ _; have := Hx.out; have := HM.out; omega) X)
      have hmk : markOf x.toNat = markOf (1 + k) := by rw [Hx.out]; congr 1
      rw [hmk] at HC
      unfold strMarks at q0
      generalize markOf (1 + k) = mk at *
      have hi0 : (0 : Int) ≤ (k : Int) := by omega
      have hgr : g < wr.heap.size := Nat.lt_of_lt_of_le HR.out.lt hnx.size
      clear hmk
      go_wp2_with fail
      go_region_with (go_at_call 25; refine (HC.out _).mono ?_; rintro e w1 ⟨rfl, hb1⟩; have c1' := (hb1.cell (p := ⟨g, k, none⟩) hgr).trans q0)
      all_goals
        have hb2 := hnx.drew.trans (hb1.mono hnx.size)
        clear hb1 q0 HC
        go_wp2_with fail
        rw [HW.out, wrap_inc (n := n) (by omega) HM.out]
        have hs : n - (intOf (.int .i64 ((k + 1 : Nat) : Int))).toNat < n - (intOf (.int .i64 (k : Int))).toNat := by simp only [intOf, Int.toNat_natCast]; omega
        have hx := Hx.out
        exact ⟨⟨k + 1, x + 1, by omega, rfl, rfl, by show _ = _; omega, hb2⟩, hs⟩
    · have hkn : k = n := by omega
      subst hkn
      have HX : Hid (x = 1 + (k : Int)) := Hx
      clear Hx
      go_wp2_with fail
      go_ret
      exact ⟨by rw [← HX.out]; rfl, hnx⟩

set_option maxRecDepth 100000 in
theorem markStringS_none (ad : Option Addr) (cap : Nat) (w : World) :
    Calls Tryz.prog 15 #[.slice ad 0 cap, .int .i64 1] w fun e w' => e = .returned (.int .i64 1) ∧ w = w' := by
  go_enter Tryz.func15, Tryz.ntmps15
  go_wp2
  refine wp_loop_rounds 1 ?_
  rw [rounds_succ]
  go_wp2
  go_ret
  exact ⟨rfl, rfl⟩

set_option maxRecDepth 100000 in
theorem heldStringS_none (ad : Option Addr) (cap : Nat) (w : World) :
    Calls Tryz.prog 16 #[.slice ad 0 cap, .int .i64 1] w fun e w' => e = .returned (.int .i64 1) ∧ w = w' := by
  go_enter Tryz.func16, Tryz.ntmps16
  go_wp2
  refine wp_loop_rounds 1 ?_
  rw [rounds_succ]
  go_wp2
  go_ret
  exact ⟨rfl, rfl⟩

theorem markStringS_any {B n : Nat} {v : Value} {F : Nat → Value} (w : World) (hm : n ≤ 1048576) (h : SliceR 9 1 B w v n F) :
    Calls Tryz.prog 15 #[v, .int .i64 1] w fun e w' => e = .returned (.int .i64 (1 + (n : Int))) ∧ SliceR 9 1 B w' v n strMarks ∧ Turned w w' v n := by
  obtain ⟨ad, cap, rfl, h⟩ := h
  by_cases h0 : n = 0
  · subst h0
    refine (markStringS_none ad cap w).mono ?_
    rintro e w' ⟨rfl, rfl⟩
    exact ⟨by simp, ⟨ad, cap, rfl, Or.inl rfl⟩, none, kept_refl _ _, Or.inl rfl⟩
  · obtain ⟨g, rfl, hB, hr⟩ := h.resolve_left h0
    rw [Nat.mul_one] at hr
    refine (markStringS_rows g n cap F w hm hr).mono ?_
    rintro e w' ⟨rfl, hr', hg⟩
    exact ⟨rfl, ⟨_, cap, rfl, Or.inr ⟨g, rfl, hB, by rw [Nat.mul_one]; exact hr'⟩⟩, some g, hg, Or.inr ⟨h0, rfl⟩⟩

theorem heldStringS_any {B n : Nat} {v : Value} (w : World) (hm : n ≤ 1048576) (h : SliceR 9 1 B w v n strMarks) :
    Calls Tryz.prog 16 #[v, .int .i64 1] w fun e w' => e = .returned (.int .i64 (1 + (n : Int))) ∧ Below w.heap.size w w' := by
  obtain ⟨ad, cap, rfl, h⟩ := h
  by_cases h0 : n = 0
  · subst h0
    refine (heldStringS_none ad cap w).mono ?_
    rintro e w' ⟨rfl, rfl⟩
    exact ⟨by simp, Below.refl _ _⟩
  · obtain ⟨g, rfl, hB, hr⟩ := h.resolve_left h0
    rw [Nat.mul_one] at hr
    exact heldStringS_rows g n cap w hm hr
end Go.Proofs.YtlhdicichdihfaaGreatDoor

/- Lists of nodes in memory: a copy lies in a row of its own; marks that are put into one are held by it. -/
namespace Go.Proofs.YtlhdicichdihfaaGreatDoor
open Go.RowKit

/-- The cells of nodes, told by place. -/
def ndF (ns : List Nd) (i : Nat) : Value := (ns.getD (i / 6) default).cell (i % 6)

theorem ndF_at (ns : List Nd) (j c : Nat) (hc : c < 6) : ndF ns (j * 6 + c) = (ns.getD j default).cell c := by
  unfold ndF
  rw [show (j * 6 + c) / 6 = j by omega, show (j * 6 + c) % 6 = c by omega]

theorem CellRow.nodes {w : World} {g : Nat} {ns : List Nd} (h : CellRow 42 w g (ns.length * 6) (ndF ns)) : NodesAt w g 0 ns := by
  intro j hj c hc
  rw [Nat.zero_add, h.cell (by omega), ndF_at ns j c hc]

set_option maxRecDepth 100000 in
theorem toNodeS_rowsF (b off len cap : Nat) (ns : List Nd) (w : World) (hb : b < w.heap.size) (hn : NodesAt w b off ns) (hl : len ≤ ns.length) (hm : len ≤ 1048576) :
    Calls Tryz.prog 7 #[.slice (some ⟨b, off, none⟩) len cap] w fun e w' => e = .returned (.slice (some ⟨w.heap.size, 0, none⟩) len len) ∧ CellRow 42 w' w.heap.size (len * 6) (ndF ns) ∧ Below w.heap.size w w' := by
  obtain ⟨c, hcs, hmk⟩ := made_nodes len hm w
  have hrow := World.rowIs_alloc w c 42 (fun i => c.getD i undef) (fun i hi => by simp [hi])
  rw [hcs] at hrow
  go_enter Tryz.func7, Tryz.ntmps7
  go_wp2_with fail
  clear hmk
  go_loopw [4] (fun i wr => ∃ (k : Nat) (f : Nat → Value), k ≤ len ∧ i = .int .i64 k ∧ wr.rowIs w.heap.size 42 (len * 6) f ∧ (∀ j, j < k → ∀ c, c < 6 → f (j * 6 + c) = (ns.getD j default).cell c) ∧ Below w.heap.size w wr) (fun i _ => len - (intOf i).toNat)
  case atStart => exact ⟨0, _, Nat.zero_le _, rfl, hrow, fun j hj => by omega, (Below.refl _ _).alloc (Nat.le_refl _) _⟩
  case round =>
    obtain ⟨k, f, hk, rfl, hown, hf, hnx⟩ := hrel
    by_cases hkl : k < len
    · have hcell := fun c (hc : c < 6) => (hnx.cell (p := ⟨b, off + k * 6 + c, none⟩) hb).trans (hn k (by omega) c hc)
      obtain ⟨n, hnd⟩ : ∃ n, ns.getD k default = n := ⟨_, rfl⟩
      rw [hnd] at hcell
      have c0 := hcell 0 (by omega)
      have c1 := hcell 1 (by omega)
      have c2 := hcell 2 (by omega)
      have c3 := hcell 3 (by omega)
      have c4 := hcell 4 (by omega)
      have c5 := hcell 5 (by omega)
      simp only [Nd.cell, Nat.add_zero] at c0 c1 c2 c3 c4 c5
      have Hf : Hid (∀ j, j < k → ∀ c, c < 6 → f (j * 6 + c) = (ns.getD j default).cell c) := hf
      have Hnd : Hid (ns.getD k default = n) := hnd
      clear hcell hn hf hnd
      go_wp2_with fail
      refine (toNode_calls _ _ _ _ _ _ _).mono ?_
      rintro e w1 ⟨rfl, hb1⟩
      clear c0 c1 c2 c3 c4 c5
      have hown1 := hown.of_block (hb1.block w.heap.size hown.lt)
      have hnx1 := hnx.trans (hb1.mono hnx.size)
      have q0 := hown1.cell (i := k * 6) (by omega)
      have q1 := hown1.cell (i := k * 6 + 1) (by omega)
      have q2 := hown1.cell (i := k * 6 + 2) (by omega)
      have q3 := hown1.cell (i := k * 6 + 3) (by omega)
      have q4 := hown1.cell (i := k * 6 + 4) (by omega)
      have q5 := hown1.cell (i := k * 6 + 5) (by omega)
      have z0 := hown1.frozen (k * 6)
      have z1 := hown1.frozen (k * 6 + 1)
      have z2 := hown1.frozen (k * 6 + 2)
      have z3 := hown1.frozen (k * 6 + 3)
      have z4 := hown1.frozen (k * 6 + 4)
      have z5 := hown1.frozen (k * 6 + 5)
      clear hown hnx hb1
      go_wp2_with fail
      obtain ⟨f', hr', hf'⟩ := copy_step hown1 Hf.out Hnd.out
      refine ⟨⟨k + 1, f', by omega, by simp, hr', hf', ?_⟩, by simp [intOf]; omega⟩
      exact (((((hnx1.setCell (by simp) _).setCell (by simp) _).setCell (by simp) _).setCell (by simp) _).setCell (by simp) _).setCell (by simp) _
    · go_wp2_with fail
      go_ret
      refine ⟨rfl, ⟨len * 6, f, rw_of_row hown _, Nat.le_refl _, fun i hi => ?_⟩, hnx⟩
      have := hf (i / 6) (by omega) (i % 6) (by omega)
      rw [show i / 6 * 6 + i % 6 = i by omega] at this
      exact this

theorem toNodeS_row {v : Value} {ns : List Nd} (w : World) (hv : NodeSlice w v ns) (hm : ns.length ≤ 1048576) :
    Calls Tryz.prog 7 #[v] w fun e w' => e = .returned (.slice (some ⟨w.heap.size, 0, none⟩) ns.length ns.length) ∧ SliceR 42 6 w.heap.size w' (.slice (some ⟨w.heap.size, 0, none⟩) ns.length ns.length) ns.length (ndF ns) ∧ w.heap.size < w'.heap.size ∧ Below w.heap.size w w' := by
  obtain ⟨a, cap, rfl, h⟩ := hv
  by_cases he : ns = []
  · subst he
    refine (toNodeS_none a cap w).mono ?_
    rintro e w' ⟨rfl, h1, h2⟩
    exact ⟨rfl, ⟨_, _, rfl, Or.inl rfl⟩, h1, h2⟩
  · obtain ⟨b, off, rfl, hb, hn⟩ := h.resolve_left he
    refine (toNodeS_rowsF b off ns.length cap ns w hb hn (Nat.le_refl _) hm).mono ?_
    rintro e w' ⟨rfl, h1, h3⟩
    exact ⟨rfl, ⟨_, _, rfl, Or.inr ⟨_, rfl, Nat.le_refl _, h1⟩⟩, h1.lt, h3⟩

theorem SliceR.nodesAt {B g n cap : Nat} {w : World} {ns : List Nd} (h : SliceR 42 6 B w (.slice (some ⟨g, 0, none⟩) n cap) ns.length (ndF ns)) : NodesAt w g 0 ns := by
  obtain ⟨ad, c, e, h⟩ := h
  cases e
  by_cases h0 : ns.length = 0
  · intro j hj
    omega
  · obtain ⟨g', e, -, hr⟩ := h.resolve_left h0
    cases e
    exact hr.nodes

/-- The marks, told by the place of the cell. -/
def ndMarks (i : Nat) : Value := if i % 6 = 2 ∨ i % 6 = 3 ∨ i % 6 = 4 then .string (markOf (1 + i)) else .int .i64 (1 + (i : Int))

theorem wrap_six {x : Int} {k n : Nat} (hx : x = 1 + 6 * (k : Int)) (hk : k < n) (hm : n ≤ 1048576) : wrap64 (x + 1) = x + 1 ∧ wrap64 (x + 1 + 1) = x + 1 + 1 ∧ wrap64 (x + 1 + 1 + 1) = x + 1 + 1 + 1 ∧ wrap64 (x + 1 + 1 + 1 + 1) = x + 1 + 1 + 1 + 1 ∧ wrap64 (x + 1 + 1 + 1 + 1 + 1) = x + 1 + 1 + 1 + 1 + 1 ∧ wrap64 (x + 1 + 1 + 1 + 1 + 1 + 1) = x + 1 + 1 + 1 + 1 + 1 + 1 := by
  unfold wrap64
  omega

theorem six_more {k : Nat} {f f' F : Nat → Value} (hf : ∀ i, i < k * 6 → f i = F i) (ho : ∀ i, i < k * 6 → f' i = f i) (h : ∀ c, c < 6 → f' (k * 6 + c) = F (k * 6 + c)) : ∀ i, i < (k + 1) * 6 → f' i = F i := by
  intro i hi
  by_cases hik : i < k * 6
  · rw [ho i hik, hf i hik]
  · have := h (i - k * 6) (by omega)
    rwa [show k * 6 + (i - k * 6) = i by omega] at this

theorem Rw.put {w : World} {g : Nat} {t : TypeId} {N n : Nat} {f : Nat → Value} (h : Rw w g t N f n) (i : Nat) (v : Value) : ∃ f', Rw (w.setCell ⟨g, i, none⟩ v) g t N f' n ∧ f' i = v ∧ ∀ j, j ≠ i → f' j = f j :=
  ⟨_, h.set i v, if_pos rfl, fun _ hj => if_neg hj⟩

set_option maxHeartbeats 4000000 in
set_option maxRecDepth 100000 in
theorem markNodeS_rows (g n cap : Nat) (F : Nat → Value) (w : World) (hm : n ≤ 1048576) (hr : CellRow 42 w g (n * 6) F) :
    Calls Tryz.prog 10 #[.slice (some ⟨g, 0, none⟩) n cap, .int .i64 1] w fun e w' => e = .returned (.int .i64 (1 + 6 * (n : Int))) ∧ CellRow 42 w' g (n * 6) ndMarks ∧ w.grownBy w' (some g) := by
  obtain ⟨N, f, hf, hN, _⟩ := hr
  have HM : Hid (n ≤ 1048576) := hm
  clear hm
  go_enter Tryz.func10, Tryz.ntmps10
  go_wp2_with fail
  go_loopw [1, 5] (fun m i wr => ∃ (k : Nat) (x : Int) (f : Nat → Value), k ≤ n ∧ i = .int .i64 k ∧ m = .int .i64 x ∧ Hid (x = 1 + 6 * (k : Int)) ∧ Rw wr g 42 N f (n * 6) ∧ Hid (∀ j, j < k * 6 → f j = ndMarks j) ∧ w.grownBy wr (some g)) (fun _ i _ => n - (intOf i).toNat)
  case atStart => exact ⟨0, 1, f, Nat.zero_le _, rfl, rfl, by show _ = _; simp, hf, fun j hj => by omega, kept_refl _ _⟩
  case round =>
    obtain ⟨k, x, f, hk, rfl, rfl, Hx, hrow, HF, hgr⟩ := hrel
    clear hf
    by_cases hkl : (k : Int) < (n : Int)
    · have HW := hid (wrap_six Hx.out (by omega) HM.out)
      have HC : Hid (∀ (c : Nat) (X : World), 2 ≤ c → c ≤ 4 → Calls Tryz.prog 25 #[.int .i64 (x + (c : Int))] X fun e w' => e = .returned (.string (markOf (1 + (k * 6 + c)))) ∧ Below X.heap.size X w') := fun c X h1 h2 => by
        have := mark_callsZ (x + (c : Int)) (by show _ ∧ _; have := Hx.out; have := HM.out; omega) X
        rwa [show (x + (c : Int)).toNat = 1 + (k * 6 + c) by have := Hx.out; omega] at this
      have HC2 := hid (fun X => HC.out 2 X (by decide) (by decide))
      have HC3 := hid (fun X => HC.out 3 X (by decide) (by decide))
      have HC4 := hid (fun X => HC.out 4 X (by decide) (by decide))
      rw [show x + ((2 : Nat) : Int) = x + 1 + 1 by omega] at HC2
      rw [show x + ((3 : Nat) : Int) = x + 1 + 1 + 1 by omega] at HC3
      rw [show x + ((4 : Nat) : Int) = x + 1 + 1 + 1 + 1 by omega] at HC4
      have HB : Hid (ndMarks (k * 6 + 0) = .int .i64 x ∧ ndMarks (k * 6 + 1) = .int .i64 (x + 1) ∧ ndMarks (k * 6 + 2) = .string (markOf (1 + (k * 6 + 2))) ∧ ndMarks (k * 6 + 3) = .string (markOf (1 + (k * 6 + 3))) ∧ ndMarks (k * 6 + 4) = .string (markOf (1 + (k * 6 + 4))) ∧ ndMarks (k * 6 + 5) = .int .i64 (x + 1 + 1 + 1 + 1 + 1)) := by
        have hx := Hx.out
        unfold ndMarks
        refine ⟨?_, ?_, ?_, ?_, ?_, ?_⟩
        · rw [if_neg (by omega)]; congr 1; omega
        · rw [if_neg (by omega)]; congr 1; omega
        · rw [if_pos (by omega)]
        · rw [if_pos (by omega)]
        · rw [if_pos (by omega)]
        · rw [if_neg (by omega)]; congr 1; omega
      generalize markOf (1 + (k * 6 + 2)) = m2 at *
      generalize markOf (1 + (k * 6 + 3)) = m3 at *
      generalize markOf (1 + (k * 6 + 4)) = m4 at *
      have q0 := hrow.cell (i := k * 6) (by omega)
      have q1 := hrow.cell (i := k * 6 + 1) (by omega)
      have z0 := hrow.frozen (k * 6) (by omega)
      have z1 := hrow.frozen (k * 6 + 1) (by omega)
      clear HC
      obtain ⟨e1, e2, e3, e4, e5, e6⟩ := HW.out
      have HE := hid (And.intro e1 (And.intro e2 (And.intro e3 (And.intro e4 (And.intro e5 e6)))))
      clear e1 e2 e3 e4 e5 e6 HW
      go_wp2_with fail
      obtain ⟨e1, e2, e3, e4, e5, e6⟩ := HE.out
      simp only [e1, e2]
      clear e1 e2 e3 e4 e5 e6
      refine (HC2.out _).mono ?_
      rintro e W1 ⟨rfl, hb1⟩
      obtain ⟨f0, r0, a0, o0⟩ := hrow.put (k * 6) (.int .i64 x)
      obtain ⟨f1, r1, a1, o1⟩ := r0.put (k * 6 + 1) (.int .i64 (x + 1))
      have r1' := r1.of_block (hb1.block g r1.lt)
      have hgr1 := kept_below (kept_set (kept_set hgr (k * 6) (.int .i64 x)) (k * 6 + 1) (.int .i64 (x + 1))) hb1
      have q2 := r1'.cell (i := k * 6 + 2) (by omega)
      have z2 := r1'.frozen (k * 6 + 2) (by omega)
      have HO0 := hid (And.intro a0 o0)
      have HO1 := hid (And.intro a1 o1)
      clear q0 q1 z0 z1 hrow r0 r1 hb1 hgr a0 o0 a1 o1 HC2
      go_wp2_with fail
      obtain ⟨e1, e2, e3, e4, e5, e6⟩ := HE.out
      simp only [e3]
      clear e1 e2 e3 e4 e5 e6
      refine (HC3.out _).mono ?_
      rintro e W2 ⟨rfl, hb2⟩
      obtain ⟨f2, r2, a2, o2⟩ := r1'.put (k * 6 + 2) (.string m2)
      have r2' := r2.of_block (hb2.block g r2.lt)
      have hgr2 := kept_below (kept_set hgr1 (k * 6 + 2) (.string m2)) hb2
      have q3 := r2'.cell (i := k * 6 + 3) (by omega)
      have z3 := r2'.frozen (k * 6 + 3) (by omega)
      have HO2 := hid (And.intro a2 o2)
      clear q2 z2 r1' r2 hb2 hgr1 a2 o2 HC3
      go_wp2_with fail
      obtain ⟨e1, e2, e3, e4, e5, e6⟩ := HE.out
      simp only [e4]
      clear e1 e2 e3 e4 e5 e6
      refine (HC4.out _).mono ?_
      rintro e W3 ⟨rfl, hb3⟩
      obtain ⟨f3, r3, a3, o3⟩ := r2'.put (k * 6 + 3) (.string m3)
      have r3' := r3.of_block (hb3.block g r3.lt)
      have hgr3 := kept_below (kept_set hgr2 (k * 6 + 3) (.string m3)) hb3
      have q4 := r3'.cell (i := k * 6 + 4) (by omega)
      have z4 := r3'.frozen (k * 6 + 4) (by omega)
      have q5 := r3'.cell (i := k * 6 + 5) (by omega)
      have z5 := r3'.frozen (k * 6 + 5) (by omega)
      have HO3 := hid (And.intro a3 o3)
      clear q3 z3 r2' r3 hb3 hgr2 a3 o3 HC4
      go_wp2_with fail
      obtain ⟨e1, e2, e3, e4, e5, e6⟩ := HE.out
      simp only [e5, e6]
      obtain ⟨f4, r4, a4, o4⟩ := r3'.put (k * 6 + 4) (.string m4)
      obtain ⟨f5, r5, a5, o5⟩ := r4.put (k * 6 + 5) (.int .i64 (x + 1 + 1 + 1 + 1 + 1))
      obtain ⟨a0, o0⟩ := HO0.out
      obtain ⟨a1, o1⟩ := HO1.out
      obtain ⟨a2, o2⟩ := HO2.out
      obtain ⟨a3, o3⟩ := HO3.out
      obtain ⟨b0, b1, b2, b3, b4, b5⟩ := HB.out
      rw [wrap_inc (n := n) (by omega) HM.out]
      have hs : n - (intOf (.int .i64 ((k + 1 : Nat) : Int))).toNat < n - (intOf (.int .i64 (k : Int))).toNat := by simp only [intOf, Int.toNat_natCast]; omega
      have hx := Hx.out
      refine ⟨⟨k + 1, x + 1 + 1 + 1 + 1 + 1 + 1, f5, by omega, rfl, rfl, by show _ = _; omega, r5, six_more HF.out (fun i hi => ?_) (fun c hc => ?_), kept_set (kept_set hgr3 _ _) _ _⟩, hs⟩
      · rw [o5 i (by omega), o4 i (by omega), o3 i (by omega), o2 i (by omega), o1 i (by omega), o0 i (by omega)]
      · match c, hc with
        | 0, _ => rw [o5 _ (by omega), o4 _ (by omega), o3 _ (by omega), o2 _ (by omega), o1 _ (by omega), b0]; exact a0
        | 1, _ => rw [o5 _ (by omega), o4 _ (by omega), o3 _ (by omega), o2 _ (by omega), a1, b1]
        | 2, _ => rw [o5 _ (by omega), o4 _ (by omega), o3 _ (by omega), a2, b2]
        | 3, _ => rw [o5 _ (by omega), o4 _ (by omega), a3, b3]
        | 4, _ => rw [o5 _ (by omega), a4, b4]
        | 5, _ => rw [a5, b5]
    · have hkn : k = n := by omega
      subst hkn
      have HX : Hid (x = 1 + 6 * (k : Int)) := Hx
      clear Hx
      go_wp2_with fail
      go_ret
      exact ⟨by rw [← HX.out]; rfl, ⟨N, f, hrow, hN, HF.out⟩, hgr⟩

set_option maxRecDepth 100000 in
theorem markNodeS_none (ad : Option Addr) (cap : Nat) (w : World) :
    Calls Tryz.prog 10 #[.slice ad 0 cap, .int .i64 1] w fun e w' => e = .returned (.int .i64 1) ∧ w = w' := by
  go_enter Tryz.func10, Tryz.ntmps10
  go_wp2
  refine wp_loop_rounds 1 ?_
  rw [rounds_succ]
  go_wp2
  go_ret
  exact ⟨rfl, rfl⟩

theorem markNodeS_any {B n : Nat} {v : Value} {F : Nat → Value} (w : World) (hm : n ≤ 1048576) (h : SliceR 42 6 B w v n F) :
    Calls Tryz.prog 10 #[v, .int .i64 1] w fun e w' => e = .returned (.int .i64 (1 + 6 * (n : Int))) ∧ SliceR 42 6 B w' v n ndMarks ∧ Turned w w' v n := by
  obtain ⟨ad, cap, rfl, h⟩ := h
  by_cases h0 : n = 0
  · subst h0
    refine (markNodeS_none ad cap w).mono ?_
    rintro e w' ⟨rfl, rfl⟩
    exact ⟨by simp, ⟨ad, cap, rfl, Or.inl rfl⟩, none, kept_refl _ _, Or.inl rfl⟩
  · obtain ⟨g, rfl, hB, hr⟩ := h.resolve_left h0
    refine (markNodeS_rows g n cap F w hm hr).mono ?_
    rintro e w' ⟨rfl, hr', hg⟩
    exact ⟨rfl, ⟨_, cap, rfl, Or.inr ⟨g, rfl, hB, hr'⟩⟩, some g, hg, Or.inr ⟨h0, rfl⟩⟩
end Go.Proofs.YtlhdicichdihfaaGreatDoor

/- What a law holds in memory between its calls, told as facts, each of a stretch of blocks of its own. -/
namespace Go.Proofs.YtlhdicichdihfaaGreatDoor
open Go.RowKit

/-- Only such blocks are changed. -/
structure Chg (P : Nat → Prop) (w w' : World) : Prop where
  os : w'.os = w.os
  tape : w'.tape = w.tape
  output : w'.output = w.output
  size : w.heap.size ≤ w'.heap.size
  block : ∀ q, q < w.heap.size → ¬ P q → w'.heap[q]? = w.heap[q]?

theorem Chg.refl (P : Nat → Prop) (w : World) : Chg P w w := ⟨rfl, rfl, rfl, Nat.le_refl _, fun _ _ _ => rfl⟩

theorem Chg.trans {P : Nat → Prop} {w w1 w2 : World} (h : Chg P w w1) (h' : Chg P w1 w2) : Chg P w w2 :=
  ⟨h'.os.trans h.os, h'.tape.trans h.tape, h'.output.trans h.output, Nat.le_trans h.size h'.size, fun q hq hp => (h'.block q (Nat.lt_of_lt_of_le hq h.size) hp).trans (h.block q hq hp)⟩

theorem Chg.of_below {P : Nat → Prop} {w w' : World} (h : Below w.heap.size w w') : Chg P w w' := ⟨h.os, h.tape, h.output, h.size, fun q hq _ => h.block q hq⟩

theorem Chg.of_turned {P : Nat → Prop} {w w' : World} {v : Value} {n : Nat} (h : Turned w w' v n) (hp : ∀ q, n ≠ 0 → v.ownBlock = some q → P q) : Chg P w w' := by
  obtain ⟨row, hg, hrow⟩ := h
  refine ⟨hg.os, hg.tape, hg.output, hg.size, fun q hq hnp => hg.block q hq (fun e => ?_)⟩
  rcases hrow with rfl | ⟨hn, rfl⟩
  · cases e
  · exact hnp (hp q hn e.symm)

theorem Chg.set {P : Nat → Prop} {w : World} {g : Nat} (hp : P g) (i : Nat) (v : Value) : Chg P w (w.setCell ⟨g, i, none⟩ v) :=
  ⟨rfl, rfl, rfl, by simp [World.setCell], fun q _ hq => Below.heap_setCell w ⟨g, i, none⟩ v q (fun e => hq (e ▸ hp))⟩

theorem Chg.mono {P Q : Nat → Prop} {w w' : World} (h : Chg P w w') (hpq : ∀ q, P q → Q q) : Chg Q w w' := ⟨h.os, h.tape, h.output, h.size, fun q hq hn => h.block q hq (fun e => hn (hpq q e))⟩

theorem SliceR.chg {t : TypeId} {sz B : Nat} {P : Nat → Prop} {w w' : World} {v : Value} {n : Nat} {F : Nat → Value} (h : SliceR t sz B w v n F) (hc : Chg P w w') (hn : n ≠ 0 → ∀ q, v.ownBlock = some q → ¬ P q) : SliceR t sz B w' v n F := by
  obtain ⟨ad, cap, rfl, h⟩ := h
  refine ⟨ad, cap, rfl, ?_⟩
  by_cases h0 : n = 0
  · exact Or.inl h0
  · obtain ⟨g, rfl, hB, hr⟩ := h.resolve_left h0
    exact Or.inr ⟨g, rfl, hB, hr.of_block (hc.block g hr.lt (hn h0 g rfl))⟩

/-- What is told of a world depends on the blocks from lo to hi alone. -/
def Fact (lo hi : Nat) (T : World → Prop) : Prop := ∀ W W', T W → (∀ q, lo ≤ q → q < hi → W'.heap[q]? = W.heap[q]?) → T W'

theorem Fact.and {lo hi : Nat} {T U : World → Prop} (h : Fact lo hi T) (h' : Fact lo hi U) : Fact lo hi (fun W => T W ∧ U W) := fun W W' ht he => ⟨h W W' ht.1 he, h' W W' ht.2 he⟩

theorem Fact.wide {lo hi lo' hi' : Nat} {T : World → Prop} (h : Fact lo hi T) (h1 : lo' ≤ lo) (h2 : hi ≤ hi') : Fact lo' hi' T := fun W W' ht he => h W W' ht (fun q hq hq' => he q (by omega) (by omega))

theorem fact_slice {t : TypeId} {sz B hi : Nat} {v : Value} {n : Nat} (F : Nat → Value) (h : n ≠ 0 → ∀ q, v.ownBlock = some q → q < hi) : Fact B hi (fun X => SliceR t sz B X v n F) := by
  intro W W' ht he
  obtain ⟨ad, cap, rfl, ht⟩ := ht
  refine ⟨ad, cap, rfl, ?_⟩
  by_cases h0 : n = 0
  · exact Or.inl h0
  · obtain ⟨g, rfl, hB, hr⟩ := ht.resolve_left h0
    exact Or.inr ⟨g, rfl, hB, hr.of_block (he g hB (h h0 g rfl))⟩

/-- One fact: its stretch, what it tells. -/
structure Fc where
  lo : Nat
  hi : Nat
  T : World → Prop

/-- All that the law holds; the newest first. -/
structure Held (w0 : World) (l : List Fc) (W : World) : Prop where
  below : Below w0.heap.size w0 W
  fact : ∀ f ∈ l, Fact f.lo f.hi f.T
  tells : ∀ f ∈ l, f.T W
  lo : ∀ f ∈ l, w0.heap.size ≤ f.lo
  hi : ∀ f ∈ l, f.hi ≤ W.heap.size
  apart : l.Pairwise (fun f g => g.hi ≤ f.lo)

theorem Held.start (w : World) : Held w [] w := ⟨Below.refl _ _, fun _ h => (by cases h), fun _ h => (by cases h), fun _ h => (by cases h), fun _ h => (by cases h), List.Pairwise.nil⟩

theorem Held.keep {w0 W W' : World} {l : List Fc} (h : Held w0 l W) (hb : Below W.heap.size W W') : Held w0 l W' :=
  ⟨h.below.trans (hb.mono h.below.size), h.fact, fun f hf => h.fact f hf W W' (h.tells f hf) (fun q _ hq => hb.block q (Nat.lt_of_lt_of_le hq (h.hi f hf))), h.lo, fun f hf => Nat.le_trans (h.hi f hf) hb.size, h.apart⟩

theorem Held.add {w0 W W' : World} {l : List Fc} (h : Held w0 l W) (hb : Below W.heap.size W W') {T : World → Prop} (hf : Fact W.heap.size W'.heap.size T) (ht : T W') : Held w0 (⟨W.heap.size, W'.heap.size, T⟩ :: l) W' := by
  have k := h.keep hb
  refine ⟨k.below, fun f hf' => ?_, fun f hf' => ?_, fun f hf' => ?_, fun f hf' => ?_, List.Pairwise.cons (fun f hf' => h.hi f hf') h.apart⟩
  · rcases List.mem_cons.1 hf' with rfl | hf'
    · exact hf
    · exact k.fact f hf'
  · rcases List.mem_cons.1 hf' with rfl | hf'
    · exact ht
    · exact k.tells f hf'
  · rcases List.mem_cons.1 hf' with rfl | hf'
    · exact h.below.size
    · exact k.lo f hf'
  · rcases List.mem_cons.1 hf' with rfl | hf'
    · exact Nat.le_refl _
    · exact k.hi f hf'

/-- One fact is changed, within its stretch. -/
theorem Held.chg {w0 W W' : World} (l1 : List Fc) {l2 : List Fc} {lo hi : Nat} {T T' : World → Prop} {P : Nat → Prop} (h : Held w0 (l1 ++ ⟨lo, hi, T⟩ :: l2) W) (hc : Chg P W W') (hp : ∀ q, P q → lo ≤ q ∧ q < hi) (hf : Fact lo hi T') (ht : T' W') : Held w0 (l1 ++ ⟨lo, hi, T'⟩ :: l2) W' := by
  have hm : (⟨lo, hi, T⟩ : Fc) ∈ l1 ++ ⟨lo, hi, T⟩ :: l2 := List.mem_append_right _ List.mem_cons_self
  have hlo := h.lo _ hm
  obtain ⟨p1, p2, p3⟩ := List.pairwise_append.1 h.apart
  obtain ⟨p4, p5⟩ := List.pairwise_cons.1 p2
  have hcase : ∀ f, f ∈ l1 ++ ⟨lo, hi, T'⟩ :: l2 → f = ⟨lo, hi, T'⟩ ∨ (f ∈ l1 ++ ⟨lo, hi, T⟩ :: l2 ∧ (f.hi ≤ lo ∨ hi ≤ f.lo)) := fun f hf => by
    rcases List.mem_append.1 hf with h1 | h1
    · exact Or.inr ⟨List.mem_append_left _ h1, Or.inr (p3 f h1 _ List.mem_cons_self)⟩
    · rcases List.mem_cons.1 h1 with h1 | h1
      · exact Or.inl h1
      · exact Or.inr ⟨List.mem_append_right _ (List.mem_cons_of_mem _ h1), Or.inl (p4 f h1)⟩
  refine ⟨⟨hc.os.trans h.below.os, hc.tape.trans h.below.tape, hc.output.trans h.below.output, Nat.le_trans h.below.size hc.size, fun q hq => ?_⟩, fun f hf' => ?_, fun f hf' => ?_, fun f hf' => ?_, fun f hf' => ?_, ?_⟩
  · exact (hc.block q (Nat.lt_of_lt_of_le hq h.below.size) (fun e => by have := (hp q e).1; have hlo' : w0.heap.size ≤ lo := hlo; omega)).trans (h.below.block q hq)
  · rcases hcase f hf' with rfl | ⟨h1, -⟩
    · exact hf
    · exact h.fact f h1
  · rcases hcase f hf' with rfl | ⟨h1, h2⟩
    · exact ht
    · have hh := h.hi f h1
      exact h.fact f h1 W W' (h.tells f h1) (fun q hq hq' => hc.block q (by omega) (fun e => by have := hp q e; omega))
  · rcases hcase f hf' with rfl | ⟨h1, -⟩
    · exact hlo
    · exact h.lo f h1
  · have hs := hc.size
    rcases hcase f hf' with rfl | ⟨h1, -⟩
    · exact Nat.le_trans (h.hi ⟨lo, hi, T⟩ hm) hs
    · exact Nat.le_trans (h.hi f h1) hs
  · refine List.pairwise_append.2 ⟨p1, List.pairwise_cons.2 ⟨p4, p5⟩, fun a ha b hb => ?_⟩
    rcases List.mem_cons.1 hb with rfl | hb
    · exact p3 a ha ⟨lo, hi, T⟩ List.mem_cons_self
    · exact p3 a ha b (List.mem_cons_of_mem _ hb)

/-- What a new slice tells. -/
theorem Held.slice {w0 W W' : World} {l : List Fc} (h : Held w0 l W) (hb : Below W.heap.size W W') {t : TypeId} {sz : Nat} {v : Value} {n : Nat} {F : Nat → Value} (hs : SliceR t sz W.heap.size W' v n F) : Held w0 (⟨W.heap.size, W'.heap.size, fun X => SliceR t sz W.heap.size X v n F⟩ :: l) W' :=
  h.add hb (fact_slice F (fun h0 q e => by obtain ⟨g, e1, -, h2⟩ := hs.block h0; rw [e1] at e; cases e; exact h2)) hs

/-- A slice is marked. -/
theorem Held.mark {w0 W W1 W' : World} (l1 : List Fc) {l2 : List Fc} {lo hi B : Nat} {t : TypeId} {sz : Nat} {v : Value} {n : Nat} {F G : Nat → Value} (h : Held w0 (l1 ++ ⟨lo, hi, fun X => SliceR t sz lo X v n F⟩ :: l2) W) (hu : n ≠ 0 → ∀ q, v.ownBlock = some q → q < hi) (hk : Below W.heap.size W W1) (ht : Turned W1 W' v n) (hG : SliceR t sz B W' v n G) : Held w0 (l1 ++ ⟨lo, hi, fun X => SliceR t sz lo X v n G⟩ :: l2) W' := by
  have hs := h.tells _ (List.mem_append_right l1 List.mem_cons_self)
  refine (h.keep hk).chg l1 (P := fun q => n ≠ 0 ∧ v.ownBlock = some q) (Chg.of_turned ht (fun q h0 e => ⟨h0, e⟩)) (fun q hq => ⟨?_, hu hq.1 q hq.2⟩) (fact_slice G hu) ?_
  · obtain ⟨g, e1, h1, -⟩ := hs.block hq.1
    rw [e1] at hq
    cases hq.2
    exact h1
  · obtain ⟨ad, cap, e, h1⟩ := hG
    obtain ⟨ad', cap', e', h2⟩ := hs
    by_cases h0 : n = 0
    · exact ⟨ad, cap, e, Or.inl h0⟩
    · obtain ⟨g, rfl, _, hr⟩ := h1.resolve_left h0
      obtain ⟨g', e2, hB, _⟩ := h2.resolve_left h0
      rw [e] at e'
      cases e'
      cases e2
      exact ⟨_, cap, e, Or.inr ⟨g, rfl, hB, hr⟩⟩
end Go.Proofs.YtlhdicichdihfaaGreatDoor
