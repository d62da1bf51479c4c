/- Lists of words in memory: two that hold the same compare as alike; marks that are put into one are held by it. -/
import Derived.Test.YthpoplpamkgocaaSpecWords
import Derived.Deep.OwnRows
import Derived.Deep.RegionWith
import Derived.Laws.IdiomStrings
namespace Go.Proofs.Ythpoplpamkgocaa
open Go.RowKit

/-- Block g is a row that begins with the cells of n words, told by their place. -/
def RowOf (w : World) (g n : Nat) (F : Nat → Value × Value × Value) : Prop :=
  ∃ N f, w.rowIs g 32 N f ∧ n * 3 ≤ N ∧ ∀ k, k < n → f (k * 3) = (F k).1 ∧ f (k * 3 + 1) = (F k).2.1 ∧ f (k * 3 + 2) = (F k).2.2

theorem RowOf.of_block {w w' : World} {g n : Nat} {F : Nat → Value × Value × Value} (h : RowOf w g n F) (e : w'.heap[g]? = w.heap[g]?) : RowOf w' g n F := by
  obtain ⟨N, f, hr, h1, h2⟩ := h
  exact ⟨N, f, hr.of_block e, h1, h2⟩

theorem RowOf.lt {w : World} {g n : Nat} {F : Nat → Value × Value × Value} (h : RowOf w g n F) : g < w.heap.size := by
  obtain ⟨N, f, hr, _⟩ := h
  exact hr.lt

def wordCells (ws : List Wd) (k : Nat) : Value × Value × Value := (.int .i64 (ws.getD k default).kind, .string (ws.getD k default).text, .int .i64 (ws.getD k default).at_)

/-- A slice of n words, in a row from block B on. -/
def SliceOf (B : Nat) (w : World) (v : Value) (n : Nat) (F : Nat → Value × Value × Value) : Prop :=
  ∃ ad cap, v = .slice ad n cap ∧ (n = 0 ∨ ∃ g, ad = some ⟨g, 0, none⟩ ∧ B ≤ g ∧ RowOf w g n F)

theorem flatW_at : ∀ (ws : List Wd) (k : Nat), k < ws.length → (flatW ws)[k * 3]? = some (wordCells ws k).1 ∧ (flatW ws)[k * 3 + 1]? = some (wordCells ws k).2.1 ∧ (flatW ws)[k * 3 + 2]? = some (wordCells ws k).2.2
  | [], k, h => by simp at h
  | d :: r, 0, _ => by simp [flatW, wordCells]
  | d :: r, k + 1, h => by
    obtain ⟨h1, h2, h3⟩ := flatW_at r k (by simpa using h)
    have e : wordCells (d :: r) (k + 1) = wordCells r k := by simp [wordCells]
    rw [e]
    refine ⟨?_, ?_, ?_⟩
    · rw [show (k + 1) * 3 = k * 3 + 3 by omega]
      simpa [flatW] using h1
    · rw [show (k + 1) * 3 + 1 = (k * 3 + 1) + 3 by omega]
      simpa [flatW] using h2
    · rw [show (k + 1) * 3 + 2 = (k * 3 + 2) + 3 by omega]
      simpa [flatW] using h3

theorem slice_of_owns {B : Nat} {w : World} {v : Value} {ws : List Wd} (h : w.ownsRow B 32 3 v ws.length (flatW ws)) : SliceOf B w v ws.length (wordCells ws) := by
  rcases h.2 with ⟨rfl, hn⟩ | ⟨g, cap, cur, rfl, hB, hg, hnc, hcm, hsz, htake⟩
  · exact ⟨none, 0, by rw [hn], Or.inl hn⟩
  · refine ⟨_, cap, rfl, Or.inr ⟨g, rfl, hB, cur.size, fun i => cur.getD i undef, ⟨cur, hg, rfl, fun i hi => by simp [hi]⟩, by omega, fun k hk => ?_⟩⟩
    obtain ⟨h1, h2, h3⟩ := flatW_at ws k hk
    rw [← htake] at h1 h2 h3
    rw [List.getElem?_take_of_lt (by omega), Array.getElem?_toList] at h1 h2 h3
    simp [Array.getD_eq_getD_getElem?, h1, h2, h3]

theorem SliceOf.below {B : Nat} {w w' : World} {v : Value} {n : Nat} {F : Nat → Value × Value × Value} (h : SliceOf B w v n F) (hb : Below w.heap.size w w') : SliceOf B w' v n F := by
  obtain ⟨ad, cap, rfl, h⟩ := h
  refine ⟨ad, cap, rfl, h.imp id ?_⟩
  rintro ⟨g, rfl, hB, hr⟩
  exact ⟨g, rfl, hB, hr.of_block (hb.block g hr.lt)⟩

set_option maxRecDepth 100000 in
theorem eqWord_calls (k n : Int) (t : ByteArray) (w : World) :
    Calls Try.prog 12 #[.agg #[.int .i64 k, .string t, .int .i64 n], .agg #[.int .i64 k, .string t, .int .i64 n]] w fun e w' => e = .returned (.bool true) ∧ Below w.heap.size w w' := by
  go_enter Try.func12, Try.ntmps12
  go_wp2
  go_ret
  exact ⟨rfl, by repeat (first | exact Below.refl _ _ | refine Below.alloc ?_ (by first | (simp; done) | (simp; omega)) _)⟩

set_option maxRecDepth 100000 in
theorem eqFault_calls (k n : Int) (w : World) :
    Calls Try.prog 7 #[.agg #[.int .i64 k, .int .i64 n], .agg #[.int .i64 k, .int .i64 n]] w fun e w' => e = .returned (.bool true) ∧ Below w.heap.size w w' := by
  go_enter Try.func7, Try.ntmps7
  go_wp2
  go_ret
  exact ⟨rfl, by repeat (first | exact Below.refl _ _ | refine Below.alloc ?_ (by first | (simp; done) | (simp; omega)) _)⟩

set_option maxRecDepth 100000 in
theorem eqWordS_none (ad ad' : Option Addr) (cap cap' : Nat) (w : World) :
    Calls Try.prog 6 #[.slice ad 0 cap, .slice ad' 0 cap'] w fun e w' => e = .returned (.bool true) ∧ Below w.heap.size w w' := by
  go_enter Try.func6, Try.ntmps6
  go_wp2
  refine wp_loop_rounds 1 ?_
  rw [rounds_succ]
  go_wp2
  go_ret
  exact ⟨rfl, Below.refl _ _⟩

set_option maxHeartbeats 1000000 in
set_option maxRecDepth 100000 in
theorem eqWordS_rows (g g' n cap cap' : Nat) (ws : List Wd) (w : World) (hn : n = ws.length) (hm : n ≤ 1509) (hr : RowOf w g n (wordCells ws)) (hr' : RowOf w g' n (wordCells ws)) :
    Calls Try.prog 6 #[.slice (some ⟨g, 0, none⟩) n cap, .slice (some ⟨g', 0, none⟩) n cap'] w fun e w' => e = .returned (.bool true) ∧ Below w.heap.size w w' := by
  have hg := hr.lt
  have hg' := hr'.lt
  obtain ⟨N, f, hf, hN, hF⟩ := hr
  obtain ⟨N', f', hf', hN', hF'⟩ := hr'
  go_enter Try.func6, Try.ntmps6
  go_wp2_with fail
  go_loopw [5] (fun i wr => ∃ k : Nat, k ≤ n ∧ i = .int .i64 k ∧ Below w.heap.size w wr) (fun i _ => n - (intOf i).toNat)
  case atStart => exact ⟨0, Nat.zero_le _, rfl, Below.refl _ _⟩
  case round =>
    obtain ⟨k, hk, rfl, hnx⟩ := hrel
    by_cases hkl : k < n
    · obtain ⟨e0, e1, e2⟩ := hF k hkl
      obtain ⟨e0', e1', e2'⟩ := hF' k hkl
      have c0 := (hnx.cell (p := ⟨g, k * 3, none⟩) hg).trans (hf.cell (i := k * 3) (by omega))
      have c1 := (hnx.cell (p := ⟨g, k * 3 + 1, none⟩) hg).trans (hf.cell (i := k * 3 + 1) (by omega))
      have c2 := (hnx.cell (p := ⟨g, k * 3 + 2, none⟩) hg).trans (hf.cell (i := k * 3 + 2) (by omega))
      have d0 := (hnx.cell (p := ⟨g', k * 3, none⟩) hg').trans (hf'.cell (i := k * 3) (by omega))
      have d1 := (hnx.cell (p := ⟨g', k * 3 + 1, none⟩) hg').trans (hf'.cell (i := k * 3 + 1) (by omega))
      have d2 := (hnx.cell (p := ⟨g', k * 3 + 2, none⟩) hg').trans (hf'.cell (i := k * 3 + 2) (by omega))
      rw [e0] at c0
      rw [e1] at c1
      rw [e2] at c2
      rw [e0'] at d0
      rw [e1'] at d1
      rw [e2'] at d2
      simp only [wordCells] at c0 c1 c2 d0 d1 d2
      generalize ws.getD k default = wd at *
      clear e0 e1 e2 e0' e1' e2' hF hF' hf hf'
      have hi : (k : Int) < (n : Int) := by omega
      have hi0 : (0 : Int) ≤ (k : Int) := by omega
      clear hn
      go_wp2_with fail
      go_region_with (go_at_call 12; refine (eqWord_calls _ _ _ _).mono ?_; rintro e w1 ⟨rfl, hb1⟩)
      all_goals
        have hb2 := hnx.drew.trans (hb1.mono hnx.size)
        clear hb1 c0 c1 c2 d0 d1 d2
        go_wp2_with fail
        exact ⟨⟨k + 1, by omega, by simp, hb2⟩, by simp [intOf]; omega⟩
    · go_wp2_with fail
      go_ret
      exact ⟨rfl, hnx⟩

theorem eqWordS_calls {B B' : Nat} {v v' : Value} {ws : List Wd} (w : World) (hm : ws.length ≤ 1509) (h : SliceOf B w v ws.length (wordCells ws)) (h' : SliceOf B' w v' ws.length (wordCells ws)) :
    Calls Try.prog 6 #[v, v'] w fun e w' => e = .returned (.bool true) ∧ Below w.heap.size w w' := by
  obtain ⟨ad, cap, rfl, h⟩ := h
  obtain ⟨ad', cap', rfl, h'⟩ := h'
  by_cases h0 : ws.length = 0
  · rw [h0]
    exact eqWordS_none ad ad' cap cap' w
  · obtain ⟨g, rfl, _, hr⟩ := h.resolve_left h0
    obtain ⟨g', rfl, _, hr'⟩ := h'.resolve_left h0
    exact eqWordS_rows g g' _ cap cap' ws w rfl hm hr hr'

def dig (j : Nat) : ByteArray := ⟨#[UInt8.ofNat (48 + j % 10)]⟩

theorem dig_run (j : Nat) (w : World) : (convert 46 9 (.slice (some ⟨w.heap.size, 0, none⟩) 1 1)).run Try.prog (w.alloc (.cells #[.int .u8 (48 + (j : Int) % 10)] 5)) = .ok (.string (dig j)) (w.alloc (.cells #[.int .u8 (48 + (j : Int) % 10)] 5)) := by
  have h := run_convert_bytes_back (P := Try.prog) (w.alloc (.cells #[.int .u8 (48 + (j : Int) % 10)] 5)) 46 9 5 ⟨w.heap.size, 0, none⟩ 1 [UInt8.ofNat (48 + j % 10)] Try.underlying46 Try.underlying5 Try.underlying9 (fun i hi => by
    have h0 : i = 0 := by simpa using hi
    subst h0
    simp [Addr.add]
    omega)
  exact h

/-- The digits of a mark, put ahead one by one. -/
def markGo : Nat → Nat → ByteArray → ByteArray
  | 0, _, out => out
  | f + 1, j, out => if j = 0 then out else markGo f (j / 10) (dig j ++ out)

def markOf (k : Nat) : ByteArray := if k = 0 then ⟨#[109, 48]⟩ else ⟨#[109]⟩ ++ markGo k k ⟨#[]⟩

set_option maxHeartbeats 1000000 in
set_option maxRecDepth 100000 in
theorem mark_calls (k : Nat) (hk : k ≤ 100000) (w : World) :
    Calls Try.prog 13 #[.int .i64 k] w fun e w' => e = .returned (.string (markOf k)) ∧ Below w.heap.size w w' := by
  by_cases h0 : k = 0
  · subst h0
    go_enter Try.func13, Try.ntmps13
    go_wp2_with fail
    go_ret
    exact ⟨rfl, Below.refl _ _⟩
  obtain ⟨R, hR⟩ : ∃ R, markGo k k ⟨#[]⟩ = R := ⟨_, rfl⟩
  have e : markOf k = ⟨#[109]⟩ ++ R := by rw [markOf, if_neg h0, hR]
  rw [e]
  have HR : Hid (markGo k k ⟨#[]⟩ = R) := hR
  clear hR e
  go_enter Try.func13, Try.ntmps13
  go_wp2_with fail
  go_loopw [0, 3] (fun a o wr => ∃ (j f : Nat) (out : ByteArray), a = .int .i64 j ∧ o = .string out ∧ j ≤ f ∧ f ≤ 100000 ∧ out.size + f ≤ 100000 ∧ Hid (markGo f j out = R) ∧ Below w.heap.size w wr) (fun a _ _ => (intOf a).toNat)
  case atStart => exact ⟨k, k, _, rfl, rfl, Nat.le_refl _, hk, by show 0 + k ≤ 100000; omega, HR, Below.refl _ _⟩
  case round =>
    obtain ⟨j, f, out, rfl, rfl, hj, hf, hos, HE, hnx⟩ := hrel
    clear HR
    by_cases hj0 : j = 0
    · subst hj0
      have hE : out = R := by
        have := HE.out
        cases f with
        | zero => exact this
        | succ f => simpa [markGo] using this
      subst hE
      clear HE
      go_wp2_with fail
      go_ret
      exact ⟨rfl, hnx⟩
    · obtain ⟨f, rfl⟩ : ∃ f', f = f' + 1 := ⟨f - 1, by omega⟩
      have hE := HE.out
      rw [markGo, if_neg hj0] at hE
      have HE' : Hid (markGo f (j / 10) (dig j ++ out) = R) := hE
      have hcv := dig_run j wr
      have hdz : (dig j).size = 1 := rfl
      clear HE hE
      generalize dig j = dj at *
      go_wp2_with fail
      refine ⟨⟨j / 10, f, dj ++ out, by simp, rfl, by omega, by omega, ?_, HE', hnx.alloc hnx.size _⟩, by simp [intOf]; omega⟩
      rw [ByteArray.size_append, hdz]
      omega

theorem mark_callsZ (x : Int) (h0 : 0 ≤ x) (h1 : x ≤ 100000) (w : World) :
    Calls Try.prog 13 #[.int .i64 x] w fun e w' => e = .returned (.string (markOf x.toNat)) ∧ Below w.heap.size w w' := by
  obtain ⟨n, rfl⟩ := Int.eq_ofNat_of_zero_le h0
  rw [Int.toNat_natCast]
  exact mark_calls n (by omega) w

/-- The marks of a word, counted from a number on. -/
def marks (x : Int) : Value × Value × Value := (.int .i64 x, .string (markOf (x + 1).toNat), .int .i64 (x + 1 + 1))

theorem grown_set {w w' : World} {g : Nat} (h : w.grownBy w' (some g)) (i : Nat) (v : Value) : w.grownBy (w'.setCell ⟨g, i, none⟩ v) (some g) :=
  ⟨h.os, h.tape, h.output, by simpa [World.setCell] using h.size, fun k hk hne => (Below.heap_setCell _ _ _ _ (fun e => hne (by rw [e]))).trans (h.block k hk hne)⟩

theorem grown_below {w w' w'' : World} {g : Nat} (h : w.grownBy w' (some g)) (hb : Below w'.heap.size w' w'') : w.grownBy w'' (some g) :=
  ⟨hb.os.trans h.os, hb.tape.trans h.tape, hb.output.trans h.output, Nat.le_trans h.size hb.size, fun k hk hne => (hb.block k (Nat.lt_of_lt_of_le hk h.size)).trans (h.block k hk hne)⟩

theorem grown_refl (w : World) (row : Option Nat) : w.grownBy w row := ⟨rfl, rfl, rfl, Nat.le_refl _, fun _ _ _ => rfl⟩

/-- One word more is marked. -/
theorem mark_step {w1 : World} {g t N k : Nat} {f : Nat → Value} {a b c : Value} (h : (w1).rowIs g t N f) :
    ∃ f', ((w1.setCell ⟨g, k * 3 + 1, none⟩ b).setCell ⟨g, k * 3 + 2, none⟩ c).rowIs g t N f' ∧ (f (k * 3) = a → f' (k * 3) = a) ∧ f' (k * 3 + 1) = b ∧ f' (k * 3 + 2) = c ∧ ∀ i, i < k * 3 → f' i = f i := by
  refine ⟨_, (h.set _ _).set _ _, fun e => ?_, ?_, ?_, fun i hi => ?_⟩
  · rw [if_neg (by omega), if_neg (by omega)]
    exact e
  · rw [if_neg (by omega), if_pos rfl]
  · rw [if_pos rfl]
  · rw [if_neg (by omega), if_neg (by omega)]

set_option maxHeartbeats 1000000 in
set_option maxRecDepth 100000 in
theorem markWordS_rows (g n cap : Nat) (F : Nat → Value × Value × Value) (w : World) (hm : n ≤ 1509) (hr : RowOf w g n F) :
    Calls Try.prog 8 #[.slice (some ⟨g, 0, none⟩) n cap, .int .i64 1] w fun e w' => e = .returned (.int .i64 (1 + 3 * (n : Int))) ∧ RowOf w' g n (fun k => marks (1 + 3 * (k : Int))) ∧ w.grownBy w' (some g) := by
  obtain ⟨N, f, hf, hN, _⟩ := hr
  go_enter Try.func8, Try.ntmps8
  go_wp2_with fail
  go_loopw [1, 5] (fun m i wr => ∃ (k : Nat) (x : Int) (f : Nat → Value), k ≤ n ∧ i = .int .i64 k ∧ m = .int .i64 x ∧ Hid (x = 1 + 3 * (k : Int)) ∧ 1 ≤ x ∧ x ≤ 4600 ∧ wr.rowIs g 32 N f ∧ Hid (∀ j, j < k → f (j * 3) = (marks (1 + 3 * (j : Int))).1 ∧ f (j * 3 + 1) = (marks (1 + 3 * (j : Int))).2.1 ∧ f (j * 3 + 2) = (marks (1 + 3 * (j : Int))).2.2) ∧ w.grownBy wr (some g)) (fun _ i _ => n - (intOf i).toNat)
  case atStart => exact ⟨0, 1, f, Nat.zero_le _, rfl, rfl, rfl, by omega, by omega, hf, fun j hj => by omega, grown_refl _ _⟩
  case round =>
    obtain ⟨k, x, f, hk, rfl, rfl, Hx, hx0, hx1, hrow, HM, hgr⟩ := hrel
    clear hf
    by_cases hkl : k < n
    · have c0 := hrow.cell (i := k * 3) (by omega)
      have z0 := hrow.frozen (k * 3)
      go_wp2_with fail
      clear c0 z0
      have hx2 : x + 1 ≤ 100000 := by omega
      refine (mark_callsZ (x + 1) (by omega) hx2 _).mono ?_
      rintro e W1 ⟨rfl, hb1⟩
      have hrow0 := hrow.set (k * 3) (.int .i64 x)
      have hrow1 := hrow0.of_block (hb1.block g hrow0.lt)
      have hgr1 := grown_below (grown_set hgr (k * 3) (.int .i64 x)) hb1
      have c1 := hrow1.cell (i := k * 3 + 1) (by omega)
      have c2 := hrow1.cell (i := k * 3 + 2) (by omega)
      have z1 := hrow1.frozen (k * 3 + 1)
      have z2 := hrow1.frozen (k * 3 + 2)
      have hx0' : Hid (x = 1 + 3 * (k : Int)) := Hx
      clear hrow hrow0 hgr hb1
      generalize hmk : markOf (x + 1).toNat = mk at *
      have Hmk : Hid (markOf (x + 1).toNat = mk) := hmk
      clear hmk
      go_wp2_with fail
      obtain ⟨f', hr', e0, e1, e2, eo⟩ := mark_step (k := k) (a := .int .i64 x) (b := .string mk) (c := .int .i64 (x + 1 + 1)) hrow1
      refine ⟨⟨k + 1, x + 1 + 1 + 1, f', by omega, by simp, rfl, ?_, by omega, ?_, hr', ?_, grown_set (grown_set hgr1 _ _) _ _⟩, by simp [intOf]; omega⟩
      · show x + 1 + 1 + 1 = 1 + 3 * ((k + 1 : Nat) : Int)
        have := Hx.out
        omega
      · have := Hx.out
        omega
      · intro j hj
        by_cases hjk : j < k
        · obtain ⟨m0, m1, m2⟩ := HM.out j hjk
          rw [eo _ (by omega), eo _ (by omega), eo _ (by omega), if_neg (by omega), if_neg (by omega), if_neg (by omega)]
          exact ⟨m0, m1, m2⟩
        · have ejk : j = k := by omega
          subst ejk
          rw [← Hx.out, e0 (if_pos rfl), e1, e2]
          refine ⟨rfl, ?_, rfl⟩
          rw [← Hmk.out]
          rfl
    · have hkn : k = n := by omega
      have HX : Hid (x = 1 + 3 * (n : Int)) := by rw [← hkn]; exact Hx
      have HM' : Hid (RowOf wr g n (fun k => marks (1 + 3 * (k : Int)))) := ⟨N, f, hrow, hN, fun j hj => HM.out j (by omega)⟩
      clear HM Hx hkn
      go_wp2_with fail
      go_ret
      exact ⟨by rw [← HX.out]; rfl, HM'.out, hgr⟩

set_option maxHeartbeats 1000000 in
set_option maxRecDepth 100000 in
theorem heldWordS_rows (g n cap : Nat) (w : World) (hm : n ≤ 1509) (hr : RowOf w g n (fun k => marks (1 + 3 * (k : Int)))) :
    Calls Try.prog 9 #[.slice (some ⟨g, 0, none⟩) n cap, .int .i64 1] w fun e w' => e = .returned (.int .i64 (1 + 3 * (n : Int))) ∧ Below w.heap.size w w' := by
  have hg := hr.lt
  obtain ⟨N, f, hf, hN, hF⟩ := hr
  go_enter Try.func9, Try.ntmps9
  go_wp2_with fail
  go_loopw [1, 5] (fun m i wr => ∃ (k : Nat) (x : Int), k ≤ n ∧ i = .int .i64 k ∧ m = .int .i64 x ∧ Hid (x = 1 + 3 * (k : Int)) ∧ 1 ≤ x ∧ x ≤ 4600 ∧ Below w.heap.size w wr) (fun _ i _ => n - (intOf i).toNat)
  case atStart => exact ⟨0, 1, Nat.zero_le _, rfl, rfl, rfl, by omega, by omega, Below.refl _ _⟩
  case round =>
    obtain ⟨k, x, hk, rfl, rfl, Hx, hx0, hx1, hnx⟩ := hrel
    by_cases hkl : k < n
    · obtain ⟨e0, e1, e2⟩ := hF k hkl
      have c0 := (hnx.cell (p := ⟨g, k * 3, none⟩) hg).trans (hf.cell (i := k * 3) (by omega))
      have c1 := (hnx.cell (p := ⟨g, k * 3 + 1, none⟩) hg).trans (hf.cell (i := k * 3 + 1) (by omega))
      have c2 := (hnx.cell (p := ⟨g, k * 3 + 2, none⟩) hg).trans (hf.cell (i := k * 3 + 2) (by omega))
      rw [e0, ← Hx.out] at c0
      rw [e1, ← Hx.out] at c1
      rw [e2, ← Hx.out] at c2
      simp only [marks] at c0 c1 c2
      clear e0 e1 e2 hF hf
      have hi : (k : Int) < (n : Int) := by omega
      have hi0 : (0 : Int) ≤ (k : Int) := by omega
      have hx2 : x + 1 ≤ 100000 := by omega
      have hmc := mark_callsZ (x + 1) (by omega) hx2
      generalize markOf (x + 1).toNat = mk at *
      have HC : Hid (∀ w, _) := hmc
      clear hmc
      have hgr : g < wr.heap.size := Nat.lt_of_lt_of_le hg hnx.size
      go_wp2_with fail
      go_region_with (go_at_call 13; refine (HC.out _).mono ?_; rintro e w1 ⟨rfl, hb1⟩; have c1' := (hb1.cell (p := ⟨g, k * 3 + 1, none⟩) hgr).trans c1; have c2' := (hb1.cell (p := ⟨g, k * 3 + 2, none⟩) hgr).trans c2)
      all_goals
        have hb2 := hnx.drew.trans (hb1.mono hnx.size)
        clear hb1 c0 c1 c2 c1'
        go_wp2_with fail
        refine ⟨⟨k + 1, x + 1 + 1 + 1, by omega, by simp, rfl, ?_, by omega, ?_, hb2⟩, by simp [intOf]; omega⟩
        · show x + 1 + 1 + 1 = 1 + 3 * ((k + 1 : Nat) : Int)
          have := Hx.out
          omega
        · have := Hx.out
          omega
    · have hkn : k = n := by omega
      have HX : Hid (x = 1 + 3 * (n : Int)) := by rw [← hkn]; exact Hx
      clear Hx hkn
      go_wp2_with fail
      go_ret
      exact ⟨by rw [← HX.out]; rfl, hnx⟩
end Go.Proofs.Ythpoplpamkgocaa
