/- Lists of operations as they lie in memory: what the laws' own helpers do to them. -/
import Derived.Test.YtegjdgiegnofhaaDoorNodeArgs
import Derived.BigQuiet
import Derived.Test.YtegjdgiegnofhaaDoorNameWalks
namespace Go.Proofs.YtegjdgiegnofhaaDoor
open Go.RowKit Go.Deep Go.ChangeShapes Go.WideShapes

/-- An operation as a plain value. -/
structure Ef where
  name : ByteArray
  arg : Int
  res : Int

instance : Inhabited Ef := ⟨⟨ByteArray.empty, 0, 0⟩⟩

def Ef.cell (n : Ef) : Nat → Value
  | 0 => .string n.name
  | 1 => .int .i64 n.arg
  | _ => .int .i64 n.res

def EffsAt (w : World) (b off : Nat) (es : List Ef) : Prop :=
  ∀ k, k < es.length → ∀ c, c < 3 → w.cell? ⟨b, off + k * 3 + c, none⟩ = some ((es.getD k default).cell c)

def EfShort (es : List Ef) : Prop := ∀ n ∈ es, n.name.size ≤ maxLen

theorem EffsAt.below {w w' : World} {b off B : Nat} {es : List Ef} (h : EffsAt w b off es) (hb : Below B w w') (hB : b < B) : EffsAt w' b off es :=
  fun k hk c hc => (hb.cell hB).trans (h k hk c hc)

theorem EfShort.at {es : List Ef} (h : EfShort es) {k : Nat} (hk : k < es.length) : (es.getD k default).name.size ≤ maxLen := by
  have e : es.getD k default = es[k] := by simp [List.getD, List.getElem?_eq_getElem hk]
  rw [e]
  exact h _ (List.getElem_mem hk)

theorem info_eff : (Tryd.prog.info? 86).map (fun i => (i.zero, i.size, i.bytes)) = some (some (.agg #[.string ByteArray.empty, .int .i64 0, .int .i64 0]), 3, 32) := by kernel_rfl

theorem made_effs (len : Nat) (hl : len ≤ 1048576) (w : World) : ∃ c : Array Value, c.size = len * 3 ∧
    (Instr.makeSlice 54 (.int .i64 (len : Int)) (.int .i64 (len : Int))).run Tryd.prog w = .ok (.slice (some ⟨w.heap.size, 0, none⟩) len len) (w.alloc (.cells c 86)) := by
  obtain ⟨i0, hi, hz0, hz1, hz2⟩ := info_parts info_eff
  have h := run_make (P := Tryd.prog) w 54 86 i0 _ Tryd.underlying54 hi hz0 .i64 .i64 len len (by omega) (Int.le_refl _) (by rw [hz2]; omega) (by omega)
  rw [hz1] at h
  simp only [Int.toNat_natCast] at h
  exact ⟨_, size_madeCells _ _, h⟩

theorem copy_eff {w1 : World} {B t N k : Nat} {f : Nat → Value} {es : List Ef} {n : Ef} (h : w1.rowIs B t N f) (hf : ∀ j, j < k → ∀ c, c < 3 → f (j * 3 + c) = (es.getD j default).cell c) (hn : es.getD k default = n) :
    ∃ f', (((w1.setCell ⟨B, k * 3, none⟩ (.string n.name)).setCell ⟨B, k * 3 + 1, none⟩ (.int .i64 n.arg)).setCell ⟨B, k * 3 + 2, none⟩ (.int .i64 n.res)).rowIs B t N f' ∧
      ∀ j, j < k + 1 → ∀ c, c < 3 → f' (j * 3 + c) = (es.getD j default).cell c := by
  refine ⟨_, ((h.set _ _).set _ _).set _ _, fun j hj c hc => ?_⟩
  by_cases hjk : j < k
  · rw [if_neg (by omega), if_neg (by omega), if_neg (by omega)]
    exact hf j hjk c hc
  · have e : j = k := by omega
    subst e
    rw [hn]
    match c, hc with
    | 0, _ => rw [if_neg (by omega), if_neg (by omega), if_pos (by omega)]; rfl
    | 1, _ => rw [if_neg (by omega), if_pos (by omega)]; rfl
    | 2, _ => rw [if_pos (by omega)]; rfl

end Go.Proofs.YtegjdgiegnofhaaDoor

/- Whether an operation is among those of a list: the specification's place of it, the program's test. -/
namespace Go.Proofs.YtegjdgiegnofhaaDoor
open Go.RowKit Go.Deep

def effIn (es : List Ef) (s : ByteArray) : Bool := es.any (fun e => e.name.toList == s.toList)

def effPlace : List Ef → ByteArray → Nat → Int
  | [], _, _ => -1
  | e :: r, s, i => if (e.name.toList == s.toList) = true then i else effPlace r s (i + 1)

theorem effPlace_lt : ∀ (es : List Ef) (s : ByteArray) (i : Nat), effPlace es s i < 0 ↔ effIn es s = false
  | [], s, i => by simp [effPlace, effIn]
  | e :: r, s, i => by
    have ih := effPlace_lt r s (i + 1)
    unfold effPlace
    simp only [effIn, List.any_cons] at *
    split
    · rename_i h
      rw [h]
      simp
    · rename_i h
      have h' : (e.name.toList == s.toList) = false := by simpa using h
      rw [h', Bool.false_or]
      exact ih

theorem effs_drop {es : List Ef} {i : Nat} (hi : i < es.length) : es.drop i = es.getD i default :: es.drop (i + 1) := by
  rw [List.drop_eq_getElem_cons hi]
  simp [List.getD, List.getElem?_eq_getElem hi]

set_option maxHeartbeats 1000000 in
set_option maxRecDepth 100000 in
theorem l2Eff_calls (a0 : Option Addr) (cap : Nat) (es : List Ef) (s : ByteArray) (w : World) (hm : es.length ≤ 1000000) (hn : es ≠ [] → ∃ b off, a0 = some ⟨b, off, none⟩ ∧ EffsAt w b off es) :
    Calls Tryd.prog 41 #[.slice a0 es.length cap, .string s] w fun e w' => e = .returned (.int .i64 (effPlace es s 0)) ∧ w = w' := by
  obtain ⟨len, hlen⟩ : ∃ len, es.length = len := ⟨_, rfl⟩
  have Hlen : Hid (es.length = len) := hlen
  have HM : Hid (len ≤ 1000000) := by show _ ≤ _; omega
  obtain ⟨R, hR⟩ : ∃ R, effPlace es s 0 = R := ⟨_, rfl⟩
  have HR : Hid (effPlace es s 0 = R) := hR
  have HN : Hid (es ≠ [] → ∃ b off, a0 = some ⟨b, off, none⟩ ∧ EffsAt w b off es) := hn
  rw [hlen, hR]
  clear hlen hR hm hn
  go_enter Tryd.func41, Tryd.ntmps41
  go_wp2_with fail
  go_loop [5] (fun i => ∃ k : Nat, i = .int .i64 k ∧ k ≤ len ∧ Hid (effPlace (es.drop k) s k = R)) (fun i => len - (intOf i).toNat)
  case atStart => exact ⟨0, rfl, Nat.zero_le _, HR.out⟩
  case round =>
    obtain ⟨k, rfl, hle, HT⟩ := hrel
    by_cases hlt : (k : Int) < (len : Int)
    · have hil : k < es.length := by rw [Hlen.out]; omega
      obtain ⟨b, off, rfl, hE⟩ := HN.out (fun h => by rw [h] at hil; cases hil)
      have c0 := hE k hil 0 (by omega)
      have hT := HT.out
      rw [effs_drop hil] at hT
      obtain ⟨n, hnd⟩ : ∃ n, es.getD k default = n := ⟨_, rfl⟩
      rw [hnd] at c0 hT
      simp only [Ef.cell, Nat.add_zero] at c0
      clear HT HN hil hE hnd
      cases he : (n.name.toList == s.toList) with
      | true =>
        simp only [effPlace, he, if_true] at hT
        have HT2 : Hid ((k : Int) = R) := hT
        clear hT
        go_wp2_with fail
        go_ret
        exact ⟨by rw [← HT2.out]; rfl, rfl⟩
      | false =>
        have HT2 : Hid (effPlace (es.drop (k + 1)) s (k + 1) = R) := by
          show _ = _
          rw [← hT, effPlace, he]
          simp
        clear hT
        go_wp2_with fail
        have hs : len - (intOf (.int .i64 ((k + 1 : Nat) : Int))).toNat < len - (intOf (.int .i64 (k : Int))).toNat := by simp only [intOf, Int.toNat_natCast]; omega
        try rw [show wrap64 ((k : Int) + 1) = ((k + 1 : Nat) : Int) by have := HM.out; unfold wrap64; omega]
        exact ⟨⟨k + 1, rfl, by omega, HT2⟩, hs⟩
    · have hT := HT.out
      rw [List.drop_eq_nil_of_le (by rw [Hlen.out]; omega)] at hT
      have HT2 : Hid ((-1 : Int) = R) := hT
      clear hT HT HN
      go_wp2_with fail
      go_ret
      exact ⟨by rw [← HT2.out]; rfl, rfl⟩

theorem place_ge (es : List Ef) (s : ByteArray) : decide (0 ≤ effPlace es s 0) = effIn es s := by
  have := effPlace_lt es s 0
  cases h : effIn es s with
  | false => rw [decide_eq_false]; have := this.2 h; omega
  | true =>
    rw [decide_eq_true]
    rcases Int.lt_or_le (effPlace es s 0) 0 with h' | h'
    · rw [this.1 h'] at h; cases h
    · exact h'

end Go.Proofs.YtegjdgiegnofhaaDoor

/- What a program must be: its operations, and that its tree has no others. -/
namespace Go.Proofs.YtegjdgiegnofhaaDoor
open Go.RowKit Go.Deep

/-- An operation that may stand at its place. -/
def effOk (es : List Ef) (i : Nat) : Bool :=
  nameOk (es.getD i default).name && (!effIn (es.take i) (es.getD i default).name && (decide (1 ≤ (es.getD i default).arg ∧ (es.getD i default).arg ≤ 4) && decide (1 ≤ (es.getD i default).res ∧ (es.getD i default).res ≤ 4)))

/-- A node that names an operation names one of these. -/
def nodeHas (es : List Ef) (n : Nd) : Bool := !((n.kind == 22 || n.kind == 26) && !effIn es n.a)

def progZ (es : List Ef) (ns : List Nd) (T : Bool) : Bool := decide (es.length ≤ 8) && (T && ((List.range es.length).all (effOk es) && ns.all (nodeHas es)))

theorem range_step {es : List Ef} {i : Nat} (h : (List.range i).all (effOk es) = true) (h' : effOk es i = true) : (List.range (i + 1)).all (effOk es) = true := by
  rw [List.range_succ, List.all_append, h]
  simpa using h'

theorem range_false {es : List Ef} {i : Nat} (hi : i < es.length) (h : effOk es i = false) : (List.range es.length).all (effOk es) = false := by
  rw [List.all_eq_false]
  exact ⟨i, List.mem_range.2 hi, by simpa using h⟩

theorem has_step {es : List Ef} {ns : List Nd} {i : Nat} (hi : i < ns.length) (h : (ns.take i).all (nodeHas es) = true) (hn : nodeHas es (ns.getD i default) = true) : (ns.take (i + 1)).all (nodeHas es) = true := by
  rw [List.take_succ_eq_append_getElem hi, List.all_append, h]
  simp only [List.getD, List.getElem?_eq_getElem hi] at hn
  simpa using hn

theorem has_false {es : List Ef} {ns : List Nd} {i : Nat} (hi : i < ns.length) (hn : nodeHas es (ns.getD i default) = false) : ns.all (nodeHas es) = false := by
  rw [List.all_eq_false]
  simp only [List.getD, List.getElem?_eq_getElem hi] at hn
  exact ⟨ns[i], List.getElem_mem _, by simpa using hn⟩

theorem effsTake {w : World} {b off : Nat} {es : List Ef} {i : Nat} (h : EffsAt w b off es) : EffsAt w b off (es.take i) := fun k hk c hc => by
  have hk' : k < es.length := by simp at hk; omega
  have hki : k < i := by simp at hk; omega
  rw [h k hk' c hc]
  simp [List.getD, hki]
end Go.Proofs.YtegjdgiegnofhaaDoor
