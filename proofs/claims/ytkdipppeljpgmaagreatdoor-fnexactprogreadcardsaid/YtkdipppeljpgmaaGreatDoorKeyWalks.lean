/- The key test of the specification and of the program both answer whether a text is one of the 26 keys. -/
import Derived.Test.YtkdipppeljpgmaaGreatDoorRows
import Derived.WalkKit
import Derived.ProofKit
import Derived.Maps.OwnOps
import Derived.Maps.Views
namespace Go.Proofs.YtkdipppeljpgmaaGreatDoor
open Go.RowKit Go.Maps Go.WideMaps

def keyBytes : List (List UInt8) :=
  [[98, 111, 111, 108], [99, 97, 115, 101], [100, 111], [101, 102, 102, 101, 99, 116], [101, 108, 115, 101], [101, 110, 100],
   [102, 97, 108, 115, 101], [102, 110], [102, 115, 116], [104, 97, 110, 100, 108, 101], [105, 102], [105, 110], [105, 110, 116],
   [108, 101, 116], [108, 105, 115, 116], [110, 105, 108], [111, 102], [112, 114, 105, 110, 116], [114, 101, 99], [114, 101, 116],
   [115, 104, 97, 108, 108, 111, 119], [115, 110, 100], [116, 104, 101, 110], [116, 114, 117, 101], [117, 110, 105, 116], [119, 105, 116, 104]]

def keyStrs : List ByteArray := keyBytes.map fun l => ⟨l.toArray⟩

def isKey (s : ByteArray) : Bool := keyBytes.any (fun l => l == s.toList)

theorem isKey_strs (s : ByteArray) : keyStrs.any (fun x => x.toList == s.toList) = isKey s := by
  unfold keyStrs isKey
  rw [List.any_map]
  congr 1
  funext l
  simp

theorem any_take_of {α : Type} (p : α → Bool) (ss : List α) (d : α) {k n : Nat} (hk : k < n) (hn : n ≤ ss.length) (h : p (ss.getD k d) = true) : (ss.take n).any p = true := by
  have e : ss.getD k d = ss[k]'(by omega) := by simp [List.getD, List.getElem?_eq_getElem (show k < ss.length by omega)]
  rw [List.any_eq_true]
  refine ⟨ss[k]'(by omega), ?_, e ▸ h⟩
  rw [List.mem_take_iff_getElem]
  exact ⟨k, by omega, rfl⟩

theorem any_take_none {α : Type} (p : α → Bool) (ss : List α) (d : α) {n : Nat} (hn : n ≤ ss.length) (h : ∀ j, j < n → p (ss.getD j d) = false) : (ss.take n).any p = false := by
  rw [List.any_eq_false]
  intro x hx
  rw [List.mem_take_iff_getElem] at hx
  obtain ⟨j, hj, rfl⟩ := hx
  have e : ss.getD j d = ss[j]'(by omega) := by simp [List.getD, List.getElem?_eq_getElem (show j < ss.length by omega)]
  have := h j (by omega)
  rw [e] at this
  simp [this]

set_option maxRecDepth 100000 in
theorem in_calls (b off n cap : Nat) (ss : List ByteArray) (s : ByteArray) (w : World) (hn : n ≤ ss.length) (hn2 : n ≤ 1000000)
    (hc : ∀ j, j < ss.length → w.cell? ⟨b, off + j, none⟩ = some (.string (ss.getD j ByteArray.empty))) :
    Calls Tryz.prog 82 #[.slice (some ⟨b, off, none⟩) n cap, .string s] w fun e w' => e = .returned (.bool ((ss.take n).any (fun x => x.toList == s.toList))) ∧ w' = w := by
  go_enter Tryz.func82, Tryz.ntmps82
  go_wp2
  go_loop [5] (fun i => ∃ k : Nat, k ≤ n ∧ i = .int .i64 k ∧ ∀ j, j < k → ((ss.getD j ByteArray.empty).toList == s.toList) = false) (fun i => n - (intOf i).toNat)
  case atStart => exact ⟨0, Nat.zero_le _, rfl, fun j hj => by omega⟩
  case round =>
    obtain ⟨k, hk, rfl, hno⟩ := hrel
    have hcx : k < n → w.cell? ⟨b, off + k, none⟩ = some (.string (ss.getD k ByteArray.empty)) := fun _ => hc k (by omega)
    have hno' : Hid (∀ j, j < k → ((ss.getD j ByteArray.empty).toList == s.toList) = false) := hno
    clear hno
    go_wp2
    · have hlt : k < n := by assumption
      have hyes : ((ss.getD k ByteArray.empty).toList == s.toList) = true := by assumption
      go_ret
      refine ⟨?_, rfl⟩
      rw [any_take_of (fun x : ByteArray => x.toList == s.toList) ss ByteArray.empty hlt hn hyes]
      rfl
    · rename_i hlt hnot
      refine ⟨⟨k + 1, by omega, by simp, fun j hj => ?_⟩, by simp [intOf]; omega⟩
      by_cases hjk : j < k
      · exact hno'.out j hjk
      · have : j = k := by omega
        subst this
        exact hnot
    · have hkn : k = n := by omega
      go_ret
      refine ⟨?_, rfl⟩
      rw [any_take_none (fun x : ByteArray => x.toList == s.toList) ss ByteArray.empty hn (hkn ▸ hno'.out)]
      rfl

set_option maxRecDepth 100000 in
theorem keys_calls (w : World) :
    Calls Tryz.prog 83 #[] w fun e w' => e = .returned (.slice (some ⟨w.heap.size, 0, none⟩) 26 26) ∧ w' = w.alloc (.cells (keyStrs.map Value.string).toArray 9) := by
  go_enter Tryz.func83, Tryz.ntmps83
  go_wp2
  go_ret
  exact ⟨rfl, rfl⟩

theorem wpList_insert_own {H : Type} {P : Program} (w : World) {ops : Array Oper} {rest : List Oper} {o : Oper} {a : Act} {Q : Exit → Act → World → Prop}
    (hg : o.guard = none) (m x v : Operand) (t : TypeId) (hop : o.op = Op.insert t m x v)
    (k e : TypeId) (K : Keyed P k) (ht : P.underlying t = some (.map k e)) (R : Value → Option (DataW H × List MemPlace)) (b n : Nat) (D : DataW H)
    (hm : a.eval m = .map (some b)) (hown : w.ownsMap P k R b n D) (hn : n < maxLen) (key val : Value) (kl : Lit) (hx : a.eval x = key) (hv : a.eval v = val) (hkey : keyOf P k key = some kl)
    (d : DataW H) (ps : List MemPlace) (hval : R val = some (d, ps))
    (hK : ∀ w', w'.ownsMap P k R b (n + 1) (D.put kl d) → w.grownBy w' (some b) → wpList P ops Q rest (a.put o.dst undef) w') :
    wpList P ops Q (o :: rest) a w := by
  refine wpList_plain hg fun K' hK' => ?_
  obtain ⟨w', hrun, r1, r2⟩ := hown.update K ht hn hkey hval
  unfold Oper.wp
  simp [execOp, hop, hm, hx, hv, hrun, Result.andThen]
  exact hK' _ _ (hK w' r1 r2)

theorem law9 : Keyed Tryz.prog 9 := string_keyed Tryz.underlying9
theorem zero3 (w : World) : (zeroValue 3).run Tryz.prog w = .ok (.int .i64 0) w := by kernel_rfl

theorem atKey_fold {H : Type} (u z : DataW H) (k : Lit) : ∀ (acc : List Lit) (m : DataW H), IsMap m → (∀ x ∈ acc, WideAt.IsKeyLit x) →
    (k ∈ acc → (acc.foldl (fun m x => m.put x u) m).atKey k z = u) ∧ (k ∉ acc → (acc.foldl (fun m x => m.put x u) m).atKey k z = m.atKey k z)
  | [], _, _, _ => by simp
  | x :: r, m, hm, hx => by
    have ih := atKey_fold u z k r _ (hm.put x u) (fun y hy => hx y (by simp [hy]))
    rw [List.foldl_cons]
    refine ⟨fun h => ?_, fun h => ?_⟩
    · by_cases h1 : k ∈ r
      · exact ih.1 h1
      · have h2 : k = x := by simpa [h1] using h
        subst h2
        rw [ih.2 h1, atKey_put_same hm (hx k (by simp))]
    · have h1 : k ∉ r := fun y => h (by simp [y])
      have h2 : k ≠ x := fun y => h (by simp [y])
      rw [ih.2 h1, atKey_put_other h2]

theorem key_lookup (s : ByteArray) (c : Int) (hat : (setOf (H := Unit) (.lit (.int .i64 3)) (keyBytes.map Lit.string)).atKey (.string s.data.toList) (.lit (.int .i64 0)) = .lit (.int .i64 c)) :
    (c == 3) = isKey s := by
  unfold setOf at hat
  have hf := atKey_fold (H := Unit) (.lit (.int .i64 3)) (.lit (.int .i64 0)) (.string s.data.toList) (keyBytes.map Lit.string) _ isMap_empty (by intro x hx; rw [List.mem_map] at hx; obtain ⟨l, _, rfl⟩ := hx; trivial)
  have hm : (Lit.string s.data.toList ∈ keyBytes.map Lit.string) ↔ isKey s = true := by
    unfold isKey
    rw [List.any_eq_true, List.mem_map, ByteArray.toList_eq]
    constructor
    · rintro ⟨l, hl, e⟩
      exact ⟨l, hl, by simp at e; simp [e]⟩
    · rintro ⟨l, hl, e⟩
      exact ⟨l, hl, by simp at e; simp [e]⟩
  by_cases h : isKey s = true
  · rw [hf.1 (hm.2 h)] at hat
    simp at hat
    rw [h, ← hat]
    rfl
  · rw [hf.2 (fun x => h (hm.1 x))] at hat
    have e : (DataW.map [] : DataW Unit).atKey (.string s.data.toList) (.lit (.int .i64 0)) = .lit (.int .i64 0) := rfl
    rw [e] at hat
    simp at hat
    rw [Bool.eq_false_iff.2 h, ← hat]
    rfl

set_option maxRecDepth 100000 in
theorem implKey_calls (s : ByteArray) (hs : s.size ≤ maxLen) (w : World) :
    Calls Tryz.prog 79 #[.string s] w fun e w' => e = .returned (.bool (isKey s)) ∧ Below w.heap.size w w' := by
  have hmm := @run_makeMap Tryz.prog
  have hown := World.ownsMap_made w Tryz.prog 9 (plainElem (H := Unit) Tryz.prog 3)
  have hnx : Below w.heap.size w (w.alloc (.map #[] 0)) := (Below.refl _ _).alloc (Nat.le_refl _) _
  go_enter Tryz.func79, Tryz.ntmps79
  go_wp2_with (first
    | (refine wpList_insert_own _ rfl _ _ _ 126 rfl 9 3 law9 Tryz.underlying126 _ w.heap.size _ _ rfl hown (by unfold maxLen; omega) _ _ _ rfl rfl (keyOf_string_mk Tryz.underlying9 (by decide)) _ [] (plainElem_int Tryz.underlying3 (by decide)) ?_
       intro w1 hown1 hgrow1
       have hnx1 := hnx.grown hgrow1 hnx.size (fun j hj => by cases hj; exact Nat.le_refl _)
       clear hown hnx hgrow1
       have hown := hown1
       have hnx := hnx1
       clear hown1 hnx1)
    | (at_lookup; refine wpList_lookup_own_int _ rfl _ _ 126 rfl 9 3 .i64 law9 Tryz.underlying126 Tryz.underlying3 (zero3 _) w.heap.size _ _ rfl hown _ _ rfl (keyOf_string_mk Tryz.underlying9 hs) ?_; intro c hat hwc))
  have hk := key_lookup s c hat
  clear hat
  go_ret
  exact ⟨by rw [← hk]; rfl, hnx⟩

theorem keyCells (w : World) (j : Nat) (hj : j < keyStrs.length) : (w.alloc (.cells (keyStrs.map Value.string).toArray 9)).cell? ⟨w.heap.size, 0 + j, none⟩ = some (.string (keyStrs.getD j ByteArray.empty)) := by
  have h1 : (w.alloc (.cells (keyStrs.map Value.string).toArray 9)).heap[w.heap.size]? = some (.cells (keyStrs.map Value.string).toArray 9) := (MapKept.heap_alloc w _).1
  have e : keyStrs.getD j ByteArray.empty = keyStrs[j] := by simp [List.getD, List.getElem?_eq_getElem hj]
  rw [e]
  unfold World.cell?
  dsimp only
  rw [h1]
  simp [hj]

set_option maxRecDepth 100000 in
theorem specKey_calls (s : ByteArray) (w : World) :
    Calls Tryz.prog 55 #[.string s] w fun e w' => e = .returned (.bool (isKey s)) ∧ Below w.heap.size w w' := by
  go_enter Tryz.func55, Tryz.ntmps55
  go_wp2_with fail
  refine (keys_calls _).mono ?_
  rintro e w1 ⟨rfl, rfl⟩
  go_wp2_with fail
  refine (in_calls w.heap.size 0 26 26 keyStrs s _ (by decide) (by decide) (keyCells w)).mono ?_
  rintro e w1 ⟨rfl, rfl⟩
  go_wp2_with fail
  go_ret
  refine ⟨?_, (Below.refl _ _).alloc (Nat.le_refl _) _⟩
  rw [← isKey_strs s, show keyStrs.take 26 = keyStrs from rfl]
  rfl
end Go.Proofs.YtkdipppeljpgmaaGreatDoor
