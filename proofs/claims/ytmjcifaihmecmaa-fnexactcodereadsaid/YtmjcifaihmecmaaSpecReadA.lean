/- The specification's reading of code is the plain one. -/
import Derived.Test.YtmjcifaihmecmaaReadPure
import Derived.Test.YtmjcifaihmecmaaSpecBytes
import Derived.Laws.IdiomStrings
namespace Go.Proofs.Ytmjcifaihmecmaa
open Go.RowKit

/-- These instructions lie in a row of the slice's own, from block B on. -/
def insRow (cs : List In) : List Value := cs.flatMap fun i => [.int .i64 i.op, .int .i64 i.a, .int .i64 i.b, .int .i64 i.c]

def OwnsI (B : Nat) (w : World) (v : Value) (cs : List In) : Prop := w.ownsRow B 25 4 v cs.length (insRow cs)

def BytesAt (w : World) (b off : Nat) (bs : List Int) : Prop := ∀ k, k < bs.length → w.cell? ⟨b, off + k, none⟩ = some (.int .u8 (bs.getD k 0))

theorem BytesAt.below {w w' : World} {b off B : Nat} {bs : List Int} (h : BytesAt w b off bs) (hb : Below B w w') (hB : b < B) : BytesAt w' b off bs :=
  fun k hk => (hb.cell (p := ⟨b, off + k, none⟩) hB).trans (h k hk)

theorem bytes_isB {bs : List Int} (hB : ∀ x ∈ bs, IsB x) (k : Nat) (hk : k < bs.length) : IsB (bs.getD k 0) := hB _ (by simp [List.getD, List.getElem?_eq_getElem hk])

theorem l5Num_at (b off : Nat) (bs : List Int) (k n : Nat) (w : World) (hn : BytesAt w b off bs) (hB : ∀ x ∈ bs, IsB x) (hk : k + 3 < bs.length) (h4 : 4 ≤ n) :
    Calls Try.prog 29 #[.slice (some ⟨b, off + k, none⟩) n n] w fun e w' => e = .returned (.int .i64 (numAt bs k)) ∧ Below w.heap.size w w' :=
  l5Number_calls b (off + k) n n _ _ _ _ w h4 (bytes_isB hB k (by omega)) (bytes_isB hB (k + 1) (by omega)) (bytes_isB hB (k + 2) (by omega)) (bytes_isB hB (k + 3) hk)
    (hn k (by omega)) (hn (k + 1) (by omega)) (hn (k + 2) (by omega)) (hn (k + 3) hk)

theorem ins_set1 {w : World} {g : Nat} {a b c d : Value} {t : TypeId} (h : w.heap[g]? = some (.cells #[a, b, c, d] t)) (v : Value) : (w.setCell ⟨g, 1, none⟩ v).heap[g]? = some (.cells #[a, v, c, d] t) := by
  simp [World.setCell, Array.getElem?_modify, h]
theorem ins_set2 {w : World} {g : Nat} {a b c d : Value} {t : TypeId} (h : w.heap[g]? = some (.cells #[a, b, c, d] t)) (v : Value) : (w.setCell ⟨g, 2, none⟩ v).heap[g]? = some (.cells #[a, b, v, d] t) := by
  simp [World.setCell, Array.getElem?_modify, h]
theorem ins_set3 {w : World} {g : Nat} {a b c d : Value} {t : TypeId} (h : w.heap[g]? = some (.cells #[a, b, c, d] t)) (v : Value) : (w.setCell ⟨g, 3, none⟩ v).heap[g]? = some (.cells #[a, b, c, v] t) := by
  simp [World.setCell, Array.getElem?_modify, h]

theorem owns_set {w : World} {B g off : Nat} {v u : Value} {cs : List In} (h : OwnsI B w v cs) (hne : some g ≠ v.ownBlock) : OwnsI B (w.setCell ⟨g, off, none⟩ u) v cs := by
  refine World.ownsRow.kept h (row := some g) ?_ (Or.inr fun e => hne e.symm)
  refine ⟨rfl, rfl, rfl, by simp [World.setCell], fun k hk hkg => ?_⟩
  exact Below.heap_setCell _ _ _ _ (fun e => hkg (congrArg some e))


set_option maxRecDepth 100000 in
theorem specBytes_none (ad : Option Addr) (cap : Nat) (w : World) :
    Calls Try.prog 10 #[.slice ad 0 cap] w fun e w' => (∃ v, e = .returned (.tuple #[v, .bool true]) ∧ OwnsB w.heap.size w' v headBytes) ∧ Below w.heap.size w w' := by
  go_enter Try.func10, Try.ntmps10
  go_wp2
  refine wp_loop_rounds 1 ?_
  rw [rounds_succ]
  go_wp2
  go_ret2
  exact ⟨⟨_, rfl, head_owns w⟩, (Below.refl _ _).alloc (Nat.le_refl _) _⟩

theorem specBytes_any {v : Value} {cs : List In} (w : World) (h : InsSlice w v cs) :
    Calls Try.prog 10 #[v] w fun e w' => (∃ v', e = .returned (.tuple #[v', .bool (codeOkZ cs)]) ∧ OwnsB w.heap.size w' v' (if codeOkZ cs then codeBytesZ cs else [])) ∧ Below w.heap.size w w' := by
  obtain ⟨ad, cap, rfl, h⟩ := h
  by_cases h0 : cs = []
  · subst h0
    exact specBytes_none ad cap w
  · obtain ⟨g, o, rfl, hb, hr⟩ := h.resolve_left h0
    exact specBytes_calls g o cap cs w hb hr

theorem insRow_length : ∀ cs : List In, (insRow cs).length = cs.length * 4
  | [] => rfl
  | i :: r => by
    show ([_, _, _, _] ++ insRow r).length = _
    rw [List.length_append, insRow_length r]
    simp
    omega

theorem insRow_at : ∀ (cs : List In) (i : Nat), i < cs.length * 4 → (insRow cs).getD i undef = insCells cs i
  | [], i, h => by simp at h
  | x :: r, i, h => by
    show ([Value.int .i64 x.op, .int .i64 x.a, .int .i64 x.b, .int .i64 x.c] ++ insRow r).getD i undef = _
    match i, h with
    | 0, _ => rfl
    | 1, _ => rfl
    | 2, _ => rfl
    | 3, _ => rfl
    | j + 4, h =>
      have h1 := insRow_at r j (by simp at h; omega)
      rw [show ([Value.int .i64 x.op, .int .i64 x.a, .int .i64 x.b, .int .i64 x.c] ++ insRow r).getD (j + 4) undef = (insRow r).getD j undef by simp [List.getD], h1]
      unfold insCells
      rw [show (j + 4) / 4 = j / 4 + 1 by omega, show (j + 4) % 4 = j % 4 by omega]
      rfl

theorem OwnsI.sliceR {B : Nat} {w : World} {v : Value} {cs : List In} (h : OwnsI B w v cs) : SliceR 25 4 B w v cs.length (insCells cs) := by
  obtain ⟨ad, cap, rfl, h'⟩ := sliceR_of_owns h
  refine ⟨ad, cap, rfl, h'.imp id ?_⟩
  rintro ⟨g, rfl, hB, hr⟩
  exact ⟨g, rfl, hB, hr.congr (fun i hi => insRow_at cs i hi)⟩

/-- Bytes as a text. -/
def byteStr (bs : List Int) : ByteArray := ⟨(bs.map fun x => UInt8.ofNat x.toNat).toArray⟩

theorem byteStr_inj {xs bs : List Int} (ha : ∀ x ∈ xs, IsB x) (hb : ∀ x ∈ bs, IsB x) (h : byteStr xs = byteStr bs) : xs = bs := by
  have h1 : (xs.map fun x => UInt8.ofNat x.toNat) = bs.map fun x => UInt8.ofNat x.toNat := by
    have := congrArg (fun b => b.data.toList) h
    simpa [byteStr] using this
  induction xs generalizing bs with
  | nil => cases bs with
    | nil => rfl
    | cons y r => simp at h1
  | cons x r ih => cases bs with
    | nil => simp at h1
    | cons y t =>
      simp only [List.map_cons, List.cons.injEq] at h1
      have hx := ha x (by simp)
      have hy := hb y (by simp)
      unfold IsB at hx hy
      have e : x = y := by
        have := congrArg UInt8.toNat h1.1
        simp at this
        omega
      rw [e, ih (fun z hz => ha z (by simp [hz])) (fun z hz => hb z (by simp [hz])) (by unfold byteStr; rw [h1.2]) h1.2]

theorem bytes_string (w : World) (b off cap : Nat) (bs : List Int) (hB : ∀ x ∈ bs, IsB x) (h : BytesAt w b off bs) :
    (convert 30 9 (.slice (some ⟨b, off, none⟩) bs.length cap)).run Try.prog w = .ok (.string (byteStr bs)) w := by
  have h1 := run_convert_bytes_back (P := Try.prog) w 30 9 5 ⟨b, off, none⟩ cap (bs.map fun x => UInt8.ofNat x.toNat) Try.underlying30 Try.underlying5 Try.underlying9 (fun i hi => by
    have hi' : i < bs.length := by simpa using hi
    have hx := bytes_isB hB i hi'
    have := h i hi'
    simp only [Addr.add, List.getElem_map]
    rw [show (if i = 0 then (⟨b, off, none⟩ : Addr) else ⟨b, off + i, none⟩) = ⟨b, off + i, none⟩ by split <;> simp_all, this]
    unfold IsB at hx
    simp only [List.getD, List.getElem?_eq_getElem hi', Option.getD_some] at hx ⊢
    simp
    omega)
  simpa [byteStr] using h1

theorem enc_isB (cs : List In) : ∀ x ∈ codeBytesZ cs, IsB x := by
  have h4 : ∀ n : Int, ∀ x ∈ four n, IsB x := by
    intro n x hx
    unfold four at hx
    unfold IsB
    simp at hx
    omega
  intro x hx
  unfold codeBytesZ at hx
  rcases List.mem_append.1 hx with h | h
  · unfold headBytes at h
    unfold IsB
    simp at h
    omega
  · obtain ⟨i, _, hi⟩ := List.mem_flatMap.1 h
    rcases List.mem_cons.1 hi with rfl | hi
    · unfold IsB
      omega
    · obtain ⟨n, _, hn⟩ := List.mem_flatMap.1 hi
      exact h4 n x hn
end Go.Proofs.Ytmjcifaihmecmaa
