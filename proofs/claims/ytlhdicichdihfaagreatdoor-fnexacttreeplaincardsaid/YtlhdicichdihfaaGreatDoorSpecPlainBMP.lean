/- The specification's TreePlain. -/
import Derived.Test.YtlhdicichdihfaaGreatDoorSpecPlainMP
namespace Go.Proofs.YtlhdicichdihfaaGreatDoor
open Go.RowKit Go.Deep

theorem free_nil (s : Wst) : freeOf s = [] ↔ s.free = [] := by
  unfold freeOf
  constructor
  · intro h
    cases hf : s.free with
    | nil => rfl
    | cons x r =>
      exfalso
      have := (fold_sorted (textsOf s.free) [] List.Pairwise.nil).2 x.data.toList
      rw [h] at this
      have h2 := this.2 (Or.inl (by rw [hf]; unfold textsOf; simp))
      cases h2
  · intro h
    rw [h]
    rfl

theorem pls_start {w3 : World} (tv : Value) : Pls (w3.alloc (.cells #[tv, .slice none 0 0, .int .i64 0] 40)) w3.heap.size tv ⟨[], [], 0⟩ (.slice none 0 0) (w3.alloc (.cells #[tv, .slice none 0 0, .int .i64 0] 40)) :=
  ⟨(MapKept.heap_alloc w3 _).1, World.ownsRow_nil _ _ _ _, rfl, rfl, rfl, Nat.le_refl _, fun _ _ _ => rfl, by simp⟩

set_option maxHeartbeats 2000000 in
set_option maxRecDepth 100000 in
theorem specPlain_calls {b off cap : Nat} {ns : List Nd} {n : Nd} {k : Fo} (w : World) (hm : ns.length ≤ 300) (hbw : b < w.heap.size) (hn : NodesAt w b off ns) (hA : SpecAns ns true) (hall : ns.all ownOk = true) (h1 : ns = n :: k.flat) (h2 : n.kids = k.count) (h3 : k.wf) :
    Calls Tryz.prog 6 #[.slice (some ⟨b, off, none⟩) ns.length cap] w fun e w' => ∃ v, e = .returned v ∧ Below w.heap.size w w' ∧ w'.ownsRow w.heap.size 42 6 v (plainOf (wholeW n k)).length (ndRow (plainOf (wholeW n k))) := by
  have hown : ∀ m ∈ ns, ownOk m = true := fun m hm => List.all_eq_true.1 hall m hm
  have hkl : k.flat.length ≤ 300 := by rw [h1, List.length_cons] at hm; omega
  have HT := hid (specTree_calls b off cap ns w true (by omega) hbw hn hA)
  have HF := hid (fun X (hb : Below w.heap.size w X) => specFree_calls (cap := cap) X hm (Nat.lt_of_lt_of_le hbw hb.size) (hn.below hb hbw) hA hall h1 h2 h3)
  have HP := hid (fun X (hb : Below w.heap.size w X) => part_calls (W0 := X.alloc (.cells #[.slice (some ⟨b, off, none⟩) ns.length cap, .slice none 0 0, .int .i64 0] 40)) (Pb := X.heap.size) (cap := cap) hm (fun m hm => (own_kids (hown m hm)).1) (by have := hb.size; simp; omega) (by have := hb.size; omega) ((hn.below hb hbw).below ((Below.refl X.heap.size X).alloc (Nat.le_refl _) _) (Nat.lt_of_lt_of_le hbw hb.size)) (k.flat.length + 1) n k [] 0 [] ⟨[], [], 0⟩ (.slice none 0 0) (.slice none 0 0) (.slice none 0 0) _ (by rw [h1]; simp) h2 h3 (Nat.lt_succ_self _) (pls_start _) (Or.inl ⟨rfl, rfl⟩) (Or.inl ⟨rfl, rfl⟩) (by simp; omega) (room_start hkl))
  clear hn hA hall hown hkl hm
  obtain ⟨len, hlen⟩ : ∃ len, ns.length = len := ⟨_, rfl⟩
  rw [hlen] at HT HF HP ⊢
  clear hlen
  go_enter Tryz.func6, Tryz.ntmps6
  go_wp2_with fail
  refine HT.out.mono ?_
  rintro e w2 ⟨rfl, hb2⟩
  have HB2 := hid hb2
  clear hb2 HT
  go_wp2_with fail
  refine (HF.out w2 HB2.out).mono ?_
  rintro e w3 ⟨u, rfl, hu, hb3⟩
  obtain ⟨ad, cp, rfl⟩ := hu.slice
  have HB3 := hid (HB2.out.trans (hb3.mono HB2.out.size))
  rw [bys_len]
  clear hu hb3 HF HB2
  obtain ⟨L, hL⟩ : ∃ L, (freeOf (wholeW n k)).length = L := ⟨_, rfl⟩
  rw [hL]
  have HL := hid hL
  clear hL
  by_cases h0 : (0 : Int) < (L : Int)
  · have HPl : Hid (plainOf (wholeW n k) = []) := by
      show _ = _
      unfold plainOf
      rw [if_neg]
      intro e
      have := (free_nil _).2 e
      have h4 := HL.out
      rw [this] at h4
      simp at h4
      omega
    go_wp2_with fail
    go_ret
    refine ⟨_, rfl, HB3.out, ?_⟩
    rw [HPl.out]
    exact World.ownsRow_nil _ _ _ _
  · have hfr : (wholeW n k).free = [] := (free_nil _).1 (List.eq_nil_of_length_eq_zero (by have := HL.out; omega))
    have HPl : Hid (plainOf (wholeW n k) = (walkS n k [] ⟨[], [], 0⟩).plain) := by
      show _ = _
      unfold plainOf
      rw [if_pos hfr, walkS_same hfr]
      rfl
    have HC := hid (HP.out w3 HB3.out)
    have hba := HB3.out.alloc HB3.out.size (.cells #[.slice (some ⟨b, off, none⟩) len cap, .slice none 0 0, .int .i64 0] 40)
    have HBa := hid hba
    have hsz := HB3.out.size
    clear hfr HP hba
    go_wp2_with fail
    refine HC.out.mono ?_
    rintro e W ⟨⟨x, rfl⟩, vo, st, -, -⟩
    have c1 := cell_of_heap st.blk 1
    simp at c1
    have hbW : Below w.heap.size w W := ⟨st.os.trans HBa.out.os, st.tape.trans HBa.out.tape, st.output.trans HBa.out.output, Nat.le_trans HBa.out.size st.size, fun q hq => (st.kept q (Nat.lt_of_lt_of_le hq HBa.out.size) (by omega)).trans (HBa.out.block q hq)⟩
    have hrow := own_base st.row HBa.out.size
    have HR := hid (And.intro hbW hrow)
    clear st hbW hrow HC HBa
    generalize w3.heap.size = Pb at *
    go_wp2_with fail
    go_ret
    refine ⟨_, rfl, HR.out.1, ?_⟩
    rw [HPl.out]
    exact HR.out.2

set_option maxRecDepth 100000 in
theorem specPlain_bad {b off cap : Nat} {ns : List Nd} (w : World) (hm : ns.length ≤ 1048576) (hbw : b < w.heap.size) (hn : NodesAt w b off ns) (hA : SpecAns ns false) :
    Calls Tryz.prog 6 #[.slice (some ⟨b, off, none⟩) ns.length cap] w fun e w' => e = .returned (.slice none 0 0) ∧ Below w.heap.size w w' := by
  have HT := hid (specTree_calls b off cap ns w false hm hbw hn hA)
  clear hm hbw hn hA
  generalize ns.length = len at *
  go_enter Tryz.func6, Tryz.ntmps6
  go_wp2_with fail
  refine HT.out.mono ?_
  rintro e w2 ⟨rfl, hb2⟩
  go_wp2_with fail
  go_ret
  exact ⟨rfl, hb2⟩
end Go.Proofs.YtlhdicichdihfaaGreatDoor
