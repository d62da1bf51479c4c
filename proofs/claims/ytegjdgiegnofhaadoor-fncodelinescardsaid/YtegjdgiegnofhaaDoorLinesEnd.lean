/- The reader of drawn numbers: opened over bytes, and drawn from. -/
import Derived.Test.YtegjdgiegnofhaaDoorRows
import Derived.Test.YtegjdgiegnofhaaDoorPickWalks
import Derived.WalkKit
import Derived.ProofKit
import Derived.OwnWalk
import Derived.Deep.RegionHeld
import Derived.Test.YtegjdgiegnofhaaDoorCodeDrawML
import Derived.Test.YtegjdgiegnofhaaDoorTextB
import Derived.Test.YtegjdgiegnofhaaDoorTextA
import Derived.LaidMore
import Derived.OpenShut
import Derived.Lib.LaidTab
import Derived.Test.YtegjdgiegnofhaaDoorCards
import Derived.Test.YtegjdgiegnofhaaDoorTie
import Derived.Deep.DeepHandedRow
import Derived.JoinedCond
import Derived.ChangeVars
namespace Go.Proofs.YtegjdgiegnofhaaDoor
open Go.RowKit

/-- A slice of bytes in a world. -/
def BytesAt (w : World) (a0 : Option Addr) (len : Nat) : Prop :=
  0 < len → ∃ b off, a0 = some ⟨b, off, none⟩ ∧ b < w.heap.size ∧ ∀ i, i < len → ∃ z, w.cell? ⟨b, off + i, none⟩ = some (.int .u8 z) ∧ 0 ≤ z ∧ z ≤ 255

set_option maxRecDepth 100000 in
theorem open_calls (a0 : Option Addr) (len cap : Nat) (w : World) (hlen : len ≤ 1000000000) (hb : len ≤ cap) :
    Calls Tryd.prog 8 #[.slice a0 len cap] w fun e w' => e = .returned (.pointer (some ⟨w.heap.size, 0, none⟩)) ∧
      ∃ n : Nat, n ≤ len ∧ w' = w.alloc (.cells #[.slice a0 n cap, .int .i64 0] 51) := by
  by_cases h : (2000 : Int) < (len : Int)
  · go_enter Tryd.func8, Tryd.ntmps8
    go_wp2
    go_ret
    exact ⟨rfl, 2000, by omega, rfl⟩
  · go_enter Tryd.func8, Tryd.ntmps8
    go_wp2
    go_ret
    exact ⟨rfl, len, Nat.le_refl _, rfl⟩

/-- The reader of bytes in block 'B', 'q' numbers drawn. -/
structure RdSt (w0 : World) (B : Nat) (a0 : Option Addr) (n cap : Nat) (q : Nat) (w' : World) : Prop where
  cell0 : w'.cell? ⟨B, 0, none⟩ = some (.slice a0 n cap)
  cell1 : w'.cell? ⟨B, 1, none⟩ = some (.int .i64 q)
  frozen : w'.frozen? ⟨B, 1, none⟩ = false
  bytes : 0 < n → ∃ b off, a0 = some ⟨b, off, none⟩ ∧ b ≠ B ∧ ∀ i, i < n → ∃ z, w'.cell? ⟨b, off + i, none⟩ = some (.int .u8 z) ∧ 0 ≤ z ∧ z ≤ 255
  low : w0.heap.size ≤ B
  below : Below w0.heap.size w0 w'

theorem RdSt.drew {w0 : World} {B : Nat} {a0 : Option Addr} {n cap : Nat} {q : Nat} {w' : World} (h : RdSt w0 B a0 n cap q w') : RdSt w0 B a0 n cap q w'.drew :=
  ⟨h.cell0, h.cell1, h.frozen, h.bytes, h.low, h.below.drew⟩

theorem rd_pick {w0 : World} {B : Nat} {a0 : Option Addr} {n cap : Nat} {q : Nat} {w' : World} (h : RdSt w0 B a0 n cap q w') (hq : q ≤ 1000) (k : Nat) (hk : 0 < k) :
    Calls Tryd.prog 22 #[.pointer (some ⟨B, 0, none⟩), .int .i64 k] w' fun e w2 => ∃ m : Nat, e = .returned (.int .i64 m) ∧ m < k ∧ RdSt w0 B a0 n cap (q + 1) w2 := by
  refine (pick_calls B a0 n cap q k w' h.cell0 h.cell1 h.frozen (by omega) h.bytes).mono ?_
  rintro e w2 ⟨⟨r, rfl, hr0, hr1⟩, hP⟩
  have hr1 := hr1 (by omega)
  refine ⟨r.toNat, by rw [Int.toNat_of_nonneg hr0], by omega, ?_⟩
  refine ⟨hP.cell0.trans h.cell0, by rw [hP.cell1]; push_cast; rfl, hP.frozen.trans h.frozen, ?_, h.low, h.below.trans (hP.below _ h.low)⟩
  intro hn
  obtain ⟨b, off, ea, hb, hz⟩ := h.bytes hn
  refine ⟨b, off, ea, hb, fun i hi => ?_⟩
  rw [hP.other _ hb]
  exact hz i hi

theorem rd_start (w : World) (a0 : Option Addr) (len cap n : Nat) (hn : n ≤ len) (hB : BytesAt w a0 len) :
    RdSt w w.heap.size a0 n cap 0 (w.alloc (.cells #[.slice a0 n cap, .int .i64 0] 51)) where
  cell0 := by simp [go_sem]
  cell1 := by simp [go_sem]
  frozen := by simp [go_sem]
  bytes := by
    intro h
    obtain ⟨b, off, ea, hb, hz⟩ := hB (by omega)
    refine ⟨b, off, ea, by omega, fun i hi => ?_⟩
    obtain ⟨z, hz, h0, h1⟩ := hz i (by omega)
    refine ⟨z, ?_, h0, h1⟩
    rw [← hz]
    exact (((Below.refl w.heap.size w).alloc (Nat.le_refl _) _).cell (p := ⟨b, off + i, none⟩) hb)
  low := Nat.le_refl _
  below := (Below.refl _ _).alloc (Nat.le_refl _) _

theorem rd_open (a0 : Option Addr) (len cap : Nat) (w : World) (hlen : len ≤ 1000000000) (hb : len ≤ cap) (hB : BytesAt w a0 len) :
    Calls Tryd.prog 8 #[.slice a0 len cap] w fun e w' => e = .returned (.pointer (some ⟨w.heap.size, 0, none⟩)) ∧
      ∃ n : Nat, n ≤ len ∧ RdSt w w.heap.size a0 n cap 0 w' := by
  refine (open_calls a0 len cap w hlen hb).mono ?_
  rintro e w' ⟨rfl, n, hn, rfl⟩
  exact ⟨rfl, n, hn, rd_start w a0 len cap n hn hB⟩

theorem BytesAt.below {w w' : World} {a0 : Option Addr} {len : Nat} (h : BytesAt w a0 len) (hb : Below w.heap.size w w') : BytesAt w' a0 len := by
  intro h0
  obtain ⟨b, off, ea, hlt, hz⟩ := h h0
  refine ⟨b, off, ea, Nat.lt_of_lt_of_le hlt hb.size, fun i hi => ?_⟩
  obtain ⟨z, hz, h0, h1⟩ := hz i hi
  exact ⟨z, by rw [← hz]; exact hb.cell (p := ⟨b, off + i, none⟩) hlt, h0, h1⟩
end Go.Proofs.YtegjdgiegnofhaaDoor

/- The law of a code's lines, walked: whatever code is drawn. -/
namespace Go.Proofs.YtegjdgiegnofhaaDoor
open Go.RowKit Go.Deep

theorem insS_own {W : World} {B : Nat} {v : Value} {cs : List In} (h : W.ownsRow B 28 4 v cs.length (rowZ In.cell 4 cs)) : InsSlice W v cs := by
  have h' := h
  obtain ⟨-, ⟨rfl, h0⟩ | ⟨g, cap, cur, rfl, hB, hc, hr⟩⟩ := h
  · exact ⟨none, 0, by rw [h0], Or.inl (List.eq_nil_of_length_eq_zero h0)⟩
  · exact ⟨_, cap, rfl, Or.inr ⟨g, 0, rfl, heap_lt hc, ins_at h'⟩⟩

def DrawnC (W : World) (e : Ending) (W' : World) : Prop := ∃ v cs, e = .returned v ∧ InsSlice W' v cs ∧ cs.length ≤ 960000 ∧ Below W.heap.size W W'

set_option maxHeartbeats 4000000 in
set_option maxRecDepth 100000 in
theorem drawText_calls (a0 : Option Addr) (len cap : Nat) (W : World) (hl : len ≤ 1048576) (hc : len ≤ cap) (hB : BytesAt W a0 len) : Calls Tryd.prog 4 #[.slice a0 len cap] W (DrawnC W) := by
  have HO := hid (open_calls a0 len cap W (by omega) hc)
  have HB := hid hB
  clear hB
  go_enter Tryd.func4, Tryd.ntmps4
  go_wp2_with fail
  refine HO.out.mono ?_
  rintro e W1 ⟨rfl, m, hm, rfl⟩
  have HR : Hid (Rdr ⟨W.heap.size, W.heap.size, a0, m, cap⟩ (W.alloc (.cells #[.slice a0 m cap, .int .i64 0] 51)) 0) := by
    have hh := (MapKept.heap_alloc W (.cells #[.slice a0 m cap, .int .i64 0] 51)).1
    refine ⟨hh, fun h0 => ?_⟩
    obtain ⟨b, off, ea, hb, hz⟩ := HB.out (show 0 < len by have : 0 < m := h0; omega)
    refine ⟨b, off, ea, ⟨by simp; omega, by show b ≠ W.heap.size; omega, by show b ≠ W.heap.size; omega⟩, fun i hi => ?_⟩
    obtain ⟨z, hz, h1⟩ := hz i (by have : i < m := hi; omega)
    exact ⟨z, (((Below.refl W.heap.size W).alloc (Nat.le_refl _) _).cell (p := ⟨b, off + i, none⟩) hb).trans hz, h1⟩
  have HA := hid (code_calls (d := ⟨W.heap.size, W.heap.size, a0, m, cap⟩) rfl HR.out (by omega))
  have HW : Hid (Below W.heap.size W (W.alloc (.cells #[.slice a0 m cap, .int .i64 0] 51))) := (Below.refl _ _).alloc (Nat.le_refl _) _
  clear HO hm
  go_wp2_with fail
  refine HA.out.mono ?_
  rintro e W2 ⟨v, cs, q, rfl, hown, hlen, -, -, hg⟩
  have HN := hid (insS_own hown)
  have HL := hid hlen
  have HG := hid (HW.out.trans (hg.below (n := W.heap.size) (by simp) (Nat.le_refl _) (Nat.le_refl _)))
  obtain ⟨av, cv, rfl⟩ := own_slice hown
  clear hown hlen hg HA
  go_wp2_with fail
  go_ret
  exact ⟨_, cs, rfl, HN.out, HL.out, HG.out⟩

theorem tx_at (T : List UInt8) (k : Nat) (h : k < (tx T).size) : (tx T)[k]'h = T.getD k 0 := by
  have h' : k < T.length := by rw [tx_size] at h; exact h
  show (T.toArray)[k] = _
  simp [List.getD, h']

theorem all_next {cs : List In} {i : Nat} (h : i < cs.length) : (cs.take (i + 1)).all In.ok = ((cs.take i).all In.ok && (cs.getD i default).ok) := by
  rw [List.take_add_one, List.all_append]
  simp [List.getD, h]

set_option maxHeartbeats 8000000 in
set_option maxRecDepth 100000 in
theorem lines_walk (a0 : Option Addr) (len cap : Nat) (W : World) (hcap : len ≤ cap) (hB : BytesAt W a0 len) (hL : LaidC W) :
    Calls Tryd.prog 3 #[.slice a0 len cap] W fun e W' => e = .returned (.bool true) ∧ Below W.heap.size W W' := by
  by_cases hl : (1048576 : Int) < (len : Int)
  · go_enter Tryd.func3, Tryd.ntmps3
    go_wp2_with fail
    go_ret
    exact ⟨rfl, Below.refl _ _⟩
  have HD := hid (drawText_calls a0 len cap W (by omega) hcap hB)
  have HLa := hid hL
  have hl' : (len : Int) ≤ 1048576 := by omega
  clear hB hl hcap hL
  go_enter Tryd.func3, Tryd.ntmps3
  go_wp2_with fail
  refine HD.out.mono ?_
  rintro e W1 ⟨v, cs, rfl, hv, hc, hb1⟩
  obtain ⟨av, cv, rfl, -⟩ := id hv
  have HV := hid hv
  have HC := hid hc
  have HB1 := hid hb1
  have HT := hid (lines_of cs)
  have HTl := hid (ans_length cs)
  have HI := hid (implText_any W1 (HLa.out.stays hb1) hv)
  clear HD hv hc hb1 hl'
  obtain ⟨L, hLL⟩ : ∃ L, cs.length = L := ⟨_, rfl⟩
  have HL := hid hLL
  rw [hLL] at HV HI ⊢
  obtain ⟨T, hT⟩ : ∃ T, ansText cs = T := ⟨_, rfl⟩
  have HTT := hid hT
  rw [hT] at HT HTl HI
  rw [hLL] at HT
  clear hLL hT
  go_wp2_with fail
  refine HI.out.mono ?_
  rintro e W2 ⟨rfl, hb2⟩
  have HV2 := hid (HV.out.below hb2)
  have HB2 := hid (HB1.out.trans (hb2.mono HB1.out.size))
  have HS := hid (specText_any W2 HV2.out (by have := HC.out; omega))
  rw [HTT.out] at HS
  clear hb2 HV HB1 HI
  obtain ⟨TX, hTX⟩ : ∃ TX, tx T = TX := ⟨_, rfl⟩
  have HTX := hid hTX
  rw [hTX] at HS ⊢
  have hsz : TX.size = T.length := by rw [← hTX]; exact tx_size T
  have HSz := hid hsz
  clear hTX hsz
  go_wp2_with fail
  refine HS.out.mono ?_
  rintro e W3 ⟨rfl, hb3⟩
  have HV3 := hid (HV2.out.below hb3)
  have HB3 := hid (HB2.out.trans (hb3.mono HB2.out.size))
  have hTT : (TX.toList != TX.toList) = false := by simp
  clear hb3 HV2 HB2 HS
  go_wp2_with fail
  go_loopw [5, 6] (fun n i wr => ∃ k : Nat, k ≤ TX.size ∧ i = .int .i64 (k : Int) ∧ n = .int .i64 (nlZ T k : Int) ∧ wr = W3) (fun _ i _ => TX.size - (intOf i).toNat)
  case atStart => exact ⟨0, Nat.zero_le _, rfl, rfl, rfl⟩
  case round =>
    obtain ⟨k, hk, rfl, rfl, rfl⟩ := hrel
    by_cases hki : (k : Int) < (TX.size : Int)
    · have hkn : k < TX.size := by omega
      have hk0 : (0 : Int) ≤ (k : Int) := by omega
      have hat : (TX[k]'hkn) = T.getD k 0 := by
        have h1 := HTX.out
        subst h1
        exact tx_at T k hkn
      have hnx := nlZ_next (T := T) (i := k) (by rw [← HSz.out]; exact hkn)
      have hle := nlZ_le T k
      have HNl : Hid (nlZ T k ≤ 200000 ∧ k ≤ 200000) := by show _ ∧ _; have := HTl.out; have := HSz.out; omega
      have hstep : TX.size - (intOf (.int .i64 ((k + 1 : Nat) : Int))).toNat < TX.size - (intOf (.int .i64 (k : Int))).toNat := by simp only [intOf, Int.toNat_natCast]; omega
      cases hx : (((TX[k]'hkn).toNat : Int) == 10) with
      | true =>
        have HE : Hid (nlZ T (k + 1) = nlZ T k + 1) := by
          show _ = _
          rw [hnx, ← hat, if_pos]
          have h1 : ((TX[k]'hkn).toNat : Int) = 10 := eq_of_beq hx
          rw [beq_iff_eq]
          apply UInt8.toNat_inj.1
          show (TX[k]'hkn).toNat = 10
          omega
        clear hnx hle hat
        obtain ⟨nn, hnn⟩ : ∃ nn, nlZ T k = nn := ⟨_, rfl⟩
        rw [hnn] at HE HNl ⊢
        clear hnn
        go_wp2_with fail
        try rw [wrap_succ (by have := HNl.out; omega)]
        try rw [wrap_succ (by have := HNl.out; omega)]
        exact ⟨⟨k + 1, by omega, rfl, by rw [HE.out], trivial⟩, hstep⟩
      | false =>
        have HE : Hid (nlZ T (k + 1) = nlZ T k) := by
          show _ = _
          rw [hnx, ← hat, if_neg, Nat.add_zero]
          intro h1
          rw [beq_iff_eq] at h1
          rw [h1] at hx
          exact absurd hx (by decide)
        clear hnx hle hat
        obtain ⟨nn, hnn⟩ : ∃ nn, nlZ T k = nn := ⟨_, rfl⟩
        rw [hnn] at HE HNl ⊢
        clear hnn
        go_wp2_with fail
        try rw [wrap_succ (by have := HNl.out; omega)]
        exact ⟨⟨k + 1, by omega, rfl, by rw [HE.out], trivial⟩, hstep⟩
    · have e : k = T.length := by have := HSz.out; omega
      subst e
      obtain ⟨NN, hNN⟩ : ∃ NN, nlZ T T.length = NN := ⟨_, rfl⟩
      rw [hNN] at HT ⊢
      clear hNN hk
      rename World => wo
      go_wp2_with fail
      go_loopw [7, 8] (fun ok i wr => ∃ k : Nat, k ≤ L ∧ i = .int .i64 (k : Int) ∧ ok = .bool ((cs.take k).all In.ok) ∧ Hid (Below wo.heap.size wo wr)) (fun _ i _ => L - (intOf i).toNat)
      case atStart => exact ⟨0, Nat.zero_le _, rfl, rfl, Below.refl _ _⟩
      case round =>
        obtain ⟨k, hk, rfl, rfl, HBr⟩ := hrel
        by_cases hkl : (k : Int) < (L : Int)
        · have hkc : k < cs.length := by rw [HL.out]; omega
          obtain ⟨b, off, hbo, hbb, hat⟩ : ∃ b off, av = some ⟨b, off, none⟩ ∧ b < wo.heap.size ∧ InsAt wo b off cs := by
            obtain ⟨a', c', e, h⟩ := HV3.out
            simp only [Value.slice.injEq] at e
            obtain ⟨rfl, -, -⟩ := e
            rcases h with h | ⟨b, off, e, h1, h2⟩
            · rw [h] at hkc
              simp at hkc
            · exact ⟨b, off, e, h1, h2⟩
          subst hbo
          have hc : ∀ j, j < 4 → wr.cell? ⟨b, off + k * 4 + j, none⟩ = some ((cs.getD k default).cell j) := fun j hj => (HBr.out.cell (p := ⟨b, off + k * 4 + j, none⟩) hbb).trans (hat k hkc j hj)
          have hnx := all_next hkc
          obtain ⟨⟨op, a, bb, c⟩, hi⟩ : ∃ x, cs.getD k default = x := ⟨_, rfl⟩
          rw [hi] at hc hnx
          have c0 := hc 0 (by omega)
          have c1 := hc 1 (by omega)
          have c2 := hc 2 (by omega)
          have c3 := hc 3 (by omega)
          simp only [In.cell, Nat.add_zero] at c0 c1 c2 c3
          have hk0 : (0 : Int) ≤ (k : Int) := by omega
          have hstep : L - (intOf (.int .i64 ((k + 1 : Nat) : Int))).toNat < L - (intOf (.int .i64 (k : Int))).toNat := by simp only [intOf, Int.toNat_natCast]; omega
          have HKb : Hid (k ≤ 960000) := by show _ ≤ _; have := HC.out; have := HL.out; omega
          have HNx : Hid ((cs.take (k + 1)).all In.ok = ((cs.take k).all In.ok && insOkZ op a bb c)) := hnx
          clear hc hi hat hkc hnx
          cases hok : (cs.take k).all In.ok with
          | true =>
            rw [hok, Bool.true_and] at HNx
            clear hok
            go_wp2_with fail
            refine (implInsOk_calls op a bb c wr).mono ?_
            rintro e W5 ⟨rfl, hb5⟩
            have HB5 := hid (HBr.out.trans (hb5.mono HBr.out.size))
            clear hb5
            obtain ⟨x5, hx5⟩ : ∃ x, insOkZ op a bb c = x := ⟨_, rfl⟩
            rw [hx5] at HNx ⊢
            clear hx5
            go_wp2_with fail
            try rw [wrap_succ (by have := HKb.out; omega)]
            exact ⟨⟨k + 1, by omega, rfl, by rw [HNx.out], HB5⟩, hstep⟩
          | false =>
            rw [hok, Bool.false_and] at HNx
            clear hok
            go_wp2_with fail
            try rw [wrap_succ (by have := HKb.out; omega)]
            exact ⟨⟨k + 1, by omega, rfl, by rw [HNx.out], HBr⟩, hstep⟩
        · have e : k = L := by omega
          subst e
          have HTk : Hid ((cs.take k).all In.ok = cs.all In.ok) := by show _ = _; rw [List.take_of_length_le (by rw [HL.out]; exact Nat.le_refl _)]
          by_cases h0 : NN = 0
          · subst h0
            generalize (cs.take k).all In.ok = okk at *
            go_wp2_with fail
            go_ret
            exact ⟨rfl, HB3.out.trans (HBr.out.mono HB3.out.size)⟩
          · obtain ⟨h1, h2⟩ := HT.out.resolve_left h0
            subst h1
            rw [HTk.out, h2]
            have z0 : (((NN : Nat) : Int) == 0) = false := by simp [h0]
            have z1 : (((NN : Nat) : Int) == (NN : Int)) = true := by simp
            clear h2 HTk
            go_wp2_with fail
            go_ret
            exact ⟨rfl, HB3.out.trans (HBr.out.mono HB3.out.size)⟩
end Go.Proofs.YtegjdgiegnofhaaDoor

/- What the listed variables give the walk. -/
namespace Go.Proofs.YtegjdgiegnofhaaDoor
open Go.ChangeShapes Go.WideShapes Go.ChangeAt Go.RowKit

/-- An array of texts that reads as the table holds the table's texts, cell for cell. -/
theorem cells_of_texts {H : Type} {enc : TypeId × Value → H} {P : Program} {w : World} {base : Nat} {sp : Nat → Bool} {held : Bool} {fuel : Nat} {t e : TypeId} {n : Nat} {cs : List Value} {zs : List (List UInt8)} {p : List MemPlace}
    (ht : P.underlying t = some (.array n e)) (he : P.underlying e = some .string) (hce : P.cellsOf e = 1) (hct : P.cellsOf t = n)
    (h : DataW.trod enc P w base sp held fuel t cs = some (.agg (zs.map fun z => .lit (.string z)), p)) : cs = zs.map fun z => Value.string ⟨z.toArray⟩ := by
  obtain ⟨xs, m, rfl, hx, hl, hn, hat⟩ := DataW.trod_array ht h
  rw [hct] at hl
  rw [Prod.mk.injEq, DataW.agg.injEq] at hx
  have hxs := hx.1
  have hzl : zs.length = n := by
    have := congrArg List.length hxs
    simp at this
    omega
  apply List.ext_getElem?
  intro i
  by_cases hi : i < n
  · have hi1 := hat i hi
    obtain ⟨b, hb⟩ : ∃ b, xs[i]? = some b := ⟨_, List.getElem?_eq_getElem (by omega)⟩
    rw [hb] at hi1
    obtain ⟨s, hc, rfl, _⟩ := DataW.trod_string he hi1
    have h1 : cs[i]? = some (.string s) := by
      have := congrArg (·[0]?) hc
      simpa [hce, List.getElem?_take, List.getElem?_drop] using this
    have h2 : (xs.map (·.1))[i]? = some (DataW.lit (.string s.data.toList) : DataW H) := by simp [hb]
    rw [← hxs] at h2
    simp only [List.getElem?_map, Option.map_eq_some_iff, DataW.lit.injEq, Lit.string.injEq] at h2
    obtain ⟨z, hz, rfl⟩ := h2
    simp [h1, hz]
  · rw [List.getElem?_eq_none (by omega), List.getElem?_eq_none (by simp; omega)]

theorem tWords : (Tryd.prog.globals[0]?).map (·.type) = some 41 := by kernel_rfl
theorem tPows : (Tryd.prog.globals[1]?).map (·.type) = some 120 := by kernel_rfl
theorem cWords : Tryd.prog.cellsOf 41 = 26 := by kernel_rfl
theorem cPows : Tryd.prog.cellsOf 120 = 20 := by kernel_rfl
theorem cString : Tryd.prog.cellsOf 9 = 1 := by kernel_rfl
theorem cUint : Tryd.prog.cellsOf 102 = 1 := by kernel_rfl

theorem pows_data : (Rows.laid_internal_strconv_uint64pow10 : DataW Unit) = Lib.tabData .u64 Lib.pow10Tab := by kernel_rfl
theorem words_data {H : Type} : (Rows.laid_loop_example_handrail_impl_insWords : DataW H) = .agg (insWordsL.map fun z => .lit (.string z)) := by kernel_rfl

theorem of_laid {W : World} (h : laidMetH Tryd.prog Rows.fnCodeLinesRow.laid W) : LaidC W := by
  rw [MakeChecks.laidMetH_plain _ _ _ (by kernel_rfl)] at h
  obtain ⟨ps, ⟨g0, t0, cs0, f0, p0, q0, hg0, ht0, hv0, hd0, ⟨g1, t1, cs1, f1, p1, q1, hg1, ht1, hv1, hd1, ⟨g2, t2, cs2, f2, p2, q2, hg2, ht2, hv2, hd2, ⟨g3, t3, cs3, f3, p3, q3, hg3, ht3, hv3, hd3, _⟩, _⟩, _⟩, _⟩, _⟩ := h
  obtain rfl := Option.some.inj (gPowsC.symm.trans hg2)
  obtain rfl := Option.some.inj (gWords.symm.trans hg3)
  obtain rfl := Option.some.inj (tPows.symm.trans ht2)
  obtain rfl := Option.some.inj (tWords.symm.trans ht3)
  refine ⟨?_, ?_⟩
  · rw [words_data] at hd3
    have := cells_of_texts Tryd.underlying41 Tryd.underlying9 cString cWords hd3
    rw [hv3, wordsArr, ← this]
  · rw [pows_data] at hd2
    have := Lib.cells_of_tab Tryd.underlying120 Tryd.underlying102 cUint cPows hd2
    unfold Lib.TabIs
    rw [hv2, ← this]
end Go.Proofs.YtegjdgiegnofhaaDoor

/- At every bytes the promise on the lines of a text of code holds: the text of drawn code has a line for each instruction; the card. -/
namespace Go.Proofs.YtegjdgiegnofhaaDoor.fnCodeLines
open Go.ChangeShapes Go.WideShapes Go.ChangeAt Go.RowKit

theorem own : ownKnob Tryd.prog.godebug = none := by kernel_rfl
theorem laidOut : laidOutB Tryd.prog = true := by kernel_rfl

theorem reads_words {H : Type} (enc : TypeId × Value → H) (W : World) (sp : Nat → Bool) : DataW.trod enc Tryd.prog W 0 sp true 3 41 wordsArr.toList = some (Rows.laid_loop_example_handrail_impl_insWords, []) := by kernel_rfl

theorem spot_none {W : World} {a : Addr} {v : Value} (h : W.cell? a = some v) : a.spot = none := by
  unfold World.cell? at h
  split at h
  · by_cases hs : a.spot.isSome
    · simp [hs] at h
    · simpa using hs
  · cases h

theorem block_lt {W : World} {a : Addr} {v : Value} (h : W.cell? a = some v) : a.block < W.heap.size := by
  unfold World.cell? at h
  split at h
  · rename_i e
    obtain ⟨hlt, _⟩ := Array.getElem?_eq_some_iff.mp e
    exact hlt
  · cases h

theorem cells_u8 : Tryd.prog.cellsOf 5 = 1 := by kernel_rfl

theorem open_bytes {H : Type} {enc : TypeId × Value → H} {W : World} {sp : Nat → Bool} {held : Bool} {fuel : Nat} {v : Value} {x : DataW H × List MemPlace}
    (h : DataW.trod enc Tryd.prog W 0 sp held fuel 22 [v] = some x) :
    ∃ a0 len cap, v = .slice a0 len cap ∧ len ≤ cap ∧ len ≤ maxLen ∧ BytesAt W a0 len := by
  rcases open_ints Tryd.underlying22 Tryd.underlying5 cells_u8 h with ⟨hc, _⟩ | ⟨a, len, cap, zs, hc, _, hl, hm, hz, _, hcell, hwf⟩
  · simp at hc
    subst hc
    exact ⟨none, 0, 0, rfl, Nat.le_refl _, Nat.zero_le _, fun h => absurd h (by omega)⟩
  · simp at hc
    subst hc
    have hlm : len ≤ zs.length := by rw [hz]; split <;> omega
    refine ⟨some a, len, cap, rfl, hl, by omega, fun h0 => ?_⟩
    have hc0 := hcell 0 (by omega)
    have hs := spot_none hc0
    have hb := block_lt hc0
    obtain ⟨b, off, spot⟩ := a
    have hspot : spot = none := by simpa [Addr.add] using hs
    subst hspot
    refine ⟨b, off, rfl, by simpa [Addr.add] using hb, fun i hi => ?_⟩
    have hci := hcell i (by omega)
    have e : (Addr.add ⟨b, off, none⟩ i) = ⟨b, off + i, none⟩ := by
      unfold Addr.add
      split
      · rename_i h
        subst h
        rfl
      · rfl
    rw [e] at hci
    have hin : zs.getD i 0 ∈ zs := by
      rw [List.getD, List.getElem?_eq_getElem (show i < zs.length by omega)]
      exact List.getElem_mem _
    have hw := hwf _ hin
    simp only [Lit.wf, Bool.and_eq_true, decide_eq_true_eq] at hw
    exact ⟨_, hci, hw.1, hw.2⟩

set_option maxRecDepth 100000 in
theorem contract (H : Type) (enc : TypeId × Value → H) (W : World) (base : Nat) (args : Array Value) (ds gs : List (DataW H)) (before : List MemPlace)
    (hval0 : ∀ (j : Nat) t v, Tryd.f3.params[j]? = some t → args[j]? = some v → Value.okWide Tryd.prog W .any base t v)
    (hW : DataW.Whole enc Tryd.prog Tryd.f3.params.toList Rows.fnCodeLinesSpec.vars false W args.toList ds gs before) (hL : laidMetH Tryd.prog Rows.fnCodeLinesRow.laid W) :
    Calls Tryd.prog 3 args W fun e W' => ∃ v, e = .returned v ∧ Rows.fnCodeLinesSpec.post enc Tryd.prog Tryd.f3 false true false false W args v W' := by
  have hval : ∀ (j : Nat) t v, Tryd.f3.params[j]? = some t → args[j]? = some v → Value.okWide Tryd.prog W .any base t v := hval0
  have hW' := hW
  obtain ⟨p, q, hA0, hV0, rfl, hfz, hnd⟩ := hW
  have hA : DataW.TrodAll enc Tryd.prog W 0 (fun _ => true) true Tryd.f3.params.toList args.toList ds p := hA0
  have hV : DataW.TrodVars enc Tryd.prog W (fun _ => true) ["loop.example/handrail/impl.insWords"] gs q := hV0
  rw [Tryd.params3] at hA hval
  obtain ⟨v0, vs0, d0, ds0, p0, q0, hargs, rfl, rfl, h0, r0⟩ := trodAll_cons hA
  obtain ⟨rfl, rfl, rfl⟩ := trodAll_nil r0
  obtain rfl : args = #[v0] := by cases args; simp_all
  have hLa := of_laid hL
  obtain ⟨g, t, cs, fuel, d, p', rfl, hg, ht, hvar, hd, rfl⟩ := trodVars_one hV
  obtain rfl := Option.some.inj (gWords.symm.trans hg)
  obtain rfl := Option.some.inj (tWords.symm.trans ht)
  obtain rfl : cs = wordsArr := Option.some.inj (hvar.symm.trans hLa.words)
  obtain ⟨rfl, rfl⟩ := DataW.Trod.unique (v := .agg wordsArr) ⟨fuel, hd⟩ ⟨3, reads_words enc W _⟩
  clear hA0 hV0 hval0
  have hlt : ∀ y ∈ p0, y.block < W.heap.size := fun y hy => hW'.lt y (by simp [hy])
  have h0k := h0
  obtain ⟨fuel0, hf⟩ := h0
  obtain ⟨a1, len1, cap1, rfl⟩ := okWide_slice Tryd.underlying22 (hval 0 22 v0 rfl rfl)
  obtain ⟨a0, len, cap, hv, hl, -, hB⟩ := open_bytes (by simpa [Value.cells] using hf)
  cases hv
  refine (lines_walk _ _ _ W hl hB hLa).mono fun e W' ⟨he, hgr⟩ => ?_
  subst he
  have hvar' := (hLa.stays hgr).words
  refine ⟨_, rfl, _, _, _, [], p0, MemPlace.row ⟨0, 0, none⟩ wordsArr.size ++ [] ++ [], hW', ?_, ?_, ?_, hgr.frame _, fun h => by cases h⟩
  · exact trodAll_cons_mk (shut_bool Tryd.underlying4 _) trodAll_mk0
  · exact trodAll_mk1 (Below.trod laidOut (by kernel_rfl) (of_decide_eq_true (by kernel_rfl)) h0k hgr hlt)
  · exact ⟨0, 41, wordsArr, 3, [], [], gWords, tWords, hvar', reads_words enc W' _, rfl, rfl⟩

theorem laid_met (os : Os) : laidMet Tryd.prog Rows.fnCodeLinesRow.laid ((World.doorLaid Tryd.prog 400 os).forCall (fun _ _ => 0) ⟨#[], #[.slice none 0 0], []⟩).memory :=
  laidMet_of_run' 8 (by kernel_rfl) (by kernel_rfl)
theorem reads (os : Os) {H : Type} (enc : TypeId × Value → H) : ∃ places, DataW.whole enc Tryd.prog ((World.doorLaid Tryd.prog 400 os).forCall (fun _ _ => 0) ⟨#[], #[.slice none 0 0], []⟩).memory Tryd.f3.params.toList Rows.fnCodeLinesSpec.vars false #[Value.slice none 0 0].toList 8 = some ([.nil], [Rows.laid_loop_example_handrail_impl_insWords], places) :=
  ⟨MemPlace.row ⟨0, 0, none⟩ 26, by kernel_rfl⟩

set_option maxRecDepth 100000 in
theorem lifted (os : Os) (started : os.Started) (H : Type) (enc : TypeId × Value → H) (F : Stop.Interp) :
    ReturnsInHanded {} Tryd.checked os 3 .any ((OpenSpec.ofChange Rows.fnCodeLinesSpec).preRow enc Tryd.prog Tryd.f3 Rows.fnCodeLinesRow.domain false Rows.fnCodeLinesRow.laid) (((OpenSpec.ofChange Rows.fnCodeLinesSpec).at F).post enc Tryd.prog Tryd.f3 false true false false) := by
  obtain ⟨places, hx⟩ := reads os enc
  refine returnsInHanded_of_row (C := Tryd.checked) (s := OpenSpec.ofChange Rows.fnCodeLinesSpec) own started (by kernel_rfl) Tryd.func3
    (witness_row_at (enc := enc) (C := Tryd.checked) false (World.doorLaid Tryd.prog 400 os) #[.slice none 0 0] rfl (by kernel_rfl) (by kernel_rfl) (by kernel_rfl)
      (OpenSpec.preRow_of_cond 8 hx (by kernel_rfl) (fun k hk => by cases hk) (by kernel_rfl) (laid_met os))) ?_
  intro W base args ds gs before hval hW _ _ _ hL _ _
  exact contract H enc W base args ds gs before hval hW hL

theorem said : Rows.FnCodeLinesSaid :=
  OpenClaim.holds_of_cond 3 Tryd.f3 rfl rfl rfl rfl rfl rfl rfl ⟨rfl, rfl, rfl, rfl, rfl⟩ rfl rfl rfl rfl rfl (by kernel_rfl) Tryd.func3 (by kernel_rfl)
    (of_decide_eq_true (by kernel_rfl)) (by unfold Func.isWrapper; first | (rw [if_pos (by decide +kernel)]; kernel_rfl) | (rw [if_neg (by decide +kernel)]; exact ⟨rfl, rfl⟩))
    (fun os started H enc _ F => by rw [OpenClaim.pre_eq_preRow]; exact lifted os started H enc F)

theorem plain (f : FuncId) (fn : Func) (hf : Tryd.pinned.checked.prog.funcNamed "loop.example/handrail/laws.FnCodeLines" = some f) (hfn : Tryd.pinned.checked.prog.funcs[f]? = some fn) :
    false = Tryd.pinned.checked.prog.looks [] ∧ ∀ (j : Nat) t, fn.params[j]? = some t → Tryd.pinned.checked.prog.wantsStandIn t = false := by
  obtain rfl : f = 3 := Option.some.inj ((show Tryd.prog.funcNamed "loop.example/handrail/laws.FnCodeLines" = some 3 by kernel_rfl).symm.trans hf) |>.symm
  obtain rfl : fn = Tryd.f3 := (Option.some.inj (Tryd.func3.symm.trans hfn)).symm
  refine ⟨by kernel_rfl, fun j t ht => ?_⟩
  rw [Tryd.params3] at ht
  obtain rfl : t = 22 := by simpa using Array.mem_of_getElem? ht
  exact (show Tryd.prog.wantsStandIn 22 = false by kernel_rfl)

theorem proved : Rows.FnCodeLinesCardSaid :=
  Claim7.holds_tied_plain_at .later [] _ _ _ _ said (fun _ h => by cases h) (by kernel_rfl) (fun _ h => by cases h) fnCodeLines_row_tie rfl ⟨rfl, rfl⟩ (by kernel_rfl) rfl plain (by kernel_rfl)
#print axioms proved
end Go.Proofs.YtegjdgiegnofhaaDoor.fnCodeLines
