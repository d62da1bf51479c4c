/- The reader of drawn numbers: opened over bytes, and drawn from. -/
import Derived.Test.YtfmeldjkofoelaaGreatDoorRows
import Derived.Test.YtfmeldjkofoelaaGreatDoorPickWalks
import Derived.WalkKit
import Derived.ProofKit
import Derived.OwnWalk
import Derived.Deep.RegionHeld
import Derived.Test.YtfmeldjkofoelaaGreatDoorFreeM
import Derived.Test.YtfmeldjkofoelaaGreatDoorGenQMU
import Derived.Test.YtfmeldjkofoelaaGreatDoorGenRMU
import Derived.LaidMore
import Derived.OpenShut
import Derived.Lib.LaidTab
import Derived.Test.YtfmeldjkofoelaaGreatDoorCards
import Derived.Test.YtfmeldjkofoelaaGreatDoorTie
import Derived.Deep.DeepHandedRow
import Derived.JoinedCond
import Derived.ChangeVars
namespace Go.Proofs.YtfmeldjkofoelaaGreatDoor
open Go.RowKit

/-- A slice of bytes in a world. -/
def BytesAt (w : World) (a0 : Option Addr) (len : Nat) : Prop :=
  0 < len → ∃ b off, a0 = some ⟨b, off, none⟩ ∧ b < w.heap.size ∧ ∀ i, i < len → ∃ z, w.cell? ⟨b, off + i, none⟩ = some (.int .u8 z) ∧ 0 ≤ z ∧ z ≤ 255

set_option maxRecDepth 100000 in
theorem open_calls (a0 : Option Addr) (len cap : Nat) (w : World) (hlen : len ≤ 1000000000) (hb : len ≤ cap) :
    Calls Tryz.prog 10 #[.slice a0 len cap] w fun e w' => e = .returned (.pointer (some ⟨w.heap.size, 0, none⟩)) ∧
      ∃ n : Nat, n ≤ len ∧ w' = w.alloc (.cells #[.slice a0 n cap, .int .i64 0] 53) := by
  by_cases h : (2000 : Int) < (len : Int)
  · go_enter Tryz.func10, Tryz.ntmps10
    go_wp2
    go_ret
    exact ⟨rfl, 2000, by omega, rfl⟩
  · go_enter Tryz.func10, Tryz.ntmps10
    go_wp2
    go_ret
    exact ⟨rfl, len, Nat.le_refl _, rfl⟩

/-- The reader of bytes in block 'B', 'q' numbers drawn. -/
structure RdSt (w0 : World) (B : Nat) (a0 : Option Addr) (n cap : Nat) (q : Nat) (w' : World) : Prop where
  cell0 : w'.cell? ⟨B, 0, none⟩ = some (.slice a0 n cap)
  cell1 : w'.cell? ⟨B, 1, none⟩ = some (.int .i64 q)
  frozen : w'.frozen? ⟨B, 1, none⟩ = false
  bytes : 0 < n → ∃ b off, a0 = some ⟨b, off, none⟩ ∧ b ≠ B ∧ ∀ i, i < n → ∃ z, w'.cell? ⟨b, off + i, none⟩ = some (.int .u8 z) ∧ 0 ≤ z ∧ z ≤ 255
  low : w0.heap.size ≤ B
  below : Below w0.heap.size w0 w'

theorem RdSt.drew {w0 : World} {B : Nat} {a0 : Option Addr} {n cap : Nat} {q : Nat} {w' : World} (h : RdSt w0 B a0 n cap q w') : RdSt w0 B a0 n cap q w'.drew :=
  ⟨h.cell0, h.cell1, h.frozen, h.bytes, h.low, h.below.drew⟩

theorem rd_pick {w0 : World} {B : Nat} {a0 : Option Addr} {n cap : Nat} {q : Nat} {w' : World} (h : RdSt w0 B a0 n cap q w') (hq : q ≤ 1000) (k : Nat) (hk : 0 < k) :
    Calls Tryz.prog 12 #[.pointer (some ⟨B, 0, none⟩), .int .i64 k] w' fun e w2 => ∃ m : Nat, e = .returned (.int .i64 m) ∧ m < k ∧ RdSt w0 B a0 n cap (q + 1) w2 := by
  refine (pick_calls B a0 n cap q k w' h.cell0 h.cell1 h.frozen (by omega) h.bytes).mono ?_
  rintro e w2 ⟨⟨r, rfl, hr0, hr1⟩, hP⟩
  have hr1 := hr1 (by omega)
  refine ⟨r.toNat, by rw [Int.toNat_of_nonneg hr0], by omega, ?_⟩
  refine ⟨hP.cell0.trans h.cell0, by rw [hP.cell1]; push_cast; rfl, hP.frozen.trans h.frozen, ?_, h.low, h.below.trans (hP.below _ h.low)⟩
  intro hn
  obtain ⟨b, off, ea, hb, hz⟩ := h.bytes hn
  refine ⟨b, off, ea, hb, fun i hi => ?_⟩
  rw [hP.other _ hb]
  exact hz i hi

theorem rd_start (w : World) (a0 : Option Addr) (len cap n : Nat) (hn : n ≤ len) (hB : BytesAt w a0 len) :
    RdSt w w.heap.size a0 n cap 0 (w.alloc (.cells #[.slice a0 n cap, .int .i64 0] 53)) where
  cell0 := by simp [go_sem]
  cell1 := by simp [go_sem]
  frozen := by simp [go_sem]
  bytes := by
    intro h
    obtain ⟨b, off, ea, hb, hz⟩ := hB (by omega)
    refine ⟨b, off, ea, by omega, fun i hi => ?_⟩
    obtain ⟨z, hz, h0, h1⟩ := hz i (by omega)
    refine ⟨z, ?_, h0, h1⟩
    rw [← hz]
    exact (((Below.refl w.heap.size w).alloc (Nat.le_refl _) _).cell (p := ⟨b, off + i, none⟩) hb)
  low := Nat.le_refl _
  below := (Below.refl _ _).alloc (Nat.le_refl _) _

theorem rd_open (a0 : Option Addr) (len cap : Nat) (w : World) (hlen : len ≤ 1000000000) (hb : len ≤ cap) (hB : BytesAt w a0 len) :
    Calls Tryz.prog 10 #[.slice a0 len cap] w fun e w' => e = .returned (.pointer (some ⟨w.heap.size, 0, none⟩)) ∧
      ∃ n : Nat, n ≤ len ∧ RdSt w w.heap.size a0 n cap 0 w' := by
  refine (open_calls a0 len cap w hlen hb).mono ?_
  rintro e w' ⟨rfl, n, hn, rfl⟩
  exact ⟨rfl, n, hn, rd_start w a0 len cap n hn hB⟩

theorem BytesAt.below {w w' : World} {a0 : Option Addr} {len : Nat} (h : BytesAt w a0 len) (hb : Below w.heap.size w w') : BytesAt w' a0 len := by
  intro h0
  obtain ⟨b, off, ea, hlt, hz⟩ := h h0
  refine ⟨b, off, ea, Nat.lt_of_lt_of_le hlt hb.size, fun i hi => ?_⟩
  obtain ⟨z, hz, h0, h1⟩ := hz i hi
  exact ⟨z, by rw [← hz]; exact hb.cell (p := ⟨b, off + i, none⟩) hlt, h0, h1⟩
end Go.Proofs.YtfmeldjkofoelaaGreatDoor

/- The draw of a tree, or of a part of one. -/
namespace Go.Proofs.YtfmeldjkofoelaaGreatDoor
open Go.RowKit Go.Deep

theorem treeW_of {d : Dr} {W : World} {v : Value} {ns : List Nd} (h : NodesD d W v ns) : TreeW W v ns := by
  have hsl := h.slice
  rcases h.1 with ⟨h1, h2⟩ | ⟨b, off, cap, h1, h2, rfl, h4, -⟩
  · exact Or.inl ⟨h1, List.eq_nil_of_length_eq_zero h2⟩
  · refine Or.inr ⟨b, 0, cap, h1, h4.1, ?_⟩
    obtain ⟨a, c, e, h5⟩ := hsl
    rw [h1] at e
    cases e
    rcases h5 with rfl | ⟨b', off', e', -, hn⟩
    · exact fun k hk => by simp at hk
    · cases e'
      exact hn

theorem spoilF : SpoilC := fun _ _ _ _ _ _ _ _ _ hG h hp hE h4 hn hT => spoil_calls hG h hp hE h4 hn hT

def DrawnF (W : World) (e : Ending) (W' : World) : Prop :=
  ∃ v ns, e = .returned v ∧ TreeW W' v ns ∧ Short ns ∧ ns.length ≤ 1000 ∧ Below W.heap.size W W'

theorem short_part {ns : List Nd} {k m : Nat} (h : Short ns) : Short ((ns.drop k).take m) := fun n hn => h n (List.mem_of_mem_drop (List.mem_of_mem_take hn))

set_option maxHeartbeats 4000000 in
set_option maxRecDepth 100000 in
theorem drawFree_calls (a0 : Option Addr) (len cap : Nat) (W : World) (hl : len ≤ 1048576) (hc : len ≤ cap) (hB : BytesAt W a0 len) : Calls Tryz.prog 4 #[.slice a0 len cap] W (DrawnF W) := by
  have HO := hid (open_calls a0 len cap W (by omega) hc)
  have HB := hid hB
  clear hB
  go_enter Tryz.func4, Tryz.ntmps4
  go_wp2_with fail
  refine HO.out.mono ?_
  rintro e W1 ⟨rfl, m, hm, rfl⟩
  have HR : Hid (Rdr ⟨W.heap.size, W.heap.size, a0, m, cap⟩ (W.alloc (.cells #[.slice a0 m cap, .int .i64 0] 53)) 0) := by
    have hh := (MapKept.heap_alloc W (.cells #[.slice a0 m cap, .int .i64 0] 53)).1
    refine ⟨hh, fun h0 => ?_⟩
    obtain ⟨b, off, ea, hb, hz⟩ := HB.out (show 0 < len by have : 0 < m := h0; omega)
    refine ⟨b, off, ea, ⟨by simp; omega, by show b ≠ W.heap.size; omega, by show b ≠ W.heap.size; omega⟩, fun i hi => ?_⟩
    obtain ⟨z, hz, h1⟩ := hz i (by have : i < m := hi; omega)
    exact ⟨z, (((Below.refl W.heap.size W).alloc (Nat.le_refl _) _).cell (p := ⟨b, off + i, none⟩) hb).trans hz, h1⟩
  have HA := hid (any_calls spoilF (d := ⟨W.heap.size, W.heap.size, a0, m, cap⟩) rfl HR.out (by omega))
  have HW : Hid (Below W.heap.size W (W.alloc (.cells #[.slice a0 m cap, .int .i64 0] 53))) := (Below.refl _ _).alloc (Nat.le_refl _) _
  clear HO hm
  go_wp2_with fail
  refine HA.out.mono ?_
  rintro e W2 ⟨ad, n, cp, v, ns, q, rfl, hN, hlen, hr2, hq, hg⟩
  obtain ⟨adv, cpv, rfl⟩ := hN.is
  have HN := hid hN
  have HL := hid hlen
  have HR2 := hid hr2
  have HG := hid (HW.out.trans ((hg.below (n := W.heap.size) (by simp) (Nat.le_refl _) (Nat.le_refl _))))
  have hfd : (Instr.field 36 (.agg #[.slice ad n cp, .slice adv ns.length cpv]) 1).run Tryz.prog W2 = .ok (.slice adv ns.length cpv) W2 := by rfl
  clear hN hlen hg HA hr2 HR HW
  go_wp2_with fail
  refine (rdr_pick HR2.out (by omega) 2 (by decide)).mono ?_
  rintro e W3 ⟨m2, rfl, hm20, hm21, hr3, hg3, -, -⟩
  have HN3 := hid (HN.out.grew hg3)
  have HR3 := hid hr3
  have HG3 := hid (HG.out.trans ((hg3.below (n := W.heap.size) HG.out.size (Nat.le_refl _) (Nat.le_refl _))))
  clear hr3 hg3 HN HG HR2 hfd
  by_cases h2 : m2 = 0
  · subst h2
    obtain ⟨R, hSA, -⟩ := answers ns
    have HSA := hid hSA
    have HT := hid (specOk_at (treeW_of HN3.out) (by have := HL.out; omega) hSA)
    clear hSA hm20 hm21
    go_wp2_with fail
    refine HT.out.mono ?_
    rintro e W4 ⟨rfl, hb4⟩
    have HN4 := hid (HN3.out.grew (Grew.of_below hb4))
    have HR4 := hid (HR3.out.below hb4)
    have HG4 := hid (HG3.out.trans (hb4.mono HG3.out.size))
    clear hb4 HN3 HR3 HG3 HT
    cases R with
    | false =>
      go_wp2_with fail
      go_ret
      exact ⟨_, ns, rfl, treeW_of HN4.out, HN4.out.short, HL.out, HG4.out⟩
    | true =>
      have hTr : ∃ (n : Nd) (k : Fo), ns = n :: k.flat ∧ n.kids = k.count ∧ k.wf ∧ ns.length ≤ 300 := by
        rcases HSA.out with ⟨-, h⟩ | ⟨-, -, -, h⟩ | ⟨h1, h2, n, k, e1, e2, e3, -⟩
        · cases h
        · cases h
        · exact ⟨n, k, e1, e2, e3, h2⟩
      obtain ⟨tn, tk, e1, e2, e3, e4⟩ := hTr
      have h1 : 1 ≤ ns.length := by rw [e1]; simp
      have HTr := hid (And.intro e1 (And.intro e2 e3))
      obtain ⟨L, hLn⟩ : ∃ L, ns.length = L := ⟨_, rfl⟩
      have HLn := hid hLn
      rw [hLn]
      have hL1 : (0 : Int) < (L : Int) := by omega
      clear e1 e2 e3 e4 h1 hLn
      go_wp2_with fail
      refine (rdr_pick HR4.out (by omega) (L : Int) hL1).mono ?_
      rintro e W5 ⟨mk, rfl, hmk0, hmk1, hr5, hg5, -, -⟩
      have HN5 := hid (HN4.out.grew hg5)
      have HG5 := hid (HG4.out.trans ((hg5.below (n := W.heap.size) HG4.out.size (Nat.le_refl _) (Nat.le_refl _))))
      obtain ⟨k, rfl⟩ : ∃ k : Nat, mk = (k : Int) := ⟨mk.toNat, by omega⟩
      obtain ⟨ed, he, hke, hel⟩ := end_in HTr.out.1 HTr.out.2.1 HTr.out.2.2 (p := k) (by rw [HLn.out]; omega)
      have hnl := HN5.out.1
      rw [HLn.out] at hnl
      obtain ⟨-, hcl, b, off, rfl, hfr, -⟩ := hnl.at (by omega)
      have hW5 : ∃ b', (some ⟨b, off, none⟩ : Option Addr) = some ⟨b', 0, none⟩ ∧ b' < W5.heap.size ∧ NodesAt W5 b' 0 ns := by
        rcases treeW_of HN5.out with ⟨h, -⟩ | ⟨b', off', cap', h, hb', hn'⟩
        · cases h
        · rcases HN5.out.1 with ⟨h, -⟩ | ⟨b2, off2, cap2, h', -, h0, -⟩
          · cases h
          · cases h
            cases h'
            subst h0
            exact ⟨_, rfl, hb', hn'⟩
      obtain ⟨b', eb, hbl, hnod⟩ := hW5
      cases eb
      have HE := hid (specEnd_calls b 0 cpv ns (k : Int) W5 hnod (by have := HL.out; omega))
      rw [he, HLn.out] at HE
      have HNo := hid (And.intro hbl hnod)
      rw [HLn.out] at hel
      have hk0 : (0 : Int) ≤ (k : Int) := by omega
      have hke' : (k : Int) ≤ (ed : Int) := by omega
      have hec : (ed : Int) ≤ (cpv : Int) := by omega
      have hkc : (k : Int) < (cpv : Int) := by omega
      have HK := hid (And.intro hke hel)
      clear hr5 hg5 he hke hel hcl hfr hbl hnod hnl hmk0 HN4 HR4 HG4
      go_wp2_with fail
      refine HE.out.mono ?_
      rintro e W6 ⟨rfl, rfl⟩
      go_wp2_with fail
      go_ret
      refine ⟨_, (ns.drop k).take (ed - k), rfl, Or.inr ⟨b, k * 6, cpv - k, ?_, HNo.out.1, nodes_part (r := (ns.drop k).drop (ed - k)) HNo.out.2 (by rw [List.take_append_drop])⟩, short_part HN5.out.short, ?_, HG5.out⟩
      · have h1 := HLn.out
        have h2 := HK.out
        rw [show ((ns.drop k).take (ed - k)).length = ed - k by rw [List.length_take, List.length_drop]; omega]
        rfl
      · have h1 := HL.out
        rw [List.length_take, List.length_drop]
        omega
  · have z2 : (m2 == 0) = false := by simp [h2]
    go_wp2_with fail
    go_ret
    exact ⟨_, ns, rfl, treeW_of HN3.out, HN3.out.short, HL.out, HG3.out⟩
end Go.Proofs.YtfmeldjkofoelaaGreatDoor

/- Two lists of texts that hold the same are one. -/
namespace Go.Proofs.YtfmeldjkofoelaaGreatDoor
open Go.RowKit Go.Deep

set_option maxRecDepth 100000 in
theorem texts_none (ad ad' : Option Addr) (cap cap' : Nat) (w : World) :
    Calls Tryz.prog 6 #[.slice ad 0 cap, .slice ad' 0 cap'] w fun e w' => e = .returned (.bool true) ∧ Below w.heap.size w w' := by
  go_enter Tryz.func6, Tryz.ntmps6
  go_wp2_with fail
  refine wp_loop_rounds 1 ?_
  rw [rounds_succ]
  go_wp2_with fail
  go_ret
  exact ⟨rfl, Below.refl _ _⟩

set_option maxHeartbeats 1000000 in
set_option maxRecDepth 100000 in
theorem texts_rows (b off b' off' len cap cap' : Nat) (bs : List ByteArray) (w : World) (hn : ∀ k, k < len → w.cell? ⟨b, off + k, none⟩ = some (.string (bs.getD k ⟨#[]⟩))) (hn' : ∀ k, k < len → w.cell? ⟨b', off' + k, none⟩ = some (.string (bs.getD k ⟨#[]⟩))) (hm : len ≤ 1000) :
    Calls Tryz.prog 6 #[.slice (some ⟨b, off, none⟩) len cap, .slice (some ⟨b', off', none⟩) len cap'] w fun e w' => e = .returned (.bool true) ∧ Below w.heap.size w w' := by
  have HM : Hid (len ≤ 1000) := hm
  have HN := hid (And.intro hn hn')
  clear hm hn hn'
  go_enter Tryz.func6, Tryz.ntmps6
  go_wp2_with fail
  go_loopw [5] (fun i wr => ∃ k : Nat, k ≤ len ∧ i = .int .i64 k ∧ Below w.heap.size w wr ∧ ∀ a, wr.cell? a = w.cell? a) (fun i _ => len - (intOf i).toNat)
  case atStart => exact ⟨0, Nat.zero_le _, rfl, Below.refl _ _, fun _ => rfl⟩
  case round =>
    obtain ⟨k, hk, rfl, hnx, hce⟩ := hrel
    by_cases hkl : (k : Int) < (len : Int)
    · have c0 := (hce _).trans (HN.out.1 k (by omega))
      have d0 := (hce _).trans (HN.out.2 k (by omega))
      generalize bs.getD k ⟨#[]⟩ = n at c0 d0
      have hi0 : (0 : Int) ≤ (k : Int) := by omega
      have Hce : Hid (∀ a, wr.cell? a = w.cell? a) := hce
      have hs : len - (intOf (.int .i64 ((k + 1 : Nat) : Int))).toNat < len - (intOf (.int .i64 (k : Int))).toNat := by simp only [intOf, Int.toNat_natCast]; omega
      clear hce
      go_wp2_with fail
      go_region
      all_goals
        go_wp2_with fail
        try rw [wrap_succ (by have := HM.out; omega)]
        exact ⟨⟨k + 1, by omega, rfl, hnx.drew, Hce.out⟩, hs⟩
    · go_wp2_with fail
      go_ret
      exact ⟨rfl, hnx⟩

theorem texts_any {v v' : Value} {bs : List ByteArray} (w : World) (hm : bs.length ≤ 1000) (h : NamesV w v bs) (h' : NamesV w v' bs) :
    Calls Tryz.prog 6 #[v, v'] w fun e w' => e = .returned (.bool true) ∧ Below w.heap.size w w' := by
  by_cases h0 : bs.length = 0
  · obtain ⟨ad, cap, rfl⟩ := h.slice
    obtain ⟨ad', cap', rfl⟩ := h'.slice
    rw [h0]
    exact texts_none ad ad' cap cap' w
  · rcases h with ⟨rfl, rfl⟩ | ⟨g, o, c, rfl, hg, hc⟩
    · simp at h0
    rcases h' with ⟨rfl, rfl⟩ | ⟨g', o', c', rfl, hg', hc'⟩
    · simp at h0
    exact texts_rows g o g' o' _ c c' bs w hc hc' hm
end Go.Proofs.YtfmeldjkofoelaaGreatDoor

/- The law of the names that stand free behind a let, walked: whatever tree is drawn. -/
namespace Go.Proofs.YtfmeldjkofoelaaGreatDoor
open Go.RowKit Go.Deep

def x0 : ByteArray := ⟨#[120, 48]⟩

theorem short_let {ns : List Nd} (h : Short ns) : Short (letN x0 :: unitN :: ns) := fun n hn => by
  rw [List.mem_cons, List.mem_cons] at hn
  rcases hn with rfl | rfl | hn
  · unfold letN x0 maxLen
    decide
  · unfold unitN maxLen
    decide
  · exact h n hn

/-- The tree behind the let and the unit, put together. -/
theorem app_tree {W : World} {B : Nat} {v tv : Value} {l m : List Nd} (hown : W.ownsRow B 29 6 v l.length (rowZ Nd.cell 6 l)) (ht : TreeW W tv m) (hm : l.length + m.length ≤ 1000000) (hB : B ≤ W.heap.size) (ty : TypeId) :
    ∃ v' W', (Builtin.append_ #[23, 23] ty #[v, tv]).run Tryz.prog W = .ok v' W' ∧ W'.ownsRow B 29 6 v' (l ++ m).length (rowZ Nd.cell 6 (l ++ m)) ∧ W.grownBy W' v.ownBlock := by
  rcases ht with ⟨rfl, rfl⟩ | ⟨b, off, cap, rfl, -, hn⟩
  · obtain ⟨i0, hinf, hz0, hz1, hz2⟩ := info_parts info_node
    refine ⟨v, W, run_append_owned_none W B 23 ty 29 i0 6 Tryz.underlying23 hinf v _ _ hown, ?_, ⟨rfl, rfl, rfl, Nat.le_refl _, fun _ _ _ => rfl⟩⟩
    rw [List.append_nil]
    exact hown
  · exact app_off hown hn hm hB ty

theorem two_row (W : World) : (W.alloc (.cells #[.int .i64 8, .int .i64 0, .string x0, .string ⟨#[]⟩, .string ⟨#[]⟩, .int .i64 2, .int .i64 3, .int .i64 0, .string ⟨#[]⟩, .string ⟨#[]⟩, .string ⟨#[]⟩, .int .i64 0] 29)).ownsRow W.heap.size 29 6 (.slice (some ⟨W.heap.size, 0, none⟩) 2 2) [letN x0, unitN].length (rowZ Nd.cell 6 [letN x0, unitN]) :=
  ⟨rfl, Or.inr ⟨_, 2, _, rfl, Nat.le_refl _, (MapKept.heap_alloc W _).1, Nat.le_refl _, by unfold maxLen; decide, rfl, rfl⟩⟩

theorem treeW_own {W : World} {B : Nat} {v : Value} {ns : List Nd} (h : W.ownsRow B 29 6 v ns.length (rowZ Nd.cell 6 ns)) : TreeW W v ns := by
  have h' := h
  obtain ⟨-, ⟨rfl, h0⟩ | ⟨g, cap, cur, rfl, hB, hc, hr⟩⟩ := h
  · exact Or.inl ⟨rfl, List.eq_nil_of_length_eq_zero h0⟩
  · by_cases h0 : 0 < ns.length
    · exact Or.inr ⟨g, 0, cap, rfl, heap_lt hc, nodes_at h' h0⟩
    · have e : ns = [] := List.eq_nil_of_length_eq_zero (by omega)
      subst e
      exact Or.inr ⟨g, 0, cap, rfl, heap_lt hc, fun k hk => by simp at hk⟩

theorem bys_app (a b : List Tx) : bys (a ++ b) = bys a ++ bys b := by unfold bys; rw [List.map_append]

/-- What is left, so far. -/
def leftZ (l : List Tx) (i : Nat) : List Tx := (l.take i).filter (fun y => decide (y ≠ x0.data.toList))
theorem leftZ_len (l : List Tx) (i : Nat) : (leftZ l i).length ≤ l.length := Nat.le_trans (List.length_filter_le _ _) (by rw [List.length_take]; omega)
theorem leftZ_next {l : List Tx} {i : Nat} (h : i < l.length) : leftZ l (i + 1) = leftZ l i ++ (if l.getD i [] = x0.data.toList then [] else [l.getD i []]) := by
  unfold leftZ
  rw [List.take_add_one, List.filter_append]
  congr 1
  simp [List.getD, h]
  split <;> simp_all
end Go.Proofs.YtfmeldjkofoelaaGreatDoor

/- The law of the names that stand free behind a let returns true at every bytes. -/
namespace Go.Proofs.YtfmeldjkofoelaaGreatDoor
open Go.RowKit Go.Deep

set_option maxHeartbeats 8000000 in
set_option maxRecDepth 100000 in
theorem free_walk (a0 : Option Addr) (len cap : Nat) (W : World) (hcap : len ≤ cap) (hB : BytesAt W a0 len) (hL : Laid W) :
    Calls Tryz.prog 3 #[.slice a0 len cap] W fun e W' => e = .returned (.bool true) ∧ Below W.heap.size W W' := by
  by_cases hl : (1048576 : Int) < (len : Int)
  · go_enter Tryz.func3, Tryz.ntmps3
    go_wp2_with fail
    go_ret
    exact ⟨rfl, Below.refl _ _⟩
  have HD := hid (drawFree_calls a0 len cap W (by omega) hcap hB)
  have HLa := hid hL
  have hl' : (len : Int) ≤ 1048576 := by omega
  clear hB hl hcap hL
  go_enter Tryz.func3, Tryz.ntmps3
  go_wp2_with fail
  refine HD.out.mono ?_
  rintro e W1 ⟨v, ns, rfl, hv, hs, hm, hb1⟩
  obtain ⟨ad, cp, rfl⟩ := hv.is
  obtain ⟨R, l, hT⟩ := told ns (by omega) hs
  obtain ⟨Ru, lu, hTu⟩ := told (letN x0 :: unitN :: ns) (by simp only [List.length_cons]; omega) (short_let hs)
  have HT := hid hT
  have HU := hid hTu
  have HS := hid (And.intro hs hm)
  have HV := hid hv
  have HB1 := hid hb1
  clear HD hs hm hb1 hl' hT hTu hv
  obtain ⟨nl, hnl⟩ : ∃ nl, ns.length = nl := ⟨_, rfl⟩
  rw [hnl] at HV ⊢
  clear hnl
  go_wp2_with fail
  refine (HT.out.impl W1 _ HV.out (HLa.out.stays HB1.out)).mono ?_
  rintro e W2 ⟨f, rfl, hf, hb2⟩
  obtain ⟨af, cf, rfl⟩ := hf.slice
  have HF := hid hf
  have HV2 := hid (HV.out.below hb2)
  have HB2 := hid (HB1.out.trans (hb2.mono HB1.out.size))
  clear hf hb2 HV HB1
  rw [bys_len] at HF ⊢
  go_wp2_with fail
  refine (HT.out.spec W2 _ HV2.out).mono ?_
  rintro e W3 ⟨g, rfl, hg, hb3⟩
  obtain ⟨ag, cg, rfl⟩ := hg.slice
  have HG := hid hg
  have HF3 := hid (HF.out.below hb3)
  have HV3 := hid (HV2.out.below hb3)
  have HB3 := hid (HB2.out.trans (hb3.mono HB2.out.size))
  clear hg hb3 HV2 HB2 HF
  go_wp2_with fail
  refine (texts_any W3 (by rw [bys_len]; exact HT.out.len) HF3.out HG.out).mono ?_
  rintro e W4 ⟨rfl, hb4⟩
  have HF4 := hid (HF3.out.below hb4)
  have HV4 := hid (HV3.out.below hb4)
  have HB4 := hid (HB3.out.trans (hb4.mono HB3.out.size))
  clear hb4 HV3 HB3 HF3 HG
  go_wp2_with (at_builtin; refine wpList_append_by rfl _ _ 23 rfl _ _ rfl rfl (fun ty => app_tree (two_row W4) (HV4.out.below ((Below.refl _ _).alloc (Nat.le_refl _) _)) (by have := HS.out.2; simp only [List.length_cons, List.length_nil]; omega) (by simp) ty) ?_; intro v5 W5 hv5)
  have HU5 := hid (treeW_own hv5.1)
  have BL : Hid (Below W4.heap.size W4 W5) := ((Below.refl W4.heap.size W4).alloc (Nat.le_refl _) _).grown hv5.2 (by simp) (fun k hk => by simp [Value.ownBlock] at hk; omega)
  have HB5 := hid (HB4.out.trans (BL.out.mono HB4.out.size))
  clear hv5
  have HV5 := hid (HV4.out.below BL.out)
  have HF5 := hid (HF4.out.below BL.out)
  clear HV4 HF4 HB4 BL
  obtain ⟨au, cu, rfl⟩ := HU5.out.is
  go_wp2_with fail
  refine (implOk_at HV5.out (by have := HS.out.2; omega) HS.out.1 HT.out.ians).mono ?_
  rintro e W6 ⟨rfl, hb6⟩
  have HV6 := hid (HV5.out.below hb6)
  have HU6 := hid (HU5.out.below hb6)
  have HF6 := hid (HF5.out.below hb6)
  have HB6 := hid (HB5.out.trans (hb6.mono HB5.out.size))
  clear hb6 HV5 HU5 HF5 HB5
  go_wp2_with fail
  refine (specOk_at HV6.out (by have := HS.out.2; omega) HT.out.sans).mono ?_
  rintro e W7 ⟨rfl, hb7⟩
  have HV7 := hid (HV6.out.below hb7)
  have HU7 := hid (HU6.out.below hb7)
  have HF7 := hid (HF6.out.below hb7)
  have HB7 := hid (HB6.out.trans (hb7.mono HB6.out.size))
  have hRR : (R != R) = false := by cases R <;> rfl
  clear hb7 HV6 HU6 HF6 HB6
  go_wp2_with fail
  refine (specOk_at HV7.out (by have := HS.out.2; omega) HT.out.sans).mono ?_
  rintro e W8 ⟨rfl, hb8⟩
  have HU8 := hid (HU7.out.below hb8)
  have HF8 := hid (HF7.out.below hb8)
  have HB8 := hid (HB7.out.trans (hb8.mono HB7.out.size))
  have hUU : (Ru == Ru) = true := by cases Ru <;> rfl
  have HLu : Hid ((letN x0 :: unitN :: ns).length ≤ 1048576) := by show _ ≤ _; have := HS.out.2; simp only [List.length_cons]; omega
  have HSu := hid (short_let HS.out.1)
  clear hb8 HV7 HU7 HF7 HB7 hRR
  cases R with
  | false =>
    go_wp2_with fail
    refine (implOk_at HU8.out HLu.out HSu.out HU.out.ians).mono ?_
    rintro e W9 ⟨rfl, hb9⟩
    have HU9 := hid (HU8.out.below hb9)
    have HB9 := hid (HB8.out.trans (hb9.mono HB8.out.size))
    clear hb9
    go_wp2_with fail
    refine (specOk_at HU9.out HLu.out HU.out.sans).mono ?_
    rintro e W10 ⟨rfl, hb10⟩
    have HB10 := hid (HB9.out.trans (hb10.mono HB9.out.size))
    clear hb10
    go_wp2_with fail
    go_ret
    exact ⟨rfl, HB10.out⟩
  | true =>
    go_wp2_with fail
    refine (specOk_at HU8.out HLu.out HU.out.sans).mono ?_
    rintro e W9 ⟨rfl, hb9⟩
    have HU9 := hid (HU8.out.below hb9)
    have HF9 := hid (HF8.out.below hb9)
    have HB9 := hid (HB8.out.trans (hb9.mono HB8.out.size))
    clear hb9 HU8 HF8 HB8
    cases Ru with
    | false =>
      go_wp2_with fail
      refine (implOk_at HU9.out HLu.out HSu.out HU.out.ians).mono ?_
      rintro e W10 ⟨rfl, hb10⟩
      have HU10 := hid (HU9.out.below hb10)
      have HB10 := hid (HB9.out.trans (hb10.mono HB9.out.size))
      clear hb10
      go_wp2_with fail
      refine (specOk_at HU10.out HLu.out HU.out.sans).mono ?_
      rintro e W11 ⟨rfl, hb11⟩
      have HB11 := hid (HB10.out.trans (hb11.mono HB10.out.size))
      clear hb11
      go_wp2_with fail
      go_ret
      exact ⟨rfl, HB11.out⟩
    | true =>
      have HLet := hid (told_let HT.out HU.out)
      obtain ⟨L, hLl⟩ : ∃ L, l.length = L := ⟨_, rfl⟩
      have HLl := hid (And.intro hLl HT.out.len)
      rw [hLl]
      rw [hLl] at HF9
      clear hLl hUU
      obtain ⟨i0, hinf, hz0, hz1, hz2⟩ := info_parts info_str
      go_wp2_with fail
      go_loopw [6, 7] (fun left i wr => ∃ (i' : Nat), i = .int .i64 i' ∧ i' ≤ L ∧ Hid (wr.ownsRow W9.heap.size 9 1 left (leftZ l i').length (strRow (bys (leftZ l i'))) ∧ Below W9.heap.size W9 wr)) (fun _ i _ => L - (intOf i).toNat)
      case atStart => exact ⟨0, rfl, Nat.zero_le _, World.ownsRow_nil _ _ _ _, Below.refl _ _⟩
      case round =>
        obtain ⟨i', rfl, hle, HO⟩ := hrel
        by_cases hi : (i' : Int) < (L : Int)
        · obtain ⟨-, g, o, rfl, hg, hc⟩ := HF9.out.cell (by omega : 0 < L)
          have hcell := (HO.out.2.cell (p := ⟨g, o + i', none⟩) hg).trans (hc i' (by omega))
          have hil : i' < l.length := by have := HLl.out.1; omega
          rw [bys_get l i' hil] at hcell
          have hnx := leftZ_next hil
          obtain ⟨y, hy⟩ : ∃ y, l.getD i' [] = y := ⟨_, rfl⟩
          rw [hy] at hcell hnx
          obtain ⟨yb, hyb⟩ : ∃ yb : ByteArray, (⟨y.toArray⟩ : ByteArray) = yb := ⟨_, rfl⟩
          rw [hyb] at hcell
          have HYb := hid hyb
          have hyl : yb.toList = y := by rw [← hyb]; simp
          have HNx := hid hnx
          have HYl := hid hyl
          have hi0 : (0 : Int) ≤ (i' : Int) := by omega
          have hstep : L - (intOf (.int .i64 ((i' + 1 : Nat) : Int))).toNat < L - (intOf (.int .i64 (i' : Int))).toNat := lt_step' hi
          have HLn : Hid ((leftZ l i').length ≤ 1000) := Nat.le_trans (leftZ_len l i') HLl.out.2
          clear hc hy hyb hil hyl hnx
          cases heq : (yb.toList == [120, 48]) with
          | true =>
            have HE : Hid (leftZ l (i' + 1) = leftZ l i') := by
              show _ = _
              rw [HNx.out, if_pos (by rw [← HYl.out]; exact eq_of_beq heq), List.append_nil]
            go_wp2_with fail
            try rw [wrap_succ (by have := HLl.out; omega)]
            exact ⟨⟨i' + 1, rfl, by omega, by rw [HE.out]; exact HO⟩, hstep⟩
          | false =>
            have HE : Hid (leftZ l (i' + 1) = leftZ l i' ++ [y]) := by
              show _ = _
              rw [HNx.out, if_neg (by rw [← HYl.out]; intro e; rw [e] at heq; exact absurd heq (by decide))]
            go_wp2_with (at_builtin; refine wpList_append_own_at _ rfl _ _ 25 rfl W9.heap.size 9 i0 (.string ⟨#[]⟩) 1 16 Tryz.underlying25 hinf hz0 hz1 hz2 rfl (by decide) _ _ _ rfl (HO.out.1.alloc _) ⟨wr.heap.size, 0, none⟩ 1 1 [.string yb] rfl rfl (cell_one_new _ _ rfl _ _) (fun x hx => by simp at hx; subst hx; rfl) (by have := HLn.out; unfold maxLen; omega) (by have := HLn.out; omega) (by have := HO.out.2.size; simp; omega) ?_; intro v5HOa w5HOa hown' hgrow hnil hat; have HOa := hid (add_step HYb.out HO.out hown' hgrow); clear hown' hgrow hnil hat)
            try rw [wrap_succ (by have := HLl.out; omega)]
            exact ⟨⟨i' + 1, rfl, by omega, by rw [HE.out]; exact HOa⟩, hstep⟩
        · have e : i' = L := by omega
          subst e
          have HE : Hid (leftZ l i' = lu) := by
            show _ = _
            unfold leftZ
            rw [List.take_of_length_le (by have := HLl.out.1; omega), HLet.out]
          have HUr := hid (HU9.out.below HO.out.2)
          have HBr := hid (HB9.out.trans (HO.out.2.mono HB9.out.size))
          have HNl := hid (names_owns HO.out.1).1
          rw [HE.out] at HNl
          have hlt : ¬ ((i' : Int) < (i' : Int)) := by omega
          clear hi hle HO HLet HLl
          go_wp2_with fail
          refine (HU.out.impl wr _ HUr.out (HLa.out.stays HBr.out)).mono ?_
          rintro e W11 ⟨fu, rfl, hfu, hb11⟩
          have HFu := hid hfu
          have HN11 := hid (HNl.out.below hb11)
          have HB11 := hid (HBr.out.trans (hb11.mono HBr.out.size))
          clear hfu hb11
          go_wp2_with fail
          refine (texts_any W11 (by rw [bys_len]; exact HU.out.len) HFu.out HN11.out).mono ?_
          rintro e W12 ⟨rfl, hb12⟩
          have HB12 := hid (HB11.out.trans (hb12.mono HB11.out.size))
          clear hb12
          go_wp2_with fail
          go_ret
          exact ⟨rfl, HB12.out⟩
end Go.Proofs.YtfmeldjkofoelaaGreatDoor

/- At every bytes the promise on the names that stand free holds: what is put behind a let of a name is no more free in it, and nothing else changes; the card. -/
namespace Go.Proofs.YtfmeldjkofoelaaGreatDoor.fnTreeFree
open Go.ChangeShapes Go.WideShapes Go.ChangeAt Go.RowKit

theorem own : ownKnob Tryz.prog.godebug = none := by kernel_rfl
theorem laidOut : laidOutB Tryz.prog = true := by kernel_rfl
theorem tPows : (Tryz.prog.globals[0]?).map (·.type) = some 179 := by kernel_rfl
theorem cPows : Tryz.prog.cellsOf 179 = 20 := by kernel_rfl
theorem cUint : Tryz.prog.cellsOf 107 = 1 := by kernel_rfl
theorem pows_data : (Rows.laid_internal_strconv_uint64pow10 : DataW Unit) = Lib.tabData .u64 Lib.pow10Tab := by kernel_rfl

theorem of_laid {W : World} (h : laidMetH Tryz.prog Rows.fnTreeFreeRow.laid W) : Laid W := by
  rw [MakeChecks.laidMetH_plain _ _ _ (by kernel_rfl)] at h
  obtain ⟨ps, ⟨g0, t0, cs0, f0, p0, q0, hg0, ht0, hv0, hd0, ⟨g1, t1, cs1, f1, p1, q1, hg1, ht1, hv1, hd1, ⟨g2, t2, cs2, f2, p2, q2, hg2, ht2, hv2, hd2, _⟩, _⟩, _⟩, _⟩ := h
  obtain rfl := Option.some.inj (gPows.symm.trans hg2)
  obtain rfl := Option.some.inj (tPows.symm.trans ht2)
  refine ⟨?_⟩
  rw [pows_data] at hd2
  have := Lib.cells_of_tab Tryz.underlying179 Tryz.underlying107 cUint cPows hd2
  unfold Lib.TabIs
  rw [hv2, ← this]

theorem spot_none {W : World} {a : Addr} {v : Value} (h : W.cell? a = some v) : a.spot = none := by
  unfold World.cell? at h
  split at h
  · by_cases hs : a.spot.isSome
    · simp [hs] at h
    · simpa using hs
  · cases h

theorem block_lt {W : World} {a : Addr} {v : Value} (h : W.cell? a = some v) : a.block < W.heap.size := by
  unfold World.cell? at h
  split at h
  · rename_i e
    obtain ⟨hlt, _⟩ := Array.getElem?_eq_some_iff.mp e
    exact hlt
  · cases h

theorem cells_u8 : Tryz.prog.cellsOf 5 = 1 := by kernel_rfl

theorem open_bytes {H : Type} {enc : TypeId × Value → H} {W : World} {sp : Nat → Bool} {held : Bool} {fuel : Nat} {v : Value} {x : DataW H × List MemPlace}
    (h : DataW.trod enc Tryz.prog W 0 sp held fuel 22 [v] = some x) :
    ∃ a0 len cap, v = .slice a0 len cap ∧ len ≤ cap ∧ len ≤ maxLen ∧ BytesAt W a0 len := by
  rcases open_ints Tryz.underlying22 Tryz.underlying5 cells_u8 h with ⟨hc, _⟩ | ⟨a, len, cap, zs, hc, _, hl, hm, hz, _, hcell, hwf⟩
  · simp at hc
    subst hc
    exact ⟨none, 0, 0, rfl, Nat.le_refl _, Nat.zero_le _, fun h => absurd h (by omega)⟩
  · simp at hc
    subst hc
    have hlm : len ≤ zs.length := by rw [hz]; split <;> omega
    refine ⟨some a, len, cap, rfl, hl, by omega, fun h0 => ?_⟩
    have hc0 := hcell 0 (by omega)
    have hs := spot_none hc0
    have hb := block_lt hc0
    obtain ⟨b, off, spot⟩ := a
    have hspot : spot = none := by simpa [Addr.add] using hs
    subst hspot
    refine ⟨b, off, rfl, by simpa [Addr.add] using hb, fun i hi => ?_⟩
    have hci := hcell i (by omega)
    have e : (Addr.add ⟨b, off, none⟩ i) = ⟨b, off + i, none⟩ := by
      unfold Addr.add
      split
      · rename_i h
        subst h
        rfl
      · rfl
    rw [e] at hci
    have hin : zs.getD i 0 ∈ zs := by
      rw [List.getD, List.getElem?_eq_getElem (show i < zs.length by omega)]
      exact List.getElem_mem _
    have hw := hwf _ hin
    simp only [Lit.wf, Bool.and_eq_true, decide_eq_true_eq] at hw
    exact ⟨_, hci, hw.1, hw.2⟩

set_option maxRecDepth 100000 in
theorem contract (H : Type) (enc : TypeId × Value → H) (W : World) (base : Nat) (args : Array Value) (ds gs : List (DataW H)) (before : List MemPlace)
    (hval0 : ∀ (j : Nat) t v, Tryz.f3.params[j]? = some t → args[j]? = some v → Value.okWide Tryz.prog W .any base t v)
    (hW : DataW.Whole enc Tryz.prog Tryz.f3.params.toList Rows.fnTreeFreeSpec.vars false W args.toList ds gs before) (hL : laidMetH Tryz.prog Rows.fnTreeFreeRow.laid W) :
    Calls Tryz.prog 3 args W fun e W' => ∃ v, e = .returned v ∧ Rows.fnTreeFreeSpec.post enc Tryz.prog Tryz.f3 false true false false W args v W' := by
  have hval : ∀ (j : Nat) t v, Tryz.f3.params[j]? = some t → args[j]? = some v → Value.okWide Tryz.prog W .any base t v := hval0
  have hW' := hW
  obtain ⟨p, q, hA0, hV0, rfl, hfz, hnd⟩ := hW
  have hA : DataW.TrodAll enc Tryz.prog W 0 (fun _ => true) true Tryz.f3.params.toList args.toList ds p := hA0
  rw [Tryz.params3] at hA hval
  obtain ⟨v0, vs0, d0, ds0, p0, q0, hargs, rfl, rfl, h0, r0⟩ := trodAll_cons hA
  obtain ⟨rfl, rfl, rfl⟩ := trodAll_nil r0
  obtain rfl : args = #[v0] := by cases args; simp_all
  obtain ⟨rfl, rfl⟩ := trodVars_none hV0
  have hLa := of_laid hL
  clear hA0 hval0
  simp only [List.append_nil] at hW'
  have hlt : ∀ y ∈ p0, y.block < W.heap.size := fun y hy => hW'.lt y (by simp [hy])
  have h0k := h0
  obtain ⟨fuel0, hf⟩ := h0
  obtain ⟨a1, len1, cap1, rfl⟩ := okWide_slice Tryz.underlying22 (hval 0 22 v0 rfl rfl)
  obtain ⟨a0, len, cap, hv, hl, -, hB⟩ := open_bytes (by simpa [Value.cells] using hf)
  cases hv
  refine (free_walk _ _ _ W hl hB hLa).mono fun e W' ⟨he, hgr⟩ => ?_
  subst he
  refine ⟨_, rfl, _, _, _, [], p0, [], hW', ?_, ?_, rfl, hgr.frame _, fun h => by cases h⟩
  · exact trodAll_cons_mk (shut_bool Tryz.underlying4 _) trodAll_mk0
  · exact trodAll_mk1 (Below.trod laidOut (by kernel_rfl) (of_decide_eq_true (by kernel_rfl)) h0k hgr hlt)

theorem laid_met (os : Os) : laidMet Tryz.prog Rows.fnTreeFreeRow.laid ((World.doorLaid Tryz.prog 400 os).forCall (fun _ _ => 0) ⟨#[], #[.slice none 0 0], []⟩).memory :=
  laidMet_of_run' 8 (by kernel_rfl) (by kernel_rfl)
set_option maxRecDepth 100000 in
theorem lifted (os : Os) (started : os.Started) (H : Type) (enc : TypeId × Value → H) (F : Stop.Interp) :
    ReturnsInHanded {} Tryz.checked os 3 .any ((OpenSpec.ofChange Rows.fnTreeFreeSpec).preRow enc Tryz.prog Tryz.f3 Rows.fnTreeFreeRow.domain false Rows.fnTreeFreeRow.laid) (((OpenSpec.ofChange Rows.fnTreeFreeSpec).at F).post enc Tryz.prog Tryz.f3 false true false false) := by
  refine returnsInHanded_of_row (C := Tryz.checked) (s := OpenSpec.ofChange Rows.fnTreeFreeSpec) own started (by kernel_rfl) Tryz.func3
    (witness_row_at (enc := enc) (C := Tryz.checked) false (World.doorLaid Tryz.prog 400 os) #[.slice none 0 0] rfl (by kernel_rfl) (by kernel_rfl) (by kernel_rfl)
      (OpenSpec.preRow_of_cond 8 (show DataW.whole enc Tryz.prog ((World.doorLaid Tryz.prog 400 os).forCall (fun _ _ => 0) ⟨#[], #[.slice none 0 0], []⟩).memory Tryz.f3.params.toList Rows.fnTreeFreeSpec.vars false #[.slice none 0 0].toList 8 = some ([.nil], [], []) by kernel_rfl) (by kernel_rfl) (fun k hk => by cases hk) (by kernel_rfl) (laid_met os))) ?_
  intro W base args ds gs before hval hW _ _ _ hL _ _
  exact contract H enc W base args ds gs before hval hW hL

theorem said : Rows.FnTreeFreeSaid :=
  OpenClaim.holds_of_cond 3 Tryz.f3 rfl rfl rfl rfl rfl rfl rfl ⟨rfl, rfl, rfl, rfl, rfl⟩ rfl rfl rfl rfl rfl (by kernel_rfl) Tryz.func3 (by kernel_rfl)
    (of_decide_eq_true (by kernel_rfl)) (by unfold Func.isWrapper; first | (rw [if_pos (by decide +kernel)]; kernel_rfl) | (rw [if_neg (by decide +kernel)]; exact ⟨rfl, rfl⟩))
    (fun os started H enc _ F => by rw [OpenClaim.pre_eq_preRow]; exact lifted os started H enc F)

theorem plain (f : FuncId) (fn : Func) (hf : Tryz.pinned.checked.prog.funcNamed "loop.example/handrail/laws.FnTreeFree" = some f) (hfn : Tryz.pinned.checked.prog.funcs[f]? = some fn) :
    false = Tryz.pinned.checked.prog.looks [] ∧ ∀ (j : Nat) t, fn.params[j]? = some t → Tryz.pinned.checked.prog.wantsStandIn t = false := by
  obtain rfl : f = 3 := Option.some.inj ((show Tryz.prog.funcNamed "loop.example/handrail/laws.FnTreeFree" = some 3 by kernel_rfl).symm.trans hf) |>.symm
  obtain rfl : fn = Tryz.f3 := (Option.some.inj (Tryz.func3.symm.trans hfn)).symm
  refine ⟨by kernel_rfl, fun j t ht => ?_⟩
  rw [Tryz.params3] at ht
  obtain rfl : t = 22 := by simpa using Array.mem_of_getElem? ht
  exact (show Tryz.prog.wantsStandIn 22 = false by kernel_rfl)

theorem proved : Rows.FnTreeFreeCardSaid :=
  Claim7.holds_tied_plain_at .later [] _ _ _ _ said (fun _ h => by cases h) (by kernel_rfl) (fun _ h => by cases h) fnTreeFree_row_tie rfl ⟨rfl, rfl⟩ (by kernel_rfl) rfl plain (by kernel_rfl)
#print axioms proved
end Go.Proofs.YtfmeldjkofoelaaGreatDoor.fnTreeFree
