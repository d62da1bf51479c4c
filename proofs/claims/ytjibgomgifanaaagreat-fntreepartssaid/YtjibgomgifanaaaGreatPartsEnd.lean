/- Whether nodes are a tree, as the program asks it. -/
import Derived.Test.YtjibgomgifanaaaGreatTreeAll
import Derived.Test.YtjibgomgifanaaaGreatNodeArgs
import Derived.Test.YtjibgomgifanaaaGreatRows
import Derived.Test.YtjibgomgifanaaaGreatPickWalks
import Derived.WalkKit
import Derived.ProofKit
import Derived.OwnWalk
import Derived.Deep.RegionHeld
import Derived.Test.YtjibgomgifanaaaGreatOwnRow
import Derived.Test.YtjibgomgifanaaaGreatGenRMT
import Derived.OpenShut
import Derived.Test.YtjibgomgifanaaaGreatGenQMT
namespace Go.Proofs.YtjibgomgifanaaaGreat
open Go.RowKit Go.Deep

set_option maxHeartbeats 1000000 in
set_option maxRecDepth 100000 in
theorem formOfTree_calls (b off cap : Nat) (ns : List Nd) (n : Nd) (k : Fo) (w : World) (hm : ns.length ≤ 300) (hfit : ∀ m ∈ ns, Fits m m.kids.toNat) (hbw : b < w.heap.size) (hn : NodesAt w b off ns)
    (h1 : ns = n :: k.flat) (h2 : n.kids = k.count) (h3 : k.wf) :
    Calls Tryz.prog 13 #[.slice (some ⟨b, off, none⟩) ns.length cap] w fun e w' => ∃ v us, e = .returned v ∧ Forms w.heap.size w' k us ∧ Shape w.heap.size w' n us v ∧ Below w.heap.size w w' := by
  have hdr : ns.drop 0 = n :: (k.flat ++ []) := by rw [h1]; simp
  have HC : Hid (Calls _ _ _ _ _) := formAt_calls b off cap ns hm hfit (k.flat.length + 1) n k [] 0 w hbw hn hdr h2 h3 (Nat.lt_succ_self _)
  clear hdr hm hfit hn h1 h2 h3
  generalize ns.length = len at *
  go_enter Tryz.func13, Tryz.ntmps13
  go_wp2_with fail
  refine HC.out.mono ?_
  rintro e w2 ⟨v, us, rfl, hF, hS, hb⟩
  have HX : Hid (Forms w.heap.size w2 k us ∧ Shape w.heap.size w2 n us v ∧ Below w.heap.size w w2) := ⟨hF, hS, hb⟩
  clear hF hS hb
  go_wp2_with fail
  go_ret
  exact ⟨v, us, rfl, HX.out⟩

set_option maxHeartbeats 4000000 in
set_option maxRecDepth 100000 in
theorem implTree_calls (b off cap : Nat) (ns : List Nd) (w : World) (R : Bool) (hm : ns.length ≤ 1048576) (hbw : b < w.heap.size) (hn : NodesAt w b off ns) (hs : Short ns) (hA : ImplAns ns R) :
    Calls Tryz.prog 5 #[.slice (some ⟨b, off, none⟩) ns.length cap] w fun e w' => e = .returned (.bool R) ∧ Below w.heap.size w w' := by
  by_cases hl : 1 ≤ ns.length ∧ ns.length ≤ 300
  · have hrest := hA.rest hl
    obtain ⟨len, hlen⟩ : ∃ len, ns.length = len := ⟨_, rfl⟩
    have Hlen : Hid (ns.length = len) := hlen
    have HR : Hid (Rest ns R nodeOkZ implTree) := hrest
    have HN : Hid (NodesAt w b off ns) := hn
    have HL : Hid (1 ≤ len ∧ len ≤ 300) := by show _ ∧ _; omega
    have HS : Hid (Short ns) := hs
    have h1 : (1 : Int) ≤ (len : Int) := by omega
    have h2 : (len : Int) ≤ 300 := by omega
    rw [hlen]
    clear hrest hn hA hl hm hlen hs
    go_enter Tryz.func5, Tryz.ntmps5
    go_wp2_with fail
    clear h1 h2
    go_loopw [15] (fun i wr => ∃ i' : Nat, i = .int .i64 i' ∧ i' ≤ len ∧ Hid ((ns.take i').all nodeOkZ = true) ∧ Below w.heap.size w wr) (fun i _ => len - (intOf i).toNat)
    case atStart => exact ⟨0, rfl, Nat.zero_le _, rfl, Below.refl _ _⟩
    case round =>
      obtain ⟨i', rfl, hle, HT, hbx⟩ := hrel
      have hnx := HN.out.below hbx hbw
      by_cases hlt : (i' : Int) < (len : Int)
      · have hil : i' < ns.length := by rw [Hlen.out]; omega
        have c0 := hnx i' hil 0 (by omega)
        have c1 := hnx i' hil 1 (by omega)
        have c2 := hnx i' hil 2 (by omega)
        have c3 := hnx i' hil 3 (by omega)
        have c4 := hnx i' hil 4 (by omega)
        have c5 := hnx i' hil 5 (by omega)
        obtain ⟨n, hnn⟩ : ∃ n, ns.getD i' default = n := ⟨_, rfl⟩
        have hF : nodeOkZ n = false → Hid (R = false) := fun h => HR.out.1 (all_false hil (by rw [hnn]; exact h))
        have hT : nodeOkZ n = true → Hid ((ns.take (i' + 1)).all nodeOkZ = true) := fun h => all_take_succ hil HT.out (by rw [hnn]; exact h)
        rw [hnn] at c0 c1 c2 c3 c4 c5
        simp only [Nd.cell, Nat.add_zero] at c0 c1 c2 c3 c4 c5
        have hsh := HS.out n (by rw [← hnn, List.getD, List.getElem?_eq_getElem hil]; exact List.getElem_mem _)
        have HO : Hid (∀ w, _) := fun w => nodeOk_calls n w hsh.1 hsh.2.1 hsh.2.2
        clear hnx hil hnn HT hsh
        obtain ⟨kd, num, a, bb, cc, kids⟩ := n
        dsimp only at *
        go_wp2_with fail
        refine (HO.out _).mono ?_
        rintro e w2 ⟨rfl, hb2⟩
        have hb3 : Below w.heap.size w w2 := (hbx.alloc (by have := hbx.size; omega) _).trans (hb2.mono (by have := hbx.size; simp; omega))
        clear c0 c1 c2 c3 c4 c5 hb2 HO
        cases ho : nodeOkZ ⟨kd, num, a, bb, cc, kids⟩ with
        | false =>
          have HF := hF ho
          clear hF hT
          go_wp2_with fail
          go_ret
          exact ⟨by rw [HF.out]; rfl, hb3⟩
        | true =>
          have HT := hT ho
          clear hF hT
          go_wp2_with fail
          have hs := lt_step hlt
          try rw [wrap_succ (by have := HL.out; omega)]
          exact ⟨⟨i' + 1, rfl, by omega, HT, hb3⟩, hs⟩
      · have e : i' = len := by omega
        subst e
        have hall : ns.all nodeOkZ = true := by
          have := HT.out
          rwa [List.take_of_length_le (by rw [Hlen.out]; exact Nat.le_refl _)] at this
        have HX : Hid (∀ w, NodesAt w b off ns → _) := fun w h => implEnd_calls b off cap ns 0 w h (by rw [Hlen.out]; have := HL.out; omega) (by omega)
        rw [Hlen.out] at HX
        rcases HR.out.2 hall with ⟨hne, hR⟩ | ⟨n, k, g1, g2, g3, g4, hR⟩
        · have hne' : (treeEnd ns 0 != (i' : Int)) = true := by rw [bne_iff_ne]; rw [Hlen.out] at hne; exact hne
          clear HT hall hne
          generalize treeEnd ns 0 = te at *
          subst hR
          go_wp2_with fail
          refine (HX.out wr hnx).mono ?_
          rintro e w2 ⟨rfl, rfl⟩
          go_wp2_with fail
          go_ret
          exact ⟨rfl, hbx⟩
        · have hfit : ∀ m ∈ ns, Fits m m.kids.toNat := fun m hm => by
            have := List.all_eq_true.1 hall m hm
            simp only [nodeOkZ, Bool.and_eq_true] at this
            exact fits_of_own this.1
          have hkl : k.flat.length ≤ 300 := by
            have := HL.out
            have e := Hlen.out
            rw [g1, List.length_cons] at e
            omega
          have HC : Hid (∀ w, b < w.heap.size → NodesAt w b off ns → _) := fun w hb h => clausesOk_calls b off cap ns n k w (by rw [Hlen.out]; have := HL.out; omega) hb h g1 g2 g3
          have HG : Hid (∀ w, b < w.heap.size → NodesAt w b off ns → _) := fun w hb h => formOfTree_calls b off cap ns n k w (by rw [Hlen.out]; have := HL.out; omega) hfit hb h g1 g2 g3
          rw [Hlen.out] at HC HG
          rw [g4, Hlen.out] at HX
          have HE : Hid (R = (implTree n k && decide (k.deep + 1 ≤ 40))) := hR
          have HKL : Hid (k.flat.length ≤ 300) := hkl
          have hee : (((i' : Int)) != (i' : Int)) = false := by simp
          clear HT hall g1 g2 g3 g4 hR HR hfit hkl
          go_wp2_with fail
          refine (HX.out wr hnx).mono ?_
          rintro e w2 ⟨rfl, rfl⟩
          go_wp2_with fail
          refine (HC.out wr (by have := hbx.size; omega) hnx).mono ?_
          rintro e w2 ⟨rfl, hb2⟩
          have hb3 := hbx.trans (hb2.mono hbx.size)
          have hn3 := HN.out.below hb3 hbw
          clear hb2 HX HC
          cases hit : implTree n k with
          | false =>
            go_wp2_with fail
            go_ret
            refine ⟨?_, hb3⟩
            rw [HE.out, hit, Bool.false_and]
            rfl
          | true =>
            go_wp2_with fail
            refine (HG.out w2 (by have := hb3.size; omega) hn3).mono ?_
            rintro e w4 ⟨v, us, rfl, hF4, hS4, hb4⟩
            have hb5 := hb3.trans (hb4.mono hb3.size)
            have HD : Hid (Calls _ _ _ _ _) := deepOf_calls (k.flat.length + 1) _ n k us v w4 hF4 hS4 HKL.out (Nat.lt_succ_self _)
            clear hF4 hS4 hb4 HG hn3
            generalize k.deep + 1 = dd at *
            go_wp2_with fail
            refine HD.out.mono ?_
            rintro e w6 ⟨rfl, hb6⟩
            go_wp2_with fail
            go_ret
            refine ⟨?_, hb5.trans (hb6.mono hb5.size)⟩
            rw [HE.out, hit, Bool.true_and]
            show Ending.returned (Value.bool (decide ((dd : Int) ≤ 40))) = _
            congr 2
            exact decide_eq_decide.2 (by omega)
  · have hR : R = false := by
      rcases hA with ⟨_, h⟩ | ⟨h1, h2, _⟩ | ⟨h1, h2, _⟩
      · exact h
      · exact absurd ⟨h1, h2⟩ hl
      · exact absurd ⟨h1, h2⟩ hl
    subst hR
    have hl' : (ns.length : Int) < 1 ∨ ((1 : Int) ≤ (ns.length : Int) ∧ (300 : Int) < (ns.length : Int)) := by omega
    clear hA hm hn hl hs
    generalize ns.length = len at *
    rcases hl' with h | ⟨h, h'⟩
    all_goals
      go_enter Tryz.func5, Tryz.ntmps5
      go_wp2_with fail
      go_ret
      exact ⟨rfl, Below.refl _ _⟩
end Go.Proofs.YtjibgomgifanaaaGreat

/- The reader of drawn numbers: opened over bytes, and drawn from. -/
namespace Go.Proofs.YtjibgomgifanaaaGreat
open Go.RowKit

/-- A slice of bytes in a world. -/
def BytesAt (w : World) (a0 : Option Addr) (len : Nat) : Prop :=
  0 < len → ∃ b off, a0 = some ⟨b, off, none⟩ ∧ b < w.heap.size ∧ ∀ i, i < len → ∃ z, w.cell? ⟨b, off + i, none⟩ = some (.int .u8 z) ∧ 0 ≤ z ∧ z ≤ 255

set_option maxRecDepth 100000 in
theorem open_calls (a0 : Option Addr) (len cap : Nat) (w : World) (hlen : len ≤ 1000000000) (hb : len ≤ cap) :
    Calls Tryz.prog 8 #[.slice a0 len cap] w fun e w' => e = .returned (.pointer (some ⟨w.heap.size, 0, none⟩)) ∧
      ∃ n : Nat, n ≤ len ∧ w' = w.alloc (.cells #[.slice a0 n cap, .int .i64 0] 43) := by
  by_cases h : (2000 : Int) < (len : Int)
  · go_enter Tryz.func8, Tryz.ntmps8
    go_wp2
    go_ret
    exact ⟨rfl, 2000, by omega, rfl⟩
  · go_enter Tryz.func8, Tryz.ntmps8
    go_wp2
    go_ret
    exact ⟨rfl, len, Nat.le_refl _, rfl⟩

/-- The reader of bytes in block 'B', 'q' numbers drawn. -/
structure RdSt (w0 : World) (B : Nat) (a0 : Option Addr) (n cap : Nat) (q : Nat) (w' : World) : Prop where
  cell0 : w'.cell? ⟨B, 0, none⟩ = some (.slice a0 n cap)
  cell1 : w'.cell? ⟨B, 1, none⟩ = some (.int .i64 q)
  frozen : w'.frozen? ⟨B, 1, none⟩ = false
  bytes : 0 < n → ∃ b off, a0 = some ⟨b, off, none⟩ ∧ b ≠ B ∧ ∀ i, i < n → ∃ z, w'.cell? ⟨b, off + i, none⟩ = some (.int .u8 z) ∧ 0 ≤ z ∧ z ≤ 255
  low : w0.heap.size ≤ B
  below : Below w0.heap.size w0 w'

theorem RdSt.drew {w0 : World} {B : Nat} {a0 : Option Addr} {n cap : Nat} {q : Nat} {w' : World} (h : RdSt w0 B a0 n cap q w') : RdSt w0 B a0 n cap q w'.drew :=
  ⟨h.cell0, h.cell1, h.frozen, h.bytes, h.low, h.below.drew⟩

theorem rd_pick {w0 : World} {B : Nat} {a0 : Option Addr} {n cap : Nat} {q : Nat} {w' : World} (h : RdSt w0 B a0 n cap q w') (hq : q ≤ 1000) (k : Nat) (hk : 0 < k) :
    Calls Tryz.prog 19 #[.pointer (some ⟨B, 0, none⟩), .int .i64 k] w' fun e w2 => ∃ m : Nat, e = .returned (.int .i64 m) ∧ m < k ∧ RdSt w0 B a0 n cap (q + 1) w2 := by
  refine (pick_calls B a0 n cap q k w' h.cell0 h.cell1 h.frozen (by omega) h.bytes).mono ?_
  rintro e w2 ⟨⟨r, rfl, hr0, hr1⟩, hP⟩
  have hr1 := hr1 (by omega)
  refine ⟨r.toNat, by rw [Int.toNat_of_nonneg hr0], by omega, ?_⟩
  refine ⟨hP.cell0.trans h.cell0, by rw [hP.cell1]; push_cast; rfl, hP.frozen.trans h.frozen, ?_, h.low, h.below.trans (hP.below _ h.low)⟩
  intro hn
  obtain ⟨b, off, ea, hb, hz⟩ := h.bytes hn
  refine ⟨b, off, ea, hb, fun i hi => ?_⟩
  rw [hP.other _ hb]
  exact hz i hi

theorem rd_start (w : World) (a0 : Option Addr) (len cap n : Nat) (hn : n ≤ len) (hB : BytesAt w a0 len) :
    RdSt w w.heap.size a0 n cap 0 (w.alloc (.cells #[.slice a0 n cap, .int .i64 0] 43)) where
  cell0 := by simp [go_sem]
  cell1 := by simp [go_sem]
  frozen := by simp [go_sem]
  bytes := by
    intro h
    obtain ⟨b, off, ea, hb, hz⟩ := hB (by omega)
    refine ⟨b, off, ea, by omega, fun i hi => ?_⟩
    obtain ⟨z, hz, h0, h1⟩ := hz i (by omega)
    refine ⟨z, ?_, h0, h1⟩
    rw [← hz]
    exact (((Below.refl w.heap.size w).alloc (Nat.le_refl _) _).cell (p := ⟨b, off + i, none⟩) hb)
  low := Nat.le_refl _
  below := (Below.refl _ _).alloc (Nat.le_refl _) _

theorem rd_open (a0 : Option Addr) (len cap : Nat) (w : World) (hlen : len ≤ 1000000000) (hb : len ≤ cap) (hB : BytesAt w a0 len) :
    Calls Tryz.prog 8 #[.slice a0 len cap] w fun e w' => e = .returned (.pointer (some ⟨w.heap.size, 0, none⟩)) ∧
      ∃ n : Nat, n ≤ len ∧ RdSt w w.heap.size a0 n cap 0 w' := by
  refine (open_calls a0 len cap w hlen hb).mono ?_
  rintro e w' ⟨rfl, n, hn, rfl⟩
  exact ⟨rfl, n, hn, rd_start w a0 len cap n hn hB⟩

theorem BytesAt.below {w w' : World} {a0 : Option Addr} {len : Nat} (h : BytesAt w a0 len) (hb : Below w.heap.size w w') : BytesAt w' a0 len := by
  intro h0
  obtain ⟨b, off, ea, hlt, hz⟩ := h h0
  refine ⟨b, off, ea, Nat.lt_of_lt_of_le hlt hb.size, fun i hi => ?_⟩
  obtain ⟨z, hz, h0, h1⟩ := hz i hi
  exact ⟨z, by rw [← hz]; exact hb.cell (p := ⟨b, off + i, none⟩) hlt, h0, h1⟩
end Go.Proofs.YtjibgomgifanaaaGreat

/- The law of a tree's parts, walked: whatever tree is drawn. -/
namespace Go.Proofs.YtjibgomgifanaaaGreat
open Go.RowKit Go.Deep

/-- A slice of nodes from the beginning of a block, or none. -/
def TreeV (W : World) (v : Value) (ns : List Nd) : Prop :=
  (v = .slice none 0 0 ∧ ns = []) ∨ ∃ b cap, v = .slice (some ⟨b, 0, none⟩) ns.length cap ∧ ns.length ≤ cap ∧ b < W.heap.size ∧ NodesAt W b 0 ns

def DrawnT (W : World) (e : Ending) (W' : World) : Prop :=
  ∃ v ns, e = .returned v ∧ TreeV W' v ns ∧ Short ns ∧ ns.length ≤ 1000000 ∧ Below W.heap.size W W'

/-- What the draw of a tree does. -/
def DrawC : Prop := ∀ (a0 : Option Addr) (len cap : Nat) (W : World), len ≤ 1048576 → len ≤ cap → BytesAt W a0 len → Calls Tryz.prog 4 #[.slice a0 len cap] W (DrawnT W)

set_option maxRecDepth 100000 in
theorem specTree_nil (w : World) : Calls Tryz.prog 6 #[.slice none 0 0] w fun e w' => e = .returned (.bool false) ∧ Below w.heap.size w w' := by
  go_enter Tryz.func6, Tryz.ntmps6
  go_wp2_with fail
  go_ret
  exact ⟨rfl, Below.refl _ _⟩

set_option maxRecDepth 100000 in
theorem implTree_nil (w : World) : Calls Tryz.prog 5 #[.slice none 0 0] w fun e w' => e = .returned (.bool false) ∧ Below w.heap.size w w' := by
  go_enter Tryz.func5, Tryz.ntmps5
  go_wp2_with fail
  go_ret
  exact ⟨rfl, Below.refl _ _⟩

theorem app_one (m : Nd) (kk r : Fo) : ∀ g : Fo, (g.app (.tree m kk .none)).app r = g.app (.tree m kk r)
  | .none => rfl
  | .tree n k r' => by simp only [Fo.app, app_one m kk r r']

theorem nodes_sub {W : World} {b : Nat} {ns l : List Nd} {k : Nat} {r : List Nd} (h : NodesAt W b 0 ns) (hd : ns.drop k = l ++ r) : NodesAt W b (k * 6) l := fun j hj c hc => by
  have hlen := congrArg List.length hd
  simp only [List.length_drop, List.length_append] at hlen
  have e := h (k + j) (by omega) c hc
  rw [show 0 + (k + j) * 6 + c = k * 6 + j * 6 + c by omega] at e
  rw [e]
  congr 2
  have : ns.getD (k + j) default = (ns.drop k).getD j default := by simp [List.getD, List.getElem?_drop]
  rw [this, hd]
  simp [List.getD, List.getElem?_append_left hj]

set_option maxHeartbeats 8000000 in
set_option maxRecDepth 100000 in
theorem parts_walk (hD : DrawC) (a0 : Option Addr) (len cap : Nat) (W : World) (hcap : len ≤ cap) (hB : BytesAt W a0 len) :
    Calls Tryz.prog 3 #[.slice a0 len cap] W fun e W' => e = .returned (.bool true) ∧ Below W.heap.size W W' := by
  by_cases hl : (1048576 : Int) < (len : Int)
  · go_enter Tryz.func3, Tryz.ntmps3
    go_wp2_with fail
    go_ret
    exact ⟨rfl, Below.refl _ _⟩
  have HD := hid (hD a0 len cap W (by omega) hcap hB)
  have hl' : (len : Int) ≤ 1048576 := by omega
  clear hD hB hl hcap
  go_enter Tryz.func3, Tryz.ntmps3
  go_wp2_with fail
  refine HD.out.mono ?_
  rintro e W1 ⟨v, ns, rfl, hv, hs, hm, hb1⟩
  have HB1 := hid hb1
  have HS := hid (And.intro hs hm)
  clear HD hs hm hb1 hl'
  rcases hv with ⟨rfl, rfl⟩ | ⟨b, cp, rfl, hcp, hbl, hN⟩
  · go_wp2_with fail
    refine (implTree_nil W1).mono ?_
    rintro e W2 ⟨rfl, hb2⟩
    have HB2 := hid (HB1.out.trans (hb2.mono HB1.out.size))
    clear hb2
    go_wp2_with fail
    refine (specTree_nil W2).mono ?_
    rintro e W3 ⟨rfl, hb3⟩
    have HB3 := hid (HB2.out.trans (hb3.mono HB2.out.size))
    clear hb3
    go_wp2_with fail
    refine (specTree_nil W3).mono ?_
    rintro e W4 ⟨rfl, hb4⟩
    have HB4 := hid (HB3.out.trans (hb4.mono HB3.out.size))
    clear hb4
    go_wp2_with fail
    go_ret
    exact ⟨rfl, HB4.out⟩
  · obtain ⟨R, hSA, hIA⟩ := answers ns
    have HA := hid (And.intro hSA hIA)
    have HN := hid (And.intro hbl hN)
    clear hSA hIA hbl hN
    go_wp2_with fail
    refine (implTree_calls b 0 cp ns W1 R (by have := HS.out.2; omega) HN.out.1 HN.out.2 HS.out.1 HA.out.2).mono ?_
    rintro e W2 ⟨rfl, hb2⟩
    have HB2 := hid (HB1.out.trans (hb2.mono HB1.out.size))
    have HN2 := hid (And.intro (Nat.lt_of_lt_of_le HN.out.1 hb2.size) (HN.out.2.below hb2 HN.out.1))
    clear hb2 HB1 HN
    go_wp2_with fail
    refine (specTree_calls b 0 cp ns W2 R (by have := HS.out.2; omega) HN2.out.1 HN2.out.2 HA.out.1).mono ?_
    rintro e W3 ⟨rfl, hb3⟩
    have HB3 := hid (HB2.out.trans (hb3.mono HB2.out.size))
    have HN3 := hid (And.intro (Nat.lt_of_lt_of_le HN2.out.1 hb3.size) (HN2.out.2.below hb3 HN2.out.1))
    clear hb3 HB2 HN2
    have hRR : (R != R) = false := by cases R <;> rfl
    go_wp2_with fail
    refine (specTree_calls b 0 cp ns W3 R (by have := HS.out.2; omega) HN3.out.1 HN3.out.2 HA.out.1).mono ?_
    rintro e W4 ⟨rfl, hb4⟩
    have HB4 := hid (HB3.out.trans (hb4.mono HB3.out.size))
    have HN4 := hid (And.intro (Nat.lt_of_lt_of_le HN3.out.1 hb4.size) (HN3.out.2.below hb4 HN3.out.1))
    clear hb4 HB3 HN3 hRR
    cases R with
    | false =>
      go_wp2_with fail
      go_ret
      exact ⟨rfl, HB4.out⟩
    | true =>
      have hT : ∃ (n : Nd) (k : Fo), ns = n :: k.flat ∧ n.kids = k.count ∧ k.wf ∧ ns.length ≤ 300 := by
        rcases HA.out.1 with ⟨-, h⟩ | ⟨-, -, -, h⟩ | ⟨h1, h2, n, k, e1, e2, e3, -⟩
        · cases h
        · cases h
        · exact ⟨n, k, e1, e2, e3, h2⟩
      obtain ⟨n, K, e1, e2, e3, e4⟩ := hT
      have HT := hid (And.intro e1 (And.intro e2 (And.intro e3 e4)))
      have c5 := HN4.out.2 0 (by rw [e1]; simp) 5 (by omega)
      rw [show ns.getD 0 default = n by rw [e1]; rfl] at c5
      simp only [Nd.cell, Nat.zero_mul, Nat.zero_add] at c5
      rw [e2] at c5
      have C5 := hid c5
      obtain ⟨L, hL⟩ : ∃ L, ns.length = L := ⟨_, rfl⟩
      have HL := hid hL
      have hL0 : 1 ≤ ns.length := by rw [e1]; simp
      have hL1 : (0 : Int) < (L : Int) := by omega
      have hLc : (L : Int) ≤ (cp : Int) := by omega
      rw [hL]
      clear e1 e2 e3 e4 hL hcp c5 hL0
      go_wp2_with fail
      go_loopw [4, 5] (fun k i wr => ∃ g h : Fo, K = g.app h ∧ k = .int .i64 ((1 + g.flat.length : Nat) : Int) ∧ i = .int .i64 (g.count : Int) ∧ Hid (Below W4.heap.size W4 wr)) (fun _ i _ => K.count - (intOf i).toNat)
      case atStart => exact ⟨.none, K, rfl, rfl, rfl, Below.refl _ _⟩
      case round =>
        obtain ⟨g, h, hK, rfl, rfl, HBr⟩ := hrel
        have cz := (HBr.out.cell (p := ⟨b, 5, none⟩) HN4.out.1).trans C5.out
        have HNr := hid (HN4.out.2.below HBr.out HN4.out.1)
        have hbr : Hid (b < wr.heap.size) := Nat.lt_of_lt_of_le HN4.out.1 HBr.out.size
        have hcnt : K.count = g.count + h.count := by rw [hK, Fo.app_count]
        cases h with
        | none =>
          have HK := hid hK
          have hcn : K.count = g.count := by rw [hcnt]; simp [Fo.count]
          have hkl : 1 + g.flat.length = L := by
            have := HL.out
            rw [HT.out.1, hK, Fo.app_flat] at this
            simp [Fo.flat] at this
            omega
          have HE := hid (implEnd_calls b 0 cp ns 0 wr HNr.out (by have := HS.out.2; omega) (by omega))
          have hend := end_of_tree HT.out.1 HT.out.2.1 HT.out.2.2.1
          rw [hend, HL.out] at HE
          rw [hcn] at cz
          rw [hkl]
          clear hK hcnt hcn hkl hend
          generalize g.count = gc at *
          go_wp2_with fail
          refine HE.out.mono ?_
          rintro e W5 ⟨rfl, rfl⟩
          go_wp2_with fail
          go_ret
          exact ⟨rfl, HB4.out.trans (HBr.out.mono HB4.out.size)⟩
        | tree m kk r =>
          have hdr : ns.drop (1 + g.flat.length) = m :: (kk.flat ++ r.flat) := by
            rw [HT.out.1, hK, Fo.app_flat, Nat.add_comm 1, List.drop_succ_cons, List.drop_left]
            rfl
          have hwf : (g.app (.tree m kk r)).wf := by rw [← hK]; exact HT.out.2.2.1
          have hwm := ((Fo.app_wf g _).1 hwf).2
          have hPA := part_ans HA.out.1 (by rw [← hK]; exact HT.out.1) (fun n' k' q1 q2 q3 => by have := tree_inj HT.out.1 HT.out.2.1 HT.out.2.2.1 q1 q2 q3; rwa [hK] at this) hwf
          have hend := treeEnd_at hdr hwm.1 hwm.2.1
          have hlen := congrArg List.length hdr
          simp only [List.length_drop, List.length_cons, List.length_append] at hlen
          rw [HL.out] at hlen
          obtain ⟨k, hk⟩ : ∃ k, 1 + g.flat.length = k := ⟨_, rfl⟩
          have HK := hid (And.intro hK hk)
          rw [hk] at hdr hend hlen ⊢
          obtain ⟨f, hf⟩ : ∃ f, kk.flat.length = f := ⟨_, rfl⟩
          have HF := hid hf
          rw [hf] at hend hlen
          have HE := hid (implEnd_calls b 0 cp ns (k : Int) wr HNr.out (by have := HS.out.2; omega) (by have := HS.out.2; rw [HL.out] at this; omega))
          rw [hend, HL.out] at HE
          have ck := HNr.out k (by rw [HL.out]; omega) 0 (by omega)
          have hgd : ns.getD k default = m := by
            have : ns.getD k default = (ns.drop k).getD 0 default := by simp [List.getD, List.getElem?_drop]
            rw [this, hdr]
            rfl
          rw [hgd] at ck
          simp only [Nd.cell, Nat.zero_add, Nat.add_zero] at ck
          have hNm := nodes_sub (l := m :: kk.flat) (r := r.flat) HNr.out (by rw [hdr]; rfl)
          have hSm : Short (m :: kk.flat) := fun x hx => HS.out.1 x (by rw [← List.take_append_drop k ns, hdr]; refine List.mem_append_right _ ?_; rw [List.mem_cons] at hx ⊢; exact hx.imp id (fun h => List.mem_append_left _ h))
          have HI := hid (implTree_calls b (k * 6) (cp - k) (m :: kk.flat) wr (!clauseB m) (by simp; have := HS.out.2; rw [HL.out] at this; omega) hbr.out hNm hSm hPA.2)
          rw [show (m :: kk.flat).length = f + 1 by simp [hf]] at HI
          obtain ⟨kd, hkd⟩ : ∃ kd, m.kind = kd := ⟨_, rfl⟩
          have hcl : clauseB m = (kd == 25 || kd == 26) := by unfold clauseB; rw [hkd]
          rw [hcl] at HI
          rw [hkd] at ck
          have hk0 : (0 : Int) ≤ (k : Int) := by omega
          have hk1 : (k : Int) < (L : Int) := by omega
          have hke : (k : Int) ≤ ((k + 1 + f : Nat) : Int) := by omega
          have hle : ¬ (((k + 1 + f : Nat) : Int) ≤ (k : Int)) := by omega
          have hec : ((k + 1 + f : Nat) : Int) ≤ (cp : Int) := by omega
          have hci : (g.count : Int) < (K.count : Int) := by rw [hcnt]; simp only [Fo.count]; omega
          have HC := hid hcnt
          have hstep : K.count - (intOf (.int .i64 ((g.count + 1 : Nat) : Int))).toNat < K.count - (intOf (.int .i64 (g.count : Int))).toNat := lt_step hci
          have HGc : Hid (g.count ≤ 1000) := by
            show _ ≤ _
            have h1 := Fo.count_le g
            have h2 := HL.out
            have h3 := HT.out.2.2.2
            omega
          have HN1 : Hid (K = (g.app (.tree m kk .none)).app r ∧ ((k : Int) + 1 + (f : Int)) = ((1 + (g.app (.tree m kk .none)).flat.length : Nat) : Int) ∧ ((g.count + 1 : Nat) : Int) = ((g.app (.tree m kk .none)).count : Int)) := by
            refine ⟨by rw [app_one]; exact hK, ?_, ?_⟩
            · rw [Fo.app_flat]
              simp only [Fo.flat, List.append_nil, List.length_append, List.length_cons]
              omega
            · rw [Fo.app_count]
              simp [Fo.count]
          clear hK hdr hwf hwm hPA hend hlen hk hf hgd hNm hSm hkd hcl hcnt
          cases h25 : (kd == 25) with
          | true =>
            rw [h25] at HI
            simp only [Bool.true_or, Bool.not_true] at HI
            go_wp2_with fail
            refine HE.out.mono ?_
            rintro e W5 ⟨rfl, rfl⟩
            go_wp2_with fail
            rw [show k + 1 + f - k = f + 1 by omega]
            refine HI.out.mono ?_
            rintro e W6 ⟨rfl, hb6⟩
            have HB6 := hid (HBr.out.trans (hb6.mono HBr.out.size))
            clear hb6
            go_wp2_with fail
            try rw [wrap_succ (by have := HGc.out; omega)]
            exact ⟨⟨g.app (.tree m kk .none), r, HN1.out.1, congrArg (Value.int .i64) HN1.out.2.1, congrArg (Value.int .i64) HN1.out.2.2, HB6⟩, hstep⟩
          | false =>
            cases h26 : (kd == 26) with
            | true =>
              rw [h25, h26] at HI
              simp only [Bool.false_or, Bool.not_true] at HI
              go_wp2_with fail
              refine HE.out.mono ?_
              rintro e W5 ⟨rfl, rfl⟩
              go_wp2_with fail
              rw [show k + 1 + f - k = f + 1 by omega]
              refine HI.out.mono ?_
              rintro e W6 ⟨rfl, hb6⟩
              have HB6 := hid (HBr.out.trans (hb6.mono HBr.out.size))
              clear hb6
              go_wp2_with fail
              try rw [wrap_succ (by have := HGc.out; omega)]
              exact ⟨⟨g.app (.tree m kk .none), r, HN1.out.1, congrArg (Value.int .i64) HN1.out.2.1, congrArg (Value.int .i64) HN1.out.2.2, HB6⟩, hstep⟩
            | false =>
              rw [h25, h26] at HI
              simp only [Bool.false_or, Bool.not_false] at HI
              go_wp2_with fail
              refine HE.out.mono ?_
              rintro e W5 ⟨rfl, rfl⟩
              go_wp2_with fail
              rw [show k + 1 + f - k = f + 1 by omega]
              refine HI.out.mono ?_
              rintro e W6 ⟨rfl, hb6⟩
              have HB6 := hid (HBr.out.trans (hb6.mono HBr.out.size))
              clear hb6
              go_wp2_with fail
              try rw [wrap_succ (by have := HGc.out; omega)]
              exact ⟨⟨g.app (.tree m kk .none), r, HN1.out.1, congrArg (Value.int .i64) HN1.out.2.1, congrArg (Value.int .i64) HN1.out.2.2, HB6⟩, hstep⟩
end Go.Proofs.YtjibgomgifanaaaGreat

/- The draw of a tree, over what spoiling does. -/
namespace Go.Proofs.YtjibgomgifanaaaGreat
open Go.RowKit Go.Deep

theorem treeV_of {d : Dr} {W : World} {v : Value} {ns : List Nd} (h : NodesD d W v ns) : TreeV W v ns := by
  have hsl := h.slice
  rcases h.1 with ⟨h1, h2⟩ | ⟨b, off, cap, h1, h2, rfl, h4, -⟩
  · exact Or.inl ⟨h1, List.eq_nil_of_length_eq_zero h2⟩
  · refine Or.inr ⟨b, cap, h1, h2, h4.1, ?_⟩
    obtain ⟨a, c, e, h5⟩ := hsl
    rw [h1] at e
    cases e
    rcases h5 with rfl | ⟨b', off', e', -, hn⟩
    · exact fun k hk => by simp at hk
    · cases e'
      exact hn

set_option maxHeartbeats 4000000 in
set_option maxRecDepth 100000 in
theorem draw_calls (hSp : SpoilC) : DrawC := by
  intro a0 len cap W hl hc hB
  have HSp := hid hSp
  have HO := hid (open_calls a0 len cap W (by omega) hc)
  have HB := hid hB
  clear hSp hB
  go_enter Tryz.func4, Tryz.ntmps4
  go_wp2_with fail
  refine HO.out.mono ?_
  rintro e W1 ⟨rfl, m, hm, rfl⟩
  have HR : Hid (Rdr ⟨W.heap.size, W.heap.size, a0, m, cap⟩ (W.alloc (.cells #[.slice a0 m cap, .int .i64 0] 43)) 0) := by
    have hh := (MapKept.heap_alloc W (.cells #[.slice a0 m cap, .int .i64 0] 43)).1
    refine ⟨hh, fun h0 => ?_⟩
    obtain ⟨b, off, ea, hb, hz⟩ := HB.out (show 0 < len by have : 0 < m := h0; omega)
    refine ⟨b, off, ea, ⟨by simp; omega, by show b ≠ W.heap.size; omega, by show b ≠ W.heap.size; omega⟩, fun i hi => ?_⟩
    obtain ⟨z, hz, h1⟩ := hz i (by have : i < m := hi; omega)
    exact ⟨z, (((Below.refl W.heap.size W).alloc (Nat.le_refl _) _).cell (p := ⟨b, off + i, none⟩) hb).trans hz, h1⟩
  have HA := hid (any_calls HSp.out (d := ⟨W.heap.size, W.heap.size, a0, m, cap⟩) rfl HR.out (by omega))
  have HW : Hid (Below W.heap.size W (W.alloc (.cells #[.slice a0 m cap, .int .i64 0] 43))) := (Below.refl _ _).alloc (Nat.le_refl _) _
  clear HO hm
  go_wp2_with fail
  refine HA.out.mono ?_
  rintro e W2 ⟨ad, n, cp, v, ns, q, rfl, hN, hlen, -, -, hg⟩
  obtain ⟨adv, cpv, rfl⟩ := hN.is
  have HN := hid (And.intro hN hlen)
  have HG := hid (hg.below (n := W.heap.size) (by simp) (Nat.le_refl _) (Nat.le_refl _))
  have hfd : (Instr.field 34 (.agg #[.slice ad n cp, .slice adv ns.length cpv]) 1).run Tryz.prog W2 = .ok (.slice adv ns.length cpv) W2 := by rfl
  clear hN hlen hg HA
  go_wp2_with fail
  go_ret
  exact ⟨_, ns, rfl, treeV_of HN.out.1, HN.out.1.short, by have := HN.out.2; omega, HW.out.trans HG.out⟩
end Go.Proofs.YtjibgomgifanaaaGreat

/- At every bytes the promise on the parts of a tree holds: the parts of the drawn tree lie one behind the other and are trees, but for a handler's clauses; the bytes unchanged; no condition. -/
namespace Go.Proofs.YtjibgomgifanaaaGreat.fnTreeParts
open Go.ChangeShapes Go.WideShapes Go.ChangeAt Go.RowKit

theorem own : ownKnob Tryz.prog.godebug = none := by kernel_rfl

variable (spoilC : SpoilC)
include spoilC

theorem walk (a0 : Option Addr) (len cap : Nat) (w : World) (hb : len ≤ cap) (hB : BytesAt w a0 len) :
    Calls Tryz.prog 3 #[.slice a0 len cap] w fun e w' => e = .returned (.bool true) ∧ Below w.heap.size w w' := parts_walk (draw_calls spoilC) a0 len cap w hb hB

omit spoilC
theorem spot_none {W : World} {a : Addr} {v : Value} (h : W.cell? a = some v) : a.spot = none := by
  unfold World.cell? at h
  split at h
  · by_cases hs : a.spot.isSome
    · simp [hs] at h
    · simpa using hs
  · cases h

theorem block_lt {W : World} {a : Addr} {v : Value} (h : W.cell? a = some v) : a.block < W.heap.size := by
  unfold World.cell? at h
  split at h
  · rename_i e
    obtain ⟨hlt, _⟩ := Array.getElem?_eq_some_iff.mp e
    exact hlt
  · cases h

theorem cells_u8 : Tryz.prog.cellsOf 5 = 1 := by kernel_rfl
theorem laidOut : laidOutB Tryz.prog = true := by kernel_rfl

theorem open_bytes {H : Type} {enc : TypeId × Value → H} {W : World} {sp : Nat → Bool} {held : Bool} {fuel : Nat} {v : Value} {x : DataW H × List MemPlace}
    (h : DataW.trod enc Tryz.prog W 0 sp held fuel 22 [v] = some x) :
    ∃ a0 len cap, v = .slice a0 len cap ∧ len ≤ cap ∧ len ≤ maxLen ∧ BytesAt W a0 len := by
  rcases open_ints Tryz.underlying22 Tryz.underlying5 cells_u8 h with ⟨hc, _⟩ | ⟨a, len, cap, zs, hc, _, hl, hm, hz, _, hcell, hwf⟩
  · simp at hc
    subst hc
    exact ⟨none, 0, 0, rfl, Nat.le_refl _, Nat.zero_le _, fun h => absurd h (by omega)⟩
  · simp at hc
    subst hc
    have hlm : len ≤ zs.length := by rw [hz]; split <;> omega
    refine ⟨some a, len, cap, rfl, hl, by omega, fun h0 => ?_⟩
    have hc0 := hcell 0 (by omega)
    have hs := spot_none hc0
    have hb := block_lt hc0
    obtain ⟨b, off, spot⟩ := a
    have hspot : spot = none := by simpa [Addr.add] using hs
    subst hspot
    refine ⟨b, off, rfl, by simpa [Addr.add] using hb, fun i hi => ?_⟩
    have hci := hcell i (by omega)
    have e : (Addr.add ⟨b, off, none⟩ i) = ⟨b, off + i, none⟩ := by
      unfold Addr.add
      split
      · rename_i h
        subst h
        rfl
      · rfl
    rw [e] at hci
    have hin : zs.getD i 0 ∈ zs := by
      rw [List.getD, List.getElem?_eq_getElem (show i < zs.length by omega)]
      exact List.getElem_mem _
    have hw := hwf _ hin
    simp only [Lit.wf, Bool.and_eq_true, decide_eq_true_eq] at hw
    exact ⟨_, hci, hw.1, hw.2⟩

set_option maxRecDepth 100000 in
theorem lifted (spoilC : SpoilC) (os : Os) (started : os.Started) (H : Type) (enc : TypeId × Value → H) :
    ReturnsInHanded {} Tryz.checked os 3 .any (Rows.fnTreePartsSpec.pre6 enc Tryz.prog Tryz.f3 Rows.fnTreePartsRow.domain false) (Rows.fnTreePartsSpec.post enc Tryz.prog Tryz.f3 false true false false) := by
  refine returnsInHanded_of_change (C := Tryz.checked) own started (by kernel_rfl) Tryz.func3
    (ChangeSpec.witness6 (enc := enc) (C := Tryz.checked) false ⟨#[], #[.slice none 0 0], []⟩ 8 (by kernel_rfl) (by kernel_rfl) (by kernel_rfl) (by kernel_rfl)) ?_
  intro W base args ds gs before hval0 hW hcnd _
  have hval : ∀ (j : Nat) t v, Tryz.f3.params[j]? = some t → args[j]? = some v → Value.okWide Tryz.prog W .any base t v := hval0
  have hW' := hW
  obtain ⟨p, q, hA0, hV, rfl, hfz, hnd⟩ := hW
  have hA : DataW.TrodAll enc Tryz.prog W 0 (fun _ => true) true Tryz.f3.params.toList args.toList ds p := hA0
  rw [Tryz.params3] at hA hval
  obtain ⟨v0, vs0, d0, ds0, p0, q0, hargs, rfl, rfl, h0, r0⟩ := trodAll_cons hA
  obtain ⟨rfl, rfl, rfl⟩ := trodAll_nil r0
  obtain rfl : args = #[v0] := by cases args; simp_all
  obtain ⟨rfl, rfl⟩ := trodVars_none hV
  clear hA0 hval0
  simp only [List.append_nil] at hW'
  have hlt : ∀ y ∈ p0, y.block < W.heap.size := fun y hy => by simpa using hW'.lt y (by simpa using hy)
  have h0k := h0
  obtain ⟨fuel, hf⟩ := h0
  obtain ⟨a1, len1, cap1, rfl⟩ := okWide_slice Tryz.underlying22 (hval 0 22 v0 rfl rfl)
  obtain ⟨a0, len, cap, hv, hl, -, hB⟩ := open_bytes (by simpa [Value.cells] using hf)
  cases hv
  refine (walk spoilC _ _ _ W hl hB).mono fun e W' ⟨he, hg⟩ => ?_
  subst he
  refine ⟨_, rfl, _, _, _, [], p0, [], hW', ?_, ?_, rfl, hg.frame _, fun h => by cases h⟩
  · exact trodAll_cons_mk (shut_bool Tryz.underlying4 _) trodAll_mk0
  · exact trodAll_mk1 (Below.trod laidOut (by kernel_rfl) (of_decide_eq_true (by kernel_rfl)) h0k hg hlt)

theorem over (spoilC : SpoilC) : Rows.fnTreePartsRow.holds Tryz.pinned (OpenSpec.ofChange Rows.fnTreePartsSpec) :=
  OpenClaim.holds_of_wide 3 Tryz.f3 rfl rfl rfl rfl rfl rfl rfl ⟨rfl, rfl, rfl, rfl, rfl⟩ rfl rfl rfl rfl rfl (by kernel_rfl) Tryz.func3 (by kernel_rfl)
    (of_decide_eq_true (by kernel_rfl)) (by unfold Func.isWrapper; first | (rw [if_pos (by decide +kernel)]; kernel_rfl) | (rw [if_neg (by decide +kernel)]; exact ⟨rfl, rfl⟩))
    (fun os started H enc _ => lifted spoilC os started H enc)

end Go.Proofs.YtjibgomgifanaaaGreat.fnTreeParts

/- The law: the parts of a tree. -/
namespace Go.Proofs.YtjibgomgifanaaaGreat.fnTreeParts
open Go.RowKit Go.Deep

theorem spoil : SpoilC := fun _ _ _ _ _ _ _ _ _ hG h hp hE h4 hn hT => spoil_calls hG h hp hE h4 hn hT

theorem proved : Rows.FnTreePartsSaid := over spoil

#print axioms proved
end Go.Proofs.YtjibgomgifanaaaGreat.fnTreeParts
