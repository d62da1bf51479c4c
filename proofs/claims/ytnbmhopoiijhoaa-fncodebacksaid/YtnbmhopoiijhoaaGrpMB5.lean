/- Reading and writing code, whatever slices hold it. -/
import Derived.Test.YtnbmhopoiijhoaaGrpMB4
import Derived.Test.YtnbmhopoiijhoaaGrpMB3
import Derived.Laws.Closers25b
import Derived.Test.YtnbmhopoiijhoaaRows
import Derived.WalkKit
import Derived.ProofKit
import Derived.OpenShut
namespace Go.Proofs.Ytnbmhopoiijhoaa
open Go.RowKit

/-- A slice of these bytes, with room behind them or not. -/
def RawB (W : World) (v : Value) (bs : List Int) : Prop :=
  ∃ ad cap, v = .slice ad bs.length cap ∧ bs.length ≤ cap ∧ (bs = [] ∨ ∃ g off, ad = some ⟨g, off, none⟩ ∧ g < W.heap.size ∧ BytesIs W g off bs)

theorem RawB.below {W W' : World} {v : Value} {bs : List Int} (h : RawB W v bs) (hb : Below W.heap.size W W') : RawB W' v bs := by
  obtain ⟨ad, cap, rfl, hc, h⟩ := h
  refine ⟨ad, cap, rfl, hc, h.imp id ?_⟩
  rintro ⟨g, off, rfl, hg, hn⟩
  exact ⟨g, off, rfl, Nat.lt_of_lt_of_le hg hb.size, hn.below hb hg⟩

theorem raw_of_owns {B : Nat} {W : World} {v : Value} {bs : List Int} (h : OwnsB B W v bs) : RawB W v bs := by
  have h' := h
  obtain ⟨-, ⟨rfl, h0⟩ | ⟨g, cap, cur, rfl, hB, hc, hl, -⟩⟩ := h
  · refine ⟨none, 0, by rw [h0], by omega, Or.inl (List.eq_nil_of_length_eq_zero h0)⟩
  · refine ⟨_, cap, rfl, hl, Or.inr ⟨g, 0, rfl, heap_lt hc, fun k hk => ?_⟩⟩
    rw [Nat.zero_add, World.ownsRow.cellAt h' k (by omega)]
    simp [List.getD, hk]

theorem raw_of_out {B : Nat} {W : World} {v : Value} {bs : List Int} (h : OutB B W v bs) : RawB W v bs := by
  rcases h with h | ⟨rfl, g, rfl, hB, hg⟩
  · exact raw_of_owns h
  · refine ⟨_, 3, rfl, by decide, Or.inr ⟨g, 0, rfl, heap_lt hg, fun k hk => ?_⟩⟩
    have hk' : k = 0 ∨ k = 1 ∨ k = 2 := by
      have : headBytes.length = 3 := rfl
      omega
    rcases hk' with rfl | rfl | rfl <;> simp [World.cell?, hg, headBytes, List.getD]

theorem raw_string {W : World} {v : Value} {bs : List Int} (h : RawB W v bs) (hB : ∀ x ∈ bs, IsB x) : (convert 22 9 v).run Try.prog W = .ok (.string (byteStr bs)) W := by
  obtain ⟨ad, cap, rfl, hc, h⟩ := h
  rcases h with rfl | ⟨g, off, rfl, hg, hn⟩
  · cases ad with
    | none => simp [convert, go_sem, byteStr, Conv.bytesToString]; rfl
    | some a => exact run_convert_bytes_back (P := Try.prog) W 22 9 5 a cap [] Try.underlying22 Try.underlying5 Try.underlying9 (fun i hi => by simp at hi)
  · exact bytes_string W g off cap bs hB hn

set_option maxRecDepth 100000 in
theorem specRead_none (ad : Option Addr) (cap : Nat) (w : World) :
    Calls Try.prog 10 #[.slice ad 0 cap] w fun e w' => (∃ v, e = .returned (.tuple #[v, .bool false]) ∧ OwnsI w.heap.size w' v []) ∧ Below w.heap.size w w' := by
  go_enter Try.func10, Try.ntmps10
  go_wp2_with fail
  go_ret2
  exact ⟨⟨_, rfl, World.ownsRow_nil _ _ _ _⟩, Below.refl _ _⟩

theorem read_empty : readZ [] = none := by
  unfold readZ
  rw [if_pos (Or.inr (by decide))]

theorem specRead_any {W : World} {v : Value} {bs : List Int} (h : RawB W v bs) (hB : ∀ x ∈ bs, IsB x) :
    Calls Try.prog 10 #[v] W fun e w' => (∃ v', e = .returned (.tuple #[v', .bool (readZ bs).isSome]) ∧ OwnsI W.heap.size w' v' ((readZ bs).getD [])) ∧ Below W.heap.size W w' := by
  obtain ⟨ad, cap, rfl, hc, h⟩ := h
  rcases h with rfl | ⟨g, off, rfl, hg, hn⟩
  · rw [read_empty]
    exact specRead_none ad cap W
  · exact specRead_cap g off cap bs W hc hg hn hB

set_option maxRecDepth 100000 in
theorem hasNone_calls (ad a' : Option Addr) (cap cap' : Nat) (w : World) :
    Calls Try.prog 29 #[.slice ad 0 cap, .slice a' 3 cap'] w fun e w' => e = .returned (.bool false) ∧ w = w' := by
  go_enter Try.func29, Try.ntmps29
  go_wp2_with fail
  go_ret
  exact ⟨rfl, rfl⟩

set_option maxRecDepth 100000 in
theorem cutNone_calls (ad a' : Option Addr) (cap cap' : Nat) (w : World) :
    Calls Try.prog 20 #[.slice ad 0 cap, .slice a' 3 cap'] w fun e w' => e = .returned (.tuple #[.slice ad 0 cap, .bool false]) ∧ Below w.heap.size w w' := by
  go_enter Try.func20, Try.ntmps20
  go_wp2_with fail
  refine (hasNone_calls ad a' cap cap' _).mono ?_
  rintro e w1 ⟨rfl, rfl⟩
  go_wp2_with fail
  go_ret2
  exact ⟨rfl, Below.refl _ _⟩

set_option maxRecDepth 100000 in
set_option maxHeartbeats 2000000 in
theorem implRead_none (ad : Option Addr) (cap : Nat) (w : World) :
    Calls Try.prog 7 #[.slice ad 0 cap] w fun e w' => (∃ v, e = .returned (.tuple #[v, .bool false]) ∧ OwnsI w.heap.size w' v []) ∧ Below w.heap.size w w' := by
  refine (callsIn_wide (n := 0)).1 ?_
  refine callsIn_of_wp_marks Try.func7 rfl trivial ?_ rfl
  simp only [Try.ntmps7, List.size_toArray, List.length_cons, List.length_nil, Nat.reduceAdd, Nat.reduceSub, Array.replicate_succ, Array.replicate_zero, List.push_toArray, List.append_toArray, List.nil_append, List.cons_append]
  have hcv := Joins.run_convert_bytes_const_at (P := Try.prog) ((w.alloc (.cells #[.slice none 0 0] 23)).alloc (.cells #[.bool false] 4)) 22 5 #[.int .u8 104, .int .u8 114, .int .u8 49] 3 3 (w.heap.size + 1 + 1) (by simp) Try.underlying22 Try.underlying5
  gi_wp2_with fail
  obtain ⟨W3, hW3, k2, k3, k4, hb3⟩ := three_new w (.cells #[.slice none 0 0] 23) (.cells #[.bool false] 4) (.cells #[.int .u8 104, .int .u8 114, .int .u8 49] 5 (3, 4))
  rw [hW3]
  clear hW3 hcv k4
  refine ⟨trivial, rfl, (callsIn_wide.2 (cutNone_calls ad _ cap 3 W3)).mono ?_⟩
  rintro e W4 ⟨rfl, hb4⟩
  have j2 := (hb4.block _ (heap_lt k2)).trans k2
  have j3 := (hb4.block _ (heap_lt k3)).trans k3
  have hbw := hb3.trans (hb4.mono hb3.size)
  clear k2 k3 hb3 hb4
  have c2 := cell_of_heap j2 0
  have c3 := cell_of_heap j3 0
  have z2 := frozen_of_heap j2 0
  have z3 := frozen_of_heap j3 0
  simp at c2 c3
  have HJ2 := hid j2
  have HJ3 := hid j3
  have HBw := hid hbw
  clear j2 j3 hbw
  gi_wp2_with fail
  obtain ⟨s2, s3, sb⟩ := set_two HJ2.out HJ3.out HBw.out (.slice none 0 0) (.bool false)
  exact none_told rfl rfl s2 s3 sb

theorem implRead_any {W : World} {v : Value} {bs : List Int} (h : RawB W v bs) (hB : ∀ x ∈ bs, IsB x) :
    Calls Try.prog 7 #[v] W fun e w' => (∃ v', e = .returned (.tuple #[v', .bool (readZ bs).isSome]) ∧ OwnsI W.heap.size w' v' ((readZ bs).getD [])) ∧ Below W.heap.size W w' := by
  obtain ⟨ad, cap, rfl, hc, h⟩ := h
  rcases h with rfl | ⟨g, off, rfl, hg, hn⟩
  · rw [read_empty]
    exact implRead_none ad cap W
  · exact implRead_cap g off cap bs W hc hg hn hB

set_option maxRecDepth 100000 in
theorem implBytes_none (ad : Option Addr) (cap : Nat) (w : World) :
    Calls Try.prog 5 #[.slice ad 0 cap] w fun e w' => (∃ v, e = .returned (.tuple #[v, .bool true]) ∧ OutB w.heap.size w' v headBytes) ∧ Below w.heap.size w w' := by
  have HLn := hid (listNone_calls ad cap w)
  go_enter Try.func5, Try.ntmps5
  go_wp2_with fail
  refine HLn.out.mono ?_
  rintro e w1 ⟨rfl, hb1⟩
  have hcv := Joins.run_convert_bytes_const_at (P := Try.prog) w1 22 5 #[.int .u8 104, .int .u8 114, .int .u8 49] 3 3 w1.heap.size rfl Try.underlying22 Try.underlying5
  go_wp2_with fail
  refine wp_loop_rounds 1 ?_
  rw [rounds_succ]
  go_wp2
  go_ret2
  exact ⟨⟨_, rfl, Or.inr ⟨rfl, _, rfl, hb1.size, (MapKept.heap_alloc w1 _).1⟩⟩, hb1.alloc hb1.size _⟩

theorem implBytes_any {v : Value} {cs : List In} (w : World) (h : InsSlice w v cs) :
    Calls Try.prog 5 #[v] w fun e w' => (∃ v', e = .returned (.tuple #[v', .bool (codeOkZ cs)]) ∧ OutB w.heap.size w' v' (if codeOkZ cs then codeBytesZ cs else [])) ∧ Below w.heap.size w w' := by
  obtain ⟨ad, cap, rfl, h⟩ := h
  by_cases h0 : cs = []
  · subst h0
    exact implBytes_none ad cap w
  · obtain ⟨g, o, rfl, hb, hr⟩ := h.resolve_left h0
    exact implBytes_calls g o cap cs w hb hr

set_option maxRecDepth 100000 in
theorem hrCode_none (ad ad' : Option Addr) (cap cap' : Nat) (w : World) :
    Calls Try.prog 8 #[.slice ad 0 cap, .slice ad' 0 cap'] w fun e w' => e = .returned (.bool true) ∧ Below w.heap.size w w' := by
  go_enter Try.func8, Try.ntmps8
  go_wp2_with fail
  refine wp_loop_rounds 1 ?_
  rw [rounds_succ]
  go_wp2_with fail
  go_ret
  exact ⟨rfl, Below.refl _ _⟩

set_option maxHeartbeats 2000000 in
set_option maxRecDepth 100000 in
theorem hrCode_rows (b off b' off' cap cap' : Nat) (cs : List In) (w : World) (hn : InsAt w b off cs) (hn' : InsAt w b' off' cs) (hm : cs.length ≤ 1048576) :
    Calls Try.prog 8 #[.slice (some ⟨b, off, none⟩) cs.length cap, .slice (some ⟨b', off', none⟩) cs.length cap'] w fun e w' => e = .returned (.bool true) ∧ Below w.heap.size w w' := by
  obtain ⟨len, hlen⟩ : ∃ len, cs.length = len := ⟨_, rfl⟩
  have HM : Hid (len ≤ 1048576) := by show _ ≤ _; omega
  have HN := hid (And.intro hn (And.intro hn' hlen))
  rw [hlen]
  clear hm hn hn' hlen
  go_enter Try.func8, Try.ntmps8
  go_wp2_with fail
  go_loopw [5] (fun i wr => ∃ k : Nat, k ≤ len ∧ i = .int .i64 k ∧ Below w.heap.size w wr ∧ ∀ a, wr.cell? a = w.cell? a) (fun i _ => len - (intOf i).toNat)
  case atStart => exact ⟨0, Nat.zero_le _, rfl, Below.refl _ _, fun _ => rfl⟩
  case round =>
    obtain ⟨k, hk, rfl, hnx, hce⟩ := hrel
    by_cases hkl : (k : Int) < (len : Int)
    · have hkc : k < cs.length := by rw [HN.out.2.2]; omega
      have c0 := (hce _).trans (HN.out.1 k hkc 0 (by omega))
      have c1 := (hce _).trans (HN.out.1 k hkc 1 (by omega))
      have c2 := (hce _).trans (HN.out.1 k hkc 2 (by omega))
      have c3 := (hce _).trans (HN.out.1 k hkc 3 (by omega))
      have d0 := (hce _).trans (HN.out.2.1 k hkc 0 (by omega))
      have d1 := (hce _).trans (HN.out.2.1 k hkc 1 (by omega))
      have d2 := (hce _).trans (HN.out.2.1 k hkc 2 (by omega))
      have d3 := (hce _).trans (HN.out.2.1 k hkc 3 (by omega))
      obtain ⟨⟨op, x, y, z⟩, hi⟩ : ∃ i, cs.getD k default = i := ⟨_, rfl⟩
      rw [hi] at c0 c1 c2 c3 d0 d1 d2 d3
      simp only [In.cell, Nat.add_zero] at c0 c1 c2 c3 d0 d1 d2 d3
      have hi0 : (0 : Int) ≤ (k : Int) := by omega
      have Hce : Hid (∀ a, wr.cell? a = w.cell? a) := hce
      have hs : len - (intOf (.int .i64 ((k + 1 : Nat) : Int))).toNat < len - (intOf (.int .i64 (k : Int))).toNat := by simp only [intOf, Int.toNat_natCast]; omega
      clear hce hi hkc
      go_wp2_with fail
      go_region
      all_goals
        go_wp2_with fail
        try rw [wrap_inc (by omega) HM.out]
        exact ⟨⟨k + 1, by omega, rfl, hnx.drew, Hce.out⟩, hs⟩
    · go_wp2_with fail
      go_ret
      exact ⟨rfl, hnx⟩

theorem hrCode_any {v v' : Value} {cs : List In} (w : World) (hm : cs.length ≤ 1048576) (h : InsSlice w v cs) (h' : InsSlice w v' cs) :
    Calls Try.prog 8 #[v, v'] w fun e w' => e = .returned (.bool true) ∧ Below w.heap.size w w' := by
  obtain ⟨ad, cap, rfl, h⟩ := h
  obtain ⟨ad', cap', rfl, h'⟩ := h'
  by_cases h0 : cs = []
  · subst h0
    exact hrCode_none ad ad' cap cap' w
  · obtain ⟨g, o, rfl, -, hr⟩ := h.resolve_left h0
    obtain ⟨g', o', rfl, -, hr'⟩ := h'.resolve_left h0
    exact hrCode_rows g o g' o' cap cap' cs w hr hr' hm
end Go.Proofs.Ytnbmhopoiijhoaa

/- Drawn code, longer now and then; drawn bytes. -/
namespace Go.Proofs.Ytnbmhopoiijhoaa
open Go.RowKit Go.Deep

def lenOf : Value → Nat
  | .slice _ n _ => n
  | _ => 0

theorem insS_of {W : World} {B : Nat} {v : Value} {cs : List In} (h : W.ownsRow B 37 4 v cs.length (rowZ In.cell 4 cs)) : InsSlice W v cs := by
  have h' := h
  obtain ⟨-, ⟨rfl, h0⟩ | ⟨g, cap, cur, rfl, hB, hc, hr⟩⟩ := h
  · exact ⟨none, 0, by rw [h0], Or.inl (List.eq_nil_of_length_eq_zero h0)⟩
  · exact ⟨_, cap, rfl, Or.inr ⟨g, 0, rfl, heap_lt hc, ins_at h'⟩⟩

def DrawnK (W : World) (e : Ending) (W' : World) : Prop := ∃ v cs, e = .returned v ∧ InsSlice W' v cs ∧ cs.length ≤ 960000 ∧ Below W.heap.size W W'

def DrawnB (W : World) (e : Ending) (W' : World) : Prop := ∃ v bs, e = .returned v ∧ RawB W' v bs ∧ (∀ x ∈ bs, IsB x) ∧ Below W.heap.size W W'

/-- A row of one's own grows: the reader stays. -/
theorem rd_grown {d : Dr} {Y X X' : World} {p p0 : Nat} {v : Value} (h0 : Rdr d Y p0) (hr : Rdr d X p) (hg : Grew d Y X) (hgr : X.grownBy X' v.ownBlock) (hown : ∀ k, v.ownBlock = some k → Y.heap.size ≤ k) : Rdr d X' p ∧ Grew d Y X' := by
  have hB : d.B < Y.heap.size := heap_lt h0.blk
  have key : ∀ k, k < Y.heap.size → X'.heap[k]? = X.heap[k]? := fun k hk => hgr.block k (Nat.lt_of_lt_of_le hk hg.size) (fun e => by have := hown k e.symm; omega)
  refine ⟨⟨(key _ hB).trans hr.blk, fun hl => ?_⟩, ⟨hgr.os.trans hg.os, hgr.tape.trans hg.tape, hgr.output.trans hg.output, Nat.le_trans hg.size hgr.size, fun q hq => (key q hq.1).trans (hg.block q hq)⟩⟩
  obtain ⟨b, off, ea, hq, hz⟩ := hr.bytes hl
  have hbl := bytes_lowC h0 b off ea hl
  refine ⟨b, off, ea, ⟨Nat.lt_of_lt_of_le hq.1 hgr.size, hq.2⟩, fun i hi => ?_⟩
  obtain ⟨z, hz, h5⟩ := hz i hi
  exact ⟨z, (World.cell?_of_block (a := ⟨b, off + i, none⟩) (key b hbl)).trans hz, h5⟩

/-- The reader, newly opened. -/
theorem rdr_start (W : World) (a0 : Option Addr) (len cap m : Nat) (hm : m ≤ len) (hB : BytesAt W a0 len) : Rdr ⟨W.heap.size, W.heap.size, a0, m, cap⟩ (W.alloc (.cells #[.slice a0 m cap, .int .i64 0] 50)) 0 := by
  have hh := (MapKept.heap_alloc W (.cells #[.slice a0 m cap, .int .i64 0] 50)).1
  refine ⟨hh, fun h0 => ?_⟩
  obtain ⟨b, off, ea, hb, hz⟩ := hB (show 0 < len by have : 0 < m := h0; omega)
  refine ⟨b, off, ea, ⟨by simp; omega, by show b ≠ W.heap.size; omega, by show b ≠ W.heap.size; omega⟩, fun i hi => ?_⟩
  obtain ⟨z, hz, h1⟩ := hz i (by have : i < m := hi; omega)
  exact ⟨z, (((Below.refl W.heap.size W).alloc (Nat.le_refl _) _).cell (p := ⟨b, off + i, none⟩) hb).trans hz, h1⟩

set_option maxHeartbeats 4000000 in
set_option maxRecDepth 100000 in
theorem drawBytes_calls (a0 : Option Addr) (len cap : Nat) (W : World) (hl : len ≤ 1048576) (hc : len ≤ cap) (hB : BytesAt W a0 len) : Calls Try.prog 4 #[.slice a0 len cap] W (DrawnK W) := by
  have HO := hid (open_calls a0 len cap W (by omega) hc)
  have HB := hid hB
  clear hB
  go_enter Try.func4, Try.ntmps4
  go_wp2_with fail
  refine HO.out.mono ?_
  rintro e W1 ⟨rfl, m, hm, rfl⟩
  have HR := hid (rdr_start W a0 len cap m hm HB.out)
  have HW : Hid (Below W.heap.size W (W.alloc (.cells #[.slice a0 m cap, .int .i64 0] 50))) := (Below.refl _ _).alloc (Nat.le_refl _) _
  have HS : Hid ((W.alloc (.cells #[.slice a0 m cap, .int .i64 0] 50)).heap.size = W.heap.size + 1) := by show _ = _; simp
  obtain ⟨Y, hY⟩ : ∃ Y, W.alloc (.cells #[.slice a0 m cap, .int .i64 0] 50) = Y := ⟨_, rfl⟩
  rw [hY] at HR HW HS ⊢
  obtain ⟨d, hd⟩ : ∃ d : Dr, (⟨W.heap.size, W.heap.size, a0, m, cap⟩ : Dr) = d := ⟨_, rfl⟩
  have HD : Hid (d.B = W.heap.size ∧ d.G = W.heap.size) := by show _ ∧ _; rw [← hd]; exact ⟨rfl, rfl⟩
  rw [hd] at HR
  have HA := hid (code_calls (d := d) (HD.out.2.trans HD.out.1.symm) HR.out (by omega))
  rw [HD.out.1] at HA
  clear HO hm hY hd HB
  go_wp2_with fail
  refine HA.out.mono ?_
  rintro e W2 ⟨v, cs, q, rfl, hown, hlen, hrd, hq, hg⟩
  obtain ⟨av, cv, rfl⟩ := own_slice hown
  have HO := hid hown
  have HL := hid hlen
  have HRd := hid hrd
  have HQ := hid hq
  have HG := hid hg
  obtain ⟨L, hLL⟩ : ∃ L, cs.length = L := ⟨_, rfl⟩
  have HLL := hid hLL
  rw [hLL]
  clear hown hlen hrd hq hg HA hLL
  go_wp2_with fail
  have HP := hid (rdr_pick HRd.out (by have := HQ.out; omega) 60 (by decide))
  rw [HD.out.1] at HP
  refine HP.out.mono ?_
  rintro e W3 ⟨m6, rfl, hm0, hm1, hr3, hg3, -, -⟩
  have R3 := hid hr3
  have G3 := hid (HG.out.trans hg3)
  have O3 := hid (g_grew HO.out (by have := HD.out; have := HS.out; omega) (by have := HD.out; have := HS.out; omega) hg3)
  clear hr3 hg3 HP HO HG HRd
  by_cases h6 : m6 = 0
  · subst h6
    clear hm0 hm1
    go_wp2_with fail
    go_loopw [4] (fun c wr => ∃ (cs : List In) (L q j : Nat) (av : Option Addr) (cv : Nat), c = .slice av L cv ∧ Hid (cs.length = L) ∧ Hid (wr.ownsRow Y.heap.size 37 4 (.slice av L cv) cs.length (rowZ In.cell 4 cs)) ∧ Hid (cs.length ≤ 960000 ∧ q ≤ 200030 + j ∧ j ≤ cs.length ∧ j ≤ 1501) ∧ Hid (Rdr d wr q) ∧ Hid (Grew d Y wr)) (fun c _ => 1502 - lenOf c)
    case atStart => exact ⟨cs, L, q + 1, 0, av, cv, rfl, HLL, by rw [← HLL.out]; exact O3, ⟨by have := HL.out; omega, by have := HQ.out; omega, Nat.zero_le _, by omega⟩, R3, G3⟩
    case round =>
      clear HLL O3 HL R3 G3 HQ
      obtain ⟨cs, L, q, j, av, cv, rfl, HLL, HO, HI, HRd, HG⟩ := hrel
      have HP := hid (rdr_pick HRd.out (by have := HI.out; omega) 2 (by decide))
      rw [HD.out.1] at HP
      go_wp2_with fail
      refine HP.out.mono ?_
      rintro e W4 ⟨m2, rfl, h0, h1, hr4, hg4, -, -⟩
      have R4 := hid hr4
      have G4 := hid (HG.out.trans hg4)
      have O4 := hid (g_grew HO.out (by have := HD.out; have := HS.out; omega) (by have := HD.out; have := HS.out; omega) hg4)
      clear hr4 hg4 HP HO HG HRd
      by_cases hlt : (L : Int) < 1500 + m2
      · have HLt : Hid (L ≤ 1500) := by show _ ≤ _; omega
        have hstep : 1502 - lenOf (.slice none (L + 1) 0) < 1502 - lenOf (.slice none L 0) := by simp only [lenOf]; have := HLt.out; omega
        obtain ⟨i0, hi, hz0, hz1, hz2⟩ := info_parts info_insC
        have hD : Hid (Y.heap.size ≤ W4.heap.size) := G4.out.size
        go_wp2_with (first
          | (at_builtin; refine wpList_append_own _ rfl _ _ 23 rfl Y.heap.size 37 i0 (.agg #[.int .i64 0, .int .i64 0, .int .i64 0, .int .i64 0]) 4 32 Try.underlying23 hi hz0 hz1 hz2 rfl (by decide) _ _ _ rfl (World.ownsRow.alloc O4.out _) ⟨_, 0, none⟩ 1 1 [.int .i64 3, .int .i64 0, .int .i64 0, .int .i64 0] rfl rfl (cell_four_new _ _ rfl _ _ _ _ _) (fun u hu => by simp only [List.mem_cons, List.not_mem_nil, or_false] at hu; rcases hu with rfl | rfl | rfl | rfl <;> rfl) (by have := HLL.out; have := HLt.out; unfold maxLen; omega) (by have := HLL.out; have := HLt.out; omega) (by have := hD.out; simp; omega) ?_
             intro v' w3 hown3 hgrow3 _
             have HX3 : Hid (w3.ownsRow Y.heap.size 37 4 v' (L + 1) (rowZ In.cell 4 (cs ++ [⟨3, 0, 0, 0⟩]))) := by
               show World.ownsRow _ _ _ _ _ _ _
               rw [rowZ_app, ← HLL.out]
               exact hown3
             have hrg := rd_grown HR.out (R4.out.below ((Below.refl _ _).alloc (Nat.le_refl _) _)) (G4.out.alloc _) hgrow3 (fun k hk => (O4.out.lt k hk).1)
             have HRG := hid hrg
             clear hown3 hgrow3 hrg
             obtain ⟨av', cv', rfl⟩ := own_slice HX3.out))
        have HLn : Hid ((cs ++ [(⟨3, 0, 0, 0⟩ : In)]).length = L + 1) := by show _ = _; rw [List.length_append, HLL.out]; rfl
        exact ⟨⟨cs ++ [⟨3, 0, 0, 0⟩], L + 1, q + 1, j + 1, av', cv', rfl, HLn, by rw [HLn.out]; exact HX3, ⟨by rw [HLn.out]; have := HLt.out; omega, by have := HI.out; omega, by rw [HLn.out]; have := HI.out; have := HLL.out; omega, by have := HI.out; have := HLL.out; have := HLt.out; omega⟩, HRG.out.1, HRG.out.2⟩, hstep⟩
      · go_wp2_with fail
        go_ret
        exact ⟨_, cs, rfl, insS_of O4.out, by have := HI.out; omega, HW.out.trans (G4.out.below (by have := HW.out.size; omega) (by rw [HD.out.1]; exact Nat.le_refl _) (by rw [HD.out.2]; exact Nat.le_refl _))⟩
  · have h6' : (m6 == 0) = false := by simp [h6]
    go_wp2_with fail
    go_ret
    exact ⟨_, cs, rfl, insS_of (by rw [← HLL.out]; exact O3.out), HL.out, HW.out.trans (G3.out.below (by have := HW.out.size; omega) (by rw [HD.out.1]; exact Nat.le_refl _) (by rw [HD.out.2]; exact Nat.le_refl _))⟩
end Go.Proofs.Ytnbmhopoiijhoaa

/- Drawn bytes. -/
namespace Go.Proofs.Ytnbmhopoiijhoaa
open Go.RowKit Go.Deep

/-- A byte of one's own row is written. -/
theorem owns_byte {B g cap k : Nat} {X : World} {bs : List Int} (h : OwnsB B X (.slice (some ⟨g, 0, none⟩) bs.length cap) bs) (x : Int) : OwnsB B (X.setCell ⟨g, k, none⟩ (.int .u8 x)) (.slice (some ⟨g, 0, none⟩) bs.length cap) (bs.set k x) := by
  unfold OwnsB at h ⊢
  rw [List.length_set, List.map_set]
  exact (World.ownsRow.stored h k (.int .u8 x)).1

theorem set_isB {bs : List Int} {k : Nat} {x : Int} (h : ∀ y ∈ bs, IsB y) (hx : IsB x) : ∀ y ∈ bs.set k x, IsB y := fun y hy => by
  rcases List.mem_or_eq_of_mem_set hy with h1 | rfl
  · exact h y h1
  · exact hx

theorem raw_take {B : Nat} {W : World} {bs : List Int} {g cap k : Nat} (h : OwnsB B W (.slice (some ⟨g, 0, none⟩) bs.length cap) bs) (hk : k ≤ bs.length) : RawB W (.slice (some ⟨g, 0, none⟩) k cap) (bs.take k) := by
  obtain ⟨ad, cap', e, hc, h'⟩ := raw_of_owns h
  cases e
  have hl : (bs.take k).length = k := by rw [List.length_take]; omega
  refine ⟨_, cap, by rw [hl], by omega, ?_⟩
  rcases h' with rfl | ⟨g', off, e, hg, hn⟩
  · exact Or.inl (by simp)
  · cases e
    exact Or.inr ⟨g, 0, rfl, hg, hn.take k⟩

theorem shl_fits {m : Int} (h0 : 0 ≤ m) (h1 : m < 8) : IntKind.u8.wrap (2 ^ m.toNat) = 2 ^ m.toNat := by
  have h : m = 0 ∨ m = 1 ∨ m = 2 ∨ m = 3 ∨ m = 4 ∨ m = 5 ∨ m = 6 ∨ m = 7 := by omega
  rcases h with rfl | rfl | rfl | rfl | rfl | rfl | rfl | rfl <;> rfl

set_option maxHeartbeats 8000000 in
set_option maxRecDepth 100000 in
theorem drawRead_calls (a0 : Option Addr) (len cap : Nat) (W : World) (hl : len ≤ 1048576) (hc : len ≤ cap) (hB : BytesAt W a0 len) : Calls Try.prog 9 #[.slice a0 len cap] W (DrawnB W) := by
  have HO := hid (open_calls a0 len cap W (by omega) hc)
  have HB := hid hB
  clear hB
  go_enter Try.func9, Try.ntmps9
  go_wp2_with fail
  refine HO.out.mono ?_
  rintro e W1 ⟨rfl, m, hm, rfl⟩
  have HR := hid (rdr_start W a0 len cap m hm HB.out)
  have HW : Hid (Below W.heap.size W (W.alloc (.cells #[.slice a0 m cap, .int .i64 0] 50))) := (Below.refl _ _).alloc (Nat.le_refl _) _
  have HS : Hid ((W.alloc (.cells #[.slice a0 m cap, .int .i64 0] 50)).heap.size = W.heap.size + 1) := by show _ = _; simp
  obtain ⟨Y, hY⟩ : ∃ Y, W.alloc (.cells #[.slice a0 m cap, .int .i64 0] 50) = Y := ⟨_, rfl⟩
  rw [hY] at HR HW HS ⊢
  obtain ⟨d, hd⟩ : ∃ d : Dr, (⟨W.heap.size, W.heap.size, a0, m, cap⟩ : Dr) = d := ⟨_, rfl⟩
  have HD : Hid (d.B = W.heap.size ∧ d.G = W.heap.size) := by show _ ∧ _; rw [← hd]; exact ⟨rfl, rfl⟩
  rw [hd] at HR
  have HA := hid (code_calls (d := d) (HD.out.2.trans HD.out.1.symm) HR.out (by omega))
  rw [HD.out.1] at HA
  clear HO hm hY hd HB
  go_wp2_with fail
  refine HA.out.mono ?_
  rintro e W2 ⟨v, cs, q, rfl, hown, -, hrd, hq, hg⟩
  have HCb := hid (specBytes_any W2 (insS_of hown))
  have HRd := hid hrd
  have HQ := hid hq
  have HG := hid hg
  obtain ⟨av, cv, rfl⟩ := own_slice hown
  clear hown hrd hq hg HA
  go_wp2_with fail
  refine HCb.out.mono ?_
  rintro e W3 ⟨⟨vb, rfl, hvb⟩, hb3⟩
  obtain ⟨bs, hbs⟩ : ∃ bs, (if codeOkZ cs then codeBytesZ cs else []) = bs := ⟨_, rfl⟩
  rw [hbs] at hvb
  have HIs : Hid (∀ x ∈ bs, IsB x) := by
    show ∀ x, _
    rw [← hbs]
    split
    · exact enc_isB cs
    · intro x hx; cases hx
  have HLn : Hid (bs.length ≤ 20000) := by
    show _ ≤ _
    rw [← hbs]
    split
    · rename_i h
      unfold codeOkZ at h
      rw [Bool.and_eq_true] at h
      have h1 := of_decide_eq_true h.1
      have h2 := code_length cs
      simp only [codeBytesZ, headBytes, List.length_append, List.length_cons, List.length_nil]
      omega
    · exact Nat.zero_le _
  generalize codeOkZ cs = okc at *
  have O3 : Hid (OwnsB Y.heap.size W3 vb bs) := hvb.mono HG.out.size
  have R3 := hid (HRd.out.below hb3)
  have G3 := hid (HG.out.trans (Grew.of_below hb3))
  clear hvb hb3 hbs HCb HRd HG
  have FIN : Hid (∀ (v : Value) (bs : List Int) (X : World), RawB X v bs → (∀ x ∈ bs, IsB x) → Grew d Y X → DrawnB W (.returned v) X) := fun v bs X h1 h2 h3 =>
    ⟨v, bs, rfl, h1, h2, HW.out.trans (h3.below (by have := HW.out.size; omega) (by rw [HD.out.1]; exact Nat.le_refl _) (by rw [HD.out.2]; exact Nat.le_refl _))⟩
  obtain ⟨n, hn⟩ : ∃ n, bs.length = n := ⟨_, rfl⟩
  have HN := hid hn
  obtain ⟨ab, cb, rfl⟩ := own_slice O3.out
  rw [hn] at O3 HLn ⊢
  clear hn
  by_cases h0 : (0 : Int) < (n : Int)
  case neg =>
    have hn0 : n = 0 := by omega
    subst hn0
    go_wp2_with fail
    go_ret
    exact FIN.out _ bs _ (raw_of_owns O3.out) HIs.out G3.out
  obtain ⟨g, hgv⟩ : ∃ g, ab = some ⟨g, 0, none⟩ := by
    have h1 := HN.out
    obtain ⟨-, ⟨-, h2⟩ | ⟨g, cap, cur, e, -⟩⟩ := O3.out
    · omega
    · cases e
      exact ⟨g, rfl⟩
  subst hgv
  have HP := hid (rdr_pick R3.out (by have := HQ.out; omega) 8 (by decide))
  rw [HD.out.1] at HP
  go_wp2_with fail
  refine HP.out.mono ?_
  rintro e W4 ⟨m8, rfl, hm0, hm1, hr4, hg4, -, -⟩
  have R4 := hid hr4
  have G4 := hid (G3.out.trans hg4)
  have O4 : Hid (OwnsB Y.heap.size W4 (.slice (some ⟨g, 0, none⟩) n cb) bs) := g_grew O3.out (by have := HD.out; have := HS.out; omega) (by have := HD.out; have := HS.out; omega) hg4
  clear hr4 hg4 HP O3 R3 G3
  by_cases e0 : m8 = 0
  · subst e0
    clear hm0 hm1
    have HP := hid (rdr_pick R4.out (by have := HQ.out; omega) (n : Int) h0)
    rw [HD.out.1] at HP
    go_wp2_with fail
    refine HP.out.mono ?_
    rintro e W5 ⟨mk, rfl, hk0, hk1, hr5, hg5, -, -⟩
    obtain ⟨k, rfl⟩ : ∃ k : Nat, mk = (k : Int) := ⟨mk.toNat, by omega⟩
    have R5 := hid hr5
    have G5 := hid (G4.out.trans hg5)
    have O5 : Hid (OwnsB Y.heap.size W5 (.slice (some ⟨g, 0, none⟩) n cb) bs) := g_grew O4.out (by have := HD.out; have := HS.out; omega) (by have := HD.out; have := HS.out; omega) hg5
    clear hr5 hg5 HP O4 R4 G4
    have HCe : Hid (∀ X, OwnsB Y.heap.size X (.slice (some ⟨g, 0, none⟩) n cb) bs → X.cell? ⟨g, k, none⟩ = some (.int .u8 (bs.getD k 0))) := fun X h => by
      have hkn : k < bs.length := by have := HN.out; omega
      have h' : OwnsB Y.heap.size X (.slice (some ⟨g, 0, none⟩) bs.length cb) bs := by
        rw [← HN.out] at h
        exact h
      rw [World.ownsRow.cellAt h' k (by omega)]
      simp [List.getD, hkn]
    have HFz : Hid (∀ X, OwnsB Y.heap.size X (.slice (some ⟨g, 0, none⟩) n cb) bs → X.frozen? ⟨g, k, none⟩ = false) := fun X h => by
      obtain ⟨-, cur, h2⟩ := g_type h (g := g) rfl
      exact frozen_of_heap h2 k
    have HSt : Hid (∀ X y, OwnsB Y.heap.size X (.slice (some ⟨g, 0, none⟩) n cb) bs → Grew d Y X → OwnsB Y.heap.size (X.setCell ⟨g, k, none⟩ (.int .u8 y)) (.slice (some ⟨g, 0, none⟩) n cb) (bs.set k y) ∧ Grew d Y (X.setCell ⟨g, k, none⟩ (.int .u8 y))) := fun X y h hg => by
      have hgl := (World.ownsRow.lt h g rfl).1
      have h3 := HN.out
      refine ⟨by rw [← h3] at h ⊢; exact owns_byte h y, ⟨hg.os, hg.tape, hg.output, by simpa [World.setCell] using hg.size, fun q hq => (Below.heap_setCell X ⟨g, k, none⟩ _ q (by have := hq.1; dsimp only; omega)).trans (hg.block q hq)⟩⟩
    obtain ⟨x, hx⟩ : ∃ x, bs.getD k 0 = x := ⟨_, rfl⟩
    rw [hx] at HCe
    clear hx
    go_upto_region 7 with fail
    have hD : Below W5.heap.size W5 W5.drew := (Below.refl _ _).drew
    obtain ⟨D, hDe⟩ : ∃ D, W5.drew = D := ⟨_, rfl⟩
    rw [hDe] at hD
    have RD := hid (R5.out.below hD)
    have GD := hid (G5.out.trans (Grew.of_below hD))
    have OD : Hid (OwnsB Y.heap.size D (.slice (some ⟨g, 0, none⟩) n cb) bs) := kept_owns O5.out hD
    have HPk := hid (rdr_pick RD.out (by have := HQ.out; omega) 8 (by decide))
    rw [HD.out.1] at HPk
    refine pick_begin (S := fun _ => True) (by kernel_rfl) rfl rfl ?_
    rw [hDe]
    clear hDe hD O5 R5 G5
    refine pick_op (i := 0) (v := .slice (some ⟨g, 0, none⟩) n cb) (by kernel_rfl) rfl (by kernel_rfl) (by kernel_rfl) rfl rfl (fun w' _ => by simp [go_sem]) trivial (by simp [go_sem]; exact rfl) ?_
    refine pick_op (i := 1) (v := .int .i64 (k : Int)) (by kernel_rfl) rfl (by kernel_rfl) (by kernel_rfl) rfl rfl (fun w' _ => by simp [go_sem]) trivial (by simp [go_sem]; exact rfl) ?_
    refine pick_op (i := 2) (v := .slice (some ⟨g, 0, none⟩) n cb) (by kernel_rfl) rfl (by kernel_rfl) (by kernel_rfl) rfl rfl (fun w' _ => by simp [go_sem]) trivial (by simp [go_sem]; exact rfl) ?_
    refine pick_op (i := 3) (v := .int .i64 (k : Int)) (by kernel_rfl) rfl (by kernel_rfl) (by kernel_rfl) rfl rfl (fun w' _ => by simp [go_sem]) trivial (by simp [go_sem]; exact rfl) ?_
    refine pick_op (i := 4) (v := .pointer (some ⟨g, k, none⟩)) (by kernel_rfl) rfl (by kernel_rfl) (by kernel_rfl) rfl rfl (fun w' _ => by simp [go_sem, hk0, hk1]) trivial (by simp [go_sem]; exact rfl) ?_
    refine pick_op (i := 6) (v := .pointer (some ⟨W.heap.size, 0, none⟩)) (by kernel_rfl) rfl (by kernel_rfl) (by kernel_rfl) rfl rfl (fun w' _ => by simp [go_sem]) trivial (by simp [go_sem]; exact rfl) ?_
    refine pick_either (i := 5) (j := 7) (by kernel_rfl) ?_ ?_
    · have c1 := HCe.out D OD.out
      refine ⟨_, .int .u8 x, D, rfl, rfl, by simp [go_sem, c1], trivial, ?_⟩
      refine pick_frame (by simp [go_sem]; exact rfl) ?_
      clear c1
      refine pick_enter (i := 7) (f := 13) (args := #[.pointer (some ⟨W.heap.size, 0, none⟩), .int .i64 8]) rfl (by kernel_rfl) rfl rfl (by simp [go_sem]) ?_
      refine HPk.out.mono ?_
      rintro e W7 ⟨m9, rfl, hm0, hm1, hr7, hg7, -, ho7⟩
      have O7 : Hid (OwnsB Y.heap.size W7 (.slice (some ⟨g, 0, none⟩) n cb) bs) := g_grew OD.out (by have := HD.out; have := HS.out; omega) (by have := HD.out; have := HS.out; omega) hg7
      have G7 := hid (GD.out.trans hg7)
      clear hr7 hg7 ho7
      refine ⟨_, rfl, trivial, ?_⟩
      refine pick_frame (by simp [go_sem]; exact rfl) ?_
      have c1 := HCe.out W7 O7.out
      have z1 := HFz.out W7 O7.out
      refine pick_op (i := 8) (v := .int .u8 (2 ^ m9.toNat)) (by kernel_rfl) rfl (by kernel_rfl) (by kernel_rfl) rfl rfl (fun w' _ => by simp [go_sem]; exact shl_fits hm0 hm1) trivial (by simp [go_sem]; exact rfl) ?_
      obtain ⟨sh, hsh⟩ : ∃ z : Int, (2 : Int) ^ m9.toNat = z := ⟨_, rfl⟩
      rw [hsh]
      clear hsh
      refine pick_op (i := 9) (v := .int .u8 (bits .xor .u8 x sh)) (by kernel_rfl) rfl (by kernel_rfl) (by kernel_rfl) rfl rfl (fun w' _ => by simp [go_sem]) trivial (by simp [go_sem]; exact rfl) ?_
      have HBy : Hid (IsB (bits .xor .u8 x sh)) := ⟨bits_lo_u8 _ _ _, by have := bits_hi_u8 .xor x sh; omega⟩
      obtain ⟨by_, hby⟩ : ∃ z : Int, bits .xor .u8 x sh = z := ⟨_, rfl⟩
      rw [hby] at HBy ⊢
      clear hby
      refine pick_op (i := 10) (v := .pointer (some ⟨g, k, none⟩)) (by kernel_rfl) rfl (by kernel_rfl) (by kernel_rfl) rfl rfl (fun w' _ => by simp [go_sem, hk0, hk1]) trivial (by simp [go_sem]; exact rfl) ?_
      refine pick_skip (i := 11) rfl (w1 := W7.setCell ⟨g, k, none⟩ (.int .u8 by_)) rfl (by kernel_rfl) rfl rfl (by simp [go_sem, c1, z1]) trivial ?_
      refine pick_end (by kernel_rfl) ?_
      have HQ8 := hid (HSt.out W7 by_ O7.out G7.out)
      generalize W7.setCell ⟨g, k, none⟩ (.int .u8 by_) = Z at *
      clear c1 z1
      go_wp2_with fail
      go_ret
      exact FIN.out _ (bs.set k by_) _ (raw_of_owns HQ8.out.1) (set_isB HIs.out HBy.out) HQ8.out.2
    · refine ⟨_, 13, #[.pointer (some ⟨W.heap.size, 0, none⟩), .int .i64 8], rfl, rfl, by simp [go_sem], ?_⟩
      refine HPk.out.mono ?_
      rintro e W7 ⟨m9, rfl, hm0, hm1, hr7, hg7, -, ho7⟩
      have O7 : Hid (OwnsB Y.heap.size W7 (.slice (some ⟨g, 0, none⟩) n cb) bs) := g_grew OD.out (by have := HD.out; have := HS.out; omega) (by have := HD.out; have := HS.out; omega) hg7
      have G7 := hid (GD.out.trans hg7)
      clear hr7 hg7 ho7
      refine ⟨_, rfl, trivial, ?_⟩
      refine pick_frame (by simp [go_sem]; exact rfl) ?_
      have c1 := HCe.out W7 O7.out
      have z1 := HFz.out W7 O7.out
      refine pick_op (i := 8) (v := .int .u8 (2 ^ m9.toNat)) (by kernel_rfl) rfl (by kernel_rfl) (by kernel_rfl) rfl rfl (fun w' _ => by simp [go_sem]; exact shl_fits hm0 hm1) trivial (by simp [go_sem]; exact rfl) ?_
      refine pick_make (i := 5) (v := .int .u8 x) (w1 := W7) rfl (by kernel_rfl) rfl rfl (by simp [go_sem, c1]) trivial (by simp [go_sem]; exact rfl) ?_
      obtain ⟨sh, hsh⟩ : ∃ z : Int, (2 : Int) ^ m9.toNat = z := ⟨_, rfl⟩
      rw [hsh]
      clear hsh
      refine pick_op (i := 9) (v := .int .u8 (bits .xor .u8 x sh)) (by kernel_rfl) rfl (by kernel_rfl) (by kernel_rfl) rfl rfl (fun w' _ => by simp [go_sem]) trivial (by simp [go_sem]; exact rfl) ?_
      have HBy : Hid (IsB (bits .xor .u8 x sh)) := ⟨bits_lo_u8 _ _ _, by have := bits_hi_u8 .xor x sh; omega⟩
      obtain ⟨by_, hby⟩ : ∃ z : Int, bits .xor .u8 x sh = z := ⟨_, rfl⟩
      rw [hby] at HBy ⊢
      clear hby
      refine pick_op (i := 10) (v := .pointer (some ⟨g, k, none⟩)) (by kernel_rfl) rfl (by kernel_rfl) (by kernel_rfl) rfl rfl (fun w' _ => by simp [go_sem, hk0, hk1]) trivial (by simp [go_sem]; exact rfl) ?_
      refine pick_skip (i := 11) rfl (w1 := W7.setCell ⟨g, k, none⟩ (.int .u8 by_)) rfl (by kernel_rfl) rfl rfl (by simp [go_sem, c1, z1]) trivial ?_
      refine pick_end (by kernel_rfl) ?_
      have HQ8 := hid (HSt.out W7 by_ O7.out G7.out)
      generalize W7.setCell ⟨g, k, none⟩ (.int .u8 by_) = Z at *
      clear c1 z1
      go_wp2_with fail
      go_ret
      exact FIN.out _ (bs.set k by_) _ (raw_of_owns HQ8.out.1) (set_isB HIs.out HBy.out) HQ8.out.2
  by_cases e1 : m8 = 1
  · subst e1
    clear hm0 hm1 e0
    have HP := hid (rdr_pick R4.out (by have := HQ.out; omega) (n : Int) h0)
    rw [HD.out.1] at HP
    go_wp2_with fail
    refine HP.out.mono ?_
    rintro e W5 ⟨mk, rfl, hk0, hk1, hr5, hg5, -, -⟩
    obtain ⟨k, rfl⟩ : ∃ k : Nat, mk = (k : Int) := ⟨mk.toNat, by omega⟩
    have G5 := hid (G4.out.trans hg5)
    have O5 : Hid (OwnsB Y.heap.size W5 (.slice (some ⟨g, 0, none⟩) n cb) bs) := g_grew O4.out (by have := HD.out; have := HS.out; omega) (by have := HD.out; have := HS.out; omega) hg5
    have HCp : (n : Int) ≤ (cb : Int) := by
      obtain ⟨ad, cap', e, hc, -⟩ := raw_of_owns O4.out
      cases e
      have := HN.out
      omega
    clear hr5 hg5 HP O4 R4 G4
    go_wp2_with fail
    go_ret
    exact FIN.out _ (bs.take k) _ (raw_take (by rw [HN.out]; exact O5.out) (by have := HN.out; omega)) (fun x hx => HIs.out x (List.mem_of_mem_take hx)) G5.out
  by_cases e2 : m8 = 2
  · subst e2
    clear hm0 hm1 e0 e1
    have HP := hid (rdr_pick R4.out (by have := HQ.out; omega) 30 (by decide))
    rw [HD.out.1] at HP
    go_wp2_with fail
    refine HP.out.mono ?_
    rintro e W5 ⟨mk, rfl, hk0, hk1, hr5, hg5, -, -⟩
    have R5 := hid hr5
    have G5 := hid (G4.out.trans hg5)
    have O5 : Hid (OwnsB Y.heap.size W5 (.slice (some ⟨g, 0, none⟩) n cb) bs) := g_grew O4.out (by have := HD.out; have := HS.out; omega) (by have := HD.out; have := HS.out; omega) hg5
    clear hr5 hg5 HP O4 R4 G4
    obtain ⟨i0, hi, hz0, hz1, hz2⟩ := info_parts info_byte
    have hD : Hid (Y.heap.size ≤ W5.heap.size) := G5.out.size
    have HMk : Hid (IsB mk) := ⟨hk0, by omega⟩
    go_wp2_with (first
      | (at_builtin; refine wpList_append_own _ rfl _ _ 22 rfl Y.heap.size 5 i0 (.int .u8 0) 1 1 Try.underlying22 hi hz0 hz1 hz2 rfl (by decide) _ _ _ rfl (World.ownsRow.alloc O5.out _) ⟨_, 0, none⟩ 1 1 [.int .u8 mk] rfl rfl (cell_oneC _ _ rfl _ _) (fun u hu => by rw [List.mem_singleton] at hu; subst hu; rfl) (by have := HN.out; have := HLn.out; unfold maxLen; omega) (by have := HN.out; have := HLn.out; omega) (by have := hD.out; simp; omega) ?_
         intro v' w3 hown3 hgrow3 _
         have HX3 : Hid (OwnsB Y.heap.size w3 v' (bs ++ [mk])) := OwnsB.more (ns := [mk]) hown3 rfl rfl
         have hrg := rd_grown HR.out (R5.out.below ((Below.refl _ _).alloc (Nat.le_refl _) _)) (G5.out.alloc _) hgrow3 (fun k hk => (World.ownsRow.lt O5.out k hk).1)
         have HRG := hid hrg
         clear hown3 hgrow3 hrg))
    go_ret
    refine FIN.out _ (bs ++ [mk]) _ (raw_of_owns HX3.out) (fun x hx => ?_) HRG.out.2
    rcases List.mem_append.1 hx with h | h
    · exact HIs.out x h
    · rw [List.mem_singleton] at h
      subst h
      exact HMk.out
  · have z0 : (m8 == 0) = false := by simp [e0]
    have z1 : (m8 == 1) = false := by simp [e1]
    have z2 : (m8 == 2) = false := by simp [e2]
    clear e0 e1 e2
    go_wp2_with fail
    go_ret
    exact FIN.out _ bs _ (raw_of_owns O4.out) HIs.out G4.out
end Go.Proofs.Ytnbmhopoiijhoaa

/- The law of code that is written and read back, walked: whatever is drawn. -/
namespace Go.Proofs.Ytnbmhopoiijhoaa
open Go.RowKit Go.Deep

theorem insS_owns {B : Nat} {W : World} {v : Value} {cs : List In} (h : OwnsI B W v cs) : InsSlice W v cs := h.sliceR.insSlice

theorem read_len {bs : List Int} (hb : ∀ x ∈ bs, IsB x) : ((readZ bs).getD []).length ≤ 1500 := by
  cases h : readZ bs with
  | none => exact Nat.zero_le _
  | some c =>
    have h1 := (read_some hb h).1
    unfold codeOkZ at h1
    rw [Bool.and_eq_true] at h1
    exact of_decide_eq_true h1.1

theorem strS_same (S : ByteArray) : (S.toList != S.toList) = false := by simp
theorem strS_eq (S : ByteArray) : (S.toList == S.toList) = true := by simp

theorem raw_cut {W : World} {ad : Option Addr} {n cap k : Nat} {bs : List Int} (h : RawB W (.slice ad n cap) bs) (hk : k ≤ bs.length) : RawB W (.slice ad k cap) (bs.take k) := by
  obtain ⟨ad', cap', e, hc, h'⟩ := h
  cases e
  have hl : (bs.take k).length = k := by rw [List.length_take]; omega
  refine ⟨_, cap, by rw [hl], by omega, ?_⟩
  rcases h' with rfl | ⟨g, off, e, hg, hn⟩
  · exact Or.inl (by simp)
  · exact Or.inr ⟨g, off, e, hg, hn.take k⟩

def BackP (W : World) (e : Ending) (W' : World) : Prop := e = .returned (.bool true) ∧ Below W.heap.size W W'

/-- What the second half asks for, from any later world on. -/
structure RestB (W : World) (a1 : Option Addr) (len1 cap1 : Nat) : Prop where
  len : len1 ≤ 1048576
  cap : len1 ≤ cap1
  bytes : BytesAt W a1 len1

set_option maxHeartbeats 8000000 in
set_option maxRecDepth 100000 in
theorem back_walk (a0 a1 : Option Addr) (len cap len1 cap1 : Nat) (W : World) (hcap : len ≤ cap) (hcap1 : len1 ≤ cap1) (hB : BytesAt W a0 len) (hB1 : BytesAt W a1 len1) :
    Calls Try.prog 3 #[.slice a0 len cap, .slice a1 len1 cap1] W (BackP W) := by
  by_cases hl : (1048576 : Int) < (len : Int)
  · go_enter Try.func3, Try.ntmps3
    go_wp2_with fail
    go_ret
    exact ⟨rfl, Below.refl _ _⟩
  by_cases hl1 : (1048576 : Int) < (len1 : Int)
  · go_enter Try.func3, Try.ntmps3
    go_wp2_with fail
    go_ret
    exact ⟨rfl, Below.refl _ _⟩
  have HDr := hid (drawBytes_calls a0 len cap W (by omega) hcap hB)
  have HRs : Hid (RestB W a1 len1 cap1) := ⟨by omega, hcap1, hB1⟩
  have HLe : Hid ((len1 : Int) ≤ 1048576) := by show _ ≤ _; omega
  clear hB hB1 hcap hcap1
  go_enter Try.func3, Try.ntmps3
  go_wp2_with fail
  refine HDr.out.mono ?_
  rintro e W1 ⟨v, cs, rfl, hv, hc, hb1⟩
  obtain ⟨av, cv, rfl, -⟩ := id hv
  obtain ⟨L, hLL⟩ : ∃ L, cs.length = L := ⟨_, rfl⟩
  rw [hLL] at hv hc ⊢
  have HLL := hid hLL
  have HV := hid hv
  have HC := hid hc
  have HB1 := hid hb1
  have HI := hid (implBytes_any W1 hv)
  obtain ⟨BS, hBS⟩ : ∃ BS, (if codeOkZ cs then codeBytesZ cs else []) = BS := ⟨_, rfl⟩
  have HIs : Hid (∀ x ∈ BS, IsB x) := by
    show ∀ x, _
    rw [← hBS]
    split
    · exact enc_isB cs
    · intro x hx; cases hx
  have HBS := hid hBS
  obtain ⟨ok, hok⟩ : ∃ ok, codeOkZ cs = ok := ⟨_, rfl⟩
  have HOk := hid hok
  rw [hBS, hok] at HI
  clear HDr hv hc hb1 hl hl1 hLL hBS hok
  go_wp2_with fail
  refine HI.out.mono ?_
  rintro e W2 ⟨⟨vb, rfl, hvb⟩, hb2⟩
  have hrb := raw_of_out hvb
  obtain ⟨ab, cb, rfl, hcb, -⟩ := id hrb
  obtain ⟨nb, hnb⟩ : ∃ nb, BS.length = nb := ⟨_, rfl⟩
  have HNb := hid (And.intro hnb hcb)
  rw [hnb] at hrb ⊢
  have HRb := hid hrb
  have HV2 := hid (HV.out.below hb2)
  have HB2 := hid (HB1.out.trans (hb2.mono HB1.out.size))
  have HSp := hid (specBytes_any W2 HV2.out)
  rw [HBS.out, HOk.out] at HSp
  clear hvb hrb hb2 hcb hnb HV HB1 HI
  go_wp2_with fail
  refine HSp.out.mono ?_
  rintro e W3 ⟨⟨vw, rfl, hvw⟩, hb3⟩
  have hrw := raw_of_owns hvw
  obtain ⟨aw, cw, rfl, -, -⟩ := id hrw
  have HR3 := hid (HRb.out.below hb3)
  have HV3 := hid (HV2.out.below hb3)
  have HB3 := hid (HB2.out.trans (hb3.mono HB2.out.size))
  have hcv1 := raw_string HR3.out HIs.out
  have hcv2 := raw_string hrw HIs.out
  clear hvw hrw hb3 HV2 HB2 HRb HSp
  obtain ⟨nw, hnw⟩ : ∃ nw, BS.length = nw := ⟨_, rfl⟩
  rw [hnw] at hcv2 ⊢
  clear hnw
  obtain ⟨SB, hSB⟩ : ∃ SB, byteStr BS = SB := ⟨_, rfl⟩
  rw [hSB] at hcv1 hcv2
  clear hSB
  have hss := strS_same SB
  cases ok with
  | false =>
    go_wp2_with fail
    clear hcv1 hcv2 hss
    have HDr := hid (drawRead_calls a1 len1 cap1 W3 HRs.out.len HRs.out.cap (HRs.out.bytes.below HB3.out))
    refine HDr.out.mono ?_
    rintro e W6 ⟨vr, bs, rfl, hvr, hisb, hb6⟩
    obtain ⟨ar, cr, rfl, -, -⟩ := id hvr
    obtain ⟨nr, hnr⟩ : ∃ nr, bs.length = nr := ⟨_, rfl⟩
    rw [hnr] at hvr ⊢
    have HVr := hid hvr
    have HI6 := hid hisb
    have HB6 := hid (HB3.out.trans (hb6.mono HB3.out.size))
    have HIr := hid (implRead_any hvr hisb)
    clear hvr hisb hb6 hnr HDr
    go_wp2_with fail
    refine HIr.out.mono ?_
    rintro e W7 ⟨⟨vx, rfl, hvx⟩, hb7⟩
    have HX7 := hid (insS_owns hvx)
    obtain ⟨ax, cx, rfl, -⟩ := id HX7.out
    have HVr7 := hid (HVr.out.below hb7)
    have HB7 := hid (HB6.out.trans (hb7.mono HB6.out.size))
    have HSr := hid (specRead_any HVr7.out HI6.out)
    clear hvx hb7 HVr HB6 HIr
    obtain ⟨Z, hZ⟩ : ∃ Z, readZ bs = Z := ⟨_, rfl⟩
    have HZ := hid hZ
    rw [hZ] at HX7 HSr ⊢
    clear hZ
    go_wp2_with fail
    refine HSr.out.mono ?_
    rintro e W8 ⟨⟨vy, rfl, hvy⟩, hb8⟩
    have HY8 := hid (insS_owns hvy)
    obtain ⟨ay, cy, rfl, -⟩ := id HY8.out
    have HX8 := hid (HX7.out.below hb8)
    have HVr8 := hid (HVr7.out.below hb8)
    have HB8 := hid (HB7.out.trans (hb8.mono HB7.out.size))
    have HHr := hid (hrCode_any W8 (by rw [← HZ.out]; have := read_len HI6.out; omega) HX8.out HY8.out)
    clear hvy hb8 HX7 HVr7 HB7 HSr
    cases Z with
    | none =>
      simp only [Option.isSome_none, Option.getD_none, List.length_nil] at HHr ⊢
      go_wp2_with fail
      refine HHr.out.mono ?_
      rintro e W9 ⟨rfl, hb9⟩
      have HB9 := hid (HB8.out.trans (hb9.mono HB8.out.size))
      clear hb9
      go_wp2_with fail
      go_ret
      exact ⟨rfl, HB9.out⟩
    | some x =>
      simp only [Option.isSome_some, Option.getD_some] at HHr HX8 ⊢
      obtain ⟨lx, hlx⟩ : ∃ lx, x.length = lx := ⟨_, rfl⟩
      rw [hlx] at HHr HX8 ⊢
      clear hlx
      go_wp2_with fail
      refine HHr.out.mono ?_
      rintro e W9 ⟨rfl, hb9⟩
      have HX9 := hid (HX8.out.below hb9)
      have HVr9 := hid (HVr8.out.below hb9)
      have HB9 := hid (HB8.out.trans (hb9.mono HB8.out.size))
      have HIw := hid (implBytes_any W9 HX9.out)
      have h1 := read_some HI6.out HZ.out
      rw [h1.1, h1.2.1, if_pos rfl] at HIw
      clear hb9 HX8 HVr8 HB8 HHr h1
      go_wp2_with fail
      refine HIw.out.mono ?_
      rintro e W10 ⟨⟨vz, rfl, hvz⟩, hb10⟩
      have hrz := raw_of_out hvz
      obtain ⟨az, cz, rfl, -, -⟩ := id hrz
      have HB10 := hid (HB9.out.trans (hb10.mono HB9.out.size))
      have hcv1 := raw_string (HVr9.out.below hb10) HI6.out
      have hcv2 := raw_string hrz HI6.out
      clear hvz hrz hb10 HVr9 HB9 HIw HX9
      obtain ⟨nz, hnz⟩ : ∃ nz, bs.length = nz := ⟨_, rfl⟩
      rw [hnz] at hcv2 ⊢
      clear hnz
      obtain ⟨SZ, hSZ⟩ : ∃ SZ, byteStr bs = SZ := ⟨_, rfl⟩
      rw [hSZ] at hcv1 hcv2
      clear hSZ
      have hss := strS_eq SZ
      go_wp2_with fail
      go_ret
      exact ⟨rfl, HB10.out⟩
  | true =>
    have HBC : Hid (codeBytesZ cs = BS) := by
      show _ = _
      rw [← HBS.out, HOk.out]
      rfl
    have HRd := hid (implRead_any HR3.out HIs.out)
    have HZ : Hid (readZ BS = some cs) := by show _ = _; rw [← HBC.out]; exact read_back HOk.out
    rw [HZ.out] at HRd
    go_wp2_with fail
    clear hcv1 hcv2 hss
    refine HRd.out.mono ?_
    rintro e W4 ⟨⟨vd, rfl, hvd⟩, hb4⟩
    have hid4 := insS_owns hvd
    obtain ⟨ad, cd, rfl, -⟩ := id hid4
    have HV4 := hid (HV3.out.below hb4)
    have HR4 := hid (HR3.out.below hb4)
    have HB4 := hid (HB3.out.trans (hb4.mono HB3.out.size))
    have HH := hid (hrCode_any W4 (by have := HC.out; have := HLL.out; omega) HV4.out hid4)
    have hisS : (Option.isSome (some cs)) = true := rfl
    clear hvd hid4 hb4 HV3 HR3 HB3 HRd
    simp only [Option.getD_some, HLL.out] at HH ⊢
    go_wp2_with fail
    refine HH.out.mono ?_
    rintro e W5 ⟨rfl, hb5⟩
    have HV5 := hid (HV4.out.below hb5)
    have HR5 := hid (HR4.out.below hb5)
    have HB5 := hid (HB4.out.trans (hb5.mono HB4.out.size))
    clear hb5 HV4 HR4 HB4 HH hisS
    have hnb0 : (nb : Int) ≠ 0 := by
      have h1 := HNb.out.1
      rw [← HBC.out] at h1
      simp only [codeBytesZ, headBytes, List.length_append, List.length_cons, List.length_nil] at h1
      omega
    have hsl : (0 : Int) ≤ (len1 : Int) % (nb : Int) ∧ (len1 : Int) % (nb : Int) ≤ (cb : Int) := by
      have h1 := HNb.out
      have h2 := Int.emod_lt_of_pos (len1 : Int) (show (0 : Int) < (nb : Int) by omega)
      exact ⟨Int.emod_nonneg _ hnb0, by omega⟩
    have HKl : Hid (len1 % nb < nb) := Nat.mod_lt _ (by omega)
    go_wp2_with fail
    clear hsl hnb0
    obtain ⟨kk, hkk⟩ : ∃ kk, len1 % nb = kk := ⟨_, rfl⟩
    rw [hkk] at HKl ⊢
    clear hkk
    have HRt := hid (implRead_any (raw_cut HR5.out (by have := HNb.out; have := HKl.out; omega)) (fun x hx => HIs.out x (List.mem_of_mem_take hx)) (bs := BS.take kk))
    obtain ⟨Zq, hZq⟩ : ∃ Zq, readZ (BS.take kk) = Zq := ⟨_, rfl⟩
    have HZq := hid hZq
    rw [hZq] at HRt
    clear hZq
    refine HRt.out.mono ?_
    rintro e Wq ⟨⟨vq, rfl, hvq⟩, hbq⟩
    obtain ⟨aq, cq, rfl, -⟩ := id (insS_owns hvq)
    have HBq := hid (HB5.out.trans (hbq.mono HB5.out.size))
    clear hvq hbq HR5 HB5 HRt HV5
    cases Zq with
    | none =>
      simp only [Option.isSome_none, Option.getD_none, List.length_nil]
      go_wp2_with fail
      have HDr := hid (drawRead_calls a1 len1 cap1 Wq HRs.out.len HRs.out.cap (HRs.out.bytes.below HBq.out))
      refine HDr.out.mono ?_
      rintro e W6 ⟨vr, bs, rfl, hvr, hisb, hb6⟩
      obtain ⟨ar, cr, rfl, -, -⟩ := id hvr
      obtain ⟨nr, hnr⟩ : ∃ nr, bs.length = nr := ⟨_, rfl⟩
      rw [hnr] at hvr ⊢
      have HVr := hid hvr
      have HI6 := hid hisb
      have HB6 := hid (HBq.out.trans (hb6.mono HBq.out.size))
      have HIr := hid (implRead_any hvr hisb)
      clear hvr hisb hb6 hnr HDr
      go_wp2_with fail
      refine HIr.out.mono ?_
      rintro e W7 ⟨⟨vx, rfl, hvx⟩, hb7⟩
      have HX7 := hid (insS_owns hvx)
      obtain ⟨ax, cx, rfl, -⟩ := id HX7.out
      have HVr7 := hid (HVr.out.below hb7)
      have HB7 := hid (HB6.out.trans (hb7.mono HB6.out.size))
      have HSr := hid (specRead_any HVr7.out HI6.out)
      clear hvx hb7 HVr HB6 HIr
      obtain ⟨Z, hZ⟩ : ∃ Z, readZ bs = Z := ⟨_, rfl⟩
      have HZ := hid hZ
      rw [hZ] at HX7 HSr ⊢
      clear hZ
      go_wp2_with fail
      refine HSr.out.mono ?_
      rintro e W8 ⟨⟨vy, rfl, hvy⟩, hb8⟩
      have HY8 := hid (insS_owns hvy)
      obtain ⟨ay, cy, rfl, -⟩ := id HY8.out
      have HX8 := hid (HX7.out.below hb8)
      have HVr8 := hid (HVr7.out.below hb8)
      have HB8 := hid (HB7.out.trans (hb8.mono HB7.out.size))
      have HHr := hid (hrCode_any W8 (by rw [← HZ.out]; have := read_len HI6.out; omega) HX8.out HY8.out)
      clear hvy hb8 HX7 HVr7 HB7 HSr
      cases Z with
      | none =>
        simp only [Option.isSome_none, Option.getD_none, List.length_nil] at HHr ⊢
        go_wp2_with fail
        refine HHr.out.mono ?_
        rintro e W9 ⟨rfl, hb9⟩
        have HB9 := hid (HB8.out.trans (hb9.mono HB8.out.size))
        clear hb9
        go_wp2_with fail
        go_ret
        exact ⟨rfl, HB9.out⟩
      | some x =>
        simp only [Option.isSome_some, Option.getD_some] at HHr HX8 ⊢
        obtain ⟨lx, hlx⟩ : ∃ lx, x.length = lx := ⟨_, rfl⟩
        rw [hlx] at HHr HX8 ⊢
        clear hlx
        go_wp2_with fail
        refine HHr.out.mono ?_
        rintro e W9 ⟨rfl, hb9⟩
        have HX9 := hid (HX8.out.below hb9)
        have HVr9 := hid (HVr8.out.below hb9)
        have HB9 := hid (HB8.out.trans (hb9.mono HB8.out.size))
        have HIw := hid (implBytes_any W9 HX9.out)
        have h1 := read_some HI6.out HZ.out
        rw [h1.1, h1.2.1, if_pos rfl] at HIw
        clear hb9 HX8 HVr8 HB8 HHr h1
        go_wp2_with fail
        refine HIw.out.mono ?_
        rintro e W10 ⟨⟨vz, rfl, hvz⟩, hb10⟩
        have hrz := raw_of_out hvz
        obtain ⟨az, cz, rfl, -, -⟩ := id hrz
        have HB10 := hid (HB9.out.trans (hb10.mono HB9.out.size))
        have hcv1 := raw_string (HVr9.out.below hb10) HI6.out
        have hcv2 := raw_string hrz HI6.out
        clear hvz hrz hb10 HVr9 HB9 HIw HX9
        obtain ⟨nz, hnz⟩ : ∃ nz, bs.length = nz := ⟨_, rfl⟩
        rw [hnz] at hcv2 ⊢
        clear hnz
        obtain ⟨SZ, hSZ⟩ : ∃ SZ, byteStr bs = SZ := ⟨_, rfl⟩
        rw [hSZ] at hcv1 hcv2
        clear hSZ
        have hss := strS_eq SZ
        go_wp2_with fail
        go_ret
        exact ⟨rfl, HB10.out⟩
    | some xq =>
      have hlt : (xq.length : Int) < (L : Int) := by
        have h1 := HZq.out
        rw [← HBC.out] at h1
        have h2 := read_part HOk.out (by rw [HBC.out]; have := HNb.out; have := HKl.out; omega) h1 (by rw [HBC.out]; exact HIs.out)
        have := HLL.out
        omega
      simp only [Option.isSome_some, Option.getD_some]
      obtain ⟨lq, hlq⟩ : ∃ lq, xq.length = lq := ⟨_, rfl⟩
      rw [hlq] at hlt ⊢
      clear hlq
      go_wp2_with fail
      clear hlt
      have HDr := hid (drawRead_calls a1 len1 cap1 Wq HRs.out.len HRs.out.cap (HRs.out.bytes.below HBq.out))
      refine HDr.out.mono ?_
      rintro e W6 ⟨vr, bs, rfl, hvr, hisb, hb6⟩
      obtain ⟨ar, cr, rfl, -, -⟩ := id hvr
      obtain ⟨nr, hnr⟩ : ∃ nr, bs.length = nr := ⟨_, rfl⟩
      rw [hnr] at hvr ⊢
      have HVr := hid hvr
      have HI6 := hid hisb
      have HB6 := hid (HBq.out.trans (hb6.mono HBq.out.size))
      have HIr := hid (implRead_any hvr hisb)
      clear hvr hisb hb6 hnr HDr
      go_wp2_with fail
      refine HIr.out.mono ?_
      rintro e W7 ⟨⟨vx, rfl, hvx⟩, hb7⟩
      have HX7 := hid (insS_owns hvx)
      obtain ⟨ax, cx, rfl, -⟩ := id HX7.out
      have HVr7 := hid (HVr.out.below hb7)
      have HB7 := hid (HB6.out.trans (hb7.mono HB6.out.size))
      have HSr := hid (specRead_any HVr7.out HI6.out)
      clear hvx hb7 HVr HB6 HIr
      obtain ⟨Z, hZ⟩ : ∃ Z, readZ bs = Z := ⟨_, rfl⟩
      have HZ := hid hZ
      rw [hZ] at HX7 HSr ⊢
      clear hZ
      go_wp2_with fail
      refine HSr.out.mono ?_
      rintro e W8 ⟨⟨vy, rfl, hvy⟩, hb8⟩
      have HY8 := hid (insS_owns hvy)
      obtain ⟨ay, cy, rfl, -⟩ := id HY8.out
      have HX8 := hid (HX7.out.below hb8)
      have HVr8 := hid (HVr7.out.below hb8)
      have HB8 := hid (HB7.out.trans (hb8.mono HB7.out.size))
      have HHr := hid (hrCode_any W8 (by rw [← HZ.out]; have := read_len HI6.out; omega) HX8.out HY8.out)
      clear hvy hb8 HX7 HVr7 HB7 HSr
      cases Z with
      | none =>
        simp only [Option.isSome_none, Option.getD_none, List.length_nil] at HHr ⊢
        go_wp2_with fail
        refine HHr.out.mono ?_
        rintro e W9 ⟨rfl, hb9⟩
        have HB9 := hid (HB8.out.trans (hb9.mono HB8.out.size))
        clear hb9
        go_wp2_with fail
        go_ret
        exact ⟨rfl, HB9.out⟩
      | some x =>
        simp only [Option.isSome_some, Option.getD_some] at HHr HX8 ⊢
        obtain ⟨lx, hlx⟩ : ∃ lx, x.length = lx := ⟨_, rfl⟩
        rw [hlx] at HHr HX8 ⊢
        clear hlx
        go_wp2_with fail
        refine HHr.out.mono ?_
        rintro e W9 ⟨rfl, hb9⟩
        have HX9 := hid (HX8.out.below hb9)
        have HVr9 := hid (HVr8.out.below hb9)
        have HB9 := hid (HB8.out.trans (hb9.mono HB8.out.size))
        have HIw := hid (implBytes_any W9 HX9.out)
        have h1 := read_some HI6.out HZ.out
        rw [h1.1, h1.2.1, if_pos rfl] at HIw
        clear hb9 HX8 HVr8 HB8 HHr h1
        go_wp2_with fail
        refine HIw.out.mono ?_
        rintro e W10 ⟨⟨vz, rfl, hvz⟩, hb10⟩
        have hrz := raw_of_out hvz
        obtain ⟨az, cz, rfl, -, -⟩ := id hrz
        have HB10 := hid (HB9.out.trans (hb10.mono HB9.out.size))
        have hcv1 := raw_string (HVr9.out.below hb10) HI6.out
        have hcv2 := raw_string hrz HI6.out
        clear hvz hrz hb10 HVr9 HB9 HIw HX9
        obtain ⟨nz, hnz⟩ : ∃ nz, bs.length = nz := ⟨_, rfl⟩
        rw [hnz] at hcv2 ⊢
        clear hnz
        obtain ⟨SZ, hSZ⟩ : ∃ SZ, byteStr bs = SZ := ⟨_, rfl⟩
        rw [hSZ] at hcv1 hcv2
        clear hSZ
        have hss := strS_eq SZ
        go_wp2_with fail
        go_ret
        exact ⟨rfl, HB10.out⟩
end Go.Proofs.Ytnbmhopoiijhoaa

/- At every two texts of bytes the promise on code written and read back holds: drawn code is read back from its bytes as itself, a cut of them is no code of the same length, and drawn bytes that are read are the bytes of what is read; the bytes unchanged; no condition. -/
namespace Go.Proofs.Ytnbmhopoiijhoaa.fnCodeBack
open Go.ChangeShapes Go.WideShapes Go.ChangeAt Go.RowKit

theorem own : ownKnob Try.prog.godebug = none := by kernel_rfl

theorem spot_none {W : World} {a : Addr} {v : Value} (h : W.cell? a = some v) : a.spot = none := by
  unfold World.cell? at h
  split at h
  · by_cases hs : a.spot.isSome
    · simp [hs] at h
    · simpa using hs
  · cases h

theorem block_lt {W : World} {a : Addr} {v : Value} (h : W.cell? a = some v) : a.block < W.heap.size := by
  unfold World.cell? at h
  split at h
  · rename_i e
    obtain ⟨hlt, _⟩ := Array.getElem?_eq_some_iff.mp e
    exact hlt
  · cases h

theorem cells_u8 : Try.prog.cellsOf 5 = 1 := by kernel_rfl
theorem laidOut : laidOutB Try.prog = true := by kernel_rfl

theorem open_bytes {H : Type} {enc : TypeId × Value → H} {W : World} {sp : Nat → Bool} {held : Bool} {fuel : Nat} {v : Value} {x : DataW H × List MemPlace}
    (h : DataW.trod enc Try.prog W 0 sp held fuel 22 [v] = some x) :
    ∃ a0 len cap, v = .slice a0 len cap ∧ len ≤ cap ∧ len ≤ maxLen ∧ BytesAt W a0 len := by
  rcases open_ints Try.underlying22 Try.underlying5 cells_u8 h with ⟨hc, _⟩ | ⟨a, len, cap, zs, hc, _, hl, hm, hz, _, hcell, hwf⟩
  · simp at hc
    subst hc
    exact ⟨none, 0, 0, rfl, Nat.le_refl _, Nat.zero_le _, fun h => absurd h (by omega)⟩
  · simp at hc
    subst hc
    have hlm : len ≤ zs.length := by rw [hz]; split <;> omega
    refine ⟨some a, len, cap, rfl, hl, by omega, fun h0 => ?_⟩
    have hc0 := hcell 0 (by omega)
    have hs := spot_none hc0
    have hb := block_lt hc0
    obtain ⟨b, off, spot⟩ := a
    have hspot : spot = none := by simpa [Addr.add] using hs
    subst hspot
    refine ⟨b, off, rfl, by simpa [Addr.add] using hb, fun i hi => ?_⟩
    have hci := hcell i (by omega)
    have e : (Addr.add ⟨b, off, none⟩ i) = ⟨b, off + i, none⟩ := by
      unfold Addr.add
      split
      · rename_i h
        subst h
        rfl
      · rfl
    rw [e] at hci
    have hin : zs.getD i 0 ∈ zs := by
      rw [List.getD, List.getElem?_eq_getElem (show i < zs.length by omega)]
      exact List.getElem_mem _
    have hw := hwf _ hin
    simp only [Lit.wf, Bool.and_eq_true, decide_eq_true_eq] at hw
    exact ⟨_, hci, hw.1, hw.2⟩

set_option maxRecDepth 100000 in
theorem lifted (os : Os) (started : os.Started) (H : Type) (enc : TypeId × Value → H) :
    ReturnsInHanded {} Try.checked os 3 .any (Rows.fnCodeBackSpec.pre6 enc Try.prog Try.f3 Rows.fnCodeBackRow.domain false) (Rows.fnCodeBackSpec.post enc Try.prog Try.f3 false true false false) := by
  refine returnsInHanded_of_change (C := Try.checked) own started (by kernel_rfl) Try.func3
    (ChangeSpec.witness6 (enc := enc) (C := Try.checked) false ⟨#[], #[.slice none 0 0, .slice none 0 0], []⟩ 8 (by kernel_rfl) (by kernel_rfl) (by kernel_rfl) (by kernel_rfl)) ?_
  intro W base args ds gs before hval0 hW hcnd _
  have hval : ∀ (j : Nat) t v, Try.f3.params[j]? = some t → args[j]? = some v → Value.okWide Try.prog W .any base t v := hval0
  have hW' := hW
  obtain ⟨p, q, hA0, hV, rfl, hfz, hnd⟩ := hW
  have hA : DataW.TrodAll enc Try.prog W 0 (fun _ => true) true Try.f3.params.toList args.toList ds p := hA0
  rw [Try.params3] at hA hval
  obtain ⟨v0, vs0, d0, ds0, p0, q0, hargs, rfl, rfl, h0, r0⟩ := trodAll_cons hA
  obtain ⟨v1, vs1, d1, ds1, p1, q1, hargs1, rfl, rfl, h1, r1⟩ := trodAll_cons r0
  obtain ⟨rfl, rfl, rfl⟩ := trodAll_nil r1
  obtain rfl : args = #[v0, v1] := by cases args; simp_all
  obtain ⟨rfl, rfl⟩ := trodVars_none hV
  clear hA0 hval0
  simp only [List.append_nil] at hW'
  have hlt : ∀ y ∈ p0 ++ p1, y.block < W.heap.size := fun y hy => by simpa using hW'.lt y (by simpa using hy)
  have h0k := h0
  have h1k := h1
  obtain ⟨fuel, hf⟩ := h0
  obtain ⟨fuel1, hf1⟩ := h1
  obtain ⟨a1, len1, cap1, rfl⟩ := okWide_slice Try.underlying22 (hval 0 22 v0 rfl rfl)
  obtain ⟨a2, len2, cap2, rfl⟩ := okWide_slice Try.underlying22 (hval 1 22 v1 rfl rfl)
  obtain ⟨a0, len, cap, hv, hl, -, hB⟩ := open_bytes (by simpa [Value.cells] using hf)
  cases hv
  obtain ⟨a3, len3, cap3, hv, hl3, -, hB3⟩ := open_bytes (by simpa [Value.cells] using hf1)
  cases hv
  refine (back_walk _ _ _ _ _ _ W hl hl3 hB hB3).mono fun e W' ⟨he, hg⟩ => ?_
  subst he
  refine ⟨_, rfl, _, _, _, [], p0 ++ p1, [], hW', ?_, ?_, rfl, hg.frame _, fun h => by cases h⟩
  · exact trodAll_cons_mk (shut_bool Try.underlying4 _) trodAll_mk0
  · exact trodAll_mk2 (Below.trod laidOut (by kernel_rfl) (of_decide_eq_true (by kernel_rfl)) h0k hg (fun y hy => hlt y (List.mem_append_left _ hy))) (Below.trod laidOut (by kernel_rfl) (of_decide_eq_true (by kernel_rfl)) h1k hg (fun y hy => hlt y (List.mem_append_right _ hy)))

theorem over : Rows.fnCodeBackRow.holds Try.pinned (OpenSpec.ofChange Rows.fnCodeBackSpec) :=
  OpenClaim.holds_of_wide 3 Try.f3 rfl rfl rfl rfl rfl rfl rfl ⟨rfl, rfl, rfl, rfl, rfl⟩ rfl rfl rfl rfl rfl (by kernel_rfl) Try.func3 (by kernel_rfl)
    (of_decide_eq_true (by kernel_rfl)) (by unfold Func.isWrapper; first | (rw [if_pos (by decide +kernel)]; kernel_rfl) | (rw [if_neg (by decide +kernel)]; exact ⟨rfl, rfl⟩))
    (fun os started H enc _ => lifted os started H enc)

theorem proved : Rows.FnCodeBackSaid := over

#print axioms proved
end Go.Proofs.Ytnbmhopoiijhoaa.fnCodeBack
