/- The specification's text of a tree, whole. -/
import Derived.Test.YtnhofdngmbnlkaaShowSpec
namespace Go.Proofs.Ytnhofdngmbnlkaa
open Go.RowKit Go.Deep

section
variable {b off cap : Nat} {ns : List Nd} {F : Nat}

set_option maxHeartbeats 4000000 in
set_option maxRecDepth 100000 in
theorem bare_c23 (hl : ns.length ≤ 300) (hnt : ∀ m ∈ ns, Neat m) (ih : ShowC b off cap ns F) {t : Tp} {W : World} (hF : t.size ≤ F + 1) (hs : Stands ns t) (hx : Ex t) (hb : b < W.heap.size) (hn : NodesAt W b off ns) (ek : t.n.kind = 23) :
    Calls Try.prog 43 #[.slice (some ⟨b, off, none⟩) ns.length cap, .int .i64 (t.at_ : Int)] W (BareP W (handT (showZ F) t)) := by
  obtain ⟨hlt, hat, hsz⟩ := hs.lt
  have c0 := hn t.at_ hlt 0 (by omega)
  have c1 := hn t.at_ hlt 1 (by omega)
  have c2 := hn t.at_ hlt 2 (by omega)
  have c3 := hn t.at_ hlt 3 (by omega)
  have c4 := hn t.at_ hlt 4 (by omega)
  have c5 := hn t.at_ hlt 5 (by omega)
  rw [hat] at c0 c1 c2 c3 c4 c5
  simp only [Nd.cell, Nat.add_zero] at c0 c1 c2 c3 c4 c5
  rw [ek] at c0
  have hA := (MapKept.heap_alloc W (.cells #[.int .i64 23, .int .i64 t.n.num, .string t.n.a, .string t.n.b, .string t.n.c, .int .i64 t.n.kids] 65)).1
  have hB1 := (Below.refl W.heap.size W).alloc (Nat.le_refl _) (.cells #[.int .i64 23, .int .i64 t.n.num, .string t.n.a, .string t.n.b, .string t.n.c, .int .i64 t.n.kids] 65)
  obtain ⟨Y, hY⟩ : ∃ Y, W.alloc (.cells #[.int .i64 23, .int .i64 t.n.num, .string t.n.a, .string t.n.b, .string t.n.c, .int .i64 t.n.kids] 65) = Y := ⟨_, rfl⟩
  rw [hY] at hA hB1
  have HY := hid hY
  have HA := hid hA
  have F0 := hid hB1
  have B0 := hid (Below.refl Y.heap.size Y)
  have HT := hid (And.intro (Nat.lt_of_lt_of_le hb hB1.size) (hn.below hB1 hb))
  have hgood := hs.toGood
  have HNm := hid (hs.neat hnt)
  have HNt := hid hnt
  have HL := hid hl
  have HF := hid hF
  have HS := hid hs
  have HXE := hid hx
  have HSz : Hid (t.size ≤ 300) := by show _ ≤ _; omega
  have na : t.n.a.size ≤ 8 := HNm.out.a
  have nb : t.n.b.size ≤ 8 := HNm.out.b
  have HC : Hid (2 ≤ t.k.count) := ((arity_at hgood).2.1 (by rw [ek]; rfl)).1
  have HH := hid (hand_c23 hl hnt ih hF hs hx HT.out.1 HT.out.2 ek)
  have HP1 : Hid (wrap64 ((t.at_ : Int) + 1) = ((t.kid 0).at_ : Int)) := by show _ = _; rw [hs.first (by have := HC.out; omega)]; unfold wrap64; omega
  have hp0 : (0 : Int) ≤ (t.at_ : Int) := by omega
  have hpl : (t.at_ : Int) < (ns.length : Int) := by omega
  clear hA hB1 hY hb hn hlt hat hsz hgood hs hx hl hnt hF ih
  go_enter Try.func43, Try.ntmps43
  go_upto_region 3 with fail
  rw [HY.out]
  rw [HP1.out]
  clear HY c0 c1 c2 c3 c4 c5
  have hbx := (B0.out.block W.heap.size (heap_lt HA.out)).trans HA.out
  have e0 := cell_of_heap hbx 0
  have e1 := cell_of_heap hbx 1
  have e2 := cell_of_heap hbx 2
  have e3 := cell_of_heap hbx 3
  have e4 := cell_of_heap hbx 4
  have e5 := cell_of_heap hbx 5
  simp at e0 e1 e2 e3 e4 e5
  clear hbx
  go_wp2_with fail
  clear e0 e1 e2 e3 e4 e5
  refine HH.out.mono ?_
  rintro e X1 ⟨rfl, hb1⟩
  have B1 := hid (B0.out.trans (hb1.mono B0.out.size))
  clear hb1 HH
  obtain ⟨TT, hTT⟩ : ∃ T, handT (showZ F) t = T := ⟨_, rfl⟩
  rw [hTT]
  have HTT := hid hTT
  clear hTT
  have hbx := (B1.out.block W.heap.size (heap_lt HA.out)).trans HA.out
  have e0 := cell_of_heap hbx 0
  have e1 := cell_of_heap hbx 1
  have e2 := cell_of_heap hbx 2
  have e3 := cell_of_heap hbx 3
  have e4 := cell_of_heap hbx 4
  have e5 := cell_of_heap hbx 5
  simp at e0 e1 e2 e3 e4 e5
  clear hbx
  go_wp2_with fail
  clear e0 e1 e2 e3 e4 e5
  go_ret
  refine ⟨?_, F0.out.trans (B1.out.mono F0.out.size)⟩
  rw [HTT.out]
  rfl

set_option maxHeartbeats 4000000 in
set_option maxRecDepth 100000 in
theorem bare_c24 (hl : ns.length ≤ 300) (hnt : ∀ m ∈ ns, Neat m) (ih : ShowC b off cap ns F) {t : Tp} {W : World} (hF : t.size ≤ F + 1) (hs : Stands ns t) (hx : Ex t) (hb : b < W.heap.size) (hn : NodesAt W b off ns) (ek : t.n.kind = 24) :
    Calls Try.prog 43 #[.slice (some ⟨b, off, none⟩) ns.length cap, .int .i64 (t.at_ : Int)] W (BareP W (handT (showZ F) t)) := by
  obtain ⟨hlt, hat, hsz⟩ := hs.lt
  have c0 := hn t.at_ hlt 0 (by omega)
  have c1 := hn t.at_ hlt 1 (by omega)
  have c2 := hn t.at_ hlt 2 (by omega)
  have c3 := hn t.at_ hlt 3 (by omega)
  have c4 := hn t.at_ hlt 4 (by omega)
  have c5 := hn t.at_ hlt 5 (by omega)
  rw [hat] at c0 c1 c2 c3 c4 c5
  simp only [Nd.cell, Nat.add_zero] at c0 c1 c2 c3 c4 c5
  rw [ek] at c0
  have hA := (MapKept.heap_alloc W (.cells #[.int .i64 24, .int .i64 t.n.num, .string t.n.a, .string t.n.b, .string t.n.c, .int .i64 t.n.kids] 65)).1
  have hB1 := (Below.refl W.heap.size W).alloc (Nat.le_refl _) (.cells #[.int .i64 24, .int .i64 t.n.num, .string t.n.a, .string t.n.b, .string t.n.c, .int .i64 t.n.kids] 65)
  obtain ⟨Y, hY⟩ : ∃ Y, W.alloc (.cells #[.int .i64 24, .int .i64 t.n.num, .string t.n.a, .string t.n.b, .string t.n.c, .int .i64 t.n.kids] 65) = Y := ⟨_, rfl⟩
  rw [hY] at hA hB1
  have HY := hid hY
  have HA := hid hA
  have F0 := hid hB1
  have B0 := hid (Below.refl Y.heap.size Y)
  have HT := hid (And.intro (Nat.lt_of_lt_of_le hb hB1.size) (hn.below hB1 hb))
  have hgood := hs.toGood
  have HNm := hid (hs.neat hnt)
  have HNt := hid hnt
  have HL := hid hl
  have HF := hid hF
  have HS := hid hs
  have HXE := hid hx
  have HSz : Hid (t.size ≤ 300) := by show _ ≤ _; omega
  have na : t.n.a.size ≤ 8 := HNm.out.a
  have nb : t.n.b.size ≤ 8 := HNm.out.b
  have HC : Hid (2 ≤ t.k.count) := ((arity_at hgood).2.1 (by rw [ek]; rfl)).1
  have HH := hid (hand_c24 hl hnt ih hF hs hx HT.out.1 HT.out.2 ek)
  have HP1 : Hid (wrap64 ((t.at_ : Int) + 1) = ((t.kid 0).at_ : Int)) := by show _ = _; rw [hs.first (by have := HC.out; omega)]; unfold wrap64; omega
  have hp0 : (0 : Int) ≤ (t.at_ : Int) := by omega
  have hpl : (t.at_ : Int) < (ns.length : Int) := by omega
  clear hA hB1 hY hb hn hlt hat hsz hgood hs hx hl hnt hF ih
  go_enter Try.func43, Try.ntmps43
  go_upto_region 3 with fail
  rw [HY.out]
  rw [HP1.out]
  clear HY c0 c1 c2 c3 c4 c5
  have hbx := (B0.out.block W.heap.size (heap_lt HA.out)).trans HA.out
  have e0 := cell_of_heap hbx 0
  have e1 := cell_of_heap hbx 1
  have e2 := cell_of_heap hbx 2
  have e3 := cell_of_heap hbx 3
  have e4 := cell_of_heap hbx 4
  have e5 := cell_of_heap hbx 5
  simp at e0 e1 e2 e3 e4 e5
  clear hbx
  go_wp2_with fail
  clear e0 e1 e2 e3 e4 e5
  refine HH.out.mono ?_
  rintro e X1 ⟨rfl, hb1⟩
  have B1 := hid (B0.out.trans (hb1.mono B0.out.size))
  clear hb1 HH
  obtain ⟨TT, hTT⟩ : ∃ T, handT (showZ F) t = T := ⟨_, rfl⟩
  rw [hTT]
  have HTT := hid hTT
  clear hTT
  have hbx := (B1.out.block W.heap.size (heap_lt HA.out)).trans HA.out
  have e0 := cell_of_heap hbx 0
  have e1 := cell_of_heap hbx 1
  have e2 := cell_of_heap hbx 2
  have e3 := cell_of_heap hbx 3
  have e4 := cell_of_heap hbx 4
  have e5 := cell_of_heap hbx 5
  simp at e0 e1 e2 e3 e4 e5
  clear hbx
  go_wp2_with fail
  clear e0 e1 e2 e3 e4 e5
  go_ret
  refine ⟨?_, F0.out.trans (B1.out.mono F0.out.size)⟩
  rw [HTT.out]
  rfl

theorem bare_all (hl : ns.length ≤ 300) (hnt : ∀ m ∈ ns, Neat m) (ih : ShowC b off cap ns F) {t : Tp} {W : World} (hF : t.size ≤ F + 1) (hs : Stands ns t) (hx : Ex t) (hb : b < W.heap.size) (hn : NodesAt W b off ns) :
    Calls Try.prog 43 #[.slice (some ⟨b, off, none⟩) ns.length cap, .int .i64 (t.at_ : Int)] W (BareP W (bareZ (F + 1) t)) := by
  by_cases k1 : t.n.kind = 1
  · rw [bare1 k1]; exact bare_c1 hl hnt hF hs hx hb hn k1
  by_cases k2 : t.n.kind = 2
  · rw [bare2 k2]
    rcases (hs.neat hnt).bit k2 with h0 | h0
    · rw [h0, if_pos rfl]; exact bare_n0 hl hnt hF hs hx hb hn k2 h0
    · rw [h0, if_neg (by decide)]; exact bare_n1 hl hnt hF hs hx hb hn k2 h0
  by_cases k3 : t.n.kind = 3
  · rw [bare3 k3]; exact bare_c3 hl hnt hF hs hx hb hn k3
  by_cases k4 : t.n.kind = 4
  · rw [bare4 k4]; exact bare_c4 hl hnt hF hs hx hb hn k4
  by_cases k5 : t.n.kind = 5
  · rw [bare5 k5]; exact bare_c5 hl hnt hF hs hx hb hn k5
  by_cases k6 : t.n.kind = 6
  · rw [bare6 k6]; exact bare_c6 hl hnt ih hF hs hx hb hn k6
  by_cases k7 : t.n.kind = 7
  · rw [bare7 k7]; exact bare_c7 hl hnt ih hF hs hx hb hn k7
  by_cases k8 : t.n.kind = 8
  · rw [bare8 k8]; exact bare_c8 hl hnt ih hF hs hx hb hn k8
  by_cases k9 : t.n.kind = 9
  · rw [bare9 k9]; exact bare_c9 hl hnt ih hF hs hx hb hn k9
  by_cases k10 : t.n.kind = 10
  · rw [bare10 k10]; exact bare_c10 hl hnt ih hF hs hx hb hn k10
  by_cases k11 : t.n.kind = 11
  · rw [bare11 k11]; exact bare_c11 hl hnt ih hF hs hx hb hn k11
  by_cases k12 : t.n.kind = 12
  · rw [bare12 k12]; exact bare_c12 hl hnt ih hF hs hx hb hn k12
  by_cases k13 : t.n.kind = 13
  · rw [bare13 k13]; exact bare_c13 hl hnt ih hF hs hx hb hn k13
  by_cases k14 : t.n.kind = 14
  · rw [bare14 k14]; exact bare_c14 hl hnt ih hF hs hx hb hn k14
  by_cases k15 : t.n.kind = 15
  · rw [bare15 k15]; exact bare_c15 hl hnt ih hF hs hx hb hn k15
  by_cases k19 : t.n.kind = 19
  · rw [bare19 k19]; exact bare_c19 hl hnt ih hF hs hx hb hn k19
  by_cases k16 : t.n.kind = 16
  · rw [bare16 k16]; exact bare_c16 hl hnt ih hF hs hx hb hn k16
  by_cases k17 : t.n.kind = 17
  · rw [bare17 k17]; exact bare_c17 hl hnt ih hF hs hx hb hn k17
  by_cases k18 : t.n.kind = 18
  · rw [bare18 k18]; exact bare_c18 hl hnt ih hF hs hx hb hn k18
  by_cases k21 : t.n.kind = 21
  · rw [bare21 k21]; exact bare_c21 hl hnt ih hF hs hx hb hn k21
  by_cases k22 : t.n.kind = 22
  · rw [bare22 k22]; exact bare_c22 hl hnt ih hF hs hx hb hn k22
  by_cases k20 : t.n.kind = 20
  · rw [bare20 k20]; exact bare_c20 hl hnt ih hF hs hx hb hn k20
  have hh : t.n.kind = 23 ∨ t.n.kind = 24 := by
    have h1 := (arity_at hs.toGood).1
    have h3 := hx.2
    by_cases h4 : t.n.kind < 1 ∨ 26 < t.n.kind
    · exact absurd (tab_other h4) h1
    · omega
  rw [bareH hh]
  rcases hh with e | e
  · exact bare_c23 hl hnt ih hF hs hx hb hn e
  · exact bare_c24 hl hnt ih hF hs hx hb hn e

set_option maxHeartbeats 4000000 in
set_option maxRecDepth 100000 in
theorem show_all (hl : ns.length ≤ 300) (hnt : ∀ m ∈ ns, Neat m) : ∀ F, ShowC b off cap ns F := by
  intro F
  induction F with
  | zero => intro t least W hF; have := t.size_pos; omega
  | succ F ih =>
    intro t least W hF hs hx hb hn
    have HBa := hid (bare_all (cap := cap) hl hnt ih hF hs hx hb hn)
    have hbl := (bare_len hnt (F + 1)).2 t hF hs hx
    obtain ⟨hlt, hat, hsz⟩ := hs.lt
    have HC := hid (fun (X : World) (hX : Below W.heap.size W X) => (hX.cell (p := ⟨b, off + t.at_ * 6 + 0, none⟩) hb).trans (hn t.at_ hlt 0 (by omega)))
    rw [hat] at HC
    simp only [Nd.cell, Nat.add_zero] at HC
    obtain ⟨T, hT⟩ : ∃ T, bareZ (F + 1) t = T := ⟨_, rfl⟩
    rw [hT] at HBa hbl
    have lt : (tx T).size ≤ 18000 := by rw [tx_size]; omega
    have HSh : Hid (showZ (F + 1) t least = brZ t.n.kind least T) := by show _ = _; unfold showZ; rw [hT]
    have hp0 : (0 : Int) ≤ (t.at_ : Int) := by omega
    have hpl : (t.at_ : Int) < (ns.length : Int) := by omega
    clear hl hnt ih hF hs hx hb hn hbl hlt hat hsz hT
    go_enter Try.func28, Try.ntmps28
    go_wp2_with fail
    refine HBa.out.mono ?_
    rintro e X1 ⟨rfl, hb1⟩
    have B1 := hid hb1
    have c0 := HC.out X1 B1.out
    clear hb1 HBa
    obtain ⟨kd, hkd⟩ : ∃ kd, t.n.kind = kd := ⟨_, rfl⟩
    rw [hkd] at c0 HSh
    clear hkd
    go_wp2_with fail
    refine (level_calls kd X1).mono ?_
    rintro e X2 ⟨rfl, rfl⟩
    obtain ⟨lv, hlv⟩ : ∃ lv, lvZ kd = lv := ⟨_, rfl⟩
    have HLv := hid hlv
    rw [hlv]
    clear hlv c0
    by_cases hle : lv < least
    · go_wp2_with fail
      go_ret
      refine ⟨?_, B1.out⟩
      rw [HSh.out]
      unfold brZ
      rw [HLv.out, if_pos hle]
      simp only [← tx_append]
      rfl
    · go_wp2_with fail
      go_ret
      refine ⟨?_, B1.out⟩
      rw [HSh.out]
      unfold brZ
      rw [HLv.out, if_neg (by omega)]
      rfl
end
end Go.Proofs.Ytnhofdngmbnlkaa
