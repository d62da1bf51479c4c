/- The specification's maker makes the code of a part: partZ. -/
import Derived.Test.YtgiejnmphfgmgaaGreatDoorGrpMC0
namespace Go.Proofs.YtgiejnmphfgmgaaGreatDoor
open Go.RowKit Go.Deep

/-- What code is made of. -/
structure Cx (W0 : World) (Mb : Nat) (ae : Option Addr) (b off : Nat) (es : List Ef) (ns : List Nd) : Prop where
  tb : b < W0.heap.size
  tm : b ≠ Mb
  tn : NodesAt W0 b off ns
  tl : ns.length ≤ 300
  el : es.length ≤ 1000
  ee : es ≠ [] → ∃ be oe, ae = some ⟨be, oe, none⟩ ∧ be < W0.heap.size ∧ be ≠ Mb ∧ EffsAt W0 be oe es

theorem cx_nodes {W0 : World} {Mb : Nat} {ae : Option Addr} {b off : Nat} {es : List Ef} {ns : List Nd} (h : Cx W0 Mb ae b off es ns) {ve vt : Value} {s : Cs} {W : World} (m : CmE W0 Mb ve vt s W) : NodesAt W b off ns := by
  obtain ⟨ls, vo, vl, m⟩ := m
  exact fun j hj c hc => (World.cell?_of_block (a := ⟨b, off + j * 6 + c, none⟩) (m.kept b h.tb h.tm)).trans (h.tn j hj c hc)

theorem cx_effs {W0 : World} {Mb : Nat} {ae : Option Addr} {b off : Nat} {es : List Ef} {ns : List Nd} (h : Cx W0 Mb ae b off es ns) {ve vt : Value} {s : Cs} {W : World} (m : CmE W0 Mb ve vt s W) : es ≠ [] → ∃ be oe, ae = some ⟨be, oe, none⟩ ∧ EffsAt W be oe es := fun he => by
  obtain ⟨ls, vo, vl, m⟩ := m
  obtain ⟨be, oe, e, h1, h2, h3⟩ := h.ee he
  exact ⟨be, oe, e, fun j hj c hc => (World.cell?_of_block (a := ⟨be, oe + j * 3 + c, none⟩) (m.kept be h1 h2)).trans (h3 j hj c hc)⟩

theorem CmE.effs {W0 : World} {Mb : Nat} {ve vt : Value} {s : Cs} {W : World} (m : CmE W0 Mb ve vt s W) : W.cell? ⟨Mb, 0, none⟩ = some ve := by
  obtain ⟨ls, vo, vl, m⟩ := m
  exact cell_of_heap m.blk 0

theorem CmE.tree {W0 : World} {Mb : Nat} {ve vt : Value} {s : Cs} {W : World} (m : CmE W0 Mb ve vt s W) : W.cell? ⟨Mb, 1, none⟩ = some vt := by
  obtain ⟨ls, vo, vl, m⟩ := m
  exact cell_of_heap m.blk 1

theorem lit_names (w : World) (ss : List ByteArray) : NamesV (w.alloc (.cells (strRow ss).toArray 9)) (.slice (some ⟨w.heap.size, 0, none⟩) ss.length ss.length) ss := by
  have hh := (MapKept.heap_alloc w (.cells (strRow ss).toArray 9)).1
  refine Or.inr ⟨_, 0, _, rfl, heap_lt hh, fun j hj => ?_⟩
  rw [Nat.zero_add, cell_of_heap hh j]
  simp only [List.getElem?_toArray]
  exact strRow_get ss j hj

theorem heap_at {W0 : World} {Mb : Nat} {ve vt : Value} {s : Cs} {W : World} (m : CmE W0 Mb ve vt s W) : Mb < W.heap.size := by
  obtain ⟨ls, vo, vl, m⟩ := m
  exact heap_lt m.blk

theorem later_le (s : Cs) : s.later.length ≤ s.rest := by
  obtain ⟨o, l⟩ := s
  unfold Cs.rest
  dsimp only
  induction l with
  | nil => exact Nat.zero_le _
  | cons x l ih =>
    have := x.t.size_pos
    simp only [List.length_cons, List.map_cons, List.sum_cons]
    omega

/-- What a part's making does, up to a size. -/
def PartC (W0 : World) (Mb : Nat) (ae : Option Addr) (ce b off cap : Nat) (es : List Ef) (ns : List Nd) (K F : Nat) : Prop := ∀ (t : Tp) (ss : List ByteArray) (s : Cs) (v : Value) (W : World), t.size ≤ F → Stands ns t → ss.length + 2 * t.size ≤ K → s.out.length + 10 * s.rest + 10 * t.size ≤ 950000 → CmE W0 Mb (.slice ae es.length ce) (.slice (some ⟨b, off, none⟩) ns.length cap) s W → NmT W v ss →
    Calls Tryz.prog 17 #[.pointer (some ⟨Mb, 0, none⟩), .int .i64 (t.at_ : Int), v] W (LeadPost W0 Mb (.slice ae es.length ce) (.slice (some ⟨b, off, none⟩) ns.length cap) (partZ es F t ss s) W)

/-- A call, or one that makes something: whichever comes up. -/
theorem pick_other {P : Program} {l0 : List Oper} {Q : Exit → Act → World → Prop} {S : World → Prop} {i j n : Nat} {ls : Array Bool} {a : Act} {w : World} (hr : (Region.ready .any l0.toArray ls == [i, j]) = true) (h1 : PickCl P l0 Q S n ls a w i) (h2 : PickMk P l0 Q S n ls a w j) : wpAnyH P .any l0.toArray (NoPanic Q) S (n + 1) ls a w := by
  refine wpAnyH_all (rs := [i, j]) (by simpa using hr) (by simp) (fun k hk => ?_)
  simp only [List.mem_cons, List.not_mem_nil, or_false] at hk
  rcases hk with rfl | rfl
  · exact h1.op
  · exact h2.op

section
variable {W0 : World} {Mb : Nat} {ae : Option Addr} {ce b off cap : Nat} {es : List Ef} {ns : List Nd} {K F : Nat}

set_option maxHeartbeats 2000000 in
set_option maxRecDepth 100000 in
theorem bound_calls (ih : PartC W0 Mb ae ce b off cap es ns K F) {t : Tp} {ss : List ByteArray} {s : Cs} {v : Value} {W : World} (hF : t.size ≤ F) (hs : Stands ns t) (hK : ss.length + 2 * t.size ≤ K) (hB : s.out.length + 10 * s.rest + 10 * t.size + 1 ≤ 950000) (h : CmE W0 Mb (.slice ae es.length ce) (.slice (some ⟨b, off, none⟩) ns.length cap) s W) (hv : NmT W v ss) :
    Calls Tryz.prog 41 #[.pointer (some ⟨Mb, 0, none⟩), .int .i64 (t.at_ : Int), v] W (LeadPost W0 Mb (.slice ae es.length ce) (.slice (some ⟨b, off, none⟩) ns.length cap) (boundZ (partZ es F) t ss s) W) := by
  obtain ⟨ad, cp, rfl⟩ := hv.is
  have HIH := hid ih
  have HS := hid (And.intro hF (And.intro hs hK))
  have HB := hid hB
  have S0 := hid h
  have N0 := hid hv
  clear ih hF hs hK hB h hv
  go_enter Tryz.func41, Tryz.ntmps41
  go_wp2_with fail
  refine (putM_calls ⟨12, 0, 0, 0⟩ S0.out (by have := HB.out; omega)).mono ?_
  rintro e X1 ⟨rfl, h1, g1⟩
  obtain ⟨n1, hn1⟩ : ∃ n, s.out.length = n := ⟨_, rfl⟩
  rw [hn1]
  have S1 := hid h1
  have G1 := hid g1
  have R1 := hid (Rs.put ns K s ⟨12, 0, 0, 0⟩)
  clear h1 g1 hn1
  go_wp2_with fail
  refine (HIH.out t ss _ _ _ HS.out.1 HS.out.2.1 HS.out.2.2 (by have := HB.out; have := R1.out.cost; omega) S1.out (N0.out.frame G1.out)).mono ?_
  rintro e X2 ⟨⟨x2, rfl⟩, h2, g2⟩
  have S2 := hid h2
  have G2 := hid (G1.out.trans g2)
  have R2 := hid (R1.out.trans (part_r (ns := ns) (K := K) (es := es) F t ss (s.put ⟨12, 0, 0, 0⟩) HS.out.1 HS.out.2.1 HS.out.2.2))
  clear h2 g2
  go_wp2_with fail
  refine (putM_calls ⟨13, 0, 0, 0⟩ S2.out (by have := HB.out; have := R2.out.cost; omega)).mono ?_
  rintro e X3 ⟨rfl, h3, g3⟩
  obtain ⟨n3, hn3⟩ : ∃ n, (partZ es F t ss (s.put ⟨12, 0, 0, 0⟩)).out.length = n := ⟨_, rfl⟩
  rw [hn3]
  have S3 := hid h3
  have G3 := hid (G2.out.trans g3)
  clear h3 g3 hn3
  go_wp2_with fail
  go_end0
  exact ⟨⟨_, rfl⟩, S3.out, G3.out⟩

set_option maxHeartbeats 4000000 in
set_option maxRecDepth 100000 in
theorem part_c1 (cx : Cx W0 Mb ae b off es ns) (hk1 : K ≤ 1000) {t : Tp} {ss : List ByteArray} {s : Cs} {v : Value} {W : World} (hF : t.size ≤ F + 1) (hs : Stands ns t) (hK : ss.length + 2 * t.size ≤ K) (hB : s.out.length + 10 * s.rest + 10 * t.size ≤ 950000) (h : CmE W0 Mb (.slice ae es.length ce) (.slice (some ⟨b, off, none⟩) ns.length cap) s W) (hv : NmT W v ss) (ek : t.n.kind = 1) :
    Calls Tryz.prog 17 #[.pointer (some ⟨Mb, 0, none⟩), .int .i64 (t.at_ : Int), v] W (LeadPost W0 Mb (.slice ae es.length ce) (.slice (some ⟨b, off, none⟩) ns.length cap) (s.put ⟨1, t.n.num, 0, 0⟩) W) := by
  obtain ⟨adn, cpn, rfl⟩ := hv.is
  have hnc := cx_nodes cx h
  obtain ⟨hlt, hat, hsz⟩ := hs.lt
  have c0 := hnc t.at_ hlt 0 (by omega)
  have c1 := hnc t.at_ hlt 1 (by omega)
  have c2 := hnc t.at_ hlt 2 (by omega)
  have c3 := hnc t.at_ hlt 3 (by omega)
  have c4 := hnc t.at_ hlt 4 (by omega)
  have c5 := hnc t.at_ hlt 5 (by omega)
  rw [hat] at c0 c1 c2 c3 c4 c5
  simp only [Nd.cell, Nat.add_zero] at c0 c1 c2 c3 c4 c5
  rw [ek] at c0
  have d1 := h.tree
  have hA := (MapKept.heap_alloc W (.cells #[.int .i64 1, .int .i64 t.n.num, .string t.n.a, .string t.n.b, .string t.n.c, .int .i64 t.n.kids] 81)).1
  have hB1 := (Below.refl W.heap.size W).alloc (Nat.le_refl _) (.cells #[.int .i64 1, .int .i64 t.n.num, .string t.n.a, .string t.n.b, .string t.n.c, .int .i64 t.n.kids] 81)
  obtain ⟨Y, hY⟩ : ∃ Y, W.alloc (.cells #[.int .i64 1, .int .i64 t.n.num, .string t.n.a, .string t.n.b, .string t.n.c, .int .i64 t.n.kids] 81) = Y := ⟨_, rfl⟩
  rw [hY] at hA hB1
  have HY := hid hY
  have HA := hid hA
  have S0 := hid (h.below hB1)
  have F0 := hid (Cf.of_below hB1)
  have N0 := hid (hv.frame (Cf.of_below hB1))
  have G0 := hid (Cf.refl Y)
  have R0 := hid (Rs.refl ns K s)
  have hgood := hs.toGood
  have HC : Hid (True) := trivial
  have HZ : Hid (1 ≤ t.size) := t.size_pos
  have hp0 : (0 : Int) ≤ (t.at_ : Int) := by omega
  have hpl : (t.at_ : Int) < (ns.length : Int) := by omega
  have HP1 : Hid (0 < t.k.count → wrap64 ((t.at_ : Int) + 1) = ((t.kid 0).at_ : Int)) := fun h0 => by rw [hs.first h0]; have := cx.tl; unfold wrap64; omega
  have HX := hid cx
  have HS := hid hs
  have HK := hid (And.intro hK (And.intro hF hk1))
  have HB := hid hB
  clear hA hB1 hY h hv hnc hlt hat hsz hgood cx hs hK hF hB hk1
  go_enter Tryz.func17, Tryz.ntmps17
  go_upto_region 1 with fail
  rw [HY.out]
  clear HY c0 c1 c2 c3 c4 c5 d1
  have hbx := (G0.out.block W.heap.size _ _ HA.out (by decide) (by decide) (by decide)).trans HA.out
  have e0 := cell_of_heap hbx 0
  have e1 := cell_of_heap hbx 1
  have e2 := cell_of_heap hbx 2
  have e3 := cell_of_heap hbx 3
  have e4 := cell_of_heap hbx 4
  have e5 := cell_of_heap hbx 5
  have d0 := S0.out.effs
  have d1 := S0.out.tree
  simp at e0 e1 e2 e3 e4 e5
  clear hbx
  go_wp2_with fail
  clear e0 e1 e2 e3 e4 e5 d0 d1
  refine (putM_calls ⟨1, t.n.num, 0, 0⟩ S0.out (by have r := R0.out.cost; have hb := HB.out; have hz := HZ.out; omega)).mono ?_
  rintro e X1 ⟨rfl, h1, g1⟩
  obtain ⟨n1, hn1⟩ : ∃ n, (s).out.length = n := ⟨_, rfl⟩
  rw [hn1]
  have H1 := hid hn1
  have tn : n1 < (Cs.put (s) ⟨1, t.n.num, 0, 0⟩).out.length := by rw [← hn1]; simp [Cs.put]
  have S1 := hid h1
  have G1 : Hid (Cf Y X1) := G0.out.trans g1
  have Q1 := hid (Rs.put ns K (s) ⟨1, t.n.num, 0, 0⟩)
  have R1 := hid (R0.out.trans Q1.out)
  have Tn1_1 := hid tn
  clear h1 g1 hn1 tn
  have hbx := (G1.out.block W.heap.size _ _ HA.out (by decide) (by decide) (by decide)).trans HA.out
  have e0 := cell_of_heap hbx 0
  have e1 := cell_of_heap hbx 1
  have e2 := cell_of_heap hbx 2
  have e3 := cell_of_heap hbx 3
  have e4 := cell_of_heap hbx 4
  have e5 := cell_of_heap hbx 5
  have d0 := S1.out.effs
  have d1 := S1.out.tree
  simp at e0 e1 e2 e3 e4 e5
  clear hbx
  go_wp2_with fail
  clear e0 e1 e2 e3 e4 e5 d0 d1
  go_end0
  exact ⟨⟨_, rfl⟩, S1.out, F0.out.trans G1.out⟩

set_option maxHeartbeats 4000000 in
set_option maxRecDepth 100000 in
theorem part_c2 (cx : Cx W0 Mb ae b off es ns) (hk1 : K ≤ 1000) {t : Tp} {ss : List ByteArray} {s : Cs} {v : Value} {W : World} (hF : t.size ≤ F + 1) (hs : Stands ns t) (hK : ss.length + 2 * t.size ≤ K) (hB : s.out.length + 10 * s.rest + 10 * t.size ≤ 950000) (h : CmE W0 Mb (.slice ae es.length ce) (.slice (some ⟨b, off, none⟩) ns.length cap) s W) (hv : NmT W v ss) (ek : t.n.kind = 2) :
    Calls Tryz.prog 17 #[.pointer (some ⟨Mb, 0, none⟩), .int .i64 (t.at_ : Int), v] W (LeadPost W0 Mb (.slice ae es.length ce) (.slice (some ⟨b, off, none⟩) ns.length cap) (s.put ⟨2, t.n.num, 0, 0⟩) W) := by
  obtain ⟨adn, cpn, rfl⟩ := hv.is
  have hnc := cx_nodes cx h
  obtain ⟨hlt, hat, hsz⟩ := hs.lt
  have c0 := hnc t.at_ hlt 0 (by omega)
  have c1 := hnc t.at_ hlt 1 (by omega)
  have c2 := hnc t.at_ hlt 2 (by omega)
  have c3 := hnc t.at_ hlt 3 (by omega)
  have c4 := hnc t.at_ hlt 4 (by omega)
  have c5 := hnc t.at_ hlt 5 (by omega)
  rw [hat] at c0 c1 c2 c3 c4 c5
  simp only [Nd.cell, Nat.add_zero] at c0 c1 c2 c3 c4 c5
  rw [ek] at c0
  have d1 := h.tree
  have hA := (MapKept.heap_alloc W (.cells #[.int .i64 2, .int .i64 t.n.num, .string t.n.a, .string t.n.b, .string t.n.c, .int .i64 t.n.kids] 81)).1
  have hB1 := (Below.refl W.heap.size W).alloc (Nat.le_refl _) (.cells #[.int .i64 2, .int .i64 t.n.num, .string t.n.a, .string t.n.b, .string t.n.c, .int .i64 t.n.kids] 81)
  obtain ⟨Y, hY⟩ : ∃ Y, W.alloc (.cells #[.int .i64 2, .int .i64 t.n.num, .string t.n.a, .string t.n.b, .string t.n.c, .int .i64 t.n.kids] 81) = Y := ⟨_, rfl⟩
  rw [hY] at hA hB1
  have HY := hid hY
  have HA := hid hA
  have S0 := hid (h.below hB1)
  have F0 := hid (Cf.of_below hB1)
  have N0 := hid (hv.frame (Cf.of_below hB1))
  have G0 := hid (Cf.refl Y)
  have R0 := hid (Rs.refl ns K s)
  have hgood := hs.toGood
  have HC : Hid (True) := trivial
  have HZ : Hid (1 ≤ t.size) := t.size_pos
  have hp0 : (0 : Int) ≤ (t.at_ : Int) := by omega
  have hpl : (t.at_ : Int) < (ns.length : Int) := by omega
  have HP1 : Hid (0 < t.k.count → wrap64 ((t.at_ : Int) + 1) = ((t.kid 0).at_ : Int)) := fun h0 => by rw [hs.first h0]; have := cx.tl; unfold wrap64; omega
  have HX := hid cx
  have HS := hid hs
  have HK := hid (And.intro hK (And.intro hF hk1))
  have HB := hid hB
  clear hA hB1 hY h hv hnc hlt hat hsz hgood cx hs hK hF hB hk1
  go_enter Tryz.func17, Tryz.ntmps17
  go_upto_region 1 with fail
  rw [HY.out]
  clear HY c0 c1 c2 c3 c4 c5 d1
  have hbx := (G0.out.block W.heap.size _ _ HA.out (by decide) (by decide) (by decide)).trans HA.out
  have e0 := cell_of_heap hbx 0
  have e1 := cell_of_heap hbx 1
  have e2 := cell_of_heap hbx 2
  have e3 := cell_of_heap hbx 3
  have e4 := cell_of_heap hbx 4
  have e5 := cell_of_heap hbx 5
  have d0 := S0.out.effs
  have d1 := S0.out.tree
  simp at e0 e1 e2 e3 e4 e5
  clear hbx
  go_wp2_with fail
  clear e0 e1 e2 e3 e4 e5 d0 d1
  refine (putM_calls ⟨2, t.n.num, 0, 0⟩ S0.out (by have r := R0.out.cost; have hb := HB.out; have hz := HZ.out; omega)).mono ?_
  rintro e X1 ⟨rfl, h1, g1⟩
  obtain ⟨n1, hn1⟩ : ∃ n, (s).out.length = n := ⟨_, rfl⟩
  rw [hn1]
  have H1 := hid hn1
  have tn : n1 < (Cs.put (s) ⟨2, t.n.num, 0, 0⟩).out.length := by rw [← hn1]; simp [Cs.put]
  have S1 := hid h1
  have G1 : Hid (Cf Y X1) := G0.out.trans g1
  have Q1 := hid (Rs.put ns K (s) ⟨2, t.n.num, 0, 0⟩)
  have R1 := hid (R0.out.trans Q1.out)
  have Tn1_1 := hid tn
  clear h1 g1 hn1 tn
  have hbx := (G1.out.block W.heap.size _ _ HA.out (by decide) (by decide) (by decide)).trans HA.out
  have e0 := cell_of_heap hbx 0
  have e1 := cell_of_heap hbx 1
  have e2 := cell_of_heap hbx 2
  have e3 := cell_of_heap hbx 3
  have e4 := cell_of_heap hbx 4
  have e5 := cell_of_heap hbx 5
  have d0 := S1.out.effs
  have d1 := S1.out.tree
  simp at e0 e1 e2 e3 e4 e5
  clear hbx
  go_wp2_with fail
  clear e0 e1 e2 e3 e4 e5 d0 d1
  go_end0
  exact ⟨⟨_, rfl⟩, S1.out, F0.out.trans G1.out⟩

set_option maxHeartbeats 4000000 in
set_option maxRecDepth 100000 in
theorem part_c3 (cx : Cx W0 Mb ae b off es ns) (hk1 : K ≤ 1000) {t : Tp} {ss : List ByteArray} {s : Cs} {v : Value} {W : World} (hF : t.size ≤ F + 1) (hs : Stands ns t) (hK : ss.length + 2 * t.size ≤ K) (hB : s.out.length + 10 * s.rest + 10 * t.size ≤ 950000) (h : CmE W0 Mb (.slice ae es.length ce) (.slice (some ⟨b, off, none⟩) ns.length cap) s W) (hv : NmT W v ss) (ek : t.n.kind = 3) :
    Calls Tryz.prog 17 #[.pointer (some ⟨Mb, 0, none⟩), .int .i64 (t.at_ : Int), v] W (LeadPost W0 Mb (.slice ae es.length ce) (.slice (some ⟨b, off, none⟩) ns.length cap) (s.put ⟨3, 0, 0, 0⟩) W) := by
  obtain ⟨adn, cpn, rfl⟩ := hv.is
  have hnc := cx_nodes cx h
  obtain ⟨hlt, hat, hsz⟩ := hs.lt
  have c0 := hnc t.at_ hlt 0 (by omega)
  have c1 := hnc t.at_ hlt 1 (by omega)
  have c2 := hnc t.at_ hlt 2 (by omega)
  have c3 := hnc t.at_ hlt 3 (by omega)
  have c4 := hnc t.at_ hlt 4 (by omega)
  have c5 := hnc t.at_ hlt 5 (by omega)
  rw [hat] at c0 c1 c2 c3 c4 c5
  simp only [Nd.cell, Nat.add_zero] at c0 c1 c2 c3 c4 c5
  rw [ek] at c0
  have d1 := h.tree
  have hA := (MapKept.heap_alloc W (.cells #[.int .i64 3, .int .i64 t.n.num, .string t.n.a, .string t.n.b, .string t.n.c, .int .i64 t.n.kids] 81)).1
  have hB1 := (Below.refl W.heap.size W).alloc (Nat.le_refl _) (.cells #[.int .i64 3, .int .i64 t.n.num, .string t.n.a, .string t.n.b, .string t.n.c, .int .i64 t.n.kids] 81)
  obtain ⟨Y, hY⟩ : ∃ Y, W.alloc (.cells #[.int .i64 3, .int .i64 t.n.num, .string t.n.a, .string t.n.b, .string t.n.c, .int .i64 t.n.kids] 81) = Y := ⟨_, rfl⟩
  rw [hY] at hA hB1
  have HY := hid hY
  have HA := hid hA
  have S0 := hid (h.below hB1)
  have F0 := hid (Cf.of_below hB1)
  have N0 := hid (hv.frame (Cf.of_below hB1))
  have G0 := hid (Cf.refl Y)
  have R0 := hid (Rs.refl ns K s)
  have hgood := hs.toGood
  have HC : Hid (True) := trivial
  have HZ : Hid (1 ≤ t.size) := t.size_pos
  have hp0 : (0 : Int) ≤ (t.at_ : Int) := by omega
  have hpl : (t.at_ : Int) < (ns.length : Int) := by omega
  have HP1 : Hid (0 < t.k.count → wrap64 ((t.at_ : Int) + 1) = ((t.kid 0).at_ : Int)) := fun h0 => by rw [hs.first h0]; have := cx.tl; unfold wrap64; omega
  have HX := hid cx
  have HS := hid hs
  have HK := hid (And.intro hK (And.intro hF hk1))
  have HB := hid hB
  clear hA hB1 hY h hv hnc hlt hat hsz hgood cx hs hK hF hB hk1
  go_enter Tryz.func17, Tryz.ntmps17
  go_upto_region 1 with fail
  rw [HY.out]
  clear HY c0 c1 c2 c3 c4 c5 d1
  have hbx := (G0.out.block W.heap.size _ _ HA.out (by decide) (by decide) (by decide)).trans HA.out
  have e0 := cell_of_heap hbx 0
  have e1 := cell_of_heap hbx 1
  have e2 := cell_of_heap hbx 2
  have e3 := cell_of_heap hbx 3
  have e4 := cell_of_heap hbx 4
  have e5 := cell_of_heap hbx 5
  have d0 := S0.out.effs
  have d1 := S0.out.tree
  simp at e0 e1 e2 e3 e4 e5
  clear hbx
  go_wp2_with fail
  clear e0 e1 e2 e3 e4 e5 d0 d1
  refine (putM_calls ⟨3, 0, 0, 0⟩ S0.out (by have r := R0.out.cost; have hb := HB.out; have hz := HZ.out; omega)).mono ?_
  rintro e X1 ⟨rfl, h1, g1⟩
  obtain ⟨n1, hn1⟩ : ∃ n, (s).out.length = n := ⟨_, rfl⟩
  rw [hn1]
  have H1 := hid hn1
  have tn : n1 < (Cs.put (s) ⟨3, 0, 0, 0⟩).out.length := by rw [← hn1]; simp [Cs.put]
  have S1 := hid h1
  have G1 : Hid (Cf Y X1) := G0.out.trans g1
  have Q1 := hid (Rs.put ns K (s) ⟨3, 0, 0, 0⟩)
  have R1 := hid (R0.out.trans Q1.out)
  have Tn1_1 := hid tn
  clear h1 g1 hn1 tn
  have hbx := (G1.out.block W.heap.size _ _ HA.out (by decide) (by decide) (by decide)).trans HA.out
  have e0 := cell_of_heap hbx 0
  have e1 := cell_of_heap hbx 1
  have e2 := cell_of_heap hbx 2
  have e3 := cell_of_heap hbx 3
  have e4 := cell_of_heap hbx 4
  have e5 := cell_of_heap hbx 5
  have d0 := S1.out.effs
  have d1 := S1.out.tree
  simp at e0 e1 e2 e3 e4 e5
  clear hbx
  go_wp2_with fail
  clear e0 e1 e2 e3 e4 e5 d0 d1
  go_end0
  exact ⟨⟨_, rfl⟩, S1.out, F0.out.trans G1.out⟩

set_option maxHeartbeats 4000000 in
set_option maxRecDepth 100000 in
theorem part_c4 (cx : Cx W0 Mb ae b off es ns) (hk1 : K ≤ 1000) {t : Tp} {ss : List ByteArray} {s : Cs} {v : Value} {W : World} (hF : t.size ≤ F + 1) (hs : Stands ns t) (hK : ss.length + 2 * t.size ≤ K) (hB : s.out.length + 10 * s.rest + 10 * t.size ≤ 950000) (h : CmE W0 Mb (.slice ae es.length ce) (.slice (some ⟨b, off, none⟩) ns.length cap) s W) (hv : NmT W v ss) (ek : t.n.kind = 4) :
    Calls Tryz.prog 17 #[.pointer (some ⟨Mb, 0, none⟩), .int .i64 (t.at_ : Int), v] W (LeadPost W0 Mb (.slice ae es.length ce) (.slice (some ⟨b, off, none⟩) ns.length cap) (s.put ⟨4, 0, 0, 0⟩) W) := by
  obtain ⟨adn, cpn, rfl⟩ := hv.is
  have hnc := cx_nodes cx h
  obtain ⟨hlt, hat, hsz⟩ := hs.lt
  have c0 := hnc t.at_ hlt 0 (by omega)
  have c1 := hnc t.at_ hlt 1 (by omega)
  have c2 := hnc t.at_ hlt 2 (by omega)
  have c3 := hnc t.at_ hlt 3 (by omega)
  have c4 := hnc t.at_ hlt 4 (by omega)
  have c5 := hnc t.at_ hlt 5 (by omega)
  rw [hat] at c0 c1 c2 c3 c4 c5
  simp only [Nd.cell, Nat.add_zero] at c0 c1 c2 c3 c4 c5
  rw [ek] at c0
  have d1 := h.tree
  have hA := (MapKept.heap_alloc W (.cells #[.int .i64 4, .int .i64 t.n.num, .string t.n.a, .string t.n.b, .string t.n.c, .int .i64 t.n.kids] 81)).1
  have hB1 := (Below.refl W.heap.size W).alloc (Nat.le_refl _) (.cells #[.int .i64 4, .int .i64 t.n.num, .string t.n.a, .string t.n.b, .string t.n.c, .int .i64 t.n.kids] 81)
  obtain ⟨Y, hY⟩ : ∃ Y, W.alloc (.cells #[.int .i64 4, .int .i64 t.n.num, .string t.n.a, .string t.n.b, .string t.n.c, .int .i64 t.n.kids] 81) = Y := ⟨_, rfl⟩
  rw [hY] at hA hB1
  have HY := hid hY
  have HA := hid hA
  have S0 := hid (h.below hB1)
  have F0 := hid (Cf.of_below hB1)
  have N0 := hid (hv.frame (Cf.of_below hB1))
  have G0 := hid (Cf.refl Y)
  have R0 := hid (Rs.refl ns K s)
  have hgood := hs.toGood
  have HC : Hid (True) := trivial
  have HZ : Hid (1 ≤ t.size) := t.size_pos
  have hp0 : (0 : Int) ≤ (t.at_ : Int) := by omega
  have hpl : (t.at_ : Int) < (ns.length : Int) := by omega
  have HP1 : Hid (0 < t.k.count → wrap64 ((t.at_ : Int) + 1) = ((t.kid 0).at_ : Int)) := fun h0 => by rw [hs.first h0]; have := cx.tl; unfold wrap64; omega
  have HX := hid cx
  have HS := hid hs
  have HK := hid (And.intro hK (And.intro hF hk1))
  have HB := hid hB
  clear hA hB1 hY h hv hnc hlt hat hsz hgood cx hs hK hF hB hk1
  go_enter Tryz.func17, Tryz.ntmps17
  go_upto_region 1 with fail
  rw [HY.out]
  clear HY c0 c1 c2 c3 c4 c5 d1
  have hbx := (G0.out.block W.heap.size _ _ HA.out (by decide) (by decide) (by decide)).trans HA.out
  have e0 := cell_of_heap hbx 0
  have e1 := cell_of_heap hbx 1
  have e2 := cell_of_heap hbx 2
  have e3 := cell_of_heap hbx 3
  have e4 := cell_of_heap hbx 4
  have e5 := cell_of_heap hbx 5
  have d0 := S0.out.effs
  have d1 := S0.out.tree
  simp at e0 e1 e2 e3 e4 e5
  clear hbx
  go_wp2_with fail
  clear e0 e1 e2 e3 e4 e5 d0 d1
  refine (putM_calls ⟨4, 0, 0, 0⟩ S0.out (by have r := R0.out.cost; have hb := HB.out; have hz := HZ.out; omega)).mono ?_
  rintro e X1 ⟨rfl, h1, g1⟩
  obtain ⟨n1, hn1⟩ : ∃ n, (s).out.length = n := ⟨_, rfl⟩
  rw [hn1]
  have H1 := hid hn1
  have tn : n1 < (Cs.put (s) ⟨4, 0, 0, 0⟩).out.length := by rw [← hn1]; simp [Cs.put]
  have S1 := hid h1
  have G1 : Hid (Cf Y X1) := G0.out.trans g1
  have Q1 := hid (Rs.put ns K (s) ⟨4, 0, 0, 0⟩)
  have R1 := hid (R0.out.trans Q1.out)
  have Tn1_1 := hid tn
  clear h1 g1 hn1 tn
  have hbx := (G1.out.block W.heap.size _ _ HA.out (by decide) (by decide) (by decide)).trans HA.out
  have e0 := cell_of_heap hbx 0
  have e1 := cell_of_heap hbx 1
  have e2 := cell_of_heap hbx 2
  have e3 := cell_of_heap hbx 3
  have e4 := cell_of_heap hbx 4
  have e5 := cell_of_heap hbx 5
  have d0 := S1.out.effs
  have d1 := S1.out.tree
  simp at e0 e1 e2 e3 e4 e5
  clear hbx
  go_wp2_with fail
  clear e0 e1 e2 e3 e4 e5 d0 d1
  go_end0
  exact ⟨⟨_, rfl⟩, S1.out, F0.out.trans G1.out⟩

set_option maxHeartbeats 4000000 in
set_option maxRecDepth 100000 in
theorem part_c5 (cx : Cx W0 Mb ae b off es ns) (hk1 : K ≤ 1000) {t : Tp} {ss : List ByteArray} {s : Cs} {v : Value} {W : World} (hF : t.size ≤ F + 1) (hs : Stands ns t) (hK : ss.length + 2 * t.size ≤ K) (hB : s.out.length + 10 * s.rest + 10 * t.size ≤ 950000) (h : CmE W0 Mb (.slice ae es.length ce) (.slice (some ⟨b, off, none⟩) ns.length cap) s W) (hv : NmT W v ss) (ek : t.n.kind = 5) :
    Calls Tryz.prog 17 #[.pointer (some ⟨Mb, 0, none⟩), .int .i64 (t.at_ : Int), v] W (LeadPost W0 Mb (.slice ae es.length ce) (.slice (some ⟨b, off, none⟩) ns.length cap) (s.put ⟨5, idxZ ss t.n.a, 0, 0⟩) W) := by
  obtain ⟨adn, cpn, rfl⟩ := hv.is
  have hnc := cx_nodes cx h
  obtain ⟨hlt, hat, hsz⟩ := hs.lt
  have c0 := hnc t.at_ hlt 0 (by omega)
  have c1 := hnc t.at_ hlt 1 (by omega)
  have c2 := hnc t.at_ hlt 2 (by omega)
  have c3 := hnc t.at_ hlt 3 (by omega)
  have c4 := hnc t.at_ hlt 4 (by omega)
  have c5 := hnc t.at_ hlt 5 (by omega)
  rw [hat] at c0 c1 c2 c3 c4 c5
  simp only [Nd.cell, Nat.add_zero] at c0 c1 c2 c3 c4 c5
  rw [ek] at c0
  have d1 := h.tree
  have hA := (MapKept.heap_alloc W (.cells #[.int .i64 5, .int .i64 t.n.num, .string t.n.a, .string t.n.b, .string t.n.c, .int .i64 t.n.kids] 81)).1
  have hB1 := (Below.refl W.heap.size W).alloc (Nat.le_refl _) (.cells #[.int .i64 5, .int .i64 t.n.num, .string t.n.a, .string t.n.b, .string t.n.c, .int .i64 t.n.kids] 81)
  obtain ⟨Y, hY⟩ : ∃ Y, W.alloc (.cells #[.int .i64 5, .int .i64 t.n.num, .string t.n.a, .string t.n.b, .string t.n.c, .int .i64 t.n.kids] 81) = Y := ⟨_, rfl⟩
  rw [hY] at hA hB1
  have HY := hid hY
  have HA := hid hA
  have S0 := hid (h.below hB1)
  have F0 := hid (Cf.of_below hB1)
  have N0 := hid (hv.frame (Cf.of_below hB1))
  have G0 := hid (Cf.refl Y)
  have R0 := hid (Rs.refl ns K s)
  have hgood := hs.toGood
  have HC : Hid (True) := trivial
  have HZ : Hid (1 ≤ t.size) := t.size_pos
  have hp0 : (0 : Int) ≤ (t.at_ : Int) := by omega
  have hpl : (t.at_ : Int) < (ns.length : Int) := by omega
  have HP1 : Hid (0 < t.k.count → wrap64 ((t.at_ : Int) + 1) = ((t.kid 0).at_ : Int)) := fun h0 => by rw [hs.first h0]; have := cx.tl; unfold wrap64; omega
  have HX := hid cx
  have HS := hid hs
  have HK := hid (And.intro hK (And.intro hF hk1))
  have HB := hid hB
  clear hA hB1 hY h hv hnc hlt hat hsz hgood cx hs hK hF hB hk1
  go_enter Tryz.func17, Tryz.ntmps17
  go_upto_region 1 with fail
  rw [HY.out]
  clear HY c0 c1 c2 c3 c4 c5 d1
  have hbx := (G0.out.block W.heap.size _ _ HA.out (by decide) (by decide) (by decide)).trans HA.out
  have e0 := cell_of_heap hbx 0
  have e1 := cell_of_heap hbx 1
  have e2 := cell_of_heap hbx 2
  have e3 := cell_of_heap hbx 3
  have e4 := cell_of_heap hbx 4
  have e5 := cell_of_heap hbx 5
  have d0 := S0.out.effs
  have d1 := S0.out.tree
  simp at e0 e1 e2 e3 e4 e5
  clear hbx
  go_wp2_with fail
  clear e0 e1 e2 e3 e4 e5 d0 d1
  refine (index_calls (ss := ss) t.n.a Y N0.out.names (by have := HK.out; omega)).mono ?_
  rintro e Xi ⟨rfl, rfl⟩
  have hbx := (G0.out.block W.heap.size _ _ HA.out (by decide) (by decide) (by decide)).trans HA.out
  have e0 := cell_of_heap hbx 0
  have e1 := cell_of_heap hbx 1
  have e2 := cell_of_heap hbx 2
  have e3 := cell_of_heap hbx 3
  have e4 := cell_of_heap hbx 4
  have e5 := cell_of_heap hbx 5
  have d0 := S0.out.effs
  have d1 := S0.out.tree
  simp at e0 e1 e2 e3 e4 e5
  clear hbx
  go_wp2_with fail
  clear e0 e1 e2 e3 e4 e5 d0 d1
  refine (putM_calls ⟨5, idxZ ss t.n.a, 0, 0⟩ S0.out (by have r := R0.out.cost; have hb := HB.out; have hz := HZ.out; omega)).mono ?_
  rintro e X1 ⟨rfl, h1, g1⟩
  obtain ⟨n1, hn1⟩ : ∃ n, (s).out.length = n := ⟨_, rfl⟩
  rw [hn1]
  have H1 := hid hn1
  have tn : n1 < (Cs.put (s) ⟨5, idxZ ss t.n.a, 0, 0⟩).out.length := by rw [← hn1]; simp [Cs.put]
  have S1 := hid h1
  have G1 : Hid (Cf Y X1) := G0.out.trans g1
  have Q1 := hid (Rs.put ns K (s) ⟨5, idxZ ss t.n.a, 0, 0⟩)
  have R1 := hid (R0.out.trans Q1.out)
  have Tn1_1 := hid tn
  clear h1 g1 hn1 tn
  have hbx := (G1.out.block W.heap.size _ _ HA.out (by decide) (by decide) (by decide)).trans HA.out
  have e0 := cell_of_heap hbx 0
  have e1 := cell_of_heap hbx 1
  have e2 := cell_of_heap hbx 2
  have e3 := cell_of_heap hbx 3
  have e4 := cell_of_heap hbx 4
  have e5 := cell_of_heap hbx 5
  have d0 := S1.out.effs
  have d1 := S1.out.tree
  simp at e0 e1 e2 e3 e4 e5
  clear hbx
  go_wp2_with fail
  clear e0 e1 e2 e3 e4 e5 d0 d1
  go_end0
  exact ⟨⟨_, rfl⟩, S1.out, F0.out.trans G1.out⟩

set_option maxHeartbeats 4000000 in
set_option maxRecDepth 100000 in
theorem part_c6 (cx : Cx W0 Mb ae b off es ns) (hk1 : K ≤ 1000) {t : Tp} {ss : List ByteArray} {s : Cs} {v : Value} {W : World} (hF : t.size ≤ F + 1) (hs : Stands ns t) (hK : ss.length + 2 * t.size ≤ K) (hB : s.out.length + 10 * s.rest + 10 * t.size ≤ 950000) (h : CmE W0 Mb (.slice ae es.length ce) (.slice (some ⟨b, off, none⟩) ns.length cap) s W) (hv : NmT W v ss) (ek : t.n.kind = 6) :
    Calls Tryz.prog 17 #[.pointer (some ⟨Mb, 0, none⟩), .int .i64 (t.at_ : Int), v] W (LeadPost W0 Mb (.slice ae es.length ce) (.slice (some ⟨b, off, none⟩) ns.length cap) ((s.put ⟨6, 0, 0, 0⟩).wait ⟨t.kid 0, ss ++ [t.n.a], s.out.length, 0⟩) W) := by
  obtain ⟨adn, cpn, rfl⟩ := hv.is
  have hnc := cx_nodes cx h
  obtain ⟨hlt, hat, hsz⟩ := hs.lt
  have c0 := hnc t.at_ hlt 0 (by omega)
  have c1 := hnc t.at_ hlt 1 (by omega)
  have c2 := hnc t.at_ hlt 2 (by omega)
  have c3 := hnc t.at_ hlt 3 (by omega)
  have c4 := hnc t.at_ hlt 4 (by omega)
  have c5 := hnc t.at_ hlt 5 (by omega)
  rw [hat] at c0 c1 c2 c3 c4 c5
  simp only [Nd.cell, Nat.add_zero] at c0 c1 c2 c3 c4 c5
  rw [ek] at c0
  have d1 := h.tree
  have hA := (MapKept.heap_alloc W (.cells #[.int .i64 6, .int .i64 t.n.num, .string t.n.a, .string t.n.b, .string t.n.c, .int .i64 t.n.kids] 81)).1
  have hB1 := (Below.refl W.heap.size W).alloc (Nat.le_refl _) (.cells #[.int .i64 6, .int .i64 t.n.num, .string t.n.a, .string t.n.b, .string t.n.c, .int .i64 t.n.kids] 81)
  obtain ⟨Y, hY⟩ : ∃ Y, W.alloc (.cells #[.int .i64 6, .int .i64 t.n.num, .string t.n.a, .string t.n.b, .string t.n.c, .int .i64 t.n.kids] 81) = Y := ⟨_, rfl⟩
  rw [hY] at hA hB1
  have HY := hid hY
  have HA := hid hA
  have S0 := hid (h.below hB1)
  have F0 := hid (Cf.of_below hB1)
  have N0 := hid (hv.frame (Cf.of_below hB1))
  have G0 := hid (Cf.refl Y)
  have R0 := hid (Rs.refl ns K s)
  have hgood := hs.toGood
  have HC : Hid (t.k.count = 1) := count_of hgood ek (c := 1) rfl
  have HZ : Hid ((t.kid 0).size + 1 = t.size ∧ 1 ≤ (t.kid 0).size) := ⟨(kids1 HC.out).2, (t.kid 0).size_pos⟩
  have hp0 : (0 : Int) ≤ (t.at_ : Int) := by omega
  have hpl : (t.at_ : Int) < (ns.length : Int) := by omega
  have HP1 : Hid (0 < t.k.count → wrap64 ((t.at_ : Int) + 1) = ((t.kid 0).at_ : Int)) := fun h0 => by rw [hs.first h0]; have := cx.tl; unfold wrap64; omega
  have HX := hid cx
  have HS := hid hs
  have HK := hid (And.intro hK (And.intro hF hk1))
  have HB := hid hB
  clear hA hB1 hY h hv hnc hlt hat hsz hgood cx hs hK hF hB hk1
  go_enter Tryz.func17, Tryz.ntmps17
  go_upto_region 1 with fail
  rw [HY.out]
  clear HY c0 c1 c2 c3 c4 c5 d1
  have hbx := (G0.out.block W.heap.size _ _ HA.out (by decide) (by decide) (by decide)).trans HA.out
  have e0 := cell_of_heap hbx 0
  have e1 := cell_of_heap hbx 1
  have e2 := cell_of_heap hbx 2
  have e3 := cell_of_heap hbx 3
  have e4 := cell_of_heap hbx 4
  have e5 := cell_of_heap hbx 5
  have d0 := S0.out.effs
  have d1 := S0.out.tree
  simp at e0 e1 e2 e3 e4 e5
  clear hbx
  go_wp2_with fail
  clear e0 e1 e2 e3 e4 e5 d0 d1
  refine (withN_calls (ss := ss) (ms := [t.n.a]) _ ((N0.out.frame G0.out).names.below ((Below.refl _ _).alloc (Nat.le_refl _) _)) (lit_names Y [t.n.a]) (by have := HK.out; have := HZ.out; simp only [List.length_cons, List.length_nil]; omega)).mono ?_
  rintro e X1 ⟨u1, rfl, hu1, hb1⟩
  have B1 : Below Y.heap.size Y X1 := ((Below.refl _ _).alloc (Nat.le_refl _) _).trans (hb1.mono (by simp))
  have U1 := hid hu1
  have S1 := hid (S0.out.below B1)
  have G1 : Hid (Cf Y X1) := G0.out.trans (Cf.of_below B1)
  have R1 := R0
  clear hu1 hb1 B1
  have hbx := (G1.out.block W.heap.size _ _ HA.out (by decide) (by decide) (by decide)).trans HA.out
  have e0 := cell_of_heap hbx 0
  have e1 := cell_of_heap hbx 1
  have e2 := cell_of_heap hbx 2
  have e3 := cell_of_heap hbx 3
  have e4 := cell_of_heap hbx 4
  have e5 := cell_of_heap hbx 5
  have d0 := S1.out.effs
  have d1 := S1.out.tree
  simp at e0 e1 e2 e3 e4 e5
  clear hbx
  go_wp2_with fail
  clear e0 e1 e2 e3 e4 e5 d0 d1
  refine (putM_calls ⟨6, 0, 0, 0⟩ S1.out (by have r := R1.out.cost; have hb := HB.out; have hz := HZ.out; omega)).mono ?_
  rintro e X2 ⟨rfl, h1, g1⟩
  obtain ⟨n2, hn2⟩ : ∃ n, (s).out.length = n := ⟨_, rfl⟩
  rw [hn2]
  have H2 := hid hn2
  have tn : n2 < (Cs.put (s) ⟨6, 0, 0, 0⟩).out.length := by rw [← hn2]; simp [Cs.put]
  have S2 := hid h1
  have G2 : Hid (Cf Y X2) := G1.out.trans g1
  have Q2 := hid (Rs.put ns K (s) ⟨6, 0, 0, 0⟩)
  have R2 := hid (R1.out.trans Q2.out)
  have D1_2 : Hid (Cf X1 X2) := g1
  have Tn2_2 := hid tn
  clear h1 g1 hn2 tn
  have hbx := (G2.out.block W.heap.size _ _ HA.out (by decide) (by decide) (by decide)).trans HA.out
  have e0 := cell_of_heap hbx 0
  have e1 := cell_of_heap hbx 1
  have e2 := cell_of_heap hbx 2
  have e3 := cell_of_heap hbx 3
  have e4 := cell_of_heap hbx 4
  have e5 := cell_of_heap hbx 5
  have d0 := S2.out.effs
  have d1 := S2.out.tree
  simp at e0 e1 e2 e3 e4 e5
  clear hbx
  go_wp2_with fail
  clear e0 e1 e2 e3 e4 e5 d0 d1
  rw [HP1.out (by have := HC.out; omega)]
  refine (wait_calls ⟨t.kid 0, ss ++ [t.n.a], n2, 0⟩ S2.out (by have hl := later_le ((Cs.put (s) ⟨6, 0, 0, 0⟩)); have r := R2.out.cost; have hb := HB.out; have hz := HZ.out; omega) (U1.out.frame D1_2.out)).mono ?_
  rintro e X3 ⟨⟨x3, rfl⟩, h1, g1⟩
  have S3 := hid h1
  have G3 : Hid (Cf Y X3) := G2.out.trans g1
  have Q3 := hid (Rs.wait (ns := ns) (K := K) (s := (Cs.put (s) ⟨6, 0, 0, 0⟩)) (l := ⟨t.kid 0, ss ++ [t.n.a], n2, 0⟩) (HS.out.kid (by have := HC.out; omega)) (by have := HK.out; have := HZ.out; simp only [List.length_append, List.length_cons, List.length_nil]; omega) Tn2_2.out)
  have R3 := hid (R2.out.trans Q3.out)
  have Tn2_3 := hid (Nat.lt_of_lt_of_le Tn2_2.out Q3.out.out)
  have D1_3 : Hid (Cf X1 X3) := D1_2.out.trans g1
  clear h1 g1
  have hbx := (G3.out.block W.heap.size _ _ HA.out (by decide) (by decide) (by decide)).trans HA.out
  have e0 := cell_of_heap hbx 0
  have e1 := cell_of_heap hbx 1
  have e2 := cell_of_heap hbx 2
  have e3 := cell_of_heap hbx 3
  have e4 := cell_of_heap hbx 4
  have e5 := cell_of_heap hbx 5
  have d0 := S3.out.effs
  have d1 := S3.out.tree
  simp at e0 e1 e2 e3 e4 e5
  clear hbx
  go_wp2_with fail
  clear e0 e1 e2 e3 e4 e5 d0 d1
  go_end0
  have qn2 := H2.out
  subst qn2
  exact ⟨⟨_, rfl⟩, S3.out, F0.out.trans G3.out⟩

set_option maxHeartbeats 4000000 in
set_option maxRecDepth 100000 in
theorem part_c8 (cx : Cx W0 Mb ae b off es ns) (hk1 : K ≤ 1000) (ih : PartC W0 Mb ae ce b off cap es ns K F) {t : Tp} {ss : List ByteArray} {s : Cs} {v : Value} {W : World} (hF : t.size ≤ F + 1) (hs : Stands ns t) (hK : ss.length + 2 * t.size ≤ K) (hB : s.out.length + 10 * s.rest + 10 * t.size ≤ 950000) (h : CmE W0 Mb (.slice ae es.length ce) (.slice (some ⟨b, off, none⟩) ns.length cap) s W) (hv : NmT W v ss) (ek : t.n.kind = 8) :
    Calls Tryz.prog 17 #[.pointer (some ⟨Mb, 0, none⟩), .int .i64 (t.at_ : Int), v] W (LeadPost W0 Mb (.slice ae es.length ce) (.slice (some ⟨b, off, none⟩) ns.length cap) (boundZ (partZ es F) (t.kid 1) (ss ++ [t.n.a]) (partZ es F (t.kid 0) ss s)) W) := by
  obtain ⟨adn, cpn, rfl⟩ := hv.is
  have hnc := cx_nodes cx h
  obtain ⟨hlt, hat, hsz⟩ := hs.lt
  have c0 := hnc t.at_ hlt 0 (by omega)
  have c1 := hnc t.at_ hlt 1 (by omega)
  have c2 := hnc t.at_ hlt 2 (by omega)
  have c3 := hnc t.at_ hlt 3 (by omega)
  have c4 := hnc t.at_ hlt 4 (by omega)
  have c5 := hnc t.at_ hlt 5 (by omega)
  rw [hat] at c0 c1 c2 c3 c4 c5
  simp only [Nd.cell, Nat.add_zero] at c0 c1 c2 c3 c4 c5
  rw [ek] at c0
  have d1 := h.tree
  have hA := (MapKept.heap_alloc W (.cells #[.int .i64 8, .int .i64 t.n.num, .string t.n.a, .string t.n.b, .string t.n.c, .int .i64 t.n.kids] 81)).1
  have hB1 := (Below.refl W.heap.size W).alloc (Nat.le_refl _) (.cells #[.int .i64 8, .int .i64 t.n.num, .string t.n.a, .string t.n.b, .string t.n.c, .int .i64 t.n.kids] 81)
  obtain ⟨Y, hY⟩ : ∃ Y, W.alloc (.cells #[.int .i64 8, .int .i64 t.n.num, .string t.n.a, .string t.n.b, .string t.n.c, .int .i64 t.n.kids] 81) = Y := ⟨_, rfl⟩
  rw [hY] at hA hB1
  have HY := hid hY
  have HA := hid hA
  have S0 := hid (h.below hB1)
  have F0 := hid (Cf.of_below hB1)
  have N0 := hid (hv.frame (Cf.of_below hB1))
  have G0 := hid (Cf.refl Y)
  have R0 := hid (Rs.refl ns K s)
  have hgood := hs.toGood
  have HC : Hid (t.k.count = 2) := count_of hgood ek (c := 2) rfl
  have HZ : Hid ((t.kid 0).size + (t.kid 1).size + 1 = t.size ∧ 1 ≤ (t.kid 0).size ∧ 1 ≤ (t.kid 1).size) := ⟨(kids2 HC.out).2, (t.kid 0).size_pos, (t.kid 1).size_pos⟩
  have hp0 : (0 : Int) ≤ (t.at_ : Int) := by omega
  have hpl : (t.at_ : Int) < (ns.length : Int) := by omega
  have HP1 : Hid (0 < t.k.count → wrap64 ((t.at_ : Int) + 1) = ((t.kid 0).at_ : Int)) := fun h0 => by rw [hs.first h0]; have := cx.tl; unfold wrap64; omega
  have HX := hid cx
  have HIH := hid ih
  have HS := hid hs
  have HK := hid (And.intro hK (And.intro hF hk1))
  have HB := hid hB
  clear hA hB1 hY h hv hnc hlt hat hsz hgood cx ih hs hK hF hB hk1
  go_enter Tryz.func17, Tryz.ntmps17
  go_upto_region 1 with fail
  rw [HY.out]
  clear HY c0 c1 c2 c3 c4 c5 d1
  have hbx := (G0.out.block W.heap.size _ _ HA.out (by decide) (by decide) (by decide)).trans HA.out
  have e0 := cell_of_heap hbx 0
  have e1 := cell_of_heap hbx 1
  have e2 := cell_of_heap hbx 2
  have e3 := cell_of_heap hbx 3
  have e4 := cell_of_heap hbx 4
  have e5 := cell_of_heap hbx 5
  have d0 := S0.out.effs
  have d1 := S0.out.tree
  simp at e0 e1 e2 e3 e4 e5
  clear hbx
  go_wp2_with fail
  clear e0 e1 e2 e3 e4 e5 d0 d1
  rw [HP1.out (by have := HC.out; omega)]
  refine (HIH.out (t.kid 0) (ss) (s) _ _ (by have := HZ.out; have := HK.out; omega) (HS.out.kid (by have := HC.out; omega)) (by have := HK.out; have := HZ.out; (try simp only [List.length_append, List.length_cons, List.length_nil]); omega) (by have r := R0.out.cost; have hb := HB.out; have hz := HZ.out; omega) S0.out (N0.out.frame G0.out)).mono ?_
  rintro e X1 ⟨⟨x1, rfl⟩, h1, g1⟩
  have S1 := hid h1
  have G1 : Hid (Cf Y X1) := G0.out.trans g1
  have Q1 := hid (part_r (ns := ns) (K := K) (es := es) F (t.kid 0) (ss) (s) (by have := HZ.out; have := HK.out; omega) (HS.out.kid (by have := HC.out; omega)) (by have := HK.out; have := HZ.out; (try simp only [List.length_append, List.length_cons, List.length_nil]); omega))
  have R1 := hid (R0.out.trans Q1.out)
  clear h1 g1
  have hbx := (G1.out.block W.heap.size _ _ HA.out (by decide) (by decide) (by decide)).trans HA.out
  have e0 := cell_of_heap hbx 0
  have e1 := cell_of_heap hbx 1
  have e2 := cell_of_heap hbx 2
  have e3 := cell_of_heap hbx 3
  have e4 := cell_of_heap hbx 4
  have e5 := cell_of_heap hbx 5
  have d0 := S1.out.effs
  have d1 := S1.out.tree
  simp at e0 e1 e2 e3 e4 e5
  clear hbx
  go_upto_region 21 with fail
  have hD : Below X1.heap.size X1 X1.drew := (Below.refl _ _).drew
  obtain ⟨D2, hDe⟩ : ∃ D, X1.drew = D := ⟨_, rfl⟩
  rw [hDe] at hD
  have S2 := hid (S1.out.below hD)
  have G2 : Hid (Cf Y D2) := G1.out.trans (Cf.of_below hD)
  have R2 := R1
  have hS : (fun w' : World => w'.cell? ⟨Mb, 1, none⟩ = some (.slice (some ⟨b, off, none⟩) ns.length cap) ∧ w'.cell? ⟨W.heap.size, 2, none⟩ = some (.string t.n.a)) D2 := ⟨S2.out.tree, by rw [← hDe]; exact e2⟩
  refine pick_begin (S := fun w' => w'.cell? ⟨Mb, 1, none⟩ = some (.slice (some ⟨b, off, none⟩) ns.length cap) ∧ w'.cell? ⟨W.heap.size, 2, none⟩ = some (.string t.n.a)) (by kernel_rfl) rfl rfl ?_
  rw [hDe]
  clear hDe hD
  clear e0 e1 e2 e3 e4 e5 d0 d1
  refine pick_op (i := 0) (v := .pointer (some ⟨Mb, 0, none⟩)) (by kernel_rfl) rfl (by kernel_rfl) (by kernel_rfl) rfl rfl (fun w' _ => by simp [go_sem]) hS (by simp [go_sem]; exact rfl) ?_
  refine pick_op (i := 1) (v := .pointer (some ⟨Mb, 0, none⟩)) (by kernel_rfl) rfl (by kernel_rfl) (by kernel_rfl) rfl rfl (fun w' _ => by simp [go_sem]) hS (by simp [go_sem]; exact rfl) ?_
  refine pick_op (i := 2) (v := .pointer (some ⟨Mb, 0, none⟩)) (by kernel_rfl) rfl (by kernel_rfl) (by kernel_rfl) rfl rfl (fun w' _ => by simp [go_sem]) hS (by simp [go_sem]; exact rfl) ?_
  refine pick_op (i := 3) (v := .pointer (some ⟨Mb, 0, none⟩)) (by kernel_rfl) rfl (by kernel_rfl) (by kernel_rfl) rfl rfl (fun w' _ => by simp [go_sem]) hS (by simp [go_sem]; exact rfl) ?_
  refine pick_op (i := 4) (v := .pointer (some ⟨Mb, 1, none⟩)) (by kernel_rfl) rfl (by kernel_rfl) (by kernel_rfl) rfl rfl (fun w' _ => by simp [go_sem]) hS (by simp [go_sem]; exact rfl) ?_
  refine pick_op (i := 5) (v := .slice (some ⟨b, off, none⟩) ns.length cap) (by kernel_rfl) rfl (by kernel_rfl) (by kernel_rfl) rfl rfl (fun w' h => by simp [go_sem, h.1]) hS (by simp [go_sem]; exact rfl) ?_
  refine pick_op (i := 6) (v := .int .i64 (t.at_ : Int)) (by kernel_rfl) rfl (by kernel_rfl) (by kernel_rfl) rfl rfl (fun w' _ => by simp [go_sem]) hS (by simp [go_sem]; exact rfl) ?_
  refine pick_op (i := 8) (v := .slice adn ss.length cpn) (by kernel_rfl) rfl (by kernel_rfl) (by kernel_rfl) rfl rfl (fun w' _ => by simp [go_sem]) hS (by simp [go_sem]; exact rfl) ?_
  refine pick_op (i := 9) (v := .pointer (some ⟨W.heap.size, 2, none⟩)) (by kernel_rfl) rfl (by kernel_rfl) (by kernel_rfl) rfl rfl (fun w' _ => by simp [go_sem]) hS (by simp [go_sem]; exact rfl) ?_
  refine pick_op (i := 10) (v := .string t.n.a) (by kernel_rfl) rfl (by kernel_rfl) (by kernel_rfl) rfl rfl (fun w' h => by simp [go_sem, h.2]) hS (by simp [go_sem]; exact rfl) ?_
  refine pick_other (i := 7) (j := 11) (by kernel_rfl) ?_ ?_
  · have HQ : Hid (W.heap.size < D2.heap.size) := heap_lt ((G2.out.block W.heap.size _ _ HA.out (by decide) (by decide) (by decide)).trans HA.out)
    refine ⟨_, 42, #[.slice (some ⟨b, off, none⟩) ns.length cap, .int .i64 (t.at_ : Int), .int .i64 (1 : Int)], rfl, rfl, by simp [go_sem], ?_⟩
    refine (kid_calls (cap := cap) 1 D2 (cx_nodes HX.out S2.out) HX.out.tl HS.out (by have := HC.out; omega)).mono ?_
    rintro e Xk ⟨rfl, rfl⟩
    refine ⟨_, rfl, hS, ?_⟩
    refine pick_frame (by simp [go_sem]; exact rfl) ?_
    have hA1 : Below D2.heap.size D2 (D2.alloc (.cells #[.string t.n.a] 9)) := (Below.refl _ _).alloc (Nat.le_refl _) _
    have hS1 : (fun w' : World => w'.cell? ⟨Mb, 1, none⟩ = some (.slice (some ⟨b, off, none⟩) ns.length cap) ∧ w'.cell? ⟨W.heap.size, 2, none⟩ = some (.string t.n.a)) (D2.alloc (.cells #[.string t.n.a] 9)) := ⟨(hA1.cell (heap_at S2.out)).trans hS.1, (hA1.cell HQ.out).trans hS.2⟩
    refine pick_make (i := 11) (v := .slice (some ⟨D2.heap.size, 0, none⟩) 1 1) (w1 := D2.alloc (.cells #[.string t.n.a] 9)) rfl (by kernel_rfl) rfl rfl (by simp [go_sem]) hS1 (by simp [go_sem]; exact rfl) ?_
    refine pick_enter (i := 12) (f := 40) (args := #[.slice adn ss.length cpn, .slice (some ⟨D2.heap.size, 0, none⟩) 1 1]) rfl (by kernel_rfl) rfl rfl (by simp [go_sem]) ?_
    refine (withN_calls (ss := ss) (ms := [t.n.a]) _ ((N0.out.frame G2.out).names.below hA1) (lit_names D2 [t.n.a]) (by have := HK.out; have := HZ.out; simp only [List.length_cons, List.length_nil]; omega)).mono ?_
    rintro e X3 ⟨u3, rfl, hu3, hb3⟩
    have B3 : Below D2.heap.size D2 X3 := hA1.trans (hb3.mono (by simp))
    have hS2 : (fun w' : World => w'.cell? ⟨Mb, 1, none⟩ = some (.slice (some ⟨b, off, none⟩) ns.length cap) ∧ w'.cell? ⟨W.heap.size, 2, none⟩ = some (.string t.n.a)) X3 := ⟨(B3.cell (heap_at S2.out)).trans hS.1, (B3.cell HQ.out).trans hS.2⟩
    have U3 := hid hu3
    have S3 := hid (S2.out.below B3)
    have G3 : Hid (Cf Y X3) := G2.out.trans (Cf.of_below B3)
    have R3 := R2
    clear hu3 hb3 B3 hS hS1 hA1
    refine ⟨u3, rfl, hS2, ?_⟩
    refine pick_frame (by simp [go_sem]; exact rfl) ?_
    refine pick_enter (i := 13) (f := 41) (args := #[.pointer (some ⟨Mb, 0, none⟩), .int .i64 ((t.kid 1).at_ : Int), u3]) rfl (by kernel_rfl) rfl rfl (by simp [go_sem]) ?_
    refine (bound_calls HIH.out (t := t.kid 1) (ss := ss ++ [t.n.a]) (by have := HZ.out; have := HK.out; omega) (HS.out.kid (by have := HC.out; omega)) (by have := HK.out; have := HZ.out; simp only [List.length_append, List.length_cons, List.length_nil]; omega) (by have r := R3.out.cost; have hb := HB.out; have hz := HZ.out; omega) S3.out (U3.out.frame (Cf.refl _))).mono ?_
    rintro e X4 ⟨⟨x4, rfl⟩, h1, g1⟩
    have S4 := hid h1
    have G4 : Hid (Cf Y X4) := G3.out.trans g1
    have Q4 := hid (bound_r (part_r (ns := ns) (K := K) (es := es) F) (t := t.kid 1) (ss := ss ++ [t.n.a]) ((partZ es F (t.kid 0) (ss) (s))) (by have := HZ.out; have := HK.out; omega) (HS.out.kid (by have := HC.out; omega)) (by have := HK.out; have := HZ.out; simp only [List.length_append, List.length_cons, List.length_nil]; omega))
    have R4 := hid (R3.out.trans Q4.out)
    have D3_4 : Hid (Cf X3 X4) := g1
    have hbx := (G4.out.block W.heap.size _ _ HA.out (by decide) (by decide) (by decide)).trans HA.out
    refine ⟨x4, rfl, ⟨S4.out.tree, cell_of_heap hbx 2⟩, ?_⟩
    clear h1 g1 hbx hS2 HQ
    refine pick_frame (by simp [go_sem]; exact rfl) ?_
    refine pick_end (by kernel_rfl) ?_
    have hbx := (G4.out.block W.heap.size _ _ HA.out (by decide) (by decide) (by decide)).trans HA.out
    have e0 := cell_of_heap hbx 0
    have e1 := cell_of_heap hbx 1
    have e2 := cell_of_heap hbx 2
    have e3 := cell_of_heap hbx 3
    have e4 := cell_of_heap hbx 4
    have e5 := cell_of_heap hbx 5
    have d0 := S4.out.effs
    have d1 := S4.out.tree
    simp at e0 e1 e2 e3 e4 e5
    clear hbx
    go_wp2_with fail
    clear e0 e1 e2 e3 e4 e5 d0 d1
    go_end0
    exact ⟨⟨_, rfl⟩, S4.out, F0.out.trans G4.out⟩
  · have HQ : Hid (W.heap.size < D2.heap.size) := heap_lt ((G2.out.block W.heap.size _ _ HA.out (by decide) (by decide) (by decide)).trans HA.out)
    have hA1 : Below D2.heap.size D2 (D2.alloc (.cells #[.string t.n.a] 9)) := (Below.refl _ _).alloc (Nat.le_refl _) _
    have hS1 : (fun w' : World => w'.cell? ⟨Mb, 1, none⟩ = some (.slice (some ⟨b, off, none⟩) ns.length cap) ∧ w'.cell? ⟨W.heap.size, 2, none⟩ = some (.string t.n.a)) (D2.alloc (.cells #[.string t.n.a] 9)) := ⟨(hA1.cell (heap_at S2.out)).trans hS.1, (hA1.cell HQ.out).trans hS.2⟩
    refine ⟨_, .slice (some ⟨D2.heap.size, 0, none⟩) 1 1, D2.alloc (.cells #[.string t.n.a] 9), rfl, rfl, by simp [go_sem], hS1, ?_⟩
    refine pick_frame (by simp [go_sem]; exact rfl) ?_
    refine pick_enter (i := 7) (f := 42) (args := #[.slice (some ⟨b, off, none⟩) ns.length cap, .int .i64 (t.at_ : Int), .int .i64 (1 : Int)]) rfl (by kernel_rfl) rfl rfl (by simp [go_sem]) ?_
    refine (kid_calls (cap := cap) 1 _ (cx_nodes HX.out (S2.out.below hA1)) HX.out.tl HS.out (by have := HC.out; omega)).mono ?_
    rintro e Xk ⟨rfl, rfl⟩
    refine ⟨_, rfl, hS1, ?_⟩
    refine pick_frame (by simp [go_sem]; exact rfl) ?_
    refine pick_enter (i := 12) (f := 40) (args := #[.slice adn ss.length cpn, .slice (some ⟨D2.heap.size, 0, none⟩) 1 1]) rfl (by kernel_rfl) rfl rfl (by simp [go_sem]) ?_
    refine (withN_calls (ss := ss) (ms := [t.n.a]) _ ((N0.out.frame G2.out).names.below hA1) (lit_names D2 [t.n.a]) (by have := HK.out; have := HZ.out; simp only [List.length_cons, List.length_nil]; omega)).mono ?_
    rintro e X3 ⟨u3, rfl, hu3, hb3⟩
    have B3 : Below D2.heap.size D2 X3 := hA1.trans (hb3.mono (by simp))
    have hS2 : (fun w' : World => w'.cell? ⟨Mb, 1, none⟩ = some (.slice (some ⟨b, off, none⟩) ns.length cap) ∧ w'.cell? ⟨W.heap.size, 2, none⟩ = some (.string t.n.a)) X3 := ⟨(B3.cell (heap_at S2.out)).trans hS.1, (B3.cell HQ.out).trans hS.2⟩
    have U3 := hid hu3
    have S3 := hid (S2.out.below B3)
    have G3 : Hid (Cf Y X3) := G2.out.trans (Cf.of_below B3)
    have R3 := R2
    clear hu3 hb3 B3 hS hS1 hA1
    refine ⟨u3, rfl, hS2, ?_⟩
    refine pick_frame (by simp [go_sem]; exact rfl) ?_
    refine pick_enter (i := 13) (f := 41) (args := #[.pointer (some ⟨Mb, 0, none⟩), .int .i64 ((t.kid 1).at_ : Int), u3]) rfl (by kernel_rfl) rfl rfl (by simp [go_sem]) ?_
    refine (bound_calls HIH.out (t := t.kid 1) (ss := ss ++ [t.n.a]) (by have := HZ.out; have := HK.out; omega) (HS.out.kid (by have := HC.out; omega)) (by have := HK.out; have := HZ.out; simp only [List.length_append, List.length_cons, List.length_nil]; omega) (by have r := R3.out.cost; have hb := HB.out; have hz := HZ.out; omega) S3.out (U3.out.frame (Cf.refl _))).mono ?_
    rintro e X4 ⟨⟨x4, rfl⟩, h1, g1⟩
    have S4 := hid h1
    have G4 : Hid (Cf Y X4) := G3.out.trans g1
    have Q4 := hid (bound_r (part_r (ns := ns) (K := K) (es := es) F) (t := t.kid 1) (ss := ss ++ [t.n.a]) ((partZ es F (t.kid 0) (ss) (s))) (by have := HZ.out; have := HK.out; omega) (HS.out.kid (by have := HC.out; omega)) (by have := HK.out; have := HZ.out; simp only [List.length_append, List.length_cons, List.length_nil]; omega))
    have R4 := hid (R3.out.trans Q4.out)
    have D3_4 : Hid (Cf X3 X4) := g1
    have hbx := (G4.out.block W.heap.size _ _ HA.out (by decide) (by decide) (by decide)).trans HA.out
    refine ⟨x4, rfl, ⟨S4.out.tree, cell_of_heap hbx 2⟩, ?_⟩
    clear h1 g1 hbx hS2 HQ
    refine pick_frame (by simp [go_sem]; exact rfl) ?_
    refine pick_end (by kernel_rfl) ?_
    have hbx := (G4.out.block W.heap.size _ _ HA.out (by decide) (by decide) (by decide)).trans HA.out
    have e0 := cell_of_heap hbx 0
    have e1 := cell_of_heap hbx 1
    have e2 := cell_of_heap hbx 2
    have e3 := cell_of_heap hbx 3
    have e4 := cell_of_heap hbx 4
    have e5 := cell_of_heap hbx 5
    have d0 := S4.out.effs
    have d1 := S4.out.tree
    simp at e0 e1 e2 e3 e4 e5
    clear hbx
    go_wp2_with fail
    clear e0 e1 e2 e3 e4 e5 d0 d1
    go_end0
    exact ⟨⟨_, rfl⟩, S4.out, F0.out.trans G4.out⟩

set_option maxHeartbeats 4000000 in
set_option maxRecDepth 100000 in
theorem part_c9 (cx : Cx W0 Mb ae b off es ns) (hk1 : K ≤ 1000) (ih : PartC W0 Mb ae ce b off cap es ns K F) {t : Tp} {ss : List ByteArray} {s : Cs} {v : Value} {W : World} (hF : t.size ≤ F + 1) (hs : Stands ns t) (hK : ss.length + 2 * t.size ≤ K) (hB : s.out.length + 10 * s.rest + 10 * t.size ≤ 950000) (h : CmE W0 Mb (.slice ae es.length ce) (.slice (some ⟨b, off, none⟩) ns.length cap) s W) (hv : NmT W v ss) (ek : t.n.kind = 9) :
    Calls Tryz.prog 17 #[.pointer (some ⟨Mb, 0, none⟩), .int .i64 (t.at_ : Int), v] W (LeadPost W0 Mb (.slice ae es.length ce) (.slice (some ⟨b, off, none⟩) ns.length cap) (boundZ (partZ es F) (t.kid 1) (ss ++ [t.n.a]) ((s.put ⟨7, 0, 0, 0⟩).wait ⟨t.kid 0, ss ++ [t.n.a, t.n.b], s.out.length, 0⟩)) W) := by
  obtain ⟨adn, cpn, rfl⟩ := hv.is
  have hnc := cx_nodes cx h
  obtain ⟨hlt, hat, hsz⟩ := hs.lt
  have c0 := hnc t.at_ hlt 0 (by omega)
  have c1 := hnc t.at_ hlt 1 (by omega)
  have c2 := hnc t.at_ hlt 2 (by omega)
  have c3 := hnc t.at_ hlt 3 (by omega)
  have c4 := hnc t.at_ hlt 4 (by omega)
  have c5 := hnc t.at_ hlt 5 (by omega)
  rw [hat] at c0 c1 c2 c3 c4 c5
  simp only [Nd.cell, Nat.add_zero] at c0 c1 c2 c3 c4 c5
  rw [ek] at c0
  have d1 := h.tree
  have hA := (MapKept.heap_alloc W (.cells #[.int .i64 9, .int .i64 t.n.num, .string t.n.a, .string t.n.b, .string t.n.c, .int .i64 t.n.kids] 81)).1
  have hB1 := (Below.refl W.heap.size W).alloc (Nat.le_refl _) (.cells #[.int .i64 9, .int .i64 t.n.num, .string t.n.a, .string t.n.b, .string t.n.c, .int .i64 t.n.kids] 81)
  obtain ⟨Y, hY⟩ : ∃ Y, W.alloc (.cells #[.int .i64 9, .int .i64 t.n.num, .string t.n.a, .string t.n.b, .string t.n.c, .int .i64 t.n.kids] 81) = Y := ⟨_, rfl⟩
  rw [hY] at hA hB1
  have HY := hid hY
  have HA := hid hA
  have S0 := hid (h.below hB1)
  have F0 := hid (Cf.of_below hB1)
  have N0 := hid (hv.frame (Cf.of_below hB1))
  have G0 := hid (Cf.refl Y)
  have R0 := hid (Rs.refl ns K s)
  have hgood := hs.toGood
  have HC : Hid (t.k.count = 2) := count_of hgood ek (c := 2) rfl
  have HZ : Hid ((t.kid 0).size + (t.kid 1).size + 1 = t.size ∧ 1 ≤ (t.kid 0).size ∧ 1 ≤ (t.kid 1).size) := ⟨(kids2 HC.out).2, (t.kid 0).size_pos, (t.kid 1).size_pos⟩
  have hp0 : (0 : Int) ≤ (t.at_ : Int) := by omega
  have hpl : (t.at_ : Int) < (ns.length : Int) := by omega
  have HP1 : Hid (0 < t.k.count → wrap64 ((t.at_ : Int) + 1) = ((t.kid 0).at_ : Int)) := fun h0 => by rw [hs.first h0]; have := cx.tl; unfold wrap64; omega
  have HX := hid cx
  have HIH := hid ih
  have HS := hid hs
  have HK := hid (And.intro hK (And.intro hF hk1))
  have HB := hid hB
  clear hA hB1 hY h hv hnc hlt hat hsz hgood cx ih hs hK hF hB hk1
  go_enter Tryz.func17, Tryz.ntmps17
  go_upto_region 1 with fail
  rw [HY.out]
  clear HY c0 c1 c2 c3 c4 c5 d1
  have hbx := (G0.out.block W.heap.size _ _ HA.out (by decide) (by decide) (by decide)).trans HA.out
  have e0 := cell_of_heap hbx 0
  have e1 := cell_of_heap hbx 1
  have e2 := cell_of_heap hbx 2
  have e3 := cell_of_heap hbx 3
  have e4 := cell_of_heap hbx 4
  have e5 := cell_of_heap hbx 5
  have d0 := S0.out.effs
  have d1 := S0.out.tree
  simp at e0 e1 e2 e3 e4 e5
  clear hbx
  go_wp2_with fail
  clear e0 e1 e2 e3 e4 e5 d0 d1
  refine (withN_calls (ss := ss) (ms := [t.n.a, t.n.b]) _ ((N0.out.frame G0.out).names.below ((Below.refl _ _).alloc (Nat.le_refl _) _)) (lit_names Y [t.n.a, t.n.b]) (by have := HK.out; have := HZ.out; simp only [List.length_cons, List.length_nil]; omega)).mono ?_
  rintro e X1 ⟨u1, rfl, hu1, hb1⟩
  have B1 : Below Y.heap.size Y X1 := ((Below.refl _ _).alloc (Nat.le_refl _) _).trans (hb1.mono (by simp))
  have U1 := hid hu1
  have S1 := hid (S0.out.below B1)
  have G1 : Hid (Cf Y X1) := G0.out.trans (Cf.of_below B1)
  have R1 := R0
  clear hu1 hb1 B1
  have hbx := (G1.out.block W.heap.size _ _ HA.out (by decide) (by decide) (by decide)).trans HA.out
  have e0 := cell_of_heap hbx 0
  have e1 := cell_of_heap hbx 1
  have e2 := cell_of_heap hbx 2
  have e3 := cell_of_heap hbx 3
  have e4 := cell_of_heap hbx 4
  have e5 := cell_of_heap hbx 5
  have d0 := S1.out.effs
  have d1 := S1.out.tree
  simp at e0 e1 e2 e3 e4 e5
  clear hbx
  go_wp2_with fail
  clear e0 e1 e2 e3 e4 e5 d0 d1
  refine (putM_calls ⟨7, 0, 0, 0⟩ S1.out (by have r := R1.out.cost; have hb := HB.out; have hz := HZ.out; omega)).mono ?_
  rintro e X2 ⟨rfl, h1, g1⟩
  obtain ⟨n2, hn2⟩ : ∃ n, (s).out.length = n := ⟨_, rfl⟩
  rw [hn2]
  have H2 := hid hn2
  have tn : n2 < (Cs.put (s) ⟨7, 0, 0, 0⟩).out.length := by rw [← hn2]; simp [Cs.put]
  have S2 := hid h1
  have G2 : Hid (Cf Y X2) := G1.out.trans g1
  have Q2 := hid (Rs.put ns K (s) ⟨7, 0, 0, 0⟩)
  have R2 := hid (R1.out.trans Q2.out)
  have D1_2 : Hid (Cf X1 X2) := g1
  have Tn2_2 := hid tn
  clear h1 g1 hn2 tn
  have hbx := (G2.out.block W.heap.size _ _ HA.out (by decide) (by decide) (by decide)).trans HA.out
  have e0 := cell_of_heap hbx 0
  have e1 := cell_of_heap hbx 1
  have e2 := cell_of_heap hbx 2
  have e3 := cell_of_heap hbx 3
  have e4 := cell_of_heap hbx 4
  have e5 := cell_of_heap hbx 5
  have d0 := S2.out.effs
  have d1 := S2.out.tree
  simp at e0 e1 e2 e3 e4 e5
  clear hbx
  go_wp2_with fail
  clear e0 e1 e2 e3 e4 e5 d0 d1
  rw [HP1.out (by have := HC.out; omega)]
  refine (wait_calls ⟨t.kid 0, ss ++ [t.n.a, t.n.b], n2, 0⟩ S2.out (by have hl := later_le ((Cs.put (s) ⟨7, 0, 0, 0⟩)); have r := R2.out.cost; have hb := HB.out; have hz := HZ.out; omega) (U1.out.frame D1_2.out)).mono ?_
  rintro e X3 ⟨⟨x3, rfl⟩, h1, g1⟩
  have S3 := hid h1
  have G3 : Hid (Cf Y X3) := G2.out.trans g1
  have Q3 := hid (Rs.wait (ns := ns) (K := K) (s := (Cs.put (s) ⟨7, 0, 0, 0⟩)) (l := ⟨t.kid 0, ss ++ [t.n.a, t.n.b], n2, 0⟩) (HS.out.kid (by have := HC.out; omega)) (by have := HK.out; have := HZ.out; simp only [List.length_append, List.length_cons, List.length_nil]; omega) Tn2_2.out)
  have R3 := hid (R2.out.trans Q3.out)
  have Tn2_3 := hid (Nat.lt_of_lt_of_le Tn2_2.out Q3.out.out)
  have D1_3 : Hid (Cf X1 X3) := D1_2.out.trans g1
  clear h1 g1
  have hbx := (G3.out.block W.heap.size _ _ HA.out (by decide) (by decide) (by decide)).trans HA.out
  have e0 := cell_of_heap hbx 0
  have e1 := cell_of_heap hbx 1
  have e2 := cell_of_heap hbx 2
  have e3 := cell_of_heap hbx 3
  have e4 := cell_of_heap hbx 4
  have e5 := cell_of_heap hbx 5
  have d0 := S3.out.effs
  have d1 := S3.out.tree
  simp at e0 e1 e2 e3 e4 e5
  clear hbx
  go_upto_region 24 with fail
  have hD : Below X3.heap.size X3 X3.drew := (Below.refl _ _).drew
  obtain ⟨D4, hDe⟩ : ∃ D, X3.drew = D := ⟨_, rfl⟩
  rw [hDe] at hD
  have S4 := hid (S3.out.below hD)
  have G4 : Hid (Cf Y D4) := G3.out.trans (Cf.of_below hD)
  have R4 := R3
  have Tn2_4 := Tn2_3
  have D1_4 : Hid (Cf X1 D4) := D1_3.out.trans (Cf.of_below hD)
  have hS : (fun w' : World => w'.cell? ⟨Mb, 1, none⟩ = some (.slice (some ⟨b, off, none⟩) ns.length cap) ∧ w'.cell? ⟨W.heap.size, 2, none⟩ = some (.string t.n.a)) D4 := ⟨S4.out.tree, by rw [← hDe]; exact e2⟩
  refine pick_begin (S := fun w' => w'.cell? ⟨Mb, 1, none⟩ = some (.slice (some ⟨b, off, none⟩) ns.length cap) ∧ w'.cell? ⟨W.heap.size, 2, none⟩ = some (.string t.n.a)) (by kernel_rfl) rfl rfl ?_
  rw [hDe]
  clear hDe hD
  clear e0 e1 e2 e3 e4 e5 d0 d1
  refine pick_op (i := 0) (v := .pointer (some ⟨Mb, 0, none⟩)) (by kernel_rfl) rfl (by kernel_rfl) (by kernel_rfl) rfl rfl (fun w' _ => by simp [go_sem]) hS (by simp [go_sem]; exact rfl) ?_
  refine pick_op (i := 1) (v := .pointer (some ⟨Mb, 0, none⟩)) (by kernel_rfl) rfl (by kernel_rfl) (by kernel_rfl) rfl rfl (fun w' _ => by simp [go_sem]) hS (by simp [go_sem]; exact rfl) ?_
  refine pick_op (i := 2) (v := .pointer (some ⟨Mb, 0, none⟩)) (by kernel_rfl) rfl (by kernel_rfl) (by kernel_rfl) rfl rfl (fun w' _ => by simp [go_sem]) hS (by simp [go_sem]; exact rfl) ?_
  refine pick_op (i := 3) (v := .pointer (some ⟨Mb, 0, none⟩)) (by kernel_rfl) rfl (by kernel_rfl) (by kernel_rfl) rfl rfl (fun w' _ => by simp [go_sem]) hS (by simp [go_sem]; exact rfl) ?_
  refine pick_op (i := 4) (v := .pointer (some ⟨Mb, 1, none⟩)) (by kernel_rfl) rfl (by kernel_rfl) (by kernel_rfl) rfl rfl (fun w' _ => by simp [go_sem]) hS (by simp [go_sem]; exact rfl) ?_
  refine pick_op (i := 5) (v := .slice (some ⟨b, off, none⟩) ns.length cap) (by kernel_rfl) rfl (by kernel_rfl) (by kernel_rfl) rfl rfl (fun w' h => by simp [go_sem, h.1]) hS (by simp [go_sem]; exact rfl) ?_
  refine pick_op (i := 6) (v := .int .i64 (t.at_ : Int)) (by kernel_rfl) rfl (by kernel_rfl) (by kernel_rfl) rfl rfl (fun w' _ => by simp [go_sem]) hS (by simp [go_sem]; exact rfl) ?_
  refine pick_op (i := 8) (v := .slice adn ss.length cpn) (by kernel_rfl) rfl (by kernel_rfl) (by kernel_rfl) rfl rfl (fun w' _ => by simp [go_sem]) hS (by simp [go_sem]; exact rfl) ?_
  refine pick_op (i := 9) (v := .pointer (some ⟨W.heap.size, 2, none⟩)) (by kernel_rfl) rfl (by kernel_rfl) (by kernel_rfl) rfl rfl (fun w' _ => by simp [go_sem]) hS (by simp [go_sem]; exact rfl) ?_
  refine pick_op (i := 10) (v := .string t.n.a) (by kernel_rfl) rfl (by kernel_rfl) (by kernel_rfl) rfl rfl (fun w' h => by simp [go_sem, h.2]) hS (by simp [go_sem]; exact rfl) ?_
  refine pick_other (i := 7) (j := 11) (by kernel_rfl) ?_ ?_
  · have HQ : Hid (W.heap.size < D4.heap.size) := heap_lt ((G4.out.block W.heap.size _ _ HA.out (by decide) (by decide) (by decide)).trans HA.out)
    refine ⟨_, 42, #[.slice (some ⟨b, off, none⟩) ns.length cap, .int .i64 (t.at_ : Int), .int .i64 (1 : Int)], rfl, rfl, by simp [go_sem], ?_⟩
    refine (kid_calls (cap := cap) 1 D4 (cx_nodes HX.out S4.out) HX.out.tl HS.out (by have := HC.out; omega)).mono ?_
    rintro e Xk ⟨rfl, rfl⟩
    refine ⟨_, rfl, hS, ?_⟩
    refine pick_frame (by simp [go_sem]; exact rfl) ?_
    have hA1 : Below D4.heap.size D4 (D4.alloc (.cells #[.string t.n.a] 9)) := (Below.refl _ _).alloc (Nat.le_refl _) _
    have hS1 : (fun w' : World => w'.cell? ⟨Mb, 1, none⟩ = some (.slice (some ⟨b, off, none⟩) ns.length cap) ∧ w'.cell? ⟨W.heap.size, 2, none⟩ = some (.string t.n.a)) (D4.alloc (.cells #[.string t.n.a] 9)) := ⟨(hA1.cell (heap_at S4.out)).trans hS.1, (hA1.cell HQ.out).trans hS.2⟩
    refine pick_make (i := 11) (v := .slice (some ⟨D4.heap.size, 0, none⟩) 1 1) (w1 := D4.alloc (.cells #[.string t.n.a] 9)) rfl (by kernel_rfl) rfl rfl (by simp [go_sem]) hS1 (by simp [go_sem]; exact rfl) ?_
    refine pick_enter (i := 12) (f := 40) (args := #[.slice adn ss.length cpn, .slice (some ⟨D4.heap.size, 0, none⟩) 1 1]) rfl (by kernel_rfl) rfl rfl (by simp [go_sem]) ?_
    refine (withN_calls (ss := ss) (ms := [t.n.a]) _ ((N0.out.frame G4.out).names.below hA1) (lit_names D4 [t.n.a]) (by have := HK.out; have := HZ.out; simp only [List.length_cons, List.length_nil]; omega)).mono ?_
    rintro e X5 ⟨u5, rfl, hu5, hb5⟩
    have B5 : Below D4.heap.size D4 X5 := hA1.trans (hb5.mono (by simp))
    have hS2 : (fun w' : World => w'.cell? ⟨Mb, 1, none⟩ = some (.slice (some ⟨b, off, none⟩) ns.length cap) ∧ w'.cell? ⟨W.heap.size, 2, none⟩ = some (.string t.n.a)) X5 := ⟨(B5.cell (heap_at S4.out)).trans hS.1, (B5.cell HQ.out).trans hS.2⟩
    have U5 := hid hu5
    have S5 := hid (S4.out.below B5)
    have G5 : Hid (Cf Y X5) := G4.out.trans (Cf.of_below B5)
    have R5 := R4
    have Tn2_5 := Tn2_4
    have D1_5 : Hid (Cf X1 X5) := D1_4.out.trans (Cf.of_below B5)
    clear hu5 hb5 B5 hS hS1 hA1
    refine ⟨u5, rfl, hS2, ?_⟩
    refine pick_frame (by simp [go_sem]; exact rfl) ?_
    refine pick_enter (i := 13) (f := 41) (args := #[.pointer (some ⟨Mb, 0, none⟩), .int .i64 ((t.kid 1).at_ : Int), u5]) rfl (by kernel_rfl) rfl rfl (by simp [go_sem]) ?_
    refine (bound_calls HIH.out (t := t.kid 1) (ss := ss ++ [t.n.a]) (by have := HZ.out; have := HK.out; omega) (HS.out.kid (by have := HC.out; omega)) (by have := HK.out; have := HZ.out; simp only [List.length_append, List.length_cons, List.length_nil]; omega) (by have r := R5.out.cost; have hb := HB.out; have hz := HZ.out; omega) S5.out (U5.out.frame (Cf.refl _))).mono ?_
    rintro e X6 ⟨⟨x6, rfl⟩, h1, g1⟩
    have S6 := hid h1
    have G6 : Hid (Cf Y X6) := G5.out.trans g1
    have Q6 := hid (bound_r (part_r (ns := ns) (K := K) (es := es) F) (t := t.kid 1) (ss := ss ++ [t.n.a]) ((Cs.wait ((Cs.put (s) ⟨7, 0, 0, 0⟩)) ⟨t.kid 0, ss ++ [t.n.a, t.n.b], n2, 0⟩)) (by have := HZ.out; have := HK.out; omega) (HS.out.kid (by have := HC.out; omega)) (by have := HK.out; have := HZ.out; simp only [List.length_append, List.length_cons, List.length_nil]; omega))
    have R6 := hid (R5.out.trans Q6.out)
    have Tn2_6 := hid (Nat.lt_of_lt_of_le Tn2_5.out Q6.out.out)
    have D1_6 : Hid (Cf X1 X6) := D1_5.out.trans g1
    have D5_6 : Hid (Cf X5 X6) := g1
    have hbx := (G6.out.block W.heap.size _ _ HA.out (by decide) (by decide) (by decide)).trans HA.out
    refine ⟨x6, rfl, ⟨S6.out.tree, cell_of_heap hbx 2⟩, ?_⟩
    clear h1 g1 hbx hS2 HQ
    refine pick_frame (by simp [go_sem]; exact rfl) ?_
    refine pick_end (by kernel_rfl) ?_
    have hbx := (G6.out.block W.heap.size _ _ HA.out (by decide) (by decide) (by decide)).trans HA.out
    have e0 := cell_of_heap hbx 0
    have e1 := cell_of_heap hbx 1
    have e2 := cell_of_heap hbx 2
    have e3 := cell_of_heap hbx 3
    have e4 := cell_of_heap hbx 4
    have e5 := cell_of_heap hbx 5
    have d0 := S6.out.effs
    have d1 := S6.out.tree
    simp at e0 e1 e2 e3 e4 e5
    clear hbx
    go_wp2_with fail
    clear e0 e1 e2 e3 e4 e5 d0 d1
    go_end0
    have qn2 := H2.out
    subst qn2
    exact ⟨⟨_, rfl⟩, S6.out, F0.out.trans G6.out⟩
  · have HQ : Hid (W.heap.size < D4.heap.size) := heap_lt ((G4.out.block W.heap.size _ _ HA.out (by decide) (by decide) (by decide)).trans HA.out)
    have hA1 : Below D4.heap.size D4 (D4.alloc (.cells #[.string t.n.a] 9)) := (Below.refl _ _).alloc (Nat.le_refl _) _
    have hS1 : (fun w' : World => w'.cell? ⟨Mb, 1, none⟩ = some (.slice (some ⟨b, off, none⟩) ns.length cap) ∧ w'.cell? ⟨W.heap.size, 2, none⟩ = some (.string t.n.a)) (D4.alloc (.cells #[.string t.n.a] 9)) := ⟨(hA1.cell (heap_at S4.out)).trans hS.1, (hA1.cell HQ.out).trans hS.2⟩
    refine ⟨_, .slice (some ⟨D4.heap.size, 0, none⟩) 1 1, D4.alloc (.cells #[.string t.n.a] 9), rfl, rfl, by simp [go_sem], hS1, ?_⟩
    refine pick_frame (by simp [go_sem]; exact rfl) ?_
    refine pick_enter (i := 7) (f := 42) (args := #[.slice (some ⟨b, off, none⟩) ns.length cap, .int .i64 (t.at_ : Int), .int .i64 (1 : Int)]) rfl (by kernel_rfl) rfl rfl (by simp [go_sem]) ?_
    refine (kid_calls (cap := cap) 1 _ (cx_nodes HX.out (S4.out.below hA1)) HX.out.tl HS.out (by have := HC.out; omega)).mono ?_
    rintro e Xk ⟨rfl, rfl⟩
    refine ⟨_, rfl, hS1, ?_⟩
    refine pick_frame (by simp [go_sem]; exact rfl) ?_
    refine pick_enter (i := 12) (f := 40) (args := #[.slice adn ss.length cpn, .slice (some ⟨D4.heap.size, 0, none⟩) 1 1]) rfl (by kernel_rfl) rfl rfl (by simp [go_sem]) ?_
    refine (withN_calls (ss := ss) (ms := [t.n.a]) _ ((N0.out.frame G4.out).names.below hA1) (lit_names D4 [t.n.a]) (by have := HK.out; have := HZ.out; simp only [List.length_cons, List.length_nil]; omega)).mono ?_
    rintro e X5 ⟨u5, rfl, hu5, hb5⟩
    have B5 : Below D4.heap.size D4 X5 := hA1.trans (hb5.mono (by simp))
    have hS2 : (fun w' : World => w'.cell? ⟨Mb, 1, none⟩ = some (.slice (some ⟨b, off, none⟩) ns.length cap) ∧ w'.cell? ⟨W.heap.size, 2, none⟩ = some (.string t.n.a)) X5 := ⟨(B5.cell (heap_at S4.out)).trans hS.1, (B5.cell HQ.out).trans hS.2⟩
    have U5 := hid hu5
    have S5 := hid (S4.out.below B5)
    have G5 : Hid (Cf Y X5) := G4.out.trans (Cf.of_below B5)
    have R5 := R4
    have Tn2_5 := Tn2_4
    have D1_5 : Hid (Cf X1 X5) := D1_4.out.trans (Cf.of_below B5)
    clear hu5 hb5 B5 hS hS1 hA1
    refine ⟨u5, rfl, hS2, ?_⟩
    refine pick_frame (by simp [go_sem]; exact rfl) ?_
    refine pick_enter (i := 13) (f := 41) (args := #[.pointer (some ⟨Mb, 0, none⟩), .int .i64 ((t.kid 1).at_ : Int), u5]) rfl (by kernel_rfl) rfl rfl (by simp [go_sem]) ?_
    refine (bound_calls HIH.out (t := t.kid 1) (ss := ss ++ [t.n.a]) (by have := HZ.out; have := HK.out; omega) (HS.out.kid (by have := HC.out; omega)) (by have := HK.out; have := HZ.out; simp only [List.length_append, List.length_cons, List.length_nil]; omega) (by have r := R5.out.cost; have hb := HB.out; have hz := HZ.out; omega) S5.out (U5.out.frame (Cf.refl _))).mono ?_
    rintro e X6 ⟨⟨x6, rfl⟩, h1, g1⟩
    have S6 := hid h1
    have G6 : Hid (Cf Y X6) := G5.out.trans g1
    have Q6 := hid (bound_r (part_r (ns := ns) (K := K) (es := es) F) (t := t.kid 1) (ss := ss ++ [t.n.a]) ((Cs.wait ((Cs.put (s) ⟨7, 0, 0, 0⟩)) ⟨t.kid 0, ss ++ [t.n.a, t.n.b], n2, 0⟩)) (by have := HZ.out; have := HK.out; omega) (HS.out.kid (by have := HC.out; omega)) (by have := HK.out; have := HZ.out; simp only [List.length_append, List.length_cons, List.length_nil]; omega))
    have R6 := hid (R5.out.trans Q6.out)
    have Tn2_6 := hid (Nat.lt_of_lt_of_le Tn2_5.out Q6.out.out)
    have D1_6 : Hid (Cf X1 X6) := D1_5.out.trans g1
    have D5_6 : Hid (Cf X5 X6) := g1
    have hbx := (G6.out.block W.heap.size _ _ HA.out (by decide) (by decide) (by decide)).trans HA.out
    refine ⟨x6, rfl, ⟨S6.out.tree, cell_of_heap hbx 2⟩, ?_⟩
    clear h1 g1 hbx hS2 HQ
    refine pick_frame (by simp [go_sem]; exact rfl) ?_
    refine pick_end (by kernel_rfl) ?_
    have hbx := (G6.out.block W.heap.size _ _ HA.out (by decide) (by decide) (by decide)).trans HA.out
    have e0 := cell_of_heap hbx 0
    have e1 := cell_of_heap hbx 1
    have e2 := cell_of_heap hbx 2
    have e3 := cell_of_heap hbx 3
    have e4 := cell_of_heap hbx 4
    have e5 := cell_of_heap hbx 5
    have d0 := S6.out.effs
    have d1 := S6.out.tree
    simp at e0 e1 e2 e3 e4 e5
    clear hbx
    go_wp2_with fail
    clear e0 e1 e2 e3 e4 e5 d0 d1
    go_end0
    have qn2 := H2.out
    subst qn2
    exact ⟨⟨_, rfl⟩, S6.out, F0.out.trans G6.out⟩

set_option maxHeartbeats 4000000 in
set_option maxRecDepth 100000 in
theorem part_c10 (cx : Cx W0 Mb ae b off es ns) (hk1 : K ≤ 1000) (ih : PartC W0 Mb ae ce b off cap es ns K F) {t : Tp} {ss : List ByteArray} {s : Cs} {v : Value} {W : World} (hF : t.size ≤ F + 1) (hs : Stands ns t) (hK : ss.length + 2 * t.size ≤ K) (hB : s.out.length + 10 * s.rest + 10 * t.size ≤ 950000) (h : CmE W0 Mb (.slice ae es.length ce) (.slice (some ⟨b, off, none⟩) ns.length cap) s W) (hv : NmT W v ss) (ek : t.n.kind = 10) :
    Calls Tryz.prog 17 #[.pointer (some ⟨Mb, 0, none⟩), .int .i64 (t.at_ : Int), v] W (LeadPost W0 Mb (.slice ae es.length ce) (.slice (some ⟨b, off, none⟩) ns.length cap) (ifZ (partZ es F) t ss s) W) := by
  obtain ⟨adn, cpn, rfl⟩ := hv.is
  have hnc := cx_nodes cx h
  obtain ⟨hlt, hat, hsz⟩ := hs.lt
  have c0 := hnc t.at_ hlt 0 (by omega)
  have c1 := hnc t.at_ hlt 1 (by omega)
  have c2 := hnc t.at_ hlt 2 (by omega)
  have c3 := hnc t.at_ hlt 3 (by omega)
  have c4 := hnc t.at_ hlt 4 (by omega)
  have c5 := hnc t.at_ hlt 5 (by omega)
  rw [hat] at c0 c1 c2 c3 c4 c5
  simp only [Nd.cell, Nat.add_zero] at c0 c1 c2 c3 c4 c5
  rw [ek] at c0
  have d1 := h.tree
  have hA := (MapKept.heap_alloc W (.cells #[.int .i64 10, .int .i64 t.n.num, .string t.n.a, .string t.n.b, .string t.n.c, .int .i64 t.n.kids] 81)).1
  have hB1 := (Below.refl W.heap.size W).alloc (Nat.le_refl _) (.cells #[.int .i64 10, .int .i64 t.n.num, .string t.n.a, .string t.n.b, .string t.n.c, .int .i64 t.n.kids] 81)
  obtain ⟨Y, hY⟩ : ∃ Y, W.alloc (.cells #[.int .i64 10, .int .i64 t.n.num, .string t.n.a, .string t.n.b, .string t.n.c, .int .i64 t.n.kids] 81) = Y := ⟨_, rfl⟩
  rw [hY] at hA hB1
  have HY := hid hY
  have HA := hid hA
  have S0 := hid (h.below hB1)
  have F0 := hid (Cf.of_below hB1)
  have N0 := hid (hv.frame (Cf.of_below hB1))
  have G0 := hid (Cf.refl Y)
  have R0 := hid (Rs.refl ns K s)
  have hgood := hs.toGood
  have HC : Hid (t.k.count = 3) := count_of hgood ek (c := 3) rfl
  have HZ : Hid ((t.kid 0).size + (t.kid 1).size + (t.kid 2).size + 1 = t.size ∧ 1 ≤ (t.kid 0).size ∧ 1 ≤ (t.kid 1).size ∧ 1 ≤ (t.kid 2).size) := ⟨(kids3 HC.out).2, (t.kid 0).size_pos, (t.kid 1).size_pos, (t.kid 2).size_pos⟩
  have hp0 : (0 : Int) ≤ (t.at_ : Int) := by omega
  have hpl : (t.at_ : Int) < (ns.length : Int) := by omega
  have HP1 : Hid (0 < t.k.count → wrap64 ((t.at_ : Int) + 1) = ((t.kid 0).at_ : Int)) := fun h0 => by rw [hs.first h0]; have := cx.tl; unfold wrap64; omega
  have HX := hid cx
  have HIH := hid ih
  have HS := hid hs
  have HK := hid (And.intro hK (And.intro hF hk1))
  have HB := hid hB
  clear hA hB1 hY h hv hnc hlt hat hsz hgood cx ih hs hK hF hB hk1
  go_enter Tryz.func17, Tryz.ntmps17
  go_upto_region 1 with fail
  rw [HY.out]
  clear HY c0 c1 c2 c3 c4 c5 d1
  have hbx := (G0.out.block W.heap.size _ _ HA.out (by decide) (by decide) (by decide)).trans HA.out
  have e0 := cell_of_heap hbx 0
  have e1 := cell_of_heap hbx 1
  have e2 := cell_of_heap hbx 2
  have e3 := cell_of_heap hbx 3
  have e4 := cell_of_heap hbx 4
  have e5 := cell_of_heap hbx 5
  have d0 := S0.out.effs
  have d1 := S0.out.tree
  simp at e0 e1 e2 e3 e4 e5
  clear hbx
  go_wp2_with fail
  clear e0 e1 e2 e3 e4 e5 d0 d1
  rw [HP1.out (by have := HC.out; omega)]
  refine (HIH.out (t.kid 0) (ss) (s) _ _ (by have := HZ.out; have := HK.out; omega) (HS.out.kid (by have := HC.out; omega)) (by have := HK.out; have := HZ.out; (try simp only [List.length_append, List.length_cons, List.length_nil]); omega) (by have r := R0.out.cost; have hb := HB.out; have hz := HZ.out; omega) S0.out (N0.out.frame G0.out)).mono ?_
  rintro e X1 ⟨⟨x1, rfl⟩, h1, g1⟩
  have S1 := hid h1
  have G1 : Hid (Cf Y X1) := G0.out.trans g1
  have Q1 := hid (part_r (ns := ns) (K := K) (es := es) F (t.kid 0) (ss) (s) (by have := HZ.out; have := HK.out; omega) (HS.out.kid (by have := HC.out; omega)) (by have := HK.out; have := HZ.out; (try simp only [List.length_append, List.length_cons, List.length_nil]); omega))
  have R1 := hid (R0.out.trans Q1.out)
  clear h1 g1
  have hbx := (G1.out.block W.heap.size _ _ HA.out (by decide) (by decide) (by decide)).trans HA.out
  have e0 := cell_of_heap hbx 0
  have e1 := cell_of_heap hbx 1
  have e2 := cell_of_heap hbx 2
  have e3 := cell_of_heap hbx 3
  have e4 := cell_of_heap hbx 4
  have e5 := cell_of_heap hbx 5
  have d0 := S1.out.effs
  have d1 := S1.out.tree
  simp at e0 e1 e2 e3 e4 e5
  clear hbx
  go_wp2_with fail
  clear e0 e1 e2 e3 e4 e5 d0 d1
  refine (putM_calls ⟨10, 0, 0, 0⟩ S1.out (by have r := R1.out.cost; have hb := HB.out; have hz := HZ.out; omega)).mono ?_
  rintro e X2 ⟨rfl, h1, g1⟩
  obtain ⟨n2, hn2⟩ : ∃ n, ((partZ es F (t.kid 0) (ss) (s))).out.length = n := ⟨_, rfl⟩
  rw [hn2]
  have H2 := hid hn2
  have tn : n2 < (Cs.put ((partZ es F (t.kid 0) (ss) (s))) ⟨10, 0, 0, 0⟩).out.length := by rw [← hn2]; simp [Cs.put]
  have S2 := hid h1
  have G2 : Hid (Cf Y X2) := G1.out.trans g1
  have Q2 := hid (Rs.put ns K ((partZ es F (t.kid 0) (ss) (s))) ⟨10, 0, 0, 0⟩)
  have R2 := hid (R1.out.trans Q2.out)
  have Tn2_2 := hid tn
  clear h1 g1 hn2 tn
  have hbx := (G2.out.block W.heap.size _ _ HA.out (by decide) (by decide) (by decide)).trans HA.out
  have e0 := cell_of_heap hbx 0
  have e1 := cell_of_heap hbx 1
  have e2 := cell_of_heap hbx 2
  have e3 := cell_of_heap hbx 3
  have e4 := cell_of_heap hbx 4
  have e5 := cell_of_heap hbx 5
  have d0 := S2.out.effs
  have d1 := S2.out.tree
  simp at e0 e1 e2 e3 e4 e5
  clear hbx
  go_wp2_with fail
  clear e0 e1 e2 e3 e4 e5 d0 d1
  refine (kid_calls (cap := cap) 1 X2 (cx_nodes HX.out S2.out) HX.out.tl HS.out (by have := HC.out; omega)).mono ?_
  rintro e Xk ⟨rfl, rfl⟩
  have hbx := (G2.out.block W.heap.size _ _ HA.out (by decide) (by decide) (by decide)).trans HA.out
  have e0 := cell_of_heap hbx 0
  have e1 := cell_of_heap hbx 1
  have e2 := cell_of_heap hbx 2
  have e3 := cell_of_heap hbx 3
  have e4 := cell_of_heap hbx 4
  have e5 := cell_of_heap hbx 5
  have d0 := S2.out.effs
  have d1 := S2.out.tree
  simp at e0 e1 e2 e3 e4 e5
  clear hbx
  go_wp2_with fail
  clear e0 e1 e2 e3 e4 e5 d0 d1
  refine (HIH.out (t.kid 1) (ss) ((Cs.put ((partZ es F (t.kid 0) (ss) (s))) ⟨10, 0, 0, 0⟩)) _ _ (by have := HZ.out; have := HK.out; omega) (HS.out.kid (by have := HC.out; omega)) (by have := HK.out; have := HZ.out; (try simp only [List.length_append, List.length_cons, List.length_nil]); omega) (by have r := R2.out.cost; have hb := HB.out; have hz := HZ.out; omega) S2.out (N0.out.frame G2.out)).mono ?_
  rintro e X3 ⟨⟨x3, rfl⟩, h1, g1⟩
  have S3 := hid h1
  have G3 : Hid (Cf Y X3) := G2.out.trans g1
  have Q3 := hid (part_r (ns := ns) (K := K) (es := es) F (t.kid 1) (ss) ((Cs.put ((partZ es F (t.kid 0) (ss) (s))) ⟨10, 0, 0, 0⟩)) (by have := HZ.out; have := HK.out; omega) (HS.out.kid (by have := HC.out; omega)) (by have := HK.out; have := HZ.out; (try simp only [List.length_append, List.length_cons, List.length_nil]); omega))
  have R3 := hid (R2.out.trans Q3.out)
  have Tn2_3 := hid (Nat.lt_of_lt_of_le Tn2_2.out Q3.out.out)
  clear h1 g1
  have hbx := (G3.out.block W.heap.size _ _ HA.out (by decide) (by decide) (by decide)).trans HA.out
  have e0 := cell_of_heap hbx 0
  have e1 := cell_of_heap hbx 1
  have e2 := cell_of_heap hbx 2
  have e3 := cell_of_heap hbx 3
  have e4 := cell_of_heap hbx 4
  have e5 := cell_of_heap hbx 5
  have d0 := S3.out.effs
  have d1 := S3.out.tree
  simp at e0 e1 e2 e3 e4 e5
  clear hbx
  go_wp2_with fail
  clear e0 e1 e2 e3 e4 e5 d0 d1
  refine (putM_calls ⟨11, 0, 0, 0⟩ S3.out (by have r := R3.out.cost; have hb := HB.out; have hz := HZ.out; omega)).mono ?_
  rintro e X4 ⟨rfl, h1, g1⟩
  obtain ⟨n4, hn4⟩ : ∃ n, ((partZ es F (t.kid 1) (ss) ((Cs.put ((partZ es F (t.kid 0) (ss) (s))) ⟨10, 0, 0, 0⟩)))).out.length = n := ⟨_, rfl⟩
  rw [hn4]
  have H4 := hid hn4
  have tn : n4 < (Cs.put ((partZ es F (t.kid 1) (ss) ((Cs.put ((partZ es F (t.kid 0) (ss) (s))) ⟨10, 0, 0, 0⟩)))) ⟨11, 0, 0, 0⟩).out.length := by rw [← hn4]; simp [Cs.put]
  have S4 := hid h1
  have G4 : Hid (Cf Y X4) := G3.out.trans g1
  have Q4 := hid (Rs.put ns K ((partZ es F (t.kid 1) (ss) ((Cs.put ((partZ es F (t.kid 0) (ss) (s))) ⟨10, 0, 0, 0⟩)))) ⟨11, 0, 0, 0⟩)
  have R4 := hid (R3.out.trans Q4.out)
  have Tn2_4 := hid (Nat.lt_of_lt_of_le Tn2_3.out Q4.out.out)
  have Tn4_4 := hid tn
  clear h1 g1 hn4 tn
  have hbx := (G4.out.block W.heap.size _ _ HA.out (by decide) (by decide) (by decide)).trans HA.out
  have e0 := cell_of_heap hbx 0
  have e1 := cell_of_heap hbx 1
  have e2 := cell_of_heap hbx 2
  have e3 := cell_of_heap hbx 3
  have e4 := cell_of_heap hbx 4
  have e5 := cell_of_heap hbx 5
  have d0 := S4.out.effs
  have d1 := S4.out.tree
  simp at e0 e1 e2 e3 e4 e5
  clear hbx
  go_wp2_with fail
  clear e0 e1 e2 e3 e4 e5 d0 d1
  refine (lead_calls n2 0 S4.out (by have r := R4.out.cost; have hb := HB.out; have hz := HZ.out; omega) Tn2_4.out (by decide)).mono ?_
  rintro e X5 ⟨⟨x5, rfl⟩, h1, g1⟩
  have S5 := hid h1
  have G5 : Hid (Cf Y X5) := G4.out.trans g1
  have Q5 := hid (Rs.lead ns K ((Cs.put ((partZ es F (t.kid 1) (ss) ((Cs.put ((partZ es F (t.kid 0) (ss) (s))) ⟨10, 0, 0, 0⟩)))) ⟨11, 0, 0, 0⟩)) n2 0)
  have R5 := hid (R4.out.trans Q5.out)
  have Tn2_5 := hid (Nat.lt_of_lt_of_le Tn2_4.out Q5.out.out)
  have Tn4_5 := hid (Nat.lt_of_lt_of_le Tn4_4.out Q5.out.out)
  clear h1 g1
  have hbx := (G5.out.block W.heap.size _ _ HA.out (by decide) (by decide) (by decide)).trans HA.out
  have e0 := cell_of_heap hbx 0
  have e1 := cell_of_heap hbx 1
  have e2 := cell_of_heap hbx 2
  have e3 := cell_of_heap hbx 3
  have e4 := cell_of_heap hbx 4
  have e5 := cell_of_heap hbx 5
  have d0 := S5.out.effs
  have d1 := S5.out.tree
  simp at e0 e1 e2 e3 e4 e5
  clear hbx
  go_wp2_with fail
  clear e0 e1 e2 e3 e4 e5 d0 d1
  refine (kid_calls (cap := cap) 2 X5 (cx_nodes HX.out S5.out) HX.out.tl HS.out (by have := HC.out; omega)).mono ?_
  rintro e Xk ⟨rfl, rfl⟩
  have hbx := (G5.out.block W.heap.size _ _ HA.out (by decide) (by decide) (by decide)).trans HA.out
  have e0 := cell_of_heap hbx 0
  have e1 := cell_of_heap hbx 1
  have e2 := cell_of_heap hbx 2
  have e3 := cell_of_heap hbx 3
  have e4 := cell_of_heap hbx 4
  have e5 := cell_of_heap hbx 5
  have d0 := S5.out.effs
  have d1 := S5.out.tree
  simp at e0 e1 e2 e3 e4 e5
  clear hbx
  go_wp2_with fail
  clear e0 e1 e2 e3 e4 e5 d0 d1
  refine (HIH.out (t.kid 2) (ss) ((Cs.lead ((Cs.put ((partZ es F (t.kid 1) (ss) ((Cs.put ((partZ es F (t.kid 0) (ss) (s))) ⟨10, 0, 0, 0⟩)))) ⟨11, 0, 0, 0⟩)) n2 0)) _ _ (by have := HZ.out; have := HK.out; omega) (HS.out.kid (by have := HC.out; omega)) (by have := HK.out; have := HZ.out; (try simp only [List.length_append, List.length_cons, List.length_nil]); omega) (by have r := R5.out.cost; have hb := HB.out; have hz := HZ.out; omega) S5.out (N0.out.frame G5.out)).mono ?_
  rintro e X6 ⟨⟨x6, rfl⟩, h1, g1⟩
  have S6 := hid h1
  have G6 : Hid (Cf Y X6) := G5.out.trans g1
  have Q6 := hid (part_r (ns := ns) (K := K) (es := es) F (t.kid 2) (ss) ((Cs.lead ((Cs.put ((partZ es F (t.kid 1) (ss) ((Cs.put ((partZ es F (t.kid 0) (ss) (s))) ⟨10, 0, 0, 0⟩)))) ⟨11, 0, 0, 0⟩)) n2 0)) (by have := HZ.out; have := HK.out; omega) (HS.out.kid (by have := HC.out; omega)) (by have := HK.out; have := HZ.out; (try simp only [List.length_append, List.length_cons, List.length_nil]); omega))
  have R6 := hid (R5.out.trans Q6.out)
  have Tn2_6 := hid (Nat.lt_of_lt_of_le Tn2_5.out Q6.out.out)
  have Tn4_6 := hid (Nat.lt_of_lt_of_le Tn4_5.out Q6.out.out)
  clear h1 g1
  have hbx := (G6.out.block W.heap.size _ _ HA.out (by decide) (by decide) (by decide)).trans HA.out
  have e0 := cell_of_heap hbx 0
  have e1 := cell_of_heap hbx 1
  have e2 := cell_of_heap hbx 2
  have e3 := cell_of_heap hbx 3
  have e4 := cell_of_heap hbx 4
  have e5 := cell_of_heap hbx 5
  have d0 := S6.out.effs
  have d1 := S6.out.tree
  simp at e0 e1 e2 e3 e4 e5
  clear hbx
  go_wp2_with fail
  clear e0 e1 e2 e3 e4 e5 d0 d1
  refine (lead_calls n4 0 S6.out (by have r := R6.out.cost; have hb := HB.out; have hz := HZ.out; omega) Tn4_6.out (by decide)).mono ?_
  rintro e X7 ⟨⟨x7, rfl⟩, h1, g1⟩
  have S7 := hid h1
  have G7 : Hid (Cf Y X7) := G6.out.trans g1
  have Q7 := hid (Rs.lead ns K ((partZ es F (t.kid 2) (ss) ((Cs.lead ((Cs.put ((partZ es F (t.kid 1) (ss) ((Cs.put ((partZ es F (t.kid 0) (ss) (s))) ⟨10, 0, 0, 0⟩)))) ⟨11, 0, 0, 0⟩)) n2 0)))) n4 0)
  have R7 := hid (R6.out.trans Q7.out)
  have Tn2_7 := hid (Nat.lt_of_lt_of_le Tn2_6.out Q7.out.out)
  have Tn4_7 := hid (Nat.lt_of_lt_of_le Tn4_6.out Q7.out.out)
  clear h1 g1
  have hbx := (G7.out.block W.heap.size _ _ HA.out (by decide) (by decide) (by decide)).trans HA.out
  have e0 := cell_of_heap hbx 0
  have e1 := cell_of_heap hbx 1
  have e2 := cell_of_heap hbx 2
  have e3 := cell_of_heap hbx 3
  have e4 := cell_of_heap hbx 4
  have e5 := cell_of_heap hbx 5
  have d0 := S7.out.effs
  have d1 := S7.out.tree
  simp at e0 e1 e2 e3 e4 e5
  clear hbx
  go_wp2_with fail
  clear e0 e1 e2 e3 e4 e5 d0 d1
  go_end0
  have qn2 := H2.out
  subst qn2
  have qn4 := H4.out
  subst qn4
  exact ⟨⟨_, rfl⟩, S7.out, F0.out.trans G7.out⟩

set_option maxHeartbeats 4000000 in
set_option maxRecDepth 100000 in
theorem part_c20 (cx : Cx W0 Mb ae b off es ns) (hk1 : K ≤ 1000) (ih : PartC W0 Mb ae ce b off cap es ns K F) {t : Tp} {ss : List ByteArray} {s : Cs} {v : Value} {W : World} (hF : t.size ≤ F + 1) (hs : Stands ns t) (hK : ss.length + 2 * t.size ≤ K) (hB : s.out.length + 10 * s.rest + 10 * t.size ≤ 950000) (h : CmE W0 Mb (.slice ae es.length ce) (.slice (some ⟨b, off, none⟩) ns.length cap) s W) (hv : NmT W v ss) (ek : t.n.kind = 20) :
    Calls Tryz.prog 17 #[.pointer (some ⟨Mb, 0, none⟩), .int .i64 (t.at_ : Int), v] W (LeadPost W0 Mb (.slice ae es.length ce) (.slice (some ⟨b, off, none⟩) ns.length cap) (caseZ (partZ es F) t ss s) W) := by
  obtain ⟨adn, cpn, rfl⟩ := hv.is
  have hnc := cx_nodes cx h
  obtain ⟨hlt, hat, hsz⟩ := hs.lt
  have c0 := hnc t.at_ hlt 0 (by omega)
  have c1 := hnc t.at_ hlt 1 (by omega)
  have c2 := hnc t.at_ hlt 2 (by omega)
  have c3 := hnc t.at_ hlt 3 (by omega)
  have c4 := hnc t.at_ hlt 4 (by omega)
  have c5 := hnc t.at_ hlt 5 (by omega)
  rw [hat] at c0 c1 c2 c3 c4 c5
  simp only [Nd.cell, Nat.add_zero] at c0 c1 c2 c3 c4 c5
  rw [ek] at c0
  have d1 := h.tree
  have hA := (MapKept.heap_alloc W (.cells #[.int .i64 20, .int .i64 t.n.num, .string t.n.a, .string t.n.b, .string t.n.c, .int .i64 t.n.kids] 81)).1
  have hB1 := (Below.refl W.heap.size W).alloc (Nat.le_refl _) (.cells #[.int .i64 20, .int .i64 t.n.num, .string t.n.a, .string t.n.b, .string t.n.c, .int .i64 t.n.kids] 81)
  obtain ⟨Y, hY⟩ : ∃ Y, W.alloc (.cells #[.int .i64 20, .int .i64 t.n.num, .string t.n.a, .string t.n.b, .string t.n.c, .int .i64 t.n.kids] 81) = Y := ⟨_, rfl⟩
  rw [hY] at hA hB1
  have HY := hid hY
  have HA := hid hA
  have S0 := hid (h.below hB1)
  have F0 := hid (Cf.of_below hB1)
  have N0 := hid (hv.frame (Cf.of_below hB1))
  have G0 := hid (Cf.refl Y)
  have R0 := hid (Rs.refl ns K s)
  have hgood := hs.toGood
  have HC : Hid (t.k.count = 3) := count_of hgood ek (c := 3) rfl
  have HZ : Hid ((t.kid 0).size + (t.kid 1).size + (t.kid 2).size + 1 = t.size ∧ 1 ≤ (t.kid 0).size ∧ 1 ≤ (t.kid 1).size ∧ 1 ≤ (t.kid 2).size) := ⟨(kids3 HC.out).2, (t.kid 0).size_pos, (t.kid 1).size_pos, (t.kid 2).size_pos⟩
  have hp0 : (0 : Int) ≤ (t.at_ : Int) := by omega
  have hpl : (t.at_ : Int) < (ns.length : Int) := by omega
  have HP1 : Hid (0 < t.k.count → wrap64 ((t.at_ : Int) + 1) = ((t.kid 0).at_ : Int)) := fun h0 => by rw [hs.first h0]; have := cx.tl; unfold wrap64; omega
  have HX := hid cx
  have HIH := hid ih
  have HS := hid hs
  have HK := hid (And.intro hK (And.intro hF hk1))
  have HB := hid hB
  clear hA hB1 hY h hv hnc hlt hat hsz hgood cx ih hs hK hF hB hk1
  go_enter Tryz.func17, Tryz.ntmps17
  go_upto_region 1 with fail
  rw [HY.out]
  clear HY c0 c1 c2 c3 c4 c5 d1
  have hbx := (G0.out.block W.heap.size _ _ HA.out (by decide) (by decide) (by decide)).trans HA.out
  have e0 := cell_of_heap hbx 0
  have e1 := cell_of_heap hbx 1
  have e2 := cell_of_heap hbx 2
  have e3 := cell_of_heap hbx 3
  have e4 := cell_of_heap hbx 4
  have e5 := cell_of_heap hbx 5
  have d0 := S0.out.effs
  have d1 := S0.out.tree
  simp at e0 e1 e2 e3 e4 e5
  clear hbx
  go_wp2_with fail
  clear e0 e1 e2 e3 e4 e5 d0 d1
  rw [HP1.out (by have := HC.out; omega)]
  refine (HIH.out (t.kid 0) (ss) (s) _ _ (by have := HZ.out; have := HK.out; omega) (HS.out.kid (by have := HC.out; omega)) (by have := HK.out; have := HZ.out; (try simp only [List.length_append, List.length_cons, List.length_nil]); omega) (by have r := R0.out.cost; have hb := HB.out; have hz := HZ.out; omega) S0.out (N0.out.frame G0.out)).mono ?_
  rintro e X1 ⟨⟨x1, rfl⟩, h1, g1⟩
  have S1 := hid h1
  have G1 : Hid (Cf Y X1) := G0.out.trans g1
  have Q1 := hid (part_r (ns := ns) (K := K) (es := es) F (t.kid 0) (ss) (s) (by have := HZ.out; have := HK.out; omega) (HS.out.kid (by have := HC.out; omega)) (by have := HK.out; have := HZ.out; (try simp only [List.length_append, List.length_cons, List.length_nil]); omega))
  have R1 := hid (R0.out.trans Q1.out)
  clear h1 g1
  have hbx := (G1.out.block W.heap.size _ _ HA.out (by decide) (by decide) (by decide)).trans HA.out
  have e0 := cell_of_heap hbx 0
  have e1 := cell_of_heap hbx 1
  have e2 := cell_of_heap hbx 2
  have e3 := cell_of_heap hbx 3
  have e4 := cell_of_heap hbx 4
  have e5 := cell_of_heap hbx 5
  have d0 := S1.out.effs
  have d1 := S1.out.tree
  simp at e0 e1 e2 e3 e4 e5
  clear hbx
  go_wp2_with fail
  clear e0 e1 e2 e3 e4 e5 d0 d1
  refine (putM_calls ⟨19, 0, 0, 0⟩ S1.out (by have r := R1.out.cost; have hb := HB.out; have hz := HZ.out; omega)).mono ?_
  rintro e X2 ⟨rfl, h1, g1⟩
  obtain ⟨n2, hn2⟩ : ∃ n, ((partZ es F (t.kid 0) (ss) (s))).out.length = n := ⟨_, rfl⟩
  rw [hn2]
  have H2 := hid hn2
  have tn : n2 < (Cs.put ((partZ es F (t.kid 0) (ss) (s))) ⟨19, 0, 0, 0⟩).out.length := by rw [← hn2]; simp [Cs.put]
  have S2 := hid h1
  have G2 : Hid (Cf Y X2) := G1.out.trans g1
  have Q2 := hid (Rs.put ns K ((partZ es F (t.kid 0) (ss) (s))) ⟨19, 0, 0, 0⟩)
  have R2 := hid (R1.out.trans Q2.out)
  have Tn2_2 := hid tn
  clear h1 g1 hn2 tn
  have hbx := (G2.out.block W.heap.size _ _ HA.out (by decide) (by decide) (by decide)).trans HA.out
  have e0 := cell_of_heap hbx 0
  have e1 := cell_of_heap hbx 1
  have e2 := cell_of_heap hbx 2
  have e3 := cell_of_heap hbx 3
  have e4 := cell_of_heap hbx 4
  have e5 := cell_of_heap hbx 5
  have d0 := S2.out.effs
  have d1 := S2.out.tree
  simp at e0 e1 e2 e3 e4 e5
  clear hbx
  go_upto_region 36 with fail
  have hD : Below X2.heap.size X2 X2.drew := (Below.refl _ _).drew
  obtain ⟨D3, hDe⟩ : ∃ D, X2.drew = D := ⟨_, rfl⟩
  rw [hDe] at hD
  have S3 := hid (S2.out.below hD)
  have G3 : Hid (Cf Y D3) := G2.out.trans (Cf.of_below hD)
  have R3 := R2
  have Tn2_3 := Tn2_2
  have hS : (fun w' : World => w'.cell? ⟨Mb, 1, none⟩ = some (.slice (some ⟨b, off, none⟩) ns.length cap) ∧ w'.cell? ⟨W.heap.size, 2, none⟩ = some (.string t.n.a) ∧ w'.cell? ⟨W.heap.size, 3, none⟩ = some (.string t.n.b)) D3 := ⟨S3.out.tree, by rw [← hDe]; exact e2, by rw [← hDe]; exact e3⟩
  refine pick_begin (S := fun w' => w'.cell? ⟨Mb, 1, none⟩ = some (.slice (some ⟨b, off, none⟩) ns.length cap) ∧ w'.cell? ⟨W.heap.size, 2, none⟩ = some (.string t.n.a) ∧ w'.cell? ⟨W.heap.size, 3, none⟩ = some (.string t.n.b)) (by kernel_rfl) rfl rfl ?_
  rw [hDe]
  clear hDe hD
  clear e0 e1 e2 e3 e4 e5 d0 d1
  refine pick_op (i := 0) (v := .pointer (some ⟨Mb, 0, none⟩)) (by kernel_rfl) rfl (by kernel_rfl) (by kernel_rfl) rfl rfl (fun w' _ => by simp [go_sem]) hS (by simp [go_sem]; exact rfl) ?_
  refine pick_op (i := 1) (v := .pointer (some ⟨Mb, 0, none⟩)) (by kernel_rfl) rfl (by kernel_rfl) (by kernel_rfl) rfl rfl (fun w' _ => by simp [go_sem]) hS (by simp [go_sem]; exact rfl) ?_
  refine pick_op (i := 2) (v := .pointer (some ⟨Mb, 0, none⟩)) (by kernel_rfl) rfl (by kernel_rfl) (by kernel_rfl) rfl rfl (fun w' _ => by simp [go_sem]) hS (by simp [go_sem]; exact rfl) ?_
  refine pick_op (i := 3) (v := .pointer (some ⟨Mb, 0, none⟩)) (by kernel_rfl) rfl (by kernel_rfl) (by kernel_rfl) rfl rfl (fun w' _ => by simp [go_sem]) hS (by simp [go_sem]; exact rfl) ?_
  refine pick_op (i := 4) (v := .pointer (some ⟨Mb, 1, none⟩)) (by kernel_rfl) rfl (by kernel_rfl) (by kernel_rfl) rfl rfl (fun w' _ => by simp [go_sem]) hS (by simp [go_sem]; exact rfl) ?_
  refine pick_op (i := 5) (v := .slice (some ⟨b, off, none⟩) ns.length cap) (by kernel_rfl) rfl (by kernel_rfl) (by kernel_rfl) rfl rfl (fun w' h => by simp [go_sem, h.1]) hS (by simp [go_sem]; exact rfl) ?_
  refine pick_op (i := 6) (v := .int .i64 (t.at_ : Int)) (by kernel_rfl) rfl (by kernel_rfl) (by kernel_rfl) rfl rfl (fun w' _ => by simp [go_sem]) hS (by simp [go_sem]; exact rfl) ?_
  refine pick_op (i := 8) (v := .slice adn ss.length cpn) (by kernel_rfl) rfl (by kernel_rfl) (by kernel_rfl) rfl rfl (fun w' _ => by simp [go_sem]) hS (by simp [go_sem]; exact rfl) ?_
  refine pick_op (i := 9) (v := .pointer (some ⟨W.heap.size, 2, none⟩)) (by kernel_rfl) rfl (by kernel_rfl) (by kernel_rfl) rfl rfl (fun w' _ => by simp [go_sem]) hS (by simp [go_sem]; exact rfl) ?_
  refine pick_op (i := 10) (v := .string t.n.a) (by kernel_rfl) rfl (by kernel_rfl) (by kernel_rfl) rfl rfl (fun w' h => by simp [go_sem, h.2.1]) hS (by simp [go_sem]; exact rfl) ?_
  refine pick_op (i := 11) (v := .pointer (some ⟨W.heap.size, 3, none⟩)) (by kernel_rfl) rfl (by kernel_rfl) (by kernel_rfl) rfl rfl (fun w' _ => by simp [go_sem]) hS (by simp [go_sem]; exact rfl) ?_
  refine pick_op (i := 12) (v := .string t.n.b) (by kernel_rfl) rfl (by kernel_rfl) (by kernel_rfl) rfl rfl (fun w' h => by simp [go_sem, h.2.2]) hS (by simp [go_sem]; exact rfl) ?_
  refine pick_other (i := 7) (j := 13) (by kernel_rfl) ?_ ?_
  · have HQ : Hid (W.heap.size < D3.heap.size) := heap_lt ((G3.out.block W.heap.size _ _ HA.out (by decide) (by decide) (by decide)).trans HA.out)
    refine ⟨_, 42, #[.slice (some ⟨b, off, none⟩) ns.length cap, .int .i64 (t.at_ : Int), .int .i64 (2 : Int)], rfl, rfl, by simp [go_sem], ?_⟩
    refine (kid_calls (cap := cap) 2 D3 (cx_nodes HX.out S3.out) HX.out.tl HS.out (by have := HC.out; omega)).mono ?_
    rintro e Xk ⟨rfl, rfl⟩
    refine ⟨_, rfl, hS, ?_⟩
    refine pick_frame (by simp [go_sem]; exact rfl) ?_
    have hA1 : Below D3.heap.size D3 (D3.alloc (.cells #[.string t.n.a, .string t.n.b] 9)) := (Below.refl _ _).alloc (Nat.le_refl _) _
    have hS1 : (fun w' : World => w'.cell? ⟨Mb, 1, none⟩ = some (.slice (some ⟨b, off, none⟩) ns.length cap) ∧ w'.cell? ⟨W.heap.size, 2, none⟩ = some (.string t.n.a) ∧ w'.cell? ⟨W.heap.size, 3, none⟩ = some (.string t.n.b)) (D3.alloc (.cells #[.string t.n.a, .string t.n.b] 9)) := ⟨(hA1.cell (heap_at S3.out)).trans hS.1, (hA1.cell HQ.out).trans hS.2.1, (hA1.cell HQ.out).trans hS.2.2⟩
    refine pick_make (i := 13) (v := .slice (some ⟨D3.heap.size, 0, none⟩) 2 2) (w1 := D3.alloc (.cells #[.string t.n.a, .string t.n.b] 9)) rfl (by kernel_rfl) rfl rfl (by simp [go_sem]) hS1 (by simp [go_sem]; exact rfl) ?_
    refine pick_enter (i := 14) (f := 40) (args := #[.slice adn ss.length cpn, .slice (some ⟨D3.heap.size, 0, none⟩) 2 2]) rfl (by kernel_rfl) rfl rfl (by simp [go_sem]) ?_
    refine (withN_calls (ss := ss) (ms := [t.n.a, t.n.b]) _ ((N0.out.frame G3.out).names.below hA1) (lit_names D3 [t.n.a, t.n.b]) (by have := HK.out; have := HZ.out; simp only [List.length_cons, List.length_nil]; omega)).mono ?_
    rintro e X4 ⟨u4, rfl, hu4, hb4⟩
    have B4 : Below D3.heap.size D3 X4 := hA1.trans (hb4.mono (by simp))
    have hS2 : (fun w' : World => w'.cell? ⟨Mb, 1, none⟩ = some (.slice (some ⟨b, off, none⟩) ns.length cap) ∧ w'.cell? ⟨W.heap.size, 2, none⟩ = some (.string t.n.a) ∧ w'.cell? ⟨W.heap.size, 3, none⟩ = some (.string t.n.b)) X4 := ⟨(B4.cell (heap_at S3.out)).trans hS.1, (B4.cell HQ.out).trans hS.2.1, (B4.cell HQ.out).trans hS.2.2⟩
    have U4 := hid hu4
    have S4 := hid (S3.out.below B4)
    have G4 : Hid (Cf Y X4) := G3.out.trans (Cf.of_below B4)
    have R4 := R3
    have Tn2_4 := Tn2_3
    clear hu4 hb4 B4 hS hS1 hA1
    refine ⟨u4, rfl, hS2, ?_⟩
    refine pick_frame (by simp [go_sem]; exact rfl) ?_
    refine pick_enter (i := 15) (f := 17) (args := #[.pointer (some ⟨Mb, 0, none⟩), .int .i64 ((t.kid 2).at_ : Int), u4]) rfl (by kernel_rfl) rfl rfl (by simp [go_sem]) ?_
    refine (HIH.out (t.kid 2) (ss ++ [t.n.a, t.n.b]) ((Cs.put ((partZ es F (t.kid 0) (ss) (s))) ⟨19, 0, 0, 0⟩)) _ _ (by have := HZ.out; have := HK.out; omega) (HS.out.kid (by have := HC.out; omega)) (by have := HK.out; have := HZ.out; simp only [List.length_append, List.length_cons, List.length_nil]; omega) (by have r := R4.out.cost; have hb := HB.out; have hz := HZ.out; omega) S4.out (U4.out.frame (Cf.refl _))).mono ?_
    rintro e X5 ⟨⟨x5, rfl⟩, h1, g1⟩
    have S5 := hid h1
    have G5 : Hid (Cf Y X5) := G4.out.trans g1
    have Q5 := hid (part_r (ns := ns) (K := K) (es := es) F (t.kid 2) (ss ++ [t.n.a, t.n.b]) ((Cs.put ((partZ es F (t.kid 0) (ss) (s))) ⟨19, 0, 0, 0⟩)) (by have := HZ.out; have := HK.out; omega) (HS.out.kid (by have := HC.out; omega)) (by have := HK.out; have := HZ.out; simp only [List.length_append, List.length_cons, List.length_nil]; omega))
    have R5 := hid (R4.out.trans Q5.out)
    have Tn2_5 := hid (Nat.lt_of_lt_of_le Tn2_4.out Q5.out.out)
    have D4_5 : Hid (Cf X4 X5) := g1
    have hbx := (G5.out.block W.heap.size _ _ HA.out (by decide) (by decide) (by decide)).trans HA.out
    refine ⟨x5, rfl, ⟨S5.out.tree, cell_of_heap hbx 2, cell_of_heap hbx 3⟩, ?_⟩
    clear h1 g1 hbx hS2 HQ
    refine pick_frame (by simp [go_sem]; exact rfl) ?_
    refine pick_end (by kernel_rfl) ?_
    have hbx := (G5.out.block W.heap.size _ _ HA.out (by decide) (by decide) (by decide)).trans HA.out
    have e0 := cell_of_heap hbx 0
    have e1 := cell_of_heap hbx 1
    have e2 := cell_of_heap hbx 2
    have e3 := cell_of_heap hbx 3
    have e4 := cell_of_heap hbx 4
    have e5 := cell_of_heap hbx 5
    have d0 := S5.out.effs
    have d1 := S5.out.tree
    simp at e0 e1 e2 e3 e4 e5
    clear hbx
    go_wp2_with fail
    clear e0 e1 e2 e3 e4 e5 d0 d1
    refine (putM_calls ⟨13, 0, 0, 0⟩ S5.out (by have r := R5.out.cost; have hb := HB.out; have hz := HZ.out; omega)).mono ?_
    rintro e X6 ⟨rfl, h1, g1⟩
    obtain ⟨n6, hn6⟩ : ∃ n, ((partZ es F (t.kid 2) (ss ++ [t.n.a, t.n.b]) ((Cs.put ((partZ es F (t.kid 0) (ss) (s))) ⟨19, 0, 0, 0⟩)))).out.length = n := ⟨_, rfl⟩
    rw [hn6]
    have H6 := hid hn6
    have tn : n6 < (Cs.put ((partZ es F (t.kid 2) (ss ++ [t.n.a, t.n.b]) ((Cs.put ((partZ es F (t.kid 0) (ss) (s))) ⟨19, 0, 0, 0⟩)))) ⟨13, 0, 0, 0⟩).out.length := by rw [← hn6]; simp [Cs.put]
    have S6 := hid h1
    have G6 : Hid (Cf Y X6) := G5.out.trans g1
    have Q6 := hid (Rs.put ns K ((partZ es F (t.kid 2) (ss ++ [t.n.a, t.n.b]) ((Cs.put ((partZ es F (t.kid 0) (ss) (s))) ⟨19, 0, 0, 0⟩)))) ⟨13, 0, 0, 0⟩)
    have R6 := hid (R5.out.trans Q6.out)
    have Tn2_6 := hid (Nat.lt_of_lt_of_le Tn2_5.out Q6.out.out)
    have D4_6 : Hid (Cf X4 X6) := D4_5.out.trans g1
    have Tn6_6 := hid tn
    clear h1 g1 hn6 tn
    have hbx := (G6.out.block W.heap.size _ _ HA.out (by decide) (by decide) (by decide)).trans HA.out
    have e0 := cell_of_heap hbx 0
    have e1 := cell_of_heap hbx 1
    have e2 := cell_of_heap hbx 2
    have e3 := cell_of_heap hbx 3
    have e4 := cell_of_heap hbx 4
    have e5 := cell_of_heap hbx 5
    have d0 := S6.out.effs
    have d1 := S6.out.tree
    simp at e0 e1 e2 e3 e4 e5
    clear hbx
    go_wp2_with fail
    clear e0 e1 e2 e3 e4 e5 d0 d1
    refine (putM_calls ⟨13, 0, 0, 0⟩ S6.out (by have r := R6.out.cost; have hb := HB.out; have hz := HZ.out; omega)).mono ?_
    rintro e X7 ⟨rfl, h1, g1⟩
    obtain ⟨n7, hn7⟩ : ∃ n, ((Cs.put ((partZ es F (t.kid 2) (ss ++ [t.n.a, t.n.b]) ((Cs.put ((partZ es F (t.kid 0) (ss) (s))) ⟨19, 0, 0, 0⟩)))) ⟨13, 0, 0, 0⟩)).out.length = n := ⟨_, rfl⟩
    rw [hn7]
    have H7 := hid hn7
    have tn : n7 < (Cs.put ((Cs.put ((partZ es F (t.kid 2) (ss ++ [t.n.a, t.n.b]) ((Cs.put ((partZ es F (t.kid 0) (ss) (s))) ⟨19, 0, 0, 0⟩)))) ⟨13, 0, 0, 0⟩)) ⟨13, 0, 0, 0⟩).out.length := by rw [← hn7]; simp [Cs.put]
    have S7 := hid h1
    have G7 : Hid (Cf Y X7) := G6.out.trans g1
    have Q7 := hid (Rs.put ns K ((Cs.put ((partZ es F (t.kid 2) (ss ++ [t.n.a, t.n.b]) ((Cs.put ((partZ es F (t.kid 0) (ss) (s))) ⟨19, 0, 0, 0⟩)))) ⟨13, 0, 0, 0⟩)) ⟨13, 0, 0, 0⟩)
    have R7 := hid (R6.out.trans Q7.out)
    have Tn2_7 := hid (Nat.lt_of_lt_of_le Tn2_6.out Q7.out.out)
    have Tn6_7 := hid (Nat.lt_of_lt_of_le Tn6_6.out Q7.out.out)
    have D4_7 : Hid (Cf X4 X7) := D4_6.out.trans g1
    have Tn7_7 := hid tn
    clear h1 g1 hn7 tn
    have hbx := (G7.out.block W.heap.size _ _ HA.out (by decide) (by decide) (by decide)).trans HA.out
    have e0 := cell_of_heap hbx 0
    have e1 := cell_of_heap hbx 1
    have e2 := cell_of_heap hbx 2
    have e3 := cell_of_heap hbx 3
    have e4 := cell_of_heap hbx 4
    have e5 := cell_of_heap hbx 5
    have d0 := S7.out.effs
    have d1 := S7.out.tree
    simp at e0 e1 e2 e3 e4 e5
    clear hbx
    go_wp2_with fail
    clear e0 e1 e2 e3 e4 e5 d0 d1
    refine (putM_calls ⟨11, 0, 0, 0⟩ S7.out (by have r := R7.out.cost; have hb := HB.out; have hz := HZ.out; omega)).mono ?_
    rintro e X8 ⟨rfl, h1, g1⟩
    obtain ⟨n8, hn8⟩ : ∃ n, ((Cs.put ((Cs.put ((partZ es F (t.kid 2) (ss ++ [t.n.a, t.n.b]) ((Cs.put ((partZ es F (t.kid 0) (ss) (s))) ⟨19, 0, 0, 0⟩)))) ⟨13, 0, 0, 0⟩)) ⟨13, 0, 0, 0⟩)).out.length = n := ⟨_, rfl⟩
    rw [hn8]
    have H8 := hid hn8
    have tn : n8 < (Cs.put ((Cs.put ((Cs.put ((partZ es F (t.kid 2) (ss ++ [t.n.a, t.n.b]) ((Cs.put ((partZ es F (t.kid 0) (ss) (s))) ⟨19, 0, 0, 0⟩)))) ⟨13, 0, 0, 0⟩)) ⟨13, 0, 0, 0⟩)) ⟨11, 0, 0, 0⟩).out.length := by rw [← hn8]; simp [Cs.put]
    have S8 := hid h1
    have G8 : Hid (Cf Y X8) := G7.out.trans g1
    have Q8 := hid (Rs.put ns K ((Cs.put ((Cs.put ((partZ es F (t.kid 2) (ss ++ [t.n.a, t.n.b]) ((Cs.put ((partZ es F (t.kid 0) (ss) (s))) ⟨19, 0, 0, 0⟩)))) ⟨13, 0, 0, 0⟩)) ⟨13, 0, 0, 0⟩)) ⟨11, 0, 0, 0⟩)
    have R8 := hid (R7.out.trans Q8.out)
    have Tn2_8 := hid (Nat.lt_of_lt_of_le Tn2_7.out Q8.out.out)
    have Tn6_8 := hid (Nat.lt_of_lt_of_le Tn6_7.out Q8.out.out)
    have Tn7_8 := hid (Nat.lt_of_lt_of_le Tn7_7.out Q8.out.out)
    have D4_8 : Hid (Cf X4 X8) := D4_7.out.trans g1
    have Tn8_8 := hid tn
    clear h1 g1 hn8 tn
    have hbx := (G8.out.block W.heap.size _ _ HA.out (by decide) (by decide) (by decide)).trans HA.out
    have e0 := cell_of_heap hbx 0
    have e1 := cell_of_heap hbx 1
    have e2 := cell_of_heap hbx 2
    have e3 := cell_of_heap hbx 3
    have e4 := cell_of_heap hbx 4
    have e5 := cell_of_heap hbx 5
    have d0 := S8.out.effs
    have d1 := S8.out.tree
    simp at e0 e1 e2 e3 e4 e5
    clear hbx
    go_wp2_with fail
    clear e0 e1 e2 e3 e4 e5 d0 d1
    refine (lead_calls n2 0 S8.out (by have r := R8.out.cost; have hb := HB.out; have hz := HZ.out; omega) Tn2_8.out (by decide)).mono ?_
    rintro e X9 ⟨⟨x9, rfl⟩, h1, g1⟩
    have S9 := hid h1
    have G9 : Hid (Cf Y X9) := G8.out.trans g1
    have Q9 := hid (Rs.lead ns K ((Cs.put ((Cs.put ((Cs.put ((partZ es F (t.kid 2) (ss ++ [t.n.a, t.n.b]) ((Cs.put ((partZ es F (t.kid 0) (ss) (s))) ⟨19, 0, 0, 0⟩)))) ⟨13, 0, 0, 0⟩)) ⟨13, 0, 0, 0⟩)) ⟨11, 0, 0, 0⟩)) n2 0)
    have R9 := hid (R8.out.trans Q9.out)
    have Tn2_9 := hid (Nat.lt_of_lt_of_le Tn2_8.out Q9.out.out)
    have Tn6_9 := hid (Nat.lt_of_lt_of_le Tn6_8.out Q9.out.out)
    have Tn7_9 := hid (Nat.lt_of_lt_of_le Tn7_8.out Q9.out.out)
    have Tn8_9 := hid (Nat.lt_of_lt_of_le Tn8_8.out Q9.out.out)
    have D4_9 : Hid (Cf X4 X9) := D4_8.out.trans g1
    clear h1 g1
    have hbx := (G9.out.block W.heap.size _ _ HA.out (by decide) (by decide) (by decide)).trans HA.out
    have e0 := cell_of_heap hbx 0
    have e1 := cell_of_heap hbx 1
    have e2 := cell_of_heap hbx 2
    have e3 := cell_of_heap hbx 3
    have e4 := cell_of_heap hbx 4
    have e5 := cell_of_heap hbx 5
    have d0 := S9.out.effs
    have d1 := S9.out.tree
    simp at e0 e1 e2 e3 e4 e5
    clear hbx
    go_wp2_with fail
    clear e0 e1 e2 e3 e4 e5 d0 d1
    refine (kid_calls (cap := cap) 1 X9 (cx_nodes HX.out S9.out) HX.out.tl HS.out (by have := HC.out; omega)).mono ?_
    rintro e Xk ⟨rfl, rfl⟩
    have hbx := (G9.out.block W.heap.size _ _ HA.out (by decide) (by decide) (by decide)).trans HA.out
    have e0 := cell_of_heap hbx 0
    have e1 := cell_of_heap hbx 1
    have e2 := cell_of_heap hbx 2
    have e3 := cell_of_heap hbx 3
    have e4 := cell_of_heap hbx 4
    have e5 := cell_of_heap hbx 5
    have d0 := S9.out.effs
    have d1 := S9.out.tree
    simp at e0 e1 e2 e3 e4 e5
    clear hbx
    go_wp2_with fail
    clear e0 e1 e2 e3 e4 e5 d0 d1
    refine (HIH.out (t.kid 1) (ss) ((Cs.lead ((Cs.put ((Cs.put ((Cs.put ((partZ es F (t.kid 2) (ss ++ [t.n.a, t.n.b]) ((Cs.put ((partZ es F (t.kid 0) (ss) (s))) ⟨19, 0, 0, 0⟩)))) ⟨13, 0, 0, 0⟩)) ⟨13, 0, 0, 0⟩)) ⟨11, 0, 0, 0⟩)) n2 0)) _ _ (by have := HZ.out; have := HK.out; omega) (HS.out.kid (by have := HC.out; omega)) (by have := HK.out; have := HZ.out; (try simp only [List.length_append, List.length_cons, List.length_nil]); omega) (by have r := R9.out.cost; have hb := HB.out; have hz := HZ.out; omega) S9.out (N0.out.frame G9.out)).mono ?_
    rintro e X10 ⟨⟨x10, rfl⟩, h1, g1⟩
    have S10 := hid h1
    have G10 : Hid (Cf Y X10) := G9.out.trans g1
    have Q10 := hid (part_r (ns := ns) (K := K) (es := es) F (t.kid 1) (ss) ((Cs.lead ((Cs.put ((Cs.put ((Cs.put ((partZ es F (t.kid 2) (ss ++ [t.n.a, t.n.b]) ((Cs.put ((partZ es F (t.kid 0) (ss) (s))) ⟨19, 0, 0, 0⟩)))) ⟨13, 0, 0, 0⟩)) ⟨13, 0, 0, 0⟩)) ⟨11, 0, 0, 0⟩)) n2 0)) (by have := HZ.out; have := HK.out; omega) (HS.out.kid (by have := HC.out; omega)) (by have := HK.out; have := HZ.out; (try simp only [List.length_append, List.length_cons, List.length_nil]); omega))
    have R10 := hid (R9.out.trans Q10.out)
    have Tn2_10 := hid (Nat.lt_of_lt_of_le Tn2_9.out Q10.out.out)
    have Tn6_10 := hid (Nat.lt_of_lt_of_le Tn6_9.out Q10.out.out)
    have Tn7_10 := hid (Nat.lt_of_lt_of_le Tn7_9.out Q10.out.out)
    have Tn8_10 := hid (Nat.lt_of_lt_of_le Tn8_9.out Q10.out.out)
    have D4_10 : Hid (Cf X4 X10) := D4_9.out.trans g1
    clear h1 g1
    have hbx := (G10.out.block W.heap.size _ _ HA.out (by decide) (by decide) (by decide)).trans HA.out
    have e0 := cell_of_heap hbx 0
    have e1 := cell_of_heap hbx 1
    have e2 := cell_of_heap hbx 2
    have e3 := cell_of_heap hbx 3
    have e4 := cell_of_heap hbx 4
    have e5 := cell_of_heap hbx 5
    have d0 := S10.out.effs
    have d1 := S10.out.tree
    simp at e0 e1 e2 e3 e4 e5
    clear hbx
    go_wp2_with fail
    clear e0 e1 e2 e3 e4 e5 d0 d1
    refine (lead_calls n8 0 S10.out (by have r := R10.out.cost; have hb := HB.out; have hz := HZ.out; omega) Tn8_10.out (by decide)).mono ?_
    rintro e X11 ⟨⟨x11, rfl⟩, h1, g1⟩
    have S11 := hid h1
    have G11 : Hid (Cf Y X11) := G10.out.trans g1
    have Q11 := hid (Rs.lead ns K ((partZ es F (t.kid 1) (ss) ((Cs.lead ((Cs.put ((Cs.put ((Cs.put ((partZ es F (t.kid 2) (ss ++ [t.n.a, t.n.b]) ((Cs.put ((partZ es F (t.kid 0) (ss) (s))) ⟨19, 0, 0, 0⟩)))) ⟨13, 0, 0, 0⟩)) ⟨13, 0, 0, 0⟩)) ⟨11, 0, 0, 0⟩)) n2 0)))) n8 0)
    have R11 := hid (R10.out.trans Q11.out)
    have Tn2_11 := hid (Nat.lt_of_lt_of_le Tn2_10.out Q11.out.out)
    have Tn6_11 := hid (Nat.lt_of_lt_of_le Tn6_10.out Q11.out.out)
    have Tn7_11 := hid (Nat.lt_of_lt_of_le Tn7_10.out Q11.out.out)
    have Tn8_11 := hid (Nat.lt_of_lt_of_le Tn8_10.out Q11.out.out)
    have D4_11 : Hid (Cf X4 X11) := D4_10.out.trans g1
    clear h1 g1
    have hbx := (G11.out.block W.heap.size _ _ HA.out (by decide) (by decide) (by decide)).trans HA.out
    have e0 := cell_of_heap hbx 0
    have e1 := cell_of_heap hbx 1
    have e2 := cell_of_heap hbx 2
    have e3 := cell_of_heap hbx 3
    have e4 := cell_of_heap hbx 4
    have e5 := cell_of_heap hbx 5
    have d0 := S11.out.effs
    have d1 := S11.out.tree
    simp at e0 e1 e2 e3 e4 e5
    clear hbx
    go_wp2_with fail
    clear e0 e1 e2 e3 e4 e5 d0 d1
    go_end0
    have qn2 := H2.out
    subst qn2
    have qn8 := H8.out
    subst qn8
    exact ⟨⟨_, rfl⟩, S11.out, F0.out.trans G11.out⟩
  · have HQ : Hid (W.heap.size < D3.heap.size) := heap_lt ((G3.out.block W.heap.size _ _ HA.out (by decide) (by decide) (by decide)).trans HA.out)
    have hA1 : Below D3.heap.size D3 (D3.alloc (.cells #[.string t.n.a, .string t.n.b] 9)) := (Below.refl _ _).alloc (Nat.le_refl _) _
    have hS1 : (fun w' : World => w'.cell? ⟨Mb, 1, none⟩ = some (.slice (some ⟨b, off, none⟩) ns.length cap) ∧ w'.cell? ⟨W.heap.size, 2, none⟩ = some (.string t.n.a) ∧ w'.cell? ⟨W.heap.size, 3, none⟩ = some (.string t.n.b)) (D3.alloc (.cells #[.string t.n.a, .string t.n.b] 9)) := ⟨(hA1.cell (heap_at S3.out)).trans hS.1, (hA1.cell HQ.out).trans hS.2.1, (hA1.cell HQ.out).trans hS.2.2⟩
    refine ⟨_, .slice (some ⟨D3.heap.size, 0, none⟩) 2 2, D3.alloc (.cells #[.string t.n.a, .string t.n.b] 9), rfl, rfl, by simp [go_sem], hS1, ?_⟩
    refine pick_frame (by simp [go_sem]; exact rfl) ?_
    refine pick_enter (i := 7) (f := 42) (args := #[.slice (some ⟨b, off, none⟩) ns.length cap, .int .i64 (t.at_ : Int), .int .i64 (2 : Int)]) rfl (by kernel_rfl) rfl rfl (by simp [go_sem]) ?_
    refine (kid_calls (cap := cap) 2 _ (cx_nodes HX.out (S3.out.below hA1)) HX.out.tl HS.out (by have := HC.out; omega)).mono ?_
    rintro e Xk ⟨rfl, rfl⟩
    refine ⟨_, rfl, hS1, ?_⟩
    refine pick_frame (by simp [go_sem]; exact rfl) ?_
    refine pick_enter (i := 14) (f := 40) (args := #[.slice adn ss.length cpn, .slice (some ⟨D3.heap.size, 0, none⟩) 2 2]) rfl (by kernel_rfl) rfl rfl (by simp [go_sem]) ?_
    refine (withN_calls (ss := ss) (ms := [t.n.a, t.n.b]) _ ((N0.out.frame G3.out).names.below hA1) (lit_names D3 [t.n.a, t.n.b]) (by have := HK.out; have := HZ.out; simp only [List.length_cons, List.length_nil]; omega)).mono ?_
    rintro e X4 ⟨u4, rfl, hu4, hb4⟩
    have B4 : Below D3.heap.size D3 X4 := hA1.trans (hb4.mono (by simp))
    have hS2 : (fun w' : World => w'.cell? ⟨Mb, 1, none⟩ = some (.slice (some ⟨b, off, none⟩) ns.length cap) ∧ w'.cell? ⟨W.heap.size, 2, none⟩ = some (.string t.n.a) ∧ w'.cell? ⟨W.heap.size, 3, none⟩ = some (.string t.n.b)) X4 := ⟨(B4.cell (heap_at S3.out)).trans hS.1, (B4.cell HQ.out).trans hS.2.1, (B4.cell HQ.out).trans hS.2.2⟩
    have U4 := hid hu4
    have S4 := hid (S3.out.below B4)
    have G4 : Hid (Cf Y X4) := G3.out.trans (Cf.of_below B4)
    have R4 := R3
    have Tn2_4 := Tn2_3
    clear hu4 hb4 B4 hS hS1 hA1
    refine ⟨u4, rfl, hS2, ?_⟩
    refine pick_frame (by simp [go_sem]; exact rfl) ?_
    refine pick_enter (i := 15) (f := 17) (args := #[.pointer (some ⟨Mb, 0, none⟩), .int .i64 ((t.kid 2).at_ : Int), u4]) rfl (by kernel_rfl) rfl rfl (by simp [go_sem]) ?_
    refine (HIH.out (t.kid 2) (ss ++ [t.n.a, t.n.b]) ((Cs.put ((partZ es F (t.kid 0) (ss) (s))) ⟨19, 0, 0, 0⟩)) _ _ (by have := HZ.out; have := HK.out; omega) (HS.out.kid (by have := HC.out; omega)) (by have := HK.out; have := HZ.out; simp only [List.length_append, List.length_cons, List.length_nil]; omega) (by have r := R4.out.cost; have hb := HB.out; have hz := HZ.out; omega) S4.out (U4.out.frame (Cf.refl _))).mono ?_
    rintro e X5 ⟨⟨x5, rfl⟩, h1, g1⟩
    have S5 := hid h1
    have G5 : Hid (Cf Y X5) := G4.out.trans g1
    have Q5 := hid (part_r (ns := ns) (K := K) (es := es) F (t.kid 2) (ss ++ [t.n.a, t.n.b]) ((Cs.put ((partZ es F (t.kid 0) (ss) (s))) ⟨19, 0, 0, 0⟩)) (by have := HZ.out; have := HK.out; omega) (HS.out.kid (by have := HC.out; omega)) (by have := HK.out; have := HZ.out; simp only [List.length_append, List.length_cons, List.length_nil]; omega))
    have R5 := hid (R4.out.trans Q5.out)
    have Tn2_5 := hid (Nat.lt_of_lt_of_le Tn2_4.out Q5.out.out)
    have D4_5 : Hid (Cf X4 X5) := g1
    have hbx := (G5.out.block W.heap.size _ _ HA.out (by decide) (by decide) (by decide)).trans HA.out
    refine ⟨x5, rfl, ⟨S5.out.tree, cell_of_heap hbx 2, cell_of_heap hbx 3⟩, ?_⟩
    clear h1 g1 hbx hS2 HQ
    refine pick_frame (by simp [go_sem]; exact rfl) ?_
    refine pick_end (by kernel_rfl) ?_
    have hbx := (G5.out.block W.heap.size _ _ HA.out (by decide) (by decide) (by decide)).trans HA.out
    have e0 := cell_of_heap hbx 0
    have e1 := cell_of_heap hbx 1
    have e2 := cell_of_heap hbx 2
    have e3 := cell_of_heap hbx 3
    have e4 := cell_of_heap hbx 4
    have e5 := cell_of_heap hbx 5
    have d0 := S5.out.effs
    have d1 := S5.out.tree
    simp at e0 e1 e2 e3 e4 e5
    clear hbx
    go_wp2_with fail
    clear e0 e1 e2 e3 e4 e5 d0 d1
    refine (putM_calls ⟨13, 0, 0, 0⟩ S5.out (by have r := R5.out.cost; have hb := HB.out; have hz := HZ.out; omega)).mono ?_
    rintro e X6 ⟨rfl, h1, g1⟩
    obtain ⟨n6, hn6⟩ : ∃ n, ((partZ es F (t.kid 2) (ss ++ [t.n.a, t.n.b]) ((Cs.put ((partZ es F (t.kid 0) (ss) (s))) ⟨19, 0, 0, 0⟩)))).out.length = n := ⟨_, rfl⟩
    rw [hn6]
    have H6 := hid hn6
    have tn : n6 < (Cs.put ((partZ es F (t.kid 2) (ss ++ [t.n.a, t.n.b]) ((Cs.put ((partZ es F (t.kid 0) (ss) (s))) ⟨19, 0, 0, 0⟩)))) ⟨13, 0, 0, 0⟩).out.length := by rw [← hn6]; simp [Cs.put]
    have S6 := hid h1
    have G6 : Hid (Cf Y X6) := G5.out.trans g1
    have Q6 := hid (Rs.put ns K ((partZ es F (t.kid 2) (ss ++ [t.n.a, t.n.b]) ((Cs.put ((partZ es F (t.kid 0) (ss) (s))) ⟨19, 0, 0, 0⟩)))) ⟨13, 0, 0, 0⟩)
    have R6 := hid (R5.out.trans Q6.out)
    have Tn2_6 := hid (Nat.lt_of_lt_of_le Tn2_5.out Q6.out.out)
    have D4_6 : Hid (Cf X4 X6) := D4_5.out.trans g1
    have Tn6_6 := hid tn
    clear h1 g1 hn6 tn
    have hbx := (G6.out.block W.heap.size _ _ HA.out (by decide) (by decide) (by decide)).trans HA.out
    have e0 := cell_of_heap hbx 0
    have e1 := cell_of_heap hbx 1
    have e2 := cell_of_heap hbx 2
    have e3 := cell_of_heap hbx 3
    have e4 := cell_of_heap hbx 4
    have e5 := cell_of_heap hbx 5
    have d0 := S6.out.effs
    have d1 := S6.out.tree
    simp at e0 e1 e2 e3 e4 e5
    clear hbx
    go_wp2_with fail
    clear e0 e1 e2 e3 e4 e5 d0 d1
    refine (putM_calls ⟨13, 0, 0, 0⟩ S6.out (by have r := R6.out.cost; have hb := HB.out; have hz := HZ.out; omega)).mono ?_
    rintro e X7 ⟨rfl, h1, g1⟩
    obtain ⟨n7, hn7⟩ : ∃ n, ((Cs.put ((partZ es F (t.kid 2) (ss ++ [t.n.a, t.n.b]) ((Cs.put ((partZ es F (t.kid 0) (ss) (s))) ⟨19, 0, 0, 0⟩)))) ⟨13, 0, 0, 0⟩)).out.length = n := ⟨_, rfl⟩
    rw [hn7]
    have H7 := hid hn7
    have tn : n7 < (Cs.put ((Cs.put ((partZ es F (t.kid 2) (ss ++ [t.n.a, t.n.b]) ((Cs.put ((partZ es F (t.kid 0) (ss) (s))) ⟨19, 0, 0, 0⟩)))) ⟨13, 0, 0, 0⟩)) ⟨13, 0, 0, 0⟩).out.length := by rw [← hn7]; simp [Cs.put]
    have S7 := hid h1
    have G7 : Hid (Cf Y X7) := G6.out.trans g1
    have Q7 := hid (Rs.put ns K ((Cs.put ((partZ es F (t.kid 2) (ss ++ [t.n.a, t.n.b]) ((Cs.put ((partZ es F (t.kid 0) (ss) (s))) ⟨19, 0, 0, 0⟩)))) ⟨13, 0, 0, 0⟩)) ⟨13, 0, 0, 0⟩)
    have R7 := hid (R6.out.trans Q7.out)
    have Tn2_7 := hid (Nat.lt_of_lt_of_le Tn2_6.out Q7.out.out)
    have Tn6_7 := hid (Nat.lt_of_lt_of_le Tn6_6.out Q7.out.out)
    have D4_7 : Hid (Cf X4 X7) := D4_6.out.trans g1
    have Tn7_7 := hid tn
    clear h1 g1 hn7 tn
    have hbx := (G7.out.block W.heap.size _ _ HA.out (by decide) (by decide) (by decide)).trans HA.out
    have e0 := cell_of_heap hbx 0
    have e1 := cell_of_heap hbx 1
    have e2 := cell_of_heap hbx 2
    have e3 := cell_of_heap hbx 3
    have e4 := cell_of_heap hbx 4
    have e5 := cell_of_heap hbx 5
    have d0 := S7.out.effs
    have d1 := S7.out.tree
    simp at e0 e1 e2 e3 e4 e5
    clear hbx
    go_wp2_with fail
    clear e0 e1 e2 e3 e4 e5 d0 d1
    refine (putM_calls ⟨11, 0, 0, 0⟩ S7.out (by have r := R7.out.cost; have hb := HB.out; have hz := HZ.out; omega)).mono ?_
    rintro e X8 ⟨rfl, h1, g1⟩
    obtain ⟨n8, hn8⟩ : ∃ n, ((Cs.put ((Cs.put ((partZ es F (t.kid 2) (ss ++ [t.n.a, t.n.b]) ((Cs.put ((partZ es F (t.kid 0) (ss) (s))) ⟨19, 0, 0, 0⟩)))) ⟨13, 0, 0, 0⟩)) ⟨13, 0, 0, 0⟩)).out.length = n := ⟨_, rfl⟩
    rw [hn8]
    have H8 := hid hn8
    have tn : n8 < (Cs.put ((Cs.put ((Cs.put ((partZ es F (t.kid 2) (ss ++ [t.n.a, t.n.b]) ((Cs.put ((partZ es F (t.kid 0) (ss) (s))) ⟨19, 0, 0, 0⟩)))) ⟨13, 0, 0, 0⟩)) ⟨13, 0, 0, 0⟩)) ⟨11, 0, 0, 0⟩).out.length := by rw [← hn8]; simp [Cs.put]
    have S8 := hid h1
    have G8 : Hid (Cf Y X8) := G7.out.trans g1
    have Q8 := hid (Rs.put ns K ((Cs.put ((Cs.put ((partZ es F (t.kid 2) (ss ++ [t.n.a, t.n.b]) ((Cs.put ((partZ es F (t.kid 0) (ss) (s))) ⟨19, 0, 0, 0⟩)))) ⟨13, 0, 0, 0⟩)) ⟨13, 0, 0, 0⟩)) ⟨11, 0, 0, 0⟩)
    have R8 := hid (R7.out.trans Q8.out)
    have Tn2_8 := hid (Nat.lt_of_lt_of_le Tn2_7.out Q8.out.out)
    have Tn6_8 := hid (Nat.lt_of_lt_of_le Tn6_7.out Q8.out.out)
    have Tn7_8 := hid (Nat.lt_of_lt_of_le Tn7_7.out Q8.out.out)
    have D4_8 : Hid (Cf X4 X8) := D4_7.out.trans g1
    have Tn8_8 := hid tn
    clear h1 g1 hn8 tn
    have hbx := (G8.out.block W.heap.size _ _ HA.out (by decide) (by decide) (by decide)).trans HA.out
    have e0 := cell_of_heap hbx 0
    have e1 := cell_of_heap hbx 1
    have e2 := cell_of_heap hbx 2
    have e3 := cell_of_heap hbx 3
    have e4 := cell_of_heap hbx 4
    have e5 := cell_of_heap hbx 5
    have d0 := S8.out.effs
    have d1 := S8.out.tree
    simp at e0 e1 e2 e3 e4 e5
    clear hbx
    go_wp2_with fail
    clear e0 e1 e2 e3 e4 e5 d0 d1
    refine (lead_calls n2 0 S8.out (by have r := R8.out.cost; have hb := HB.out; have hz := HZ.out; omega) Tn2_8.out (by decide)).mono ?_
    rintro e X9 ⟨⟨x9, rfl⟩, h1, g1⟩
    have S9 := hid h1
    have G9 : Hid (Cf Y X9) := G8.out.trans g1
    have Q9 := hid (Rs.lead ns K ((Cs.put ((Cs.put ((Cs.put ((partZ es F (t.kid 2) (ss ++ [t.n.a, t.n.b]) ((Cs.put ((partZ es F (t.kid 0) (ss) (s))) ⟨19, 0, 0, 0⟩)))) ⟨13, 0, 0, 0⟩)) ⟨13, 0, 0, 0⟩)) ⟨11, 0, 0, 0⟩)) n2 0)
    have R9 := hid (R8.out.trans Q9.out)
    have Tn2_9 := hid (Nat.lt_of_lt_of_le Tn2_8.out Q9.out.out)
    have Tn6_9 := hid (Nat.lt_of_lt_of_le Tn6_8.out Q9.out.out)
    have Tn7_9 := hid (Nat.lt_of_lt_of_le Tn7_8.out Q9.out.out)
    have Tn8_9 := hid (Nat.lt_of_lt_of_le Tn8_8.out Q9.out.out)
    have D4_9 : Hid (Cf X4 X9) := D4_8.out.trans g1
    clear h1 g1
    have hbx := (G9.out.block W.heap.size _ _ HA.out (by decide) (by decide) (by decide)).trans HA.out
    have e0 := cell_of_heap hbx 0
    have e1 := cell_of_heap hbx 1
    have e2 := cell_of_heap hbx 2
    have e3 := cell_of_heap hbx 3
    have e4 := cell_of_heap hbx 4
    have e5 := cell_of_heap hbx 5
    have d0 := S9.out.effs
    have d1 := S9.out.tree
    simp at e0 e1 e2 e3 e4 e5
    clear hbx
    go_wp2_with fail
    clear e0 e1 e2 e3 e4 e5 d0 d1
    refine (kid_calls (cap := cap) 1 X9 (cx_nodes HX.out S9.out) HX.out.tl HS.out (by have := HC.out; omega)).mono ?_
    rintro e Xk ⟨rfl, rfl⟩
    have hbx := (G9.out.block W.heap.size _ _ HA.out (by decide) (by decide) (by decide)).trans HA.out
    have e0 := cell_of_heap hbx 0
    have e1 := cell_of_heap hbx 1
    have e2 := cell_of_heap hbx 2
    have e3 := cell_of_heap hbx 3
    have e4 := cell_of_heap hbx 4
    have e5 := cell_of_heap hbx 5
    have d0 := S9.out.effs
    have d1 := S9.out.tree
    simp at e0 e1 e2 e3 e4 e5
    clear hbx
    go_wp2_with fail
    clear e0 e1 e2 e3 e4 e5 d0 d1
    refine (HIH.out (t.kid 1) (ss) ((Cs.lead ((Cs.put ((Cs.put ((Cs.put ((partZ es F (t.kid 2) (ss ++ [t.n.a, t.n.b]) ((Cs.put ((partZ es F (t.kid 0) (ss) (s))) ⟨19, 0, 0, 0⟩)))) ⟨13, 0, 0, 0⟩)) ⟨13, 0, 0, 0⟩)) ⟨11, 0, 0, 0⟩)) n2 0)) _ _ (by have := HZ.out; have := HK.out; omega) (HS.out.kid (by have := HC.out; omega)) (by have := HK.out; have := HZ.out; (try simp only [List.length_append, List.length_cons, List.length_nil]); omega) (by have r := R9.out.cost; have hb := HB.out; have hz := HZ.out; omega) S9.out (N0.out.frame G9.out)).mono ?_
    rintro e X10 ⟨⟨x10, rfl⟩, h1, g1⟩
    have S10 := hid h1
    have G10 : Hid (Cf Y X10) := G9.out.trans g1
    have Q10 := hid (part_r (ns := ns) (K := K) (es := es) F (t.kid 1) (ss) ((Cs.lead ((Cs.put ((Cs.put ((Cs.put ((partZ es F (t.kid 2) (ss ++ [t.n.a, t.n.b]) ((Cs.put ((partZ es F (t.kid 0) (ss) (s))) ⟨19, 0, 0, 0⟩)))) ⟨13, 0, 0, 0⟩)) ⟨13, 0, 0, 0⟩)) ⟨11, 0, 0, 0⟩)) n2 0)) (by have := HZ.out; have := HK.out; omega) (HS.out.kid (by have := HC.out; omega)) (by have := HK.out; have := HZ.out; (try simp only [List.length_append, List.length_cons, List.length_nil]); omega))
    have R10 := hid (R9.out.trans Q10.out)
    have Tn2_10 := hid (Nat.lt_of_lt_of_le Tn2_9.out Q10.out.out)
    have Tn6_10 := hid (Nat.lt_of_lt_of_le Tn6_9.out Q10.out.out)
    have Tn7_10 := hid (Nat.lt_of_lt_of_le Tn7_9.out Q10.out.out)
    have Tn8_10 := hid (Nat.lt_of_lt_of_le Tn8_9.out Q10.out.out)
    have D4_10 : Hid (Cf X4 X10) := D4_9.out.trans g1
    clear h1 g1
    have hbx := (G10.out.block W.heap.size _ _ HA.out (by decide) (by decide) (by decide)).trans HA.out
    have e0 := cell_of_heap hbx 0
    have e1 := cell_of_heap hbx 1
    have e2 := cell_of_heap hbx 2
    have e3 := cell_of_heap hbx 3
    have e4 := cell_of_heap hbx 4
    have e5 := cell_of_heap hbx 5
    have d0 := S10.out.effs
    have d1 := S10.out.tree
    simp at e0 e1 e2 e3 e4 e5
    clear hbx
    go_wp2_with fail
    clear e0 e1 e2 e3 e4 e5 d0 d1
    refine (lead_calls n8 0 S10.out (by have r := R10.out.cost; have hb := HB.out; have hz := HZ.out; omega) Tn8_10.out (by decide)).mono ?_
    rintro e X11 ⟨⟨x11, rfl⟩, h1, g1⟩
    have S11 := hid h1
    have G11 : Hid (Cf Y X11) := G10.out.trans g1
    have Q11 := hid (Rs.lead ns K ((partZ es F (t.kid 1) (ss) ((Cs.lead ((Cs.put ((Cs.put ((Cs.put ((partZ es F (t.kid 2) (ss ++ [t.n.a, t.n.b]) ((Cs.put ((partZ es F (t.kid 0) (ss) (s))) ⟨19, 0, 0, 0⟩)))) ⟨13, 0, 0, 0⟩)) ⟨13, 0, 0, 0⟩)) ⟨11, 0, 0, 0⟩)) n2 0)))) n8 0)
    have R11 := hid (R10.out.trans Q11.out)
    have Tn2_11 := hid (Nat.lt_of_lt_of_le Tn2_10.out Q11.out.out)
    have Tn6_11 := hid (Nat.lt_of_lt_of_le Tn6_10.out Q11.out.out)
    have Tn7_11 := hid (Nat.lt_of_lt_of_le Tn7_10.out Q11.out.out)
    have Tn8_11 := hid (Nat.lt_of_lt_of_le Tn8_10.out Q11.out.out)
    have D4_11 : Hid (Cf X4 X11) := D4_10.out.trans g1
    clear h1 g1
    have hbx := (G11.out.block W.heap.size _ _ HA.out (by decide) (by decide) (by decide)).trans HA.out
    have e0 := cell_of_heap hbx 0
    have e1 := cell_of_heap hbx 1
    have e2 := cell_of_heap hbx 2
    have e3 := cell_of_heap hbx 3
    have e4 := cell_of_heap hbx 4
    have e5 := cell_of_heap hbx 5
    have d0 := S11.out.effs
    have d1 := S11.out.tree
    simp at e0 e1 e2 e3 e4 e5
    clear hbx
    go_wp2_with fail
    clear e0 e1 e2 e3 e4 e5 d0 d1
    go_end0
    have qn2 := H2.out
    subst qn2
    have qn8 := H8.out
    subst qn8
    exact ⟨⟨_, rfl⟩, S11.out, F0.out.trans G11.out⟩

end
end Go.Proofs.YtgiejnmphfgmgaaGreatDoor

/- The program's maker of code, kind by kind. -/
namespace Go.Proofs.YtgiejnmphfgmgaaGreatDoor
open Go.RowKit Go.Deep

/-- What the making of a part does. -/
def PutC (B : Nat) (W0 : World) (Mb : Nat) (ve : Value) (es : List Ef) (ns : List Nd) (K F : Nat) : Prop := ∀ (t : Tp) (fv : Value) (kn : Option Addr) (ss : List ByteArray) (s : Cs) (W : World), t.size ≤ F → Stands ns t → BdT t ss → ss.length + 2 * t.size ≤ K → s.out.length + 10 * s.rest + 10 * t.size ≤ 950000 → FormK B W0 t fv → KmE B W0 Mb ve s W → KnAt W kn ss.reverse → Calls Tryz.prog 24 #[.pointer (some ⟨Mb, 0, none⟩), fv, .pointer kn] W (SetP B W0 Mb ve (partZ es F t ss s) W)

theorem shape5 {B : Nat} {w : World} {n : Nd} {us : List Value} {v : Value} (h : Shape B w n us v) (e : n.kind = 5) : us = [] ∧ v = .iface 101 (.agg #[.string n.a]) := by
  cases h <;> first | exact ⟨rfl, rfl⟩ | (exfalso; simp at e; done) | (exfalso; dsimp only at e; omega)

theorem shape6 {B : Nat} {w : World} {n : Nd} {us : List Value} {v : Value} (h : Shape B w n us v) (e : n.kind = 6) : ∃ u, us = [u] ∧ v = .iface 107 (.agg #[.string n.a, u]) := by
  cases h <;> first | exact ⟨_, rfl, rfl⟩ | (exfalso; simp at e; done) | (exfalso; dsimp only at e; omega)

theorem shape8 {B : Nat} {w : World} {n : Nd} {us : List Value} {v : Value} (h : Shape B w n us v) (e : n.kind = 8) : ∃ u x, us = [u, x] ∧ v = .iface 115 (.agg #[.string n.a, u, x]) := by
  cases h <;> first | exact ⟨_, _, rfl, rfl⟩ | (exfalso; simp at e; done) | (exfalso; dsimp only at e; omega)

theorem shape9 {B : Nat} {w : World} {n : Nd} {us : List Value} {v : Value} (h : Shape B w n us v) (e : n.kind = 9) : ∃ u x, us = [u, x] ∧ v = .iface 113 (.agg #[.string n.a, .string n.b, u, x]) := by
  cases h <;> first | exact ⟨_, _, rfl, rfl⟩ | (exfalso; simp at e; done) | (exfalso; dsimp only at e; omega)

theorem shape10 {B : Nat} {w : World} {n : Nd} {us : List Value} {v : Value} (h : Shape B w n us v) (e : n.kind = 10) : ∃ u x y, us = [u, x, y] ∧ v = .iface 117 (.agg #[u, x, y]) := by
  cases h <;> first | exact ⟨_, _, _, rfl, rfl⟩ | (exfalso; simp at e; done) | (exfalso; dsimp only at e; omega)

theorem shape20 {B : Nat} {w : World} {n : Nd} {us : List Value} {v : Value} (h : Shape B w n us v) (e : n.kind = 20) : ∃ u x y, us = [u, x, y] ∧ v = .iface 120 (.agg #[u, x, .string n.a, .string n.b, y]) := by
  cases h <;> first | exact ⟨_, _, _, rfl, rfl⟩ | (exfalso; simp at e; done) | (exfalso; dsimp only at e; omega)

theorem put_len (s : Cs) (i : In) : (s.put i).out.length = s.out.length + 1 := by simp [Cs.put]

section
variable {B : Nat} {W0 : World} {Mb : Nat} {ve : Value} {es : List Ef} {ns : List Nd} {K F : Nat}

set_option maxHeartbeats 2000000 in
set_option maxRecDepth 100000 in
theorem putBound_calls (ih : PutC B W0 Mb ve es ns K F) {t : Tp} {fv : Value} {kn : Option Addr} {ss : List ByteArray} {s : Cs} {W : World} (hF : t.size ≤ F) (hs : Stands ns t) (hb : BdT t ss) (hK : ss.length + 2 * t.size ≤ K) (hB : s.out.length + 10 * s.rest + 10 * t.size + 1 ≤ 950000) (hf : FormK B W0 t fv) (h : KmE B W0 Mb ve s W) (hk : KnAt W kn ss.reverse) :
    Calls Tryz.prog 59 #[.pointer (some ⟨Mb, 0, none⟩), fv, .pointer kn] W (SetP B W0 Mb ve (boundZ (partZ es F) t ss s) W) := by
  obtain ⟨us, hus, hsh⟩ := hf
  obtain ⟨tyv, pv, rfl⟩ := hsh.iface
  have HF := hid (show FormK B W0 t (.iface tyv pv) from ⟨us, hus, hsh⟩)
  have hr := part_r (es := es) (K := K) F t ss (s.put ⟨12, 0, 0, 0⟩) hF hs hK
  have H0 := hid (And.intro hF (And.intro hs (And.intro hb hK)))
  have HB := hid hB
  have HR := hid hr
  have HA := hid (addI_calls ⟨12, 0, 0, 0⟩ h (by omega))
  have HK := hid hk
  have HI := hid ih
  clear hus hsh hF hs hb hK hB h hk hr ih
  go_enter Tryz.func59, Tryz.ntmps59
  go_wp2_with fail
  refine HA.out.mono ?_
  rintro e X1 ⟨rfl, h1, f1⟩
  obtain ⟨m1, hm1⟩ : ∃ m : Int, (s.out.length : Int) = m := ⟨_, rfl⟩
  rw [hm1]
  have S1 := hid h1
  have K1 := hid (KnAt.frame f1 _ _ HK.out)
  have F1 := hid f1
  clear h1 f1 hm1 HA HK
  go_wp2_with fail
  refine (HI.out t _ kn ss _ X1 H0.out.1 H0.out.2.1 H0.out.2.2.1 H0.out.2.2.2 (by have := HB.out; have e1 := put_len s ⟨12, 0, 0, 0⟩; have e2 : (s.put ⟨12, 0, 0, 0⟩).rest = s.rest := rfl; omega) HF.out S1.out K1.out).mono ?_
  rintro e X2 ⟨⟨x2, rfl⟩, h2, f2⟩
  have HA2 := hid (addI_calls ⟨13, 0, 0, 0⟩ h2 (by have g1 := HR.out.cost; have := HB.out; have e1 := put_len s ⟨12, 0, 0, 0⟩; have e2 : (s.put ⟨12, 0, 0, 0⟩).rest = s.rest := rfl; omega))
  have F2 := hid (F1.out.trans f2)
  clear h2 f2 S1 K1 F1
  go_wp2_with fail
  refine HA2.out.mono ?_
  rintro e X3 ⟨rfl, h3, f3⟩
  obtain ⟨m3, hm3⟩ : ∃ m : Int, ((partZ es F t ss (s.put ⟨12, 0, 0, 0⟩)).out.length : Int) = m := ⟨_, rfl⟩
  rw [hm3]
  have S3 := hid (And.intro h3 (F2.out.trans f3))
  clear h3 f3 hm3 HA2
  go_wp2_with fail
  go_end0
  exact ⟨⟨_, rfl⟩, S3.out.1, S3.out.2⟩

set_option maxHeartbeats 2000000 in
set_option maxRecDepth 100000 in
theorem put_5 {t : Tp} {fv : Value} {kn : Option Addr} {ss : List ByteArray} {s : Cs} {W : World} (hk1 : K ≤ 1000) (hb : BdT t ss) (hK : ss.length + 2 * t.size ≤ K) (hB : s.out.length + 10 * s.rest + 10 * t.size ≤ 950000) (hf : FormK B W0 t fv) (h : KmE B W0 Mb ve s W) (hk : KnAt W kn ss.reverse) (ek : t.n.kind = 5) :
    Calls Tryz.prog 24 #[.pointer (some ⟨Mb, 0, none⟩), fv, .pointer kn] W (SetP B W0 Mb ve (partZ es (F + 1) t ss s) W) := by
  rw [part5 ek]
  obtain ⟨us, -, hsh⟩ := hf
  obtain ⟨-, rfl⟩ := shape5 hsh ek
  obtain ⟨N, hN, hlt⟩ := where_idx ss.reverse t.n.a (by rw [List.mem_reverse]; exact hb.1.1 ek)
  have HIx := hid (idx_where hN)
  rw [List.length_reverse] at hlt
  obtain ⟨a, ha⟩ : ∃ a, t.n.a = a := ⟨_, rfl⟩
  rw [ha] at hN HIx ⊢
  have bl := (Below.refl W.heap.size W).alloc (Nat.le_refl _) (.cells #[.string a] 101)
  have HS := hid (h.below bl)
  have Hf := hid (Kf.of_below bl)
  have HK := hid (KnAt.frame (Kf.of_below bl) _ _ hk)
  have HF1 := hid (findK_calls kn ss.reverse a _ HK.out)
  rw [hN] at HF1
  have HF2 := hid (many_known HK.out (by rw [List.length_reverse]; omega))
  rw [List.length_reverse] at HF2
  have HL := hid (show N < ss.length ∧ ss.length ≤ 1000 ∧ s.out.length ≤ 950000 by omega)
  obtain ⟨L, hL⟩ : ∃ L : Int, (ss.length : Int) = L := ⟨_, rfl⟩
  obtain ⟨NI, hNI⟩ : ∃ x : Int, (N : Int) = x := ⟨_, rfl⟩
  rw [hL] at HF2
  have HLe := hid hL
  have HNe := hid hNI
  simp only [Option.getD_some, Option.isSome_some] at HF1
  rw [hNI] at HF1
  clear h hk hsh hb hK hB hN hlt bl ha hL hNI ek
  have t1 := hit_var (.agg #[.string a])
  go_enter Tryz.func24, Tryz.ntmps24
  go_wp2_with fail
  clear t1
  generalize W.alloc (.cells #[.string a] 101) = X at *
  refine HF1.out.mono ?_
  rintro e X1 ⟨rfl, rfl⟩
  go_wp2_with fail
  refine HF2.out.mono ?_
  rintro e X2 ⟨rfl, hb2⟩
  have S2 := hid (HS.out.below hb2)
  have F2 := hid (Hf.out.trans (Kf.of_below hb2))
  clear hb2 HF1 HF2 HK HS Hf
  go_wp2_with fail
  refine (addI_calls ⟨5, wrap64 (wrap64 (L - 1) - NI), 0, 0⟩ S2.out (by have := HL.out; omega)).mono ?_
  rintro e X3 ⟨rfl, h3, f3⟩
  have HE : Hid (wrap64 (wrap64 (L - 1) - NI) = idxZ ss a) := by
    show _ = _
    rw [HIx.out, ← HLe.out, ← HNe.out]
    have := HL.out
    unfold wrap64
    omega
  rw [HE.out] at h3
  have S3 := hid (And.intro h3 (F2.out.trans f3))
  obtain ⟨m1, hm1⟩ : ∃ m : Int, (s.out.length : Int) = m := ⟨_, rfl⟩
  rw [hm1]
  clear h3 f3 HE hm1 S2
  go_wp2_with fail
  go_end0
  exact ⟨⟨_, rfl⟩, S3.out.1, S3.out.2⟩

set_option maxHeartbeats 4000000 in
set_option maxRecDepth 100000 in
theorem put_6 (hk1 : K ≤ 1000) {t : Tp} {fv : Value} {kn : Option Addr} {ss : List ByteArray} {s : Cs} {W : World} (hs : Stands ns t) (hb : BdT t ss) (hK : ss.length + 2 * t.size ≤ K) (hB : s.out.length + 10 * s.rest + 10 * t.size ≤ 950000) (hf : FormK B W0 t fv) (h : KmE B W0 Mb ve s W) (hk : KnAt W kn ss.reverse) (ek : t.n.kind = 6) :
    Calls Tryz.prog 24 #[.pointer (some ⟨Mb, 0, none⟩), fv, .pointer kn] W (SetP B W0 Mb ve (partZ es (F + 1) t ss s) W) := by
  rw [part6 ek]
  obtain ⟨us, hsh, -, hif, hfk⟩ := hf.open
  obtain ⟨u, rfl, rfl⟩ := shape6 hsh ek
  have hc : t.k.count = 1 := count_of hs.toGood ek rfl
  have hsz := (kids1 hc).2
  have f0 := hfk 0 (by omega)
  simp only [List.getD_cons_zero] at f0
  obtain ⟨Tu, pu, rfl⟩ := hif u (by simp)
  have s0 := hs.kid (i := 0) (by omega)
  have b0 := hb.kidN (i := 0) (by omega) (ms := [t.n.a]) (by unfold knownZ; simp [ek])
  obtain ⟨a, ha⟩ : ∃ a, t.n.a = a := ⟨_, rfl⟩
  rw [ha] at b0 ⊢
  have bl := (Below.refl W.heap.size W).alloc (Nat.le_refl _) (.cells #[.string a, .iface Tu pu] 107)
  have hA := (MapKept.heap_alloc W (.cells #[.string a, .iface Tu pu] 107)).1
  obtain ⟨Y, hY⟩ : ∃ Y, W.alloc (.cells #[.string a, .iface Tu pu] 107) = Y := ⟨_, rfl⟩
  rw [hY] at bl hA
  have HY := hid hY
  have HA := hid hA
  have S0 := hid (h.below bl)
  have F0 := hid (Kf.of_below bl)
  have K0 := hid (KnAt.frame (Kf.of_below bl) _ _ hk)
  have HF0 := hid (And.intro f0 b0)
  have HB := hid (show s.out.length + 10 * s.rest + 10 ≤ 950000 ∧ ss.length ≤ 1000 by omega)
  have t1 := miss_var (T := 107) (by decide) (.agg #[.string a, .iface Tu pu])
  have t2 := hit_fn (.agg #[.string a, .iface Tu pu])
  clear hs hb hK hB h hk hsh hif hfk hc hsz s0 b0 f0 bl hA hY ha ek
  go_enter Tryz.func24, Tryz.ntmps24
  go_upto_region 9 with fail
  rw [HY.out]
  clear HY t1 t2
  obtain ⟨b9, hb9⟩ : ∃ b, W.heap.size = b := ⟨_, rfl⟩
  rw [hb9] at HA ⊢
  clear hb9
  have bd : Below Y.heap.size Y Y.drew := (Below.refl _ _).drew
  have HA1 := hid (show Y.drew.heap[b9]? = _ from HA.out)
  have S1 := hid (S0.out.below bd)
  have F1 := hid (F0.out.trans (Kf.of_below bd))
  have K1 := hid (KnAt.frame (Kf.of_below bd) _ _ K0.out)
  clear bd HA S0 F0 K0
  refine pick_begin (S := fun w => w.cell? ⟨b9, 0, none⟩ = some (.string a) ∧ w.cell? ⟨b9, 1, none⟩ = some (.iface Tu pu)) (n := 13) (ls := #[false, false, false, false, false, false, false, false, false, false, false, false, false]) (by kernel_rfl) rfl (by kernel_rfl) ?_
  generalize Y.drew = X1 at *
  have hS : X1.cell? ⟨b9, 0, none⟩ = some (.string a) ∧ X1.cell? ⟨b9, 1, none⟩ = some (.iface Tu pu) := ⟨cell_of_heap HA1.out 0, cell_of_heap HA1.out 1⟩
  refine pick_op (i := 0) (v := .pointer (some ⟨Mb, 0, none⟩)) (by kernel_rfl) rfl (by kernel_rfl) (by kernel_rfl) rfl rfl (fun w' hw => by simp [go_sem]) hS (by simp [go_sem]; exact rfl) ?_
  refine pick_op (i := 1) (v := .pointer (some ⟨b9, 1, none⟩)) (by kernel_rfl) rfl (by kernel_rfl) (by kernel_rfl) rfl rfl (fun w' hw => by simp [go_sem]) hS (by simp [go_sem]; exact rfl) ?_
  refine pick_op (i := 2) (v := .iface Tu pu) (by kernel_rfl) rfl (by kernel_rfl) (by kernel_rfl) rfl rfl (fun w' hw => by simp [go_sem, hw.2]) hS (by simp [go_sem]; exact rfl) ?_
  refine pick_op (i := 3) (v := .pointer kn) (by kernel_rfl) rfl (by kernel_rfl) (by kernel_rfl) rfl rfl (fun w' hw => by simp [go_sem]) hS (by simp [go_sem]; exact rfl) ?_
  refine pick_op (i := 4) (v := .pointer (some ⟨b9, 0, none⟩)) (by kernel_rfl) rfl (by kernel_rfl) (by kernel_rfl) rfl rfl (fun w' hw => by simp [go_sem]) hS (by simp [go_sem]; exact rfl) ?_
  refine pick_op (i := 5) (v := .string a) (by kernel_rfl) rfl (by kernel_rfl) (by kernel_rfl) rfl rfl (fun w' hw => by simp [go_sem, hw.1]) hS (by simp [go_sem]; exact rfl) ?_
  refine pick_op (i := 7) (v := .pointer (some ⟨Mb, 0, none⟩)) (by kernel_rfl) rfl (by kernel_rfl) (by kernel_rfl) rfl rfl (fun w' hw => by simp [go_sem]) hS (by simp [go_sem]; exact rfl) ?_
  refine pick_op (i := 8) (v := .pointer (some ⟨Mb, 0, none⟩)) (by kernel_rfl) rfl (by kernel_rfl) (by kernel_rfl) rfl rfl (fun w' hw => by simp [go_sem]) hS (by simp [go_sem]; exact rfl) ?_
  refine pick_op (i := 9) (v := .agg #[.int .i64 6, .int .i64 0, .int .i64 0, .int .i64 0]) (by kernel_rfl) rfl (by kernel_rfl) (by kernel_rfl) rfl rfl (fun w' hw => by simp [go_sem]) hS (by simp [go_sem]; exact rfl) ?_
  refine pick_enter (i := 6) (f := 57) (args := #[.pointer kn, .string a]) rfl (by kernel_rfl) rfl rfl (by simp [go_sem]) ?_
  refine (knowing_calls a K1.out (by rw [List.length_reverse]; have := HB.out; omega)).mono ?_
  rintro e X2 ⟨p2, rfl, hk2, hb2⟩
  have HA2 := hid ((hb2.block _ (heap_lt HA1.out)).trans HA1.out)
  have S2 := hid (S1.out.below hb2)
  have F2 := hid (F1.out.trans (Kf.of_below hb2))
  have K2 := hid hk2
  clear hk2 hb2 HA1 S1 F1 K1 hS
  have hS : X2.cell? ⟨b9, 0, none⟩ = some (.string a) ∧ X2.cell? ⟨b9, 1, none⟩ = some (.iface Tu pu) := ⟨cell_of_heap HA2.out 0, cell_of_heap HA2.out 1⟩
  refine ⟨_, rfl, hS, ?_⟩
  refine pick_frame (by simp [go_sem]; exact rfl) ?_
  refine pick_enter (i := 10) (f := 26) (args := #[.pointer (some ⟨Mb, 0, none⟩), .agg #[.int .i64 6, .int .i64 0, .int .i64 0, .int .i64 0]]) rfl (by kernel_rfl) rfl rfl (by simp [go_sem]) ?_
  refine (addI_calls ⟨6, 0, 0, 0⟩ S2.out (by have := HB.out; omega)).mono ?_
  rintro e X3 ⟨rfl, h3, f3⟩
  have HA3 := hid (f3.keep HA2.out (by decide) (by decide) (by decide))
  have S3 := hid h3
  have F3 := hid (F2.out.trans f3)
  have K3 := hid (KnAt.frame f3 _ _ K2.out)
  clear h3 f3 HA2 S2 F2 K2 hS
  have hS : X3.cell? ⟨b9, 0, none⟩ = some (.string a) ∧ X3.cell? ⟨b9, 1, none⟩ = some (.iface Tu pu) := ⟨cell_of_heap HA3.out 0, cell_of_heap HA3.out 1⟩
  refine ⟨_, rfl, hS, ?_⟩
  refine pick_frame (by simp [go_sem]; exact rfl) ?_
  refine pick_enter (i := 11) (f := 58) (args := #[.pointer (some ⟨Mb, 0, none⟩), .int .i64 (s.out.length : Int)]) rfl (by kernel_rfl) rfl rfl (by simp [go_sem]) ?_
  refine (leadTo_calls Mb s.out.length X3).mono ?_
  rintro e X4 ⟨tv, rfl, ht4, ⟨ta, tb, rfl⟩, hb4⟩
  have HA4 := hid ((hb4.block _ (heap_lt HA3.out)).trans HA3.out)
  have S4 := hid (S3.out.below hb4)
  have F4 := hid (F3.out.trans (Kf.of_below hb4))
  have K4 := hid (KnAt.frame (Kf.of_below hb4) _ _ K3.out)
  have T4 := hid ht4
  clear ht4 hb4 HA3 S3 F3 K3 hS
  have hS : X4.cell? ⟨b9, 0, none⟩ = some (.string a) ∧ X4.cell? ⟨b9, 1, none⟩ = some (.iface Tu pu) := ⟨cell_of_heap HA4.out 0, cell_of_heap HA4.out 1⟩
  refine ⟨_, rfl, hS, ?_⟩
  refine pick_frame (by simp [go_sem]; exact rfl) ?_
  refine pick_enter (i := 12) (f := 56) (args := #[.pointer (some ⟨Mb, 0, none⟩), .iface Tu pu, .pointer p2, .func (.func 96) #[] #[.pointer (some ⟨ta, 0, none⟩), .pointer (some ⟨tb, 0, none⟩)]]) rfl (by kernel_rfl) rfl rfl (by simp [go_sem]) ?_
  refine (putOff_calls ⟨t.kid 0, ss ++ [a], s.out.length, 0⟩ S4.out (by have := HB.out; have := later_le s; show s.later.length ≤ _; omega) HF0.out.1 HF0.out.2 (by show KnAt X4 p2 (ss ++ [a]).reverse; rw [List.reverse_append]; exact K4.out) T4.out).mono ?_
  rintro e X5 ⟨⟨x5, rfl⟩, h5, f5⟩
  have HA5 := hid (f5.keep HA4.out (by decide) (by decide) (by decide))
  have S5 := hid (And.intro h5 (F4.out.trans f5))
  clear h5 f5 HA4 S4 F4 K4 T4 hS
  have hS : X5.cell? ⟨b9, 0, none⟩ = some (.string a) ∧ X5.cell? ⟨b9, 1, none⟩ = some (.iface Tu pu) := ⟨cell_of_heap HA5.out 0, cell_of_heap HA5.out 1⟩
  refine ⟨_, rfl, hS, ?_⟩
  refine pick_frame (by simp [go_sem]; exact rfl) ?_
  refine pick_end (by kernel_rfl) ?_
  clear hS HA5
  go_wp2_with fail
  go_end0
  exact ⟨⟨_, rfl⟩, S5.out.1, S5.out.2⟩

set_option maxHeartbeats 4000000 in
set_option maxRecDepth 100000 in
theorem put_8 (ih : PutC B W0 Mb ve es ns K F) (hk1 : K ≤ 1000) {t : Tp} {fv : Value} {kn : Option Addr} {ss : List ByteArray} {s : Cs} {W : World} (hF : t.size ≤ F + 1) (hs : Stands ns t) (hb : BdT t ss) (hK : ss.length + 2 * t.size ≤ K) (hB : s.out.length + 10 * s.rest + 10 * t.size ≤ 950000) (hf : FormK B W0 t fv) (h : KmE B W0 Mb ve s W) (hk : KnAt W kn ss.reverse) (ek : t.n.kind = 8) :
    Calls Tryz.prog 24 #[.pointer (some ⟨Mb, 0, none⟩), fv, .pointer kn] W (SetP B W0 Mb ve (partZ es (F + 1) t ss s) W) := by
  rw [part8 ek]
  obtain ⟨us, hsh, -, hif, hfk⟩ := hf.open
  obtain ⟨u, x, rfl, rfl⟩ := shape8 hsh ek
  have hc : t.k.count = 2 := count_of hs.toGood ek rfl
  have hsz := (kids2 hc).2
  have f0 := hfk 0 (by omega)
  have f1 := hfk 1 (by omega)
  simp only [List.getD_cons_zero, List.getD_cons_succ] at f0 f1
  obtain ⟨Tu, pu, rfl⟩ := hif u (by simp)
  have s0 := hs.kid (i := 0) (by omega)
  have b0 := hb.kid0 (i := 0) (by omega) (by unfold knownZ; simp [ek])
  obtain ⟨Tx, px, rfl⟩ := hif x (by simp)
  have s1 := hs.kid (i := 1) (by omega)
  have b1 := hb.kidN (i := 1) (by omega) (ms := [t.n.a]) (by unfold knownZ; simp [ek])
  obtain ⟨a, ha⟩ : ∃ a, t.n.a = a := ⟨_, rfl⟩
  rw [ha] at b1 ⊢
  have bl := (Below.refl W.heap.size W).alloc (Nat.le_refl _) (.cells #[.string a, .iface Tu pu, .iface Tx px] 115)
  have hA := (MapKept.heap_alloc W (.cells #[.string a, .iface Tu pu, .iface Tx px] 115)).1
  obtain ⟨Y, hY⟩ : ∃ Y, W.alloc (.cells #[.string a, .iface Tu pu, .iface Tx px] 115) = Y := ⟨_, rfl⟩
  rw [hY] at bl hA
  have HY := hid hY
  have HA1 := hid hA
  have S1 := hid (h.below bl)
  have F1 := hid (Kf.of_below bl)
  have KA1 := hid (KnAt.frame (Kf.of_below bl) _ _ hk)
  have t1 := miss_var (T := 115) (by decide) (.agg #[.string a, .iface Tu pu, .iface Tx px])
  have t2 := miss_fn (T := 115) (by decide) (.agg #[.string a, .iface Tu pu, .iface Tx px])
  have t3 := miss_rec (T := 115) (by decide) (.agg #[.string a, .iface Tu pu, .iface Tx px])
  have t4 := hit_let (.agg #[.string a, .iface Tu pu, .iface Tx px])
  have G0 := hid (And.intro f0 (And.intro s0 b0))
  have G1 := hid (And.intro f1 (And.intro s1 b1))
  have HB := hid (show s.out.length + 10 * s.rest + 10 * (t.kid 0).size + 10 * (t.kid 1).size + 10 ≤ 950000 ∧ ss.length + 2 * (t.kid 0).size ≤ K ∧ ss.length + 1 + 2 * (t.kid 1).size ≤ K ∧ (t.kid 0).size ≤ F ∧ (t.kid 1).size ≤ F ∧ K ≤ 1000 by omega)
  have HI := hid ih
  clear hF hs hb hK hB h hk hsh hif hfk hc hsz s0 b0 f0 s1 b1 f1 bl hA hY ha ek ih
  go_enter Tryz.func24, Tryz.ntmps24
  go_upto_region 17 with fail
  rw [HY.out]
  clear HY t1 t2 t3 t4
  obtain ⟨b9, hb9⟩ : ∃ b, W.heap.size = b := ⟨_, rfl⟩
  rw [hb9] at HA1 ⊢
  clear hb9
  have c1 := cell_of_heap HA1.out 1
  simp at c1
  go_wp2_with fail
  clear c1
  refine (HI.out (t.kid 0) _ kn ss s Y HB.out.2.2.2.1 G0.out.2.1 G0.out.2.2 HB.out.2.1 (by have := HB.out; omega) G0.out.1 S1.out KA1.out).mono ?_
  rintro e X2 ⟨⟨x2, rfl⟩, hst, fr⟩
  have HA2 := hid (fr.keep HA1.out (by decide) (by decide) (by decide))
  have S2 := hid hst
  have F2 := hid (F1.out.trans fr)
  have KA2 := hid (KnAt.frame fr _ _ KA1.out)
  clear HA1 S1 F1 KA1
  clear hst fr
  have HR := hid (part_r (es := es) (K := K) F (t.kid 0) ss s HB.out.2.2.2.1 G0.out.2.1 HB.out.2.1)
  obtain ⟨s2, hs2⟩ : ∃ s2, partZ es F (t.kid 0) ss s = s2 := ⟨_, rfl⟩
  rw [hs2] at S2 HR
  have HS2 := hid hs2
  clear hs2
  go_upto_region 18 with fail
  have hb : Below X2.heap.size X2 X2.drew := (Below.refl _ _).drew
  have HA3 := hid ((hb.block _ (heap_lt HA2.out)).trans HA2.out)
  have S3 := hid (S2.out.below hb)
  have F3 := hid (F2.out.trans (Kf.of_below hb))
  have KA3 := hid (KnAt.frame (Kf.of_below hb) _ _ KA2.out)
  clear HA2 S2 F2 KA2
  clear hb
  refine pick_begin (S := fun w => w.cell? ⟨b9, 0, none⟩ = some (.string a) ∧ w.cell? ⟨b9, 2, none⟩ = some (.iface Tx px)) (n := 8) (ls := #[false, false, false, false, false, false, false, false]) (by kernel_rfl) rfl (by kernel_rfl) ?_
  generalize X2.drew = X3 at *
  have hS : X3.cell? ⟨b9, 0, none⟩ = some (.string a) ∧ X3.cell? ⟨b9, 2, none⟩ = some (.iface Tx px) := ⟨cell_of_heap HA3.out 0, cell_of_heap HA3.out 2⟩
  refine pick_op (i := 0) (v := .pointer (some ⟨Mb, 0, none⟩)) (by kernel_rfl) rfl (by kernel_rfl) (by kernel_rfl) rfl rfl (fun w' hw => by simp [go_sem]) hS (by simp [go_sem]; exact rfl) ?_
  refine pick_op (i := 1) (v := .pointer (some ⟨b9, 2, none⟩)) (by kernel_rfl) rfl (by kernel_rfl) (by kernel_rfl) rfl rfl (fun w' hw => by simp [go_sem]) hS (by simp [go_sem]; exact rfl) ?_
  refine pick_op (i := 2) (v := .iface Tx px) (by kernel_rfl) rfl (by kernel_rfl) (by kernel_rfl) rfl rfl (fun w' hw => by simp [go_sem, hw.2]) hS (by simp [go_sem]; exact rfl) ?_
  refine pick_op (i := 3) (v := .pointer kn) (by kernel_rfl) rfl (by kernel_rfl) (by kernel_rfl) rfl rfl (fun w' hw => by simp [go_sem]) hS (by simp [go_sem]; exact rfl) ?_
  refine pick_op (i := 4) (v := .pointer (some ⟨b9, 0, none⟩)) (by kernel_rfl) rfl (by kernel_rfl) (by kernel_rfl) rfl rfl (fun w' hw => by simp [go_sem]) hS (by simp [go_sem]; exact rfl) ?_
  refine pick_op (i := 5) (v := .string a) (by kernel_rfl) rfl (by kernel_rfl) (by kernel_rfl) rfl rfl (fun w' hw => by simp [go_sem, hw.1]) hS (by simp [go_sem]; exact rfl) ?_
  refine pick_enter (i := 6) (f := 57) (args := #[.pointer kn, .string a]) rfl (by kernel_rfl) rfl rfl (by simp [go_sem]) ?_
  refine (knowing_calls a KA3.out (by rw [List.length_reverse]; have := HB.out; omega)).mono ?_
  rintro e X4 ⟨p2, rfl, hk2, hb⟩
  have HA4 := hid ((hb.block _ (heap_lt HA3.out)).trans HA3.out)
  have S4 := hid (S3.out.below hb)
  have F4 := hid (F3.out.trans (Kf.of_below hb))
  have KA4 := hid (KnAt.frame (Kf.of_below hb) _ _ KA3.out)
  clear HA3 S3 F3 KA3
  have KB4 := hid hk2
  clear hb hk2
  clear hS
  have hS : X4.cell? ⟨b9, 0, none⟩ = some (.string a) ∧ X4.cell? ⟨b9, 2, none⟩ = some (.iface Tx px) := ⟨cell_of_heap HA4.out 0, cell_of_heap HA4.out 2⟩
  refine ⟨_, rfl, hS, ?_⟩
  refine pick_frame (by simp [go_sem]; exact rfl) ?_
  refine pick_enter (i := 7) (f := 59) (args := #[.pointer (some ⟨Mb, 0, none⟩), .iface Tx px, .pointer p2]) rfl (by kernel_rfl) rfl rfl (by simp [go_sem]) ?_
  refine (putBound_calls (ss := ss ++ [a]) HI.out HB.out.2.2.2.2.1 G1.out.2.1 G1.out.2.2 (by rw [List.length_append]; exact HB.out.2.2.1) (by have := HB.out; have := HR.out.cost; omega) G1.out.1 S4.out (by rw [List.reverse_append]; exact KB4.out)).mono ?_
  rintro e X5 ⟨⟨x5, rfl⟩, hst, fr⟩
  have HA5 := hid (fr.keep HA4.out (by decide) (by decide) (by decide))
  have S5 := hid hst
  have F5 := hid (F4.out.trans fr)
  have KA5 := hid (KnAt.frame fr _ _ KA4.out)
  clear HA4 S4 F4 KA4
  clear hst fr
  clear hS
  have hS : X5.cell? ⟨b9, 0, none⟩ = some (.string a) ∧ X5.cell? ⟨b9, 2, none⟩ = some (.iface Tx px) := ⟨cell_of_heap HA5.out 0, cell_of_heap HA5.out 2⟩
  refine ⟨_, rfl, hS, ?_⟩
  refine pick_frame (by simp [go_sem]; exact rfl) ?_
  refine pick_end (by kernel_rfl) ?_
  clear hS
  go_wp2_with fail
  go_end0
  exact ⟨⟨_, rfl⟩, by rw [HS2.out]; exact S5.out, F5.out⟩

set_option maxHeartbeats 4000000 in
set_option maxRecDepth 100000 in
theorem put_9 (ih : PutC B W0 Mb ve es ns K F) (hk1 : K ≤ 1000) {t : Tp} {fv : Value} {kn : Option Addr} {ss : List ByteArray} {s : Cs} {W : World} (hF : t.size ≤ F + 1) (hs : Stands ns t) (hb : BdT t ss) (hK : ss.length + 2 * t.size ≤ K) (hB : s.out.length + 10 * s.rest + 10 * t.size ≤ 950000) (hf : FormK B W0 t fv) (h : KmE B W0 Mb ve s W) (hk : KnAt W kn ss.reverse) (ek : t.n.kind = 9) :
    Calls Tryz.prog 24 #[.pointer (some ⟨Mb, 0, none⟩), fv, .pointer kn] W (SetP B W0 Mb ve (partZ es (F + 1) t ss s) W) := by
  rw [part9 ek]
  obtain ⟨us, hsh, -, hif, hfk⟩ := hf.open
  obtain ⟨u, x, rfl, rfl⟩ := shape9 hsh ek
  have hc : t.k.count = 2 := count_of hs.toGood ek rfl
  have hsz := (kids2 hc).2
  have f0 := hfk 0 (by omega)
  have f1 := hfk 1 (by omega)
  simp only [List.getD_cons_zero, List.getD_cons_succ] at f0 f1
  obtain ⟨Tu, pu, rfl⟩ := hif u (by simp)
  have s0 := hs.kid (i := 0) (by omega)
  have b0 := hb.kidN (i := 0) (by omega) (ms := [t.n.a, t.n.b]) (by unfold knownZ; simp [ek])
  obtain ⟨Tx, px, rfl⟩ := hif x (by simp)
  have s1 := hs.kid (i := 1) (by omega)
  have b1 := hb.kidN (i := 1) (by omega) (ms := [t.n.a]) (by unfold knownZ; simp [ek])
  obtain ⟨a, ha⟩ : ∃ a, t.n.a = a := ⟨_, rfl⟩
  obtain ⟨c, hc'⟩ : ∃ c, t.n.b = c := ⟨_, rfl⟩
  rw [ha] at b0 b1 ⊢
  rw [hc'] at b0 ⊢
  have bl := (Below.refl W.heap.size W).alloc (Nat.le_refl _) (.cells #[.string a, .string c, .iface Tu pu, .iface Tx px] 113)
  have hA := (MapKept.heap_alloc W (.cells #[.string a, .string c, .iface Tu pu, .iface Tx px] 113)).1
  obtain ⟨Y, hY⟩ : ∃ Y, W.alloc (.cells #[.string a, .string c, .iface Tu pu, .iface Tx px] 113) = Y := ⟨_, rfl⟩
  rw [hY] at bl hA
  have HY := hid hY
  have HA1 := hid hA
  have S1 := hid (h.below bl)
  have F1 := hid (Kf.of_below bl)
  have KA1 := hid (KnAt.frame (Kf.of_below bl) _ _ hk)
  have t1 := miss_var (T := 113) (by decide) (.agg #[.string a, .string c, .iface Tu pu, .iface Tx px])
  have t2 := miss_fn (T := 113) (by decide) (.agg #[.string a, .string c, .iface Tu pu, .iface Tx px])
  have t3 := hit_rec (.agg #[.string a, .string c, .iface Tu pu, .iface Tx px])
  have G0 := hid (And.intro f0 (And.intro s0 b0))
  have G1 := hid (And.intro f1 (And.intro s1 b1))
  have HB := hid (show s.out.length + 10 * s.rest + 10 * (t.kid 0).size + 10 * (t.kid 1).size + 10 ≤ 950000 ∧ ss.length + 2 ≤ 1000 ∧ ss.length + 1 + 2 * (t.kid 1).size ≤ K ∧ (t.kid 0).size ≤ F ∧ (t.kid 1).size ≤ F ∧ K ≤ 1000 by have := (t.kid 0).size_pos; omega)
  have HI := hid ih
  clear hF hs hb hK hB h hk hsh hif hfk hc hsz s0 b0 f0 s1 b1 f1 bl hA hY ha hc' ek ih
  go_enter Tryz.func24, Tryz.ntmps24
  go_upto_region 12 with fail
  rw [HY.out]
  clear HY t1 t2 t3
  obtain ⟨b9, hb9⟩ : ∃ b, W.heap.size = b := ⟨_, rfl⟩
  rw [hb9] at HA1 ⊢
  clear hb9
  have c0 := cell_of_heap HA1.out 0
  simp at c0
  go_wp2_with fail
  clear c0
  refine (knowing_calls a KA1.out (by rw [List.length_reverse]; have := HB.out; omega)).mono ?_
  rintro e X2 ⟨p2, rfl, hk2, hb⟩
  have HA2 := hid ((hb.block _ (heap_lt HA1.out)).trans HA1.out)
  have S2 := hid (S1.out.below hb)
  have F2 := hid (F1.out.trans (Kf.of_below hb))
  have KA2 := hid (KnAt.frame (Kf.of_below hb) _ _ KA1.out)
  clear HA1 S1 F1 KA1
  have KB2 := hid hk2
  clear hb hk2
  go_upto_region 13 with fail
  have hb : Below X2.heap.size X2 X2.drew := (Below.refl _ _).drew
  have HA3 := hid ((hb.block _ (heap_lt HA2.out)).trans HA2.out)
  have S3 := hid (S2.out.below hb)
  have F3 := hid (F2.out.trans (Kf.of_below hb))
  have KA3 := hid (KnAt.frame (Kf.of_below hb) _ _ KA2.out)
  have KB3 := hid (KnAt.frame (Kf.of_below hb) _ _ KB2.out)
  clear HA2 S2 F2 KA2 KB2
  clear hb
  refine pick_begin (S := fun w => w.cell? ⟨b9, 1, none⟩ = some (.string c) ∧ w.cell? ⟨b9, 2, none⟩ = some (.iface Tu pu)) (n := 13) (ls := #[false, false, false, false, false, false, false, false, false, false, false, false, false]) (by kernel_rfl) rfl (by kernel_rfl) ?_
  generalize X2.drew = X3 at *
  have hS : X3.cell? ⟨b9, 1, none⟩ = some (.string c) ∧ X3.cell? ⟨b9, 2, none⟩ = some (.iface Tu pu) := ⟨cell_of_heap HA3.out 1, cell_of_heap HA3.out 2⟩
  refine pick_op (i := 0) (v := .pointer (some ⟨Mb, 0, none⟩)) (by kernel_rfl) rfl (by kernel_rfl) (by kernel_rfl) rfl rfl (fun w' hw => by simp [go_sem]) hS (by simp [go_sem]; exact rfl) ?_
  refine pick_op (i := 1) (v := .pointer (some ⟨b9, 2, none⟩)) (by kernel_rfl) rfl (by kernel_rfl) (by kernel_rfl) rfl rfl (fun w' hw => by simp [go_sem]) hS (by simp [go_sem]; exact rfl) ?_
  refine pick_op (i := 2) (v := .iface Tu pu) (by kernel_rfl) rfl (by kernel_rfl) (by kernel_rfl) rfl rfl (fun w' hw => by simp [go_sem, hw.2]) hS (by simp [go_sem]; exact rfl) ?_
  refine pick_op (i := 3) (v := .pointer p2) (by kernel_rfl) rfl (by kernel_rfl) (by kernel_rfl) rfl rfl (fun w' hw => by simp [go_sem]) hS (by simp [go_sem]; exact rfl) ?_
  refine pick_op (i := 4) (v := .pointer (some ⟨b9, 1, none⟩)) (by kernel_rfl) rfl (by kernel_rfl) (by kernel_rfl) rfl rfl (fun w' hw => by simp [go_sem]) hS (by simp [go_sem]; exact rfl) ?_
  refine pick_op (i := 5) (v := .string c) (by kernel_rfl) rfl (by kernel_rfl) (by kernel_rfl) rfl rfl (fun w' hw => by simp [go_sem, hw.1]) hS (by simp [go_sem]; exact rfl) ?_
  refine pick_op (i := 7) (v := .pointer (some ⟨Mb, 0, none⟩)) (by kernel_rfl) rfl (by kernel_rfl) (by kernel_rfl) rfl rfl (fun w' hw => by simp [go_sem]) hS (by simp [go_sem]; exact rfl) ?_
  refine pick_op (i := 8) (v := .pointer (some ⟨Mb, 0, none⟩)) (by kernel_rfl) rfl (by kernel_rfl) (by kernel_rfl) rfl rfl (fun w' hw => by simp [go_sem]) hS (by simp [go_sem]; exact rfl) ?_
  refine pick_op (i := 9) (v := .agg #[.int .i64 7, .int .i64 0, .int .i64 0, .int .i64 0]) (by kernel_rfl) rfl (by kernel_rfl) (by kernel_rfl) rfl rfl (fun w' hw => by simp [go_sem]) hS (by simp [go_sem]; exact rfl) ?_
  refine pick_enter (i := 6) (f := 57) (args := #[.pointer p2, .string c]) rfl (by kernel_rfl) rfl rfl (by simp [go_sem]) ?_
  refine (knowing_calls c KB3.out (by rw [List.length_cons, List.length_reverse]; have := HB.out; omega)).mono ?_
  rintro e X4 ⟨p3, rfl, hk2, hb⟩
  have HA4 := hid ((hb.block _ (heap_lt HA3.out)).trans HA3.out)
  have S4 := hid (S3.out.below hb)
  have F4 := hid (F3.out.trans (Kf.of_below hb))
  have KA4 := hid (KnAt.frame (Kf.of_below hb) _ _ KA3.out)
  have KB4 := hid (KnAt.frame (Kf.of_below hb) _ _ KB3.out)
  clear HA3 S3 F3 KA3 KB3
  have KC4 := hid hk2
  clear hb hk2
  clear hS
  have hS : X4.cell? ⟨b9, 1, none⟩ = some (.string c) ∧ X4.cell? ⟨b9, 2, none⟩ = some (.iface Tu pu) := ⟨cell_of_heap HA4.out 1, cell_of_heap HA4.out 2⟩
  refine ⟨_, rfl, hS, ?_⟩
  refine pick_frame (by simp [go_sem]; exact rfl) ?_
  refine pick_enter (i := 10) (f := 26) (args := #[.pointer (some ⟨Mb, 0, none⟩), .agg #[.int .i64 7, .int .i64 0, .int .i64 0, .int .i64 0]]) rfl (by kernel_rfl) rfl rfl (by simp [go_sem]) ?_
  refine (addI_calls ⟨7, 0, 0, 0⟩ S4.out (by have := HB.out; omega)).mono ?_
  rintro e X5 ⟨rfl, hst, fr⟩
  have HA5 := hid (fr.keep HA4.out (by decide) (by decide) (by decide))
  have S5 := hid hst
  have F5 := hid (F4.out.trans fr)
  have KA5 := hid (KnAt.frame fr _ _ KA4.out)
  have KB5 := hid (KnAt.frame fr _ _ KB4.out)
  have KC5 := hid (KnAt.frame fr _ _ KC4.out)
  clear HA4 S4 F4 KA4 KB4 KC4
  clear hst fr
  clear hS
  have hS : X5.cell? ⟨b9, 1, none⟩ = some (.string c) ∧ X5.cell? ⟨b9, 2, none⟩ = some (.iface Tu pu) := ⟨cell_of_heap HA5.out 1, cell_of_heap HA5.out 2⟩
  refine ⟨_, rfl, hS, ?_⟩
  refine pick_frame (by simp [go_sem]; exact rfl) ?_
  refine pick_enter (i := 11) (f := 58) (args := #[.pointer (some ⟨Mb, 0, none⟩), .int .i64 (s.out.length : Int)]) rfl (by kernel_rfl) rfl rfl (by simp [go_sem]) ?_
  refine (leadTo_calls Mb s.out.length X5).mono ?_
  rintro e X6 ⟨tv, rfl, ht, ⟨ta, tb, rfl⟩, hb⟩
  have HA6 := hid ((hb.block _ (heap_lt HA5.out)).trans HA5.out)
  have S6 := hid (S5.out.below hb)
  have F6 := hid (F5.out.trans (Kf.of_below hb))
  have KA6 := hid (KnAt.frame (Kf.of_below hb) _ _ KA5.out)
  have KB6 := hid (KnAt.frame (Kf.of_below hb) _ _ KB5.out)
  have KC6 := hid (KnAt.frame (Kf.of_below hb) _ _ KC5.out)
  clear HA5 S5 F5 KA5 KB5 KC5
  have TT6 := hid ht
  clear hb ht
  clear hS
  have hS : X6.cell? ⟨b9, 1, none⟩ = some (.string c) ∧ X6.cell? ⟨b9, 2, none⟩ = some (.iface Tu pu) := ⟨cell_of_heap HA6.out 1, cell_of_heap HA6.out 2⟩
  refine ⟨_, rfl, hS, ?_⟩
  refine pick_frame (by simp [go_sem]; exact rfl) ?_
  refine pick_enter (i := 12) (f := 56) (args := #[.pointer (some ⟨Mb, 0, none⟩), .iface Tu pu, .pointer p3, .func (.func 96) #[] #[.pointer (some ⟨ta, 0, none⟩), .pointer (some ⟨tb, 0, none⟩)]]) rfl (by kernel_rfl) rfl rfl (by simp [go_sem]) ?_
  refine (putOff_calls ⟨t.kid 0, ss ++ [a, c], s.out.length, 0⟩ S6.out (by have := HB.out; have := later_le s; show s.later.length ≤ _; omega) G0.out.1 G0.out.2.2 (by show KnAt X6 p3 (ss ++ [a, c]).reverse; rw [List.reverse_append]; exact KC6.out) TT6.out).mono ?_
  rintro e X7 ⟨⟨x7, rfl⟩, hst, fr⟩
  have HA7 := hid (fr.keep HA6.out (by decide) (by decide) (by decide))
  have S7 := hid hst
  have F7 := hid (F6.out.trans fr)
  have KA7 := hid (KnAt.frame fr _ _ KA6.out)
  have KB7 := hid (KnAt.frame fr _ _ KB6.out)
  have KC7 := hid (KnAt.frame fr _ _ KC6.out)
  have TT7 := hid (TT6.out.frame fr)
  clear HA6 S6 F6 KA6 KB6 KC6 TT6
  clear hst fr
  clear hS
  have hS : X7.cell? ⟨b9, 1, none⟩ = some (.string c) ∧ X7.cell? ⟨b9, 2, none⟩ = some (.iface Tu pu) := ⟨cell_of_heap HA7.out 1, cell_of_heap HA7.out 2⟩
  refine ⟨_, rfl, hS, ?_⟩
  refine pick_frame (by simp [go_sem]; exact rfl) ?_
  refine pick_end (by kernel_rfl) ?_
  clear hS
  have c3 := cell_of_heap HA7.out 3
  simp at c3
  have HC : Hid (((s.put ⟨7, 0, 0, 0⟩).wait ⟨t.kid 0, ss ++ [a, c], s.out.length, 0⟩).out.length + 10 * ((s.put ⟨7, 0, 0, 0⟩).wait ⟨t.kid 0, ss ++ [a, c], s.out.length, 0⟩).rest ≤ s.out.length + 10 * s.rest + 10 * (t.kid 0).size + 1) := by
    show (s.put ⟨7, 0, 0, 0⟩).out.length + 10 * _ ≤ _
    rw [put_len]
    have e : ((s.put ⟨7, 0, 0, 0⟩).wait ⟨t.kid 0, ss ++ [a, c], s.out.length, 0⟩).rest = s.rest + (t.kid 0).size := by simp [Cs.wait, Cs.put, Cs.rest]
    rw [e]
    omega
  obtain ⟨s2, hs2⟩ : ∃ s2, (s.put ⟨7, 0, 0, 0⟩).wait ⟨t.kid 0, ss ++ [a, c], s.out.length, 0⟩ = s2 := ⟨_, rfl⟩
  rw [hs2] at S7 HC
  have HS2 := hid hs2
  clear hs2
  go_wp2_with fail
  clear c3
  refine (putBound_calls (ss := ss ++ [a]) HI.out HB.out.2.2.2.2.1 G1.out.2.1 G1.out.2.2 (by rw [List.length_append]; exact HB.out.2.2.1) (by have := HB.out; have := HC.out; omega) G1.out.1 S7.out (by rw [List.reverse_append]; exact KB7.out)).mono ?_
  rintro e X8 ⟨⟨x8, rfl⟩, hst, fr⟩
  have HA8 := hid (fr.keep HA7.out (by decide) (by decide) (by decide))
  have S8 := hid hst
  have F8 := hid (F7.out.trans fr)
  have KA8 := hid (KnAt.frame fr _ _ KA7.out)
  have KB8 := hid (KnAt.frame fr _ _ KB7.out)
  have KC8 := hid (KnAt.frame fr _ _ KC7.out)
  have TT8 := hid (TT7.out.frame fr)
  clear HA7 S7 F7 KA7 KB7 KC7 TT7
  clear hst fr
  go_wp2_with fail
  go_end0
  exact ⟨⟨_, rfl⟩, by rw [HS2.out]; exact S8.out, F8.out⟩

end
end Go.Proofs.YtgiejnmphfgmgaaGreatDoor

/- The program's maker of code: if and case. -/
namespace Go.Proofs.YtgiejnmphfgmgaaGreatDoor
open Go.RowKit Go.Deep

theorem tell_run {B : Nat} {W0 : World} {Mb : Nat} {ve : Value} {s : Cs} {fr ta tb : Nat} (v : Int) {W : World} (ht : TellK W Mb fr 0 (.func (.func 96) #[] #[.pointer (some ⟨ta, 0, none⟩), .pointer (some ⟨tb, 0, none⟩)])) (h : KmE B W0 Mb ve s W) (hfr : fr < s.out.length) : Calls Tryz.prog 96 #[.int .i64 v, .pointer (some ⟨ta, 0, none⟩), .pointer (some ⟨tb, 0, none⟩)] W (SetP B W0 Mb ve (s.setAt fr 0 v) W) := by
  obtain ⟨q2, q3, f, e, h1, h2, -⟩ := ht
  cases e
  exact tellA_calls v h h1 h2 hfr

theorem km_len {B : Nat} {W0 : World} {Mb : Nat} {ve : Value} {s : Cs} {W : World} (h : KmE B W0 Mb ve s W) : ∃ ad cp, W.cell? ⟨Mb, 1, none⟩ = some (.slice ad s.out.length cp) := by
  obtain ⟨ls, vo, vl, h⟩ := h
  obtain ⟨ad, cp, rfl⟩ := own_slice h.orow
  exact ⟨ad, cp, cell_of_heap h.blk 1⟩

theorem set_len (s : Cs) (fr wh : Nat) (v : Int) : (s.setAt fr wh v).out.length = s.out.length := by simp [Cs.setAt]
theorem set_rest (s : Cs) (fr wh : Nat) (v : Int) : (s.setAt fr wh v).rest = s.rest := rfl
theorem put_rest (s : Cs) (i : In) : (s.put i).rest = s.rest := rfl

section
variable {B : Nat} {W0 : World} {Mb : Nat} {ve : Value} {es : List Ef} {ns : List Nd} {K F : Nat}

set_option maxHeartbeats 8000000 in
set_option maxRecDepth 100000 in
theorem putIf_calls (ih : PutC B W0 Mb ve es ns K F) (hk1 : K ≤ 1000) {t : Tp} {Tu Tx Ty : TypeId} {pu px py : Value} {kn : Option Addr} {ss : List ByteArray} {s : Cs} {W : World} (hz : (t.kid 0).size + (t.kid 1).size + (t.kid 2).size + 1 = t.size) (hF : t.size ≤ F + 1) (s0 : Stands ns (t.kid 0)) (s1 : Stands ns (t.kid 1)) (s2 : Stands ns (t.kid 2)) (b0 : BdT (t.kid 0) ss) (b1 : BdT (t.kid 1) ss) (b2 : BdT (t.kid 2) ss) (hK : ss.length + 2 * t.size ≤ K) (hB : s.out.length + 10 * s.rest + 10 * t.size ≤ 950000) (f0 : FormK B W0 (t.kid 0) (.iface Tu pu)) (f1 : FormK B W0 (t.kid 1) (.iface Tx px)) (f2 : FormK B W0 (t.kid 2) (.iface Ty py)) (h : KmE B W0 Mb ve s W) (hk : KnAt W kn ss.reverse) :
    Calls Tryz.prog 60 #[.pointer (some ⟨Mb, 0, none⟩), .agg #[.iface Tu pu, .iface Tx px, .iface Ty py], .pointer kn] W (SetP B W0 Mb ve (ifZ (partZ es F) t ss s) W) := by
  have bl := (Below.refl W.heap.size W).alloc (Nat.le_refl _) (.cells #[.iface Tu pu, .iface Tx px, .iface Ty py] 117)
  have hA := (MapKept.heap_alloc W (.cells #[.iface Tu pu, .iface Tx px, .iface Ty py] 117)).1
  obtain ⟨Y, hY⟩ : ∃ Y, W.alloc (.cells #[.iface Tu pu, .iface Tx px, .iface Ty py] 117) = Y := ⟨_, rfl⟩
  rw [hY] at bl hA
  have HY := hid hY
  have HA1 := hid hA
  have S1 := hid (h.below bl)
  have F1 := hid (Kf.of_below bl)
  have KA1 := hid (KnAt.frame (Kf.of_below bl) _ _ hk)
  have G0 := hid (And.intro f0 (And.intro s0 b0))
  have G1 := hid (And.intro f1 (And.intro s1 b1))
  have G2 := hid (And.intro f2 (And.intro s2 b2))
  have HB := hid (show s.out.length + 10 * s.rest + 10 * (t.kid 0).size + 10 * (t.kid 1).size + 10 * (t.kid 2).size + 10 ≤ 950000 ∧ (t.kid 0).size ≤ F ∧ (t.kid 1).size ≤ F ∧ (t.kid 2).size ≤ F ∧ K ≤ 1000 ∧ ss.length + 2 * (t.kid 0).size ≤ K ∧ ss.length + 2 * (t.kid 1).size ≤ K ∧ ss.length + 2 * (t.kid 2).size ≤ K by omega)
  have HI := hid ih
  clear hF hK hB h hk s0 b0 f0 s1 b1 f1 s2 b2 f2 bl hA hY ih hz hk1
  go_enter Tryz.func60, Tryz.ntmps60
  go_upto_region 1 with fail
  rw [HY.out]
  clear HY
  obtain ⟨b9, hb9⟩ : ∃ b, W.heap.size = b := ⟨_, rfl⟩
  rw [hb9] at HA1 ⊢
  clear hb9
  have c := cell_of_heap HA1.out 0
  simp at c
  go_wp2_with fail
  clear c
  refine (HI.out (t.kid 0) _ kn ss _ _ HB.out.2.1 G0.out.2.1 G0.out.2.2 HB.out.2.2.2.2.2.1 (by skip; have := HB.out; omega) G0.out.1 S1.out KA1.out).mono ?_
  rintro e X2 ⟨⟨xp, rfl⟩, hst, fr⟩
  have HA2 := hid (fr.keep HA1.out (by decide) (by decide) (by decide))
  have S2 := hid hst
  have F2 := hid (F1.out.trans fr)
  have KA2 := hid (KnAt.frame fr _ _ KA1.out)
  clear HA1 S1 F1 KA1
  clear hst fr
  have R0 := hid (part_r (es := es) (K := K) F (t.kid 0) ss s HB.out.2.1 G0.out.2.1 HB.out.2.2.2.2.2.1)
  obtain ⟨r1, hr1⟩ : ∃ x, partZ es F (t.kid 0) ss s = x := ⟨_, rfl⟩
  rw [hr1] at S2 R0
  have Er1 := hid hr1
  clear hr1
  go_wp2_with fail
  refine (addI_calls ⟨10, 0, 0, 0⟩ S2.out (by have := R0.out.cost; have := HB.out; omega)).mono ?_
  rintro e X3 ⟨rfl, hst, fr⟩
  have HA3 := hid (fr.keep HA2.out (by decide) (by decide) (by decide))
  have S3 := hid hst
  have F3 := hid (F2.out.trans fr)
  have KA3 := hid (KnAt.frame fr _ _ KA2.out)
  clear HA2 S2 F2 KA2
  clear hst fr
  go_wp2_with fail
  refine (leadTo_calls Mb r1.out.length X3).mono ?_
  rintro e X4 ⟨tv, rfl, ht, ⟨ta, tb, rfl⟩, hb⟩
  have HA4 := hid ((hb.block _ (heap_lt HA3.out)).trans HA3.out)
  have S4 := hid (S3.out.below hb)
  have F4 := hid (F3.out.trans (Kf.of_below hb))
  have KA4 := hid (KnAt.frame (Kf.of_below hb) _ _ KA3.out)
  clear HA3 S3 F3 KA3
  have TA4 := hid ht
  clear hb ht
  have c := cell_of_heap HA4.out 1
  simp at c
  go_wp2_with fail
  clear c
  refine (HI.out (t.kid 1) _ kn ss _ _ HB.out.2.2.1 G1.out.2.1 G1.out.2.2 HB.out.2.2.2.2.2.2.1 (by have := R0.out.cost; have := put_len r1 ⟨10, 0, 0, 0⟩; have := put_rest r1 ⟨10, 0, 0, 0⟩; have := HB.out; omega) G1.out.1 S4.out KA4.out).mono ?_
  rintro e X5 ⟨⟨xp, rfl⟩, hst, fr⟩
  have HA5 := hid (fr.keep HA4.out (by decide) (by decide) (by decide))
  have S5 := hid hst
  have F5 := hid (F4.out.trans fr)
  have KA5 := hid (KnAt.frame fr _ _ KA4.out)
  have TA5 := hid (TA4.out.frame fr)
  clear HA4 S4 F4 KA4 TA4
  clear hst fr
  have R1 := hid (part_r (es := es) (K := K) F (t.kid 1) ss (r1.put ⟨10, 0, 0, 0⟩) HB.out.2.2.1 G1.out.2.1 HB.out.2.2.2.2.2.2.1)
  obtain ⟨r2, hr2⟩ : ∃ x, partZ es F (t.kid 1) ss (r1.put ⟨10, 0, 0, 0⟩) = x := ⟨_, rfl⟩
  rw [hr2] at S5 R1
  have Er2 := hid hr2
  clear hr2
  go_wp2_with fail
  refine (addI_calls ⟨11, 0, 0, 0⟩ S5.out (by have := R0.out.cost; have := put_len r1 ⟨10, 0, 0, 0⟩; have := put_rest r1 ⟨10, 0, 0, 0⟩; have := R1.out.cost; have := HB.out; omega)).mono ?_
  rintro e X6 ⟨rfl, hst, fr⟩
  have HA6 := hid (fr.keep HA5.out (by decide) (by decide) (by decide))
  have S6 := hid hst
  have F6 := hid (F5.out.trans fr)
  have KA6 := hid (KnAt.frame fr _ _ KA5.out)
  have TA6 := hid (TA5.out.frame fr)
  clear HA5 S5 F5 KA5 TA5
  clear hst fr
  go_wp2_with fail
  refine (leadTo_calls Mb r2.out.length X6).mono ?_
  rintro e X7 ⟨tv2, rfl, ht, ⟨tc, td, rfl⟩, hb⟩
  have HA7 := hid ((hb.block _ (heap_lt HA6.out)).trans HA6.out)
  have S7 := hid (S6.out.below hb)
  have F7 := hid (F6.out.trans (Kf.of_below hb))
  have KA7 := hid (KnAt.frame (Kf.of_below hb) _ _ KA6.out)
  have TA7 := hid (TA6.out.frame (Kf.of_below hb))
  clear HA6 S6 F6 KA6 TA6
  have TB7 := hid ht
  clear hb ht
  obtain ⟨adc, cpc, hcc⟩ := km_len S7.out
  go_wp2_with fail
  clear hcc
  refine (tell_run _ TA7.out S7.out (by have := R1.out.out; have := put_len r1 ⟨10, 0, 0, 0⟩; have := put_len r2 ⟨11, 0, 0, 0⟩; omega)).mono ?_
  rintro e X8 ⟨⟨xt, rfl⟩, hst, fr⟩
  have HA8 := hid (fr.keep HA7.out (by decide) (by decide) (by decide))
  have S8 := hid hst
  have F8 := hid (F7.out.trans fr)
  have KA8 := hid (KnAt.frame fr _ _ KA7.out)
  have TA8 := hid (TA7.out.frame fr)
  have TB8 := hid (TB7.out.frame fr)
  clear HA7 S7 F7 KA7 TA7 TB7
  clear hst fr
  rw [setAt_lead] at S8
  have c := cell_of_heap HA8.out 2
  simp at c
  go_wp2_with fail
  clear c
  refine (HI.out (t.kid 2) _ kn ss _ _ HB.out.2.2.2.1 G2.out.2.1 G2.out.2.2 HB.out.2.2.2.2.2.2.2 (by have := R0.out.cost; have := put_len r1 ⟨10, 0, 0, 0⟩; have := put_rest r1 ⟨10, 0, 0, 0⟩; have := R1.out.cost; have := put_len r2 ⟨11, 0, 0, 0⟩; have := put_rest r2 ⟨11, 0, 0, 0⟩; have := lead_len (r2.put ⟨11, 0, 0, 0⟩) r1.out.length 0; have g9 : ((r2.put ⟨11, 0, 0, 0⟩).lead r1.out.length 0).rest = (r2.put ⟨11, 0, 0, 0⟩).rest := rfl; have := HB.out; omega) G2.out.1 S8.out KA8.out).mono ?_
  rintro e X9 ⟨⟨xp, rfl⟩, hst, fr⟩
  have HA9 := hid (fr.keep HA8.out (by decide) (by decide) (by decide))
  have S9 := hid hst
  have F9 := hid (F8.out.trans fr)
  have KA9 := hid (KnAt.frame fr _ _ KA8.out)
  have TA9 := hid (TA8.out.frame fr)
  have TB9 := hid (TB8.out.frame fr)
  clear HA8 S8 F8 KA8 TA8 TB8
  clear hst fr
  have R2 := hid (part_r (es := es) (K := K) F (t.kid 2) ss ((r2.put ⟨11, 0, 0, 0⟩).lead r1.out.length 0) HB.out.2.2.2.1 G2.out.2.1 HB.out.2.2.2.2.2.2.2)
  obtain ⟨r3, hr3⟩ : ∃ x, partZ es F (t.kid 2) ss ((r2.put ⟨11, 0, 0, 0⟩).lead r1.out.length 0) = x := ⟨_, rfl⟩
  rw [hr3] at S9 R2
  have Er3 := hid hr3
  clear hr3
  obtain ⟨adc, cpc, hcc⟩ := km_len S9.out
  go_wp2_with fail
  clear hcc
  refine (tell_run _ TB9.out S9.out (by have := R2.out.out; have := put_len r2 ⟨11, 0, 0, 0⟩; have := lead_len (r2.put ⟨11, 0, 0, 0⟩) r1.out.length 0; omega)).mono ?_
  rintro e X10 ⟨⟨xt, rfl⟩, hst, fr⟩
  have HA10 := hid (fr.keep HA9.out (by decide) (by decide) (by decide))
  have S10 := hid hst
  have F10 := hid (F9.out.trans fr)
  have KA10 := hid (KnAt.frame fr _ _ KA9.out)
  have TA10 := hid (TA9.out.frame fr)
  have TB10 := hid (TB9.out.frame fr)
  clear HA9 S9 F9 KA9 TA9 TB9
  clear hst fr
  rw [setAt_lead] at S10
  go_wp2_with fail
  go_end0
  refine ⟨⟨_, rfl⟩, ?_, F10.out⟩
  unfold ifZ
  dsimp only
  rw [Er1.out, Er2.out, Er3.out]
  exact S10.out

set_option maxHeartbeats 2000000 in
set_option maxRecDepth 100000 in
theorem put_10 (ih : PutC B W0 Mb ve es ns K F) (hk1 : K ≤ 1000) {t : Tp} {fv : Value} {kn : Option Addr} {ss : List ByteArray} {s : Cs} {W : World} (hF : t.size ≤ F + 1) (hs : Stands ns t) (hb : BdT t ss) (hK : ss.length + 2 * t.size ≤ K) (hB : s.out.length + 10 * s.rest + 10 * t.size ≤ 950000) (hf : FormK B W0 t fv) (h : KmE B W0 Mb ve s W) (hk : KnAt W kn ss.reverse) (ek : t.n.kind = 10) :
    Calls Tryz.prog 24 #[.pointer (some ⟨Mb, 0, none⟩), fv, .pointer kn] W (SetP B W0 Mb ve (partZ es (F + 1) t ss s) W) := by
  rw [part10 ek]
  obtain ⟨us, hsh, -, hif, hfk⟩ := hf.open
  obtain ⟨u, x, y, rfl, rfl⟩ := shape10 hsh ek
  have hc : t.k.count = 3 := count_of hs.toGood ek rfl
  have hsz := (kids3 hc).2
  have f0 := hfk 0 (by omega)
  have f1 := hfk 1 (by omega)
  have f2 := hfk 2 (by omega)
  simp only [List.getD_cons_zero, List.getD_cons_succ] at f0 f1 f2
  obtain ⟨Tu, pu, rfl⟩ := hif u (by simp)
  have s0 := hs.kid (i := 0) (by omega)
  have b0 := hb.kid0 (i := 0) (by omega) (by unfold knownZ; simp [ek])
  obtain ⟨Tx, px, rfl⟩ := hif x (by simp)
  have s1 := hs.kid (i := 1) (by omega)
  have b1 := hb.kid0 (i := 1) (by omega) (by unfold knownZ; simp [ek])
  obtain ⟨Ty, py, rfl⟩ := hif y (by simp)
  have s2 := hs.kid (i := 2) (by omega)
  have b2 := hb.kid0 (i := 2) (by omega) (by unfold knownZ; simp [ek])
  have bl := (Below.refl W.heap.size W).alloc (Nat.le_refl _) (.cells #[.iface Tu pu, .iface Tx px, .iface Ty py] 117)
  have hA := (MapKept.heap_alloc W (.cells #[.iface Tu pu, .iface Tx px, .iface Ty py] 117)).1
  obtain ⟨Y, hY⟩ : ∃ Y, W.alloc (.cells #[.iface Tu pu, .iface Tx px, .iface Ty py] 117) = Y := ⟨_, rfl⟩
  rw [hY] at bl hA
  have HY := hid hY
  have HA1 := hid hA
  have S1 := hid (h.below bl)
  have F1 := hid (Kf.of_below bl)
  have KA1 := hid (KnAt.frame (Kf.of_below bl) _ _ hk)
  have t1 := miss_var (T := 117) (by decide) (.agg #[.iface Tu pu, .iface Tx px, .iface Ty py])
  have t2 := miss_fn (T := 117) (by decide) (.agg #[.iface Tu pu, .iface Tx px, .iface Ty py])
  have t3 := miss_rec (T := 117) (by decide) (.agg #[.iface Tu pu, .iface Tx px, .iface Ty py])
  have t4 := miss_let (T := 117) (by decide) (.agg #[.iface Tu pu, .iface Tx px, .iface Ty py])
  have t5 := hit_if (.agg #[.iface Tu pu, .iface Tx px, .iface Ty py])
  have HP := hid (putIf_calls ih hk1 hsz hF s0 s1 s2 b0 b1 b2 hK hB f0 f1 f2 S1.out KA1.out)
  have d0 := cell_of_heap HA1.out 0
  have d1 := cell_of_heap HA1.out 1
  have d2 := cell_of_heap HA1.out 2
  simp at d0 d1 d2
  clear hF hs hb hK hB h hk hsh hif hfk hc hsz s0 b0 f0 s1 b1 f1 s2 b2 f2 bl hA hY ek ih S1 KA1 HA1
  go_enter Tryz.func24, Tryz.ntmps24
  go_upto_region 21 with fail
  rw [HY.out]
  clear HY t1 t2 t3 t4 t5
  go_wp2_with fail
  refine HP.out.mono ?_
  rintro e X2 ⟨⟨x2, rfl⟩, h2, f2⟩
  have S2 := hid (And.intro h2 (F1.out.trans f2))
  clear h2 f2 d0 d1 d2 HP
  go_wp2_with fail
  go_end0
  exact ⟨⟨_, rfl⟩, S2.out.1, S2.out.2⟩

set_option maxHeartbeats 8000000 in
set_option maxRecDepth 100000 in
theorem putCase_calls (ih : PutC B W0 Mb ve es ns K F) (hk1 : K ≤ 1000) {t : Tp} {Tu Tx Ty : TypeId} {pu px py : Value} {kn : Option Addr} {ss : List ByteArray} {s : Cs} {W : World} {a c : ByteArray} (ha : t.n.a = a) (hc : t.n.b = c) (hz : (t.kid 0).size + (t.kid 1).size + (t.kid 2).size + 1 = t.size) (hF : t.size ≤ F + 1) (s0 : Stands ns (t.kid 0)) (s1 : Stands ns (t.kid 1)) (s2 : Stands ns (t.kid 2)) (b0 : BdT (t.kid 0) ss) (b1 : BdT (t.kid 1) ss) (b2 : BdT (t.kid 2) (ss ++ [a, c])) (hK : ss.length + 2 * t.size ≤ K) (hB : s.out.length + 10 * s.rest + 10 * t.size ≤ 950000) (f0 : FormK B W0 (t.kid 0) (.iface Tu pu)) (f1 : FormK B W0 (t.kid 1) (.iface Tx px)) (f2 : FormK B W0 (t.kid 2) (.iface Ty py)) (h : KmE B W0 Mb ve s W) (hk : KnAt W kn ss.reverse) :
    Calls Tryz.prog 61 #[.pointer (some ⟨Mb, 0, none⟩), .agg #[.iface Tu pu, .iface Tx px, .string a, .string c, .iface Ty py], .pointer kn] W (SetP B W0 Mb ve (caseZ (partZ es F) t ss s) W) := by
  have bl := (Below.refl W.heap.size W).alloc (Nat.le_refl _) (.cells #[.iface Tu pu, .iface Tx px, .string a, .string c, .iface Ty py] 120)
  have hA := (MapKept.heap_alloc W (.cells #[.iface Tu pu, .iface Tx px, .string a, .string c, .iface Ty py] 120)).1
  obtain ⟨Y, hY⟩ : ∃ Y, W.alloc (.cells #[.iface Tu pu, .iface Tx px, .string a, .string c, .iface Ty py] 120) = Y := ⟨_, rfl⟩
  rw [hY] at bl hA
  have HY := hid hY
  have HA1 := hid hA
  have S1 := hid (h.below bl)
  have F1 := hid (Kf.of_below bl)
  have KA1 := hid (KnAt.frame (Kf.of_below bl) _ _ hk)
  have G0 := hid (And.intro f0 (And.intro s0 b0))
  have G1 := hid (And.intro f1 (And.intro s1 b1))
  have G2 := hid (And.intro f2 (And.intro s2 b2))
  have HN := hid (And.intro ha hc)
  have hp0 := (t.kid 0).size_pos
  have hp1 := (t.kid 1).size_pos
  have HB := hid (show s.out.length + 10 * s.rest + 10 * (t.kid 0).size + 10 * (t.kid 1).size + 10 * (t.kid 2).size + 10 ≤ 950000 ∧ (t.kid 0).size ≤ F ∧ (t.kid 1).size ≤ F ∧ (t.kid 2).size ≤ F ∧ K ≤ 1000 ∧ ss.length + 2 * (t.kid 0).size ≤ K ∧ ss.length + 2 * (t.kid 1).size ≤ K ∧ ss.length + 2 + 2 * (t.kid 2).size ≤ K by omega)
  have HI := hid ih
  clear hF hK hB h hk s0 b0 f0 s1 b1 f1 s2 b2 f2 bl hA hY ih hz hk1 ha hc hp0 hp1
  go_enter Tryz.func61, Tryz.ntmps61
  go_upto_region 1 with fail
  rw [HY.out]
  clear HY
  obtain ⟨b9, hb9⟩ : ∃ b, W.heap.size = b := ⟨_, rfl⟩
  rw [hb9] at HA1 ⊢
  clear hb9
  have c := cell_of_heap HA1.out 0
  simp at c
  go_wp2_with fail
  clear c
  refine (HI.out (t.kid 0) _ kn ss _ _ HB.out.2.1 G0.out.2.1 G0.out.2.2 HB.out.2.2.2.2.2.1 (by skip; have := HB.out; omega) G0.out.1 S1.out KA1.out).mono ?_
  rintro e X2 ⟨⟨xp, rfl⟩, hst, fr⟩
  have HA2 := hid (fr.keep HA1.out (by decide) (by decide) (by decide))
  have S2 := hid hst
  have F2 := hid (F1.out.trans fr)
  have KA2 := hid (KnAt.frame fr _ _ KA1.out)
  clear HA1 S1 F1 KA1
  clear hst fr
  have R0 := hid (part_r (es := es) (K := K) F (t.kid 0) ss s HB.out.2.1 G0.out.2.1 HB.out.2.2.2.2.2.1)
  obtain ⟨r1, hr1⟩ : ∃ x, partZ es F (t.kid 0) ss s = x := ⟨_, rfl⟩
  rw [hr1] at S2 R0
  have Er1 := hid hr1
  clear hr1
  go_wp2_with fail
  refine (addI_calls ⟨19, 0, 0, 0⟩ S2.out (by have := R0.out.cost; have := HB.out; omega)).mono ?_
  rintro e X3 ⟨rfl, hst, fr⟩
  have HA3 := hid (fr.keep HA2.out (by decide) (by decide) (by decide))
  have S3 := hid hst
  have F3 := hid (F2.out.trans fr)
  have KA3 := hid (KnAt.frame fr _ _ KA2.out)
  clear HA2 S2 F2 KA2
  clear hst fr
  go_wp2_with fail
  refine (leadTo_calls Mb r1.out.length X3).mono ?_
  rintro e X4 ⟨tv, rfl, ht, ⟨ta, tb, rfl⟩, hb⟩
  have HA4 := hid ((hb.block _ (heap_lt HA3.out)).trans HA3.out)
  have S4 := hid (S3.out.below hb)
  have F4 := hid (F3.out.trans (Kf.of_below hb))
  have KA4 := hid (KnAt.frame (Kf.of_below hb) _ _ KA3.out)
  clear HA3 S3 F3 KA3
  have TA4 := hid ht
  clear hb ht
  go_upto_region 3 with fail
  have hb : Below X4.heap.size X4 X4.drew := (Below.refl _ _).drew
  have HA5 := hid ((hb.block _ (heap_lt HA4.out)).trans HA4.out)
  have S5 := hid (S4.out.below hb)
  have F5 := hid (F4.out.trans (Kf.of_below hb))
  have KA5 := hid (KnAt.frame (Kf.of_below hb) _ _ KA4.out)
  have TA5 := hid (TA4.out.frame (Kf.of_below hb))
  clear HA4 S4 F4 KA4 TA4
  clear hb
  refine pick_begin (S := fun w => w.cell? ⟨b9, 2, none⟩ = some (.string a) ∧ w.cell? ⟨b9, 3, none⟩ = some (.string c) ∧ w.cell? ⟨b9, 4, none⟩ = some (.iface Ty py)) (n := 11) (ls := #[false, false, false, false, false, false, false, false, false, false, false]) (by kernel_rfl) rfl (by kernel_rfl) ?_
  generalize X4.drew = X5 at *
  have hS : X5.cell? ⟨b9, 2, none⟩ = some (.string a) ∧ X5.cell? ⟨b9, 3, none⟩ = some (.string c) ∧ X5.cell? ⟨b9, 4, none⟩ = some (.iface Ty py) := ⟨cell_of_heap HA5.out 2, cell_of_heap HA5.out 3, cell_of_heap HA5.out 4⟩
  refine pick_op (i := 0) (v := .pointer (some ⟨Mb, 0, none⟩)) (by kernel_rfl) rfl (by kernel_rfl) (by kernel_rfl) rfl rfl (fun w' hw => by simp [go_sem]) hS (by simp [go_sem]; exact rfl) ?_
  refine pick_op (i := 1) (v := .pointer (some ⟨b9, 4, none⟩)) (by kernel_rfl) rfl (by kernel_rfl) (by kernel_rfl) rfl rfl (fun w' hw => by simp [go_sem]) hS (by simp [go_sem]; exact rfl) ?_
  refine pick_op (i := 2) (v := .iface Ty py) (by kernel_rfl) rfl (by kernel_rfl) (by kernel_rfl) rfl rfl (fun w' hw => by simp [go_sem, hw.2.2]) hS (by simp [go_sem]; exact rfl) ?_
  refine pick_op (i := 3) (v := .pointer kn) (by kernel_rfl) rfl (by kernel_rfl) (by kernel_rfl) rfl rfl (fun w' hw => by simp [go_sem]) hS (by simp [go_sem]; exact rfl) ?_
  refine pick_op (i := 4) (v := .pointer (some ⟨b9, 2, none⟩)) (by kernel_rfl) rfl (by kernel_rfl) (by kernel_rfl) rfl rfl (fun w' hw => by simp [go_sem]) hS (by simp [go_sem]; exact rfl) ?_
  refine pick_op (i := 5) (v := .string a) (by kernel_rfl) rfl (by kernel_rfl) (by kernel_rfl) rfl rfl (fun w' hw => by simp [go_sem, hw.1]) hS (by simp [go_sem]; exact rfl) ?_
  refine pick_op (i := 7) (v := .pointer (some ⟨b9, 3, none⟩)) (by kernel_rfl) rfl (by kernel_rfl) (by kernel_rfl) rfl rfl (fun w' hw => by simp [go_sem]) hS (by simp [go_sem]; exact rfl) ?_
  refine pick_op (i := 8) (v := .string c) (by kernel_rfl) rfl (by kernel_rfl) (by kernel_rfl) rfl rfl (fun w' hw => by simp [go_sem, hw.2.1]) hS (by simp [go_sem]; exact rfl) ?_
  refine pick_enter (i := 6) (f := 57) (args := #[.pointer kn, .string a]) rfl (by kernel_rfl) rfl rfl (by simp [go_sem]) ?_
  refine (knowing_calls a KA5.out (by rw [List.length_reverse]; have := HB.out; omega)).mono ?_
  rintro e X6 ⟨p2, rfl, hk2, hb⟩
  have HA6 := hid ((hb.block _ (heap_lt HA5.out)).trans HA5.out)
  have S6 := hid (S5.out.below hb)
  have F6 := hid (F5.out.trans (Kf.of_below hb))
  have KA6 := hid (KnAt.frame (Kf.of_below hb) _ _ KA5.out)
  have TA6 := hid (TA5.out.frame (Kf.of_below hb))
  clear HA5 S5 F5 KA5 TA5
  have KB6 := hid hk2
  clear hb hk2
  clear hS
  have hS : X6.cell? ⟨b9, 2, none⟩ = some (.string a) ∧ X6.cell? ⟨b9, 3, none⟩ = some (.string c) ∧ X6.cell? ⟨b9, 4, none⟩ = some (.iface Ty py) := ⟨cell_of_heap HA6.out 2, cell_of_heap HA6.out 3, cell_of_heap HA6.out 4⟩
  refine ⟨_, rfl, hS, ?_⟩
  refine pick_frame (by simp [go_sem]; exact rfl) ?_
  refine pick_enter (i := 9) (f := 57) (args := #[.pointer p2, .string c]) rfl (by kernel_rfl) rfl rfl (by simp [go_sem]) ?_
  refine (knowing_calls c KB6.out (by rw [List.length_cons, List.length_reverse]; have := HB.out; omega)).mono ?_
  rintro e X7 ⟨p3, rfl, hk2, hb⟩
  have HA7 := hid ((hb.block _ (heap_lt HA6.out)).trans HA6.out)
  have S7 := hid (S6.out.below hb)
  have F7 := hid (F6.out.trans (Kf.of_below hb))
  have KA7 := hid (KnAt.frame (Kf.of_below hb) _ _ KA6.out)
  have KB7 := hid (KnAt.frame (Kf.of_below hb) _ _ KB6.out)
  have TA7 := hid (TA6.out.frame (Kf.of_below hb))
  clear HA6 S6 F6 KA6 KB6 TA6
  have KC7 := hid hk2
  clear hb hk2
  clear hS
  have hS : X7.cell? ⟨b9, 2, none⟩ = some (.string a) ∧ X7.cell? ⟨b9, 3, none⟩ = some (.string c) ∧ X7.cell? ⟨b9, 4, none⟩ = some (.iface Ty py) := ⟨cell_of_heap HA7.out 2, cell_of_heap HA7.out 3, cell_of_heap HA7.out 4⟩
  refine ⟨_, rfl, hS, ?_⟩
  refine pick_frame (by simp [go_sem]; exact rfl) ?_
  refine pick_enter (i := 10) (f := 24) (args := #[.pointer (some ⟨Mb, 0, none⟩), .iface Ty py, .pointer p3]) rfl (by kernel_rfl) rfl rfl (by simp [go_sem]) ?_
  refine (HI.out (t.kid 2) _ p3 (ss ++ [a, c]) _ _ HB.out.2.2.2.1 G2.out.2.1 G2.out.2.2 (by rw [List.length_append]; exact HB.out.2.2.2.2.2.2.2) (by have := R0.out.cost; have := put_len r1 ⟨19, 0, 0, 0⟩; have := put_rest r1 ⟨19, 0, 0, 0⟩; have := HB.out; omega) G2.out.1 S7.out (by rw [List.reverse_append]; exact KC7.out)).mono ?_
  rintro e X8 ⟨⟨xp, rfl⟩, hst, fr⟩
  have HA8 := hid (fr.keep HA7.out (by decide) (by decide) (by decide))
  have S8 := hid hst
  have F8 := hid (F7.out.trans fr)
  have KA8 := hid (KnAt.frame fr _ _ KA7.out)
  have KB8 := hid (KnAt.frame fr _ _ KB7.out)
  have KC8 := hid (KnAt.frame fr _ _ KC7.out)
  have TA8 := hid (TA7.out.frame fr)
  clear HA7 S7 F7 KA7 KB7 KC7 TA7
  clear hst fr
  clear hS
  have hS : X8.cell? ⟨b9, 2, none⟩ = some (.string a) ∧ X8.cell? ⟨b9, 3, none⟩ = some (.string c) ∧ X8.cell? ⟨b9, 4, none⟩ = some (.iface Ty py) := ⟨cell_of_heap HA8.out 2, cell_of_heap HA8.out 3, cell_of_heap HA8.out 4⟩
  refine ⟨_, rfl, hS, ?_⟩
  refine pick_frame (by simp [go_sem]; exact rfl) ?_
  have R2 := hid (part_r (es := es) (K := K) F (t.kid 2) (ss ++ [a, c]) (r1.put ⟨19, 0, 0, 0⟩) HB.out.2.2.2.1 G2.out.2.1 (by rw [List.length_append]; exact HB.out.2.2.2.2.2.2.2))
  refine pick_end (by kernel_rfl) ?_
  clear hS
  clear KB8
  clear KC8
  obtain ⟨r2, hr2⟩ : ∃ x, partZ es F (t.kid 2) (ss ++ [a, c]) (r1.put ⟨19, 0, 0, 0⟩) = x := ⟨_, rfl⟩
  rw [hr2] at S8 R2
  have Er2 := hid hr2
  clear hr2
  go_wp2_with fail
  refine (addI_calls ⟨13, 0, 0, 0⟩ S8.out (by have := R0.out.cost; have := put_len r1 ⟨19, 0, 0, 0⟩; have := put_rest r1 ⟨19, 0, 0, 0⟩; have := R2.out.cost; have := HB.out; omega)).mono ?_
  rintro e X9 ⟨rfl, hst, fr⟩
  have HA9 := hid (fr.keep HA8.out (by decide) (by decide) (by decide))
  have S9 := hid hst
  have F9 := hid (F8.out.trans fr)
  have KA9 := hid (KnAt.frame fr _ _ KA8.out)
  have TA9 := hid (TA8.out.frame fr)
  clear HA8 S8 F8 KA8 TA8
  clear hst fr
  go_wp2_with fail
  refine (addI_calls ⟨13, 0, 0, 0⟩ S9.out (by have := R0.out.cost; have := put_len r1 ⟨19, 0, 0, 0⟩; have := put_rest r1 ⟨19, 0, 0, 0⟩; have := R2.out.cost; have := put_len r2 ⟨13, 0, 0, 0⟩; have := put_rest r2 ⟨13, 0, 0, 0⟩; have := HB.out; omega)).mono ?_
  rintro e X10 ⟨rfl, hst, fr⟩
  have HA10 := hid (fr.keep HA9.out (by decide) (by decide) (by decide))
  have S10 := hid hst
  have F10 := hid (F9.out.trans fr)
  have KA10 := hid (KnAt.frame fr _ _ KA9.out)
  have TA10 := hid (TA9.out.frame fr)
  clear HA9 S9 F9 KA9 TA9
  clear hst fr
  go_wp2_with fail
  refine (addI_calls ⟨11, 0, 0, 0⟩ S10.out (by have := R0.out.cost; have := put_len r1 ⟨19, 0, 0, 0⟩; have := put_rest r1 ⟨19, 0, 0, 0⟩; have := R2.out.cost; have := put_len r2 ⟨13, 0, 0, 0⟩; have := put_rest r2 ⟨13, 0, 0, 0⟩; have := put_len (r2.put ⟨13, 0, 0, 0⟩) ⟨13, 0, 0, 0⟩; have := put_rest (r2.put ⟨13, 0, 0, 0⟩) ⟨13, 0, 0, 0⟩; have := HB.out; omega)).mono ?_
  rintro e X11 ⟨rfl, hst, fr⟩
  have HA11 := hid (fr.keep HA10.out (by decide) (by decide) (by decide))
  have S11 := hid hst
  have F11 := hid (F10.out.trans fr)
  have KA11 := hid (KnAt.frame fr _ _ KA10.out)
  have TA11 := hid (TA10.out.frame fr)
  clear HA10 S10 F10 KA10 TA10
  clear hst fr
  go_wp2_with fail
  refine (leadTo_calls Mb ((r2.put ⟨13, 0, 0, 0⟩).put ⟨13, 0, 0, 0⟩).out.length X11).mono ?_
  rintro e X12 ⟨tv2, rfl, ht, ⟨tc, td, rfl⟩, hb⟩
  have HA12 := hid ((hb.block _ (heap_lt HA11.out)).trans HA11.out)
  have S12 := hid (S11.out.below hb)
  have F12 := hid (F11.out.trans (Kf.of_below hb))
  have KA12 := hid (KnAt.frame (Kf.of_below hb) _ _ KA11.out)
  have TA12 := hid (TA11.out.frame (Kf.of_below hb))
  clear HA11 S11 F11 KA11 TA11
  have TB12 := hid ht
  clear hb ht
  obtain ⟨adc, cpc, hcc⟩ := km_len S12.out
  go_wp2_with fail
  clear hcc
  refine (tell_run _ TA12.out S12.out (by have := R2.out.out; have := R0.out.cost; have := put_len r1 ⟨19, 0, 0, 0⟩; have := put_rest r1 ⟨19, 0, 0, 0⟩; have := R2.out.cost; have := put_len r2 ⟨13, 0, 0, 0⟩; have := put_rest r2 ⟨13, 0, 0, 0⟩; have := put_len (r2.put ⟨13, 0, 0, 0⟩) ⟨13, 0, 0, 0⟩; have := put_rest (r2.put ⟨13, 0, 0, 0⟩) ⟨13, 0, 0, 0⟩; have := put_len ((r2.put ⟨13, 0, 0, 0⟩).put ⟨13, 0, 0, 0⟩) ⟨11, 0, 0, 0⟩; have := put_rest ((r2.put ⟨13, 0, 0, 0⟩).put ⟨13, 0, 0, 0⟩) ⟨11, 0, 0, 0⟩; omega)).mono ?_
  rintro e X13 ⟨⟨xt, rfl⟩, hst, fr⟩
  have HA13 := hid (fr.keep HA12.out (by decide) (by decide) (by decide))
  have S13 := hid hst
  have F13 := hid (F12.out.trans fr)
  have KA13 := hid (KnAt.frame fr _ _ KA12.out)
  have TA13 := hid (TA12.out.frame fr)
  have TB13 := hid (TB12.out.frame fr)
  clear HA12 S12 F12 KA12 TA12 TB12
  clear hst fr
  rw [setAt_lead] at S13
  have c := cell_of_heap HA13.out 1
  simp at c
  go_wp2_with fail
  clear c
  refine (HI.out (t.kid 1) _ kn ss _ _ HB.out.2.2.1 G1.out.2.1 G1.out.2.2 HB.out.2.2.2.2.2.2.1 (by have := R0.out.cost; have := put_len r1 ⟨19, 0, 0, 0⟩; have := put_rest r1 ⟨19, 0, 0, 0⟩; have := R2.out.cost; have := put_len r2 ⟨13, 0, 0, 0⟩; have := put_rest r2 ⟨13, 0, 0, 0⟩; have := put_len (r2.put ⟨13, 0, 0, 0⟩) ⟨13, 0, 0, 0⟩; have := put_rest (r2.put ⟨13, 0, 0, 0⟩) ⟨13, 0, 0, 0⟩; have := put_len ((r2.put ⟨13, 0, 0, 0⟩).put ⟨13, 0, 0, 0⟩) ⟨11, 0, 0, 0⟩; have := put_rest ((r2.put ⟨13, 0, 0, 0⟩).put ⟨13, 0, 0, 0⟩) ⟨11, 0, 0, 0⟩; have := lead_len (((r2.put ⟨13, 0, 0, 0⟩).put ⟨13, 0, 0, 0⟩).put ⟨11, 0, 0, 0⟩) r1.out.length 0; have g9 : ((((r2.put ⟨13, 0, 0, 0⟩).put ⟨13, 0, 0, 0⟩).put ⟨11, 0, 0, 0⟩).lead r1.out.length 0).rest = (((r2.put ⟨13, 0, 0, 0⟩).put ⟨13, 0, 0, 0⟩).put ⟨11, 0, 0, 0⟩).rest := rfl; have := HB.out; omega) G1.out.1 S13.out KA13.out).mono ?_
  rintro e X14 ⟨⟨xp, rfl⟩, hst, fr⟩
  have HA14 := hid (fr.keep HA13.out (by decide) (by decide) (by decide))
  have S14 := hid hst
  have F14 := hid (F13.out.trans fr)
  have KA14 := hid (KnAt.frame fr _ _ KA13.out)
  have TA14 := hid (TA13.out.frame fr)
  have TB14 := hid (TB13.out.frame fr)
  clear HA13 S13 F13 KA13 TA13 TB13
  clear hst fr
  have R1 := hid (part_r (es := es) (K := K) F (t.kid 1) ss ((((r2.put ⟨13, 0, 0, 0⟩).put ⟨13, 0, 0, 0⟩).put ⟨11, 0, 0, 0⟩).lead r1.out.length 0) HB.out.2.2.1 G1.out.2.1 HB.out.2.2.2.2.2.2.1)
  obtain ⟨r3, hr3⟩ : ∃ x, partZ es F (t.kid 1) ss ((((r2.put ⟨13, 0, 0, 0⟩).put ⟨13, 0, 0, 0⟩).put ⟨11, 0, 0, 0⟩).lead r1.out.length 0) = x := ⟨_, rfl⟩
  rw [hr3] at S14 R1
  have Er3 := hid hr3
  clear hr3
  obtain ⟨adc, cpc, hcc⟩ := km_len S14.out
  go_wp2_with fail
  clear hcc
  refine (tell_run _ TB14.out S14.out (by have := R1.out.out; have := R0.out.cost; have := put_len r1 ⟨19, 0, 0, 0⟩; have := put_rest r1 ⟨19, 0, 0, 0⟩; have := R2.out.cost; have := put_len r2 ⟨13, 0, 0, 0⟩; have := put_rest r2 ⟨13, 0, 0, 0⟩; have := put_len (r2.put ⟨13, 0, 0, 0⟩) ⟨13, 0, 0, 0⟩; have := put_rest (r2.put ⟨13, 0, 0, 0⟩) ⟨13, 0, 0, 0⟩; have := put_len ((r2.put ⟨13, 0, 0, 0⟩).put ⟨13, 0, 0, 0⟩) ⟨11, 0, 0, 0⟩; have := put_rest ((r2.put ⟨13, 0, 0, 0⟩).put ⟨13, 0, 0, 0⟩) ⟨11, 0, 0, 0⟩; have := lead_len (((r2.put ⟨13, 0, 0, 0⟩).put ⟨13, 0, 0, 0⟩).put ⟨11, 0, 0, 0⟩) r1.out.length 0; have g9 : ((((r2.put ⟨13, 0, 0, 0⟩).put ⟨13, 0, 0, 0⟩).put ⟨11, 0, 0, 0⟩).lead r1.out.length 0).rest = (((r2.put ⟨13, 0, 0, 0⟩).put ⟨13, 0, 0, 0⟩).put ⟨11, 0, 0, 0⟩).rest := rfl; omega)).mono ?_
  rintro e X15 ⟨⟨xt, rfl⟩, hst, fr⟩
  have HA15 := hid (fr.keep HA14.out (by decide) (by decide) (by decide))
  have S15 := hid hst
  have F15 := hid (F14.out.trans fr)
  have KA15 := hid (KnAt.frame fr _ _ KA14.out)
  have TA15 := hid (TA14.out.frame fr)
  have TB15 := hid (TB14.out.frame fr)
  clear HA14 S14 F14 KA14 TA14 TB14
  clear hst fr
  rw [setAt_lead] at S15
  go_wp2_with fail
  go_end0
  refine ⟨⟨_, rfl⟩, ?_, F15.out⟩
  unfold caseZ
  dsimp only
  rw [HN.out.1, HN.out.2, Er1.out, Er2.out, Er3.out]
  exact S15.out

set_option maxHeartbeats 2000000 in
set_option maxRecDepth 100000 in
theorem put_20 (ih : PutC B W0 Mb ve es ns K F) (hk1 : K ≤ 1000) {t : Tp} {fv : Value} {kn : Option Addr} {ss : List ByteArray} {s : Cs} {W : World} (hF : t.size ≤ F + 1) (hs : Stands ns t) (hb : BdT t ss) (hK : ss.length + 2 * t.size ≤ K) (hB : s.out.length + 10 * s.rest + 10 * t.size ≤ 950000) (hf : FormK B W0 t fv) (h : KmE B W0 Mb ve s W) (hk : KnAt W kn ss.reverse) (ek : t.n.kind = 20) :
    Calls Tryz.prog 24 #[.pointer (some ⟨Mb, 0, none⟩), fv, .pointer kn] W (SetP B W0 Mb ve (partZ es (F + 1) t ss s) W) := by
  rw [part20 ek]
  obtain ⟨us, hsh, -, hif, hfk⟩ := hf.open
  obtain ⟨u, x, y, rfl, rfl⟩ := shape20 hsh ek
  have hc : t.k.count = 3 := count_of hs.toGood ek rfl
  have hsz := (kids3 hc).2
  have f0 := hfk 0 (by omega)
  have f1 := hfk 1 (by omega)
  have f2 := hfk 2 (by omega)
  simp only [List.getD_cons_zero, List.getD_cons_succ] at f0 f1 f2
  obtain ⟨Tu, pu, rfl⟩ := hif u (by simp)
  have s0 := hs.kid (i := 0) (by omega)
  have b0 := hb.kid0 (i := 0) (by omega) (by unfold knownZ; simp [ek])
  obtain ⟨Tx, px, rfl⟩ := hif x (by simp)
  have s1 := hs.kid (i := 1) (by omega)
  have b1 := hb.kid0 (i := 1) (by omega) (by unfold knownZ; simp [ek])
  obtain ⟨Ty, py, rfl⟩ := hif y (by simp)
  have s2 := hs.kid (i := 2) (by omega)
  have b2 := hb.kidN (i := 2) (by omega) (ms := [t.n.a, t.n.b]) (by unfold knownZ; simp [ek])
  obtain ⟨a, ha⟩ : ∃ a, t.n.a = a := ⟨_, rfl⟩
  obtain ⟨c, hc'⟩ : ∃ c, t.n.b = c := ⟨_, rfl⟩
  rw [ha, hc'] at b2 ⊢
  have bl := (Below.refl W.heap.size W).alloc (Nat.le_refl _) (.cells #[.iface Tu pu, .iface Tx px, .string a, .string c, .iface Ty py] 120)
  have hA := (MapKept.heap_alloc W (.cells #[.iface Tu pu, .iface Tx px, .string a, .string c, .iface Ty py] 120)).1
  obtain ⟨Y, hY⟩ : ∃ Y, W.alloc (.cells #[.iface Tu pu, .iface Tx px, .string a, .string c, .iface Ty py] 120) = Y := ⟨_, rfl⟩
  rw [hY] at bl hA
  have HY := hid hY
  have HA1 := hid hA
  have S1 := hid (h.below bl)
  have F1 := hid (Kf.of_below bl)
  have KA1 := hid (KnAt.frame (Kf.of_below bl) _ _ hk)
  have t1 := miss_var (T := 120) (by decide) (.agg #[.iface Tu pu, .iface Tx px, .string a, .string c, .iface Ty py])
  have t2 := miss_fn (T := 120) (by decide) (.agg #[.iface Tu pu, .iface Tx px, .string a, .string c, .iface Ty py])
  have t3 := miss_rec (T := 120) (by decide) (.agg #[.iface Tu pu, .iface Tx px, .string a, .string c, .iface Ty py])
  have t4 := miss_let (T := 120) (by decide) (.agg #[.iface Tu pu, .iface Tx px, .string a, .string c, .iface Ty py])
  have t5 := miss_if (T := 120) (by decide) (.agg #[.iface Tu pu, .iface Tx px, .string a, .string c, .iface Ty py])
  have t6 := hit_case (.agg #[.iface Tu pu, .iface Tx px, .string a, .string c, .iface Ty py])
  have HP := hid (putCase_calls ih hk1 ha hc' hsz hF s0 s1 s2 b0 b1 b2 hK hB f0 f1 f2 S1.out KA1.out)
  have d0 := cell_of_heap HA1.out 0
  have d1 := cell_of_heap HA1.out 1
  have d2 := cell_of_heap HA1.out 2
  have d3 := cell_of_heap HA1.out 3
  have d4 := cell_of_heap HA1.out 4
  simp at d0 d1 d2 d3 d4
  clear hF hs hb hK hB h hk hsh hif hfk hc hsz s0 b0 f0 s1 b1 f1 s2 b2 f2 bl hA hY ek ih S1 KA1 HA1 ha hc'
  go_enter Tryz.func24, Tryz.ntmps24
  go_upto_region 24 with fail
  rw [HY.out]
  clear HY t1 t2 t3 t4 t5 t6
  go_wp2_with fail
  refine HP.out.mono ?_
  rintro e X2 ⟨⟨x2, rfl⟩, h2, f2⟩
  have S2 := hid (And.intro h2 (F1.out.trans f2))
  clear h2 f2 d0 d1 d2 d3 d4 HP
  go_wp2_with fail
  go_end0
  exact ⟨⟨_, rfl⟩, S2.out.1, S2.out.2⟩

end
end Go.Proofs.YtgiejnmphfgmgaaGreatDoor
