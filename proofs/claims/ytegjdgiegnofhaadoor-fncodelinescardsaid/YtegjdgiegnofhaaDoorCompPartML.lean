/- The specification's maker makes the code of a part: partZ. -/
import Derived.Test.YtegjdgiegnofhaaDoorCompB
namespace Go.Proofs.YtegjdgiegnofhaaDoor
open Go.RowKit Go.Deep

/-- What code is made of. -/
structure Cx (W0 : World) (Mb : Nat) (ae : Option Addr) (b off : Nat) (es : List Ef) (ns : List Nd) : Prop where
  tb : b < W0.heap.size
  tm : b ≠ Mb
  tn : NodesAt W0 b off ns
  tl : ns.length ≤ 300
  el : es.length ≤ 1000
  ee : es ≠ [] → ∃ be oe, ae = some ⟨be, oe, none⟩ ∧ be < W0.heap.size ∧ be ≠ Mb ∧ EffsAt W0 be oe es

theorem cx_nodes {W0 : World} {Mb : Nat} {ae : Option Addr} {b off : Nat} {es : List Ef} {ns : List Nd} (h : Cx W0 Mb ae b off es ns) {ve vt : Value} {s : Cs} {W : World} (m : CmE W0 Mb ve vt s W) : NodesAt W b off ns := by
  obtain ⟨ls, vo, vl, m⟩ := m
  exact fun j hj c hc => (World.cell?_of_block (a := ⟨b, off + j * 6 + c, none⟩) (m.kept b h.tb h.tm)).trans (h.tn j hj c hc)

theorem cx_effs {W0 : World} {Mb : Nat} {ae : Option Addr} {b off : Nat} {es : List Ef} {ns : List Nd} (h : Cx W0 Mb ae b off es ns) {ve vt : Value} {s : Cs} {W : World} (m : CmE W0 Mb ve vt s W) : es ≠ [] → ∃ be oe, ae = some ⟨be, oe, none⟩ ∧ EffsAt W be oe es := fun he => by
  obtain ⟨ls, vo, vl, m⟩ := m
  obtain ⟨be, oe, e, h1, h2, h3⟩ := h.ee he
  exact ⟨be, oe, e, fun j hj c hc => (World.cell?_of_block (a := ⟨be, oe + j * 3 + c, none⟩) (m.kept be h1 h2)).trans (h3 j hj c hc)⟩

theorem CmE.effs {W0 : World} {Mb : Nat} {ve vt : Value} {s : Cs} {W : World} (m : CmE W0 Mb ve vt s W) : W.cell? ⟨Mb, 0, none⟩ = some ve := by
  obtain ⟨ls, vo, vl, m⟩ := m
  exact cell_of_heap m.blk 0

theorem CmE.tree {W0 : World} {Mb : Nat} {ve vt : Value} {s : Cs} {W : World} (m : CmE W0 Mb ve vt s W) : W.cell? ⟨Mb, 1, none⟩ = some vt := by
  obtain ⟨ls, vo, vl, m⟩ := m
  exact cell_of_heap m.blk 1

theorem lit_names (w : World) (ss : List ByteArray) : NamesV (w.alloc (.cells (strRow ss).toArray 9)) (.slice (some ⟨w.heap.size, 0, none⟩) ss.length ss.length) ss := by
  have hh := (MapKept.heap_alloc w (.cells (strRow ss).toArray 9)).1
  refine Or.inr ⟨_, 0, _, rfl, heap_lt hh, fun j hj => ?_⟩
  rw [Nat.zero_add, cell_of_heap hh j]
  simp only [List.getElem?_toArray]
  exact strRow_get ss j hj

theorem heap_at {W0 : World} {Mb : Nat} {ve vt : Value} {s : Cs} {W : World} (m : CmE W0 Mb ve vt s W) : Mb < W.heap.size := by
  obtain ⟨ls, vo, vl, m⟩ := m
  exact heap_lt m.blk

theorem later_le (s : Cs) : s.later.length ≤ s.rest := by
  obtain ⟨o, l⟩ := s
  unfold Cs.rest
  dsimp only
  induction l with
  | nil => exact Nat.zero_le _
  | cons x l ih =>
    have := x.t.size_pos
    simp only [List.length_cons, List.map_cons, List.sum_cons]
    omega

/-- What a part's making does, up to a size. -/
def PartC (W0 : World) (Mb : Nat) (ae : Option Addr) (ce b off cap : Nat) (es : List Ef) (ns : List Nd) (K F : Nat) : Prop := ∀ (t : Tp) (ss : List ByteArray) (s : Cs) (v : Value) (W : World), t.size ≤ F → Stands ns t → ss.length + 2 * t.size ≤ K → s.out.length + 10 * s.rest + 10 * t.size ≤ 950000 → CmE W0 Mb (.slice ae es.length ce) (.slice (some ⟨b, off, none⟩) ns.length cap) s W → NmT W v ss →
    Calls Tryd.prog 30 #[.pointer (some ⟨Mb, 0, none⟩), .int .i64 (t.at_ : Int), v] W (LeadPost W0 Mb (.slice ae es.length ce) (.slice (some ⟨b, off, none⟩) ns.length cap) (partZ es F t ss s) W)

/-- A call, or one that makes something: whichever comes up. -/
theorem pick_other {P : Program} {l0 : List Oper} {Q : Exit → Act → World → Prop} {S : World → Prop} {i j n : Nat} {ls : Array Bool} {a : Act} {w : World} (hr : (Region.ready .any l0.toArray ls == [i, j]) = true) (h1 : PickCl P l0 Q S n ls a w i) (h2 : PickMk P l0 Q S n ls a w j) : wpAnyH P .any l0.toArray (NoPanic Q) S (n + 1) ls a w := by
  refine wpAnyH_all (rs := [i, j]) (by simpa using hr) (by simp) (fun k hk => ?_)
  simp only [List.mem_cons, List.not_mem_nil, or_false] at hk
  rcases hk with rfl | rfl
  · exact h1.op
  · exact h2.op

section
variable {W0 : World} {Mb : Nat} {ae : Option Addr} {ce b off cap : Nat} {es : List Ef} {ns : List Nd} {K F : Nat}

set_option maxHeartbeats 2000000 in
set_option maxRecDepth 100000 in
theorem bound_calls (ih : PartC W0 Mb ae ce b off cap es ns K F) {t : Tp} {ss : List ByteArray} {s : Cs} {v : Value} {W : World} (hF : t.size ≤ F) (hs : Stands ns t) (hK : ss.length + 2 * t.size ≤ K) (hB : s.out.length + 10 * s.rest + 10 * t.size + 1 ≤ 950000) (h : CmE W0 Mb (.slice ae es.length ce) (.slice (some ⟨b, off, none⟩) ns.length cap) s W) (hv : NmT W v ss) :
    Calls Tryd.prog 46 #[.pointer (some ⟨Mb, 0, none⟩), .int .i64 (t.at_ : Int), v] W (LeadPost W0 Mb (.slice ae es.length ce) (.slice (some ⟨b, off, none⟩) ns.length cap) (boundZ (partZ es F) t ss s) W) := by
  obtain ⟨ad, cp, rfl⟩ := hv.is
  have HIH := hid ih
  have HS := hid (And.intro hF (And.intro hs hK))
  have HB := hid hB
  have S0 := hid h
  have N0 := hid hv
  clear ih hF hs hK hB h hv
  go_enter Tryd.func46, Tryd.ntmps46
  go_wp2_with fail
  refine (putM_calls ⟨12, 0, 0, 0⟩ S0.out (by have := HB.out; omega)).mono ?_
  rintro e X1 ⟨rfl, h1, g1⟩
  obtain ⟨n1, hn1⟩ : ∃ n, s.out.length = n := ⟨_, rfl⟩
  rw [hn1]
  have S1 := hid h1
  have G1 := hid g1
  have R1 := hid (Rs.put ns K s ⟨12, 0, 0, 0⟩)
  clear h1 g1 hn1
  go_wp2_with fail
  refine (HIH.out t ss _ _ _ HS.out.1 HS.out.2.1 HS.out.2.2 (by have := HB.out; have := R1.out.cost; omega) S1.out (N0.out.frame G1.out)).mono ?_
  rintro e X2 ⟨⟨x2, rfl⟩, h2, g2⟩
  have S2 := hid h2
  have G2 := hid (G1.out.trans g2)
  have R2 := hid (R1.out.trans (part_r (ns := ns) (K := K) (es := es) F t ss (s.put ⟨12, 0, 0, 0⟩) HS.out.1 HS.out.2.1 HS.out.2.2))
  clear h2 g2
  go_wp2_with fail
  refine (putM_calls ⟨13, 0, 0, 0⟩ S2.out (by have := HB.out; have := R2.out.cost; omega)).mono ?_
  rintro e X3 ⟨rfl, h3, g3⟩
  obtain ⟨n3, hn3⟩ : ∃ n, (partZ es F t ss (s.put ⟨12, 0, 0, 0⟩)).out.length = n := ⟨_, rfl⟩
  rw [hn3]
  have S3 := hid h3
  have G3 := hid (G2.out.trans g3)
  clear h3 g3 hn3
  go_wp2_with fail
  go_end0
  exact ⟨⟨_, rfl⟩, S3.out, G3.out⟩

set_option maxHeartbeats 4000000 in
set_option maxRecDepth 100000 in
theorem part_c1 (cx : Cx W0 Mb ae b off es ns) (hk1 : K ≤ 1000) {t : Tp} {ss : List ByteArray} {s : Cs} {v : Value} {W : World} (hF : t.size ≤ F + 1) (hs : Stands ns t) (hK : ss.length + 2 * t.size ≤ K) (hB : s.out.length + 10 * s.rest + 10 * t.size ≤ 950000) (h : CmE W0 Mb (.slice ae es.length ce) (.slice (some ⟨b, off, none⟩) ns.length cap) s W) (hv : NmT W v ss) (ek : t.n.kind = 1) :
    Calls Tryd.prog 30 #[.pointer (some ⟨Mb, 0, none⟩), .int .i64 (t.at_ : Int), v] W (LeadPost W0 Mb (.slice ae es.length ce) (.slice (some ⟨b, off, none⟩) ns.length cap) (s.put ⟨1, t.n.num, 0, 0⟩) W) := by
  obtain ⟨adn, cpn, rfl⟩ := hv.is
  have hnc := cx_nodes cx h
  obtain ⟨hlt, hat, hsz⟩ := hs.lt
  have c0 := hnc t.at_ hlt 0 (by omega)
  have c1 := hnc t.at_ hlt 1 (by omega)
  have c2 := hnc t.at_ hlt 2 (by omega)
  have c3 := hnc t.at_ hlt 3 (by omega)
  have c4 := hnc t.at_ hlt 4 (by omega)
  have c5 := hnc t.at_ hlt 5 (by omega)
  rw [hat] at c0 c1 c2 c3 c4 c5
  simp only [Nd.cell, Nat.add_zero] at c0 c1 c2 c3 c4 c5
  rw [ek] at c0
  have d1 := h.tree
  have hA := (MapKept.heap_alloc W (.cells #[.int .i64 1, .int .i64 t.n.num, .string t.n.a, .string t.n.b, .string t.n.c, .int .i64 t.n.kids] 90)).1
  have hB1 := (Below.refl W.heap.size W).alloc (Nat.le_refl _) (.cells #[.int .i64 1, .int .i64 t.n.num, .string t.n.a, .string t.n.b, .string t.n.c, .int .i64 t.n.kids] 90)
  obtain ⟨Y, hY⟩ : ∃ Y, W.alloc (.cells #[.int .i64 1, .int .i64 t.n.num, .string t.n.a, .string t.n.b, .string t.n.c, .int .i64 t.n.kids] 90) = Y := ⟨_, rfl⟩
  rw [hY] at hA hB1
  have HY := hid hY
  have HA := hid hA
  have S0 := hid (h.below hB1)
  have F0 := hid (Cf.of_below hB1)
  have N0 := hid (hv.frame (Cf.of_below hB1))
  have G0 := hid (Cf.refl Y)
  have R0 := hid (Rs.refl ns K s)
  have hgood := hs.toGood
  have HC : Hid (True) := trivial
  have HZ : Hid (1 ≤ t.size) := t.size_pos
  have hp0 : (0 : Int) ≤ (t.at_ : Int) := by omega
  have hpl : (t.at_ : Int) < (ns.length : Int) := by omega
  have HP1 : Hid (0 < t.k.count → wrap64 ((t.at_ : Int) + 1) = ((t.kid 0).at_ : Int)) := fun h0 => by rw [hs.first h0]; have := cx.tl; unfold wrap64; omega
  have HX := hid cx
  have HS := hid hs
  have HK := hid (And.intro hK (And.intro hF hk1))
  have HB := hid hB
  clear hA hB1 hY h hv hnc hlt hat hsz hgood cx hs hK hF hB hk1
  go_enter Tryd.func30, Tryd.ntmps30
  go_upto_region 1 with fail
  rw [HY.out]
  clear HY c0 c1 c2 c3 c4 c5 d1
  have hbx := (G0.out.block W.heap.size _ _ HA.out (by decide) (by decide) (by decide)).trans HA.out
  have e0 := cell_of_heap hbx 0
  have e1 := cell_of_heap hbx 1
  have e2 := cell_of_heap hbx 2
  have e3 := cell_of_heap hbx 3
  have e4 := cell_of_heap hbx 4
  have e5 := cell_of_heap hbx 5
  have d0 := S0.out.effs
  have d1 := S0.out.tree
  simp at e0 e1 e2 e3 e4 e5
  clear hbx
  go_wp2_with fail
  clear e0 e1 e2 e3 e4 e5 d0 d1
  refine (putM_calls ⟨1, t.n.num, 0, 0⟩ S0.out (by have r := R0.out.cost; have hb := HB.out; have hz := HZ.out; omega)).mono ?_
  rintro e X1 ⟨rfl, h1, g1⟩
  obtain ⟨n1, hn1⟩ : ∃ n, (s).out.length = n := ⟨_, rfl⟩
  rw [hn1]
  have H1 := hid hn1
  have tn : n1 < (Cs.put (s) ⟨1, t.n.num, 0, 0⟩).out.length := by rw [← hn1]; simp [Cs.put]
  have S1 := hid h1
  have G1 : Hid (Cf Y X1) := G0.out.trans g1
  have Q1 := hid (Rs.put ns K (s) ⟨1, t.n.num, 0, 0⟩)
  have R1 := hid (R0.out.trans Q1.out)
  have Tn1_1 := hid tn
  clear h1 g1 hn1 tn
  have hbx := (G1.out.block W.heap.size _ _ HA.out (by decide) (by decide) (by decide)).trans HA.out
  have e0 := cell_of_heap hbx 0
  have e1 := cell_of_heap hbx 1
  have e2 := cell_of_heap hbx 2
  have e3 := cell_of_heap hbx 3
  have e4 := cell_of_heap hbx 4
  have e5 := cell_of_heap hbx 5
  have d0 := S1.out.effs
  have d1 := S1.out.tree
  simp at e0 e1 e2 e3 e4 e5
  clear hbx
  go_wp2_with fail
  clear e0 e1 e2 e3 e4 e5 d0 d1
  go_end0
  exact ⟨⟨_, rfl⟩, S1.out, F0.out.trans G1.out⟩

set_option maxHeartbeats 4000000 in
set_option maxRecDepth 100000 in
theorem part_c2 (cx : Cx W0 Mb ae b off es ns) (hk1 : K ≤ 1000) {t : Tp} {ss : List ByteArray} {s : Cs} {v : Value} {W : World} (hF : t.size ≤ F + 1) (hs : Stands ns t) (hK : ss.length + 2 * t.size ≤ K) (hB : s.out.length + 10 * s.rest + 10 * t.size ≤ 950000) (h : CmE W0 Mb (.slice ae es.length ce) (.slice (some ⟨b, off, none⟩) ns.length cap) s W) (hv : NmT W v ss) (ek : t.n.kind = 2) :
    Calls Tryd.prog 30 #[.pointer (some ⟨Mb, 0, none⟩), .int .i64 (t.at_ : Int), v] W (LeadPost W0 Mb (.slice ae es.length ce) (.slice (some ⟨b, off, none⟩) ns.length cap) (s.put ⟨2, t.n.num, 0, 0⟩) W) := by
  obtain ⟨adn, cpn, rfl⟩ := hv.is
  have hnc := cx_nodes cx h
  obtain ⟨hlt, hat, hsz⟩ := hs.lt
  have c0 := hnc t.at_ hlt 0 (by omega)
  have c1 := hnc t.at_ hlt 1 (by omega)
  have c2 := hnc t.at_ hlt 2 (by omega)
  have c3 := hnc t.at_ hlt 3 (by omega)
  have c4 := hnc t.at_ hlt 4 (by omega)
  have c5 := hnc t.at_ hlt 5 (by omega)
  rw [hat] at c0 c1 c2 c3 c4 c5
  simp only [Nd.cell, Nat.add_zero] at c0 c1 c2 c3 c4 c5
  rw [ek] at c0
  have d1 := h.tree
  have hA := (MapKept.heap_alloc W (.cells #[.int .i64 2, .int .i64 t.n.num, .string t.n.a, .string t.n.b, .string t.n.c, .int .i64 t.n.kids] 90)).1
  have hB1 := (Below.refl W.heap.size W).alloc (Nat.le_refl _) (.cells #[.int .i64 2, .int .i64 t.n.num, .string t.n.a, .string t.n.b, .string t.n.c, .int .i64 t.n.kids] 90)
  obtain ⟨Y, hY⟩ : ∃ Y, W.alloc (.cells #[.int .i64 2, .int .i64 t.n.num, .string t.n.a, .string t.n.b, .string t.n.c, .int .i64 t.n.kids] 90) = Y := ⟨_, rfl⟩
  rw [hY] at hA hB1
  have HY := hid hY
  have HA := hid hA
  have S0 := hid (h.below hB1)
  have F0 := hid (Cf.of_below hB1)
  have N0 := hid (hv.frame (Cf.of_below hB1))
  have G0 := hid (Cf.refl Y)
  have R0 := hid (Rs.refl ns K s)
  have hgood := hs.toGood
  have HC : Hid (True) := trivial
  have HZ : Hid (1 ≤ t.size) := t.size_pos
  have hp0 : (0 : Int) ≤ (t.at_ : Int) := by omega
  have hpl : (t.at_ : Int) < (ns.length : Int) := by omega
  have HP1 : Hid (0 < t.k.count → wrap64 ((t.at_ : Int) + 1) = ((t.kid 0).at_ : Int)) := fun h0 => by rw [hs.first h0]; have := cx.tl; unfold wrap64; omega
  have HX := hid cx
  have HS := hid hs
  have HK := hid (And.intro hK (And.intro hF hk1))
  have HB := hid hB
  clear hA hB1 hY h hv hnc hlt hat hsz hgood cx hs hK hF hB hk1
  go_enter Tryd.func30, Tryd.ntmps30
  go_upto_region 1 with fail
  rw [HY.out]
  clear HY c0 c1 c2 c3 c4 c5 d1
  have hbx := (G0.out.block W.heap.size _ _ HA.out (by decide) (by decide) (by decide)).trans HA.out
  have e0 := cell_of_heap hbx 0
  have e1 := cell_of_heap hbx 1
  have e2 := cell_of_heap hbx 2
  have e3 := cell_of_heap hbx 3
  have e4 := cell_of_heap hbx 4
  have e5 := cell_of_heap hbx 5
  have d0 := S0.out.effs
  have d1 := S0.out.tree
  simp at e0 e1 e2 e3 e4 e5
  clear hbx
  go_wp2_with fail
  clear e0 e1 e2 e3 e4 e5 d0 d1
  refine (putM_calls ⟨2, t.n.num, 0, 0⟩ S0.out (by have r := R0.out.cost; have hb := HB.out; have hz := HZ.out; omega)).mono ?_
  rintro e X1 ⟨rfl, h1, g1⟩
  obtain ⟨n1, hn1⟩ : ∃ n, (s).out.length = n := ⟨_, rfl⟩
  rw [hn1]
  have H1 := hid hn1
  have tn : n1 < (Cs.put (s) ⟨2, t.n.num, 0, 0⟩).out.length := by rw [← hn1]; simp [Cs.put]
  have S1 := hid h1
  have G1 : Hid (Cf Y X1) := G0.out.trans g1
  have Q1 := hid (Rs.put ns K (s) ⟨2, t.n.num, 0, 0⟩)
  have R1 := hid (R0.out.trans Q1.out)
  have Tn1_1 := hid tn
  clear h1 g1 hn1 tn
  have hbx := (G1.out.block W.heap.size _ _ HA.out (by decide) (by decide) (by decide)).trans HA.out
  have e0 := cell_of_heap hbx 0
  have e1 := cell_of_heap hbx 1
  have e2 := cell_of_heap hbx 2
  have e3 := cell_of_heap hbx 3
  have e4 := cell_of_heap hbx 4
  have e5 := cell_of_heap hbx 5
  have d0 := S1.out.effs
  have d1 := S1.out.tree
  simp at e0 e1 e2 e3 e4 e5
  clear hbx
  go_wp2_with fail
  clear e0 e1 e2 e3 e4 e5 d0 d1
  go_end0
  exact ⟨⟨_, rfl⟩, S1.out, F0.out.trans G1.out⟩

set_option maxHeartbeats 4000000 in
set_option maxRecDepth 100000 in
theorem part_c3 (cx : Cx W0 Mb ae b off es ns) (hk1 : K ≤ 1000) {t : Tp} {ss : List ByteArray} {s : Cs} {v : Value} {W : World} (hF : t.size ≤ F + 1) (hs : Stands ns t) (hK : ss.length + 2 * t.size ≤ K) (hB : s.out.length + 10 * s.rest + 10 * t.size ≤ 950000) (h : CmE W0 Mb (.slice ae es.length ce) (.slice (some ⟨b, off, none⟩) ns.length cap) s W) (hv : NmT W v ss) (ek : t.n.kind = 3) :
    Calls Tryd.prog 30 #[.pointer (some ⟨Mb, 0, none⟩), .int .i64 (t.at_ : Int), v] W (LeadPost W0 Mb (.slice ae es.length ce) (.slice (some ⟨b, off, none⟩) ns.length cap) (s.put ⟨3, 0, 0, 0⟩) W) := by
  obtain ⟨adn, cpn, rfl⟩ := hv.is
  have hnc := cx_nodes cx h
  obtain ⟨hlt, hat, hsz⟩ := hs.lt
  have c0 := hnc t.at_ hlt 0 (by omega)
  have c1 := hnc t.at_ hlt 1 (by omega)
  have c2 := hnc t.at_ hlt 2 (by omega)
  have c3 := hnc t.at_ hlt 3 (by omega)
  have c4 := hnc t.at_ hlt 4 (by omega)
  have c5 := hnc t.at_ hlt 5 (by omega)
  rw [hat] at c0 c1 c2 c3 c4 c5
  simp only [Nd.cell, Nat.add_zero] at c0 c1 c2 c3 c4 c5
  rw [ek] at c0
  have d1 := h.tree
  have hA := (MapKept.heap_alloc W (.cells #[.int .i64 3, .int .i64 t.n.num, .string t.n.a, .string t.n.b, .string t.n.c, .int .i64 t.n.kids] 90)).1
  have hB1 := (Below.refl W.heap.size W).alloc (Nat.le_refl _) (.cells #[.int .i64 3, .int .i64 t.n.num, .string t.n.a, .string t.n.b, .string t.n.c, .int .i64 t.n.kids] 90)
  obtain ⟨Y, hY⟩ : ∃ Y, W.alloc (.cells #[.int .i64 3, .int .i64 t.n.num, .string t.n.a, .string t.n.b, .string t.n.c, .int .i64 t.n.kids] 90) = Y := ⟨_, rfl⟩
  rw [hY] at hA hB1
  have HY := hid hY
  have HA := hid hA
  have S0 := hid (h.below hB1)
  have F0 := hid (Cf.of_below hB1)
  have N0 := hid (hv.frame (Cf.of_below hB1))
  have G0 := hid (Cf.refl Y)
  have R0 := hid (Rs.refl ns K s)
  have hgood := hs.toGood
  have HC : Hid (True) := trivial
  have HZ : Hid (1 ≤ t.size) := t.size_pos
  have hp0 : (0 : Int) ≤ (t.at_ : Int) := by omega
  have hpl : (t.at_ : Int) < (ns.length : Int) := by omega
  have HP1 : Hid (0 < t.k.count → wrap64 ((t.at_ : Int) + 1) = ((t.kid 0).at_ : Int)) := fun h0 => by rw [hs.first h0]; have := cx.tl; unfold wrap64; omega
  have HX := hid cx
  have HS := hid hs
  have HK := hid (And.intro hK (And.intro hF hk1))
  have HB := hid hB
  clear hA hB1 hY h hv hnc hlt hat hsz hgood cx hs hK hF hB hk1
  go_enter Tryd.func30, Tryd.ntmps30
  go_upto_region 1 with fail
  rw [HY.out]
  clear HY c0 c1 c2 c3 c4 c5 d1
  have hbx := (G0.out.block W.heap.size _ _ HA.out (by decide) (by decide) (by decide)).trans HA.out
  have e0 := cell_of_heap hbx 0
  have e1 := cell_of_heap hbx 1
  have e2 := cell_of_heap hbx 2
  have e3 := cell_of_heap hbx 3
  have e4 := cell_of_heap hbx 4
  have e5 := cell_of_heap hbx 5
  have d0 := S0.out.effs
  have d1 := S0.out.tree
  simp at e0 e1 e2 e3 e4 e5
  clear hbx
  go_wp2_with fail
  clear e0 e1 e2 e3 e4 e5 d0 d1
  refine (putM_calls ⟨3, 0, 0, 0⟩ S0.out (by have r := R0.out.cost; have hb := HB.out; have hz := HZ.out; omega)).mono ?_
  rintro e X1 ⟨rfl, h1, g1⟩
  obtain ⟨n1, hn1⟩ : ∃ n, (s).out.length = n := ⟨_, rfl⟩
  rw [hn1]
  have H1 := hid hn1
  have tn : n1 < (Cs.put (s) ⟨3, 0, 0, 0⟩).out.length := by rw [← hn1]; simp [Cs.put]
  have S1 := hid h1
  have G1 : Hid (Cf Y X1) := G0.out.trans g1
  have Q1 := hid (Rs.put ns K (s) ⟨3, 0, 0, 0⟩)
  have R1 := hid (R0.out.trans Q1.out)
  have Tn1_1 := hid tn
  clear h1 g1 hn1 tn
  have hbx := (G1.out.block W.heap.size _ _ HA.out (by decide) (by decide) (by decide)).trans HA.out
  have e0 := cell_of_heap hbx 0
  have e1 := cell_of_heap hbx 1
  have e2 := cell_of_heap hbx 2
  have e3 := cell_of_heap hbx 3
  have e4 := cell_of_heap hbx 4
  have e5 := cell_of_heap hbx 5
  have d0 := S1.out.effs
  have d1 := S1.out.tree
  simp at e0 e1 e2 e3 e4 e5
  clear hbx
  go_wp2_with fail
  clear e0 e1 e2 e3 e4 e5 d0 d1
  go_end0
  exact ⟨⟨_, rfl⟩, S1.out, F0.out.trans G1.out⟩

set_option maxHeartbeats 4000000 in
set_option maxRecDepth 100000 in
theorem part_c4 (cx : Cx W0 Mb ae b off es ns) (hk1 : K ≤ 1000) {t : Tp} {ss : List ByteArray} {s : Cs} {v : Value} {W : World} (hF : t.size ≤ F + 1) (hs : Stands ns t) (hK : ss.length + 2 * t.size ≤ K) (hB : s.out.length + 10 * s.rest + 10 * t.size ≤ 950000) (h : CmE W0 Mb (.slice ae es.length ce) (.slice (some ⟨b, off, none⟩) ns.length cap) s W) (hv : NmT W v ss) (ek : t.n.kind = 4) :
    Calls Tryd.prog 30 #[.pointer (some ⟨Mb, 0, none⟩), .int .i64 (t.at_ : Int), v] W (LeadPost W0 Mb (.slice ae es.length ce) (.slice (some ⟨b, off, none⟩) ns.length cap) (s.put ⟨4, 0, 0, 0⟩) W) := by
  obtain ⟨adn, cpn, rfl⟩ := hv.is
  have hnc := cx_nodes cx h
  obtain ⟨hlt, hat, hsz⟩ := hs.lt
  have c0 := hnc t.at_ hlt 0 (by omega)
  have c1 := hnc t.at_ hlt 1 (by omega)
  have c2 := hnc t.at_ hlt 2 (by omega)
  have c3 := hnc t.at_ hlt 3 (by omega)
  have c4 := hnc t.at_ hlt 4 (by omega)
  have c5 := hnc t.at_ hlt 5 (by omega)
  rw [hat] at c0 c1 c2 c3 c4 c5
  simp only [Nd.cell, Nat.add_zero] at c0 c1 c2 c3 c4 c5
  rw [ek] at c0
  have d1 := h.tree
  have hA := (MapKept.heap_alloc W (.cells #[.int .i64 4, .int .i64 t.n.num, .string t.n.a, .string t.n.b, .string t.n.c, .int .i64 t.n.kids] 90)).1
  have hB1 := (Below.refl W.heap.size W).alloc (Nat.le_refl _) (.cells #[.int .i64 4, .int .i64 t.n.num, .string t.n.a, .string t.n.b, .string t.n.c, .int .i64 t.n.kids] 90)
  obtain ⟨Y, hY⟩ : ∃ Y, W.alloc (.cells #[.int .i64 4, .int .i64 t.n.num, .string t.n.a, .string t.n.b, .string t.n.c, .int .i64 t.n.kids] 90) = Y := ⟨_, rfl⟩
  rw [hY] at hA hB1
  have HY := hid hY
  have HA := hid hA
  have S0 := hid (h.below hB1)
  have F0 := hid (Cf.of_below hB1)
  have N0 := hid (hv.frame (Cf.of_below hB1))
  have G0 := hid (Cf.refl Y)
  have R0 := hid (Rs.refl ns K s)
  have hgood := hs.toGood
  have HC : Hid (True) := trivial
  have HZ : Hid (1 ≤ t.size) := t.size_pos
  have hp0 : (0 : Int) ≤ (t.at_ : Int) := by omega
  have hpl : (t.at_ : Int) < (ns.length : Int) := by omega
  have HP1 : Hid (0 < t.k.count → wrap64 ((t.at_ : Int) + 1) = ((t.kid 0).at_ : Int)) := fun h0 => by rw [hs.first h0]; have := cx.tl; unfold wrap64; omega
  have HX := hid cx
  have HS := hid hs
  have HK := hid (And.intro hK (And.intro hF hk1))
  have HB := hid hB
  clear hA hB1 hY h hv hnc hlt hat hsz hgood cx hs hK hF hB hk1
  go_enter Tryd.func30, Tryd.ntmps30
  go_upto_region 1 with fail
  rw [HY.out]
  clear HY c0 c1 c2 c3 c4 c5 d1
  have hbx := (G0.out.block W.heap.size _ _ HA.out (by decide) (by decide) (by decide)).trans HA.out
  have e0 := cell_of_heap hbx 0
  have e1 := cell_of_heap hbx 1
  have e2 := cell_of_heap hbx 2
  have e3 := cell_of_heap hbx 3
  have e4 := cell_of_heap hbx 4
  have e5 := cell_of_heap hbx 5
  have d0 := S0.out.effs
  have d1 := S0.out.tree
  simp at e0 e1 e2 e3 e4 e5
  clear hbx
  go_wp2_with fail
  clear e0 e1 e2 e3 e4 e5 d0 d1
  refine (putM_calls ⟨4, 0, 0, 0⟩ S0.out (by have r := R0.out.cost; have hb := HB.out; have hz := HZ.out; omega)).mono ?_
  rintro e X1 ⟨rfl, h1, g1⟩
  obtain ⟨n1, hn1⟩ : ∃ n, (s).out.length = n := ⟨_, rfl⟩
  rw [hn1]
  have H1 := hid hn1
  have tn : n1 < (Cs.put (s) ⟨4, 0, 0, 0⟩).out.length := by rw [← hn1]; simp [Cs.put]
  have S1 := hid h1
  have G1 : Hid (Cf Y X1) := G0.out.trans g1
  have Q1 := hid (Rs.put ns K (s) ⟨4, 0, 0, 0⟩)
  have R1 := hid (R0.out.trans Q1.out)
  have Tn1_1 := hid tn
  clear h1 g1 hn1 tn
  have hbx := (G1.out.block W.heap.size _ _ HA.out (by decide) (by decide) (by decide)).trans HA.out
  have e0 := cell_of_heap hbx 0
  have e1 := cell_of_heap hbx 1
  have e2 := cell_of_heap hbx 2
  have e3 := cell_of_heap hbx 3
  have e4 := cell_of_heap hbx 4
  have e5 := cell_of_heap hbx 5
  have d0 := S1.out.effs
  have d1 := S1.out.tree
  simp at e0 e1 e2 e3 e4 e5
  clear hbx
  go_wp2_with fail
  clear e0 e1 e2 e3 e4 e5 d0 d1
  go_end0
  exact ⟨⟨_, rfl⟩, S1.out, F0.out.trans G1.out⟩

set_option maxHeartbeats 4000000 in
set_option maxRecDepth 100000 in
theorem part_c5 (cx : Cx W0 Mb ae b off es ns) (hk1 : K ≤ 1000) {t : Tp} {ss : List ByteArray} {s : Cs} {v : Value} {W : World} (hF : t.size ≤ F + 1) (hs : Stands ns t) (hK : ss.length + 2 * t.size ≤ K) (hB : s.out.length + 10 * s.rest + 10 * t.size ≤ 950000) (h : CmE W0 Mb (.slice ae es.length ce) (.slice (some ⟨b, off, none⟩) ns.length cap) s W) (hv : NmT W v ss) (ek : t.n.kind = 5) :
    Calls Tryd.prog 30 #[.pointer (some ⟨Mb, 0, none⟩), .int .i64 (t.at_ : Int), v] W (LeadPost W0 Mb (.slice ae es.length ce) (.slice (some ⟨b, off, none⟩) ns.length cap) (s.put ⟨5, idxZ ss t.n.a, 0, 0⟩) W) := by
  obtain ⟨adn, cpn, rfl⟩ := hv.is
  have hnc := cx_nodes cx h
  obtain ⟨hlt, hat, hsz⟩ := hs.lt
  have c0 := hnc t.at_ hlt 0 (by omega)
  have c1 := hnc t.at_ hlt 1 (by omega)
  have c2 := hnc t.at_ hlt 2 (by omega)
  have c3 := hnc t.at_ hlt 3 (by omega)
  have c4 := hnc t.at_ hlt 4 (by omega)
  have c5 := hnc t.at_ hlt 5 (by omega)
  rw [hat] at c0 c1 c2 c3 c4 c5
  simp only [Nd.cell, Nat.add_zero] at c0 c1 c2 c3 c4 c5
  rw [ek] at c0
  have d1 := h.tree
  have hA := (MapKept.heap_alloc W (.cells #[.int .i64 5, .int .i64 t.n.num, .string t.n.a, .string t.n.b, .string t.n.c, .int .i64 t.n.kids] 90)).1
  have hB1 := (Below.refl W.heap.size W).alloc (Nat.le_refl _) (.cells #[.int .i64 5, .int .i64 t.n.num, .string t.n.a, .string t.n.b, .string t.n.c, .int .i64 t.n.kids] 90)
  obtain ⟨Y, hY⟩ : ∃ Y, W.alloc (.cells #[.int .i64 5, .int .i64 t.n.num, .string t.n.a, .string t.n.b, .string t.n.c, .int .i64 t.n.kids] 90) = Y := ⟨_, rfl⟩
  rw [hY] at hA hB1
  have HY := hid hY
  have HA := hid hA
  have S0 := hid (h.below hB1)
  have F0 := hid (Cf.of_below hB1)
  have N0 := hid (hv.frame (Cf.of_below hB1))
  have G0 := hid (Cf.refl Y)
  have R0 := hid (Rs.refl ns K s)
  have hgood := hs.toGood
  have HC : Hid (True) := trivial
  have HZ : Hid (1 ≤ t.size) := t.size_pos
  have hp0 : (0 : Int) ≤ (t.at_ : Int) := by omega
  have hpl : (t.at_ : Int) < (ns.length : Int) := by omega
  have HP1 : Hid (0 < t.k.count → wrap64 ((t.at_ : Int) + 1) = ((t.kid 0).at_ : Int)) := fun h0 => by rw [hs.first h0]; have := cx.tl; unfold wrap64; omega
  have HX := hid cx
  have HS := hid hs
  have HK := hid (And.intro hK (And.intro hF hk1))
  have HB := hid hB
  clear hA hB1 hY h hv hnc hlt hat hsz hgood cx hs hK hF hB hk1
  go_enter Tryd.func30, Tryd.ntmps30
  go_upto_region 1 with fail
  rw [HY.out]
  clear HY c0 c1 c2 c3 c4 c5 d1
  have hbx := (G0.out.block W.heap.size _ _ HA.out (by decide) (by decide) (by decide)).trans HA.out
  have e0 := cell_of_heap hbx 0
  have e1 := cell_of_heap hbx 1
  have e2 := cell_of_heap hbx 2
  have e3 := cell_of_heap hbx 3
  have e4 := cell_of_heap hbx 4
  have e5 := cell_of_heap hbx 5
  have d0 := S0.out.effs
  have d1 := S0.out.tree
  simp at e0 e1 e2 e3 e4 e5
  clear hbx
  go_wp2_with fail
  clear e0 e1 e2 e3 e4 e5 d0 d1
  refine (index_calls (ss := ss) t.n.a Y N0.out.names (by have := HK.out; omega)).mono ?_
  rintro e Xi ⟨rfl, rfl⟩
  have hbx := (G0.out.block W.heap.size _ _ HA.out (by decide) (by decide) (by decide)).trans HA.out
  have e0 := cell_of_heap hbx 0
  have e1 := cell_of_heap hbx 1
  have e2 := cell_of_heap hbx 2
  have e3 := cell_of_heap hbx 3
  have e4 := cell_of_heap hbx 4
  have e5 := cell_of_heap hbx 5
  have d0 := S0.out.effs
  have d1 := S0.out.tree
  simp at e0 e1 e2 e3 e4 e5
  clear hbx
  go_wp2_with fail
  clear e0 e1 e2 e3 e4 e5 d0 d1
  refine (putM_calls ⟨5, idxZ ss t.n.a, 0, 0⟩ S0.out (by have r := R0.out.cost; have hb := HB.out; have hz := HZ.out; omega)).mono ?_
  rintro e X1 ⟨rfl, h1, g1⟩
  obtain ⟨n1, hn1⟩ : ∃ n, (s).out.length = n := ⟨_, rfl⟩
  rw [hn1]
  have H1 := hid hn1
  have tn : n1 < (Cs.put (s) ⟨5, idxZ ss t.n.a, 0, 0⟩).out.length := by rw [← hn1]; simp [Cs.put]
  have S1 := hid h1
  have G1 : Hid (Cf Y X1) := G0.out.trans g1
  have Q1 := hid (Rs.put ns K (s) ⟨5, idxZ ss t.n.a, 0, 0⟩)
  have R1 := hid (R0.out.trans Q1.out)
  have Tn1_1 := hid tn
  clear h1 g1 hn1 tn
  have hbx := (G1.out.block W.heap.size _ _ HA.out (by decide) (by decide) (by decide)).trans HA.out
  have e0 := cell_of_heap hbx 0
  have e1 := cell_of_heap hbx 1
  have e2 := cell_of_heap hbx 2
  have e3 := cell_of_heap hbx 3
  have e4 := cell_of_heap hbx 4
  have e5 := cell_of_heap hbx 5
  have d0 := S1.out.effs
  have d1 := S1.out.tree
  simp at e0 e1 e2 e3 e4 e5
  clear hbx
  go_wp2_with fail
  clear e0 e1 e2 e3 e4 e5 d0 d1
  go_end0
  exact ⟨⟨_, rfl⟩, S1.out, F0.out.trans G1.out⟩

set_option maxHeartbeats 4000000 in
set_option maxRecDepth 100000 in
theorem part_c6 (cx : Cx W0 Mb ae b off es ns) (hk1 : K ≤ 1000) {t : Tp} {ss : List ByteArray} {s : Cs} {v : Value} {W : World} (hF : t.size ≤ F + 1) (hs : Stands ns t) (hK : ss.length + 2 * t.size ≤ K) (hB : s.out.length + 10 * s.rest + 10 * t.size ≤ 950000) (h : CmE W0 Mb (.slice ae es.length ce) (.slice (some ⟨b, off, none⟩) ns.length cap) s W) (hv : NmT W v ss) (ek : t.n.kind = 6) :
    Calls Tryd.prog 30 #[.pointer (some ⟨Mb, 0, none⟩), .int .i64 (t.at_ : Int), v] W (LeadPost W0 Mb (.slice ae es.length ce) (.slice (some ⟨b, off, none⟩) ns.length cap) ((s.put ⟨6, 0, 0, 0⟩).wait ⟨t.kid 0, ss ++ [t.n.a], s.out.length, 0⟩) W) := by
  obtain ⟨adn, cpn, rfl⟩ := hv.is
  have hnc := cx_nodes cx h
  obtain ⟨hlt, hat, hsz⟩ := hs.lt
  have c0 := hnc t.at_ hlt 0 (by omega)
  have c1 := hnc t.at_ hlt 1 (by omega)
  have c2 := hnc t.at_ hlt 2 (by omega)
  have c3 := hnc t.at_ hlt 3 (by omega)
  have c4 := hnc t.at_ hlt 4 (by omega)
  have c5 := hnc t.at_ hlt 5 (by omega)
  rw [hat] at c0 c1 c2 c3 c4 c5
  simp only [Nd.cell, Nat.add_zero] at c0 c1 c2 c3 c4 c5
  rw [ek] at c0
  have d1 := h.tree
  have hA := (MapKept.heap_alloc W (.cells #[.int .i64 6, .int .i64 t.n.num, .string t.n.a, .string t.n.b, .string t.n.c, .int .i64 t.n.kids] 90)).1
  have hB1 := (Below.refl W.heap.size W).alloc (Nat.le_refl _) (.cells #[.int .i64 6, .int .i64 t.n.num, .string t.n.a, .string t.n.b, .string t.n.c, .int .i64 t.n.kids] 90)
  obtain ⟨Y, hY⟩ : ∃ Y, W.alloc (.cells #[.int .i64 6, .int .i64 t.n.num, .string t.n.a, .string t.n.b, .string t.n.c, .int .i64 t.n.kids] 90) = Y := ⟨_, rfl⟩
  rw [hY] at hA hB1
  have HY := hid hY
  have HA := hid hA
  have S0 := hid (h.below hB1)
  have F0 := hid (Cf.of_below hB1)
  have N0 := hid (hv.frame (Cf.of_below hB1))
  have G0 := hid (Cf.refl Y)
  have R0 := hid (Rs.refl ns K s)
  have hgood := hs.toGood
  have HC : Hid (t.k.count = 1) := count_of hgood ek (c := 1) rfl
  have HZ : Hid ((t.kid 0).size + 1 = t.size ∧ 1 ≤ (t.kid 0).size) := ⟨(kids1 HC.out).2, (t.kid 0).size_pos⟩
  have hp0 : (0 : Int) ≤ (t.at_ : Int) := by omega
  have hpl : (t.at_ : Int) < (ns.length : Int) := by omega
  have HP1 : Hid (0 < t.k.count → wrap64 ((t.at_ : Int) + 1) = ((t.kid 0).at_ : Int)) := fun h0 => by rw [hs.first h0]; have := cx.tl; unfold wrap64; omega
  have HX := hid cx
  have HS := hid hs
  have HK := hid (And.intro hK (And.intro hF hk1))
  have HB := hid hB
  clear hA hB1 hY h hv hnc hlt hat hsz hgood cx hs hK hF hB hk1
  go_enter Tryd.func30, Tryd.ntmps30
  go_upto_region 1 with fail
  rw [HY.out]
  clear HY c0 c1 c2 c3 c4 c5 d1
  have hbx := (G0.out.block W.heap.size _ _ HA.out (by decide) (by decide) (by decide)).trans HA.out
  have e0 := cell_of_heap hbx 0
  have e1 := cell_of_heap hbx 1
  have e2 := cell_of_heap hbx 2
  have e3 := cell_of_heap hbx 3
  have e4 := cell_of_heap hbx 4
  have e5 := cell_of_heap hbx 5
  have d0 := S0.out.effs
  have d1 := S0.out.tree
  simp at e0 e1 e2 e3 e4 e5
  clear hbx
  go_wp2_with fail
  clear e0 e1 e2 e3 e4 e5 d0 d1
  refine (withN_calls (ss := ss) (ms := [t.n.a]) _ ((N0.out.frame G0.out).names.below ((Below.refl _ _).alloc (Nat.le_refl _) _)) (lit_names Y [t.n.a]) (by have := HK.out; have := HZ.out; simp only [List.length_cons, List.length_nil]; omega)).mono ?_
  rintro e X1 ⟨u1, rfl, hu1, hb1⟩
  have B1 : Below Y.heap.size Y X1 := ((Below.refl _ _).alloc (Nat.le_refl _) _).trans (hb1.mono (by simp))
  have U1 := hid hu1
  have S1 := hid (S0.out.below B1)
  have G1 : Hid (Cf Y X1) := G0.out.trans (Cf.of_below B1)
  have R1 := R0
  clear hu1 hb1 B1
  have hbx := (G1.out.block W.heap.size _ _ HA.out (by decide) (by decide) (by decide)).trans HA.out
  have e0 := cell_of_heap hbx 0
  have e1 := cell_of_heap hbx 1
  have e2 := cell_of_heap hbx 2
  have e3 := cell_of_heap hbx 3
  have e4 := cell_of_heap hbx 4
  have e5 := cell_of_heap hbx 5
  have d0 := S1.out.effs
  have d1 := S1.out.tree
  simp at e0 e1 e2 e3 e4 e5
  clear hbx
  go_wp2_with fail
  clear e0 e1 e2 e3 e4 e5 d0 d1
  refine (putM_calls ⟨6, 0, 0, 0⟩ S1.out (by have r := R1.out.cost; have hb := HB.out; have hz := HZ.out; omega)).mono ?_
  rintro e X2 ⟨rfl, h1, g1⟩
  obtain ⟨n2, hn2⟩ : ∃ n, (s).out.length = n := ⟨_, rfl⟩
  rw [hn2]
  have H2 := hid hn2
  have tn : n2 < (Cs.put (s) ⟨6, 0, 0, 0⟩).out.length := by rw [← hn2]; simp [Cs.put]
  have S2 := hid h1
  have G2 : Hid (Cf Y X2) := G1.out.trans g1
  have Q2 := hid (Rs.put ns K (s) ⟨6, 0, 0, 0⟩)
  have R2 := hid (R1.out.trans Q2.out)
  have D1_2 : Hid (Cf X1 X2) := g1
  have Tn2_2 := hid tn
  clear h1 g1 hn2 tn
  have hbx := (G2.out.block W.heap.size _ _ HA.out (by decide) (by decide) (by decide)).trans HA.out
  have e0 := cell_of_heap hbx 0
  have e1 := cell_of_heap hbx 1
  have e2 := cell_of_heap hbx 2
  have e3 := cell_of_heap hbx 3
  have e4 := cell_of_heap hbx 4
  have e5 := cell_of_heap hbx 5
  have d0 := S2.out.effs
  have d1 := S2.out.tree
  simp at e0 e1 e2 e3 e4 e5
  clear hbx
  go_wp2_with fail
  clear e0 e1 e2 e3 e4 e5 d0 d1
  rw [HP1.out (by have := HC.out; omega)]
  refine (wait_calls ⟨t.kid 0, ss ++ [t.n.a], n2, 0⟩ S2.out (by have hl := later_le ((Cs.put (s) ⟨6, 0, 0, 0⟩)); have r := R2.out.cost; have hb := HB.out; have hz := HZ.out; omega) (U1.out.frame D1_2.out)).mono ?_
  rintro e X3 ⟨⟨x3, rfl⟩, h1, g1⟩
  have S3 := hid h1
  have G3 : Hid (Cf Y X3) := G2.out.trans g1
  have Q3 := hid (Rs.wait (ns := ns) (K := K) (s := (Cs.put (s) ⟨6, 0, 0, 0⟩)) (l := ⟨t.kid 0, ss ++ [t.n.a], n2, 0⟩) (HS.out.kid (by have := HC.out; omega)) (by have := HK.out; have := HZ.out; simp only [List.length_append, List.length_cons, List.length_nil]; omega) Tn2_2.out)
  have R3 := hid (R2.out.trans Q3.out)
  have Tn2_3 := hid (Nat.lt_of_lt_of_le Tn2_2.out Q3.out.out)
  have D1_3 : Hid (Cf X1 X3) := D1_2.out.trans g1
  clear h1 g1
  have hbx := (G3.out.block W.heap.size _ _ HA.out (by decide) (by decide) (by decide)).trans HA.out
  have e0 := cell_of_heap hbx 0
  have e1 := cell_of_heap hbx 1
  have e2 := cell_of_heap hbx 2
  have e3 := cell_of_heap hbx 3
  have e4 := cell_of_heap hbx 4
  have e5 := cell_of_heap hbx 5
  have d0 := S3.out.effs
  have d1 := S3.out.tree
  simp at e0 e1 e2 e3 e4 e5
  clear hbx
  go_wp2_with fail
  clear e0 e1 e2 e3 e4 e5 d0 d1
  go_end0
  have qn2 := H2.out
  subst qn2
  exact ⟨⟨_, rfl⟩, S3.out, F0.out.trans G3.out⟩

set_option maxHeartbeats 4000000 in
set_option maxRecDepth 100000 in
theorem part_c8 (cx : Cx W0 Mb ae b off es ns) (hk1 : K ≤ 1000) (ih : PartC W0 Mb ae ce b off cap es ns K F) {t : Tp} {ss : List ByteArray} {s : Cs} {v : Value} {W : World} (hF : t.size ≤ F + 1) (hs : Stands ns t) (hK : ss.length + 2 * t.size ≤ K) (hB : s.out.length + 10 * s.rest + 10 * t.size ≤ 950000) (h : CmE W0 Mb (.slice ae es.length ce) (.slice (some ⟨b, off, none⟩) ns.length cap) s W) (hv : NmT W v ss) (ek : t.n.kind = 8) :
    Calls Tryd.prog 30 #[.pointer (some ⟨Mb, 0, none⟩), .int .i64 (t.at_ : Int), v] W (LeadPost W0 Mb (.slice ae es.length ce) (.slice (some ⟨b, off, none⟩) ns.length cap) (boundZ (partZ es F) (t.kid 1) (ss ++ [t.n.a]) (partZ es F (t.kid 0) ss s)) W) := by
  obtain ⟨adn, cpn, rfl⟩ := hv.is
  have hnc := cx_nodes cx h
  obtain ⟨hlt, hat, hsz⟩ := hs.lt
  have c0 := hnc t.at_ hlt 0 (by omega)
  have c1 := hnc t.at_ hlt 1 (by omega)
  have c2 := hnc t.at_ hlt 2 (by omega)
  have c3 := hnc t.at_ hlt 3 (by omega)
  have c4 := hnc t.at_ hlt 4 (by omega)
  have c5 := hnc t.at_ hlt 5 (by omega)
  rw [hat] at c0 c1 c2 c3 c4 c5
  simp only [Nd.cell, Nat.add_zero] at c0 c1 c2 c3 c4 c5
  rw [ek] at c0
  have d1 := h.tree
  have hA := (MapKept.heap_alloc W (.cells #[.int .i64 8, .int .i64 t.n.num, .string t.n.a, .string t.n.b, .string t.n.c, .int .i64 t.n.kids] 90)).1
  have hB1 := (Below.refl W.heap.size W).alloc (Nat.le_refl _) (.cells #[.int .i64 8, .int .i64 t.n.num, .string t.n.a, .string t.n.b, .string t.n.c, .int .i64 t.n.kids] 90)
  obtain ⟨Y, hY⟩ : ∃ Y, W.alloc (.cells #[.int .i64 8, .int .i64 t.n.num, .string t.n.a, .string t.n.b, .string t.n.c, .int .i64 t.n.kids] 90) = Y := ⟨_, rfl⟩
  rw [hY] at hA hB1
  have HY := hid hY
  have HA := hid hA
  have S0 := hid (h.below hB1)
  have F0 := hid (Cf.of_below hB1)
  have N0 := hid (hv.frame (Cf.of_below hB1))
  have G0 := hid (Cf.refl Y)
  have R0 := hid (Rs.refl ns K s)
  have hgood := hs.toGood
  have HC : Hid (t.k.count = 2) := count_of hgood ek (c := 2) rfl
  have HZ : Hid ((t.kid 0).size + (t.kid 1).size + 1 = t.size ∧ 1 ≤ (t.kid 0).size ∧ 1 ≤ (t.kid 1).size) := ⟨(kids2 HC.out).2, (t.kid 0).size_pos, (t.kid 1).size_pos⟩
  have hp0 : (0 : Int) ≤ (t.at_ : Int) := by omega
  have hpl : (t.at_ : Int) < (ns.length : Int) := by omega
  have HP1 : Hid (0 < t.k.count → wrap64 ((t.at_ : Int) + 1) = ((t.kid 0).at_ : Int)) := fun h0 => by rw [hs.first h0]; have := cx.tl; unfold wrap64; omega
  have HX := hid cx
  have HIH := hid ih
  have HS := hid hs
  have HK := hid (And.intro hK (And.intro hF hk1))
  have HB := hid hB
  clear hA hB1 hY h hv hnc hlt hat hsz hgood cx ih hs hK hF hB hk1
  go_enter Tryd.func30, Tryd.ntmps30
  go_upto_region 1 with fail
  rw [HY.out]
  clear HY c0 c1 c2 c3 c4 c5 d1
  have hbx := (G0.out.block W.heap.size _ _ HA.out (by decide) (by decide) (by decide)).trans HA.out
  have e0 := cell_of_heap hbx 0
  have e1 := cell_of_heap hbx 1
  have e2 := cell_of_heap hbx 2
  have e3 := cell_of_heap hbx 3
  have e4 := cell_of_heap hbx 4
  have e5 := cell_of_heap hbx 5
  have d0 := S0.out.effs
  have d1 := S0.out.tree
  simp at e0 e1 e2 e3 e4 e5
  clear hbx
  go_wp2_with fail
  clear e0 e1 e2 e3 e4 e5 d0 d1
  rw [HP1.out (by have := HC.out; omega)]
  refine (HIH.out (t.kid 0) (ss) (s) _ _ (by have := HZ.out; have := HK.out; omega) (HS.out.kid (by have := HC.out; omega)) (by have := HK.out; have := HZ.out; (try simp only [List.length_append, List.length_cons, List.length_nil]); omega) (by have r := R0.out.cost; have hb := HB.out; have hz := HZ.out; omega) S0.out (N0.out.frame G0.out)).mono ?_
  rintro e X1 ⟨⟨x1, rfl⟩, h1, g1⟩
  have S1 := hid h1
  have G1 : Hid (Cf Y X1) := G0.out.trans g1
  have Q1 := hid (part_r (ns := ns) (K := K) (es := es) F (t.kid 0) (ss) (s) (by have := HZ.out; have := HK.out; omega) (HS.out.kid (by have := HC.out; omega)) (by have := HK.out; have := HZ.out; (try simp only [List.length_append, List.length_cons, List.length_nil]); omega))
  have R1 := hid (R0.out.trans Q1.out)
  clear h1 g1
  have hbx := (G1.out.block W.heap.size _ _ HA.out (by decide) (by decide) (by decide)).trans HA.out
  have e0 := cell_of_heap hbx 0
  have e1 := cell_of_heap hbx 1
  have e2 := cell_of_heap hbx 2
  have e3 := cell_of_heap hbx 3
  have e4 := cell_of_heap hbx 4
  have e5 := cell_of_heap hbx 5
  have d0 := S1.out.effs
  have d1 := S1.out.tree
  simp at e0 e1 e2 e3 e4 e5
  clear hbx
  go_upto_region 21 with fail
  have hD : Below X1.heap.size X1 X1.drew := (Below.refl _ _).drew
  obtain ⟨D2, hDe⟩ : ∃ D, X1.drew = D := ⟨_, rfl⟩
  rw [hDe] at hD
  have S2 := hid (S1.out.below hD)
  have G2 : Hid (Cf Y D2) := G1.out.trans (Cf.of_below hD)
  have R2 := R1
  have hS : (fun w' : World => w'.cell? ⟨Mb, 1, none⟩ = some (.slice (some ⟨b, off, none⟩) ns.length cap) ∧ w'.cell? ⟨W.heap.size, 2, none⟩ = some (.string t.n.a)) D2 := ⟨S2.out.tree, by rw [← hDe]; exact e2⟩
  refine pick_begin (S := fun w' => w'.cell? ⟨Mb, 1, none⟩ = some (.slice (some ⟨b, off, none⟩) ns.length cap) ∧ w'.cell? ⟨W.heap.size, 2, none⟩ = some (.string t.n.a)) (by kernel_rfl) rfl rfl ?_
  rw [hDe]
  clear hDe hD
  clear e0 e1 e2 e3 e4 e5 d0 d1
  refine pick_op (i := 0) (v := .pointer (some ⟨Mb, 0, none⟩)) (by kernel_rfl) rfl (by kernel_rfl) (by kernel_rfl) rfl rfl (fun w' _ => by simp [go_sem]) hS (by simp [go_sem]; exact rfl) ?_
  refine pick_op (i := 1) (v := .pointer (some ⟨Mb, 0, none⟩)) (by kernel_rfl) rfl (by kernel_rfl) (by kernel_rfl) rfl rfl (fun w' _ => by simp [go_sem]) hS (by simp [go_sem]; exact rfl) ?_
  refine pick_op (i := 2) (v := .pointer (some ⟨Mb, 0, none⟩)) (by kernel_rfl) rfl (by kernel_rfl) (by kernel_rfl) rfl rfl (fun w' _ => by simp [go_sem]) hS (by simp [go_sem]; exact rfl) ?_
  refine pick_op (i := 3) (v := .pointer (some ⟨Mb, 0, none⟩)) (by kernel_rfl) rfl (by kernel_rfl) (by kernel_rfl) rfl rfl (fun w' _ => by simp [go_sem]) hS (by simp [go_sem]; exact rfl) ?_
  refine pick_op (i := 4) (v := .pointer (some ⟨Mb, 1, none⟩)) (by kernel_rfl) rfl (by kernel_rfl) (by kernel_rfl) rfl rfl (fun w' _ => by simp [go_sem]) hS (by simp [go_sem]; exact rfl) ?_
  refine pick_op (i := 5) (v := .slice (some ⟨b, off, none⟩) ns.length cap) (by kernel_rfl) rfl (by kernel_rfl) (by kernel_rfl) rfl rfl (fun w' h => by simp [go_sem, h.1]) hS (by simp [go_sem]; exact rfl) ?_
  refine pick_op (i := 6) (v := .int .i64 (t.at_ : Int)) (by kernel_rfl) rfl (by kernel_rfl) (by kernel_rfl) rfl rfl (fun w' _ => by simp [go_sem]) hS (by simp [go_sem]; exact rfl) ?_
  refine pick_op (i := 8) (v := .slice adn ss.length cpn) (by kernel_rfl) rfl (by kernel_rfl) (by kernel_rfl) rfl rfl (fun w' _ => by simp [go_sem]) hS (by simp [go_sem]; exact rfl) ?_
  refine pick_op (i := 9) (v := .pointer (some ⟨W.heap.size, 2, none⟩)) (by kernel_rfl) rfl (by kernel_rfl) (by kernel_rfl) rfl rfl (fun w' _ => by simp [go_sem]) hS (by simp [go_sem]; exact rfl) ?_
  refine pick_op (i := 10) (v := .string t.n.a) (by kernel_rfl) rfl (by kernel_rfl) (by kernel_rfl) rfl rfl (fun w' h => by simp [go_sem, h.2]) hS (by simp [go_sem]; exact rfl) ?_
  refine pick_other (i := 7) (j := 11) (by kernel_rfl) ?_ ?_
  · have HQ : Hid (W.heap.size < D2.heap.size) := heap_lt ((G2.out.block W.heap.size _ _ HA.out (by decide) (by decide) (by decide)).trans HA.out)
    refine ⟨_, 47, #[.slice (some ⟨b, off, none⟩) ns.length cap, .int .i64 (t.at_ : Int), .int .i64 (1 : Int)], rfl, rfl, by simp [go_sem], ?_⟩
    refine (kid_calls (cap := cap) 1 D2 (cx_nodes HX.out S2.out) HX.out.tl HS.out (by have := HC.out; omega)).mono ?_
    rintro e Xk ⟨rfl, rfl⟩
    refine ⟨_, rfl, hS, ?_⟩
    refine pick_frame (by simp [go_sem]; exact rfl) ?_
    have hA1 : Below D2.heap.size D2 (D2.alloc (.cells #[.string t.n.a] 9)) := (Below.refl _ _).alloc (Nat.le_refl _) _
    have hS1 : (fun w' : World => w'.cell? ⟨Mb, 1, none⟩ = some (.slice (some ⟨b, off, none⟩) ns.length cap) ∧ w'.cell? ⟨W.heap.size, 2, none⟩ = some (.string t.n.a)) (D2.alloc (.cells #[.string t.n.a] 9)) := ⟨(hA1.cell (heap_at S2.out)).trans hS.1, (hA1.cell HQ.out).trans hS.2⟩
    refine pick_make (i := 11) (v := .slice (some ⟨D2.heap.size, 0, none⟩) 1 1) (w1 := D2.alloc (.cells #[.string t.n.a] 9)) rfl (by kernel_rfl) rfl rfl (by simp [go_sem]) hS1 (by simp [go_sem]; exact rfl) ?_
    refine pick_enter (i := 12) (f := 45) (args := #[.slice adn ss.length cpn, .slice (some ⟨D2.heap.size, 0, none⟩) 1 1]) rfl (by kernel_rfl) rfl rfl (by simp [go_sem]) ?_
    refine (withN_calls (ss := ss) (ms := [t.n.a]) _ ((N0.out.frame G2.out).names.below hA1) (lit_names D2 [t.n.a]) (by have := HK.out; have := HZ.out; simp only [List.length_cons, List.length_nil]; omega)).mono ?_
    rintro e X3 ⟨u3, rfl, hu3, hb3⟩
    have B3 : Below D2.heap.size D2 X3 := hA1.trans (hb3.mono (by simp))
    have hS2 : (fun w' : World => w'.cell? ⟨Mb, 1, none⟩ = some (.slice (some ⟨b, off, none⟩) ns.length cap) ∧ w'.cell? ⟨W.heap.size, 2, none⟩ = some (.string t.n.a)) X3 := ⟨(B3.cell (heap_at S2.out)).trans hS.1, (B3.cell HQ.out).trans hS.2⟩
    have U3 := hid hu3
    have S3 := hid (S2.out.below B3)
    have G3 : Hid (Cf Y X3) := G2.out.trans (Cf.of_below B3)
    have R3 := R2
    clear hu3 hb3 B3 hS hS1 hA1
    refine ⟨u3, rfl, hS2, ?_⟩
    refine pick_frame (by simp [go_sem]; exact rfl) ?_
    refine pick_enter (i := 13) (f := 46) (args := #[.pointer (some ⟨Mb, 0, none⟩), .int .i64 ((t.kid 1).at_ : Int), u3]) rfl (by kernel_rfl) rfl rfl (by simp [go_sem]) ?_
    refine (bound_calls HIH.out (t := t.kid 1) (ss := ss ++ [t.n.a]) (by have := HZ.out; have := HK.out; omega) (HS.out.kid (by have := HC.out; omega)) (by have := HK.out; have := HZ.out; simp only [List.length_append, List.length_cons, List.length_nil]; omega) (by have r := R3.out.cost; have hb := HB.out; have hz := HZ.out; omega) S3.out (U3.out.frame (Cf.refl _))).mono ?_
    rintro e X4 ⟨⟨x4, rfl⟩, h1, g1⟩
    have S4 := hid h1
    have G4 : Hid (Cf Y X4) := G3.out.trans g1
    have Q4 := hid (bound_r (part_r (ns := ns) (K := K) (es := es) F) (t := t.kid 1) (ss := ss ++ [t.n.a]) ((partZ es F (t.kid 0) (ss) (s))) (by have := HZ.out; have := HK.out; omega) (HS.out.kid (by have := HC.out; omega)) (by have := HK.out; have := HZ.out; simp only [List.length_append, List.length_cons, List.length_nil]; omega))
    have R4 := hid (R3.out.trans Q4.out)
    have D3_4 : Hid (Cf X3 X4) := g1
    have hbx := (G4.out.block W.heap.size _ _ HA.out (by decide) (by decide) (by decide)).trans HA.out
    refine ⟨x4, rfl, ⟨S4.out.tree, cell_of_heap hbx 2⟩, ?_⟩
    clear h1 g1 hbx hS2 HQ
    refine pick_frame (by simp [go_sem]; exact rfl) ?_
    refine pick_end (by kernel_rfl) ?_
    have hbx := (G4.out.block W.heap.size _ _ HA.out (by decide) (by decide) (by decide)).trans HA.out
    have e0 := cell_of_heap hbx 0
    have e1 := cell_of_heap hbx 1
    have e2 := cell_of_heap hbx 2
    have e3 := cell_of_heap hbx 3
    have e4 := cell_of_heap hbx 4
    have e5 := cell_of_heap hbx 5
    have d0 := S4.out.effs
    have d1 := S4.out.tree
    simp at e0 e1 e2 e3 e4 e5
    clear hbx
    go_wp2_with fail
    clear e0 e1 e2 e3 e4 e5 d0 d1
    go_end0
    exact ⟨⟨_, rfl⟩, S4.out, F0.out.trans G4.out⟩
  · have HQ : Hid (W.heap.size < D2.heap.size) := heap_lt ((G2.out.block W.heap.size _ _ HA.out (by decide) (by decide) (by decide)).trans HA.out)
    have hA1 : Below D2.heap.size D2 (D2.alloc (.cells #[.string t.n.a] 9)) := (Below.refl _ _).alloc (Nat.le_refl _) _
    have hS1 : (fun w' : World => w'.cell? ⟨Mb, 1, none⟩ = some (.slice (some ⟨b, off, none⟩) ns.length cap) ∧ w'.cell? ⟨W.heap.size, 2, none⟩ = some (.string t.n.a)) (D2.alloc (.cells #[.string t.n.a] 9)) := ⟨(hA1.cell (heap_at S2.out)).trans hS.1, (hA1.cell HQ.out).trans hS.2⟩
    refine ⟨_, .slice (some ⟨D2.heap.size, 0, none⟩) 1 1, D2.alloc (.cells #[.string t.n.a] 9), rfl, rfl, by simp [go_sem], hS1, ?_⟩
    refine pick_frame (by simp [go_sem]; exact rfl) ?_
    refine pick_enter (i := 7) (f := 47) (args := #[.slice (some ⟨b, off, none⟩) ns.length cap, .int .i64 (t.at_ : Int), .int .i64 (1 : Int)]) rfl (by kernel_rfl) rfl rfl (by simp [go_sem]) ?_
    refine (kid_calls (cap := cap) 1 _ (cx_nodes HX.out (S2.out.below hA1)) HX.out.tl HS.out (by have := HC.out; omega)).mono ?_
    rintro e Xk ⟨rfl, rfl⟩
    refine ⟨_, rfl, hS1, ?_⟩
    refine pick_frame (by simp [go_sem]; exact rfl) ?_
    refine pick_enter (i := 12) (f := 45) (args := #[.slice adn ss.length cpn, .slice (some ⟨D2.heap.size, 0, none⟩) 1 1]) rfl (by kernel_rfl) rfl rfl (by simp [go_sem]) ?_
    refine (withN_calls (ss := ss) (ms := [t.n.a]) _ ((N0.out.frame G2.out).names.below hA1) (lit_names D2 [t.n.a]) (by have := HK.out; have := HZ.out; simp only [List.length_cons, List.length_nil]; omega)).mono ?_
    rintro e X3 ⟨u3, rfl, hu3, hb3⟩
    have B3 : Below D2.heap.size D2 X3 := hA1.trans (hb3.mono (by simp))
    have hS2 : (fun w' : World => w'.cell? ⟨Mb, 1, none⟩ = some (.slice (some ⟨b, off, none⟩) ns.length cap) ∧ w'.cell? ⟨W.heap.size, 2, none⟩ = some (.string t.n.a)) X3 := ⟨(B3.cell (heap_at S2.out)).trans hS.1, (B3.cell HQ.out).trans hS.2⟩
    have U3 := hid hu3
    have S3 := hid (S2.out.below B3)
    have G3 : Hid (Cf Y X3) := G2.out.trans (Cf.of_below B3)
    have R3 := R2
    clear hu3 hb3 B3 hS hS1 hA1
    refine ⟨u3, rfl, hS2, ?_⟩
    refine pick_frame (by simp [go_sem]; exact rfl) ?_
    refine pick_enter (i := 13) (f := 46) (args := #[.pointer (some ⟨Mb, 0, none⟩), .int .i64 ((t.kid 1).at_ : Int), u3]) rfl (by kernel_rfl) rfl rfl (by simp [go_sem]) ?_
    refine (bound_calls HIH.out (t := t.kid 1) (ss := ss ++ [t.n.a]) (by have := HZ.out; have := HK.out; omega) (HS.out.kid (by have := HC.out; omega)) (by have := HK.out; have := HZ.out; simp only [List.length_append, List.length_cons, List.length_nil]; omega) (by have r := R3.out.cost; have hb := HB.out; have hz := HZ.out; omega) S3.out (U3.out.frame (Cf.refl _))).mono ?_
    rintro e X4 ⟨⟨x4, rfl⟩, h1, g1⟩
    have S4 := hid h1
    have G4 : Hid (Cf Y X4) := G3.out.trans g1
    have Q4 := hid (bound_r (part_r (ns := ns) (K := K) (es := es) F) (t := t.kid 1) (ss := ss ++ [t.n.a]) ((partZ es F (t.kid 0) (ss) (s))) (by have := HZ.out; have := HK.out; omega) (HS.out.kid (by have := HC.out; omega)) (by have := HK.out; have := HZ.out; simp only [List.length_append, List.length_cons, List.length_nil]; omega))
    have R4 := hid (R3.out.trans Q4.out)
    have D3_4 : Hid (Cf X3 X4) := g1
    have hbx := (G4.out.block W.heap.size _ _ HA.out (by decide) (by decide) (by decide)).trans HA.out
    refine ⟨x4, rfl, ⟨S4.out.tree, cell_of_heap hbx 2⟩, ?_⟩
    clear h1 g1 hbx hS2 HQ
    refine pick_frame (by simp [go_sem]; exact rfl) ?_
    refine pick_end (by kernel_rfl) ?_
    have hbx := (G4.out.block W.heap.size _ _ HA.out (by decide) (by decide) (by decide)).trans HA.out
    have e0 := cell_of_heap hbx 0
    have e1 := cell_of_heap hbx 1
    have e2 := cell_of_heap hbx 2
    have e3 := cell_of_heap hbx 3
    have e4 := cell_of_heap hbx 4
    have e5 := cell_of_heap hbx 5
    have d0 := S4.out.effs
    have d1 := S4.out.tree
    simp at e0 e1 e2 e3 e4 e5
    clear hbx
    go_wp2_with fail
    clear e0 e1 e2 e3 e4 e5 d0 d1
    go_end0
    exact ⟨⟨_, rfl⟩, S4.out, F0.out.trans G4.out⟩

set_option maxHeartbeats 4000000 in
set_option maxRecDepth 100000 in
theorem part_c9 (cx : Cx W0 Mb ae b off es ns) (hk1 : K ≤ 1000) (ih : PartC W0 Mb ae ce b off cap es ns K F) {t : Tp} {ss : List ByteArray} {s : Cs} {v : Value} {W : World} (hF : t.size ≤ F + 1) (hs : Stands ns t) (hK : ss.length + 2 * t.size ≤ K) (hB : s.out.length + 10 * s.rest + 10 * t.size ≤ 950000) (h : CmE W0 Mb (.slice ae es.length ce) (.slice (some ⟨b, off, none⟩) ns.length cap) s W) (hv : NmT W v ss) (ek : t.n.kind = 9) :
    Calls Tryd.prog 30 #[.pointer (some ⟨Mb, 0, none⟩), .int .i64 (t.at_ : Int), v] W (LeadPost W0 Mb (.slice ae es.length ce) (.slice (some ⟨b, off, none⟩) ns.length cap) (boundZ (partZ es F) (t.kid 1) (ss ++ [t.n.a]) ((s.put ⟨7, 0, 0, 0⟩).wait ⟨t.kid 0, ss ++ [t.n.a, t.n.b], s.out.length, 0⟩)) W) := by
  obtain ⟨adn, cpn, rfl⟩ := hv.is
  have hnc := cx_nodes cx h
  obtain ⟨hlt, hat, hsz⟩ := hs.lt
  have c0 := hnc t.at_ hlt 0 (by omega)
  have c1 := hnc t.at_ hlt 1 (by omega)
  have c2 := hnc t.at_ hlt 2 (by omega)
  have c3 := hnc t.at_ hlt 3 (by omega)
  have c4 := hnc t.at_ hlt 4 (by omega)
  have c5 := hnc t.at_ hlt 5 (by omega)
  rw [hat] at c0 c1 c2 c3 c4 c5
  simp only [Nd.cell, Nat.add_zero] at c0 c1 c2 c3 c4 c5
  rw [ek] at c0
  have d1 := h.tree
  have hA := (MapKept.heap_alloc W (.cells #[.int .i64 9, .int .i64 t.n.num, .string t.n.a, .string t.n.b, .string t.n.c, .int .i64 t.n.kids] 90)).1
  have hB1 := (Below.refl W.heap.size W).alloc (Nat.le_refl _) (.cells #[.int .i64 9, .int .i64 t.n.num, .string t.n.a, .string t.n.b, .string t.n.c, .int .i64 t.n.kids] 90)
  obtain ⟨Y, hY⟩ : ∃ Y, W.alloc (.cells #[.int .i64 9, .int .i64 t.n.num, .string t.n.a, .string t.n.b, .string t.n.c, .int .i64 t.n.kids] 90) = Y := ⟨_, rfl⟩
  rw [hY] at hA hB1
  have HY := hid hY
  have HA := hid hA
  have S0 := hid (h.below hB1)
  have F0 := hid (Cf.of_below hB1)
  have N0 := hid (hv.frame (Cf.of_below hB1))
  have G0 := hid (Cf.refl Y)
  have R0 := hid (Rs.refl ns K s)
  have hgood := hs.toGood
  have HC : Hid (t.k.count = 2) := count_of hgood ek (c := 2) rfl
  have HZ : Hid ((t.kid 0).size + (t.kid 1).size + 1 = t.size ∧ 1 ≤ (t.kid 0).size ∧ 1 ≤ (t.kid 1).size) := ⟨(kids2 HC.out).2, (t.kid 0).size_pos, (t.kid 1).size_pos⟩
  have hp0 : (0 : Int) ≤ (t.at_ : Int) := by omega
  have hpl : (t.at_ : Int) < (ns.length : Int) := by omega
  have HP1 : Hid (0 < t.k.count → wrap64 ((t.at_ : Int) + 1) = ((t.kid 0).at_ : Int)) := fun h0 => by rw [hs.first h0]; have := cx.tl; unfold wrap64; omega
  have HX := hid cx
  have HIH := hid ih
  have HS := hid hs
  have HK := hid (And.intro hK (And.intro hF hk1))
  have HB := hid hB
  clear hA hB1 hY h hv hnc hlt hat hsz hgood cx ih hs hK hF hB hk1
  go_enter Tryd.func30, Tryd.ntmps30
  go_upto_region 1 with fail
  rw [HY.out]
  clear HY c0 c1 c2 c3 c4 c5 d1
  have hbx := (G0.out.block W.heap.size _ _ HA.out (by decide) (by decide) (by decide)).trans HA.out
  have e0 := cell_of_heap hbx 0
  have e1 := cell_of_heap hbx 1
  have e2 := cell_of_heap hbx 2
  have e3 := cell_of_heap hbx 3
  have e4 := cell_of_heap hbx 4
  have e5 := cell_of_heap hbx 5
  have d0 := S0.out.effs
  have d1 := S0.out.tree
  simp at e0 e1 e2 e3 e4 e5
  clear hbx
  go_wp2_with fail
  clear e0 e1 e2 e3 e4 e5 d0 d1
  refine (withN_calls (ss := ss) (ms := [t.n.a, t.n.b]) _ ((N0.out.frame G0.out).names.below ((Below.refl _ _).alloc (Nat.le_refl _) _)) (lit_names Y [t.n.a, t.n.b]) (by have := HK.out; have := HZ.out; simp only [List.length_cons, List.length_nil]; omega)).mono ?_
  rintro e X1 ⟨u1, rfl, hu1, hb1⟩
  have B1 : Below Y.heap.size Y X1 := ((Below.refl _ _).alloc (Nat.le_refl _) _).trans (hb1.mono (by simp))
  have U1 := hid hu1
  have S1 := hid (S0.out.below B1)
  have G1 : Hid (Cf Y X1) := G0.out.trans (Cf.of_below B1)
  have R1 := R0
  clear hu1 hb1 B1
  have hbx := (G1.out.block W.heap.size _ _ HA.out (by decide) (by decide) (by decide)).trans HA.out
  have e0 := cell_of_heap hbx 0
  have e1 := cell_of_heap hbx 1
  have e2 := cell_of_heap hbx 2
  have e3 := cell_of_heap hbx 3
  have e4 := cell_of_heap hbx 4
  have e5 := cell_of_heap hbx 5
  have d0 := S1.out.effs
  have d1 := S1.out.tree
  simp at e0 e1 e2 e3 e4 e5
  clear hbx
  go_wp2_with fail
  clear e0 e1 e2 e3 e4 e5 d0 d1
  refine (putM_calls ⟨7, 0, 0, 0⟩ S1.out (by have r := R1.out.cost; have hb := HB.out; have hz := HZ.out; omega)).mono ?_
  rintro e X2 ⟨rfl, h1, g1⟩
  obtain ⟨n2, hn2⟩ : ∃ n, (s).out.length = n := ⟨_, rfl⟩
  rw [hn2]
  have H2 := hid hn2
  have tn : n2 < (Cs.put (s) ⟨7, 0, 0, 0⟩).out.length := by rw [← hn2]; simp [Cs.put]
  have S2 := hid h1
  have G2 : Hid (Cf Y X2) := G1.out.trans g1
  have Q2 := hid (Rs.put ns K (s) ⟨7, 0, 0, 0⟩)
  have R2 := hid (R1.out.trans Q2.out)
  have D1_2 : Hid (Cf X1 X2) := g1
  have Tn2_2 := hid tn
  clear h1 g1 hn2 tn
  have hbx := (G2.out.block W.heap.size _ _ HA.out (by decide) (by decide) (by decide)).trans HA.out
  have e0 := cell_of_heap hbx 0
  have e1 := cell_of_heap hbx 1
  have e2 := cell_of_heap hbx 2
  have e3 := cell_of_heap hbx 3
  have e4 := cell_of_heap hbx 4
  have e5 := cell_of_heap hbx 5
  have d0 := S2.out.effs
  have d1 := S2.out.tree
  simp at e0 e1 e2 e3 e4 e5
  clear hbx
  go_wp2_with fail
  clear e0 e1 e2 e3 e4 e5 d0 d1
  rw [HP1.out (by have := HC.out; omega)]
  refine (wait_calls ⟨t.kid 0, ss ++ [t.n.a, t.n.b], n2, 0⟩ S2.out (by have hl := later_le ((Cs.put (s) ⟨7, 0, 0, 0⟩)); have r := R2.out.cost; have hb := HB.out; have hz := HZ.out; omega) (U1.out.frame D1_2.out)).mono ?_
  rintro e X3 ⟨⟨x3, rfl⟩, h1, g1⟩
  have S3 := hid h1
  have G3 : Hid (Cf Y X3) := G2.out.trans g1
  have Q3 := hid (Rs.wait (ns := ns) (K := K) (s := (Cs.put (s) ⟨7, 0, 0, 0⟩)) (l := ⟨t.kid 0, ss ++ [t.n.a, t.n.b], n2, 0⟩) (HS.out.kid (by have := HC.out; omega)) (by have := HK.out; have := HZ.out; simp only [List.length_append, List.length_cons, List.length_nil]; omega) Tn2_2.out)
  have R3 := hid (R2.out.trans Q3.out)
  have Tn2_3 := hid (Nat.lt_of_lt_of_le Tn2_2.out Q3.out.out)
  have D1_3 : Hid (Cf X1 X3) := D1_2.out.trans g1
  clear h1 g1
  have hbx := (G3.out.block W.heap.size _ _ HA.out (by decide) (by decide) (by decide)).trans HA.out
  have e0 := cell_of_heap hbx 0
  have e1 := cell_of_heap hbx 1
  have e2 := cell_of_heap hbx 2
  have e3 := cell_of_heap hbx 3
  have e4 := cell_of_heap hbx 4
  have e5 := cell_of_heap hbx 5
  have d0 := S3.out.effs
  have d1 := S3.out.tree
  simp at e0 e1 e2 e3 e4 e5
  clear hbx
  go_upto_region 24 with fail
  have hD : Below X3.heap.size X3 X3.drew := (Below.refl _ _).drew
  obtain ⟨D4, hDe⟩ : ∃ D, X3.drew = D := ⟨_, rfl⟩
  rw [hDe] at hD
  have S4 := hid (S3.out.below hD)
  have G4 : Hid (Cf Y D4) := G3.out.trans (Cf.of_below hD)
  have R4 := R3
  have Tn2_4 := Tn2_3
  have D1_4 : Hid (Cf X1 D4) := D1_3.out.trans (Cf.of_below hD)
  have hS : (fun w' : World => w'.cell? ⟨Mb, 1, none⟩ = some (.slice (some ⟨b, off, none⟩) ns.length cap) ∧ w'.cell? ⟨W.heap.size, 2, none⟩ = some (.string t.n.a)) D4 := ⟨S4.out.tree, by rw [← hDe]; exact e2⟩
  refine pick_begin (S := fun w' => w'.cell? ⟨Mb, 1, none⟩ = some (.slice (some ⟨b, off, none⟩) ns.length cap) ∧ w'.cell? ⟨W.heap.size, 2, none⟩ = some (.string t.n.a)) (by kernel_rfl) rfl rfl ?_
  rw [hDe]
  clear hDe hD
  clear e0 e1 e2 e3 e4 e5 d0 d1
  refine pick_op (i := 0) (v := .pointer (some ⟨Mb, 0, none⟩)) (by kernel_rfl) rfl (by kernel_rfl) (by kernel_rfl) rfl rfl (fun w' _ => by simp [go_sem]) hS (by simp [go_sem]; exact rfl) ?_
  refine pick_op (i := 1) (v := .pointer (some ⟨Mb, 0, none⟩)) (by kernel_rfl) rfl (by kernel_rfl) (by kernel_rfl) rfl rfl (fun w' _ => by simp [go_sem]) hS (by simp [go_sem]; exact rfl) ?_
  refine pick_op (i := 2) (v := .pointer (some ⟨Mb, 0, none⟩)) (by kernel_rfl) rfl (by kernel_rfl) (by kernel_rfl) rfl rfl (fun w' _ => by simp [go_sem]) hS (by simp [go_sem]; exact rfl) ?_
  refine pick_op (i := 3) (v := .pointer (some ⟨Mb, 0, none⟩)) (by kernel_rfl) rfl (by kernel_rfl) (by kernel_rfl) rfl rfl (fun w' _ => by simp [go_sem]) hS (by simp [go_sem]; exact rfl) ?_
  refine pick_op (i := 4) (v := .pointer (some ⟨Mb, 1, none⟩)) (by kernel_rfl) rfl (by kernel_rfl) (by kernel_rfl) rfl rfl (fun w' _ => by simp [go_sem]) hS (by simp [go_sem]; exact rfl) ?_
  refine pick_op (i := 5) (v := .slice (some ⟨b, off, none⟩) ns.length cap) (by kernel_rfl) rfl (by kernel_rfl) (by kernel_rfl) rfl rfl (fun w' h => by simp [go_sem, h.1]) hS (by simp [go_sem]; exact rfl) ?_
  refine pick_op (i := 6) (v := .int .i64 (t.at_ : Int)) (by kernel_rfl) rfl (by kernel_rfl) (by kernel_rfl) rfl rfl (fun w' _ => by simp [go_sem]) hS (by simp [go_sem]; exact rfl) ?_
  refine pick_op (i := 8) (v := .slice adn ss.length cpn) (by kernel_rfl) rfl (by kernel_rfl) (by kernel_rfl) rfl rfl (fun w' _ => by simp [go_sem]) hS (by simp [go_sem]; exact rfl) ?_
  refine pick_op (i := 9) (v := .pointer (some ⟨W.heap.size, 2, none⟩)) (by kernel_rfl) rfl (by kernel_rfl) (by kernel_rfl) rfl rfl (fun w' _ => by simp [go_sem]) hS (by simp [go_sem]; exact rfl) ?_
  refine pick_op (i := 10) (v := .string t.n.a) (by kernel_rfl) rfl (by kernel_rfl) (by kernel_rfl) rfl rfl (fun w' h => by simp [go_sem, h.2]) hS (by simp [go_sem]; exact rfl) ?_
  refine pick_other (i := 7) (j := 11) (by kernel_rfl) ?_ ?_
  · have HQ : Hid (W.heap.size < D4.heap.size) := heap_lt ((G4.out.block W.heap.size _ _ HA.out (by decide) (by decide) (by decide)).trans HA.out)
    refine ⟨_, 47, #[.slice (some ⟨b, off, none⟩) ns.length cap, .int .i64 (t.at_ : Int), .int .i64 (1 : Int)], rfl, rfl, by simp [go_sem], ?_⟩
    refine (kid_calls (cap := cap) 1 D4 (cx_nodes HX.out S4.out) HX.out.tl HS.out (by have := HC.out; omega)).mono ?_
    rintro e Xk ⟨rfl, rfl⟩
    refine ⟨_, rfl, hS, ?_⟩
    refine pick_frame (by simp [go_sem]; exact rfl) ?_
    have hA1 : Below D4.heap.size D4 (D4.alloc (.cells #[.string t.n.a] 9)) := (Below.refl _ _).alloc (Nat.le_refl _) _
    have hS1 : (fun w' : World => w'.cell? ⟨Mb, 1, none⟩ = some (.slice (some ⟨b, off, none⟩) ns.length cap) ∧ w'.cell? ⟨W.heap.size, 2, none⟩ = some (.string t.n.a)) (D4.alloc (.cells #[.string t.n.a] 9)) := ⟨(hA1.cell (heap_at S4.out)).trans hS.1, (hA1.cell HQ.out).trans hS.2⟩
    refine pick_make (i := 11) (v := .slice (some ⟨D4.heap.size, 0, none⟩) 1 1) (w1 := D4.alloc (.cells #[.string t.n.a] 9)) rfl (by kernel_rfl) rfl rfl (by simp [go_sem]) hS1 (by simp [go_sem]; exact rfl) ?_
    refine pick_enter (i := 12) (f := 45) (args := #[.slice adn ss.length cpn, .slice (some ⟨D4.heap.size, 0, none⟩) 1 1]) rfl (by kernel_rfl) rfl rfl (by simp [go_sem]) ?_
    refine (withN_calls (ss := ss) (ms := [t.n.a]) _ ((N0.out.frame G4.out).names.below hA1) (lit_names D4 [t.n.a]) (by have := HK.out; have := HZ.out; simp only [List.length_cons, List.length_nil]; omega)).mono ?_
    rintro e X5 ⟨u5, rfl, hu5, hb5⟩
    have B5 : Below D4.heap.size D4 X5 := hA1.trans (hb5.mono (by simp))
    have hS2 : (fun w' : World => w'.cell? ⟨Mb, 1, none⟩ = some (.slice (some ⟨b, off, none⟩) ns.length cap) ∧ w'.cell? ⟨W.heap.size, 2, none⟩ = some (.string t.n.a)) X5 := ⟨(B5.cell (heap_at S4.out)).trans hS.1, (B5.cell HQ.out).trans hS.2⟩
    have U5 := hid hu5
    have S5 := hid (S4.out.below B5)
    have G5 : Hid (Cf Y X5) := G4.out.trans (Cf.of_below B5)
    have R5 := R4
    have Tn2_5 := Tn2_4
    have D1_5 : Hid (Cf X1 X5) := D1_4.out.trans (Cf.of_below B5)
    clear hu5 hb5 B5 hS hS1 hA1
    refine ⟨u5, rfl, hS2, ?_⟩
    refine pick_frame (by simp [go_sem]; exact rfl) ?_
    refine pick_enter (i := 13) (f := 46) (args := #[.pointer (some ⟨Mb, 0, none⟩), .int .i64 ((t.kid 1).at_ : Int), u5]) rfl (by kernel_rfl) rfl rfl (by simp [go_sem]) ?_
    refine (bound_calls HIH.out (t := t.kid 1) (ss := ss ++ [t.n.a]) (by have := HZ.out; have := HK.out; omega) (HS.out.kid (by have := HC.out; omega)) (by have := HK.out; have := HZ.out; simp only [List.length_append, List.length_cons, List.length_nil]; omega) (by have r := R5.out.cost; have hb := HB.out; have hz := HZ.out; omega) S5.out (U5.out.frame (Cf.refl _))).mono ?_
    rintro e X6 ⟨⟨x6, rfl⟩, h1, g1⟩
    have S6 := hid h1
    have G6 : Hid (Cf Y X6) := G5.out.trans g1
    have Q6 := hid (bound_r (part_r (ns := ns) (K := K) (es := es) F) (t := t.kid 1) (ss := ss ++ [t.n.a]) ((Cs.wait ((Cs.put (s) ⟨7, 0, 0, 0⟩)) ⟨t.kid 0, ss ++ [t.n.a, t.n.b], n2, 0⟩)) (by have := HZ.out; have := HK.out; omega) (HS.out.kid (by have := HC.out; omega)) (by have := HK.out; have := HZ.out; simp only [List.length_append, List.length_cons, List.length_nil]; omega))
    have R6 := hid (R5.out.trans Q6.out)
    have Tn2_6 := hid (Nat.lt_of_lt_of_le Tn2_5.out Q6.out.out)
    have D1_6 : Hid (Cf X1 X6) := D1_5.out.trans g1
    have D5_6 : Hid (Cf X5 X6) := g1
    have hbx := (G6.out.block W.heap.size _ _ HA.out (by decide) (by decide) (by decide)).trans HA.out
    refine ⟨x6, rfl, ⟨S6.out.tree, cell_of_heap hbx 2⟩, ?_⟩
    clear h1 g1 hbx hS2 HQ
    refine pick_frame (by simp [go_sem]; exact rfl) ?_
    refine pick_end (by kernel_rfl) ?_
    have hbx := (G6.out.block W.heap.size _ _ HA.out (by decide) (by decide) (by decide)).trans HA.out
    have e0 := cell_of_heap hbx 0
    have e1 := cell_of_heap hbx 1
    have e2 := cell_of_heap hbx 2
    have e3 := cell_of_heap hbx 3
    have e4 := cell_of_heap hbx 4
    have e5 := cell_of_heap hbx 5
    have d0 := S6.out.effs
    have d1 := S6.out.tree
    simp at e0 e1 e2 e3 e4 e5
    clear hbx
    go_wp2_with fail
    clear e0 e1 e2 e3 e4 e5 d0 d1
    go_end0
    have qn2 := H2.out
    subst qn2
    exact ⟨⟨_, rfl⟩, S6.out, F0.out.trans G6.out⟩
  · have HQ : Hid (W.heap.size < D4.heap.size) := heap_lt ((G4.out.block W.heap.size _ _ HA.out (by decide) (by decide) (by decide)).trans HA.out)
    have hA1 : Below D4.heap.size D4 (D4.alloc (.cells #[.string t.n.a] 9)) := (Below.refl _ _).alloc (Nat.le_refl _) _
    have hS1 : (fun w' : World => w'.cell? ⟨Mb, 1, none⟩ = some (.slice (some ⟨b, off, none⟩) ns.length cap) ∧ w'.cell? ⟨W.heap.size, 2, none⟩ = some (.string t.n.a)) (D4.alloc (.cells #[.string t.n.a] 9)) := ⟨(hA1.cell (heap_at S4.out)).trans hS.1, (hA1.cell HQ.out).trans hS.2⟩
    refine ⟨_, .slice (some ⟨D4.heap.size, 0, none⟩) 1 1, D4.alloc (.cells #[.string t.n.a] 9), rfl, rfl, by simp [go_sem], hS1, ?_⟩
    refine pick_frame (by simp [go_sem]; exact rfl) ?_
    refine pick_enter (i := 7) (f := 47) (args := #[.slice (some ⟨b, off, none⟩) ns.length cap, .int .i64 (t.at_ : Int), .int .i64 (1 : Int)]) rfl (by kernel_rfl) rfl rfl (by simp [go_sem]) ?_
    refine (kid_calls (cap := cap) 1 _ (cx_nodes HX.out (S4.out.below hA1)) HX.out.tl HS.out (by have := HC.out; omega)).mono ?_
    rintro e Xk ⟨rfl, rfl⟩
    refine ⟨_, rfl, hS1, ?_⟩
    refine pick_frame (by simp [go_sem]; exact rfl) ?_
    refine pick_enter (i := 12) (f := 45) (args := #[.slice adn ss.length cpn, .slice (some ⟨D4.heap.size, 0, none⟩) 1 1]) rfl (by kernel_rfl) rfl rfl (by simp [go_sem]) ?_
    refine (withN_calls (ss := ss) (ms := [t.n.a]) _ ((N0.out.frame G4.out).names.below hA1) (lit_names D4 [t.n.a]) (by have := HK.out; have := HZ.out; simp only [List.length_cons, List.length_nil]; omega)).mono ?_
    rintro e X5 ⟨u5, rfl, hu5, hb5⟩
    have B5 : Below D4.heap.size D4 X5 := hA1.trans (hb5.mono (by simp))
    have hS2 : (fun w' : World => w'.cell? ⟨Mb, 1, none⟩ = some (.slice (some ⟨b, off, none⟩) ns.length cap) ∧ w'.cell? ⟨W.heap.size, 2, none⟩ = some (.string t.n.a)) X5 := ⟨(B5.cell (heap_at S4.out)).trans hS.1, (B5.cell HQ.out).trans hS.2⟩
    have U5 := hid hu5
    have S5 := hid (S4.out.below B5)
    have G5 : Hid (Cf Y X5) := G4.out.trans (Cf.of_below B5)
    have R5 := R4
    have Tn2_5 := Tn2_4
    have D1_5 : Hid (Cf X1 X5) := D1_4.out.trans (Cf.of_below B5)
    clear hu5 hb5 B5 hS hS1 hA1
    refine ⟨u5, rfl, hS2, ?_⟩
    refine pick_frame (by simp [go_sem]; exact rfl) ?_
    refine pick_enter (i := 13) (f := 46) (args := #[.pointer (some ⟨Mb, 0, none⟩), .int .i64 ((t.kid 1).at_ : Int), u5]) rfl (by kernel_rfl) rfl rfl (by simp [go_sem]) ?_
    refine (bound_calls HIH.out (t := t.kid 1) (ss := ss ++ [t.n.a]) (by have := HZ.out; have := HK.out; omega) (HS.out.kid (by have := HC.out; omega)) (by have := HK.out; have := HZ.out; simp only [List.length_append, List.length_cons, List.length_nil]; omega) (by have r := R5.out.cost; have hb := HB.out; have hz := HZ.out; omega) S5.out (U5.out.frame (Cf.refl _))).mono ?_
    rintro e X6 ⟨⟨x6, rfl⟩, h1, g1⟩
    have S6 := hid h1
    have G6 : Hid (Cf Y X6) := G5.out.trans g1
    have Q6 := hid (bound_r (part_r (ns := ns) (K := K) (es := es) F) (t := t.kid 1) (ss := ss ++ [t.n.a]) ((Cs.wait ((Cs.put (s) ⟨7, 0, 0, 0⟩)) ⟨t.kid 0, ss ++ [t.n.a, t.n.b], n2, 0⟩)) (by have := HZ.out; have := HK.out; omega) (HS.out.kid (by have := HC.out; omega)) (by have := HK.out; have := HZ.out; simp only [List.length_append, List.length_cons, List.length_nil]; omega))
    have R6 := hid (R5.out.trans Q6.out)
    have Tn2_6 := hid (Nat.lt_of_lt_of_le Tn2_5.out Q6.out.out)
    have D1_6 : Hid (Cf X1 X6) := D1_5.out.trans g1
    have D5_6 : Hid (Cf X5 X6) := g1
    have hbx := (G6.out.block W.heap.size _ _ HA.out (by decide) (by decide) (by decide)).trans HA.out
    refine ⟨x6, rfl, ⟨S6.out.tree, cell_of_heap hbx 2⟩, ?_⟩
    clear h1 g1 hbx hS2 HQ
    refine pick_frame (by simp [go_sem]; exact rfl) ?_
    refine pick_end (by kernel_rfl) ?_
    have hbx := (G6.out.block W.heap.size _ _ HA.out (by decide) (by decide) (by decide)).trans HA.out
    have e0 := cell_of_heap hbx 0
    have e1 := cell_of_heap hbx 1
    have e2 := cell_of_heap hbx 2
    have e3 := cell_of_heap hbx 3
    have e4 := cell_of_heap hbx 4
    have e5 := cell_of_heap hbx 5
    have d0 := S6.out.effs
    have d1 := S6.out.tree
    simp at e0 e1 e2 e3 e4 e5
    clear hbx
    go_wp2_with fail
    clear e0 e1 e2 e3 e4 e5 d0 d1
    go_end0
    have qn2 := H2.out
    subst qn2
    exact ⟨⟨_, rfl⟩, S6.out, F0.out.trans G6.out⟩

set_option maxHeartbeats 4000000 in
set_option maxRecDepth 100000 in
theorem part_c10 (cx : Cx W0 Mb ae b off es ns) (hk1 : K ≤ 1000) (ih : PartC W0 Mb ae ce b off cap es ns K F) {t : Tp} {ss : List ByteArray} {s : Cs} {v : Value} {W : World} (hF : t.size ≤ F + 1) (hs : Stands ns t) (hK : ss.length + 2 * t.size ≤ K) (hB : s.out.length + 10 * s.rest + 10 * t.size ≤ 950000) (h : CmE W0 Mb (.slice ae es.length ce) (.slice (some ⟨b, off, none⟩) ns.length cap) s W) (hv : NmT W v ss) (ek : t.n.kind = 10) :
    Calls Tryd.prog 30 #[.pointer (some ⟨Mb, 0, none⟩), .int .i64 (t.at_ : Int), v] W (LeadPost W0 Mb (.slice ae es.length ce) (.slice (some ⟨b, off, none⟩) ns.length cap) (ifZ (partZ es F) t ss s) W) := by
  obtain ⟨adn, cpn, rfl⟩ := hv.is
  have hnc := cx_nodes cx h
  obtain ⟨hlt, hat, hsz⟩ := hs.lt
  have c0 := hnc t.at_ hlt 0 (by omega)
  have c1 := hnc t.at_ hlt 1 (by omega)
  have c2 := hnc t.at_ hlt 2 (by omega)
  have c3 := hnc t.at_ hlt 3 (by omega)
  have c4 := hnc t.at_ hlt 4 (by omega)
  have c5 := hnc t.at_ hlt 5 (by omega)
  rw [hat] at c0 c1 c2 c3 c4 c5
  simp only [Nd.cell, Nat.add_zero] at c0 c1 c2 c3 c4 c5
  rw [ek] at c0
  have d1 := h.tree
  have hA := (MapKept.heap_alloc W (.cells #[.int .i64 10, .int .i64 t.n.num, .string t.n.a, .string t.n.b, .string t.n.c, .int .i64 t.n.kids] 90)).1
  have hB1 := (Below.refl W.heap.size W).alloc (Nat.le_refl _) (.cells #[.int .i64 10, .int .i64 t.n.num, .string t.n.a, .string t.n.b, .string t.n.c, .int .i64 t.n.kids] 90)
  obtain ⟨Y, hY⟩ : ∃ Y, W.alloc (.cells #[.int .i64 10, .int .i64 t.n.num, .string t.n.a, .string t.n.b, .string t.n.c, .int .i64 t.n.kids] 90) = Y := ⟨_, rfl⟩
  rw [hY] at hA hB1
  have HY := hid hY
  have HA := hid hA
  have S0 := hid (h.below hB1)
  have F0 := hid (Cf.of_below hB1)
  have N0 := hid (hv.frame (Cf.of_below hB1))
  have G0 := hid (Cf.refl Y)
  have R0 := hid (Rs.refl ns K s)
  have hgood := hs.toGood
  have HC : Hid (t.k.count = 3) := count_of hgood ek (c := 3) rfl
  have HZ : Hid ((t.kid 0).size + (t.kid 1).size + (t.kid 2).size + 1 = t.size ∧ 1 ≤ (t.kid 0).size ∧ 1 ≤ (t.kid 1).size ∧ 1 ≤ (t.kid 2).size) := ⟨(kids3 HC.out).2, (t.kid 0).size_pos, (t.kid 1).size_pos, (t.kid 2).size_pos⟩
  have hp0 : (0 : Int) ≤ (t.at_ : Int) := by omega
  have hpl : (t.at_ : Int) < (ns.length : Int) := by omega
  have HP1 : Hid (0 < t.k.count → wrap64 ((t.at_ : Int) + 1) = ((t.kid 0).at_ : Int)) := fun h0 => by rw [hs.first h0]; have := cx.tl; unfold wrap64; omega
  have HX := hid cx
  have HIH := hid ih
  have HS := hid hs
  have HK := hid (And.intro hK (And.intro hF hk1))
  have HB := hid hB
  clear hA hB1 hY h hv hnc hlt hat hsz hgood cx ih hs hK hF hB hk1
  go_enter Tryd.func30, Tryd.ntmps30
  go_upto_region 1 with fail
  rw [HY.out]
  clear HY c0 c1 c2 c3 c4 c5 d1
  have hbx := (G0.out.block W.heap.size _ _ HA.out (by decide) (by decide) (by decide)).trans HA.out
  have e0 := cell_of_heap hbx 0
  have e1 := cell_of_heap hbx 1
  have e2 := cell_of_heap hbx 2
  have e3 := cell_of_heap hbx 3
  have e4 := cell_of_heap hbx 4
  have e5 := cell_of_heap hbx 5
  have d0 := S0.out.effs
  have d1 := S0.out.tree
  simp at e0 e1 e2 e3 e4 e5
  clear hbx
  go_wp2_with fail
  clear e0 e1 e2 e3 e4 e5 d0 d1
  rw [HP1.out (by have := HC.out; omega)]
  refine (HIH.out (t.kid 0) (ss) (s) _ _ (by have := HZ.out; have := HK.out; omega) (HS.out.kid (by have := HC.out; omega)) (by have := HK.out; have := HZ.out; (try simp only [List.length_append, List.length_cons, List.length_nil]); omega) (by have r := R0.out.cost; have hb := HB.out; have hz := HZ.out; omega) S0.out (N0.out.frame G0.out)).mono ?_
  rintro e X1 ⟨⟨x1, rfl⟩, h1, g1⟩
  have S1 := hid h1
  have G1 : Hid (Cf Y X1) := G0.out.trans g1
  have Q1 := hid (part_r (ns := ns) (K := K) (es := es) F (t.kid 0) (ss) (s) (by have := HZ.out; have := HK.out; omega) (HS.out.kid (by have := HC.out; omega)) (by have := HK.out; have := HZ.out; (try simp only [List.length_append, List.length_cons, List.length_nil]); omega))
  have R1 := hid (R0.out.trans Q1.out)
  clear h1 g1
  have hbx := (G1.out.block W.heap.size _ _ HA.out (by decide) (by decide) (by decide)).trans HA.out
  have e0 := cell_of_heap hbx 0
  have e1 := cell_of_heap hbx 1
  have e2 := cell_of_heap hbx 2
  have e3 := cell_of_heap hbx 3
  have e4 := cell_of_heap hbx 4
  have e5 := cell_of_heap hbx 5
  have d0 := S1.out.effs
  have d1 := S1.out.tree
  simp at e0 e1 e2 e3 e4 e5
  clear hbx
  go_wp2_with fail
  clear e0 e1 e2 e3 e4 e5 d0 d1
  refine (putM_calls ⟨10, 0, 0, 0⟩ S1.out (by have r := R1.out.cost; have hb := HB.out; have hz := HZ.out; omega)).mono ?_
  rintro e X2 ⟨rfl, h1, g1⟩
  obtain ⟨n2, hn2⟩ : ∃ n, ((partZ es F (t.kid 0) (ss) (s))).out.length = n := ⟨_, rfl⟩
  rw [hn2]
  have H2 := hid hn2
  have tn : n2 < (Cs.put ((partZ es F (t.kid 0) (ss) (s))) ⟨10, 0, 0, 0⟩).out.length := by rw [← hn2]; simp [Cs.put]
  have S2 := hid h1
  have G2 : Hid (Cf Y X2) := G1.out.trans g1
  have Q2 := hid (Rs.put ns K ((partZ es F (t.kid 0) (ss) (s))) ⟨10, 0, 0, 0⟩)
  have R2 := hid (R1.out.trans Q2.out)
  have Tn2_2 := hid tn
  clear h1 g1 hn2 tn
  have hbx := (G2.out.block W.heap.size _ _ HA.out (by decide) (by decide) (by decide)).trans HA.out
  have e0 := cell_of_heap hbx 0
  have e1 := cell_of_heap hbx 1
  have e2 := cell_of_heap hbx 2
  have e3 := cell_of_heap hbx 3
  have e4 := cell_of_heap hbx 4
  have e5 := cell_of_heap hbx 5
  have d0 := S2.out.effs
  have d1 := S2.out.tree
  simp at e0 e1 e2 e3 e4 e5
  clear hbx
  go_wp2_with fail
  clear e0 e1 e2 e3 e4 e5 d0 d1
  refine (kid_calls (cap := cap) 1 X2 (cx_nodes HX.out S2.out) HX.out.tl HS.out (by have := HC.out; omega)).mono ?_
  rintro e Xk ⟨rfl, rfl⟩
  have hbx := (G2.out.block W.heap.size _ _ HA.out (by decide) (by decide) (by decide)).trans HA.out
  have e0 := cell_of_heap hbx 0
  have e1 := cell_of_heap hbx 1
  have e2 := cell_of_heap hbx 2
  have e3 := cell_of_heap hbx 3
  have e4 := cell_of_heap hbx 4
  have e5 := cell_of_heap hbx 5
  have d0 := S2.out.effs
  have d1 := S2.out.tree
  simp at e0 e1 e2 e3 e4 e5
  clear hbx
  go_wp2_with fail
  clear e0 e1 e2 e3 e4 e5 d0 d1
  refine (HIH.out (t.kid 1) (ss) ((Cs.put ((partZ es F (t.kid 0) (ss) (s))) ⟨10, 0, 0, 0⟩)) _ _ (by have := HZ.out; have := HK.out; omega) (HS.out.kid (by have := HC.out; omega)) (by have := HK.out; have := HZ.out; (try simp only [List.length_append, List.length_cons, List.length_nil]); omega) (by have r := R2.out.cost; have hb := HB.out; have hz := HZ.out; omega) S2.out (N0.out.frame G2.out)).mono ?_
  rintro e X3 ⟨⟨x3, rfl⟩, h1, g1⟩
  have S3 := hid h1
  have G3 : Hid (Cf Y X3) := G2.out.trans g1
  have Q3 := hid (part_r (ns := ns) (K := K) (es := es) F (t.kid 1) (ss) ((Cs.put ((partZ es F (t.kid 0) (ss) (s))) ⟨10, 0, 0, 0⟩)) (by have := HZ.out; have := HK.out; omega) (HS.out.kid (by have := HC.out; omega)) (by have := HK.out; have := HZ.out; (try simp only [List.length_append, List.length_cons, List.length_nil]); omega))
  have R3 := hid (R2.out.trans Q3.out)
  have Tn2_3 := hid (Nat.lt_of_lt_of_le Tn2_2.out Q3.out.out)
  clear h1 g1
  have hbx := (G3.out.block W.heap.size _ _ HA.out (by decide) (by decide) (by decide)).trans HA.out
  have e0 := cell_of_heap hbx 0
  have e1 := cell_of_heap hbx 1
  have e2 := cell_of_heap hbx 2
  have e3 := cell_of_heap hbx 3
  have e4 := cell_of_heap hbx 4
  have e5 := cell_of_heap hbx 5
  have d0 := S3.out.effs
  have d1 := S3.out.tree
  simp at e0 e1 e2 e3 e4 e5
  clear hbx
  go_wp2_with fail
  clear e0 e1 e2 e3 e4 e5 d0 d1
  refine (putM_calls ⟨11, 0, 0, 0⟩ S3.out (by have r := R3.out.cost; have hb := HB.out; have hz := HZ.out; omega)).mono ?_
  rintro e X4 ⟨rfl, h1, g1⟩
  obtain ⟨n4, hn4⟩ : ∃ n, ((partZ es F (t.kid 1) (ss) ((Cs.put ((partZ es F (t.kid 0) (ss) (s))) ⟨10, 0, 0, 0⟩)))).out.length = n := ⟨_, rfl⟩
  rw [hn4]
  have H4 := hid hn4
  have tn : n4 < (Cs.put ((partZ es F (t.kid 1) (ss) ((Cs.put ((partZ es F (t.kid 0) (ss) (s))) ⟨10, 0, 0, 0⟩)))) ⟨11, 0, 0, 0⟩).out.length := by rw [← hn4]; simp [Cs.put]
  have S4 := hid h1
  have G4 : Hid (Cf Y X4) := G3.out.trans g1
  have Q4 := hid (Rs.put ns K ((partZ es F (t.kid 1) (ss) ((Cs.put ((partZ es F (t.kid 0) (ss) (s))) ⟨10, 0, 0, 0⟩)))) ⟨11, 0, 0, 0⟩)
  have R4 := hid (R3.out.trans Q4.out)
  have Tn2_4 := hid (Nat.lt_of_lt_of_le Tn2_3.out Q4.out.out)
  have Tn4_4 := hid tn
  clear h1 g1 hn4 tn
  have hbx := (G4.out.block W.heap.size _ _ HA.out (by decide) (by decide) (by decide)).trans HA.out
  have e0 := cell_of_heap hbx 0
  have e1 := cell_of_heap hbx 1
  have e2 := cell_of_heap hbx 2
  have e3 := cell_of_heap hbx 3
  have e4 := cell_of_heap hbx 4
  have e5 := cell_of_heap hbx 5
  have d0 := S4.out.effs
  have d1 := S4.out.tree
  simp at e0 e1 e2 e3 e4 e5
  clear hbx
  go_wp2_with fail
  clear e0 e1 e2 e3 e4 e5 d0 d1
  refine (lead_calls n2 0 S4.out (by have r := R4.out.cost; have hb := HB.out; have hz := HZ.out; omega) Tn2_4.out (by decide)).mono ?_
  rintro e X5 ⟨⟨x5, rfl⟩, h1, g1⟩
  have S5 := hid h1
  have G5 : Hid (Cf Y X5) := G4.out.trans g1
  have Q5 := hid (Rs.lead ns K ((Cs.put ((partZ es F (t.kid 1) (ss) ((Cs.put ((partZ es F (t.kid 0) (ss) (s))) ⟨10, 0, 0, 0⟩)))) ⟨11, 0, 0, 0⟩)) n2 0)
  have R5 := hid (R4.out.trans Q5.out)
  have Tn2_5 := hid (Nat.lt_of_lt_of_le Tn2_4.out Q5.out.out)
  have Tn4_5 := hid (Nat.lt_of_lt_of_le Tn4_4.out Q5.out.out)
  clear h1 g1
  have hbx := (G5.out.block W.heap.size _ _ HA.out (by decide) (by decide) (by decide)).trans HA.out
  have e0 := cell_of_heap hbx 0
  have e1 := cell_of_heap hbx 1
  have e2 := cell_of_heap hbx 2
  have e3 := cell_of_heap hbx 3
  have e4 := cell_of_heap hbx 4
  have e5 := cell_of_heap hbx 5
  have d0 := S5.out.effs
  have d1 := S5.out.tree
  simp at e0 e1 e2 e3 e4 e5
  clear hbx
  go_wp2_with fail
  clear e0 e1 e2 e3 e4 e5 d0 d1
  refine (kid_calls (cap := cap) 2 X5 (cx_nodes HX.out S5.out) HX.out.tl HS.out (by have := HC.out; omega)).mono ?_
  rintro e Xk ⟨rfl, rfl⟩
  have hbx := (G5.out.block W.heap.size _ _ HA.out (by decide) (by decide) (by decide)).trans HA.out
  have e0 := cell_of_heap hbx 0
  have e1 := cell_of_heap hbx 1
  have e2 := cell_of_heap hbx 2
  have e3 := cell_of_heap hbx 3
  have e4 := cell_of_heap hbx 4
  have e5 := cell_of_heap hbx 5
  have d0 := S5.out.effs
  have d1 := S5.out.tree
  simp at e0 e1 e2 e3 e4 e5
  clear hbx
  go_wp2_with fail
  clear e0 e1 e2 e3 e4 e5 d0 d1
  refine (HIH.out (t.kid 2) (ss) ((Cs.lead ((Cs.put ((partZ es F (t.kid 1) (ss) ((Cs.put ((partZ es F (t.kid 0) (ss) (s))) ⟨10, 0, 0, 0⟩)))) ⟨11, 0, 0, 0⟩)) n2 0)) _ _ (by have := HZ.out; have := HK.out; omega) (HS.out.kid (by have := HC.out; omega)) (by have := HK.out; have := HZ.out; (try simp only [List.length_append, List.length_cons, List.length_nil]); omega) (by have r := R5.out.cost; have hb := HB.out; have hz := HZ.out; omega) S5.out (N0.out.frame G5.out)).mono ?_
  rintro e X6 ⟨⟨x6, rfl⟩, h1, g1⟩
  have S6 := hid h1
  have G6 : Hid (Cf Y X6) := G5.out.trans g1
  have Q6 := hid (part_r (ns := ns) (K := K) (es := es) F (t.kid 2) (ss) ((Cs.lead ((Cs.put ((partZ es F (t.kid 1) (ss) ((Cs.put ((partZ es F (t.kid 0) (ss) (s))) ⟨10, 0, 0, 0⟩)))) ⟨11, 0, 0, 0⟩)) n2 0)) (by have := HZ.out; have := HK.out; omega) (HS.out.kid (by have := HC.out; omega)) (by have := HK.out; have := HZ.out; (try simp only [List.length_append, List.length_cons, List.length_nil]); omega))
  have R6 := hid (R5.out.trans Q6.out)
  have Tn2_6 := hid (Nat.lt_of_lt_of_le Tn2_5.out Q6.out.out)
  have Tn4_6 := hid (Nat.lt_of_lt_of_le Tn4_5.out Q6.out.out)
  clear h1 g1
  have hbx := (G6.out.block W.heap.size _ _ HA.out (by decide) (by decide) (by decide)).trans HA.out
  have e0 := cell_of_heap hbx 0
  have e1 := cell_of_heap hbx 1
  have e2 := cell_of_heap hbx 2
  have e3 := cell_of_heap hbx 3
  have e4 := cell_of_heap hbx 4
  have e5 := cell_of_heap hbx 5
  have d0 := S6.out.effs
  have d1 := S6.out.tree
  simp at e0 e1 e2 e3 e4 e5
  clear hbx
  go_wp2_with fail
  clear e0 e1 e2 e3 e4 e5 d0 d1
  refine (lead_calls n4 0 S6.out (by have r := R6.out.cost; have hb := HB.out; have hz := HZ.out; omega) Tn4_6.out (by decide)).mono ?_
  rintro e X7 ⟨⟨x7, rfl⟩, h1, g1⟩
  have S7 := hid h1
  have G7 : Hid (Cf Y X7) := G6.out.trans g1
  have Q7 := hid (Rs.lead ns K ((partZ es F (t.kid 2) (ss) ((Cs.lead ((Cs.put ((partZ es F (t.kid 1) (ss) ((Cs.put ((partZ es F (t.kid 0) (ss) (s))) ⟨10, 0, 0, 0⟩)))) ⟨11, 0, 0, 0⟩)) n2 0)))) n4 0)
  have R7 := hid (R6.out.trans Q7.out)
  have Tn2_7 := hid (Nat.lt_of_lt_of_le Tn2_6.out Q7.out.out)
  have Tn4_7 := hid (Nat.lt_of_lt_of_le Tn4_6.out Q7.out.out)
  clear h1 g1
  have hbx := (G7.out.block W.heap.size _ _ HA.out (by decide) (by decide) (by decide)).trans HA.out
  have e0 := cell_of_heap hbx 0
  have e1 := cell_of_heap hbx 1
  have e2 := cell_of_heap hbx 2
  have e3 := cell_of_heap hbx 3
  have e4 := cell_of_heap hbx 4
  have e5 := cell_of_heap hbx 5
  have d0 := S7.out.effs
  have d1 := S7.out.tree
  simp at e0 e1 e2 e3 e4 e5
  clear hbx
  go_wp2_with fail
  clear e0 e1 e2 e3 e4 e5 d0 d1
  go_end0
  have qn2 := H2.out
  subst qn2
  have qn4 := H4.out
  subst qn4
  exact ⟨⟨_, rfl⟩, S7.out, F0.out.trans G7.out⟩

set_option maxHeartbeats 4000000 in
set_option maxRecDepth 100000 in
theorem part_c20 (cx : Cx W0 Mb ae b off es ns) (hk1 : K ≤ 1000) (ih : PartC W0 Mb ae ce b off cap es ns K F) {t : Tp} {ss : List ByteArray} {s : Cs} {v : Value} {W : World} (hF : t.size ≤ F + 1) (hs : Stands ns t) (hK : ss.length + 2 * t.size ≤ K) (hB : s.out.length + 10 * s.rest + 10 * t.size ≤ 950000) (h : CmE W0 Mb (.slice ae es.length ce) (.slice (some ⟨b, off, none⟩) ns.length cap) s W) (hv : NmT W v ss) (ek : t.n.kind = 20) :
    Calls Tryd.prog 30 #[.pointer (some ⟨Mb, 0, none⟩), .int .i64 (t.at_ : Int), v] W (LeadPost W0 Mb (.slice ae es.length ce) (.slice (some ⟨b, off, none⟩) ns.length cap) (caseZ (partZ es F) t ss s) W) := by
  obtain ⟨adn, cpn, rfl⟩ := hv.is
  have hnc := cx_nodes cx h
  obtain ⟨hlt, hat, hsz⟩ := hs.lt
  have c0 := hnc t.at_ hlt 0 (by omega)
  have c1 := hnc t.at_ hlt 1 (by omega)
  have c2 := hnc t.at_ hlt 2 (by omega)
  have c3 := hnc t.at_ hlt 3 (by omega)
  have c4 := hnc t.at_ hlt 4 (by omega)
  have c5 := hnc t.at_ hlt 5 (by omega)
  rw [hat] at c0 c1 c2 c3 c4 c5
  simp only [Nd.cell, Nat.add_zero] at c0 c1 c2 c3 c4 c5
  rw [ek] at c0
  have d1 := h.tree
  have hA := (MapKept.heap_alloc W (.cells #[.int .i64 20, .int .i64 t.n.num, .string t.n.a, .string t.n.b, .string t.n.c, .int .i64 t.n.kids] 90)).1
  have hB1 := (Below.refl W.heap.size W).alloc (Nat.le_refl _) (.cells #[.int .i64 20, .int .i64 t.n.num, .string t.n.a, .string t.n.b, .string t.n.c, .int .i64 t.n.kids] 90)
  obtain ⟨Y, hY⟩ : ∃ Y, W.alloc (.cells #[.int .i64 20, .int .i64 t.n.num, .string t.n.a, .string t.n.b, .string t.n.c, .int .i64 t.n.kids] 90) = Y := ⟨_, rfl⟩
  rw [hY] at hA hB1
  have HY := hid hY
  have HA := hid hA
  have S0 := hid (h.below hB1)
  have F0 := hid (Cf.of_below hB1)
  have N0 := hid (hv.frame (Cf.of_below hB1))
  have G0 := hid (Cf.refl Y)
  have R0 := hid (Rs.refl ns K s)
  have hgood := hs.toGood
  have HC : Hid (t.k.count = 3) := count_of hgood ek (c := 3) rfl
  have HZ : Hid ((t.kid 0).size + (t.kid 1).size + (t.kid 2).size + 1 = t.size ∧ 1 ≤ (t.kid 0).size ∧ 1 ≤ (t.kid 1).size ∧ 1 ≤ (t.kid 2).size) := ⟨(kids3 HC.out).2, (t.kid 0).size_pos, (t.kid 1).size_pos, (t.kid 2).size_pos⟩
  have hp0 : (0 : Int) ≤ (t.at_ : Int) := by omega
  have hpl : (t.at_ : Int) < (ns.length : Int) := by omega
  have HP1 : Hid (0 < t.k.count → wrap64 ((t.at_ : Int) + 1) = ((t.kid 0).at_ : Int)) := fun h0 => by rw [hs.first h0]; have := cx.tl; unfold wrap64; omega
  have HX := hid cx
  have HIH := hid ih
  have HS := hid hs
  have HK := hid (And.intro hK (And.intro hF hk1))
  have HB := hid hB
  clear hA hB1 hY h hv hnc hlt hat hsz hgood cx ih hs hK hF hB hk1
  go_enter Tryd.func30, Tryd.ntmps30
  go_upto_region 1 with fail
  rw [HY.out]
  clear HY c0 c1 c2 c3 c4 c5 d1
  have hbx := (G0.out.block W.heap.size _ _ HA.out (by decide) (by decide) (by decide)).trans HA.out
  have e0 := cell_of_heap hbx 0
  have e1 := cell_of_heap hbx 1
  have e2 := cell_of_heap hbx 2
  have e3 := cell_of_heap hbx 3
  have e4 := cell_of_heap hbx 4
  have e5 := cell_of_heap hbx 5
  have d0 := S0.out.effs
  have d1 := S0.out.tree
  simp at e0 e1 e2 e3 e4 e5
  clear hbx
  go_wp2_with fail
  clear e0 e1 e2 e3 e4 e5 d0 d1
  rw [HP1.out (by have := HC.out; omega)]
  refine (HIH.out (t.kid 0) (ss) (s) _ _ (by have := HZ.out; have := HK.out; omega) (HS.out.kid (by have := HC.out; omega)) (by have := HK.out; have := HZ.out; (try simp only [List.length_append, List.length_cons, List.length_nil]); omega) (by have r := R0.out.cost; have hb := HB.out; have hz := HZ.out; omega) S0.out (N0.out.frame G0.out)).mono ?_
  rintro e X1 ⟨⟨x1, rfl⟩, h1, g1⟩
  have S1 := hid h1
  have G1 : Hid (Cf Y X1) := G0.out.trans g1
  have Q1 := hid (part_r (ns := ns) (K := K) (es := es) F (t.kid 0) (ss) (s) (by have := HZ.out; have := HK.out; omega) (HS.out.kid (by have := HC.out; omega)) (by have := HK.out; have := HZ.out; (try simp only [List.length_append, List.length_cons, List.length_nil]); omega))
  have R1 := hid (R0.out.trans Q1.out)
  clear h1 g1
  have hbx := (G1.out.block W.heap.size _ _ HA.out (by decide) (by decide) (by decide)).trans HA.out
  have e0 := cell_of_heap hbx 0
  have e1 := cell_of_heap hbx 1
  have e2 := cell_of_heap hbx 2
  have e3 := cell_of_heap hbx 3
  have e4 := cell_of_heap hbx 4
  have e5 := cell_of_heap hbx 5
  have d0 := S1.out.effs
  have d1 := S1.out.tree
  simp at e0 e1 e2 e3 e4 e5
  clear hbx
  go_wp2_with fail
  clear e0 e1 e2 e3 e4 e5 d0 d1
  refine (putM_calls ⟨19, 0, 0, 0⟩ S1.out (by have r := R1.out.cost; have hb := HB.out; have hz := HZ.out; omega)).mono ?_
  rintro e X2 ⟨rfl, h1, g1⟩
  obtain ⟨n2, hn2⟩ : ∃ n, ((partZ es F (t.kid 0) (ss) (s))).out.length = n := ⟨_, rfl⟩
  rw [hn2]
  have H2 := hid hn2
  have tn : n2 < (Cs.put ((partZ es F (t.kid 0) (ss) (s))) ⟨19, 0, 0, 0⟩).out.length := by rw [← hn2]; simp [Cs.put]
  have S2 := hid h1
  have G2 : Hid (Cf Y X2) := G1.out.trans g1
  have Q2 := hid (Rs.put ns K ((partZ es F (t.kid 0) (ss) (s))) ⟨19, 0, 0, 0⟩)
  have R2 := hid (R1.out.trans Q2.out)
  have Tn2_2 := hid tn
  clear h1 g1 hn2 tn
  have hbx := (G2.out.block W.heap.size _ _ HA.out (by decide) (by decide) (by decide)).trans HA.out
  have e0 := cell_of_heap hbx 0
  have e1 := cell_of_heap hbx 1
  have e2 := cell_of_heap hbx 2
  have e3 := cell_of_heap hbx 3
  have e4 := cell_of_heap hbx 4
  have e5 := cell_of_heap hbx 5
  have d0 := S2.out.effs
  have d1 := S2.out.tree
  simp at e0 e1 e2 e3 e4 e5
  clear hbx
  go_upto_region 36 with fail
  have hD : Below X2.heap.size X2 X2.drew := (Below.refl _ _).drew
  obtain ⟨D3, hDe⟩ : ∃ D, X2.drew = D := ⟨_, rfl⟩
  rw [hDe] at hD
  have S3 := hid (S2.out.below hD)
  have G3 : Hid (Cf Y D3) := G2.out.trans (Cf.of_below hD)
  have R3 := R2
  have Tn2_3 := Tn2_2
  have hS : (fun w' : World => w'.cell? ⟨Mb, 1, none⟩ = some (.slice (some ⟨b, off, none⟩) ns.length cap) ∧ w'.cell? ⟨W.heap.size, 2, none⟩ = some (.string t.n.a) ∧ w'.cell? ⟨W.heap.size, 3, none⟩ = some (.string t.n.b)) D3 := ⟨S3.out.tree, by rw [← hDe]; exact e2, by rw [← hDe]; exact e3⟩
  refine pick_begin (S := fun w' => w'.cell? ⟨Mb, 1, none⟩ = some (.slice (some ⟨b, off, none⟩) ns.length cap) ∧ w'.cell? ⟨W.heap.size, 2, none⟩ = some (.string t.n.a) ∧ w'.cell? ⟨W.heap.size, 3, none⟩ = some (.string t.n.b)) (by kernel_rfl) rfl rfl ?_
  rw [hDe]
  clear hDe hD
  clear e0 e1 e2 e3 e4 e5 d0 d1
  refine pick_op (i := 0) (v := .pointer (some ⟨Mb, 0, none⟩)) (by kernel_rfl) rfl (by kernel_rfl) (by kernel_rfl) rfl rfl (fun w' _ => by simp [go_sem]) hS (by simp [go_sem]; exact rfl) ?_
  refine pick_op (i := 1) (v := .pointer (some ⟨Mb, 0, none⟩)) (by kernel_rfl) rfl (by kernel_rfl) (by kernel_rfl) rfl rfl (fun w' _ => by simp [go_sem]) hS (by simp [go_sem]; exact rfl) ?_
  refine pick_op (i := 2) (v := .pointer (some ⟨Mb, 0, none⟩)) (by kernel_rfl) rfl (by kernel_rfl) (by kernel_rfl) rfl rfl (fun w' _ => by simp [go_sem]) hS (by simp [go_sem]; exact rfl) ?_
  refine pick_op (i := 3) (v := .pointer (some ⟨Mb, 0, none⟩)) (by kernel_rfl) rfl (by kernel_rfl) (by kernel_rfl) rfl rfl (fun w' _ => by simp [go_sem]) hS (by simp [go_sem]; exact rfl) ?_
  refine pick_op (i := 4) (v := .pointer (some ⟨Mb, 1, none⟩)) (by kernel_rfl) rfl (by kernel_rfl) (by kernel_rfl) rfl rfl (fun w' _ => by simp [go_sem]) hS (by simp [go_sem]; exact rfl) ?_
  refine pick_op (i := 5) (v := .slice (some ⟨b, off, none⟩) ns.length cap) (by kernel_rfl) rfl (by kernel_rfl) (by kernel_rfl) rfl rfl (fun w' h => by simp [go_sem, h.1]) hS (by simp [go_sem]; exact rfl) ?_
  refine pick_op (i := 6) (v := .int .i64 (t.at_ : Int)) (by kernel_rfl) rfl (by kernel_rfl) (by kernel_rfl) rfl rfl (fun w' _ => by simp [go_sem]) hS (by simp [go_sem]; exact rfl) ?_
  refine pick_op (i := 8) (v := .slice adn ss.length cpn) (by kernel_rfl) rfl (by kernel_rfl) (by kernel_rfl) rfl rfl (fun w' _ => by simp [go_sem]) hS (by simp [go_sem]; exact rfl) ?_
  refine pick_op (i := 9) (v := .pointer (some ⟨W.heap.size, 2, none⟩)) (by kernel_rfl) rfl (by kernel_rfl) (by kernel_rfl) rfl rfl (fun w' _ => by simp [go_sem]) hS (by simp [go_sem]; exact rfl) ?_
  refine pick_op (i := 10) (v := .string t.n.a) (by kernel_rfl) rfl (by kernel_rfl) (by kernel_rfl) rfl rfl (fun w' h => by simp [go_sem, h.2.1]) hS (by simp [go_sem]; exact rfl) ?_
  refine pick_op (i := 11) (v := .pointer (some ⟨W.heap.size, 3, none⟩)) (by kernel_rfl) rfl (by kernel_rfl) (by kernel_rfl) rfl rfl (fun w' _ => by simp [go_sem]) hS (by simp [go_sem]; exact rfl) ?_
  refine pick_op (i := 12) (v := .string t.n.b) (by kernel_rfl) rfl (by kernel_rfl) (by kernel_rfl) rfl rfl (fun w' h => by simp [go_sem, h.2.2]) hS (by simp [go_sem]; exact rfl) ?_
  refine pick_other (i := 7) (j := 13) (by kernel_rfl) ?_ ?_
  · have HQ : Hid (W.heap.size < D3.heap.size) := heap_lt ((G3.out.block W.heap.size _ _ HA.out (by decide) (by decide) (by decide)).trans HA.out)
    refine ⟨_, 47, #[.slice (some ⟨b, off, none⟩) ns.length cap, .int .i64 (t.at_ : Int), .int .i64 (2 : Int)], rfl, rfl, by simp [go_sem], ?_⟩
    refine (kid_calls (cap := cap) 2 D3 (cx_nodes HX.out S3.out) HX.out.tl HS.out (by have := HC.out; omega)).mono ?_
    rintro e Xk ⟨rfl, rfl⟩
    refine ⟨_, rfl, hS, ?_⟩
    refine pick_frame (by simp [go_sem]; exact rfl) ?_
    have hA1 : Below D3.heap.size D3 (D3.alloc (.cells #[.string t.n.a, .string t.n.b] 9)) := (Below.refl _ _).alloc (Nat.le_refl _) _
    have hS1 : (fun w' : World => w'.cell? ⟨Mb, 1, none⟩ = some (.slice (some ⟨b, off, none⟩) ns.length cap) ∧ w'.cell? ⟨W.heap.size, 2, none⟩ = some (.string t.n.a) ∧ w'.cell? ⟨W.heap.size, 3, none⟩ = some (.string t.n.b)) (D3.alloc (.cells #[.string t.n.a, .string t.n.b] 9)) := ⟨(hA1.cell (heap_at S3.out)).trans hS.1, (hA1.cell HQ.out).trans hS.2.1, (hA1.cell HQ.out).trans hS.2.2⟩
    refine pick_make (i := 13) (v := .slice (some ⟨D3.heap.size, 0, none⟩) 2 2) (w1 := D3.alloc (.cells #[.string t.n.a, .string t.n.b] 9)) rfl (by kernel_rfl) rfl rfl (by simp [go_sem]) hS1 (by simp [go_sem]; exact rfl) ?_
    refine pick_enter (i := 14) (f := 45) (args := #[.slice adn ss.length cpn, .slice (some ⟨D3.heap.size, 0, none⟩) 2 2]) rfl (by kernel_rfl) rfl rfl (by simp [go_sem]) ?_
    refine (withN_calls (ss := ss) (ms := [t.n.a, t.n.b]) _ ((N0.out.frame G3.out).names.below hA1) (lit_names D3 [t.n.a, t.n.b]) (by have := HK.out; have := HZ.out; simp only [List.length_cons, List.length_nil]; omega)).mono ?_
    rintro e X4 ⟨u4, rfl, hu4, hb4⟩
    have B4 : Below D3.heap.size D3 X4 := hA1.trans (hb4.mono (by simp))
    have hS2 : (fun w' : World => w'.cell? ⟨Mb, 1, none⟩ = some (.slice (some ⟨b, off, none⟩) ns.length cap) ∧ w'.cell? ⟨W.heap.size, 2, none⟩ = some (.string t.n.a) ∧ w'.cell? ⟨W.heap.size, 3, none⟩ = some (.string t.n.b)) X4 := ⟨(B4.cell (heap_at S3.out)).trans hS.1, (B4.cell HQ.out).trans hS.2.1, (B4.cell HQ.out).trans hS.2.2⟩
    have U4 := hid hu4
    have S4 := hid (S3.out.below B4)
    have G4 : Hid (Cf Y X4) := G3.out.trans (Cf.of_below B4)
    have R4 := R3
    have Tn2_4 := Tn2_3
    clear hu4 hb4 B4 hS hS1 hA1
    refine ⟨u4, rfl, hS2, ?_⟩
    refine pick_frame (by simp [go_sem]; exact rfl) ?_
    refine pick_enter (i := 15) (f := 30) (args := #[.pointer (some ⟨Mb, 0, none⟩), .int .i64 ((t.kid 2).at_ : Int), u4]) rfl (by kernel_rfl) rfl rfl (by simp [go_sem]) ?_
    refine (HIH.out (t.kid 2) (ss ++ [t.n.a, t.n.b]) ((Cs.put ((partZ es F (t.kid 0) (ss) (s))) ⟨19, 0, 0, 0⟩)) _ _ (by have := HZ.out; have := HK.out; omega) (HS.out.kid (by have := HC.out; omega)) (by have := HK.out; have := HZ.out; simp only [List.length_append, List.length_cons, List.length_nil]; omega) (by have r := R4.out.cost; have hb := HB.out; have hz := HZ.out; omega) S4.out (U4.out.frame (Cf.refl _))).mono ?_
    rintro e X5 ⟨⟨x5, rfl⟩, h1, g1⟩
    have S5 := hid h1
    have G5 : Hid (Cf Y X5) := G4.out.trans g1
    have Q5 := hid (part_r (ns := ns) (K := K) (es := es) F (t.kid 2) (ss ++ [t.n.a, t.n.b]) ((Cs.put ((partZ es F (t.kid 0) (ss) (s))) ⟨19, 0, 0, 0⟩)) (by have := HZ.out; have := HK.out; omega) (HS.out.kid (by have := HC.out; omega)) (by have := HK.out; have := HZ.out; simp only [List.length_append, List.length_cons, List.length_nil]; omega))
    have R5 := hid (R4.out.trans Q5.out)
    have Tn2_5 := hid (Nat.lt_of_lt_of_le Tn2_4.out Q5.out.out)
    have D4_5 : Hid (Cf X4 X5) := g1
    have hbx := (G5.out.block W.heap.size _ _ HA.out (by decide) (by decide) (by decide)).trans HA.out
    refine ⟨x5, rfl, ⟨S5.out.tree, cell_of_heap hbx 2, cell_of_heap hbx 3⟩, ?_⟩
    clear h1 g1 hbx hS2 HQ
    refine pick_frame (by simp [go_sem]; exact rfl) ?_
    refine pick_end (by kernel_rfl) ?_
    have hbx := (G5.out.block W.heap.size _ _ HA.out (by decide) (by decide) (by decide)).trans HA.out
    have e0 := cell_of_heap hbx 0
    have e1 := cell_of_heap hbx 1
    have e2 := cell_of_heap hbx 2
    have e3 := cell_of_heap hbx 3
    have e4 := cell_of_heap hbx 4
    have e5 := cell_of_heap hbx 5
    have d0 := S5.out.effs
    have d1 := S5.out.tree
    simp at e0 e1 e2 e3 e4 e5
    clear hbx
    go_wp2_with fail
    clear e0 e1 e2 e3 e4 e5 d0 d1
    refine (putM_calls ⟨13, 0, 0, 0⟩ S5.out (by have r := R5.out.cost; have hb := HB.out; have hz := HZ.out; omega)).mono ?_
    rintro e X6 ⟨rfl, h1, g1⟩
    obtain ⟨n6, hn6⟩ : ∃ n, ((partZ es F (t.kid 2) (ss ++ [t.n.a, t.n.b]) ((Cs.put ((partZ es F (t.kid 0) (ss) (s))) ⟨19, 0, 0, 0⟩)))).out.length = n := ⟨_, rfl⟩
    rw [hn6]
    have H6 := hid hn6
    have tn : n6 < (Cs.put ((partZ es F (t.kid 2) (ss ++ [t.n.a, t.n.b]) ((Cs.put ((partZ es F (t.kid 0) (ss) (s))) ⟨19, 0, 0, 0⟩)))) ⟨13, 0, 0, 0⟩).out.length := by rw [← hn6]; simp [Cs.put]
    have S6 := hid h1
    have G6 : Hid (Cf Y X6) := G5.out.trans g1
    have Q6 := hid (Rs.put ns K ((partZ es F (t.kid 2) (ss ++ [t.n.a, t.n.b]) ((Cs.put ((partZ es F (t.kid 0) (ss) (s))) ⟨19, 0, 0, 0⟩)))) ⟨13, 0, 0, 0⟩)
    have R6 := hid (R5.out.trans Q6.out)
    have Tn2_6 := hid (Nat.lt_of_lt_of_le Tn2_5.out Q6.out.out)
    have D4_6 : Hid (Cf X4 X6) := D4_5.out.trans g1
    have Tn6_6 := hid tn
    clear h1 g1 hn6 tn
    have hbx := (G6.out.block W.heap.size _ _ HA.out (by decide) (by decide) (by decide)).trans HA.out
    have e0 := cell_of_heap hbx 0
    have e1 := cell_of_heap hbx 1
    have e2 := cell_of_heap hbx 2
    have e3 := cell_of_heap hbx 3
    have e4 := cell_of_heap hbx 4
    have e5 := cell_of_heap hbx 5
    have d0 := S6.out.effs
    have d1 := S6.out.tree
    simp at e0 e1 e2 e3 e4 e5
    clear hbx
    go_wp2_with fail
    clear e0 e1 e2 e3 e4 e5 d0 d1
    refine (putM_calls ⟨13, 0, 0, 0⟩ S6.out (by have r := R6.out.cost; have hb := HB.out; have hz := HZ.out; omega)).mono ?_
    rintro e X7 ⟨rfl, h1, g1⟩
    obtain ⟨n7, hn7⟩ : ∃ n, ((Cs.put ((partZ es F (t.kid 2) (ss ++ [t.n.a, t.n.b]) ((Cs.put ((partZ es F (t.kid 0) (ss) (s))) ⟨19, 0, 0, 0⟩)))) ⟨13, 0, 0, 0⟩)).out.length = n := ⟨_, rfl⟩
    rw [hn7]
    have H7 := hid hn7
    have tn : n7 < (Cs.put ((Cs.put ((partZ es F (t.kid 2) (ss ++ [t.n.a, t.n.b]) ((Cs.put ((partZ es F (t.kid 0) (ss) (s))) ⟨19, 0, 0, 0⟩)))) ⟨13, 0, 0, 0⟩)) ⟨13, 0, 0, 0⟩).out.length := by rw [← hn7]; simp [Cs.put]
    have S7 := hid h1
    have G7 : Hid (Cf Y X7) := G6.out.trans g1
    have Q7 := hid (Rs.put ns K ((Cs.put ((partZ es F (t.kid 2) (ss ++ [t.n.a, t.n.b]) ((Cs.put ((partZ es F (t.kid 0) (ss) (s))) ⟨19, 0, 0, 0⟩)))) ⟨13, 0, 0, 0⟩)) ⟨13, 0, 0, 0⟩)
    have R7 := hid (R6.out.trans Q7.out)
    have Tn2_7 := hid (Nat.lt_of_lt_of_le Tn2_6.out Q7.out.out)
    have Tn6_7 := hid (Nat.lt_of_lt_of_le Tn6_6.out Q7.out.out)
    have D4_7 : Hid (Cf X4 X7) := D4_6.out.trans g1
    have Tn7_7 := hid tn
    clear h1 g1 hn7 tn
    have hbx := (G7.out.block W.heap.size _ _ HA.out (by decide) (by decide) (by decide)).trans HA.out
    have e0 := cell_of_heap hbx 0
    have e1 := cell_of_heap hbx 1
    have e2 := cell_of_heap hbx 2
    have e3 := cell_of_heap hbx 3
    have e4 := cell_of_heap hbx 4
    have e5 := cell_of_heap hbx 5
    have d0 := S7.out.effs
    have d1 := S7.out.tree
    simp at e0 e1 e2 e3 e4 e5
    clear hbx
    go_wp2_with fail
    clear e0 e1 e2 e3 e4 e5 d0 d1
    refine (putM_calls ⟨11, 0, 0, 0⟩ S7.out (by have r := R7.out.cost; have hb := HB.out; have hz := HZ.out; omega)).mono ?_
    rintro e X8 ⟨rfl, h1, g1⟩
    obtain ⟨n8, hn8⟩ : ∃ n, ((Cs.put ((Cs.put ((partZ es F (t.kid 2) (ss ++ [t.n.a, t.n.b]) ((Cs.put ((partZ es F (t.kid 0) (ss) (s))) ⟨19, 0, 0, 0⟩)))) ⟨13, 0, 0, 0⟩)) ⟨13, 0, 0, 0⟩)).out.length = n := ⟨_, rfl⟩
    rw [hn8]
    have H8 := hid hn8
    have tn : n8 < (Cs.put ((Cs.put ((Cs.put ((partZ es F (t.kid 2) (ss ++ [t.n.a, t.n.b]) ((Cs.put ((partZ es F (t.kid 0) (ss) (s))) ⟨19, 0, 0, 0⟩)))) ⟨13, 0, 0, 0⟩)) ⟨13, 0, 0, 0⟩)) ⟨11, 0, 0, 0⟩).out.length := by rw [← hn8]; simp [Cs.put]
    have S8 := hid h1
    have G8 : Hid (Cf Y X8) := G7.out.trans g1
    have Q8 := hid (Rs.put ns K ((Cs.put ((Cs.put ((partZ es F (t.kid 2) (ss ++ [t.n.a, t.n.b]) ((Cs.put ((partZ es F (t.kid 0) (ss) (s))) ⟨19, 0, 0, 0⟩)))) ⟨13, 0, 0, 0⟩)) ⟨13, 0, 0, 0⟩)) ⟨11, 0, 0, 0⟩)
    have R8 := hid (R7.out.trans Q8.out)
    have Tn2_8 := hid (Nat.lt_of_lt_of_le Tn2_7.out Q8.out.out)
    have Tn6_8 := hid (Nat.lt_of_lt_of_le Tn6_7.out Q8.out.out)
    have Tn7_8 := hid (Nat.lt_of_lt_of_le Tn7_7.out Q8.out.out)
    have D4_8 : Hid (Cf X4 X8) := D4_7.out.trans g1
    have Tn8_8 := hid tn
    clear h1 g1 hn8 tn
    have hbx := (G8.out.block W.heap.size _ _ HA.out (by decide) (by decide) (by decide)).trans HA.out
    have e0 := cell_of_heap hbx 0
    have e1 := cell_of_heap hbx 1
    have e2 := cell_of_heap hbx 2
    have e3 := cell_of_heap hbx 3
    have e4 := cell_of_heap hbx 4
    have e5 := cell_of_heap hbx 5
    have d0 := S8.out.effs
    have d1 := S8.out.tree
    simp at e0 e1 e2 e3 e4 e5
    clear hbx
    go_wp2_with fail
    clear e0 e1 e2 e3 e4 e5 d0 d1
    refine (lead_calls n2 0 S8.out (by have r := R8.out.cost; have hb := HB.out; have hz := HZ.out; omega) Tn2_8.out (by decide)).mono ?_
    rintro e X9 ⟨⟨x9, rfl⟩, h1, g1⟩
    have S9 := hid h1
    have G9 : Hid (Cf Y X9) := G8.out.trans g1
    have Q9 := hid (Rs.lead ns K ((Cs.put ((Cs.put ((Cs.put ((partZ es F (t.kid 2) (ss ++ [t.n.a, t.n.b]) ((Cs.put ((partZ es F (t.kid 0) (ss) (s))) ⟨19, 0, 0, 0⟩)))) ⟨13, 0, 0, 0⟩)) ⟨13, 0, 0, 0⟩)) ⟨11, 0, 0, 0⟩)) n2 0)
    have R9 := hid (R8.out.trans Q9.out)
    have Tn2_9 := hid (Nat.lt_of_lt_of_le Tn2_8.out Q9.out.out)
    have Tn6_9 := hid (Nat.lt_of_lt_of_le Tn6_8.out Q9.out.out)
    have Tn7_9 := hid (Nat.lt_of_lt_of_le Tn7_8.out Q9.out.out)
    have Tn8_9 := hid (Nat.lt_of_lt_of_le Tn8_8.out Q9.out.out)
    have D4_9 : Hid (Cf X4 X9) := D4_8.out.trans g1
    clear h1 g1
    have hbx := (G9.out.block W.heap.size _ _ HA.out (by decide) (by decide) (by decide)).trans HA.out
    have e0 := cell_of_heap hbx 0
    have e1 := cell_of_heap hbx 1
    have e2 := cell_of_heap hbx 2
    have e3 := cell_of_heap hbx 3
    have e4 := cell_of_heap hbx 4
    have e5 := cell_of_heap hbx 5
    have d0 := S9.out.effs
    have d1 := S9.out.tree
    simp at e0 e1 e2 e3 e4 e5
    clear hbx
    go_wp2_with fail
    clear e0 e1 e2 e3 e4 e5 d0 d1
    refine (kid_calls (cap := cap) 1 X9 (cx_nodes HX.out S9.out) HX.out.tl HS.out (by have := HC.out; omega)).mono ?_
    rintro e Xk ⟨rfl, rfl⟩
    have hbx := (G9.out.block W.heap.size _ _ HA.out (by decide) (by decide) (by decide)).trans HA.out
    have e0 := cell_of_heap hbx 0
    have e1 := cell_of_heap hbx 1
    have e2 := cell_of_heap hbx 2
    have e3 := cell_of_heap hbx 3
    have e4 := cell_of_heap hbx 4
    have e5 := cell_of_heap hbx 5
    have d0 := S9.out.effs
    have d1 := S9.out.tree
    simp at e0 e1 e2 e3 e4 e5
    clear hbx
    go_wp2_with fail
    clear e0 e1 e2 e3 e4 e5 d0 d1
    refine (HIH.out (t.kid 1) (ss) ((Cs.lead ((Cs.put ((Cs.put ((Cs.put ((partZ es F (t.kid 2) (ss ++ [t.n.a, t.n.b]) ((Cs.put ((partZ es F (t.kid 0) (ss) (s))) ⟨19, 0, 0, 0⟩)))) ⟨13, 0, 0, 0⟩)) ⟨13, 0, 0, 0⟩)) ⟨11, 0, 0, 0⟩)) n2 0)) _ _ (by have := HZ.out; have := HK.out; omega) (HS.out.kid (by have := HC.out; omega)) (by have := HK.out; have := HZ.out; (try simp only [List.length_append, List.length_cons, List.length_nil]); omega) (by have r := R9.out.cost; have hb := HB.out; have hz := HZ.out; omega) S9.out (N0.out.frame G9.out)).mono ?_
    rintro e X10 ⟨⟨x10, rfl⟩, h1, g1⟩
    have S10 := hid h1
    have G10 : Hid (Cf Y X10) := G9.out.trans g1
    have Q10 := hid (part_r (ns := ns) (K := K) (es := es) F (t.kid 1) (ss) ((Cs.lead ((Cs.put ((Cs.put ((Cs.put ((partZ es F (t.kid 2) (ss ++ [t.n.a, t.n.b]) ((Cs.put ((partZ es F (t.kid 0) (ss) (s))) ⟨19, 0, 0, 0⟩)))) ⟨13, 0, 0, 0⟩)) ⟨13, 0, 0, 0⟩)) ⟨11, 0, 0, 0⟩)) n2 0)) (by have := HZ.out; have := HK.out; omega) (HS.out.kid (by have := HC.out; omega)) (by have := HK.out; have := HZ.out; (try simp only [List.length_append, List.length_cons, List.length_nil]); omega))
    have R10 := hid (R9.out.trans Q10.out)
    have Tn2_10 := hid (Nat.lt_of_lt_of_le Tn2_9.out Q10.out.out)
    have Tn6_10 := hid (Nat.lt_of_lt_of_le Tn6_9.out Q10.out.out)
    have Tn7_10 := hid (Nat.lt_of_lt_of_le Tn7_9.out Q10.out.out)
    have Tn8_10 := hid (Nat.lt_of_lt_of_le Tn8_9.out Q10.out.out)
    have D4_10 : Hid (Cf X4 X10) := D4_9.out.trans g1
    clear h1 g1
    have hbx := (G10.out.block W.heap.size _ _ HA.out (by decide) (by decide) (by decide)).trans HA.out
    have e0 := cell_of_heap hbx 0
    have e1 := cell_of_heap hbx 1
    have e2 := cell_of_heap hbx 2
    have e3 := cell_of_heap hbx 3
    have e4 := cell_of_heap hbx 4
    have e5 := cell_of_heap hbx 5
    have d0 := S10.out.effs
    have d1 := S10.out.tree
    simp at e0 e1 e2 e3 e4 e5
    clear hbx
    go_wp2_with fail
    clear e0 e1 e2 e3 e4 e5 d0 d1
    refine (lead_calls n8 0 S10.out (by have r := R10.out.cost; have hb := HB.out; have hz := HZ.out; omega) Tn8_10.out (by decide)).mono ?_
    rintro e X11 ⟨⟨x11, rfl⟩, h1, g1⟩
    have S11 := hid h1
    have G11 : Hid (Cf Y X11) := G10.out.trans g1
    have Q11 := hid (Rs.lead ns K ((partZ es F (t.kid 1) (ss) ((Cs.lead ((Cs.put ((Cs.put ((Cs.put ((partZ es F (t.kid 2) (ss ++ [t.n.a, t.n.b]) ((Cs.put ((partZ es F (t.kid 0) (ss) (s))) ⟨19, 0, 0, 0⟩)))) ⟨13, 0, 0, 0⟩)) ⟨13, 0, 0, 0⟩)) ⟨11, 0, 0, 0⟩)) n2 0)))) n8 0)
    have R11 := hid (R10.out.trans Q11.out)
    have Tn2_11 := hid (Nat.lt_of_lt_of_le Tn2_10.out Q11.out.out)
    have Tn6_11 := hid (Nat.lt_of_lt_of_le Tn6_10.out Q11.out.out)
    have Tn7_11 := hid (Nat.lt_of_lt_of_le Tn7_10.out Q11.out.out)
    have Tn8_11 := hid (Nat.lt_of_lt_of_le Tn8_10.out Q11.out.out)
    have D4_11 : Hid (Cf X4 X11) := D4_10.out.trans g1
    clear h1 g1
    have hbx := (G11.out.block W.heap.size _ _ HA.out (by decide) (by decide) (by decide)).trans HA.out
    have e0 := cell_of_heap hbx 0
    have e1 := cell_of_heap hbx 1
    have e2 := cell_of_heap hbx 2
    have e3 := cell_of_heap hbx 3
    have e4 := cell_of_heap hbx 4
    have e5 := cell_of_heap hbx 5
    have d0 := S11.out.effs
    have d1 := S11.out.tree
    simp at e0 e1 e2 e3 e4 e5
    clear hbx
    go_wp2_with fail
    clear e0 e1 e2 e3 e4 e5 d0 d1
    go_end0
    have qn2 := H2.out
    subst qn2
    have qn8 := H8.out
    subst qn8
    exact ⟨⟨_, rfl⟩, S11.out, F0.out.trans G11.out⟩
  · have HQ : Hid (W.heap.size < D3.heap.size) := heap_lt ((G3.out.block W.heap.size _ _ HA.out (by decide) (by decide) (by decide)).trans HA.out)
    have hA1 : Below D3.heap.size D3 (D3.alloc (.cells #[.string t.n.a, .string t.n.b] 9)) := (Below.refl _ _).alloc (Nat.le_refl _) _
    have hS1 : (fun w' : World => w'.cell? ⟨Mb, 1, none⟩ = some (.slice (some ⟨b, off, none⟩) ns.length cap) ∧ w'.cell? ⟨W.heap.size, 2, none⟩ = some (.string t.n.a) ∧ w'.cell? ⟨W.heap.size, 3, none⟩ = some (.string t.n.b)) (D3.alloc (.cells #[.string t.n.a, .string t.n.b] 9)) := ⟨(hA1.cell (heap_at S3.out)).trans hS.1, (hA1.cell HQ.out).trans hS.2.1, (hA1.cell HQ.out).trans hS.2.2⟩
    refine ⟨_, .slice (some ⟨D3.heap.size, 0, none⟩) 2 2, D3.alloc (.cells #[.string t.n.a, .string t.n.b] 9), rfl, rfl, by simp [go_sem], hS1, ?_⟩
    refine pick_frame (by simp [go_sem]; exact rfl) ?_
    refine pick_enter (i := 7) (f := 47) (args := #[.slice (some ⟨b, off, none⟩) ns.length cap, .int .i64 (t.at_ : Int), .int .i64 (2 : Int)]) rfl (by kernel_rfl) rfl rfl (by simp [go_sem]) ?_
    refine (kid_calls (cap := cap) 2 _ (cx_nodes HX.out (S3.out.below hA1)) HX.out.tl HS.out (by have := HC.out; omega)).mono ?_
    rintro e Xk ⟨rfl, rfl⟩
    refine ⟨_, rfl, hS1, ?_⟩
    refine pick_frame (by simp [go_sem]; exact rfl) ?_
    refine pick_enter (i := 14) (f := 45) (args := #[.slice adn ss.length cpn, .slice (some ⟨D3.heap.size, 0, none⟩) 2 2]) rfl (by kernel_rfl) rfl rfl (by simp [go_sem]) ?_
    refine (withN_calls (ss := ss) (ms := [t.n.a, t.n.b]) _ ((N0.out.frame G3.out).names.below hA1) (lit_names D3 [t.n.a, t.n.b]) (by have := HK.out; have := HZ.out; simp only [List.length_cons, List.length_nil]; omega)).mono ?_
    rintro e X4 ⟨u4, rfl, hu4, hb4⟩
    have B4 : Below D3.heap.size D3 X4 := hA1.trans (hb4.mono (by simp))
    have hS2 : (fun w' : World => w'.cell? ⟨Mb, 1, none⟩ = some (.slice (some ⟨b, off, none⟩) ns.length cap) ∧ w'.cell? ⟨W.heap.size, 2, none⟩ = some (.string t.n.a) ∧ w'.cell? ⟨W.heap.size, 3, none⟩ = some (.string t.n.b)) X4 := ⟨(B4.cell (heap_at S3.out)).trans hS.1, (B4.cell HQ.out).trans hS.2.1, (B4.cell HQ.out).trans hS.2.2⟩
    have U4 := hid hu4
    have S4 := hid (S3.out.below B4)
    have G4 : Hid (Cf Y X4) := G3.out.trans (Cf.of_below B4)
    have R4 := R3
    have Tn2_4 := Tn2_3
    clear hu4 hb4 B4 hS hS1 hA1
    refine ⟨u4, rfl, hS2, ?_⟩
    refine pick_frame (by simp [go_sem]; exact rfl) ?_
    refine pick_enter (i := 15) (f := 30) (args := #[.pointer (some ⟨Mb, 0, none⟩), .int .i64 ((t.kid 2).at_ : Int), u4]) rfl (by kernel_rfl) rfl rfl (by simp [go_sem]) ?_
    refine (HIH.out (t.kid 2) (ss ++ [t.n.a, t.n.b]) ((Cs.put ((partZ es F (t.kid 0) (ss) (s))) ⟨19, 0, 0, 0⟩)) _ _ (by have := HZ.out; have := HK.out; omega) (HS.out.kid (by have := HC.out; omega)) (by have := HK.out; have := HZ.out; simp only [List.length_append, List.length_cons, List.length_nil]; omega) (by have r := R4.out.cost; have hb := HB.out; have hz := HZ.out; omega) S4.out (U4.out.frame (Cf.refl _))).mono ?_
    rintro e X5 ⟨⟨x5, rfl⟩, h1, g1⟩
    have S5 := hid h1
    have G5 : Hid (Cf Y X5) := G4.out.trans g1
    have Q5 := hid (part_r (ns := ns) (K := K) (es := es) F (t.kid 2) (ss ++ [t.n.a, t.n.b]) ((Cs.put ((partZ es F (t.kid 0) (ss) (s))) ⟨19, 0, 0, 0⟩)) (by have := HZ.out; have := HK.out; omega) (HS.out.kid (by have := HC.out; omega)) (by have := HK.out; have := HZ.out; simp only [List.length_append, List.length_cons, List.length_nil]; omega))
    have R5 := hid (R4.out.trans Q5.out)
    have Tn2_5 := hid (Nat.lt_of_lt_of_le Tn2_4.out Q5.out.out)
    have D4_5 : Hid (Cf X4 X5) := g1
    have hbx := (G5.out.block W.heap.size _ _ HA.out (by decide) (by decide) (by decide)).trans HA.out
    refine ⟨x5, rfl, ⟨S5.out.tree, cell_of_heap hbx 2, cell_of_heap hbx 3⟩, ?_⟩
    clear h1 g1 hbx hS2 HQ
    refine pick_frame (by simp [go_sem]; exact rfl) ?_
    refine pick_end (by kernel_rfl) ?_
    have hbx := (G5.out.block W.heap.size _ _ HA.out (by decide) (by decide) (by decide)).trans HA.out
    have e0 := cell_of_heap hbx 0
    have e1 := cell_of_heap hbx 1
    have e2 := cell_of_heap hbx 2
    have e3 := cell_of_heap hbx 3
    have e4 := cell_of_heap hbx 4
    have e5 := cell_of_heap hbx 5
    have d0 := S5.out.effs
    have d1 := S5.out.tree
    simp at e0 e1 e2 e3 e4 e5
    clear hbx
    go_wp2_with fail
    clear e0 e1 e2 e3 e4 e5 d0 d1
    refine (putM_calls ⟨13, 0, 0, 0⟩ S5.out (by have r := R5.out.cost; have hb := HB.out; have hz := HZ.out; omega)).mono ?_
    rintro e X6 ⟨rfl, h1, g1⟩
    obtain ⟨n6, hn6⟩ : ∃ n, ((partZ es F (t.kid 2) (ss ++ [t.n.a, t.n.b]) ((Cs.put ((partZ es F (t.kid 0) (ss) (s))) ⟨19, 0, 0, 0⟩)))).out.length = n := ⟨_, rfl⟩
    rw [hn6]
    have H6 := hid hn6
    have tn : n6 < (Cs.put ((partZ es F (t.kid 2) (ss ++ [t.n.a, t.n.b]) ((Cs.put ((partZ es F (t.kid 0) (ss) (s))) ⟨19, 0, 0, 0⟩)))) ⟨13, 0, 0, 0⟩).out.length := by rw [← hn6]; simp [Cs.put]
    have S6 := hid h1
    have G6 : Hid (Cf Y X6) := G5.out.trans g1
    have Q6 := hid (Rs.put ns K ((partZ es F (t.kid 2) (ss ++ [t.n.a, t.n.b]) ((Cs.put ((partZ es F (t.kid 0) (ss) (s))) ⟨19, 0, 0, 0⟩)))) ⟨13, 0, 0, 0⟩)
    have R6 := hid (R5.out.trans Q6.out)
    have Tn2_6 := hid (Nat.lt_of_lt_of_le Tn2_5.out Q6.out.out)
    have D4_6 : Hid (Cf X4 X6) := D4_5.out.trans g1
    have Tn6_6 := hid tn
    clear h1 g1 hn6 tn
    have hbx := (G6.out.block W.heap.size _ _ HA.out (by decide) (by decide) (by decide)).trans HA.out
    have e0 := cell_of_heap hbx 0
    have e1 := cell_of_heap hbx 1
    have e2 := cell_of_heap hbx 2
    have e3 := cell_of_heap hbx 3
    have e4 := cell_of_heap hbx 4
    have e5 := cell_of_heap hbx 5
    have d0 := S6.out.effs
    have d1 := S6.out.tree
    simp at e0 e1 e2 e3 e4 e5
    clear hbx
    go_wp2_with fail
    clear e0 e1 e2 e3 e4 e5 d0 d1
    refine (putM_calls ⟨13, 0, 0, 0⟩ S6.out (by have r := R6.out.cost; have hb := HB.out; have hz := HZ.out; omega)).mono ?_
    rintro e X7 ⟨rfl, h1, g1⟩
    obtain ⟨n7, hn7⟩ : ∃ n, ((Cs.put ((partZ es F (t.kid 2) (ss ++ [t.n.a, t.n.b]) ((Cs.put ((partZ es F (t.kid 0) (ss) (s))) ⟨19, 0, 0, 0⟩)))) ⟨13, 0, 0, 0⟩)).out.length = n := ⟨_, rfl⟩
    rw [hn7]
    have H7 := hid hn7
    have tn : n7 < (Cs.put ((Cs.put ((partZ es F (t.kid 2) (ss ++ [t.n.a, t.n.b]) ((Cs.put ((partZ es F (t.kid 0) (ss) (s))) ⟨19, 0, 0, 0⟩)))) ⟨13, 0, 0, 0⟩)) ⟨13, 0, 0, 0⟩).out.length := by rw [← hn7]; simp [Cs.put]
    have S7 := hid h1
    have G7 : Hid (Cf Y X7) := G6.out.trans g1
    have Q7 := hid (Rs.put ns K ((Cs.put ((partZ es F (t.kid 2) (ss ++ [t.n.a, t.n.b]) ((Cs.put ((partZ es F (t.kid 0) (ss) (s))) ⟨19, 0, 0, 0⟩)))) ⟨13, 0, 0, 0⟩)) ⟨13, 0, 0, 0⟩)
    have R7 := hid (R6.out.trans Q7.out)
    have Tn2_7 := hid (Nat.lt_of_lt_of_le Tn2_6.out Q7.out.out)
    have Tn6_7 := hid (Nat.lt_of_lt_of_le Tn6_6.out Q7.out.out)
    have D4_7 : Hid (Cf X4 X7) := D4_6.out.trans g1
    have Tn7_7 := hid tn
    clear h1 g1 hn7 tn
    have hbx := (G7.out.block W.heap.size _ _ HA.out (by decide) (by decide) (by decide)).trans HA.out
    have e0 := cell_of_heap hbx 0
    have e1 := cell_of_heap hbx 1
    have e2 := cell_of_heap hbx 2
    have e3 := cell_of_heap hbx 3
    have e4 := cell_of_heap hbx 4
    have e5 := cell_of_heap hbx 5
    have d0 := S7.out.effs
    have d1 := S7.out.tree
    simp at e0 e1 e2 e3 e4 e5
    clear hbx
    go_wp2_with fail
    clear e0 e1 e2 e3 e4 e5 d0 d1
    refine (putM_calls ⟨11, 0, 0, 0⟩ S7.out (by have r := R7.out.cost; have hb := HB.out; have hz := HZ.out; omega)).mono ?_
    rintro e X8 ⟨rfl, h1, g1⟩
    obtain ⟨n8, hn8⟩ : ∃ n, ((Cs.put ((Cs.put ((partZ es F (t.kid 2) (ss ++ [t.n.a, t.n.b]) ((Cs.put ((partZ es F (t.kid 0) (ss) (s))) ⟨19, 0, 0, 0⟩)))) ⟨13, 0, 0, 0⟩)) ⟨13, 0, 0, 0⟩)).out.length = n := ⟨_, rfl⟩
    rw [hn8]
    have H8 := hid hn8
    have tn : n8 < (Cs.put ((Cs.put ((Cs.put ((partZ es F (t.kid 2) (ss ++ [t.n.a, t.n.b]) ((Cs.put ((partZ es F (t.kid 0) (ss) (s))) ⟨19, 0, 0, 0⟩)))) ⟨13, 0, 0, 0⟩)) ⟨13, 0, 0, 0⟩)) ⟨11, 0, 0, 0⟩).out.length := by rw [← hn8]; simp [Cs.put]
    have S8 := hid h1
    have G8 : Hid (Cf Y X8) := G7.out.trans g1
    have Q8 := hid (Rs.put ns K ((Cs.put ((Cs.put ((partZ es F (t.kid 2) (ss ++ [t.n.a, t.n.b]) ((Cs.put ((partZ es F (t.kid 0) (ss) (s))) ⟨19, 0, 0, 0⟩)))) ⟨13, 0, 0, 0⟩)) ⟨13, 0, 0, 0⟩)) ⟨11, 0, 0, 0⟩)
    have R8 := hid (R7.out.trans Q8.out)
    have Tn2_8 := hid (Nat.lt_of_lt_of_le Tn2_7.out Q8.out.out)
    have Tn6_8 := hid (Nat.lt_of_lt_of_le Tn6_7.out Q8.out.out)
    have Tn7_8 := hid (Nat.lt_of_lt_of_le Tn7_7.out Q8.out.out)
    have D4_8 : Hid (Cf X4 X8) := D4_7.out.trans g1
    have Tn8_8 := hid tn
    clear h1 g1 hn8 tn
    have hbx := (G8.out.block W.heap.size _ _ HA.out (by decide) (by decide) (by decide)).trans HA.out
    have e0 := cell_of_heap hbx 0
    have e1 := cell_of_heap hbx 1
    have e2 := cell_of_heap hbx 2
    have e3 := cell_of_heap hbx 3
    have e4 := cell_of_heap hbx 4
    have e5 := cell_of_heap hbx 5
    have d0 := S8.out.effs
    have d1 := S8.out.tree
    simp at e0 e1 e2 e3 e4 e5
    clear hbx
    go_wp2_with fail
    clear e0 e1 e2 e3 e4 e5 d0 d1
    refine (lead_calls n2 0 S8.out (by have r := R8.out.cost; have hb := HB.out; have hz := HZ.out; omega) Tn2_8.out (by decide)).mono ?_
    rintro e X9 ⟨⟨x9, rfl⟩, h1, g1⟩
    have S9 := hid h1
    have G9 : Hid (Cf Y X9) := G8.out.trans g1
    have Q9 := hid (Rs.lead ns K ((Cs.put ((Cs.put ((Cs.put ((partZ es F (t.kid 2) (ss ++ [t.n.a, t.n.b]) ((Cs.put ((partZ es F (t.kid 0) (ss) (s))) ⟨19, 0, 0, 0⟩)))) ⟨13, 0, 0, 0⟩)) ⟨13, 0, 0, 0⟩)) ⟨11, 0, 0, 0⟩)) n2 0)
    have R9 := hid (R8.out.trans Q9.out)
    have Tn2_9 := hid (Nat.lt_of_lt_of_le Tn2_8.out Q9.out.out)
    have Tn6_9 := hid (Nat.lt_of_lt_of_le Tn6_8.out Q9.out.out)
    have Tn7_9 := hid (Nat.lt_of_lt_of_le Tn7_8.out Q9.out.out)
    have Tn8_9 := hid (Nat.lt_of_lt_of_le Tn8_8.out Q9.out.out)
    have D4_9 : Hid (Cf X4 X9) := D4_8.out.trans g1
    clear h1 g1
    have hbx := (G9.out.block W.heap.size _ _ HA.out (by decide) (by decide) (by decide)).trans HA.out
    have e0 := cell_of_heap hbx 0
    have e1 := cell_of_heap hbx 1
    have e2 := cell_of_heap hbx 2
    have e3 := cell_of_heap hbx 3
    have e4 := cell_of_heap hbx 4
    have e5 := cell_of_heap hbx 5
    have d0 := S9.out.effs
    have d1 := S9.out.tree
    simp at e0 e1 e2 e3 e4 e5
    clear hbx
    go_wp2_with fail
    clear e0 e1 e2 e3 e4 e5 d0 d1
    refine (kid_calls (cap := cap) 1 X9 (cx_nodes HX.out S9.out) HX.out.tl HS.out (by have := HC.out; omega)).mono ?_
    rintro e Xk ⟨rfl, rfl⟩
    have hbx := (G9.out.block W.heap.size _ _ HA.out (by decide) (by decide) (by decide)).trans HA.out
    have e0 := cell_of_heap hbx 0
    have e1 := cell_of_heap hbx 1
    have e2 := cell_of_heap hbx 2
    have e3 := cell_of_heap hbx 3
    have e4 := cell_of_heap hbx 4
    have e5 := cell_of_heap hbx 5
    have d0 := S9.out.effs
    have d1 := S9.out.tree
    simp at e0 e1 e2 e3 e4 e5
    clear hbx
    go_wp2_with fail
    clear e0 e1 e2 e3 e4 e5 d0 d1
    refine (HIH.out (t.kid 1) (ss) ((Cs.lead ((Cs.put ((Cs.put ((Cs.put ((partZ es F (t.kid 2) (ss ++ [t.n.a, t.n.b]) ((Cs.put ((partZ es F (t.kid 0) (ss) (s))) ⟨19, 0, 0, 0⟩)))) ⟨13, 0, 0, 0⟩)) ⟨13, 0, 0, 0⟩)) ⟨11, 0, 0, 0⟩)) n2 0)) _ _ (by have := HZ.out; have := HK.out; omega) (HS.out.kid (by have := HC.out; omega)) (by have := HK.out; have := HZ.out; (try simp only [List.length_append, List.length_cons, List.length_nil]); omega) (by have r := R9.out.cost; have hb := HB.out; have hz := HZ.out; omega) S9.out (N0.out.frame G9.out)).mono ?_
    rintro e X10 ⟨⟨x10, rfl⟩, h1, g1⟩
    have S10 := hid h1
    have G10 : Hid (Cf Y X10) := G9.out.trans g1
    have Q10 := hid (part_r (ns := ns) (K := K) (es := es) F (t.kid 1) (ss) ((Cs.lead ((Cs.put ((Cs.put ((Cs.put ((partZ es F (t.kid 2) (ss ++ [t.n.a, t.n.b]) ((Cs.put ((partZ es F (t.kid 0) (ss) (s))) ⟨19, 0, 0, 0⟩)))) ⟨13, 0, 0, 0⟩)) ⟨13, 0, 0, 0⟩)) ⟨11, 0, 0, 0⟩)) n2 0)) (by have := HZ.out; have := HK.out; omega) (HS.out.kid (by have := HC.out; omega)) (by have := HK.out; have := HZ.out; (try simp only [List.length_append, List.length_cons, List.length_nil]); omega))
    have R10 := hid (R9.out.trans Q10.out)
    have Tn2_10 := hid (Nat.lt_of_lt_of_le Tn2_9.out Q10.out.out)
    have Tn6_10 := hid (Nat.lt_of_lt_of_le Tn6_9.out Q10.out.out)
    have Tn7_10 := hid (Nat.lt_of_lt_of_le Tn7_9.out Q10.out.out)
    have Tn8_10 := hid (Nat.lt_of_lt_of_le Tn8_9.out Q10.out.out)
    have D4_10 : Hid (Cf X4 X10) := D4_9.out.trans g1
    clear h1 g1
    have hbx := (G10.out.block W.heap.size _ _ HA.out (by decide) (by decide) (by decide)).trans HA.out
    have e0 := cell_of_heap hbx 0
    have e1 := cell_of_heap hbx 1
    have e2 := cell_of_heap hbx 2
    have e3 := cell_of_heap hbx 3
    have e4 := cell_of_heap hbx 4
    have e5 := cell_of_heap hbx 5
    have d0 := S10.out.effs
    have d1 := S10.out.tree
    simp at e0 e1 e2 e3 e4 e5
    clear hbx
    go_wp2_with fail
    clear e0 e1 e2 e3 e4 e5 d0 d1
    refine (lead_calls n8 0 S10.out (by have r := R10.out.cost; have hb := HB.out; have hz := HZ.out; omega) Tn8_10.out (by decide)).mono ?_
    rintro e X11 ⟨⟨x11, rfl⟩, h1, g1⟩
    have S11 := hid h1
    have G11 : Hid (Cf Y X11) := G10.out.trans g1
    have Q11 := hid (Rs.lead ns K ((partZ es F (t.kid 1) (ss) ((Cs.lead ((Cs.put ((Cs.put ((Cs.put ((partZ es F (t.kid 2) (ss ++ [t.n.a, t.n.b]) ((Cs.put ((partZ es F (t.kid 0) (ss) (s))) ⟨19, 0, 0, 0⟩)))) ⟨13, 0, 0, 0⟩)) ⟨13, 0, 0, 0⟩)) ⟨11, 0, 0, 0⟩)) n2 0)))) n8 0)
    have R11 := hid (R10.out.trans Q11.out)
    have Tn2_11 := hid (Nat.lt_of_lt_of_le Tn2_10.out Q11.out.out)
    have Tn6_11 := hid (Nat.lt_of_lt_of_le Tn6_10.out Q11.out.out)
    have Tn7_11 := hid (Nat.lt_of_lt_of_le Tn7_10.out Q11.out.out)
    have Tn8_11 := hid (Nat.lt_of_lt_of_le Tn8_10.out Q11.out.out)
    have D4_11 : Hid (Cf X4 X11) := D4_10.out.trans g1
    clear h1 g1
    have hbx := (G11.out.block W.heap.size _ _ HA.out (by decide) (by decide) (by decide)).trans HA.out
    have e0 := cell_of_heap hbx 0
    have e1 := cell_of_heap hbx 1
    have e2 := cell_of_heap hbx 2
    have e3 := cell_of_heap hbx 3
    have e4 := cell_of_heap hbx 4
    have e5 := cell_of_heap hbx 5
    have d0 := S11.out.effs
    have d1 := S11.out.tree
    simp at e0 e1 e2 e3 e4 e5
    clear hbx
    go_wp2_with fail
    clear e0 e1 e2 e3 e4 e5 d0 d1
    go_end0
    have qn2 := H2.out
    subst qn2
    have qn8 := H8.out
    subst qn8
    exact ⟨⟨_, rfl⟩, S11.out, F0.out.trans G11.out⟩

end
end Go.Proofs.YtegjdgiegnofhaaDoor
