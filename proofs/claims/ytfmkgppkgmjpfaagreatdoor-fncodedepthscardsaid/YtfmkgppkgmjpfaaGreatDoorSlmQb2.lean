import Derived.Test.YtfmkgppkgmjpfaaGreatDoorSlmQb1
import Derived.IntWalk
import Derived.Test.YtfmkgppkgmjpfaaGreatDoorSlmQb0
namespace Go.Proofs.YtfmkgppkgmjpfaaGreatDoor
section
open Go.RowKit Go.Deep
theorem row_made (X : World) : (X.alloc (.cells #[] 9)).ownsRow X.heap.size 9 1 (.slice (some ⟨X.heap.size, 0, none⟩) 0 0) 0 (strRow []) := World.ownsRow_made X #[] 0 (Nat.le_refl _) (Nat.zero_le _) rfl
set_option maxHeartbeats 2000000 in
set_option maxRecDepth 100000 in
theorem z45 {v mv : Value} {ss ms : List ByteArray} (W : World) (h : NamesV W v ss) (hm : NamesV W mv ms) (hl : ss.length + ms.length ≤ 100000) :
   Calls Tryz.prog 50 #[v, mv] W fun e W' => ∃ u, e = .returned u ∧ NmT W' u (ss ++ ms) ∧ Below W.heap.size W W' := by
 have hb0 : Below W.heap.size W (W.alloc (.cells #[] 9)) := (Below.refl _ _).alloc (Nat.le_refl _) _
 obtain ⟨ad, cp, rfl⟩ := h.slice
 obtain ⟨adm, cpm, rfl⟩ := hm.slice
 have HV := hid (And.intro (h.below hb0) (And.intro hm (And.intro hl hb0)))
 clear h hm hl hb0
 go_enter Tryz.func50, Tryz.ntmps50
 go_wp2_with (first
   | (at_builtin; refine z36 rfl _ _ 75 rfl _ _ rfl rfl (fun ty => app_names ty (row_made W) HV.out.1 (by have := HV.out.2.2.1; simp; omega) (by simp)) ?_; rintro v5 w5 ⟨ho5, hg5, -⟩; have B5 : Hid (Below W.heap.size W w5) := HV.out.2.2.2.grown hg5 (by simp) (fun k hk => ((row_made W).lt k hk).1); have O5 := hid ho5; have M5 := hid (HV.out.2.1.below B5.out); clear ho5 hg5)
   | (at_builtin; refine z36 rfl _ _ 75 rfl _ _ rfl rfl (fun ty => app_names ty O5.out M5.out (by have := HV.out.2.2.1; simp; omega) B5.out.size) ?_; rintro v6 w6 ⟨ho6, hg6, -⟩; have B6 : Hid (Below W.heap.size W w6) := B5.out.grown hg6 B5.out.size (fun k hk => (O5.out.lt k hk).1); have O6 := hid ho6; clear ho6 hg6))
 go_ret
 exact ⟨_, rfl, nmT_owns O6.out, B6.out⟩
set_option maxHeartbeats 2000000 in
set_option maxRecDepth 100000 in
theorem index_calls {v : Value} {ss : List ByteArray} (x : ByteArray) (W : World) (h : NamesV W v ss) (hl : ss.length ≤ 100000) :
   Calls Tryz.prog 48 #[v, .string x] W fun e W' => e = .returned (.int .i64 (idxZ ss x)) ∧ W = W' := by
 obtain ⟨ad, cp, rfl⟩ := h.slice
 obtain ⟨L, hL⟩ : ∃ L, ss.length = L := ⟨_, rfl⟩
 have HV := hid h
 have HL := hid (And.intro hL hl)
 rw [hL] at HV ⊢
 obtain ⟨TG, hTG⟩ : ∃ TG, idxZ ss x = TG := ⟨_, rfl⟩
 have HTG : Hid (idxGo ss x L = TG) := by show _ = _; rw [← hL]; exact hTG
 rw [hTG]
 clear h hl hL hTG
 go_enter Tryz.func48, Tryz.ntmps48
 have HW1 : Hid (wrap64 ((L : Int) - 1) = (L : Int) - 1) := by show _ = _; have := HL.out; unfold wrap64; omega
 go_wp2_with fail
 rw [HW1.out]
 go_loopw [5] (fun i wr => ∃ (k : Nat) (z : Int), i = .int .i64 z ∧ z = (k : Int) - 1 ∧ k ≤ L ∧ Hid (idxGo ss x k = TG) ∧ wr = W) (fun i _ => (intOf i + 1).toNat)
 case atStart => exact ⟨L, _, rfl, rfl, Nat.le_refl _, HTG, rfl⟩
 case round =>
   obtain ⟨k, z, rfl, hz, hk, HI, rfl⟩ := hrel
   cases k with
   | zero =>
     have hzn : ¬ ((0 : Int) ≤ z) := by omega
     have HE : Hid (TG = -1) := by show _ = _; rw [← HI.out]; rfl
     clear hz
     go_wp2_with fail
     go_ret
     rw [HE.out]
     exact ⟨rfl, rfl⟩
   | succ k =>
     have hzk : z = (k : Int) := by omega
     subst hzk
     clear hz
     obtain ⟨-, g, o, rfl, hg, hc⟩ := HV.out.cell (by omega : 0 < L)
     have hcell := hc k (by omega)
     have HI2 : Hid ((if ((ss.getD k ⟨#[]⟩).toList == x.toList) = true then ((ss.length - 1 - k : Nat) : Int) else idxGo ss x k) = TG) := HI
     obtain ⟨y, hy⟩ : ∃ y, ss.getD k ⟨#[]⟩ = y := ⟨_, rfl⟩
     rw [hy] at hcell HI2
     have hk0 : (0 : Int) ≤ (k : Int) := by omega
     have hkL : (k : Int) < (L : Int) := by omega
     clear hc hy HI
     cases heq : (y.toList == x.toList) with
     | true =>
       rw [heq, if_pos rfl] at HI2
       have HW2 : Hid (wrap64 (wrap64 ((L : Int) - 1) - (k : Int)) = TG) := by show _ = _; rw [HW1.out, ← HI2.out]; have := HL.out; unfold wrap64; omega
       go_wp2_with fail
       go_ret
       rw [HW2.out]
       exact ⟨rfl, rfl⟩
     | false =>
       rw [heq, if_neg (by decide)] at HI2
       have HW2 : Hid (wrap64 ((k : Int) - 1) = (k : Int) - 1) := by show _ = _; have := HL.out; unfold wrap64; omega
       go_wp2_with fail
       rw [HW2.out]
       exact ⟨⟨k, _, rfl, rfl, by omega, HI2, trivial⟩, by simp only [intOf]; omega⟩
end
section
open Go.RowKit Go.Deep

structure Cx (W0 : World) (Mb : Nat) (ae : Option Addr) (b off : Nat) (es : List Ef) (ns : List Nd) : Prop where
 tb : b < W0.heap.size
 tm : b ≠ Mb
 tn : NodesAt W0 b off ns
 tl : ns.length ≤ 300
 el : es.length ≤ 1000
 ee : es ≠ [] → ∃ be oe, ae = some ⟨be, oe, none⟩ ∧ be < W0.heap.size ∧ be ≠ Mb ∧ EffsAt W0 be oe es
theorem z37 {W0 : World} {Mb : Nat} {ae : Option Addr} {b off : Nat} {es : List Ef} {ns : List Nd} (h : Cx W0 Mb ae b off es ns) {ve vt : Value} {s : Cs} {W : World} (m : CmE W0 Mb ve vt s W) : NodesAt W b off ns := by
 obtain ⟨ls, vo, vl, m⟩ := m
 exact fun j hj c hc => (World.cell?_of_block (a := ⟨b, off + j * 6 + c, none⟩) (m.kept b h.tb h.tm)).trans (h.tn j hj c hc)
theorem cx_effs {W0 : World} {Mb : Nat} {ae : Option Addr} {b off : Nat} {es : List Ef} {ns : List Nd} (h : Cx W0 Mb ae b off es ns) {ve vt : Value} {s : Cs} {W : World} (m : CmE W0 Mb ve vt s W) : es ≠ [] → ∃ be oe, ae = some ⟨be, oe, none⟩ ∧ EffsAt W be oe es := fun he => by
 obtain ⟨ls, vo, vl, m⟩ := m
 obtain ⟨be, oe, e, h1, h2, h3⟩ := h.ee he
 exact ⟨be, oe, e, fun j hj c hc => (World.cell?_of_block (a := ⟨be, oe + j * 3 + c, none⟩) (m.kept be h1 h2)).trans (h3 j hj c hc)⟩
theorem CmE.effs {W0 : World} {Mb : Nat} {ve vt : Value} {s : Cs} {W : World} (m : CmE W0 Mb ve vt s W) : W.cell? ⟨Mb, 0, none⟩ = some ve := by
 obtain ⟨ls, vo, vl, m⟩ := m
 exact z11 m.blk 0
theorem CmE.tree {W0 : World} {Mb : Nat} {ve vt : Value} {s : Cs} {W : World} (m : CmE W0 Mb ve vt s W) : W.cell? ⟨Mb, 1, none⟩ = some vt := by
 obtain ⟨ls, vo, vl, m⟩ := m
 exact z11 m.blk 1
theorem z59 (w : World) (ss : List ByteArray) : NamesV (w.alloc (.cells (strRow ss).toArray 9)) (.slice (some ⟨w.heap.size, 0, none⟩) ss.length ss.length) ss := by
 have hh := (MapKept.heap_alloc w (.cells (strRow ss).toArray 9)).1
 refine Or.inr ⟨_, 0, _, rfl, z26 hh, fun j hj => ?_⟩
 rw [Nat.zero_add, z11 hh j]
 simp only [List.getElem?_toArray]
 exact strRow_get ss j hj
theorem z70 {W0 : World} {Mb : Nat} {ve vt : Value} {s : Cs} {W : World} (m : CmE W0 Mb ve vt s W) : Mb < W.heap.size := by
 obtain ⟨ls, vo, vl, m⟩ := m
 exact z26 m.blk
theorem later_le (s : Cs) : s.later.length ≤ s.rest := by
 obtain ⟨o, l⟩ := s
 unfold Cs.rest
 dsimp only
 induction l with
 | nil => exact Nat.zero_le _
 | cons x l ih =>
   have := x.t.size_pos
   simp only [List.length_cons, List.map_cons, List.sum_cons]
   omega
def PartC (W0 : World) (Mb : Nat) (ae : Option Addr) (ce b off cap : Nat) (es : List Ef) (ns : List Nd) (K F : Nat) : Prop := ∀ (t : Tp) (ss : List ByteArray) (s : Cs) (v : Value) (W : World), t.size ≤ F → Stands ns t → ss.length + 2 * t.size ≤ K → s.out.length + 10 * s.rest + 10 * t.size ≤ 950000 → CmE W0 Mb (.slice ae es.length ce) (.slice (some ⟨b, off, none⟩) ns.length cap) s W → NmT W v ss →
   Calls Tryz.prog 26 #[.pointer (some ⟨Mb, 0, none⟩), .int .i64 (t.at_ : Int), v] W (LeadPost W0 Mb (.slice ae es.length ce) (.slice (some ⟨b, off, none⟩) ns.length cap) (partZ es F t ss s) W)
theorem pick_other {P : Program} {l0 : List Oper} {Q : Exit → Act → World → Prop} {S : World → Prop} {i j n : Nat} {ls : Array Bool} {a : Act} {w : World} (hr : (Region.ready .any l0.toArray ls == [i, j]) = true) (h1 : PickCl P l0 Q S n ls a w i) (h2 : PickMk P l0 Q S n ls a w j) : wpAnyH P .any l0.toArray (NoPanic Q) S (n + 1) ls a w := by
 refine wpAnyH_all (rs := [i, j]) (by simpa using hr) (by simp) (fun k hk => ?_)
 simp only [List.mem_cons, List.not_mem_nil, or_false] at hk
 rcases hk with rfl | rfl
 · exact h1.op
 · exact h2.op

section
variable {W0 : World} {Mb : Nat} {ae : Option Addr} {ce b off cap : Nat} {es : List Ef} {ns : List Nd} {K F : Nat}
set_option maxHeartbeats 2000000 in
set_option maxRecDepth 100000 in
theorem bound_calls (ih : PartC W0 Mb ae ce b off cap es ns K F) {t : Tp} {ss : List ByteArray} {s : Cs} {v : Value} {W : World} (hF : t.size ≤ F) (hs : Stands ns t) (hK : ss.length + 2 * t.size ≤ K) (hB : s.out.length + 10 * s.rest + 10 * t.size + 1 ≤ 950000) (h : CmE W0 Mb (.slice ae es.length ce) (.slice (some ⟨b, off, none⟩) ns.length cap) s W) (hv : NmT W v ss) :
   Calls Tryz.prog 51 #[.pointer (some ⟨Mb, 0, none⟩), .int .i64 (t.at_ : Int), v] W (LeadPost W0 Mb (.slice ae es.length ce) (.slice (some ⟨b, off, none⟩) ns.length cap) (boundZ (partZ es F) t ss s) W) := by
 obtain ⟨ad, cp, rfl⟩ := hv.is
 have HIH := hid ih
 have HS := hid (And.intro hF (And.intro hs hK))
 have HB := hid hB
 have S0 := hid h
 have N0 := hid hv
 clear ih hF hs hK hB h hv
 go_enter Tryz.func51, Tryz.ntmps51
 go_wp2_with fail
 refine (z35 ⟨12, 0, 0, 0⟩ S0.out (by have := HB.out; omega)).mono ?_
 rintro e X1 ⟨rfl, h1, g1⟩
 obtain ⟨n1, hn1⟩ : ∃ n, s.out.length = n := ⟨_, rfl⟩
 rw [hn1]
 have S1 := hid h1
 have G1 := hid g1
 have R1 := hid (Rs.put ns K s ⟨12, 0, 0, 0⟩)
 clear h1 g1 hn1
 go_wp2_with fail
 refine (HIH.out t ss _ _ _ HS.out.1 HS.out.2.1 HS.out.2.2 (by have := HB.out; have := R1.out.cost; omega) S1.out (N0.out.frame G1.out)).mono ?_
 rintro e X2 ⟨⟨x2, rfl⟩, h2, g2⟩
 have S2 := hid h2
 have G2 := hid (G1.out.trans g2)
 have R2 := hid (R1.out.trans (part_r (ns := ns) (K := K) (es := es) F t ss (s.put ⟨12, 0, 0, 0⟩) HS.out.1 HS.out.2.1 HS.out.2.2))
 clear h2 g2
 go_wp2_with fail
 refine (z35 ⟨13, 0, 0, 0⟩ S2.out (by have := HB.out; have := R2.out.cost; omega)).mono ?_
 rintro e X3 ⟨rfl, h3, g3⟩
 obtain ⟨n3, hn3⟩ : ∃ n, (partZ es F t ss (s.put ⟨12, 0, 0, 0⟩)).out.length = n := ⟨_, rfl⟩
 rw [hn3]
 have S3 := hid h3
 have G3 := hid (G2.out.trans g3)
 clear h3 g3 hn3
 go_wp2_with fail
 go_end0
 exact ⟨⟨_, rfl⟩, S3.out, G3.out⟩
set_option maxHeartbeats 4000000 in
set_option maxRecDepth 100000 in
theorem part_c1 (cx : Cx W0 Mb ae b off es ns) (hk1 : K ≤ 1000) {t : Tp} {ss : List ByteArray} {s : Cs} {v : Value} {W : World} (hF : t.size ≤ F + 1) (hs : Stands ns t) (hK : ss.length + 2 * t.size ≤ K) (hB : s.out.length + 10 * s.rest + 10 * t.size ≤ 950000) (h : CmE W0 Mb (.slice ae es.length ce) (.slice (some ⟨b, off, none⟩) ns.length cap) s W) (hv : NmT W v ss) (ek : t.n.kind = 1) :
   Calls Tryz.prog 26 #[.pointer (some ⟨Mb, 0, none⟩), .int .i64 (t.at_ : Int), v] W (LeadPost W0 Mb (.slice ae es.length ce) (.slice (some ⟨b, off, none⟩) ns.length cap) (s.put ⟨1, t.n.num, 0, 0⟩) W) := by
 obtain ⟨adn, cpn, rfl⟩ := hv.is
 have hnc := z37 cx h
 obtain ⟨hlt, hat, hsz⟩ := hs.lt
 have c0 := hnc t.at_ hlt 0 (by omega)
 have c1 := hnc t.at_ hlt 1 (by omega)
 have c2 := hnc t.at_ hlt 2 (by omega)
 have c3 := hnc t.at_ hlt 3 (by omega)
 have c4 := hnc t.at_ hlt 4 (by omega)
 have c5 := hnc t.at_ hlt 5 (by omega)
 rw [hat] at c0 c1 c2 c3 c4 c5
 simp only [Nd.cell, Nat.add_zero] at c0 c1 c2 c3 c4 c5
 rw [ek] at c0
 have d1 := h.tree
 have hA := (MapKept.heap_alloc W (.cells #[.int .i64 1, .int .i64 t.n.num, .string t.n.a, .string t.n.b, .string t.n.c, .int .i64 t.n.kids] 116)).1
 have hB1 := (Below.refl W.heap.size W).alloc (Nat.le_refl _) (.cells #[.int .i64 1, .int .i64 t.n.num, .string t.n.a, .string t.n.b, .string t.n.c, .int .i64 t.n.kids] 116)
 obtain ⟨Y, hY⟩ : ∃ Y, W.alloc (.cells #[.int .i64 1, .int .i64 t.n.num, .string t.n.a, .string t.n.b, .string t.n.c, .int .i64 t.n.kids] 116) = Y := ⟨_, rfl⟩
 rw [hY] at hA hB1
 have HY := hid hY
 have HA := hid hA
 have S0 := hid (h.below hB1)
 have F0 := hid (Cf.of_below hB1)
 have N0 := hid (hv.frame (Cf.of_below hB1))
 have G0 := hid (Cf.refl Y)
 have R0 := hid (Rs.refl ns K s)
 have hgood := hs.toGood
 have HC : Hid (True) := trivial
 have HZ : Hid (1 ≤ t.size) := t.size_pos
 have hp0 : (0 : Int) ≤ (t.at_ : Int) := by omega
 have hpl : (t.at_ : Int) < (ns.length : Int) := by omega
 have HP1 : Hid (0 < t.k.count → wrap64 ((t.at_ : Int) + 1) = ((t.kid 0).at_ : Int)) := fun h0 => by rw [hs.first h0]; have := cx.tl; unfold wrap64; omega
 have HX := hid cx
 have HS := hid hs
 have HK := hid (And.intro hK (And.intro hF hk1))
 have HB := hid hB
 clear hA hB1 hY h hv hnc hlt hat hsz hgood cx hs hK hF hB hk1
 go_enter Tryz.func26, Tryz.ntmps26
 go_upto_region 1 with fail
 rw [HY.out]
 clear HY c0 c1 c2 c3 c4 c5 d1
 have hbx := (G0.out.block W.heap.size _ _ HA.out (by decide) (by decide) (by decide)).trans HA.out
 have e0 := z11 hbx 0
 have e1 := z11 hbx 1
 have e2 := z11 hbx 2
 have e3 := z11 hbx 3
 have e4 := z11 hbx 4
 have e5 := z11 hbx 5
 have d0 := S0.out.effs
 have d1 := S0.out.tree
 simp at e0 e1 e2 e3 e4 e5
 clear hbx
 go_wp2_with fail
 clear e0 e1 e2 e3 e4 e5 d0 d1
 refine (z35 ⟨1, t.n.num, 0, 0⟩ S0.out (by have r := R0.out.cost; have hb := HB.out; have hz := HZ.out; omega)).mono ?_
 rintro e X1 ⟨rfl, h1, g1⟩
 obtain ⟨n1, hn1⟩ : ∃ n, (s).out.length = n := ⟨_, rfl⟩
 rw [hn1]
 have H1 := hid hn1
 have tn : n1 < (Cs.put (s) ⟨1, t.n.num, 0, 0⟩).out.length := by rw [← hn1]; simp [Cs.put]
 have S1 := hid h1
 have G1 : Hid (Cf Y X1) := G0.out.trans g1
 have Q1 := hid (Rs.put ns K (s) ⟨1, t.n.num, 0, 0⟩)
 have R1 := hid (R0.out.trans Q1.out)
 have Tn1_1 := hid tn
 clear h1 g1 hn1 tn
 have hbx := (G1.out.block W.heap.size _ _ HA.out (by decide) (by decide) (by decide)).trans HA.out
 have e0 := z11 hbx 0
 have e1 := z11 hbx 1
 have e2 := z11 hbx 2
 have e3 := z11 hbx 3
 have e4 := z11 hbx 4
 have e5 := z11 hbx 5
 have d0 := S1.out.effs
 have d1 := S1.out.tree
 simp at e0 e1 e2 e3 e4 e5
 clear hbx
 go_wp2_with fail
 clear e0 e1 e2 e3 e4 e5 d0 d1
 go_end0
 exact ⟨⟨_, rfl⟩, S1.out, F0.out.trans G1.out⟩
set_option maxHeartbeats 4000000 in
set_option maxRecDepth 100000 in
theorem part_c2 (cx : Cx W0 Mb ae b off es ns) (hk1 : K ≤ 1000) {t : Tp} {ss : List ByteArray} {s : Cs} {v : Value} {W : World} (hF : t.size ≤ F + 1) (hs : Stands ns t) (hK : ss.length + 2 * t.size ≤ K) (hB : s.out.length + 10 * s.rest + 10 * t.size ≤ 950000) (h : CmE W0 Mb (.slice ae es.length ce) (.slice (some ⟨b, off, none⟩) ns.length cap) s W) (hv : NmT W v ss) (ek : t.n.kind = 2) :
   Calls Tryz.prog 26 #[.pointer (some ⟨Mb, 0, none⟩), .int .i64 (t.at_ : Int), v] W (LeadPost W0 Mb (.slice ae es.length ce) (.slice (some ⟨b, off, none⟩) ns.length cap) (s.put ⟨2, t.n.num, 0, 0⟩) W) := by
 obtain ⟨adn, cpn, rfl⟩ := hv.is
 have hnc := z37 cx h
 obtain ⟨hlt, hat, hsz⟩ := hs.lt
 have c0 := hnc t.at_ hlt 0 (by omega)
 have c1 := hnc t.at_ hlt 1 (by omega)
 have c2 := hnc t.at_ hlt 2 (by omega)
 have c3 := hnc t.at_ hlt 3 (by omega)
 have c4 := hnc t.at_ hlt 4 (by omega)
 have c5 := hnc t.at_ hlt 5 (by omega)
 rw [hat] at c0 c1 c2 c3 c4 c5
 simp only [Nd.cell, Nat.add_zero] at c0 c1 c2 c3 c4 c5
 rw [ek] at c0
 have d1 := h.tree
 have hA := (MapKept.heap_alloc W (.cells #[.int .i64 2, .int .i64 t.n.num, .string t.n.a, .string t.n.b, .string t.n.c, .int .i64 t.n.kids] 116)).1
 have hB1 := (Below.refl W.heap.size W).alloc (Nat.le_refl _) (.cells #[.int .i64 2, .int .i64 t.n.num, .string t.n.a, .string t.n.b, .string t.n.c, .int .i64 t.n.kids] 116)
 obtain ⟨Y, hY⟩ : ∃ Y, W.alloc (.cells #[.int .i64 2, .int .i64 t.n.num, .string t.n.a, .string t.n.b, .string t.n.c, .int .i64 t.n.kids] 116) = Y := ⟨_, rfl⟩
 rw [hY] at hA hB1
 have HY := hid hY
 have HA := hid hA
 have S0 := hid (h.below hB1)
 have F0 := hid (Cf.of_below hB1)
 have N0 := hid (hv.frame (Cf.of_below hB1))
 have G0 := hid (Cf.refl Y)
 have R0 := hid (Rs.refl ns K s)
 have hgood := hs.toGood
 have HC : Hid (True) := trivial
 have HZ : Hid (1 ≤ t.size) := t.size_pos
 have hp0 : (0 : Int) ≤ (t.at_ : Int) := by omega
 have hpl : (t.at_ : Int) < (ns.length : Int) := by omega
 have HP1 : Hid (0 < t.k.count → wrap64 ((t.at_ : Int) + 1) = ((t.kid 0).at_ : Int)) := fun h0 => by rw [hs.first h0]; have := cx.tl; unfold wrap64; omega
 have HX := hid cx
 have HS := hid hs
 have HK := hid (And.intro hK (And.intro hF hk1))
 have HB := hid hB
 clear hA hB1 hY h hv hnc hlt hat hsz hgood cx hs hK hF hB hk1
 go_enter Tryz.func26, Tryz.ntmps26
 go_upto_region 1 with fail
 rw [HY.out]
 clear HY c0 c1 c2 c3 c4 c5 d1
 have hbx := (G0.out.block W.heap.size _ _ HA.out (by decide) (by decide) (by decide)).trans HA.out
 have e0 := z11 hbx 0
 have e1 := z11 hbx 1
 have e2 := z11 hbx 2
 have e3 := z11 hbx 3
 have e4 := z11 hbx 4
 have e5 := z11 hbx 5
 have d0 := S0.out.effs
 have d1 := S0.out.tree
 simp at e0 e1 e2 e3 e4 e5
 clear hbx
 go_wp2_with fail
 clear e0 e1 e2 e3 e4 e5 d0 d1
 refine (z35 ⟨2, t.n.num, 0, 0⟩ S0.out (by have r := R0.out.cost; have hb := HB.out; have hz := HZ.out; omega)).mono ?_
 rintro e X1 ⟨rfl, h1, g1⟩
 obtain ⟨n1, hn1⟩ : ∃ n, (s).out.length = n := ⟨_, rfl⟩
 rw [hn1]
 have H1 := hid hn1
 have tn : n1 < (Cs.put (s) ⟨2, t.n.num, 0, 0⟩).out.length := by rw [← hn1]; simp [Cs.put]
 have S1 := hid h1
 have G1 : Hid (Cf Y X1) := G0.out.trans g1
 have Q1 := hid (Rs.put ns K (s) ⟨2, t.n.num, 0, 0⟩)
 have R1 := hid (R0.out.trans Q1.out)
 have Tn1_1 := hid tn
 clear h1 g1 hn1 tn
 have hbx := (G1.out.block W.heap.size _ _ HA.out (by decide) (by decide) (by decide)).trans HA.out
 have e0 := z11 hbx 0
 have e1 := z11 hbx 1
 have e2 := z11 hbx 2
 have e3 := z11 hbx 3
 have e4 := z11 hbx 4
 have e5 := z11 hbx 5
 have d0 := S1.out.effs
 have d1 := S1.out.tree
 simp at e0 e1 e2 e3 e4 e5
 clear hbx
 go_wp2_with fail
 clear e0 e1 e2 e3 e4 e5 d0 d1
 go_end0
 exact ⟨⟨_, rfl⟩, S1.out, F0.out.trans G1.out⟩
set_option maxHeartbeats 4000000 in
set_option maxRecDepth 100000 in
theorem part_c3 (cx : Cx W0 Mb ae b off es ns) (hk1 : K ≤ 1000) {t : Tp} {ss : List ByteArray} {s : Cs} {v : Value} {W : World} (hF : t.size ≤ F + 1) (hs : Stands ns t) (hK : ss.length + 2 * t.size ≤ K) (hB : s.out.length + 10 * s.rest + 10 * t.size ≤ 950000) (h : CmE W0 Mb (.slice ae es.length ce) (.slice (some ⟨b, off, none⟩) ns.length cap) s W) (hv : NmT W v ss) (ek : t.n.kind = 3) :
   Calls Tryz.prog 26 #[.pointer (some ⟨Mb, 0, none⟩), .int .i64 (t.at_ : Int), v] W (LeadPost W0 Mb (.slice ae es.length ce) (.slice (some ⟨b, off, none⟩) ns.length cap) (s.put ⟨3, 0, 0, 0⟩) W) := by
 obtain ⟨adn, cpn, rfl⟩ := hv.is
 have hnc := z37 cx h
 obtain ⟨hlt, hat, hsz⟩ := hs.lt
 have c0 := hnc t.at_ hlt 0 (by omega)
 have c1 := hnc t.at_ hlt 1 (by omega)
 have c2 := hnc t.at_ hlt 2 (by omega)
 have c3 := hnc t.at_ hlt 3 (by omega)
 have c4 := hnc t.at_ hlt 4 (by omega)
 have c5 := hnc t.at_ hlt 5 (by omega)
 rw [hat] at c0 c1 c2 c3 c4 c5
 simp only [Nd.cell, Nat.add_zero] at c0 c1 c2 c3 c4 c5
 rw [ek] at c0
 have d1 := h.tree
 have hA := (MapKept.heap_alloc W (.cells #[.int .i64 3, .int .i64 t.n.num, .string t.n.a, .string t.n.b, .string t.n.c, .int .i64 t.n.kids] 116)).1
 have hB1 := (Below.refl W.heap.size W).alloc (Nat.le_refl _) (.cells #[.int .i64 3, .int .i64 t.n.num, .string t.n.a, .string t.n.b, .string t.n.c, .int .i64 t.n.kids] 116)
 obtain ⟨Y, hY⟩ : ∃ Y, W.alloc (.cells #[.int .i64 3, .int .i64 t.n.num, .string t.n.a, .string t.n.b, .string t.n.c, .int .i64 t.n.kids] 116) = Y := ⟨_, rfl⟩
 rw [hY] at hA hB1
 have HY := hid hY
 have HA := hid hA
 have S0 := hid (h.below hB1)
 have F0 := hid (Cf.of_below hB1)
 have N0 := hid (hv.frame (Cf.of_below hB1))
 have G0 := hid (Cf.refl Y)
 have R0 := hid (Rs.refl ns K s)
 have hgood := hs.toGood
 have HC : Hid (True) := trivial
 have HZ : Hid (1 ≤ t.size) := t.size_pos
 have hp0 : (0 : Int) ≤ (t.at_ : Int) := by omega
 have hpl : (t.at_ : Int) < (ns.length : Int) := by omega
 have HP1 : Hid (0 < t.k.count → wrap64 ((t.at_ : Int) + 1) = ((t.kid 0).at_ : Int)) := fun h0 => by rw [hs.first h0]; have := cx.tl; unfold wrap64; omega
 have HX := hid cx
 have HS := hid hs
 have HK := hid (And.intro hK (And.intro hF hk1))
 have HB := hid hB
 clear hA hB1 hY h hv hnc hlt hat hsz hgood cx hs hK hF hB hk1
 go_enter Tryz.func26, Tryz.ntmps26
 go_upto_region 1 with fail
 rw [HY.out]
 clear HY c0 c1 c2 c3 c4 c5 d1
 have hbx := (G0.out.block W.heap.size _ _ HA.out (by decide) (by decide) (by decide)).trans HA.out
 have e0 := z11 hbx 0
 have e1 := z11 hbx 1
 have e2 := z11 hbx 2
 have e3 := z11 hbx 3
 have e4 := z11 hbx 4
 have e5 := z11 hbx 5
 have d0 := S0.out.effs
 have d1 := S0.out.tree
 simp at e0 e1 e2 e3 e4 e5
 clear hbx
 go_wp2_with fail
 clear e0 e1 e2 e3 e4 e5 d0 d1
 refine (z35 ⟨3, 0, 0, 0⟩ S0.out (by have r := R0.out.cost; have hb := HB.out; have hz := HZ.out; omega)).mono ?_
 rintro e X1 ⟨rfl, h1, g1⟩
 obtain ⟨n1, hn1⟩ : ∃ n, (s).out.length = n := ⟨_, rfl⟩
 rw [hn1]
 have H1 := hid hn1
 have tn : n1 < (Cs.put (s) ⟨3, 0, 0, 0⟩).out.length := by rw [← hn1]; simp [Cs.put]
 have S1 := hid h1
 have G1 : Hid (Cf Y X1) := G0.out.trans g1
 have Q1 := hid (Rs.put ns K (s) ⟨3, 0, 0, 0⟩)
 have R1 := hid (R0.out.trans Q1.out)
 have Tn1_1 := hid tn
 clear h1 g1 hn1 tn
 have hbx := (G1.out.block W.heap.size _ _ HA.out (by decide) (by decide) (by decide)).trans HA.out
 have e0 := z11 hbx 0
 have e1 := z11 hbx 1
 have e2 := z11 hbx 2
 have e3 := z11 hbx 3
 have e4 := z11 hbx 4
 have e5 := z11 hbx 5
 have d0 := S1.out.effs
 have d1 := S1.out.tree
 simp at e0 e1 e2 e3 e4 e5
 clear hbx
 go_wp2_with fail
 clear e0 e1 e2 e3 e4 e5 d0 d1
 go_end0
 exact ⟨⟨_, rfl⟩, S1.out, F0.out.trans G1.out⟩
set_option maxHeartbeats 4000000 in
set_option maxRecDepth 100000 in
theorem part_c4 (cx : Cx W0 Mb ae b off es ns) (hk1 : K ≤ 1000) {t : Tp} {ss : List ByteArray} {s : Cs} {v : Value} {W : World} (hF : t.size ≤ F + 1) (hs : Stands ns t) (hK : ss.length + 2 * t.size ≤ K) (hB : s.out.length + 10 * s.rest + 10 * t.size ≤ 950000) (h : CmE W0 Mb (.slice ae es.length ce) (.slice (some ⟨b, off, none⟩) ns.length cap) s W) (hv : NmT W v ss) (ek : t.n.kind = 4) :
   Calls Tryz.prog 26 #[.pointer (some ⟨Mb, 0, none⟩), .int .i64 (t.at_ : Int), v] W (LeadPost W0 Mb (.slice ae es.length ce) (.slice (some ⟨b, off, none⟩) ns.length cap) (s.put ⟨4, 0, 0, 0⟩) W) := by
 obtain ⟨adn, cpn, rfl⟩ := hv.is
 have hnc := z37 cx h
 obtain ⟨hlt, hat, hsz⟩ := hs.lt
 have c0 := hnc t.at_ hlt 0 (by omega)
 have c1 := hnc t.at_ hlt 1 (by omega)
 have c2 := hnc t.at_ hlt 2 (by omega)
 have c3 := hnc t.at_ hlt 3 (by omega)
 have c4 := hnc t.at_ hlt 4 (by omega)
 have c5 := hnc t.at_ hlt 5 (by omega)
 rw [hat] at c0 c1 c2 c3 c4 c5
 simp only [Nd.cell, Nat.add_zero] at c0 c1 c2 c3 c4 c5
 rw [ek] at c0
 have d1 := h.tree
 have hA := (MapKept.heap_alloc W (.cells #[.int .i64 4, .int .i64 t.n.num, .string t.n.a, .string t.n.b, .string t.n.c, .int .i64 t.n.kids] 116)).1
 have hB1 := (Below.refl W.heap.size W).alloc (Nat.le_refl _) (.cells #[.int .i64 4, .int .i64 t.n.num, .string t.n.a, .string t.n.b, .string t.n.c, .int .i64 t.n.kids] 116)
 obtain ⟨Y, hY⟩ : ∃ Y, W.alloc (.cells #[.int .i64 4, .int .i64 t.n.num, .string t.n.a, .string t.n.b, .string t.n.c, .int .i64 t.n.kids] 116) = Y := ⟨_, rfl⟩
 rw [hY] at hA hB1
 have HY := hid hY
 have HA := hid hA
 have S0 := hid (h.below hB1)
 have F0 := hid (Cf.of_below hB1)
 have N0 := hid (hv.frame (Cf.of_below hB1))
 have G0 := hid (Cf.refl Y)
 have R0 := hid (Rs.refl ns K s)
 have hgood := hs.toGood
 have HC : Hid (True) := trivial
 have HZ : Hid (1 ≤ t.size) := t.size_pos
 have hp0 : (0 : Int) ≤ (t.at_ : Int) := by omega
 have hpl : (t.at_ : Int) < (ns.length : Int) := by omega
 have HP1 : Hid (0 < t.k.count → wrap64 ((t.at_ : Int) + 1) = ((t.kid 0).at_ : Int)) := fun h0 => by rw [hs.first h0]; have := cx.tl; unfold wrap64; omega
 have HX := hid cx
 have HS := hid hs
 have HK := hid (And.intro hK (And.intro hF hk1))
 have HB := hid hB
 clear hA hB1 hY h hv hnc hlt hat hsz hgood cx hs hK hF hB hk1
 go_enter Tryz.func26, Tryz.ntmps26
 go_upto_region 1 with fail
 rw [HY.out]
 clear HY c0 c1 c2 c3 c4 c5 d1
 have hbx := (G0.out.block W.heap.size _ _ HA.out (by decide) (by decide) (by decide)).trans HA.out
 have e0 := z11 hbx 0
 have e1 := z11 hbx 1
 have e2 := z11 hbx 2
 have e3 := z11 hbx 3
 have e4 := z11 hbx 4
 have e5 := z11 hbx 5
 have d0 := S0.out.effs
 have d1 := S0.out.tree
 simp at e0 e1 e2 e3 e4 e5
 clear hbx
 go_wp2_with fail
 clear e0 e1 e2 e3 e4 e5 d0 d1
 refine (z35 ⟨4, 0, 0, 0⟩ S0.out (by have r := R0.out.cost; have hb := HB.out; have hz := HZ.out; omega)).mono ?_
 rintro e X1 ⟨rfl, h1, g1⟩
 obtain ⟨n1, hn1⟩ : ∃ n, (s).out.length = n := ⟨_, rfl⟩
 rw [hn1]
 have H1 := hid hn1
 have tn : n1 < (Cs.put (s) ⟨4, 0, 0, 0⟩).out.length := by rw [← hn1]; simp [Cs.put]
 have S1 := hid h1
 have G1 : Hid (Cf Y X1) := G0.out.trans g1
 have Q1 := hid (Rs.put ns K (s) ⟨4, 0, 0, 0⟩)
 have R1 := hid (R0.out.trans Q1.out)
 have Tn1_1 := hid tn
 clear h1 g1 hn1 tn
 have hbx := (G1.out.block W.heap.size _ _ HA.out (by decide) (by decide) (by decide)).trans HA.out
 have e0 := z11 hbx 0
 have e1 := z11 hbx 1
 have e2 := z11 hbx 2
 have e3 := z11 hbx 3
 have e4 := z11 hbx 4
 have e5 := z11 hbx 5
 have d0 := S1.out.effs
 have d1 := S1.out.tree
 simp at e0 e1 e2 e3 e4 e5
 clear hbx
 go_wp2_with fail
 clear e0 e1 e2 e3 e4 e5 d0 d1
 go_end0
 exact ⟨⟨_, rfl⟩, S1.out, F0.out.trans G1.out⟩
set_option maxHeartbeats 4000000 in
set_option maxRecDepth 100000 in
theorem part_c5 (cx : Cx W0 Mb ae b off es ns) (hk1 : K ≤ 1000) {t : Tp} {ss : List ByteArray} {s : Cs} {v : Value} {W : World} (hF : t.size ≤ F + 1) (hs : Stands ns t) (hK : ss.length + 2 * t.size ≤ K) (hB : s.out.length + 10 * s.rest + 10 * t.size ≤ 950000) (h : CmE W0 Mb (.slice ae es.length ce) (.slice (some ⟨b, off, none⟩) ns.length cap) s W) (hv : NmT W v ss) (ek : t.n.kind = 5) :
   Calls Tryz.prog 26 #[.pointer (some ⟨Mb, 0, none⟩), .int .i64 (t.at_ : Int), v] W (LeadPost W0 Mb (.slice ae es.length ce) (.slice (some ⟨b, off, none⟩) ns.length cap) (s.put ⟨5, idxZ ss t.n.a, 0, 0⟩) W) := by
 obtain ⟨adn, cpn, rfl⟩ := hv.is
 have hnc := z37 cx h
 obtain ⟨hlt, hat, hsz⟩ := hs.lt
 have c0 := hnc t.at_ hlt 0 (by omega)
 have c1 := hnc t.at_ hlt 1 (by omega)
 have c2 := hnc t.at_ hlt 2 (by omega)
 have c3 := hnc t.at_ hlt 3 (by omega)
 have c4 := hnc t.at_ hlt 4 (by omega)
 have c5 := hnc t.at_ hlt 5 (by omega)
 rw [hat] at c0 c1 c2 c3 c4 c5
 simp only [Nd.cell, Nat.add_zero] at c0 c1 c2 c3 c4 c5
 rw [ek] at c0
 have d1 := h.tree
 have hA := (MapKept.heap_alloc W (.cells #[.int .i64 5, .int .i64 t.n.num, .string t.n.a, .string t.n.b, .string t.n.c, .int .i64 t.n.kids] 116)).1
 have hB1 := (Below.refl W.heap.size W).alloc (Nat.le_refl _) (.cells #[.int .i64 5, .int .i64 t.n.num, .string t.n.a, .string t.n.b, .string t.n.c, .int .i64 t.n.kids] 116)
 obtain ⟨Y, hY⟩ : ∃ Y, W.alloc (.cells #[.int .i64 5, .int .i64 t.n.num, .string t.n.a, .string t.n.b, .string t.n.c, .int .i64 t.n.kids] 116) = Y := ⟨_, rfl⟩
 rw [hY] at hA hB1
 have HY := hid hY
 have HA := hid hA
 have S0 := hid (h.below hB1)
 have F0 := hid (Cf.of_below hB1)
 have N0 := hid (hv.frame (Cf.of_below hB1))
 have G0 := hid (Cf.refl Y)
 have R0 := hid (Rs.refl ns K s)
 have hgood := hs.toGood
 have HC : Hid (True) := trivial
 have HZ : Hid (1 ≤ t.size) := t.size_pos
 have hp0 : (0 : Int) ≤ (t.at_ : Int) := by omega
 have hpl : (t.at_ : Int) < (ns.length : Int) := by omega
 have HP1 : Hid (0 < t.k.count → wrap64 ((t.at_ : Int) + 1) = ((t.kid 0).at_ : Int)) := fun h0 => by rw [hs.first h0]; have := cx.tl; unfold wrap64; omega
 have HX := hid cx
 have HS := hid hs
 have HK := hid (And.intro hK (And.intro hF hk1))
 have HB := hid hB
 clear hA hB1 hY h hv hnc hlt hat hsz hgood cx hs hK hF hB hk1
 go_enter Tryz.func26, Tryz.ntmps26
 go_upto_region 1 with fail
 rw [HY.out]
 clear HY c0 c1 c2 c3 c4 c5 d1
 have hbx := (G0.out.block W.heap.size _ _ HA.out (by decide) (by decide) (by decide)).trans HA.out
 have e0 := z11 hbx 0
 have e1 := z11 hbx 1
 have e2 := z11 hbx 2
 have e3 := z11 hbx 3
 have e4 := z11 hbx 4
 have e5 := z11 hbx 5
 have d0 := S0.out.effs
 have d1 := S0.out.tree
 simp at e0 e1 e2 e3 e4 e5
 clear hbx
 go_wp2_with fail
 clear e0 e1 e2 e3 e4 e5 d0 d1
 refine (index_calls (ss := ss) t.n.a Y N0.out.names (by have := HK.out; omega)).mono ?_
 rintro e Xi ⟨rfl, rfl⟩
 have hbx := (G0.out.block W.heap.size _ _ HA.out (by decide) (by decide) (by decide)).trans HA.out
 have e0 := z11 hbx 0
 have e1 := z11 hbx 1
 have e2 := z11 hbx 2
 have e3 := z11 hbx 3
 have e4 := z11 hbx 4
 have e5 := z11 hbx 5
 have d0 := S0.out.effs
 have d1 := S0.out.tree
 simp at e0 e1 e2 e3 e4 e5
 clear hbx
 go_wp2_with fail
 clear e0 e1 e2 e3 e4 e5 d0 d1
 refine (z35 ⟨5, idxZ ss t.n.a, 0, 0⟩ S0.out (by have r := R0.out.cost; have hb := HB.out; have hz := HZ.out; omega)).mono ?_
 rintro e X1 ⟨rfl, h1, g1⟩
 obtain ⟨n1, hn1⟩ : ∃ n, (s).out.length = n := ⟨_, rfl⟩
 rw [hn1]
 have H1 := hid hn1
 have tn : n1 < (Cs.put (s) ⟨5, idxZ ss t.n.a, 0, 0⟩).out.length := by rw [← hn1]; simp [Cs.put]
 have S1 := hid h1
 have G1 : Hid (Cf Y X1) := G0.out.trans g1
 have Q1 := hid (Rs.put ns K (s) ⟨5, idxZ ss t.n.a, 0, 0⟩)
 have R1 := hid (R0.out.trans Q1.out)
 have Tn1_1 := hid tn
 clear h1 g1 hn1 tn
 have hbx := (G1.out.block W.heap.size _ _ HA.out (by decide) (by decide) (by decide)).trans HA.out
 have e0 := z11 hbx 0
 have e1 := z11 hbx 1
 have e2 := z11 hbx 2
 have e3 := z11 hbx 3
 have e4 := z11 hbx 4
 have e5 := z11 hbx 5
 have d0 := S1.out.effs
 have d1 := S1.out.tree
 simp at e0 e1 e2 e3 e4 e5
 clear hbx
 go_wp2_with fail
 clear e0 e1 e2 e3 e4 e5 d0 d1
 go_end0
 exact ⟨⟨_, rfl⟩, S1.out, F0.out.trans G1.out⟩
set_option maxHeartbeats 4000000 in
set_option maxRecDepth 100000 in
theorem part_c6 (cx : Cx W0 Mb ae b off es ns) (hk1 : K ≤ 1000) {t : Tp} {ss : List ByteArray} {s : Cs} {v : Value} {W : World} (hF : t.size ≤ F + 1) (hs : Stands ns t) (hK : ss.length + 2 * t.size ≤ K) (hB : s.out.length + 10 * s.rest + 10 * t.size ≤ 950000) (h : CmE W0 Mb (.slice ae es.length ce) (.slice (some ⟨b, off, none⟩) ns.length cap) s W) (hv : NmT W v ss) (ek : t.n.kind = 6) :
   Calls Tryz.prog 26 #[.pointer (some ⟨Mb, 0, none⟩), .int .i64 (t.at_ : Int), v] W (LeadPost W0 Mb (.slice ae es.length ce) (.slice (some ⟨b, off, none⟩) ns.length cap) ((s.put ⟨6, 0, 0, 0⟩).wait ⟨t.kid 0, ss ++ [t.n.a], s.out.length, 0⟩) W) := by
 obtain ⟨adn, cpn, rfl⟩ := hv.is
 have hnc := z37 cx h
 obtain ⟨hlt, hat, hsz⟩ := hs.lt
 have c0 := hnc t.at_ hlt 0 (by omega)
 have c1 := hnc t.at_ hlt 1 (by omega)
 have c2 := hnc t.at_ hlt 2 (by omega)
 have c3 := hnc t.at_ hlt 3 (by omega)
 have c4 := hnc t.at_ hlt 4 (by omega)
 have c5 := hnc t.at_ hlt 5 (by omega)
 rw [hat] at c0 c1 c2 c3 c4 c5
 simp only [Nd.cell, Nat.add_zero] at c0 c1 c2 c3 c4 c5
 rw [ek] at c0
 have d1 := h.tree
 have hA := (MapKept.heap_alloc W (.cells #[.int .i64 6, .int .i64 t.n.num, .string t.n.a, .string t.n.b, .string t.n.c, .int .i64 t.n.kids] 116)).1
 have hB1 := (Below.refl W.heap.size W).alloc (Nat.le_refl _) (.cells #[.int .i64 6, .int .i64 t.n.num, .string t.n.a, .string t.n.b, .string t.n.c, .int .i64 t.n.kids] 116)
 obtain ⟨Y, hY⟩ : ∃ Y, W.alloc (.cells #[.int .i64 6, .int .i64 t.n.num, .string t.n.a, .string t.n.b, .string t.n.c, .int .i64 t.n.kids] 116) = Y := ⟨_, rfl⟩
 rw [hY] at hA hB1
 have HY := hid hY
 have HA := hid hA
 have S0 := hid (h.below hB1)
 have F0 := hid (Cf.of_below hB1)
 have N0 := hid (hv.frame (Cf.of_below hB1))
 have G0 := hid (Cf.refl Y)
 have R0 := hid (Rs.refl ns K s)
 have hgood := hs.toGood
 have HC : Hid (t.k.count = 1) := z67 hgood ek (c := 1) rfl
 have HZ : Hid ((t.kid 0).size + 1 = t.size ∧ 1 ≤ (t.kid 0).size) := ⟨(kids1 HC.out).2, (t.kid 0).size_pos⟩
 have hp0 : (0 : Int) ≤ (t.at_ : Int) := by omega
 have hpl : (t.at_ : Int) < (ns.length : Int) := by omega
 have HP1 : Hid (0 < t.k.count → wrap64 ((t.at_ : Int) + 1) = ((t.kid 0).at_ : Int)) := fun h0 => by rw [hs.first h0]; have := cx.tl; unfold wrap64; omega
 have HX := hid cx
 have HS := hid hs
 have HK := hid (And.intro hK (And.intro hF hk1))
 have HB := hid hB
 clear hA hB1 hY h hv hnc hlt hat hsz hgood cx hs hK hF hB hk1
 go_enter Tryz.func26, Tryz.ntmps26
 go_upto_region 1 with fail
 rw [HY.out]
 clear HY c0 c1 c2 c3 c4 c5 d1
 have hbx := (G0.out.block W.heap.size _ _ HA.out (by decide) (by decide) (by decide)).trans HA.out
 have e0 := z11 hbx 0
 have e1 := z11 hbx 1
 have e2 := z11 hbx 2
 have e3 := z11 hbx 3
 have e4 := z11 hbx 4
 have e5 := z11 hbx 5
 have d0 := S0.out.effs
 have d1 := S0.out.tree
 simp at e0 e1 e2 e3 e4 e5
 clear hbx
 go_wp2_with fail
 clear e0 e1 e2 e3 e4 e5 d0 d1
 refine (z45 (ss := ss) (ms := [t.n.a]) _ ((N0.out.frame G0.out).names.below ((Below.refl _ _).alloc (Nat.le_refl _) _)) (z59 Y [t.n.a]) (by have := HK.out; have := HZ.out; simp only [List.length_cons, List.length_nil]; omega)).mono ?_
 rintro e X1 ⟨u1, rfl, hu1, hb1⟩
 have B1 : Below Y.heap.size Y X1 := ((Below.refl _ _).alloc (Nat.le_refl _) _).trans (hb1.mono (by simp))
 have U1 := hid hu1
 have S1 := hid (S0.out.below B1)
 have G1 : Hid (Cf Y X1) := G0.out.trans (Cf.of_below B1)
 have R1 := R0
 clear hu1 hb1 B1
 have hbx := (G1.out.block W.heap.size _ _ HA.out (by decide) (by decide) (by decide)).trans HA.out
 have e0 := z11 hbx 0
 have e1 := z11 hbx 1
 have e2 := z11 hbx 2
 have e3 := z11 hbx 3
 have e4 := z11 hbx 4
 have e5 := z11 hbx 5
 have d0 := S1.out.effs
 have d1 := S1.out.tree
 simp at e0 e1 e2 e3 e4 e5
 clear hbx
 go_wp2_with fail
 clear e0 e1 e2 e3 e4 e5 d0 d1
 refine (z35 ⟨6, 0, 0, 0⟩ S1.out (by have r := R1.out.cost; have hb := HB.out; have hz := HZ.out; omega)).mono ?_
 rintro e X2 ⟨rfl, h1, g1⟩
 obtain ⟨n2, hn2⟩ : ∃ n, (s).out.length = n := ⟨_, rfl⟩
 rw [hn2]
 have H2 := hid hn2
 have tn : n2 < (Cs.put (s) ⟨6, 0, 0, 0⟩).out.length := by rw [← hn2]; simp [Cs.put]
 have S2 := hid h1
 have G2 : Hid (Cf Y X2) := G1.out.trans g1
 have Q2 := hid (Rs.put ns K (s) ⟨6, 0, 0, 0⟩)
 have R2 := hid (R1.out.trans Q2.out)
 have D1_2 : Hid (Cf X1 X2) := g1
 have Tn2_2 := hid tn
 clear h1 g1 hn2 tn
 have hbx := (G2.out.block W.heap.size _ _ HA.out (by decide) (by decide) (by decide)).trans HA.out
 have e0 := z11 hbx 0
 have e1 := z11 hbx 1
 have e2 := z11 hbx 2
 have e3 := z11 hbx 3
 have e4 := z11 hbx 4
 have e5 := z11 hbx 5
 have d0 := S2.out.effs
 have d1 := S2.out.tree
 simp at e0 e1 e2 e3 e4 e5
 clear hbx
 go_wp2_with fail
 clear e0 e1 e2 e3 e4 e5 d0 d1
 rw [HP1.out (by have := HC.out; omega)]
 refine (wait_calls ⟨t.kid 0, ss ++ [t.n.a], n2, 0⟩ S2.out (by have hl := later_le ((Cs.put (s) ⟨6, 0, 0, 0⟩)); have r := R2.out.cost; have hb := HB.out; have hz := HZ.out; omega) (U1.out.frame D1_2.out)).mono ?_
 rintro e X3 ⟨⟨x3, rfl⟩, h1, g1⟩
 have S3 := hid h1
 have G3 : Hid (Cf Y X3) := G2.out.trans g1
 have Q3 := hid (Rs.wait (ns := ns) (K := K) (s := (Cs.put (s) ⟨6, 0, 0, 0⟩)) (l := ⟨t.kid 0, ss ++ [t.n.a], n2, 0⟩) (HS.out.kid (by have := HC.out; omega)) (by have := HK.out; have := HZ.out; simp only [List.length_append, List.length_cons, List.length_nil]; omega) Tn2_2.out)
 have R3 := hid (R2.out.trans Q3.out)
 have Tn2_3 := hid (Nat.lt_of_lt_of_le Tn2_2.out Q3.out.out)
 have D1_3 : Hid (Cf X1 X3) := D1_2.out.trans g1
 clear h1 g1
 have hbx := (G3.out.block W.heap.size _ _ HA.out (by decide) (by decide) (by decide)).trans HA.out
 have e0 := z11 hbx 0
 have e1 := z11 hbx 1
 have e2 := z11 hbx 2
 have e3 := z11 hbx 3
 have e4 := z11 hbx 4
 have e5 := z11 hbx 5
 have d0 := S3.out.effs
 have d1 := S3.out.tree
 simp at e0 e1 e2 e3 e4 e5
 clear hbx
 go_wp2_with fail
 clear e0 e1 e2 e3 e4 e5 d0 d1
 go_end0
 have qn2 := H2.out
 subst qn2
 exact ⟨⟨_, rfl⟩, S3.out, F0.out.trans G3.out⟩
set_option maxHeartbeats 4000000 in
set_option maxRecDepth 100000 in
theorem part_c8 (cx : Cx W0 Mb ae b off es ns) (hk1 : K ≤ 1000) (ih : PartC W0 Mb ae ce b off cap es ns K F) {t : Tp} {ss : List ByteArray} {s : Cs} {v : Value} {W : World} (hF : t.size ≤ F + 1) (hs : Stands ns t) (hK : ss.length + 2 * t.size ≤ K) (hB : s.out.length + 10 * s.rest + 10 * t.size ≤ 950000) (h : CmE W0 Mb (.slice ae es.length ce) (.slice (some ⟨b, off, none⟩) ns.length cap) s W) (hv : NmT W v ss) (ek : t.n.kind = 8) :
   Calls Tryz.prog 26 #[.pointer (some ⟨Mb, 0, none⟩), .int .i64 (t.at_ : Int), v] W (LeadPost W0 Mb (.slice ae es.length ce) (.slice (some ⟨b, off, none⟩) ns.length cap) (boundZ (partZ es F) (t.kid 1) (ss ++ [t.n.a]) (partZ es F (t.kid 0) ss s)) W) := by
 obtain ⟨adn, cpn, rfl⟩ := hv.is
 have hnc := z37 cx h
 obtain ⟨hlt, hat, hsz⟩ := hs.lt
 have c0 := hnc t.at_ hlt 0 (by omega)
 have c1 := hnc t.at_ hlt 1 (by omega)
 have c2 := hnc t.at_ hlt 2 (by omega)
 have c3 := hnc t.at_ hlt 3 (by omega)
 have c4 := hnc t.at_ hlt 4 (by omega)
 have c5 := hnc t.at_ hlt 5 (by omega)
 rw [hat] at c0 c1 c2 c3 c4 c5
 simp only [Nd.cell, Nat.add_zero] at c0 c1 c2 c3 c4 c5
 rw [ek] at c0
 have d1 := h.tree
 have hA := (MapKept.heap_alloc W (.cells #[.int .i64 8, .int .i64 t.n.num, .string t.n.a, .string t.n.b, .string t.n.c, .int .i64 t.n.kids] 116)).1
 have hB1 := (Below.refl W.heap.size W).alloc (Nat.le_refl _) (.cells #[.int .i64 8, .int .i64 t.n.num, .string t.n.a, .string t.n.b, .string t.n.c, .int .i64 t.n.kids] 116)
 obtain ⟨Y, hY⟩ : ∃ Y, W.alloc (.cells #[.int .i64 8, .int .i64 t.n.num, .string t.n.a, .string t.n.b, .string t.n.c, .int .i64 t.n.kids] 116) = Y := ⟨_, rfl⟩
 rw [hY] at hA hB1
 have HY := hid hY
 have HA := hid hA
 have S0 := hid (h.below hB1)
 have F0 := hid (Cf.of_below hB1)
 have N0 := hid (hv.frame (Cf.of_below hB1))
 have G0 := hid (Cf.refl Y)
 have R0 := hid (Rs.refl ns K s)
 have hgood := hs.toGood
 have HC : Hid (t.k.count = 2) := z67 hgood ek (c := 2) rfl
 have HZ : Hid ((t.kid 0).size + (t.kid 1).size + 1 = t.size ∧ 1 ≤ (t.kid 0).size ∧ 1 ≤ (t.kid 1).size) := ⟨(kids2 HC.out).2, (t.kid 0).size_pos, (t.kid 1).size_pos⟩
 have hp0 : (0 : Int) ≤ (t.at_ : Int) := by omega
 have hpl : (t.at_ : Int) < (ns.length : Int) := by omega
 have HP1 : Hid (0 < t.k.count → wrap64 ((t.at_ : Int) + 1) = ((t.kid 0).at_ : Int)) := fun h0 => by rw [hs.first h0]; have := cx.tl; unfold wrap64; omega
 have HX := hid cx
 have HIH := hid ih
 have HS := hid hs
 have HK := hid (And.intro hK (And.intro hF hk1))
 have HB := hid hB
 clear hA hB1 hY h hv hnc hlt hat hsz hgood cx ih hs hK hF hB hk1
 go_enter Tryz.func26, Tryz.ntmps26
 go_upto_region 1 with fail
 rw [HY.out]
 clear HY c0 c1 c2 c3 c4 c5 d1
 have hbx := (G0.out.block W.heap.size _ _ HA.out (by decide) (by decide) (by decide)).trans HA.out
 have e0 := z11 hbx 0
 have e1 := z11 hbx 1
 have e2 := z11 hbx 2
 have e3 := z11 hbx 3
 have e4 := z11 hbx 4
 have e5 := z11 hbx 5
 have d0 := S0.out.effs
 have d1 := S0.out.tree
 simp at e0 e1 e2 e3 e4 e5
 clear hbx
 go_wp2_with fail
 clear e0 e1 e2 e3 e4 e5 d0 d1
 rw [HP1.out (by have := HC.out; omega)]
 refine (HIH.out (t.kid 0) (ss) (s) _ _ (by have := HZ.out; have := HK.out; omega) (HS.out.kid (by have := HC.out; omega)) (by have := HK.out; have := HZ.out; (try simp only [List.length_append, List.length_cons, List.length_nil]); omega) (by have r := R0.out.cost; have hb := HB.out; have hz := HZ.out; omega) S0.out (N0.out.frame G0.out)).mono ?_
 rintro e X1 ⟨⟨x1, rfl⟩, h1, g1⟩
 have S1 := hid h1
 have G1 : Hid (Cf Y X1) := G0.out.trans g1
 have Q1 := hid (part_r (ns := ns) (K := K) (es := es) F (t.kid 0) (ss) (s) (by have := HZ.out; have := HK.out; omega) (HS.out.kid (by have := HC.out; omega)) (by have := HK.out; have := HZ.out; (try simp only [List.length_append, List.length_cons, List.length_nil]); omega))
 have R1 := hid (R0.out.trans Q1.out)
 clear h1 g1
 have hbx := (G1.out.block W.heap.size _ _ HA.out (by decide) (by decide) (by decide)).trans HA.out
 have e0 := z11 hbx 0
 have e1 := z11 hbx 1
 have e2 := z11 hbx 2
 have e3 := z11 hbx 3
 have e4 := z11 hbx 4
 have e5 := z11 hbx 5
 have d0 := S1.out.effs
 have d1 := S1.out.tree
 simp at e0 e1 e2 e3 e4 e5
 clear hbx
 go_upto_region 21 with fail
 have hD : Below X1.heap.size X1 X1.drew := (Below.refl _ _).drew
 obtain ⟨D2, hDe⟩ : ∃ D, X1.drew = D := ⟨_, rfl⟩
 rw [hDe] at hD
 have S2 := hid (S1.out.below hD)
 have G2 : Hid (Cf Y D2) := G1.out.trans (Cf.of_below hD)
 have R2 := R1
 have hS : (fun w' : World => w'.cell? ⟨Mb, 1, none⟩ = some (.slice (some ⟨b, off, none⟩) ns.length cap) ∧ w'.cell? ⟨W.heap.size, 2, none⟩ = some (.string t.n.a)) D2 := ⟨S2.out.tree, by rw [← hDe]; exact e2⟩
 refine z33 (S := fun w' => w'.cell? ⟨Mb, 1, none⟩ = some (.slice (some ⟨b, off, none⟩) ns.length cap) ∧ w'.cell? ⟨W.heap.size, 2, none⟩ = some (.string t.n.a)) (by kernel_rfl) rfl rfl ?_
 rw [hDe]
 clear hDe hD
 clear e0 e1 e2 e3 e4 e5 d0 d1
 refine pick_o 0 (.pointer (some ⟨Mb, 0, none⟩)) hS ?_
 refine pick_o 1 (.pointer (some ⟨Mb, 0, none⟩)) hS ?_
 refine pick_o 2 (.pointer (some ⟨Mb, 0, none⟩)) hS ?_
 refine pick_o 3 (.pointer (some ⟨Mb, 0, none⟩)) hS ?_
 refine pick_o 4 (.pointer (some ⟨Mb, 1, none⟩)) hS ?_
 refine pick_o (hy := fun w' h => by simp [go_sem, h.1]) 5 (.slice (some ⟨b, off, none⟩) ns.length cap) hS ?_
 refine pick_o 6 (.int .i64 (t.at_ : Int)) hS ?_
 refine pick_o 8 (.slice adn ss.length cpn) hS ?_
 refine pick_o 9 (.pointer (some ⟨W.heap.size, 2, none⟩)) hS ?_
 refine pick_o (hy := fun w' h => by simp [go_sem, h.2]) 10 (.string t.n.a) hS ?_
 refine pick_other (i := 7) (j := 11) (by kernel_rfl) ?_ ?_
 · have HQ : Hid (W.heap.size < D2.heap.size) := z26 ((G2.out.block W.heap.size _ _ HA.out (by decide) (by decide) (by decide)).trans HA.out)
   refine ⟨_, 52, #[.slice (some ⟨b, off, none⟩) ns.length cap, .int .i64 (t.at_ : Int), .int .i64 (1 : Int)], rfl, rfl, by simp [go_sem], ?_⟩
   refine (z49 (cap := cap) 1 D2 (z37 HX.out S2.out) HX.out.tl HS.out (by have := HC.out; omega)).mono ?_
   rintro e Xk ⟨rfl, rfl⟩
   refine ⟨_, rfl, hS, ?_⟩
   refine z15 (by simp [go_sem]; exact rfl) ?_
   have hA1 : Below D2.heap.size D2 (D2.alloc (.cells #[.string t.n.a] 9)) := (Below.refl _ _).alloc (Nat.le_refl _) _
   have hS1 : (fun w' : World => w'.cell? ⟨Mb, 1, none⟩ = some (.slice (some ⟨b, off, none⟩) ns.length cap) ∧ w'.cell? ⟨W.heap.size, 2, none⟩ = some (.string t.n.a)) (D2.alloc (.cells #[.string t.n.a] 9)) := ⟨(hA1.cell (z70 S2.out)).trans hS.1, (hA1.cell HQ.out).trans hS.2⟩
   refine z29 (i := 11) (v := .slice (some ⟨D2.heap.size, 0, none⟩) 1 1) (w1 := D2.alloc (.cells #[.string t.n.a] 9)) rfl (by kernel_rfl) rfl rfl (by simp [go_sem]) hS1 (by simp [go_sem]; exact rfl) ?_
   refine z27 (i := 12) (f := 50) (args := #[.slice adn ss.length cpn, .slice (some ⟨D2.heap.size, 0, none⟩) 1 1]) rfl (by kernel_rfl) rfl rfl (by simp [go_sem]) ?_
   refine (z45 (ss := ss) (ms := [t.n.a]) _ ((N0.out.frame G2.out).names.below hA1) (z59 D2 [t.n.a]) (by have := HK.out; have := HZ.out; simp only [List.length_cons, List.length_nil]; omega)).mono ?_
   rintro e X3 ⟨u3, rfl, hu3, hb3⟩
   have B3 : Below D2.heap.size D2 X3 := hA1.trans (hb3.mono (by simp))
   have hS2 : (fun w' : World => w'.cell? ⟨Mb, 1, none⟩ = some (.slice (some ⟨b, off, none⟩) ns.length cap) ∧ w'.cell? ⟨W.heap.size, 2, none⟩ = some (.string t.n.a)) X3 := ⟨(B3.cell (z70 S2.out)).trans hS.1, (B3.cell HQ.out).trans hS.2⟩
   have U3 := hid hu3
   have S3 := hid (S2.out.below B3)
   have G3 : Hid (Cf Y X3) := G2.out.trans (Cf.of_below B3)
   have R3 := R2
   clear hu3 hb3 B3 hS hS1 hA1
   refine ⟨u3, rfl, hS2, ?_⟩
   refine z15 (by simp [go_sem]; exact rfl) ?_
   refine z27 (i := 13) (f := 51) (args := #[.pointer (some ⟨Mb, 0, none⟩), .int .i64 ((t.kid 1).at_ : Int), u3]) rfl (by kernel_rfl) rfl rfl (by simp [go_sem]) ?_
   refine (bound_calls HIH.out (t := t.kid 1) (ss := ss ++ [t.n.a]) (by have := HZ.out; have := HK.out; omega) (HS.out.kid (by have := HC.out; omega)) (by have := HK.out; have := HZ.out; simp only [List.length_append, List.length_cons, List.length_nil]; omega) (by have r := R3.out.cost; have hb := HB.out; have hz := HZ.out; omega) S3.out (U3.out.frame (Cf.refl _))).mono ?_
   rintro e X4 ⟨⟨x4, rfl⟩, h1, g1⟩
   have S4 := hid h1
   have G4 : Hid (Cf Y X4) := G3.out.trans g1
   have Q4 := hid (bound_r (part_r (ns := ns) (K := K) (es := es) F) (t := t.kid 1) (ss := ss ++ [t.n.a]) ((partZ es F (t.kid 0) (ss) (s))) (by have := HZ.out; have := HK.out; omega) (HS.out.kid (by have := HC.out; omega)) (by have := HK.out; have := HZ.out; simp only [List.length_append, List.length_cons, List.length_nil]; omega))
   have R4 := hid (R3.out.trans Q4.out)
   have D3_4 : Hid (Cf X3 X4) := g1
   have hbx := (G4.out.block W.heap.size _ _ HA.out (by decide) (by decide) (by decide)).trans HA.out
   refine ⟨x4, rfl, ⟨S4.out.tree, z11 hbx 2⟩, ?_⟩
   clear h1 g1 hbx hS2 HQ
   refine z15 (by simp [go_sem]; exact rfl) ?_
   refine z32 (by kernel_rfl) ?_
   have hbx := (G4.out.block W.heap.size _ _ HA.out (by decide) (by decide) (by decide)).trans HA.out
   have e0 := z11 hbx 0
   have e1 := z11 hbx 1
   have e2 := z11 hbx 2
   have e3 := z11 hbx 3
   have e4 := z11 hbx 4
   have e5 := z11 hbx 5
   have d0 := S4.out.effs
   have d1 := S4.out.tree
   simp at e0 e1 e2 e3 e4 e5
   clear hbx
   go_wp2_with fail
   clear e0 e1 e2 e3 e4 e5 d0 d1
   go_end0
   exact ⟨⟨_, rfl⟩, S4.out, F0.out.trans G4.out⟩
 · have HQ : Hid (W.heap.size < D2.heap.size) := z26 ((G2.out.block W.heap.size _ _ HA.out (by decide) (by decide) (by decide)).trans HA.out)
   have hA1 : Below D2.heap.size D2 (D2.alloc (.cells #[.string t.n.a] 9)) := (Below.refl _ _).alloc (Nat.le_refl _) _
   have hS1 : (fun w' : World => w'.cell? ⟨Mb, 1, none⟩ = some (.slice (some ⟨b, off, none⟩) ns.length cap) ∧ w'.cell? ⟨W.heap.size, 2, none⟩ = some (.string t.n.a)) (D2.alloc (.cells #[.string t.n.a] 9)) := ⟨(hA1.cell (z70 S2.out)).trans hS.1, (hA1.cell HQ.out).trans hS.2⟩
   refine ⟨_, .slice (some ⟨D2.heap.size, 0, none⟩) 1 1, D2.alloc (.cells #[.string t.n.a] 9), rfl, rfl, by simp [go_sem], hS1, ?_⟩
   refine z15 (by simp [go_sem]; exact rfl) ?_
   refine z27 (i := 7) (f := 52) (args := #[.slice (some ⟨b, off, none⟩) ns.length cap, .int .i64 (t.at_ : Int), .int .i64 (1 : Int)]) rfl (by kernel_rfl) rfl rfl (by simp [go_sem]) ?_
   refine (z49 (cap := cap) 1 _ (z37 HX.out (S2.out.below hA1)) HX.out.tl HS.out (by have := HC.out; omega)).mono ?_
   rintro e Xk ⟨rfl, rfl⟩
   refine ⟨_, rfl, hS1, ?_⟩
   refine z15 (by simp [go_sem]; exact rfl) ?_
   refine z27 (i := 12) (f := 50) (args := #[.slice adn ss.length cpn, .slice (some ⟨D2.heap.size, 0, none⟩) 1 1]) rfl (by kernel_rfl) rfl rfl (by simp [go_sem]) ?_
   refine (z45 (ss := ss) (ms := [t.n.a]) _ ((N0.out.frame G2.out).names.below hA1) (z59 D2 [t.n.a]) (by have := HK.out; have := HZ.out; simp only [List.length_cons, List.length_nil]; omega)).mono ?_
   rintro e X3 ⟨u3, rfl, hu3, hb3⟩
   have B3 : Below D2.heap.size D2 X3 := hA1.trans (hb3.mono (by simp))
   have hS2 : (fun w' : World => w'.cell? ⟨Mb, 1, none⟩ = some (.slice (some ⟨b, off, none⟩) ns.length cap) ∧ w'.cell? ⟨W.heap.size, 2, none⟩ = some (.string t.n.a)) X3 := ⟨(B3.cell (z70 S2.out)).trans hS.1, (B3.cell HQ.out).trans hS.2⟩
   have U3 := hid hu3
   have S3 := hid (S2.out.below B3)
   have G3 : Hid (Cf Y X3) := G2.out.trans (Cf.of_below B3)
   have R3 := R2
   clear hu3 hb3 B3 hS hS1 hA1
   refine ⟨u3, rfl, hS2, ?_⟩
   refine z15 (by simp [go_sem]; exact rfl) ?_
   refine z27 (i := 13) (f := 51) (args := #[.pointer (some ⟨Mb, 0, none⟩), .int .i64 ((t.kid 1).at_ : Int), u3]) rfl (by kernel_rfl) rfl rfl (by simp [go_sem]) ?_
   refine (bound_calls HIH.out (t := t.kid 1) (ss := ss ++ [t.n.a]) (by have := HZ.out; have := HK.out; omega) (HS.out.kid (by have := HC.out; omega)) (by have := HK.out; have := HZ.out; simp only [List.length_append, List.length_cons, List.length_nil]; omega) (by have r := R3.out.cost; have hb := HB.out; have hz := HZ.out; omega) S3.out (U3.out.frame (Cf.refl _))).mono ?_
   rintro e X4 ⟨⟨x4, rfl⟩, h1, g1⟩
   have S4 := hid h1
   have G4 : Hid (Cf Y X4) := G3.out.trans g1
   have Q4 := hid (bound_r (part_r (ns := ns) (K := K) (es := es) F) (t := t.kid 1) (ss := ss ++ [t.n.a]) ((partZ es F (t.kid 0) (ss) (s))) (by have := HZ.out; have := HK.out; omega) (HS.out.kid (by have := HC.out; omega)) (by have := HK.out; have := HZ.out; simp only [List.length_append, List.length_cons, List.length_nil]; omega))
   have R4 := hid (R3.out.trans Q4.out)
   have D3_4 : Hid (Cf X3 X4) := g1
   have hbx := (G4.out.block W.heap.size _ _ HA.out (by decide) (by decide) (by decide)).trans HA.out
   refine ⟨x4, rfl, ⟨S4.out.tree, z11 hbx 2⟩, ?_⟩
   clear h1 g1 hbx hS2 HQ
   refine z15 (by simp [go_sem]; exact rfl) ?_
   refine z32 (by kernel_rfl) ?_
   have hbx := (G4.out.block W.heap.size _ _ HA.out (by decide) (by decide) (by decide)).trans HA.out
   have e0 := z11 hbx 0
   have e1 := z11 hbx 1
   have e2 := z11 hbx 2
   have e3 := z11 hbx 3
   have e4 := z11 hbx 4
   have e5 := z11 hbx 5
   have d0 := S4.out.effs
   have d1 := S4.out.tree
   simp at e0 e1 e2 e3 e4 e5
   clear hbx
   go_wp2_with fail
   clear e0 e1 e2 e3 e4 e5 d0 d1
   go_end0
   exact ⟨⟨_, rfl⟩, S4.out, F0.out.trans G4.out⟩
set_option maxHeartbeats 4000000 in
set_option maxRecDepth 100000 in
theorem part_c9 (cx : Cx W0 Mb ae b off es ns) (hk1 : K ≤ 1000) (ih : PartC W0 Mb ae ce b off cap es ns K F) {t : Tp} {ss : List ByteArray} {s : Cs} {v : Value} {W : World} (hF : t.size ≤ F + 1) (hs : Stands ns t) (hK : ss.length + 2 * t.size ≤ K) (hB : s.out.length + 10 * s.rest + 10 * t.size ≤ 950000) (h : CmE W0 Mb (.slice ae es.length ce) (.slice (some ⟨b, off, none⟩) ns.length cap) s W) (hv : NmT W v ss) (ek : t.n.kind = 9) :
   Calls Tryz.prog 26 #[.pointer (some ⟨Mb, 0, none⟩), .int .i64 (t.at_ : Int), v] W (LeadPost W0 Mb (.slice ae es.length ce) (.slice (some ⟨b, off, none⟩) ns.length cap) (boundZ (partZ es F) (t.kid 1) (ss ++ [t.n.a]) ((s.put ⟨7, 0, 0, 0⟩).wait ⟨t.kid 0, ss ++ [t.n.a, t.n.b], s.out.length, 0⟩)) W) := by
 obtain ⟨adn, cpn, rfl⟩ := hv.is
 have hnc := z37 cx h
 obtain ⟨hlt, hat, hsz⟩ := hs.lt
 have c0 := hnc t.at_ hlt 0 (by omega)
 have c1 := hnc t.at_ hlt 1 (by omega)
 have c2 := hnc t.at_ hlt 2 (by omega)
 have c3 := hnc t.at_ hlt 3 (by omega)
 have c4 := hnc t.at_ hlt 4 (by omega)
 have c5 := hnc t.at_ hlt 5 (by omega)
 rw [hat] at c0 c1 c2 c3 c4 c5
 simp only [Nd.cell, Nat.add_zero] at c0 c1 c2 c3 c4 c5
 rw [ek] at c0
 have d1 := h.tree
 have hA := (MapKept.heap_alloc W (.cells #[.int .i64 9, .int .i64 t.n.num, .string t.n.a, .string t.n.b, .string t.n.c, .int .i64 t.n.kids] 116)).1
 have hB1 := (Below.refl W.heap.size W).alloc (Nat.le_refl _) (.cells #[.int .i64 9, .int .i64 t.n.num, .string t.n.a, .string t.n.b, .string t.n.c, .int .i64 t.n.kids] 116)
 obtain ⟨Y, hY⟩ : ∃ Y, W.alloc (.cells #[.int .i64 9, .int .i64 t.n.num, .string t.n.a, .string t.n.b, .string t.n.c, .int .i64 t.n.kids] 116) = Y := ⟨_, rfl⟩
 rw [hY] at hA hB1
 have HY := hid hY
 have HA := hid hA
 have S0 := hid (h.below hB1)
 have F0 := hid (Cf.of_below hB1)
 have N0 := hid (hv.frame (Cf.of_below hB1))
 have G0 := hid (Cf.refl Y)
 have R0 := hid (Rs.refl ns K s)
 have hgood := hs.toGood
 have HC : Hid (t.k.count = 2) := z67 hgood ek (c := 2) rfl
 have HZ : Hid ((t.kid 0).size + (t.kid 1).size + 1 = t.size ∧ 1 ≤ (t.kid 0).size ∧ 1 ≤ (t.kid 1).size) := ⟨(kids2 HC.out).2, (t.kid 0).size_pos, (t.kid 1).size_pos⟩
 have hp0 : (0 : Int) ≤ (t.at_ : Int) := by omega
 have hpl : (t.at_ : Int) < (ns.length : Int) := by omega
 have HP1 : Hid (0 < t.k.count → wrap64 ((t.at_ : Int) + 1) = ((t.kid 0).at_ : Int)) := fun h0 => by rw [hs.first h0]; have := cx.tl; unfold wrap64; omega
 have HX := hid cx
 have HIH := hid ih
 have HS := hid hs
 have HK := hid (And.intro hK (And.intro hF hk1))
 have HB := hid hB
 clear hA hB1 hY h hv hnc hlt hat hsz hgood cx ih hs hK hF hB hk1
 go_enter Tryz.func26, Tryz.ntmps26
 go_upto_region 1 with fail
 rw [HY.out]
 clear HY c0 c1 c2 c3 c4 c5 d1
 have hbx := (G0.out.block W.heap.size _ _ HA.out (by decide) (by decide) (by decide)).trans HA.out
 have e0 := z11 hbx 0
 have e1 := z11 hbx 1
 have e2 := z11 hbx 2
 have e3 := z11 hbx 3
 have e4 := z11 hbx 4
 have e5 := z11 hbx 5
 have d0 := S0.out.effs
 have d1 := S0.out.tree
 simp at e0 e1 e2 e3 e4 e5
 clear hbx
 go_wp2_with fail
 clear e0 e1 e2 e3 e4 e5 d0 d1
 refine (z45 (ss := ss) (ms := [t.n.a, t.n.b]) _ ((N0.out.frame G0.out).names.below ((Below.refl _ _).alloc (Nat.le_refl _) _)) (z59 Y [t.n.a, t.n.b]) (by have := HK.out; have := HZ.out; simp only [List.length_cons, List.length_nil]; omega)).mono ?_
 rintro e X1 ⟨u1, rfl, hu1, hb1⟩
 have B1 : Below Y.heap.size Y X1 := ((Below.refl _ _).alloc (Nat.le_refl _) _).trans (hb1.mono (by simp))
 have U1 := hid hu1
 have S1 := hid (S0.out.below B1)
 have G1 : Hid (Cf Y X1) := G0.out.trans (Cf.of_below B1)
 have R1 := R0
 clear hu1 hb1 B1
 have hbx := (G1.out.block W.heap.size _ _ HA.out (by decide) (by decide) (by decide)).trans HA.out
 have e0 := z11 hbx 0
 have e1 := z11 hbx 1
 have e2 := z11 hbx 2
 have e3 := z11 hbx 3
 have e4 := z11 hbx 4
 have e5 := z11 hbx 5
 have d0 := S1.out.effs
 have d1 := S1.out.tree
 simp at e0 e1 e2 e3 e4 e5
 clear hbx
 go_wp2_with fail
 clear e0 e1 e2 e3 e4 e5 d0 d1
 refine (z35 ⟨7, 0, 0, 0⟩ S1.out (by have r := R1.out.cost; have hb := HB.out; have hz := HZ.out; omega)).mono ?_
 rintro e X2 ⟨rfl, h1, g1⟩
 obtain ⟨n2, hn2⟩ : ∃ n, (s).out.length = n := ⟨_, rfl⟩
 rw [hn2]
 have H2 := hid hn2
 have tn : n2 < (Cs.put (s) ⟨7, 0, 0, 0⟩).out.length := by rw [← hn2]; simp [Cs.put]
 have S2 := hid h1
 have G2 : Hid (Cf Y X2) := G1.out.trans g1
 have Q2 := hid (Rs.put ns K (s) ⟨7, 0, 0, 0⟩)
 have R2 := hid (R1.out.trans Q2.out)
 have D1_2 : Hid (Cf X1 X2) := g1
 have Tn2_2 := hid tn
 clear h1 g1 hn2 tn
 have hbx := (G2.out.block W.heap.size _ _ HA.out (by decide) (by decide) (by decide)).trans HA.out
 have e0 := z11 hbx 0
 have e1 := z11 hbx 1
 have e2 := z11 hbx 2
 have e3 := z11 hbx 3
 have e4 := z11 hbx 4
 have e5 := z11 hbx 5
 have d0 := S2.out.effs
 have d1 := S2.out.tree
 simp at e0 e1 e2 e3 e4 e5
 clear hbx
 go_wp2_with fail
 clear e0 e1 e2 e3 e4 e5 d0 d1
 rw [HP1.out (by have := HC.out; omega)]
 refine (wait_calls ⟨t.kid 0, ss ++ [t.n.a, t.n.b], n2, 0⟩ S2.out (by have hl := later_le ((Cs.put (s) ⟨7, 0, 0, 0⟩)); have r := R2.out.cost; have hb := HB.out; have hz := HZ.out; omega) (U1.out.frame D1_2.out)).mono ?_
 rintro e X3 ⟨⟨x3, rfl⟩, h1, g1⟩
 have S3 := hid h1
 have G3 : Hid (Cf Y X3) := G2.out.trans g1
 have Q3 := hid (Rs.wait (ns := ns) (K := K) (s := (Cs.put (s) ⟨7, 0, 0, 0⟩)) (l := ⟨t.kid 0, ss ++ [t.n.a, t.n.b], n2, 0⟩) (HS.out.kid (by have := HC.out; omega)) (by have := HK.out; have := HZ.out; simp only [List.length_append, List.length_cons, List.length_nil]; omega) Tn2_2.out)
 have R3 := hid (R2.out.trans Q3.out)
 have Tn2_3 := hid (Nat.lt_of_lt_of_le Tn2_2.out Q3.out.out)
 have D1_3 : Hid (Cf X1 X3) := D1_2.out.trans g1
 clear h1 g1
 have hbx := (G3.out.block W.heap.size _ _ HA.out (by decide) (by decide) (by decide)).trans HA.out
 have e0 := z11 hbx 0
 have e1 := z11 hbx 1
 have e2 := z11 hbx 2
 have e3 := z11 hbx 3
 have e4 := z11 hbx 4
 have e5 := z11 hbx 5
 have d0 := S3.out.effs
 have d1 := S3.out.tree
 simp at e0 e1 e2 e3 e4 e5
 clear hbx
 go_upto_region 24 with fail
 have hD : Below X3.heap.size X3 X3.drew := (Below.refl _ _).drew
 obtain ⟨D4, hDe⟩ : ∃ D, X3.drew = D := ⟨_, rfl⟩
 rw [hDe] at hD
 have S4 := hid (S3.out.below hD)
 have G4 : Hid (Cf Y D4) := G3.out.trans (Cf.of_below hD)
 have R4 := R3
 have Tn2_4 := Tn2_3
 have D1_4 : Hid (Cf X1 D4) := D1_3.out.trans (Cf.of_below hD)
 have hS : (fun w' : World => w'.cell? ⟨Mb, 1, none⟩ = some (.slice (some ⟨b, off, none⟩) ns.length cap) ∧ w'.cell? ⟨W.heap.size, 2, none⟩ = some (.string t.n.a)) D4 := ⟨S4.out.tree, by rw [← hDe]; exact e2⟩
 refine z33 (S := fun w' => w'.cell? ⟨Mb, 1, none⟩ = some (.slice (some ⟨b, off, none⟩) ns.length cap) ∧ w'.cell? ⟨W.heap.size, 2, none⟩ = some (.string t.n.a)) (by kernel_rfl) rfl rfl ?_
 rw [hDe]
 clear hDe hD
 clear e0 e1 e2 e3 e4 e5 d0 d1
 refine pick_o 0 (.pointer (some ⟨Mb, 0, none⟩)) hS ?_
 refine pick_o 1 (.pointer (some ⟨Mb, 0, none⟩)) hS ?_
 refine pick_o 2 (.pointer (some ⟨Mb, 0, none⟩)) hS ?_
 refine pick_o 3 (.pointer (some ⟨Mb, 0, none⟩)) hS ?_
 refine pick_o 4 (.pointer (some ⟨Mb, 1, none⟩)) hS ?_
 refine pick_o (hy := fun w' h => by simp [go_sem, h.1]) 5 (.slice (some ⟨b, off, none⟩) ns.length cap) hS ?_
 refine pick_o 6 (.int .i64 (t.at_ : Int)) hS ?_
 refine pick_o 8 (.slice adn ss.length cpn) hS ?_
 refine pick_o 9 (.pointer (some ⟨W.heap.size, 2, none⟩)) hS ?_
 refine pick_o (hy := fun w' h => by simp [go_sem, h.2]) 10 (.string t.n.a) hS ?_
 refine pick_other (i := 7) (j := 11) (by kernel_rfl) ?_ ?_
 · have HQ : Hid (W.heap.size < D4.heap.size) := z26 ((G4.out.block W.heap.size _ _ HA.out (by decide) (by decide) (by decide)).trans HA.out)
   refine ⟨_, 52, #[.slice (some ⟨b, off, none⟩) ns.length cap, .int .i64 (t.at_ : Int), .int .i64 (1 : Int)], rfl, rfl, by simp [go_sem], ?_⟩
   refine (z49 (cap := cap) 1 D4 (z37 HX.out S4.out) HX.out.tl HS.out (by have := HC.out; omega)).mono ?_
   rintro e Xk ⟨rfl, rfl⟩
   refine ⟨_, rfl, hS, ?_⟩
   refine z15 (by simp [go_sem]; exact rfl) ?_
   have hA1 : Below D4.heap.size D4 (D4.alloc (.cells #[.string t.n.a] 9)) := (Below.refl _ _).alloc (Nat.le_refl _) _
   have hS1 : (fun w' : World => w'.cell? ⟨Mb, 1, none⟩ = some (.slice (some ⟨b, off, none⟩) ns.length cap) ∧ w'.cell? ⟨W.heap.size, 2, none⟩ = some (.string t.n.a)) (D4.alloc (.cells #[.string t.n.a] 9)) := ⟨(hA1.cell (z70 S4.out)).trans hS.1, (hA1.cell HQ.out).trans hS.2⟩
   refine z29 (i := 11) (v := .slice (some ⟨D4.heap.size, 0, none⟩) 1 1) (w1 := D4.alloc (.cells #[.string t.n.a] 9)) rfl (by kernel_rfl) rfl rfl (by simp [go_sem]) hS1 (by simp [go_sem]; exact rfl) ?_
   refine z27 (i := 12) (f := 50) (args := #[.slice adn ss.length cpn, .slice (some ⟨D4.heap.size, 0, none⟩) 1 1]) rfl (by kernel_rfl) rfl rfl (by simp [go_sem]) ?_
   refine (z45 (ss := ss) (ms := [t.n.a]) _ ((N0.out.frame G4.out).names.below hA1) (z59 D4 [t.n.a]) (by have := HK.out; have := HZ.out; simp only [List.length_cons, List.length_nil]; omega)).mono ?_
   rintro e X5 ⟨u5, rfl, hu5, hb5⟩
   have B5 : Below D4.heap.size D4 X5 := hA1.trans (hb5.mono (by simp))
   have hS2 : (fun w' : World => w'.cell? ⟨Mb, 1, none⟩ = some (.slice (some ⟨b, off, none⟩) ns.length cap) ∧ w'.cell? ⟨W.heap.size, 2, none⟩ = some (.string t.n.a)) X5 := ⟨(B5.cell (z70 S4.out)).trans hS.1, (B5.cell HQ.out).trans hS.2⟩
   have U5 := hid hu5
   have S5 := hid (S4.out.below B5)
   have G5 : Hid (Cf Y X5) := G4.out.trans (Cf.of_below B5)
   have R5 := R4
   have Tn2_5 := Tn2_4
   have D1_5 : Hid (Cf X1 X5) := D1_4.out.trans (Cf.of_below B5)
   clear hu5 hb5 B5 hS hS1 hA1
   refine ⟨u5, rfl, hS2, ?_⟩
   refine z15 (by simp [go_sem]; exact rfl) ?_
   refine z27 (i := 13) (f := 51) (args := #[.pointer (some ⟨Mb, 0, none⟩), .int .i64 ((t.kid 1).at_ : Int), u5]) rfl (by kernel_rfl) rfl rfl (by simp [go_sem]) ?_
   refine (bound_calls HIH.out (t := t.kid 1) (ss := ss ++ [t.n.a]) (by have := HZ.out; have := HK.out; omega) (HS.out.kid (by have := HC.out; omega)) (by have := HK.out; have := HZ.out; simp only [List.length_append, List.length_cons, List.length_nil]; omega) (by have r := R5.out.cost; have hb := HB.out; have hz := HZ.out; omega) S5.out (U5.out.frame (Cf.refl _))).mono ?_
   rintro e X6 ⟨⟨x6, rfl⟩, h1, g1⟩
   have S6 := hid h1
   have G6 : Hid (Cf Y X6) := G5.out.trans g1
   have Q6 := hid (bound_r (part_r (ns := ns) (K := K) (es := es) F) (t := t.kid 1) (ss := ss ++ [t.n.a]) ((Cs.wait ((Cs.put (s) ⟨7, 0, 0, 0⟩)) ⟨t.kid 0, ss ++ [t.n.a, t.n.b], n2, 0⟩)) (by have := HZ.out; have := HK.out; omega) (HS.out.kid (by have := HC.out; omega)) (by have := HK.out; have := HZ.out; simp only [List.length_append, List.length_cons, List.length_nil]; omega))
   have R6 := hid (R5.out.trans Q6.out)
   have Tn2_6 := hid (Nat.lt_of_lt_of_le Tn2_5.out Q6.out.out)
   have D1_6 : Hid (Cf X1 X6) := D1_5.out.trans g1
   have D5_6 : Hid (Cf X5 X6) := g1
   have hbx := (G6.out.block W.heap.size _ _ HA.out (by decide) (by decide) (by decide)).trans HA.out
   refine ⟨x6, rfl, ⟨S6.out.tree, z11 hbx 2⟩, ?_⟩
   clear h1 g1 hbx hS2 HQ
   refine z15 (by simp [go_sem]; exact rfl) ?_
   refine z32 (by kernel_rfl) ?_
   have hbx := (G6.out.block W.heap.size _ _ HA.out (by decide) (by decide) (by decide)).trans HA.out
   have e0 := z11 hbx 0
   have e1 := z11 hbx 1
   have e2 := z11 hbx 2
   have e3 := z11 hbx 3
   have e4 := z11 hbx 4
   have e5 := z11 hbx 5
   have d0 := S6.out.effs
   have d1 := S6.out.tree
   simp at e0 e1 e2 e3 e4 e5
   clear hbx
   go_wp2_with fail
   clear e0 e1 e2 e3 e4 e5 d0 d1
   go_end0
   have qn2 := H2.out
   subst qn2
   exact ⟨⟨_, rfl⟩, S6.out, F0.out.trans G6.out⟩
 · have HQ : Hid (W.heap.size < D4.heap.size) := z26 ((G4.out.block W.heap.size _ _ HA.out (by decide) (by decide) (by decide)).trans HA.out)
   have hA1 : Below D4.heap.size D4 (D4.alloc (.cells #[.string t.n.a] 9)) := (Below.refl _ _).alloc (Nat.le_refl _) _
   have hS1 : (fun w' : World => w'.cell? ⟨Mb, 1, none⟩ = some (.slice (some ⟨b, off, none⟩) ns.length cap) ∧ w'.cell? ⟨W.heap.size, 2, none⟩ = some (.string t.n.a)) (D4.alloc (.cells #[.string t.n.a] 9)) := ⟨(hA1.cell (z70 S4.out)).trans hS.1, (hA1.cell HQ.out).trans hS.2⟩
   refine ⟨_, .slice (some ⟨D4.heap.size, 0, none⟩) 1 1, D4.alloc (.cells #[.string t.n.a] 9), rfl, rfl, by simp [go_sem], hS1, ?_⟩
   refine z15 (by simp [go_sem]; exact rfl) ?_
   refine z27 (i := 7) (f := 52) (args := #[.slice (some ⟨b, off, none⟩) ns.length cap, .int .i64 (t.at_ : Int), .int .i64 (1 : Int)]) rfl (by kernel_rfl) rfl rfl (by simp [go_sem]) ?_
   refine (z49 (cap := cap) 1 _ (z37 HX.out (S4.out.below hA1)) HX.out.tl HS.out (by have := HC.out; omega)).mono ?_
   rintro e Xk ⟨rfl, rfl⟩
   refine ⟨_, rfl, hS1, ?_⟩
   refine z15 (by simp [go_sem]; exact rfl) ?_
   refine z27 (i := 12) (f := 50) (args := #[.slice adn ss.length cpn, .slice (some ⟨D4.heap.size, 0, none⟩) 1 1]) rfl (by kernel_rfl) rfl rfl (by simp [go_sem]) ?_
   refine (z45 (ss := ss) (ms := [t.n.a]) _ ((N0.out.frame G4.out).names.below hA1) (z59 D4 [t.n.a]) (by have := HK.out; have := HZ.out; simp only [List.length_cons, List.length_nil]; omega)).mono ?_
   rintro e X5 ⟨u5, rfl, hu5, hb5⟩
   have B5 : Below D4.heap.size D4 X5 := hA1.trans (hb5.mono (by simp))
   have hS2 : (fun w' : World => w'.cell? ⟨Mb, 1, none⟩ = some (.slice (some ⟨b, off, none⟩) ns.length cap) ∧ w'.cell? ⟨W.heap.size, 2, none⟩ = some (.string t.n.a)) X5 := ⟨(B5.cell (z70 S4.out)).trans hS.1, (B5.cell HQ.out).trans hS.2⟩
   have U5 := hid hu5
   have S5 := hid (S4.out.below B5)
   have G5 : Hid (Cf Y X5) := G4.out.trans (Cf.of_below B5)
   have R5 := R4
   have Tn2_5 := Tn2_4
   have D1_5 : Hid (Cf X1 X5) := D1_4.out.trans (Cf.of_below B5)
   clear hu5 hb5 B5 hS hS1 hA1
   refine ⟨u5, rfl, hS2, ?_⟩
   refine z15 (by simp [go_sem]; exact rfl) ?_
   refine z27 (i := 13) (f := 51) (args := #[.pointer (some ⟨Mb, 0, none⟩), .int .i64 ((t.kid 1).at_ : Int), u5]) rfl (by kernel_rfl) rfl rfl (by simp [go_sem]) ?_
   refine (bound_calls HIH.out (t := t.kid 1) (ss := ss ++ [t.n.a]) (by have := HZ.out; have := HK.out; omega) (HS.out.kid (by have := HC.out; omega)) (by have := HK.out; have := HZ.out; simp only [List.length_append, List.length_cons, List.length_nil]; omega) (by have r := R5.out.cost; have hb := HB.out; have hz := HZ.out; omega) S5.out (U5.out.frame (Cf.refl _))).mono ?_
   rintro e X6 ⟨⟨x6, rfl⟩, h1, g1⟩
   have S6 := hid h1
   have G6 : Hid (Cf Y X6) := G5.out.trans g1
   have Q6 := hid (bound_r (part_r (ns := ns) (K := K) (es := es) F) (t := t.kid 1) (ss := ss ++ [t.n.a]) ((Cs.wait ((Cs.put (s) ⟨7, 0, 0, 0⟩)) ⟨t.kid 0, ss ++ [t.n.a, t.n.b], n2, 0⟩)) (by have := HZ.out; have := HK.out; omega) (HS.out.kid (by have := HC.out; omega)) (by have := HK.out; have := HZ.out; simp only [List.length_append, List.length_cons, List.length_nil]; omega))
   have R6 := hid (R5.out.trans Q6.out)
   have Tn2_6 := hid (Nat.lt_of_lt_of_le Tn2_5.out Q6.out.out)
   have D1_6 : Hid (Cf X1 X6) := D1_5.out.trans g1
   have D5_6 : Hid (Cf X5 X6) := g1
   have hbx := (G6.out.block W.heap.size _ _ HA.out (by decide) (by decide) (by decide)).trans HA.out
   refine ⟨x6, rfl, ⟨S6.out.tree, z11 hbx 2⟩, ?_⟩
   clear h1 g1 hbx hS2 HQ
   refine z15 (by simp [go_sem]; exact rfl) ?_
   refine z32 (by kernel_rfl) ?_
   have hbx := (G6.out.block W.heap.size _ _ HA.out (by decide) (by decide) (by decide)).trans HA.out
   have e0 := z11 hbx 0
   have e1 := z11 hbx 1
   have e2 := z11 hbx 2
   have e3 := z11 hbx 3
   have e4 := z11 hbx 4
   have e5 := z11 hbx 5
   have d0 := S6.out.effs
   have d1 := S6.out.tree
   simp at e0 e1 e2 e3 e4 e5
   clear hbx
   go_wp2_with fail
   clear e0 e1 e2 e3 e4 e5 d0 d1
   go_end0
   have qn2 := H2.out
   subst qn2
   exact ⟨⟨_, rfl⟩, S6.out, F0.out.trans G6.out⟩
set_option maxHeartbeats 4000000 in
set_option maxRecDepth 100000 in
theorem part_c10 (cx : Cx W0 Mb ae b off es ns) (hk1 : K ≤ 1000) (ih : PartC W0 Mb ae ce b off cap es ns K F) {t : Tp} {ss : List ByteArray} {s : Cs} {v : Value} {W : World} (hF : t.size ≤ F + 1) (hs : Stands ns t) (hK : ss.length + 2 * t.size ≤ K) (hB : s.out.length + 10 * s.rest + 10 * t.size ≤ 950000) (h : CmE W0 Mb (.slice ae es.length ce) (.slice (some ⟨b, off, none⟩) ns.length cap) s W) (hv : NmT W v ss) (ek : t.n.kind = 10) :
   Calls Tryz.prog 26 #[.pointer (some ⟨Mb, 0, none⟩), .int .i64 (t.at_ : Int), v] W (LeadPost W0 Mb (.slice ae es.length ce) (.slice (some ⟨b, off, none⟩) ns.length cap) (ifZ (partZ es F) t ss s) W) := by
 obtain ⟨adn, cpn, rfl⟩ := hv.is
 have hnc := z37 cx h
 obtain ⟨hlt, hat, hsz⟩ := hs.lt
 have c0 := hnc t.at_ hlt 0 (by omega)
 have c1 := hnc t.at_ hlt 1 (by omega)
 have c2 := hnc t.at_ hlt 2 (by omega)
 have c3 := hnc t.at_ hlt 3 (by omega)
 have c4 := hnc t.at_ hlt 4 (by omega)
 have c5 := hnc t.at_ hlt 5 (by omega)
 rw [hat] at c0 c1 c2 c3 c4 c5
 simp only [Nd.cell, Nat.add_zero] at c0 c1 c2 c3 c4 c5
 rw [ek] at c0
 have d1 := h.tree
 have hA := (MapKept.heap_alloc W (.cells #[.int .i64 10, .int .i64 t.n.num, .string t.n.a, .string t.n.b, .string t.n.c, .int .i64 t.n.kids] 116)).1
 have hB1 := (Below.refl W.heap.size W).alloc (Nat.le_refl _) (.cells #[.int .i64 10, .int .i64 t.n.num, .string t.n.a, .string t.n.b, .string t.n.c, .int .i64 t.n.kids] 116)
 obtain ⟨Y, hY⟩ : ∃ Y, W.alloc (.cells #[.int .i64 10, .int .i64 t.n.num, .string t.n.a, .string t.n.b, .string t.n.c, .int .i64 t.n.kids] 116) = Y := ⟨_, rfl⟩
 rw [hY] at hA hB1
 have HY := hid hY
 have HA := hid hA
 have S0 := hid (h.below hB1)
 have F0 := hid (Cf.of_below hB1)
 have N0 := hid (hv.frame (Cf.of_below hB1))
 have G0 := hid (Cf.refl Y)
 have R0 := hid (Rs.refl ns K s)
 have hgood := hs.toGood
 have HC : Hid (t.k.count = 3) := z67 hgood ek (c := 3) rfl
 have HZ : Hid ((t.kid 0).size + (t.kid 1).size + (t.kid 2).size + 1 = t.size ∧ 1 ≤ (t.kid 0).size ∧ 1 ≤ (t.kid 1).size ∧ 1 ≤ (t.kid 2).size) := ⟨(kids3 HC.out).2, (t.kid 0).size_pos, (t.kid 1).size_pos, (t.kid 2).size_pos⟩
 have hp0 : (0 : Int) ≤ (t.at_ : Int) := by omega
 have hpl : (t.at_ : Int) < (ns.length : Int) := by omega
 have HP1 : Hid (0 < t.k.count → wrap64 ((t.at_ : Int) + 1) = ((t.kid 0).at_ : Int)) := fun h0 => by rw [hs.first h0]; have := cx.tl; unfold wrap64; omega
 have HX := hid cx
 have HIH := hid ih
 have HS := hid hs
 have HK := hid (And.intro hK (And.intro hF hk1))
 have HB := hid hB
 clear hA hB1 hY h hv hnc hlt hat hsz hgood cx ih hs hK hF hB hk1
 go_enter Tryz.func26, Tryz.ntmps26
 go_upto_region 1 with fail
 rw [HY.out]
 clear HY c0 c1 c2 c3 c4 c5 d1
 have hbx := (G0.out.block W.heap.size _ _ HA.out (by decide) (by decide) (by decide)).trans HA.out
 have e0 := z11 hbx 0
 have e1 := z11 hbx 1
 have e2 := z11 hbx 2
 have e3 := z11 hbx 3
 have e4 := z11 hbx 4
 have e5 := z11 hbx 5
 have d0 := S0.out.effs
 have d1 := S0.out.tree
 simp at e0 e1 e2 e3 e4 e5
 clear hbx
 go_wp2_with fail
 clear e0 e1 e2 e3 e4 e5 d0 d1
 rw [HP1.out (by have := HC.out; omega)]
 refine (HIH.out (t.kid 0) (ss) (s) _ _ (by have := HZ.out; have := HK.out; omega) (HS.out.kid (by have := HC.out; omega)) (by have := HK.out; have := HZ.out; (try simp only [List.length_append, List.length_cons, List.length_nil]); omega) (by have r := R0.out.cost; have hb := HB.out; have hz := HZ.out; omega) S0.out (N0.out.frame G0.out)).mono ?_
 rintro e X1 ⟨⟨x1, rfl⟩, h1, g1⟩
 have S1 := hid h1
 have G1 : Hid (Cf Y X1) := G0.out.trans g1
 have Q1 := hid (part_r (ns := ns) (K := K) (es := es) F (t.kid 0) (ss) (s) (by have := HZ.out; have := HK.out; omega) (HS.out.kid (by have := HC.out; omega)) (by have := HK.out; have := HZ.out; (try simp only [List.length_append, List.length_cons, List.length_nil]); omega))
 have R1 := hid (R0.out.trans Q1.out)
 clear h1 g1
 have hbx := (G1.out.block W.heap.size _ _ HA.out (by decide) (by decide) (by decide)).trans HA.out
 have e0 := z11 hbx 0
 have e1 := z11 hbx 1
 have e2 := z11 hbx 2
 have e3 := z11 hbx 3
 have e4 := z11 hbx 4
 have e5 := z11 hbx 5
 have d0 := S1.out.effs
 have d1 := S1.out.tree
 simp at e0 e1 e2 e3 e4 e5
 clear hbx
 go_wp2_with fail
 clear e0 e1 e2 e3 e4 e5 d0 d1
 refine (z35 ⟨10, 0, 0, 0⟩ S1.out (by have r := R1.out.cost; have hb := HB.out; have hz := HZ.out; omega)).mono ?_
 rintro e X2 ⟨rfl, h1, g1⟩
 obtain ⟨n2, hn2⟩ : ∃ n, ((partZ es F (t.kid 0) (ss) (s))).out.length = n := ⟨_, rfl⟩
 rw [hn2]
 have H2 := hid hn2
 have tn : n2 < (Cs.put ((partZ es F (t.kid 0) (ss) (s))) ⟨10, 0, 0, 0⟩).out.length := by rw [← hn2]; simp [Cs.put]
 have S2 := hid h1
 have G2 : Hid (Cf Y X2) := G1.out.trans g1
 have Q2 := hid (Rs.put ns K ((partZ es F (t.kid 0) (ss) (s))) ⟨10, 0, 0, 0⟩)
 have R2 := hid (R1.out.trans Q2.out)
 have Tn2_2 := hid tn
 clear h1 g1 hn2 tn
 have hbx := (G2.out.block W.heap.size _ _ HA.out (by decide) (by decide) (by decide)).trans HA.out
 have e0 := z11 hbx 0
 have e1 := z11 hbx 1
 have e2 := z11 hbx 2
 have e3 := z11 hbx 3
 have e4 := z11 hbx 4
 have e5 := z11 hbx 5
 have d0 := S2.out.effs
 have d1 := S2.out.tree
 simp at e0 e1 e2 e3 e4 e5
 clear hbx
 go_wp2_with fail
 clear e0 e1 e2 e3 e4 e5 d0 d1
 refine (z49 (cap := cap) 1 X2 (z37 HX.out S2.out) HX.out.tl HS.out (by have := HC.out; omega)).mono ?_
 rintro e Xk ⟨rfl, rfl⟩
 have hbx := (G2.out.block W.heap.size _ _ HA.out (by decide) (by decide) (by decide)).trans HA.out
 have e0 := z11 hbx 0
 have e1 := z11 hbx 1
 have e2 := z11 hbx 2
 have e3 := z11 hbx 3
 have e4 := z11 hbx 4
 have e5 := z11 hbx 5
 have d0 := S2.out.effs
 have d1 := S2.out.tree
 simp at e0 e1 e2 e3 e4 e5
 clear hbx
 go_wp2_with fail
 clear e0 e1 e2 e3 e4 e5 d0 d1
 refine (HIH.out (t.kid 1) (ss) ((Cs.put ((partZ es F (t.kid 0) (ss) (s))) ⟨10, 0, 0, 0⟩)) _ _ (by have := HZ.out; have := HK.out; omega) (HS.out.kid (by have := HC.out; omega)) (by have := HK.out; have := HZ.out; (try simp only [List.length_append, List.length_cons, List.length_nil]); omega) (by have r := R2.out.cost; have hb := HB.out; have hz := HZ.out; omega) S2.out (N0.out.frame G2.out)).mono ?_
 rintro e X3 ⟨⟨x3, rfl⟩, h1, g1⟩
 have S3 := hid h1
 have G3 : Hid (Cf Y X3) := G2.out.trans g1
 have Q3 := hid (part_r (ns := ns) (K := K) (es := es) F (t.kid 1) (ss) ((Cs.put ((partZ es F (t.kid 0) (ss) (s))) ⟨10, 0, 0, 0⟩)) (by have := HZ.out; have := HK.out; omega) (HS.out.kid (by have := HC.out; omega)) (by have := HK.out; have := HZ.out; (try simp only [List.length_append, List.length_cons, List.length_nil]); omega))
 have R3 := hid (R2.out.trans Q3.out)
 have Tn2_3 := hid (Nat.lt_of_lt_of_le Tn2_2.out Q3.out.out)
 clear h1 g1
 have hbx := (G3.out.block W.heap.size _ _ HA.out (by decide) (by decide) (by decide)).trans HA.out
 have e0 := z11 hbx 0
 have e1 := z11 hbx 1
 have e2 := z11 hbx 2
 have e3 := z11 hbx 3
 have e4 := z11 hbx 4
 have e5 := z11 hbx 5
 have d0 := S3.out.effs
 have d1 := S3.out.tree
 simp at e0 e1 e2 e3 e4 e5
 clear hbx
 go_wp2_with fail
 clear e0 e1 e2 e3 e4 e5 d0 d1
 refine (z35 ⟨11, 0, 0, 0⟩ S3.out (by have r := R3.out.cost; have hb := HB.out; have hz := HZ.out; omega)).mono ?_
 rintro e X4 ⟨rfl, h1, g1⟩
 obtain ⟨n4, hn4⟩ : ∃ n, ((partZ es F (t.kid 1) (ss) ((Cs.put ((partZ es F (t.kid 0) (ss) (s))) ⟨10, 0, 0, 0⟩)))).out.length = n := ⟨_, rfl⟩
 rw [hn4]
 have H4 := hid hn4
 have tn : n4 < (Cs.put ((partZ es F (t.kid 1) (ss) ((Cs.put ((partZ es F (t.kid 0) (ss) (s))) ⟨10, 0, 0, 0⟩)))) ⟨11, 0, 0, 0⟩).out.length := by rw [← hn4]; simp [Cs.put]
 have S4 := hid h1
 have G4 : Hid (Cf Y X4) := G3.out.trans g1
 have Q4 := hid (Rs.put ns K ((partZ es F (t.kid 1) (ss) ((Cs.put ((partZ es F (t.kid 0) (ss) (s))) ⟨10, 0, 0, 0⟩)))) ⟨11, 0, 0, 0⟩)
 have R4 := hid (R3.out.trans Q4.out)
 have Tn2_4 := hid (Nat.lt_of_lt_of_le Tn2_3.out Q4.out.out)
 have Tn4_4 := hid tn
 clear h1 g1 hn4 tn
 have hbx := (G4.out.block W.heap.size _ _ HA.out (by decide) (by decide) (by decide)).trans HA.out
 have e0 := z11 hbx 0
 have e1 := z11 hbx 1
 have e2 := z11 hbx 2
 have e3 := z11 hbx 3
 have e4 := z11 hbx 4
 have e5 := z11 hbx 5
 have d0 := S4.out.effs
 have d1 := S4.out.tree
 simp at e0 e1 e2 e3 e4 e5
 clear hbx
 go_wp2_with fail
 clear e0 e1 e2 e3 e4 e5 d0 d1
 refine (z66 n2 0 S4.out (by have r := R4.out.cost; have hb := HB.out; have hz := HZ.out; omega) Tn2_4.out (by decide)).mono ?_
 rintro e X5 ⟨⟨x5, rfl⟩, h1, g1⟩
 have S5 := hid h1
 have G5 : Hid (Cf Y X5) := G4.out.trans g1
 have Q5 := hid (Rs.lead ns K ((Cs.put ((partZ es F (t.kid 1) (ss) ((Cs.put ((partZ es F (t.kid 0) (ss) (s))) ⟨10, 0, 0, 0⟩)))) ⟨11, 0, 0, 0⟩)) n2 0)
 have R5 := hid (R4.out.trans Q5.out)
 have Tn2_5 := hid (Nat.lt_of_lt_of_le Tn2_4.out Q5.out.out)
 have Tn4_5 := hid (Nat.lt_of_lt_of_le Tn4_4.out Q5.out.out)
 clear h1 g1
 have hbx := (G5.out.block W.heap.size _ _ HA.out (by decide) (by decide) (by decide)).trans HA.out
 have e0 := z11 hbx 0
 have e1 := z11 hbx 1
 have e2 := z11 hbx 2
 have e3 := z11 hbx 3
 have e4 := z11 hbx 4
 have e5 := z11 hbx 5
 have d0 := S5.out.effs
 have d1 := S5.out.tree
 simp at e0 e1 e2 e3 e4 e5
 clear hbx
 go_wp2_with fail
 clear e0 e1 e2 e3 e4 e5 d0 d1
 refine (z49 (cap := cap) 2 X5 (z37 HX.out S5.out) HX.out.tl HS.out (by have := HC.out; omega)).mono ?_
 rintro e Xk ⟨rfl, rfl⟩
 have hbx := (G5.out.block W.heap.size _ _ HA.out (by decide) (by decide) (by decide)).trans HA.out
 have e0 := z11 hbx 0
 have e1 := z11 hbx 1
 have e2 := z11 hbx 2
 have e3 := z11 hbx 3
 have e4 := z11 hbx 4
 have e5 := z11 hbx 5
 have d0 := S5.out.effs
 have d1 := S5.out.tree
 simp at e0 e1 e2 e3 e4 e5
 clear hbx
 go_wp2_with fail
 clear e0 e1 e2 e3 e4 e5 d0 d1
 refine (HIH.out (t.kid 2) (ss) ((Cs.lead ((Cs.put ((partZ es F (t.kid 1) (ss) ((Cs.put ((partZ es F (t.kid 0) (ss) (s))) ⟨10, 0, 0, 0⟩)))) ⟨11, 0, 0, 0⟩)) n2 0)) _ _ (by have := HZ.out; have := HK.out; omega) (HS.out.kid (by have := HC.out; omega)) (by have := HK.out; have := HZ.out; (try simp only [List.length_append, List.length_cons, List.length_nil]); omega) (by have r := R5.out.cost; have hb := HB.out; have hz := HZ.out; omega) S5.out (N0.out.frame G5.out)).mono ?_
 rintro e X6 ⟨⟨x6, rfl⟩, h1, g1⟩
 have S6 := hid h1
 have G6 : Hid (Cf Y X6) := G5.out.trans g1
 have Q6 := hid (part_r (ns := ns) (K := K) (es := es) F (t.kid 2) (ss) ((Cs.lead ((Cs.put ((partZ es F (t.kid 1) (ss) ((Cs.put ((partZ es F (t.kid 0) (ss) (s))) ⟨10, 0, 0, 0⟩)))) ⟨11, 0, 0, 0⟩)) n2 0)) (by have := HZ.out; have := HK.out; omega) (HS.out.kid (by have := HC.out; omega)) (by have := HK.out; have := HZ.out; (try simp only [List.length_append, List.length_cons, List.length_nil]); omega))
 have R6 := hid (R5.out.trans Q6.out)
 have Tn2_6 := hid (Nat.lt_of_lt_of_le Tn2_5.out Q6.out.out)
 have Tn4_6 := hid (Nat.lt_of_lt_of_le Tn4_5.out Q6.out.out)
 clear h1 g1
 have hbx := (G6.out.block W.heap.size _ _ HA.out (by decide) (by decide) (by decide)).trans HA.out
 have e0 := z11 hbx 0
 have e1 := z11 hbx 1
 have e2 := z11 hbx 2
 have e3 := z11 hbx 3
 have e4 := z11 hbx 4
 have e5 := z11 hbx 5
 have d0 := S6.out.effs
 have d1 := S6.out.tree
 simp at e0 e1 e2 e3 e4 e5
 clear hbx
 go_wp2_with fail
 clear e0 e1 e2 e3 e4 e5 d0 d1
 refine (z66 n4 0 S6.out (by have r := R6.out.cost; have hb := HB.out; have hz := HZ.out; omega) Tn4_6.out (by decide)).mono ?_
 rintro e X7 ⟨⟨x7, rfl⟩, h1, g1⟩
 have S7 := hid h1
 have G7 : Hid (Cf Y X7) := G6.out.trans g1
 have Q7 := hid (Rs.lead ns K ((partZ es F (t.kid 2) (ss) ((Cs.lead ((Cs.put ((partZ es F (t.kid 1) (ss) ((Cs.put ((partZ es F (t.kid 0) (ss) (s))) ⟨10, 0, 0, 0⟩)))) ⟨11, 0, 0, 0⟩)) n2 0)))) n4 0)
 have R7 := hid (R6.out.trans Q7.out)
 have Tn2_7 := hid (Nat.lt_of_lt_of_le Tn2_6.out Q7.out.out)
 have Tn4_7 := hid (Nat.lt_of_lt_of_le Tn4_6.out Q7.out.out)
 clear h1 g1
 have hbx := (G7.out.block W.heap.size _ _ HA.out (by decide) (by decide) (by decide)).trans HA.out
 have e0 := z11 hbx 0
 have e1 := z11 hbx 1
 have e2 := z11 hbx 2
 have e3 := z11 hbx 3
 have e4 := z11 hbx 4
 have e5 := z11 hbx 5
 have d0 := S7.out.effs
 have d1 := S7.out.tree
 simp at e0 e1 e2 e3 e4 e5
 clear hbx
 go_wp2_with fail
 clear e0 e1 e2 e3 e4 e5 d0 d1
 go_end0
 have qn2 := H2.out
 subst qn2
 have qn4 := H4.out
 subst qn4
 exact ⟨⟨_, rfl⟩, S7.out, F0.out.trans G7.out⟩
set_option maxHeartbeats 4000000 in
set_option maxRecDepth 100000 in
theorem part_c20 (cx : Cx W0 Mb ae b off es ns) (hk1 : K ≤ 1000) (ih : PartC W0 Mb ae ce b off cap es ns K F) {t : Tp} {ss : List ByteArray} {s : Cs} {v : Value} {W : World} (hF : t.size ≤ F + 1) (hs : Stands ns t) (hK : ss.length + 2 * t.size ≤ K) (hB : s.out.length + 10 * s.rest + 10 * t.size ≤ 950000) (h : CmE W0 Mb (.slice ae es.length ce) (.slice (some ⟨b, off, none⟩) ns.length cap) s W) (hv : NmT W v ss) (ek : t.n.kind = 20) :
   Calls Tryz.prog 26 #[.pointer (some ⟨Mb, 0, none⟩), .int .i64 (t.at_ : Int), v] W (LeadPost W0 Mb (.slice ae es.length ce) (.slice (some ⟨b, off, none⟩) ns.length cap) (caseZ (partZ es F) t ss s) W) := by
 obtain ⟨adn, cpn, rfl⟩ := hv.is
 have hnc := z37 cx h
 obtain ⟨hlt, hat, hsz⟩ := hs.lt
 have c0 := hnc t.at_ hlt 0 (by omega)
 have c1 := hnc t.at_ hlt 1 (by omega)
 have c2 := hnc t.at_ hlt 2 (by omega)
 have c3 := hnc t.at_ hlt 3 (by omega)
 have c4 := hnc t.at_ hlt 4 (by omega)
 have c5 := hnc t.at_ hlt 5 (by omega)
 rw [hat] at c0 c1 c2 c3 c4 c5
 simp only [Nd.cell, Nat.add_zero] at c0 c1 c2 c3 c4 c5
 rw [ek] at c0
 have d1 := h.tree
 have hA := (MapKept.heap_alloc W (.cells #[.int .i64 20, .int .i64 t.n.num, .string t.n.a, .string t.n.b, .string t.n.c, .int .i64 t.n.kids] 116)).1
 have hB1 := (Below.refl W.heap.size W).alloc (Nat.le_refl _) (.cells #[.int .i64 20, .int .i64 t.n.num, .string t.n.a, .string t.n.b, .string t.n.c, .int .i64 t.n.kids] 116)
 obtain ⟨Y, hY⟩ : ∃ Y, W.alloc (.cells #[.int .i64 20, .int .i64 t.n.num, .string t.n.a, .string t.n.b, .string t.n.c, .int .i64 t.n.kids] 116) = Y := ⟨_, rfl⟩
 rw [hY] at hA hB1
 have HY := hid hY
 have HA := hid hA
 have S0 := hid (h.below hB1)
 have F0 := hid (Cf.of_below hB1)
 have N0 := hid (hv.frame (Cf.of_below hB1))
 have G0 := hid (Cf.refl Y)
 have R0 := hid (Rs.refl ns K s)
 have hgood := hs.toGood
 have HC : Hid (t.k.count = 3) := z67 hgood ek (c := 3) rfl
 have HZ : Hid ((t.kid 0).size + (t.kid 1).size + (t.kid 2).size + 1 = t.size ∧ 1 ≤ (t.kid 0).size ∧ 1 ≤ (t.kid 1).size ∧ 1 ≤ (t.kid 2).size) := ⟨(kids3 HC.out).2, (t.kid 0).size_pos, (t.kid 1).size_pos, (t.kid 2).size_pos⟩
 have hp0 : (0 : Int) ≤ (t.at_ : Int) := by omega
 have hpl : (t.at_ : Int) < (ns.length : Int) := by omega
 have HP1 : Hid (0 < t.k.count → wrap64 ((t.at_ : Int) + 1) = ((t.kid 0).at_ : Int)) := fun h0 => by rw [hs.first h0]; have := cx.tl; unfold wrap64; omega
 have HX := hid cx
 have HIH := hid ih
 have HS := hid hs
 have HK := hid (And.intro hK (And.intro hF hk1))
 have HB := hid hB
 clear hA hB1 hY h hv hnc hlt hat hsz hgood cx ih hs hK hF hB hk1
 go_enter Tryz.func26, Tryz.ntmps26
 go_upto_region 1 with fail
 rw [HY.out]
 clear HY c0 c1 c2 c3 c4 c5 d1
 have hbx := (G0.out.block W.heap.size _ _ HA.out (by decide) (by decide) (by decide)).trans HA.out
 have e0 := z11 hbx 0
 have e1 := z11 hbx 1
 have e2 := z11 hbx 2
 have e3 := z11 hbx 3
 have e4 := z11 hbx 4
 have e5 := z11 hbx 5
 have d0 := S0.out.effs
 have d1 := S0.out.tree
 simp at e0 e1 e2 e3 e4 e5
 clear hbx
 go_wp2_with fail
 clear e0 e1 e2 e3 e4 e5 d0 d1
 rw [HP1.out (by have := HC.out; omega)]
 refine (HIH.out (t.kid 0) (ss) (s) _ _ (by have := HZ.out; have := HK.out; omega) (HS.out.kid (by have := HC.out; omega)) (by have := HK.out; have := HZ.out; (try simp only [List.length_append, List.length_cons, List.length_nil]); omega) (by have r := R0.out.cost; have hb := HB.out; have hz := HZ.out; omega) S0.out (N0.out.frame G0.out)).mono ?_
 rintro e X1 ⟨⟨x1, rfl⟩, h1, g1⟩
 have S1 := hid h1
 have G1 : Hid (Cf Y X1) := G0.out.trans g1
 have Q1 := hid (part_r (ns := ns) (K := K) (es := es) F (t.kid 0) (ss) (s) (by have := HZ.out; have := HK.out; omega) (HS.out.kid (by have := HC.out; omega)) (by have := HK.out; have := HZ.out; (try simp only [List.length_append, List.length_cons, List.length_nil]); omega))
 have R1 := hid (R0.out.trans Q1.out)
 clear h1 g1
 have hbx := (G1.out.block W.heap.size _ _ HA.out (by decide) (by decide) (by decide)).trans HA.out
 have e0 := z11 hbx 0
 have e1 := z11 hbx 1
 have e2 := z11 hbx 2
 have e3 := z11 hbx 3
 have e4 := z11 hbx 4
 have e5 := z11 hbx 5
 have d0 := S1.out.effs
 have d1 := S1.out.tree
 simp at e0 e1 e2 e3 e4 e5
 clear hbx
 go_wp2_with fail
 clear e0 e1 e2 e3 e4 e5 d0 d1
 refine (z35 ⟨19, 0, 0, 0⟩ S1.out (by have r := R1.out.cost; have hb := HB.out; have hz := HZ.out; omega)).mono ?_
 rintro e X2 ⟨rfl, h1, g1⟩
 obtain ⟨n2, hn2⟩ : ∃ n, ((partZ es F (t.kid 0) (ss) (s))).out.length = n := ⟨_, rfl⟩
 rw [hn2]
 have H2 := hid hn2
 have tn : n2 < (Cs.put ((partZ es F (t.kid 0) (ss) (s))) ⟨19, 0, 0, 0⟩).out.length := by rw [← hn2]; simp [Cs.put]
 have S2 := hid h1
 have G2 : Hid (Cf Y X2) := G1.out.trans g1
 have Q2 := hid (Rs.put ns K ((partZ es F (t.kid 0) (ss) (s))) ⟨19, 0, 0, 0⟩)
 have R2 := hid (R1.out.trans Q2.out)
 have Tn2_2 := hid tn
 clear h1 g1 hn2 tn
 have hbx := (G2.out.block W.heap.size _ _ HA.out (by decide) (by decide) (by decide)).trans HA.out
 have e0 := z11 hbx 0
 have e1 := z11 hbx 1
 have e2 := z11 hbx 2
 have e3 := z11 hbx 3
 have e4 := z11 hbx 4
 have e5 := z11 hbx 5
 have d0 := S2.out.effs
 have d1 := S2.out.tree
 simp at e0 e1 e2 e3 e4 e5
 clear hbx
 go_upto_region 36 with fail
 have hD : Below X2.heap.size X2 X2.drew := (Below.refl _ _).drew
 obtain ⟨D3, hDe⟩ : ∃ D, X2.drew = D := ⟨_, rfl⟩
 rw [hDe] at hD
 have S3 := hid (S2.out.below hD)
 have G3 : Hid (Cf Y D3) := G2.out.trans (Cf.of_below hD)
 have R3 := R2
 have Tn2_3 := Tn2_2
 have hS : (fun w' : World => w'.cell? ⟨Mb, 1, none⟩ = some (.slice (some ⟨b, off, none⟩) ns.length cap) ∧ w'.cell? ⟨W.heap.size, 2, none⟩ = some (.string t.n.a) ∧ w'.cell? ⟨W.heap.size, 3, none⟩ = some (.string t.n.b)) D3 := ⟨S3.out.tree, by rw [← hDe]; exact e2, by rw [← hDe]; exact e3⟩
 refine z33 (S := fun w' => w'.cell? ⟨Mb, 1, none⟩ = some (.slice (some ⟨b, off, none⟩) ns.length cap) ∧ w'.cell? ⟨W.heap.size, 2, none⟩ = some (.string t.n.a) ∧ w'.cell? ⟨W.heap.size, 3, none⟩ = some (.string t.n.b)) (by kernel_rfl) rfl rfl ?_
 rw [hDe]
 clear hDe hD
 clear e0 e1 e2 e3 e4 e5 d0 d1
 refine pick_o 0 (.pointer (some ⟨Mb, 0, none⟩)) hS ?_
 refine pick_o 1 (.pointer (some ⟨Mb, 0, none⟩)) hS ?_
 refine pick_o 2 (.pointer (some ⟨Mb, 0, none⟩)) hS ?_
 refine pick_o 3 (.pointer (some ⟨Mb, 0, none⟩)) hS ?_
 refine pick_o 4 (.pointer (some ⟨Mb, 1, none⟩)) hS ?_
 refine pick_o (hy := fun w' h => by simp [go_sem, h.1]) 5 (.slice (some ⟨b, off, none⟩) ns.length cap) hS ?_
 refine pick_o 6 (.int .i64 (t.at_ : Int)) hS ?_
 refine pick_o 8 (.slice adn ss.length cpn) hS ?_
 refine pick_o 9 (.pointer (some ⟨W.heap.size, 2, none⟩)) hS ?_
 refine pick_o (hy := fun w' h => by simp [go_sem, h.2.1]) 10 (.string t.n.a) hS ?_
 refine pick_o 11 (.pointer (some ⟨W.heap.size, 3, none⟩)) hS ?_
 refine pick_o (hy := fun w' h => by simp [go_sem, h.2.2]) 12 (.string t.n.b) hS ?_
 refine pick_other (i := 7) (j := 13) (by kernel_rfl) ?_ ?_
 · have HQ : Hid (W.heap.size < D3.heap.size) := z26 ((G3.out.block W.heap.size _ _ HA.out (by decide) (by decide) (by decide)).trans HA.out)
   refine ⟨_, 52, #[.slice (some ⟨b, off, none⟩) ns.length cap, .int .i64 (t.at_ : Int), .int .i64 (2 : Int)], rfl, rfl, by simp [go_sem], ?_⟩
   refine (z49 (cap := cap) 2 D3 (z37 HX.out S3.out) HX.out.tl HS.out (by have := HC.out; omega)).mono ?_
   rintro e Xk ⟨rfl, rfl⟩
   refine ⟨_, rfl, hS, ?_⟩
   refine z15 (by simp [go_sem]; exact rfl) ?_
   have hA1 : Below D3.heap.size D3 (D3.alloc (.cells #[.string t.n.a, .string t.n.b] 9)) := (Below.refl _ _).alloc (Nat.le_refl _) _
   have hS1 : (fun w' : World => w'.cell? ⟨Mb, 1, none⟩ = some (.slice (some ⟨b, off, none⟩) ns.length cap) ∧ w'.cell? ⟨W.heap.size, 2, none⟩ = some (.string t.n.a) ∧ w'.cell? ⟨W.heap.size, 3, none⟩ = some (.string t.n.b)) (D3.alloc (.cells #[.string t.n.a, .string t.n.b] 9)) := ⟨(hA1.cell (z70 S3.out)).trans hS.1, (hA1.cell HQ.out).trans hS.2.1, (hA1.cell HQ.out).trans hS.2.2⟩
   refine z29 (i := 13) (v := .slice (some ⟨D3.heap.size, 0, none⟩) 2 2) (w1 := D3.alloc (.cells #[.string t.n.a, .string t.n.b] 9)) rfl (by kernel_rfl) rfl rfl (by simp [go_sem]) hS1 (by simp [go_sem]; exact rfl) ?_
   refine z27 (i := 14) (f := 50) (args := #[.slice adn ss.length cpn, .slice (some ⟨D3.heap.size, 0, none⟩) 2 2]) rfl (by kernel_rfl) rfl rfl (by simp [go_sem]) ?_
   refine (z45 (ss := ss) (ms := [t.n.a, t.n.b]) _ ((N0.out.frame G3.out).names.below hA1) (z59 D3 [t.n.a, t.n.b]) (by have := HK.out; have := HZ.out; simp only [List.length_cons, List.length_nil]; omega)).mono ?_
   rintro e X4 ⟨u4, rfl, hu4, hb4⟩
   have B4 : Below D3.heap.size D3 X4 := hA1.trans (hb4.mono (by simp))
   have hS2 : (fun w' : World => w'.cell? ⟨Mb, 1, none⟩ = some (.slice (some ⟨b, off, none⟩) ns.length cap) ∧ w'.cell? ⟨W.heap.size, 2, none⟩ = some (.string t.n.a) ∧ w'.cell? ⟨W.heap.size, 3, none⟩ = some (.string t.n.b)) X4 := ⟨(B4.cell (z70 S3.out)).trans hS.1, (B4.cell HQ.out).trans hS.2.1, (B4.cell HQ.out).trans hS.2.2⟩
   have U4 := hid hu4
   have S4 := hid (S3.out.below B4)
   have G4 : Hid (Cf Y X4) := G3.out.trans (Cf.of_below B4)
   have R4 := R3
   have Tn2_4 := Tn2_3
   clear hu4 hb4 B4 hS hS1 hA1
   refine ⟨u4, rfl, hS2, ?_⟩
   refine z15 (by simp [go_sem]; exact rfl) ?_
   refine z27 (i := 15) (f := 26) (args := #[.pointer (some ⟨Mb, 0, none⟩), .int .i64 ((t.kid 2).at_ : Int), u4]) rfl (by kernel_rfl) rfl rfl (by simp [go_sem]) ?_
   refine (HIH.out (t.kid 2) (ss ++ [t.n.a, t.n.b]) ((Cs.put ((partZ es F (t.kid 0) (ss) (s))) ⟨19, 0, 0, 0⟩)) _ _ (by have := HZ.out; have := HK.out; omega) (HS.out.kid (by have := HC.out; omega)) (by have := HK.out; have := HZ.out; simp only [List.length_append, List.length_cons, List.length_nil]; omega) (by have r := R4.out.cost; have hb := HB.out; have hz := HZ.out; omega) S4.out (U4.out.frame (Cf.refl _))).mono ?_
   rintro e X5 ⟨⟨x5, rfl⟩, h1, g1⟩
   have S5 := hid h1
   have G5 : Hid (Cf Y X5) := G4.out.trans g1
   have Q5 := hid (part_r (ns := ns) (K := K) (es := es) F (t.kid 2) (ss ++ [t.n.a, t.n.b]) ((Cs.put ((partZ es F (t.kid 0) (ss) (s))) ⟨19, 0, 0, 0⟩)) (by have := HZ.out; have := HK.out; omega) (HS.out.kid (by have := HC.out; omega)) (by have := HK.out; have := HZ.out; simp only [List.length_append, List.length_cons, List.length_nil]; omega))
   have R5 := hid (R4.out.trans Q5.out)
   have Tn2_5 := hid (Nat.lt_of_lt_of_le Tn2_4.out Q5.out.out)
   have D4_5 : Hid (Cf X4 X5) := g1
   have hbx := (G5.out.block W.heap.size _ _ HA.out (by decide) (by decide) (by decide)).trans HA.out
   refine ⟨x5, rfl, ⟨S5.out.tree, z11 hbx 2, z11 hbx 3⟩, ?_⟩
   clear h1 g1 hbx hS2 HQ
   refine z15 (by simp [go_sem]; exact rfl) ?_
   refine z32 (by kernel_rfl) ?_
   have hbx := (G5.out.block W.heap.size _ _ HA.out (by decide) (by decide) (by decide)).trans HA.out
   have e0 := z11 hbx 0
   have e1 := z11 hbx 1
   have e2 := z11 hbx 2
   have e3 := z11 hbx 3
   have e4 := z11 hbx 4
   have e5 := z11 hbx 5
   have d0 := S5.out.effs
   have d1 := S5.out.tree
   simp at e0 e1 e2 e3 e4 e5
   clear hbx
   go_wp2_with fail
   clear e0 e1 e2 e3 e4 e5 d0 d1
   refine (z35 ⟨13, 0, 0, 0⟩ S5.out (by have r := R5.out.cost; have hb := HB.out; have hz := HZ.out; omega)).mono ?_
   rintro e X6 ⟨rfl, h1, g1⟩
   obtain ⟨n6, hn6⟩ : ∃ n, ((partZ es F (t.kid 2) (ss ++ [t.n.a, t.n.b]) ((Cs.put ((partZ es F (t.kid 0) (ss) (s))) ⟨19, 0, 0, 0⟩)))).out.length = n := ⟨_, rfl⟩
   rw [hn6]
   have H6 := hid hn6
   have tn : n6 < (Cs.put ((partZ es F (t.kid 2) (ss ++ [t.n.a, t.n.b]) ((Cs.put ((partZ es F (t.kid 0) (ss) (s))) ⟨19, 0, 0, 0⟩)))) ⟨13, 0, 0, 0⟩).out.length := by rw [← hn6]; simp [Cs.put]
   have S6 := hid h1
   have G6 : Hid (Cf Y X6) := G5.out.trans g1
   have Q6 := hid (Rs.put ns K ((partZ es F (t.kid 2) (ss ++ [t.n.a, t.n.b]) ((Cs.put ((partZ es F (t.kid 0) (ss) (s))) ⟨19, 0, 0, 0⟩)))) ⟨13, 0, 0, 0⟩)
   have R6 := hid (R5.out.trans Q6.out)
   have Tn2_6 := hid (Nat.lt_of_lt_of_le Tn2_5.out Q6.out.out)
   have D4_6 : Hid (Cf X4 X6) := D4_5.out.trans g1
   have Tn6_6 := hid tn
   clear h1 g1 hn6 tn
   have hbx := (G6.out.block W.heap.size _ _ HA.out (by decide) (by decide) (by decide)).trans HA.out
   have e0 := z11 hbx 0
   have e1 := z11 hbx 1
   have e2 := z11 hbx 2
   have e3 := z11 hbx 3
   have e4 := z11 hbx 4
   have e5 := z11 hbx 5
   have d0 := S6.out.effs
   have d1 := S6.out.tree
   simp at e0 e1 e2 e3 e4 e5
   clear hbx
   go_wp2_with fail
   clear e0 e1 e2 e3 e4 e5 d0 d1
   refine (z35 ⟨13, 0, 0, 0⟩ S6.out (by have r := R6.out.cost; have hb := HB.out; have hz := HZ.out; omega)).mono ?_
   rintro e X7 ⟨rfl, h1, g1⟩
   obtain ⟨n7, hn7⟩ : ∃ n, ((Cs.put ((partZ es F (t.kid 2) (ss ++ [t.n.a, t.n.b]) ((Cs.put ((partZ es F (t.kid 0) (ss) (s))) ⟨19, 0, 0, 0⟩)))) ⟨13, 0, 0, 0⟩)).out.length = n := ⟨_, rfl⟩
   rw [hn7]
   have H7 := hid hn7
   have tn : n7 < (Cs.put ((Cs.put ((partZ es F (t.kid 2) (ss ++ [t.n.a, t.n.b]) ((Cs.put ((partZ es F (t.kid 0) (ss) (s))) ⟨19, 0, 0, 0⟩)))) ⟨13, 0, 0, 0⟩)) ⟨13, 0, 0, 0⟩).out.length := by rw [← hn7]; simp [Cs.put]
   have S7 := hid h1
   have G7 : Hid (Cf Y X7) := G6.out.trans g1
   have Q7 := hid (Rs.put ns K ((Cs.put ((partZ es F (t.kid 2) (ss ++ [t.n.a, t.n.b]) ((Cs.put ((partZ es F (t.kid 0) (ss) (s))) ⟨19, 0, 0, 0⟩)))) ⟨13, 0, 0, 0⟩)) ⟨13, 0, 0, 0⟩)
   have R7 := hid (R6.out.trans Q7.out)
   have Tn2_7 := hid (Nat.lt_of_lt_of_le Tn2_6.out Q7.out.out)
   have Tn6_7 := hid (Nat.lt_of_lt_of_le Tn6_6.out Q7.out.out)
   have D4_7 : Hid (Cf X4 X7) := D4_6.out.trans g1
   have Tn7_7 := hid tn
   clear h1 g1 hn7 tn
   have hbx := (G7.out.block W.heap.size _ _ HA.out (by decide) (by decide) (by decide)).trans HA.out
   have e0 := z11 hbx 0
   have e1 := z11 hbx 1
   have e2 := z11 hbx 2
   have e3 := z11 hbx 3
   have e4 := z11 hbx 4
   have e5 := z11 hbx 5
   have d0 := S7.out.effs
   have d1 := S7.out.tree
   simp at e0 e1 e2 e3 e4 e5
   clear hbx
   go_wp2_with fail
   clear e0 e1 e2 e3 e4 e5 d0 d1
   refine (z35 ⟨11, 0, 0, 0⟩ S7.out (by have r := R7.out.cost; have hb := HB.out; have hz := HZ.out; omega)).mono ?_
   rintro e X8 ⟨rfl, h1, g1⟩
   obtain ⟨n8, hn8⟩ : ∃ n, ((Cs.put ((Cs.put ((partZ es F (t.kid 2) (ss ++ [t.n.a, t.n.b]) ((Cs.put ((partZ es F (t.kid 0) (ss) (s))) ⟨19, 0, 0, 0⟩)))) ⟨13, 0, 0, 0⟩)) ⟨13, 0, 0, 0⟩)).out.length = n := ⟨_, rfl⟩
   rw [hn8]
   have H8 := hid hn8
   have tn : n8 < (Cs.put ((Cs.put ((Cs.put ((partZ es F (t.kid 2) (ss ++ [t.n.a, t.n.b]) ((Cs.put ((partZ es F (t.kid 0) (ss) (s))) ⟨19, 0, 0, 0⟩)))) ⟨13, 0, 0, 0⟩)) ⟨13, 0, 0, 0⟩)) ⟨11, 0, 0, 0⟩).out.length := by rw [← hn8]; simp [Cs.put]
   have S8 := hid h1
   have G8 : Hid (Cf Y X8) := G7.out.trans g1
   have Q8 := hid (Rs.put ns K ((Cs.put ((Cs.put ((partZ es F (t.kid 2) (ss ++ [t.n.a, t.n.b]) ((Cs.put ((partZ es F (t.kid 0) (ss) (s))) ⟨19, 0, 0, 0⟩)))) ⟨13, 0, 0, 0⟩)) ⟨13, 0, 0, 0⟩)) ⟨11, 0, 0, 0⟩)
   have R8 := hid (R7.out.trans Q8.out)
   have Tn2_8 := hid (Nat.lt_of_lt_of_le Tn2_7.out Q8.out.out)
   have Tn6_8 := hid (Nat.lt_of_lt_of_le Tn6_7.out Q8.out.out)
   have Tn7_8 := hid (Nat.lt_of_lt_of_le Tn7_7.out Q8.out.out)
   have D4_8 : Hid (Cf X4 X8) := D4_7.out.trans g1
   have Tn8_8 := hid tn
   clear h1 g1 hn8 tn
   have hbx := (G8.out.block W.heap.size _ _ HA.out (by decide) (by decide) (by decide)).trans HA.out
   have e0 := z11 hbx 0
   have e1 := z11 hbx 1
   have e2 := z11 hbx 2
   have e3 := z11 hbx 3
   have e4 := z11 hbx 4
   have e5 := z11 hbx 5
   have d0 := S8.out.effs
   have d1 := S8.out.tree
   simp at e0 e1 e2 e3 e4 e5
   clear hbx
   go_wp2_with fail
   clear e0 e1 e2 e3 e4 e5 d0 d1
   refine (z66 n2 0 S8.out (by have r := R8.out.cost; have hb := HB.out; have hz := HZ.out; omega) Tn2_8.out (by decide)).mono ?_
   rintro e X9 ⟨⟨x9, rfl⟩, h1, g1⟩
   have S9 := hid h1
   have G9 : Hid (Cf Y X9) := G8.out.trans g1
   have Q9 := hid (Rs.lead ns K ((Cs.put ((Cs.put ((Cs.put ((partZ es F (t.kid 2) (ss ++ [t.n.a, t.n.b]) ((Cs.put ((partZ es F (t.kid 0) (ss) (s))) ⟨19, 0, 0, 0⟩)))) ⟨13, 0, 0, 0⟩)) ⟨13, 0, 0, 0⟩)) ⟨11, 0, 0, 0⟩)) n2 0)
   have R9 := hid (R8.out.trans Q9.out)
   have Tn2_9 := hid (Nat.lt_of_lt_of_le Tn2_8.out Q9.out.out)
   have Tn6_9 := hid (Nat.lt_of_lt_of_le Tn6_8.out Q9.out.out)
   have Tn7_9 := hid (Nat.lt_of_lt_of_le Tn7_8.out Q9.out.out)
   have Tn8_9 := hid (Nat.lt_of_lt_of_le Tn8_8.out Q9.out.out)
   have D4_9 : Hid (Cf X4 X9) := D4_8.out.trans g1
   clear h1 g1
   have hbx := (G9.out.block W.heap.size _ _ HA.out (by decide) (by decide) (by decide)).trans HA.out
   have e0 := z11 hbx 0
   have e1 := z11 hbx 1
   have e2 := z11 hbx 2
   have e3 := z11 hbx 3
   have e4 := z11 hbx 4
   have e5 := z11 hbx 5
   have d0 := S9.out.effs
   have d1 := S9.out.tree
   simp at e0 e1 e2 e3 e4 e5
   clear hbx
   go_wp2_with fail
   clear e0 e1 e2 e3 e4 e5 d0 d1
   refine (z49 (cap := cap) 1 X9 (z37 HX.out S9.out) HX.out.tl HS.out (by have := HC.out; omega)).mono ?_
   rintro e Xk ⟨rfl, rfl⟩
   have hbx := (G9.out.block W.heap.size _ _ HA.out (by decide) (by decide) (by decide)).trans HA.out
   have e0 := z11 hbx 0
   have e1 := z11 hbx 1
   have e2 := z11 hbx 2
   have e3 := z11 hbx 3
   have e4 := z11 hbx 4
   have e5 := z11 hbx 5
   have d0 := S9.out.effs
   have d1 := S9.out.tree
   simp at e0 e1 e2 e3 e4 e5
   clear hbx
   go_wp2_with fail
   clear e0 e1 e2 e3 e4 e5 d0 d1
   refine (HIH.out (t.kid 1) (ss) ((Cs.lead ((Cs.put ((Cs.put ((Cs.put ((partZ es F (t.kid 2) (ss ++ [t.n.a, t.n.b]) ((Cs.put ((partZ es F (t.kid 0) (ss) (s))) ⟨19, 0, 0, 0⟩)))) ⟨13, 0, 0, 0⟩)) ⟨13, 0, 0, 0⟩)) ⟨11, 0, 0, 0⟩)) n2 0)) _ _ (by have := HZ.out; have := HK.out; omega) (HS.out.kid (by have := HC.out; omega)) (by have := HK.out; have := HZ.out; (try simp only [List.length_append, List.length_cons, List.length_nil]); omega) (by have r := R9.out.cost; have hb := HB.out; have hz := HZ.out; omega) S9.out (N0.out.frame G9.out)).mono ?_
   rintro e X10 ⟨⟨x10, rfl⟩, h1, g1⟩
   have S10 := hid h1
   have G10 : Hid (Cf Y X10) := G9.out.trans g1
   have Q10 := hid (part_r (ns := ns) (K := K) (es := es) F (t.kid 1) (ss) ((Cs.lead ((Cs.put ((Cs.put ((Cs.put ((partZ es F (t.kid 2) (ss ++ [t.n.a, t.n.b]) ((Cs.put ((partZ es F (t.kid 0) (ss) (s))) ⟨19, 0, 0, 0⟩)))) ⟨13, 0, 0, 0⟩)) ⟨13, 0, 0, 0⟩)) ⟨11, 0, 0, 0⟩)) n2 0)) (by have := HZ.out; have := HK.out; omega) (HS.out.kid (by have := HC.out; omega)) (by have := HK.out; have := HZ.out; (try simp only [List.length_append, List.length_cons, List.length_nil]); omega))
   have R10 := hid (R9.out.trans Q10.out)
   have Tn2_10 := hid (Nat.lt_of_lt_of_le Tn2_9.out Q10.out.out)
   have Tn6_10 := hid (Nat.lt_of_lt_of_le Tn6_9.out Q10.out.out)
   have Tn7_10 := hid (Nat.lt_of_lt_of_le Tn7_9.out Q10.out.out)
   have Tn8_10 := hid (Nat.lt_of_lt_of_le Tn8_9.out Q10.out.out)
   have D4_10 : Hid (Cf X4 X10) := D4_9.out.trans g1
   clear h1 g1
   have hbx := (G10.out.block W.heap.size _ _ HA.out (by decide) (by decide) (by decide)).trans HA.out
   have e0 := z11 hbx 0
   have e1 := z11 hbx 1
   have e2 := z11 hbx 2
   have e3 := z11 hbx 3
   have e4 := z11 hbx 4
   have e5 := z11 hbx 5
   have d0 := S10.out.effs
   have d1 := S10.out.tree
   simp at e0 e1 e2 e3 e4 e5
   clear hbx
   go_wp2_with fail
   clear e0 e1 e2 e3 e4 e5 d0 d1
   refine (z66 n8 0 S10.out (by have r := R10.out.cost; have hb := HB.out; have hz := HZ.out; omega) Tn8_10.out (by decide)).mono ?_
   rintro e X11 ⟨⟨x11, rfl⟩, h1, g1⟩
   have S11 := hid h1
   have G11 : Hid (Cf Y X11) := G10.out.trans g1
   have Q11 := hid (Rs.lead ns K ((partZ es F (t.kid 1) (ss) ((Cs.lead ((Cs.put ((Cs.put ((Cs.put ((partZ es F (t.kid 2) (ss ++ [t.n.a, t.n.b]) ((Cs.put ((partZ es F (t.kid 0) (ss) (s))) ⟨19, 0, 0, 0⟩)))) ⟨13, 0, 0, 0⟩)) ⟨13, 0, 0, 0⟩)) ⟨11, 0, 0, 0⟩)) n2 0)))) n8 0)
   have R11 := hid (R10.out.trans Q11.out)
   have Tn2_11 := hid (Nat.lt_of_lt_of_le Tn2_10.out Q11.out.out)
   have Tn6_11 := hid (Nat.lt_of_lt_of_le Tn6_10.out Q11.out.out)
   have Tn7_11 := hid (Nat.lt_of_lt_of_le Tn7_10.out Q11.out.out)
   have Tn8_11 := hid (Nat.lt_of_lt_of_le Tn8_10.out Q11.out.out)
   have D4_11 : Hid (Cf X4 X11) := D4_10.out.trans g1
   clear h1 g1
   have hbx := (G11.out.block W.heap.size _ _ HA.out (by decide) (by decide) (by decide)).trans HA.out
   have e0 := z11 hbx 0
   have e1 := z11 hbx 1
   have e2 := z11 hbx 2
   have e3 := z11 hbx 3
   have e4 := z11 hbx 4
   have e5 := z11 hbx 5
   have d0 := S11.out.effs
   have d1 := S11.out.tree
   simp at e0 e1 e2 e3 e4 e5
   clear hbx
   go_wp2_with fail
   clear e0 e1 e2 e3 e4 e5 d0 d1
   go_end0
   have qn2 := H2.out
   subst qn2
   have qn8 := H8.out
   subst qn8
   exact ⟨⟨_, rfl⟩, S11.out, F0.out.trans G11.out⟩
 · have HQ : Hid (W.heap.size < D3.heap.size) := z26 ((G3.out.block W.heap.size _ _ HA.out (by decide) (by decide) (by decide)).trans HA.out)
   have hA1 : Below D3.heap.size D3 (D3.alloc (.cells #[.string t.n.a, .string t.n.b] 9)) := (Below.refl _ _).alloc (Nat.le_refl _) _
   have hS1 : (fun w' : World => w'.cell? ⟨Mb, 1, none⟩ = some (.slice (some ⟨b, off, none⟩) ns.length cap) ∧ w'.cell? ⟨W.heap.size, 2, none⟩ = some (.string t.n.a) ∧ w'.cell? ⟨W.heap.size, 3, none⟩ = some (.string t.n.b)) (D3.alloc (.cells #[.string t.n.a, .string t.n.b] 9)) := ⟨(hA1.cell (z70 S3.out)).trans hS.1, (hA1.cell HQ.out).trans hS.2.1, (hA1.cell HQ.out).trans hS.2.2⟩
   refine ⟨_, .slice (some ⟨D3.heap.size, 0, none⟩) 2 2, D3.alloc (.cells #[.string t.n.a, .string t.n.b] 9), rfl, rfl, by simp [go_sem], hS1, ?_⟩
   refine z15 (by simp [go_sem]; exact rfl) ?_
   refine z27 (i := 7) (f := 52) (args := #[.slice (some ⟨b, off, none⟩) ns.length cap, .int .i64 (t.at_ : Int), .int .i64 (2 : Int)]) rfl (by kernel_rfl) rfl rfl (by simp [go_sem]) ?_
   refine (z49 (cap := cap) 2 _ (z37 HX.out (S3.out.below hA1)) HX.out.tl HS.out (by have := HC.out; omega)).mono ?_
   rintro e Xk ⟨rfl, rfl⟩
   refine ⟨_, rfl, hS1, ?_⟩
   refine z15 (by simp [go_sem]; exact rfl) ?_
   refine z27 (i := 14) (f := 50) (args := #[.slice adn ss.length cpn, .slice (some ⟨D3.heap.size, 0, none⟩) 2 2]) rfl (by kernel_rfl) rfl rfl (by simp [go_sem]) ?_
   refine (z45 (ss := ss) (ms := [t.n.a, t.n.b]) _ ((N0.out.frame G3.out).names.below hA1) (z59 D3 [t.n.a, t.n.b]) (by have := HK.out; have := HZ.out; simp only [List.length_cons, List.length_nil]; omega)).mono ?_
   rintro e X4 ⟨u4, rfl, hu4, hb4⟩
   have B4 : Below D3.heap.size D3 X4 := hA1.trans (hb4.mono (by simp))
   have hS2 : (fun w' : World => w'.cell? ⟨Mb, 1, none⟩ = some (.slice (some ⟨b, off, none⟩) ns.length cap) ∧ w'.cell? ⟨W.heap.size, 2, none⟩ = some (.string t.n.a) ∧ w'.cell? ⟨W.heap.size, 3, none⟩ = some (.string t.n.b)) X4 := ⟨(B4.cell (z70 S3.out)).trans hS.1, (B4.cell HQ.out).trans hS.2.1, (B4.cell HQ.out).trans hS.2.2⟩
   have U4 := hid hu4
   have S4 := hid (S3.out.below B4)
   have G4 : Hid (Cf Y X4) := G3.out.trans (Cf.of_below B4)
   have R4 := R3
   have Tn2_4 := Tn2_3
   clear hu4 hb4 B4 hS hS1 hA1
   refine ⟨u4, rfl, hS2, ?_⟩
   refine z15 (by simp [go_sem]; exact rfl) ?_
   refine z27 (i := 15) (f := 26) (args := #[.pointer (some ⟨Mb, 0, none⟩), .int .i64 ((t.kid 2).at_ : Int), u4]) rfl (by kernel_rfl) rfl rfl (by simp [go_sem]) ?_
   refine (HIH.out (t.kid 2) (ss ++ [t.n.a, t.n.b]) ((Cs.put ((partZ es F (t.kid 0) (ss) (s))) ⟨19, 0, 0, 0⟩)) _ _ (by have := HZ.out; have := HK.out; omega) (HS.out.kid (by have := HC.out; omega)) (by have := HK.out; have := HZ.out; simp only [List.length_append, List.length_cons, List.length_nil]; omega) (by have r := R4.out.cost; have hb := HB.out; have hz := HZ.out; omega) S4.out (U4.out.frame (Cf.refl _))).mono ?_
   rintro e X5 ⟨⟨x5, rfl⟩, h1, g1⟩
   have S5 := hid h1
   have G5 : Hid (Cf Y X5) := G4.out.trans g1
   have Q5 := hid (part_r (ns := ns) (K := K) (es := es) F (t.kid 2) (ss ++ [t.n.a, t.n.b]) ((Cs.put ((partZ es F (t.kid 0) (ss) (s))) ⟨19, 0, 0, 0⟩)) (by have := HZ.out; have := HK.out; omega) (HS.out.kid (by have := HC.out; omega)) (by have := HK.out; have := HZ.out; simp only [List.length_append, List.length_cons, List.length_nil]; omega))
   have R5 := hid (R4.out.trans Q5.out)
   have Tn2_5 := hid (Nat.lt_of_lt_of_le Tn2_4.out Q5.out.out)
   have D4_5 : Hid (Cf X4 X5) := g1
   have hbx := (G5.out.block W.heap.size _ _ HA.out (by decide) (by decide) (by decide)).trans HA.out
   refine ⟨x5, rfl, ⟨S5.out.tree, z11 hbx 2, z11 hbx 3⟩, ?_⟩
   clear h1 g1 hbx hS2 HQ
   refine z15 (by simp [go_sem]; exact rfl) ?_
   refine z32 (by kernel_rfl) ?_
   have hbx := (G5.out.block W.heap.size _ _ HA.out (by decide) (by decide) (by decide)).trans HA.out
   have e0 := z11 hbx 0
   have e1 := z11 hbx 1
   have e2 := z11 hbx 2
   have e3 := z11 hbx 3
   have e4 := z11 hbx 4
   have e5 := z11 hbx 5
   have d0 := S5.out.effs
   have d1 := S5.out.tree
   simp at e0 e1 e2 e3 e4 e5
   clear hbx
   go_wp2_with fail
   clear e0 e1 e2 e3 e4 e5 d0 d1
   refine (z35 ⟨13, 0, 0, 0⟩ S5.out (by have r := R5.out.cost; have hb := HB.out; have hz := HZ.out; omega)).mono ?_
   rintro e X6 ⟨rfl, h1, g1⟩
   obtain ⟨n6, hn6⟩ : ∃ n, ((partZ es F (t.kid 2) (ss ++ [t.n.a, t.n.b]) ((Cs.put ((partZ es F (t.kid 0) (ss) (s))) ⟨19, 0, 0, 0⟩)))).out.length = n := ⟨_, rfl⟩
   rw [hn6]
   have H6 := hid hn6
   have tn : n6 < (Cs.put ((partZ es F (t.kid 2) (ss ++ [t.n.a, t.n.b]) ((Cs.put ((partZ es F (t.kid 0) (ss) (s))) ⟨19, 0, 0, 0⟩)))) ⟨13, 0, 0, 0⟩).out.length := by rw [← hn6]; simp [Cs.put]
   have S6 := hid h1
   have G6 : Hid (Cf Y X6) := G5.out.trans g1
   have Q6 := hid (Rs.put ns K ((partZ es F (t.kid 2) (ss ++ [t.n.a, t.n.b]) ((Cs.put ((partZ es F (t.kid 0) (ss) (s))) ⟨19, 0, 0, 0⟩)))) ⟨13, 0, 0, 0⟩)
   have R6 := hid (R5.out.trans Q6.out)
   have Tn2_6 := hid (Nat.lt_of_lt_of_le Tn2_5.out Q6.out.out)
   have D4_6 : Hid (Cf X4 X6) := D4_5.out.trans g1
   have Tn6_6 := hid tn
   clear h1 g1 hn6 tn
   have hbx := (G6.out.block W.heap.size _ _ HA.out (by decide) (by decide) (by decide)).trans HA.out
   have e0 := z11 hbx 0
   have e1 := z11 hbx 1
   have e2 := z11 hbx 2
   have e3 := z11 hbx 3
   have e4 := z11 hbx 4
   have e5 := z11 hbx 5
   have d0 := S6.out.effs
   have d1 := S6.out.tree
   simp at e0 e1 e2 e3 e4 e5
   clear hbx
   go_wp2_with fail
   clear e0 e1 e2 e3 e4 e5 d0 d1
   refine (z35 ⟨13, 0, 0, 0⟩ S6.out (by have r := R6.out.cost; have hb := HB.out; have hz := HZ.out; omega)).mono ?_
   rintro e X7 ⟨rfl, h1, g1⟩
   obtain ⟨n7, hn7⟩ : ∃ n, ((Cs.put ((partZ es F (t.kid 2) (ss ++ [t.n.a, t.n.b]) ((Cs.put ((partZ es F (t.kid 0) (ss) (s))) ⟨19, 0, 0, 0⟩)))) ⟨13, 0, 0, 0⟩)).out.length = n := ⟨_, rfl⟩
   rw [hn7]
   have H7 := hid hn7
   have tn : n7 < (Cs.put ((Cs.put ((partZ es F (t.kid 2) (ss ++ [t.n.a, t.n.b]) ((Cs.put ((partZ es F (t.kid 0) (ss) (s))) ⟨19, 0, 0, 0⟩)))) ⟨13, 0, 0, 0⟩)) ⟨13, 0, 0, 0⟩).out.length := by rw [← hn7]; simp [Cs.put]
   have S7 := hid h1
   have G7 : Hid (Cf Y X7) := G6.out.trans g1
   have Q7 := hid (Rs.put ns K ((Cs.put ((partZ es F (t.kid 2) (ss ++ [t.n.a, t.n.b]) ((Cs.put ((partZ es F (t.kid 0) (ss) (s))) ⟨19, 0, 0, 0⟩)))) ⟨13, 0, 0, 0⟩)) ⟨13, 0, 0, 0⟩)
   have R7 := hid (R6.out.trans Q7.out)
   have Tn2_7 := hid (Nat.lt_of_lt_of_le Tn2_6.out Q7.out.out)
   have Tn6_7 := hid (Nat.lt_of_lt_of_le Tn6_6.out Q7.out.out)
   have D4_7 : Hid (Cf X4 X7) := D4_6.out.trans g1
   have Tn7_7 := hid tn
   clear h1 g1 hn7 tn
   have hbx := (G7.out.block W.heap.size _ _ HA.out (by decide) (by decide) (by decide)).trans HA.out
   have e0 := z11 hbx 0
   have e1 := z11 hbx 1
   have e2 := z11 hbx 2
   have e3 := z11 hbx 3
   have e4 := z11 hbx 4
   have e5 := z11 hbx 5
   have d0 := S7.out.effs
   have d1 := S7.out.tree
   simp at e0 e1 e2 e3 e4 e5
   clear hbx
   go_wp2_with fail
   clear e0 e1 e2 e3 e4 e5 d0 d1
   refine (z35 ⟨11, 0, 0, 0⟩ S7.out (by have r := R7.out.cost; have hb := HB.out; have hz := HZ.out; omega)).mono ?_
   rintro e X8 ⟨rfl, h1, g1⟩
   obtain ⟨n8, hn8⟩ : ∃ n, ((Cs.put ((Cs.put ((partZ es F (t.kid 2) (ss ++ [t.n.a, t.n.b]) ((Cs.put ((partZ es F (t.kid 0) (ss) (s))) ⟨19, 0, 0, 0⟩)))) ⟨13, 0, 0, 0⟩)) ⟨13, 0, 0, 0⟩)).out.length = n := ⟨_, rfl⟩
   rw [hn8]
   have H8 := hid hn8
   have tn : n8 < (Cs.put ((Cs.put ((Cs.put ((partZ es F (t.kid 2) (ss ++ [t.n.a, t.n.b]) ((Cs.put ((partZ es F (t.kid 0) (ss) (s))) ⟨19, 0, 0, 0⟩)))) ⟨13, 0, 0, 0⟩)) ⟨13, 0, 0, 0⟩)) ⟨11, 0, 0, 0⟩).out.length := by rw [← hn8]; simp [Cs.put]
   have S8 := hid h1
   have G8 : Hid (Cf Y X8) := G7.out.trans g1
   have Q8 := hid (Rs.put ns K ((Cs.put ((Cs.put ((partZ es F (t.kid 2) (ss ++ [t.n.a, t.n.b]) ((Cs.put ((partZ es F (t.kid 0) (ss) (s))) ⟨19, 0, 0, 0⟩)))) ⟨13, 0, 0, 0⟩)) ⟨13, 0, 0, 0⟩)) ⟨11, 0, 0, 0⟩)
   have R8 := hid (R7.out.trans Q8.out)
   have Tn2_8 := hid (Nat.lt_of_lt_of_le Tn2_7.out Q8.out.out)
   have Tn6_8 := hid (Nat.lt_of_lt_of_le Tn6_7.out Q8.out.out)
   have Tn7_8 := hid (Nat.lt_of_lt_of_le Tn7_7.out Q8.out.out)
   have D4_8 : Hid (Cf X4 X8) := D4_7.out.trans g1
   have Tn8_8 := hid tn
   clear h1 g1 hn8 tn
   have hbx := (G8.out.block W.heap.size _ _ HA.out (by decide) (by decide) (by decide)).trans HA.out
   have e0 := z11 hbx 0
   have e1 := z11 hbx 1
   have e2 := z11 hbx 2
   have e3 := z11 hbx 3
   have e4 := z11 hbx 4
   have e5 := z11 hbx 5
   have d0 := S8.out.effs
   have d1 := S8.out.tree
   simp at e0 e1 e2 e3 e4 e5
   clear hbx
   go_wp2_with fail
   clear e0 e1 e2 e3 e4 e5 d0 d1
   refine (z66 n2 0 S8.out (by have r := R8.out.cost; have hb := HB.out; have hz := HZ.out; omega) Tn2_8.out (by decide)).mono ?_
   rintro e X9 ⟨⟨x9, rfl⟩, h1, g1⟩
   have S9 := hid h1
   have G9 : Hid (Cf Y X9) := G8.out.trans g1
   have Q9 := hid (Rs.lead ns K ((Cs.put ((Cs.put ((Cs.put ((partZ es F (t.kid 2) (ss ++ [t.n.a, t.n.b]) ((Cs.put ((partZ es F (t.kid 0) (ss) (s))) ⟨19, 0, 0, 0⟩)))) ⟨13, 0, 0, 0⟩)) ⟨13, 0, 0, 0⟩)) ⟨11, 0, 0, 0⟩)) n2 0)
   have R9 := hid (R8.out.trans Q9.out)
   have Tn2_9 := hid (Nat.lt_of_lt_of_le Tn2_8.out Q9.out.out)
   have Tn6_9 := hid (Nat.lt_of_lt_of_le Tn6_8.out Q9.out.out)
   have Tn7_9 := hid (Nat.lt_of_lt_of_le Tn7_8.out Q9.out.out)
   have Tn8_9 := hid (Nat.lt_of_lt_of_le Tn8_8.out Q9.out.out)
   have D4_9 : Hid (Cf X4 X9) := D4_8.out.trans g1
   clear h1 g1
   have hbx := (G9.out.block W.heap.size _ _ HA.out (by decide) (by decide) (by decide)).trans HA.out
   have e0 := z11 hbx 0
   have e1 := z11 hbx 1
   have e2 := z11 hbx 2
   have e3 := z11 hbx 3
   have e4 := z11 hbx 4
   have e5 := z11 hbx 5
   have d0 := S9.out.effs
   have d1 := S9.out.tree
   simp at e0 e1 e2 e3 e4 e5
   clear hbx
   go_wp2_with fail
   clear e0 e1 e2 e3 e4 e5 d0 d1
   refine (z49 (cap := cap) 1 X9 (z37 HX.out S9.out) HX.out.tl HS.out (by have := HC.out; omega)).mono ?_
   rintro e Xk ⟨rfl, rfl⟩
   have hbx := (G9.out.block W.heap.size _ _ HA.out (by decide) (by decide) (by decide)).trans HA.out
   have e0 := z11 hbx 0
   have e1 := z11 hbx 1
   have e2 := z11 hbx 2
   have e3 := z11 hbx 3
   have e4 := z11 hbx 4
   have e5 := z11 hbx 5
   have d0 := S9.out.effs
   have d1 := S9.out.tree
   simp at e0 e1 e2 e3 e4 e5
   clear hbx
   go_wp2_with fail
   clear e0 e1 e2 e3 e4 e5 d0 d1
   refine (HIH.out (t.kid 1) (ss) ((Cs.lead ((Cs.put ((Cs.put ((Cs.put ((partZ es F (t.kid 2) (ss ++ [t.n.a, t.n.b]) ((Cs.put ((partZ es F (t.kid 0) (ss) (s))) ⟨19, 0, 0, 0⟩)))) ⟨13, 0, 0, 0⟩)) ⟨13, 0, 0, 0⟩)) ⟨11, 0, 0, 0⟩)) n2 0)) _ _ (by have := HZ.out; have := HK.out; omega) (HS.out.kid (by have := HC.out; omega)) (by have := HK.out; have := HZ.out; (try simp only [List.length_append, List.length_cons, List.length_nil]); omega) (by have r := R9.out.cost; have hb := HB.out; have hz := HZ.out; omega) S9.out (N0.out.frame G9.out)).mono ?_
   rintro e X10 ⟨⟨x10, rfl⟩, h1, g1⟩
   have S10 := hid h1
   have G10 : Hid (Cf Y X10) := G9.out.trans g1
   have Q10 := hid (part_r (ns := ns) (K := K) (es := es) F (t.kid 1) (ss) ((Cs.lead ((Cs.put ((Cs.put ((Cs.put ((partZ es F (t.kid 2) (ss ++ [t.n.a, t.n.b]) ((Cs.put ((partZ es F (t.kid 0) (ss) (s))) ⟨19, 0, 0, 0⟩)))) ⟨13, 0, 0, 0⟩)) ⟨13, 0, 0, 0⟩)) ⟨11, 0, 0, 0⟩)) n2 0)) (by have := HZ.out; have := HK.out; omega) (HS.out.kid (by have := HC.out; omega)) (by have := HK.out; have := HZ.out; (try simp only [List.length_append, List.length_cons, List.length_nil]); omega))
   have R10 := hid (R9.out.trans Q10.out)
   have Tn2_10 := hid (Nat.lt_of_lt_of_le Tn2_9.out Q10.out.out)
   have Tn6_10 := hid (Nat.lt_of_lt_of_le Tn6_9.out Q10.out.out)
   have Tn7_10 := hid (Nat.lt_of_lt_of_le Tn7_9.out Q10.out.out)
   have Tn8_10 := hid (Nat.lt_of_lt_of_le Tn8_9.out Q10.out.out)
   have D4_10 : Hid (Cf X4 X10) := D4_9.out.trans g1
   clear h1 g1
   have hbx := (G10.out.block W.heap.size _ _ HA.out (by decide) (by decide) (by decide)).trans HA.out
   have e0 := z11 hbx 0
   have e1 := z11 hbx 1
   have e2 := z11 hbx 2
   have e3 := z11 hbx 3
   have e4 := z11 hbx 4
   have e5 := z11 hbx 5
   have d0 := S10.out.effs
   have d1 := S10.out.tree
   simp at e0 e1 e2 e3 e4 e5
   clear hbx
   go_wp2_with fail
   clear e0 e1 e2 e3 e4 e5 d0 d1
   refine (z66 n8 0 S10.out (by have r := R10.out.cost; have hb := HB.out; have hz := HZ.out; omega) Tn8_10.out (by decide)).mono ?_
   rintro e X11 ⟨⟨x11, rfl⟩, h1, g1⟩
   have S11 := hid h1
   have G11 : Hid (Cf Y X11) := G10.out.trans g1
   have Q11 := hid (Rs.lead ns K ((partZ es F (t.kid 1) (ss) ((Cs.lead ((Cs.put ((Cs.put ((Cs.put ((partZ es F (t.kid 2) (ss ++ [t.n.a, t.n.b]) ((Cs.put ((partZ es F (t.kid 0) (ss) (s))) ⟨19, 0, 0, 0⟩)))) ⟨13, 0, 0, 0⟩)) ⟨13, 0, 0, 0⟩)) ⟨11, 0, 0, 0⟩)) n2 0)))) n8 0)
   have R11 := hid (R10.out.trans Q11.out)
   have Tn2_11 := hid (Nat.lt_of_lt_of_le Tn2_10.out Q11.out.out)
   have Tn6_11 := hid (Nat.lt_of_lt_of_le Tn6_10.out Q11.out.out)
   have Tn7_11 := hid (Nat.lt_of_lt_of_le Tn7_10.out Q11.out.out)
   have Tn8_11 := hid (Nat.lt_of_lt_of_le Tn8_10.out Q11.out.out)
   have D4_11 : Hid (Cf X4 X11) := D4_10.out.trans g1
   clear h1 g1
   have hbx := (G11.out.block W.heap.size _ _ HA.out (by decide) (by decide) (by decide)).trans HA.out
   have e0 := z11 hbx 0
   have e1 := z11 hbx 1
   have e2 := z11 hbx 2
   have e3 := z11 hbx 3
   have e4 := z11 hbx 4
   have e5 := z11 hbx 5
   have d0 := S11.out.effs
   have d1 := S11.out.tree
   simp at e0 e1 e2 e3 e4 e5
   clear hbx
   go_wp2_with fail
   clear e0 e1 e2 e3 e4 e5 d0 d1
   go_end0
   have qn2 := H2.out
   subst qn2
   have qn8 := H8.out
   subst qn8
   exact ⟨⟨_, rfl⟩, S11.out, F0.out.trans G11.out⟩

end
end
section
open Go.RowKit Go.Deep

section
variable {W0 : World} {Mb : Nat} {ae : Option Addr} {ce b off cap : Nat} {es : List Ef} {ns : List Nd}
set_option maxHeartbeats 4000000 in
set_option maxRecDepth 100000 in
theorem last_calls (cx : Cx W0 Mb ae b off es ns) (n : Nd) {s : Cs} {W : World} (hB : s.out.length ≤ 950000) (h : CmE W0 Mb (.slice ae es.length ce) (.slice (some ⟨b, off, none⟩) ns.length cap) s W) :
   Calls Tryz.prog 54 #[.pointer (some ⟨Mb, 0, none⟩), .agg #[.int .i64 n.kind, .int .i64 n.num, .string n.a, .string n.b, .string n.c, .int .i64 n.kids]] W (LeadPost W0 Mb (.slice ae es.length ce) (.slice (some ⟨b, off, none⟩) ns.length cap) (s.put (lastZ es n)) W) := by
 obtain ⟨kd, num, a, bb, cc, kids⟩ := n
 dsimp only
 have hA := (MapKept.heap_alloc W (.cells #[.int .i64 kd, .int .i64 num, .string a, .string bb, .string cc, .int .i64 kids] 116)).1
 have hB1 := (Below.refl W.heap.size W).alloc (Nat.le_refl _) (.cells #[.int .i64 kd, .int .i64 num, .string a, .string bb, .string cc, .int .i64 kids] 116)
 obtain ⟨Y, hY⟩ : ∃ Y, W.alloc (.cells #[.int .i64 kd, .int .i64 num, .string a, .string bb, .string cc, .int .i64 kids] 116) = Y := ⟨_, rfl⟩
 rw [hY] at hA hB1
 have HY := hid hY
 have HA := hid hA
 have S0 := hid (h.below hB1)
 have F0 := hid (Cf.of_below hB1)
 have HX := hid cx
 have HB := hid hB
 have e0 := z11 HA.out 0
 have e2 := z11 HA.out 2
 simp at e0 e2
 have d0 := S0.out.effs
 obtain ⟨LZ, hLZ⟩ : ∃ LZ, lastZ es ⟨kd, num, a, bb, cc, kids⟩ = LZ := ⟨_, rfl⟩
 rw [hLZ]
 unfold lastZ at hLZ
 dsimp only at hLZ
 clear hA hB1 hY h cx hB
 go_enter Tryz.func54, Tryz.ntmps54
 go_upto_region 1 with fail
 rw [HY.out]
 clear HY
 by_cases k7 : kd = 7
 · rw [if_pos k7] at hLZ
   subst hLZ
   subst k7
   go_wp2_with fail
   refine (z35 ⟨8, 0, 0, 0⟩ S0.out (by have := HB.out; omega)).mono ?_
   rintro e X1 ⟨rfl, h1, g1⟩
   obtain ⟨n1, hn1⟩ : ∃ n, s.out.length = n := ⟨_, rfl⟩
   rw [hn1]
   have S1 := hid h1
   have G1 := hid g1
   clear h1 g1 hn1
   go_wp2_with fail
   go_end0
   exact ⟨⟨_, rfl⟩, S1.out, F0.out.trans G1.out⟩
 rw [if_neg k7] at hLZ
 have z7 : (kd == 7) = false := by simp [k7]
 by_cases k16 : kd = 16
 · rw [if_pos k16] at hLZ
   subst hLZ
   subst k16
   go_wp2_with fail
   refine (z35 ⟨15, 0, 0, 0⟩ S0.out (by have := HB.out; omega)).mono ?_
   rintro e X1 ⟨rfl, h1, g1⟩
   obtain ⟨n1, hn1⟩ : ∃ n, s.out.length = n := ⟨_, rfl⟩
   rw [hn1]
   have S1 := hid h1
   have G1 := hid g1
   clear h1 g1 hn1
   go_wp2_with fail
   go_end0
   exact ⟨⟨_, rfl⟩, S1.out, F0.out.trans G1.out⟩
 rw [if_neg k16] at hLZ
 have z16 : (kd == 16) = false := by simp [k16]
 by_cases k17 : kd = 17
 · rw [if_pos k17] at hLZ
   subst hLZ
   subst k17
   go_wp2_with fail
   refine (z35 ⟨16, 0, 0, 0⟩ S0.out (by have := HB.out; omega)).mono ?_
   rintro e X1 ⟨rfl, h1, g1⟩
   obtain ⟨n1, hn1⟩ : ∃ n, s.out.length = n := ⟨_, rfl⟩
   rw [hn1]
   have S1 := hid h1
   have G1 := hid g1
   clear h1 g1 hn1
   go_wp2_with fail
   go_end0
   exact ⟨⟨_, rfl⟩, S1.out, F0.out.trans G1.out⟩
 rw [if_neg k17] at hLZ
 have z17 : (kd == 17) = false := by simp [k17]
 by_cases k18 : kd = 18
 · rw [if_pos k18] at hLZ
   subst hLZ
   subst k18
   go_wp2_with fail
   refine (z35 ⟨17, 0, 0, 0⟩ S0.out (by have := HB.out; omega)).mono ?_
   rintro e X1 ⟨rfl, h1, g1⟩
   obtain ⟨n1, hn1⟩ : ∃ n, s.out.length = n := ⟨_, rfl⟩
   rw [hn1]
   have S1 := hid h1
   have G1 := hid g1
   clear h1 g1 hn1
   go_wp2_with fail
   go_end0
   exact ⟨⟨_, rfl⟩, S1.out, F0.out.trans G1.out⟩
 rw [if_neg k18] at hLZ
 have z18 : (kd == 18) = false := by simp [k18]
 by_cases k19 : kd = 19
 · rw [if_pos k19] at hLZ
   subst hLZ
   subst k19
   go_wp2_with fail
   refine (z35 ⟨18, 0, 0, 0⟩ S0.out (by have := HB.out; omega)).mono ?_
   rintro e X1 ⟨rfl, h1, g1⟩
   obtain ⟨n1, hn1⟩ : ∃ n, s.out.length = n := ⟨_, rfl⟩
   rw [hn1]
   have S1 := hid h1
   have G1 := hid g1
   clear h1 g1 hn1
   go_wp2_with fail
   go_end0
   exact ⟨⟨_, rfl⟩, S1.out, F0.out.trans G1.out⟩
 rw [if_neg k19] at hLZ
 have z19 : (kd == 19) = false := by simp [k19]
 by_cases k21 : kd = 21
 · rw [if_pos k21] at hLZ
   subst hLZ
   subst k21
   go_wp2_with fail
   refine (z35 ⟨20, 0, 0, 0⟩ S0.out (by have := HB.out; omega)).mono ?_
   rintro e X1 ⟨rfl, h1, g1⟩
   obtain ⟨n1, hn1⟩ : ∃ n, s.out.length = n := ⟨_, rfl⟩
   rw [hn1]
   have S1 := hid h1
   have G1 := hid g1
   clear h1 g1 hn1
   go_wp2_with fail
   go_end0
   exact ⟨⟨_, rfl⟩, S1.out, F0.out.trans G1.out⟩
 rw [if_neg k21] at hLZ
 have z21 : (kd == 21) = false := by simp [k21]
 by_cases k22 : kd = 22
 · rw [if_pos k22] at hLZ
   subst hLZ
   subst k22
   go_upto_region 16 with fail
   have hD : Below Y.heap.size Y Y.drew := (Below.refl _ _).drew
   obtain ⟨D, hDe⟩ : ∃ D, Y.drew = D := ⟨_, rfl⟩
   rw [hDe] at hD
   have S1 := hid (S0.out.below hD)
   have G1 := hid (Cf.of_below hD)
   have hS : (fun w' : World => w'.cell? ⟨Mb, 0, none⟩ = some (.slice ae es.length ce) ∧ w'.cell? ⟨W.heap.size, 2, none⟩ = some (.string a)) D := ⟨S1.out.effs, by rw [← hDe]; exact e2⟩
   refine z33 (S := fun w' => w'.cell? ⟨Mb, 0, none⟩ = some (.slice ae es.length ce) ∧ w'.cell? ⟨W.heap.size, 2, none⟩ = some (.string a)) (by kernel_rfl) rfl rfl ?_
   rw [hDe]
   clear hDe hD e0 e2 d0
   refine pick_o 0 (.pointer (some ⟨Mb, 0, none⟩)) hS ?_
   refine pick_o 1 (.pointer (some ⟨Mb, 0, none⟩)) hS ?_
   refine pick_o 2 (.pointer (some ⟨Mb, 0, none⟩)) hS ?_
   refine pick_o 3 (.pointer (some ⟨Mb, 0, none⟩)) hS ?_
   refine pick_o 4 (.pointer (some ⟨Mb, 0, none⟩)) hS ?_
   refine pick_o (hy := fun w' h => by simp [go_sem, h.1]) 5 (.slice ae es.length ce) hS ?_
   refine pick_o 6 (.pointer (some ⟨W.heap.size, 2, none⟩)) hS ?_
   refine pick_o (hy := fun w' h => by simp [go_sem, h.2]) 7 (.string a) hS ?_
   refine z27 (i := 8) (f := 46) (args := #[.slice ae es.length ce, .string a]) rfl (by kernel_rfl) rfl rfl (by simp [go_sem]) ?_
   refine (l2Eff_calls ae ce es a D (by have := HX.out.el; omega) (cx_effs HX.out S1.out)).mono ?_
   rintro e Xk ⟨rfl, rfl⟩
   refine ⟨_, rfl, hS, ?_⟩
   refine z15 (by simp [go_sem]; exact rfl) ?_
   refine pick_o 9 (.agg #[.int .i64 22, .int .i64 (effPlace es a 0), .int .i64 0, .int .i64 0]) hS ?_
   refine z27 (i := 10) (f := 27) (args := #[.pointer (some ⟨Mb, 0, none⟩), .agg #[.int .i64 22, .int .i64 (effPlace es a 0), .int .i64 0, .int .i64 0]]) rfl (by kernel_rfl) rfl rfl (by simp [go_sem]) ?_
   refine (z35 ⟨22, effPlace es a 0, 0, 0⟩ S1.out (by have := HB.out; omega)).mono ?_
   rintro e X1 ⟨rfl, h1, g1⟩
   obtain ⟨n1, hn1⟩ : ∃ n, s.out.length = n := ⟨_, rfl⟩
   rw [hn1]
   have S2 := hid h1
   have G2 := hid (G1.out.trans g1)
   clear h1 g1 hn1
   have hbx := (G2.out.block W.heap.size _ _ HA.out (by decide) (by decide) (by decide)).trans HA.out
   refine ⟨_, rfl, ⟨S2.out.effs, z11 hbx 2⟩, ?_⟩
   clear hbx hS
   refine z15 (by simp [go_sem]; exact rfl) ?_
   refine z32 (by kernel_rfl) ?_
   go_wp2_with fail
   go_end0
   exact ⟨⟨_, rfl⟩, S2.out, F0.out.trans G2.out⟩
 rw [if_neg k22] at hLZ
 have z22 : (kd == 22) = false := by simp [k22]
 subst hLZ
 go_wp2_with fail
 refine (z35 ⟨14, kd, 0, 0⟩ S0.out (by have := HB.out; omega)).mono ?_
 rintro e X1 ⟨rfl, h1, g1⟩
 obtain ⟨n1, hn1⟩ : ∃ n, s.out.length = n := ⟨_, rfl⟩
 rw [hn1]
 have S1 := hid h1
 have G1 := hid g1
 clear h1 g1 hn1
 go_wp2_with fail
 go_end0
 exact ⟨⟨_, rfl⟩, S1.out, F0.out.trans G1.out⟩
end
end
section
open Go.RowKit Go.Deep
set_option maxRecDepth 100000 in
theorem one_calls (x : Bool) (W : World) : Calls Tryz.prog 82 #[.bool x] W fun e W' => e = .returned (.int .i64 (if x = true then 1 else 0)) ∧ W = W' := by
 cases x with
 | true =>
   go_enter Tryz.func82, Tryz.ntmps82
   go_wp2_with fail
   go_ret
   exact ⟨rfl, rfl⟩
 | false =>
   go_enter Tryz.func82, Tryz.ntmps82
   go_wp2_with fail
   go_ret
   exact ⟨rfl, rfl⟩
theorem take_next {l : List Tp} {j : Nat} (h : j < l.length) : l.take (j + 1) = l.take j ++ [l.getD j default] := by
 rw [List.take_add_one]
 simp [List.getD, h]
theorem sum_take (l : List Tp) (j : Nat) : ((l.take j).map Tp.size).sum ≤ (l.map Tp.size).sum := by
 have := congrArg (fun l => (List.map Tp.size l).sum) (List.take_append_drop j l)
 simp only [List.map_append, List.sum_append] at this
 omega
theorem sum_next {l : List Tp} {j : Nat} (h : j < l.length) : ((l.take j).map Tp.size).sum + (l.getD j default).size ≤ (l.map Tp.size).sum := by
 have h1 := sum_take l (j + 1)
 rw [take_next h] at h1
 simp only [List.map_append, List.sum_append, List.map_cons, List.map_nil, List.sum_cons, List.sum_nil] at h1
 omega

section
variable {W0 : World} {Mb : Nat} {ae : Option Addr} {ce b off cap : Nat} {es : List Ef} {ns : List Nd} {K F : Nat}
set_option maxHeartbeats 4000000 in
set_option maxRecDepth 100000 in
theorem part_k (cx : Cx W0 Mb ae b off es ns) (hk1 : K ≤ 1000) (ih : PartC W0 Mb ae ce b off cap es ns K F) {t : Tp} {ss : List ByteArray} {s : Cs} {v : Value} {W : World} (hF : t.size ≤ F + 1) (hs : Stands ns t) (hK : ss.length + 2 * t.size ≤ K) (hB : s.out.length + 10 * s.rest + 10 * t.size ≤ 950000) (h : CmE W0 Mb (.slice ae es.length ce) (.slice (some ⟨b, off, none⟩) ns.length cap) s W) (hv : NmT W v ss) (ek : t.n.kind ≠ 1 ∧ t.n.kind ≠ 2 ∧ t.n.kind ≠ 3 ∧ t.n.kind ≠ 4 ∧ t.n.kind ≠ 5 ∧ t.n.kind ≠ 6 ∧ t.n.kind ≠ 8 ∧ t.n.kind ≠ 9 ∧ t.n.kind ≠ 10 ∧ t.n.kind ≠ 20 ∧ t.n.kind ≠ 23 ∧ t.n.kind ≠ 24) :
   Calls Tryz.prog 26 #[.pointer (some ⟨Mb, 0, none⟩), .int .i64 (t.at_ : Int), v] W (LeadPost W0 Mb (.slice ae es.length ce) (.slice (some ⟨b, off, none⟩) ns.length cap) ((t.kids.foldl (fun s c => partZ es F c ss s) s).put (lastZ es t.n)) W) := by
 obtain ⟨adn, cpn, rfl⟩ := hv.is
 have hnc := z37 cx h
 obtain ⟨hlt, hat, hsz⟩ := hs.lt
 have c0 := hnc t.at_ hlt 0 (by omega)
 have c1 := hnc t.at_ hlt 1 (by omega)
 have c2 := hnc t.at_ hlt 2 (by omega)
 have c3 := hnc t.at_ hlt 3 (by omega)
 have c4 := hnc t.at_ hlt 4 (by omega)
 have c5 := hnc t.at_ hlt 5 (by omega)
 rw [hat] at c0 c1 c2 c3 c4 c5
 simp only [Nd.cell, Nat.add_zero] at c0 c1 c2 c3 c4 c5
 have d1 := h.tree
 have hA := (MapKept.heap_alloc W (.cells #[.int .i64 t.n.kind, .int .i64 t.n.num, .string t.n.a, .string t.n.b, .string t.n.c, .int .i64 t.n.kids] 116)).1
 have hB1 := (Below.refl W.heap.size W).alloc (Nat.le_refl _) (.cells #[.int .i64 t.n.kind, .int .i64 t.n.num, .string t.n.a, .string t.n.b, .string t.n.c, .int .i64 t.n.kids] 116)
 obtain ⟨Y, hY⟩ : ∃ Y, W.alloc (.cells #[.int .i64 t.n.kind, .int .i64 t.n.num, .string t.n.a, .string t.n.b, .string t.n.c, .int .i64 t.n.kids] 116) = Y := ⟨_, rfl⟩
 rw [hY] at hA hB1
 have HY := hid hY
 have HA := hid hA
 have S0 := hid (h.below hB1)
 have F0 := hid (Cf.of_below hB1)
 have N0 := hid (hv.frame (Cf.of_below hB1))
 have G0 := hid (Cf.refl Y)
 have R0 := hid (Rs.refl ns K s)
 have hgood := hs.toGood
 have HC : Hid ((t.n.kids = (t.k.count : Int)) ∧ t.k.count ≤ 1000) := ⟨hs.kids, by have h1 := Fo.count_le t.k; have h2 := cx.tl; unfold Tp.size at hsz; omega⟩
 have HZ : Hid ((t.kids.map Tp.size).sum + 1 = t.size) := t.kids_sum
 have hp0 : (0 : Int) ≤ (t.at_ : Int) := by omega
 have hpl : (t.at_ : Int) < (ns.length : Int) := by omega
 have HP1 : Hid (0 < t.k.count → wrap64 ((t.at_ : Int) + 1) = ((t.kid 0).at_ : Int)) := fun h0 => by rw [hs.first h0]; have := cx.tl; unfold wrap64; omega
 have HX := hid cx
 have HIH := hid ih
 have HS := hid hs
 have HK := hid (And.intro hK (And.intro hF hk1))
 have HB := hid hB
 clear hA hB1 hY h hv hnc hlt hat hsz hgood cx ih hs hK hF hB hk1
 go_enter Tryz.func26, Tryz.ntmps26
 go_upto_region 1 with fail
 rw [HY.out]
 clear HY c0 c1 c2 c3 c4 c5 d1
 obtain ⟨kd, hkd⟩ : ∃ kd, t.n.kind = kd := ⟨_, rfl⟩
 obtain ⟨kc, hkc⟩ : ∃ kc : Nat, t.k.count = kc := ⟨_, rfl⟩
 have hkk : t.n.kids = (kc : Int) := by rw [← hkc]; exact HC.out.1
 have HKc := hid hkc
 have HKd := hid hkd
 rw [hkd] at ek HA
 rw [hkk] at HA
 obtain ⟨k1, k2, k3, k4, k5, k6, k8, k9, k10, k20, k23, k24⟩ := ek
 have z1 : (kd == 1) = false := by simp [k1]
 have z2 : (kd == 2) = false := by simp [k2]
 have z3 : (kd == 3) = false := by simp [k3]
 have z4 : (kd == 4) = false := by simp [k4]
 have z5 : (kd == 5) = false := by simp [k5]
 have z6 : (kd == 6) = false := by simp [k6]
 have z8 : (kd == 8) = false := by simp [k8]
 have z9 : (kd == 9) = false := by simp [k9]
 have z10 : (kd == 10) = false := by simp [k10]
 have z20 : (kd == 20) = false := by simp [k20]
 have z23 : (kd == 23) = false := by simp [k23]
 have z24 : (kd == 24) = false := by simp [k24]
 clear hkd hkc k1 k2 k3 k4 k5 k6 k8 k9 k10 k20 k23 k24
 have hbx := (G0.out.block W.heap.size _ _ HA.out (by decide) (by decide) (by decide)).trans HA.out
 have e0 := z11 hbx 0
 have e1 := z11 hbx 1
 have e2 := z11 hbx 2
 have e3 := z11 hbx 3
 have e4 := z11 hbx 4
 have e5 := z11 hbx 5
 have d0 := S0.out.effs
 have d1 := S0.out.tree
 simp at e0 e1 e2 e3 e4 e5
 clear hbx
 try rw [HKd.out]
 try rw [hkk]
 go_wp2_with fail
 clear e0 e1 e2 e3 e4 e5 d0 d1
 go_loopw [11] (fun i wr => ∃ j : Nat, i = .int .i64 (j : Int) ∧ j ≤ kc ∧ Hid (CmE W0 Mb (.slice ae es.length ce) (.slice (some ⟨b, off, none⟩) ns.length cap) ((t.kids.take j).foldl (fun s c => partZ es F c ss s) s) wr ∧ Cf Y wr ∧ Rs ns K (10 * ((t.kids.take j).map Tp.size).sum) (((t.kids.take j).map Tp.size).sum) s ((t.kids.take j).foldl (fun s c => partZ es F c ss s) s))) (fun i _ => kc - (intOf i).toNat)
 case atStart => exact ⟨0, rfl, Nat.zero_le _, S0.out, G0.out, Rs.refl ns K s⟩
 case round =>
   obtain ⟨j, rfl, hj, HI⟩ := hrel
   have hbx := (HI.out.2.1.block W.heap.size _ _ HA.out (by decide) (by decide) (by decide)).trans HA.out
   have e0 := z11 hbx 0
   have e1 := z11 hbx 1
   have e2 := z11 hbx 2
   have e3 := z11 hbx 3
   have e4 := z11 hbx 4
   have e5 := z11 hbx 5
   have d1 := HI.out.1.tree
   simp at e0 e1 e2 e3 e4 e5
   clear hbx
   by_cases hjc : (j : Int) < (kc : Int)
   · have hjl : j < t.kids.length := by rw [t.kids_len, HKc.out]; omega
     have HN := hid (And.intro (sum_next hjl) (And.intro (take_next hjl) hjl))
     have hstep : kc - (intOf (.int .i64 ((j + 1 : Nat) : Int))).toNat < kc - (intOf (.int .i64 (j : Int))).toNat := by simp only [intOf, Int.toNat_natCast]; omega
     clear hjl
     go_wp2_with fail
     refine (z49 (cap := cap) j wr (z37 HX.out HI.out.1) HX.out.tl HS.out (by have := HKc.out; omega)).mono ?_
     rintro e Xk ⟨rfl, rfl⟩
     clear e0 e1 e2 e3 e4 e5
     go_wp2_with fail
     have HG : Hid (t.kids.getD j default = t.kid j) := rfl
     refine (HIH.out (t.kid j) ss _ _ _ (by have := HN.out.1; have := HZ.out; have := HK.out; rw [HG.out] at *; omega) (HS.out.kid (by have := HKc.out; omega)) (by have := HN.out.1; have := HZ.out; have := HK.out; rw [HG.out] at *; omega) (by have h1 := HN.out.1; have := HZ.out; have := HB.out; have := HI.out.2.2.cost; rw [HG.out] at h1; omega) HI.out.1 (N0.out.frame HI.out.2.1)).mono ?_
     rintro e X2 ⟨⟨x2, rfl⟩, h2, g2⟩
     have HI2 : Hid (CmE W0 Mb (.slice ae es.length ce) (.slice (some ⟨b, off, none⟩) ns.length cap) ((t.kids.take (j + 1)).foldl (fun s c => partZ es F c ss s) s) X2 ∧ Cf Y X2 ∧ Rs ns K (10 * ((t.kids.take (j + 1)).map Tp.size).sum) (((t.kids.take (j + 1)).map Tp.size).sum) s ((t.kids.take (j + 1)).foldl (fun s c => partZ es F c ss s) s)) := by
       have hr := part_r (ns := ns) (K := K) (es := es) F (t.kid j) ss ((t.kids.take j).foldl (fun s c => partZ es F c ss s) s) (by have := HN.out.1; have := HZ.out; have := HK.out; rw [HG.out] at *; omega) (HS.out.kid (by have := HKc.out; omega)) (by have := HN.out.1; have := HZ.out; have := HK.out; rw [HG.out] at *; omega)
       rw [HN.out.2.1, List.foldl_append]
       refine ⟨h2, HI.out.2.1.trans g2, (HI.out.2.2.trans hr).mono ?_ ?_⟩
       · simp only [List.map_append, List.sum_append, List.map_cons, List.map_nil, List.sum_cons, List.sum_nil, HG.out]
         omega
       · simp only [List.map_append, List.sum_append, List.map_cons, List.map_nil, List.sum_cons, List.sum_nil, HG.out]
         omega
     clear h2 g2
     have hj9 : Hid (j ≤ 1000) := by show _ ≤ _; have := HC.out.2; have := HKc.out; omega
     go_wp2_with fail
     try rw [z31 (by have := hj9.out; omega)]
     exact ⟨⟨j + 1, rfl, by omega, HI2⟩, hstep⟩
   · have ej : j = kc := by omega
     subst ej
     have HT : Hid (t.kids.take j = t.kids) := List.take_of_length_le (by rw [t.kids_len, HKc.out]; exact Nat.le_refl _)
     rw [HT.out] at HI
     go_wp2_with fail
     have HL := hid (last_calls (ce := ce) (cap := cap) HX.out t.n (by have := HI.out.2.2.cost; have := HB.out; have := HZ.out; omega) HI.out.1)
     rw [hkk, HKd.out] at HL
     refine HL.out.mono ?_
     rintro e X3 ⟨⟨x3, rfl⟩, h3, g3⟩
     have S3 := hid h3
     have G3 := hid (HI.out.2.1.trans g3)
     clear h3 g3 e0 e1 e2 e3 e4 e5 d1 HL
     go_wp2_with fail
     go_end0
     exact ⟨⟨_, rfl⟩, S3.out, F0.out.trans G3.out⟩
set_option maxHeartbeats 4000000 in
set_option maxRecDepth 100000 in
theorem hand_calls (cx : Cx W0 Mb ae b off es ns) (hk1 : K ≤ 1000) (ih : PartC W0 Mb ae ce b off cap es ns K F) {t : Tp} {ss : List ByteArray} {s : Cs} {v : Value} {W : World} (hF : t.size ≤ F + 1) (hs : Stands ns t) (hK : ss.length + 2 * t.size ≤ K) (hB : s.out.length + 10 * s.rest + 10 * t.size ≤ 950000) (h : CmE W0 Mb (.slice ae es.length ce) (.slice (some ⟨b, off, none⟩) ns.length cap) s W) (hv : NmT W v ss) (ek : t.n.kind = 23 ∨ t.n.kind = 24) :
   Calls Tryz.prog 53 #[.pointer (some ⟨Mb, 0, none⟩), .int .i64 (t.at_ : Int), v] W (LeadPost W0 Mb (.slice ae es.length ce) (.slice (some ⟨b, off, none⟩) ns.length cap) (handZ es (partZ es F) t ss s) W) := by
 obtain ⟨adn, cpn, rfl⟩ := hv.is
 have hnc := z37 cx h
 obtain ⟨hlt, hat, hsz⟩ := hs.lt
 have c0 := hnc t.at_ hlt 0 (by omega)
 have c1 := hnc t.at_ hlt 1 (by omega)
 have c2 := hnc t.at_ hlt 2 (by omega)
 have c3 := hnc t.at_ hlt 3 (by omega)
 have c4 := hnc t.at_ hlt 4 (by omega)
 have c5 := hnc t.at_ hlt 5 (by omega)
 rw [hat] at c0 c1 c2 c3 c4 c5
 simp only [Nd.cell, Nat.add_zero] at c0 c1 c2 c3 c4 c5
 have d1 := h.tree
 have hA := (MapKept.heap_alloc W (.cells #[.int .i64 t.n.kind, .int .i64 t.n.num, .string t.n.a, .string t.n.b, .string t.n.c, .int .i64 t.n.kids] 116)).1
 have hB1 := (Below.refl W.heap.size W).alloc (Nat.le_refl _) (.cells #[.int .i64 t.n.kind, .int .i64 t.n.num, .string t.n.a, .string t.n.b, .string t.n.c, .int .i64 t.n.kids] 116)
 obtain ⟨Y, hY⟩ : ∃ Y, W.alloc (.cells #[.int .i64 t.n.kind, .int .i64 t.n.num, .string t.n.a, .string t.n.b, .string t.n.c, .int .i64 t.n.kids] 116) = Y := ⟨_, rfl⟩
 rw [hY] at hA hB1
 have HY := hid hY
 have HA := hid hA
 have S0 := hid (h.below hB1)
 have F0 := hid (Cf.of_below hB1)
 have N0 := hid (hv.frame (Cf.of_below hB1))
 have G0 := hid (Cf.refl Y)
 have R0 := hid (Rs.refl ns K s)
 have hgood := hs.toGood
 have HC : Hid (2 ≤ t.k.count ∧ t.k.count ≤ 6 ∧ t.n.kids = (t.k.count : Int) ∧ ∀ c ∈ t.kids.drop 1, c.n.kids = 1 ∧ c.k.count = 1) := ⟨((arity_at hgood).2.1 (by rcases ek with e | e <;> rw [e] <;> rfl)).1, ((arity_at hgood).2.1 (by rcases ek with e | e <;> rw [e] <;> rfl)).2, hs.kids, hs.head ek⟩
 have HZ : Hid ((t.kid 0).size + (t.kid 1).size + ((t.kids.drop 2).map Tp.size).sum + 1 = t.size ∧ 1 ≤ (t.kid 0).size ∧ 1 ≤ (t.kid 1).size ∧ (t.kid 1).k.count = 1 ∧ ((t.kid 1).kid 0).size + 1 = (t.kid 1).size) := by have e0 := kidsM HC.out.1; have e1 := (HC.out.2.2.2 (t.kid 1) (by rw [e0.1]; simp)).2; exact ⟨e0.2, (t.kid 0).size_pos, (t.kid 1).size_pos, e1, (kids1 e1).2⟩
 have hp0 : (0 : Int) ≤ (t.at_ : Int) := by omega
 have hpl : (t.at_ : Int) < (ns.length : Int) := by omega
 have HP1 : Hid (0 < t.k.count → wrap64 ((t.at_ : Int) + 1) = ((t.kid 0).at_ : Int)) := fun h0 => by rw [hs.first h0]; have := cx.tl; unfold wrap64; omega
 have HX := hid cx
 have HIH := hid ih
 have HS := hid hs
 have HK := hid (And.intro hK (And.intro hF hk1))
 have HB := hid hB
 clear hA hB1 hY h hv hnc hlt hat hsz hgood cx ih hs hK hF hB hk1
 go_enter Tryz.func53, Tryz.ntmps53
 go_upto_region 1 with fail
 rw [HY.out]
 clear HY c0 c1 c2 c3 c4 c5 d1
 obtain ⟨kd, hkd⟩ : ∃ kd, t.n.kind = kd := ⟨_, rfl⟩
 obtain ⟨kc, hkc⟩ : ∃ kc : Nat, t.k.count = kc := ⟨_, rfl⟩
 have hkk : t.n.kids = (kc : Int) := by rw [← hkc]; exact HC.out.2.2.1
 have HKc := hid hkc
 have HKd := hid hkd
 obtain ⟨z, hz⟩ : ∃ z : Int, (if t.n.kind = 23 then 1 else 0) = z := ⟨_, rfl⟩
 have HZz : Hid ((if (kd == 23) = true then (1 : Int) else 0) = z) := by show _ = _; rw [← hz, hkd]; simp
 have HZq := hid hz
 have HW2 : Hid (wrap64 ((kc : Int) - 2) = t.n.kids - 2) := by show _ = _; have := HC.out; rw [hkk]; unfold wrap64; omega
 have HP2 : Hid (wrap64 (((t.kid 1).at_ : Int) + 1) = (((t.kid 1).kid 0).at_ : Int)) := by show _ = _; have h1 := HS.out.kid (i := 1) (by have := HC.out; omega); rw [h1.first (by have := HZ.out; omega)]; have := h1.lt; have := HX.out.tl; unfold wrap64; omega
 have hr0 : (0 : Int) ≤ ((t.kid 1).at_ : Int) := by omega
 have hrl : ((t.kid 1).at_ : Int) < (ns.length : Int) := by have := (HS.out.kid (i := 1) (by have := HC.out; omega)).lt; omega
 have HCr : Hid (∀ X, NodesAt X b off ns → X.cell? ⟨b, off + (t.kid 1).at_ * 6 + 2, none⟩ = some (.string (t.kid 1).n.a)) := fun X hX => by have h1 := (HS.out.kid (i := 1) (by have := HC.out; omega)).lt; rw [hX _ h1.1 2 (by omega), h1.2.1]; rfl
 rw [hkd] at HA
 rw [hkk] at HA
 clear hkd hkc hz ek
 have hbx := (G0.out.block W.heap.size _ _ HA.out (by decide) (by decide) (by decide)).trans HA.out
 have e0 := z11 hbx 0
 have e1 := z11 hbx 1
 have e2 := z11 hbx 2
 have e3 := z11 hbx 3
 have e4 := z11 hbx 4
 have e5 := z11 hbx 5
 have d0 := S0.out.effs
 have d1 := S0.out.tree
 simp at e0 e1 e2 e3 e4 e5
 clear hbx
 try rw [HKd.out]
 try rw [hkk]
 go_wp2_with fail
 clear e0 e1 e2 e3 e4 e5 d0 d1
 refine (one_calls (kd == 23) Y).mono ?_
 rintro e Xo ⟨rfl, rfl⟩
 rw [HZz.out]
 have hbx := (G0.out.block W.heap.size _ _ HA.out (by decide) (by decide) (by decide)).trans HA.out
 have e0 := z11 hbx 0
 have e1 := z11 hbx 1
 have e2 := z11 hbx 2
 have e3 := z11 hbx 3
 have e4 := z11 hbx 4
 have e5 := z11 hbx 5
 have d0 := S0.out.effs
 have d1 := S0.out.tree
 simp at e0 e1 e2 e3 e4 e5
 clear hbx
 go_wp2_with fail
 clear e0 e1 e2 e3 e4 e5 d0 d1
 refine (z35 ⟨21, 0, z, 0⟩ S0.out (by have r := R0.out.cost; have hb := HB.out; have hz := HZ.out; omega)).mono ?_
 rintro e X1 ⟨rfl, h1, g1⟩
 obtain ⟨n1, hn1⟩ : ∃ n, (s).out.length = n := ⟨_, rfl⟩
 rw [hn1]
 have H1 := hid hn1
 have tn : n1 < (Cs.put (s) ⟨21, 0, z, 0⟩).out.length := by rw [← hn1]; simp [Cs.put]
 have S1 := hid h1
 have G1 : Hid (Cf Y X1) := G0.out.trans g1
 have Q1 := hid (Rs.put ns K (s) ⟨21, 0, z, 0⟩)
 have R1 := hid (R0.out.trans Q1.out)
 have Tn1_1 := hid tn
 clear h1 g1 hn1 tn
 have hbx := (G1.out.block W.heap.size _ _ HA.out (by decide) (by decide) (by decide)).trans HA.out
 have e0 := z11 hbx 0
 have e1 := z11 hbx 1
 have e2 := z11 hbx 2
 have e3 := z11 hbx 3
 have e4 := z11 hbx 4
 have e5 := z11 hbx 5
 have d0 := S1.out.effs
 have d1 := S1.out.tree
 simp at e0 e1 e2 e3 e4 e5
 clear hbx
 go_wp2_with fail
 clear e0 e1 e2 e3 e4 e5 d0 d1
 rw [HP1.out (by have := HC.out; omega)]
 refine (HIH.out (t.kid 0) (ss) ((Cs.put (s) ⟨21, 0, z, 0⟩)) _ _ (by have := HZ.out; have := HK.out; omega) (HS.out.kid (by have := HC.out; omega)) (by have := HK.out; have := HZ.out; (try simp only [List.length_append, List.length_cons, List.length_nil]); omega) (by have r := R1.out.cost; have hb := HB.out; have hz := HZ.out; omega) S1.out (N0.out.frame G1.out)).mono ?_
 rintro e X2 ⟨⟨x2, rfl⟩, h1, g1⟩
 have S2 := hid h1
 have G2 : Hid (Cf Y X2) := G1.out.trans g1
 have Q2 := hid (part_r (ns := ns) (K := K) (es := es) F (t.kid 0) (ss) ((Cs.put (s) ⟨21, 0, z, 0⟩)) (by have := HZ.out; have := HK.out; omega) (HS.out.kid (by have := HC.out; omega)) (by have := HK.out; have := HZ.out; (try simp only [List.length_append, List.length_cons, List.length_nil]); omega))
 have R2 := hid (R1.out.trans Q2.out)
 have Tn1_2 := hid (Nat.lt_of_lt_of_le Tn1_1.out Q2.out.out)
 clear h1 g1
 have hbx := (G2.out.block W.heap.size _ _ HA.out (by decide) (by decide) (by decide)).trans HA.out
 have e0 := z11 hbx 0
 have e1 := z11 hbx 1
 have e2 := z11 hbx 2
 have e3 := z11 hbx 3
 have e4 := z11 hbx 4
 have e5 := z11 hbx 5
 have d0 := S2.out.effs
 have d1 := S2.out.tree
 simp at e0 e1 e2 e3 e4 e5
 clear hbx
 go_wp2_with fail
 clear e0 e1 e2 e3 e4 e5 d0 d1
 refine (z35 ⟨23, 0, 0, 0⟩ S2.out (by have r := R2.out.cost; have hb := HB.out; have hz := HZ.out; omega)).mono ?_
 rintro e X3 ⟨rfl, h1, g1⟩
 obtain ⟨n3, hn3⟩ : ∃ n, ((partZ es F (t.kid 0) (ss) ((Cs.put (s) ⟨21, 0, z, 0⟩)))).out.length = n := ⟨_, rfl⟩
 rw [hn3]
 have H3 := hid hn3
 have tn : n3 < (Cs.put ((partZ es F (t.kid 0) (ss) ((Cs.put (s) ⟨21, 0, z, 0⟩)))) ⟨23, 0, 0, 0⟩).out.length := by rw [← hn3]; simp [Cs.put]
 have S3 := hid h1
 have G3 : Hid (Cf Y X3) := G2.out.trans g1
 have Q3 := hid (Rs.put ns K ((partZ es F (t.kid 0) (ss) ((Cs.put (s) ⟨21, 0, z, 0⟩)))) ⟨23, 0, 0, 0⟩)
 have R3 := hid (R2.out.trans Q3.out)
 have Tn1_3 := hid (Nat.lt_of_lt_of_le Tn1_2.out Q3.out.out)
 have Tn3_3 := hid tn
 clear h1 g1 hn3 tn
 have hbx := (G3.out.block W.heap.size _ _ HA.out (by decide) (by decide) (by decide)).trans HA.out
 have e0 := z11 hbx 0
 have e1 := z11 hbx 1
 have e2 := z11 hbx 2
 have e3 := z11 hbx 3
 have e4 := z11 hbx 4
 have e5 := z11 hbx 5
 have d0 := S3.out.effs
 have d1 := S3.out.tree
 simp at e0 e1 e2 e3 e4 e5
 clear hbx
 go_wp2_with fail
 clear e0 e1 e2 e3 e4 e5 d0 d1
 refine (z66 n1 0 S3.out (by have r := R3.out.cost; have hb := HB.out; have hz := HZ.out; omega) Tn1_3.out (by decide)).mono ?_
 rintro e X4 ⟨⟨x4, rfl⟩, h1, g1⟩
 have S4 := hid h1
 have G4 : Hid (Cf Y X4) := G3.out.trans g1
 have Q4 := hid (Rs.lead ns K ((Cs.put ((partZ es F (t.kid 0) (ss) ((Cs.put (s) ⟨21, 0, z, 0⟩)))) ⟨23, 0, 0, 0⟩)) n1 0)
 have R4 := hid (R3.out.trans Q4.out)
 have Tn1_4 := hid (Nat.lt_of_lt_of_le Tn1_3.out Q4.out.out)
 have Tn3_4 := hid (Nat.lt_of_lt_of_le Tn3_3.out Q4.out.out)
 clear h1 g1
 have hbx := (G4.out.block W.heap.size _ _ HA.out (by decide) (by decide) (by decide)).trans HA.out
 have e0 := z11 hbx 0
 have e1 := z11 hbx 1
 have e2 := z11 hbx 2
 have e3 := z11 hbx 3
 have e4 := z11 hbx 4
 have e5 := z11 hbx 5
 have d0 := S4.out.effs
 have d1 := S4.out.tree
 simp at e0 e1 e2 e3 e4 e5
 clear hbx
 go_wp2_with fail
 clear e0 e1 e2 e3 e4 e5 d0 d1
 rw [HW2.out]
 refine (z35 ⟨24, 0, t.n.kids - 2, 0⟩ S4.out (by have r := R4.out.cost; have hb := HB.out; have hz := HZ.out; omega)).mono ?_
 rintro e X5 ⟨rfl, h1, g1⟩
 obtain ⟨n5, hn5⟩ : ∃ n, ((Cs.lead ((Cs.put ((partZ es F (t.kid 0) (ss) ((Cs.put (s) ⟨21, 0, z, 0⟩)))) ⟨23, 0, 0, 0⟩)) n1 0)).out.length = n := ⟨_, rfl⟩
 rw [hn5]
 have H5 := hid hn5
 have tn : n5 < (Cs.put ((Cs.lead ((Cs.put ((partZ es F (t.kid 0) (ss) ((Cs.put (s) ⟨21, 0, z, 0⟩)))) ⟨23, 0, 0, 0⟩)) n1 0)) ⟨24, 0, t.n.kids - 2, 0⟩).out.length := by rw [← hn5]; simp [Cs.put]
 have S5 := hid h1
 have G5 : Hid (Cf Y X5) := G4.out.trans g1
 have Q5 := hid (Rs.put ns K ((Cs.lead ((Cs.put ((partZ es F (t.kid 0) (ss) ((Cs.put (s) ⟨21, 0, z, 0⟩)))) ⟨23, 0, 0, 0⟩)) n1 0)) ⟨24, 0, t.n.kids - 2, 0⟩)
 have R5 := hid (R4.out.trans Q5.out)
 have Tn1_5 := hid (Nat.lt_of_lt_of_le Tn1_4.out Q5.out.out)
 have Tn3_5 := hid (Nat.lt_of_lt_of_le Tn3_4.out Q5.out.out)
 have Tn5_5 := hid tn
 clear h1 g1 hn5 tn
 have hbx := (G5.out.block W.heap.size _ _ HA.out (by decide) (by decide) (by decide)).trans HA.out
 have e0 := z11 hbx 0
 have e1 := z11 hbx 1
 have e2 := z11 hbx 2
 have e3 := z11 hbx 3
 have e4 := z11 hbx 4
 have e5 := z11 hbx 5
 have d0 := S5.out.effs
 have d1 := S5.out.tree
 simp at e0 e1 e2 e3 e4 e5
 clear hbx
 go_wp2_with fail
 clear e0 e1 e2 e3 e4 e5 d0 d1
 refine (z49 (cap := cap) 1 X5 (z37 HX.out S5.out) HX.out.tl HS.out (by have := HC.out; omega)).mono ?_
 rintro e Xk ⟨rfl, rfl⟩
 have hbx := (G5.out.block W.heap.size _ _ HA.out (by decide) (by decide) (by decide)).trans HA.out
 have e0 := z11 hbx 0
 have e1 := z11 hbx 1
 have e2 := z11 hbx 2
 have e3 := z11 hbx 3
 have e4 := z11 hbx 4
 have e5 := z11 hbx 5
 have d0 := S5.out.effs
 have d1 := S5.out.tree
 simp at e0 e1 e2 e3 e4 e5
 clear hbx
 have cr := HCr.out X5 (z37 HX.out S5.out)
 go_wp2_with fail
 clear e0 e1 e2 e3 e4 e5 d0 d1
 clear cr
 refine (z45 (ss := ss) (ms := [(t.kid 1).n.a]) _ ((N0.out.frame G5.out).names.below ((Below.refl _ _).alloc (Nat.le_refl _) _)) (z59 X5 [(t.kid 1).n.a]) (by have := HK.out; have := HZ.out; simp only [List.length_cons, List.length_nil]; omega)).mono ?_
 rintro e X6 ⟨u6, rfl, hu6, hb6⟩
 have B6 : Below X5.heap.size X5 X6 := ((Below.refl _ _).alloc (Nat.le_refl _) _).trans (hb6.mono (by simp))
 have U6 := hid hu6
 have S6 := hid (S5.out.below B6)
 have G6 : Hid (Cf Y X6) := G5.out.trans (Cf.of_below B6)
 have R6 := R5
 have Tn1_6 := Tn1_5
 have Tn3_6 := Tn3_5
 have Tn5_6 := Tn5_5
 clear hu6 hb6 B6
 have hbx := (G6.out.block W.heap.size _ _ HA.out (by decide) (by decide) (by decide)).trans HA.out
 have e0 := z11 hbx 0
 have e1 := z11 hbx 1
 have e2 := z11 hbx 2
 have e3 := z11 hbx 3
 have e4 := z11 hbx 4
 have e5 := z11 hbx 5
 have d0 := S6.out.effs
 have d1 := S6.out.tree
 simp at e0 e1 e2 e3 e4 e5
 clear hbx
 go_wp2_with fail
 clear e0 e1 e2 e3 e4 e5 d0 d1
 rw [HP2.out]
 refine (wait_calls ⟨(t.kid 1).kid 0, ss ++ [(t.kid 1).n.a], n5, 0⟩ S6.out (by have hl := later_le ((Cs.put ((Cs.lead ((Cs.put ((partZ es F (t.kid 0) (ss) ((Cs.put (s) ⟨21, 0, z, 0⟩)))) ⟨23, 0, 0, 0⟩)) n1 0)) ⟨24, 0, t.n.kids - 2, 0⟩)); have r := R6.out.cost; have hb := HB.out; have hz := HZ.out; omega) (U6.out.frame (Cf.refl _))).mono ?_
 rintro e X7 ⟨⟨x7, rfl⟩, h1, g1⟩
 have S7 := hid h1
 have G7 : Hid (Cf Y X7) := G6.out.trans g1
 have Q7 := hid (Rs.wait (ns := ns) (K := K) (s := (Cs.put ((Cs.lead ((Cs.put ((partZ es F (t.kid 0) (ss) ((Cs.put (s) ⟨21, 0, z, 0⟩)))) ⟨23, 0, 0, 0⟩)) n1 0)) ⟨24, 0, t.n.kids - 2, 0⟩)) (l := ⟨(t.kid 1).kid 0, ss ++ [(t.kid 1).n.a], n5, 0⟩) ((HS.out.kid (i := 1) (by have := HC.out; omega)).kid (by have := HZ.out; omega)) (by have := HK.out; have := HZ.out; simp only [List.length_append, List.length_cons, List.length_nil]; omega) Tn5_6.out)
 have R7 := hid (R6.out.trans Q7.out)
 have Tn1_7 := hid (Nat.lt_of_lt_of_le Tn1_6.out Q7.out.out)
 have Tn3_7 := hid (Nat.lt_of_lt_of_le Tn3_6.out Q7.out.out)
 have Tn5_7 := hid (Nat.lt_of_lt_of_le Tn5_6.out Q7.out.out)
 have D6_7 : Hid (Cf X6 X7) := g1
 clear h1 g1
 obtain ⟨sB, hsB⟩ : ∃ x, (Cs.wait ((Cs.put ((Cs.lead ((Cs.put ((partZ es F (t.kid 0) (ss) ((Cs.put (s) ⟨21, 0, z, 0⟩)))) ⟨23, 0, 0, 0⟩)) n1 0)) ⟨24, 0, t.n.kids - 2, 0⟩)) ⟨(t.kid 1).kid 0, ss ++ [(t.kid 1).n.a], n5, 0⟩) = x := ⟨_, rfl⟩
 rw [hsB] at S7 R7 Tn1_7
 have HsB := hid hsB
 clear hsB
 have hbx := (G7.out.block W.heap.size _ _ HA.out (by decide) (by decide) (by decide)).trans HA.out
 have e0 := z11 hbx 0
 have e1 := z11 hbx 1
 have e2 := z11 hbx 2
 have e3 := z11 hbx 3
 have e4 := z11 hbx 4
 have e5 := z11 hbx 5
 have d0 := S7.out.effs
 have d1 := S7.out.tree
 simp at e0 e1 e2 e3 e4 e5
 clear hbx
 go_wp2_with fail
 clear e0 e1 e2 e3 e4 e5 d0 d1
 go_loopw [10] (fun i wr => ∃ (j : Nat) (z : Int), i = .int .i64 z ∧ z = 2 + (j : Int) ∧ 2 + j ≤ kc ∧ Hid (CmE W0 Mb (.slice ae es.length ce) (.slice (some ⟨b, off, none⟩) ns.length cap) (((t.kids.drop 2).take j).foldl (opZ es ss) sB) wr ∧ Cf Y wr ∧ Rs ns K (10 * (((t.kids.drop 2).take j).map Tp.size).sum) ((((t.kids.drop 2).take j).map Tp.size).sum) sB (((t.kids.drop 2).take j).foldl (opZ es ss) sB))) (fun i _ => (kc - (intOf i).toNat))
 case atStart => exact ⟨0, _, rfl, rfl, by have := HC.out; have := HKc.out; omega, S7.out, G7.out, Rs.refl ns K sB⟩
 case round =>
   obtain ⟨j, z, rfl, hzj, hj, HI⟩ := hrel
   have hbx := (HI.out.2.1.block W.heap.size _ _ HA.out (by decide) (by decide) (by decide)).trans HA.out
   have e0 := z11 hbx 0
   have e1 := z11 hbx 1
   have e2 := z11 hbx 2
   have e3 := z11 hbx 3
   have e4 := z11 hbx 4
   have e5 := z11 hbx 5
   have d0 := HI.out.1.effs
   have d1 := HI.out.1.tree
   simp at e0 e1 e2 e3 e4 e5
   clear hbx
   by_cases hjc : z < (kc : Int)
   · have hjl : j < (t.kids.drop 2).length := by rw [List.length_drop, t.kids_len, HKc.out]; omega
     have HN := hid (And.intro (sum_next hjl) (And.intro (take_next hjl) hjl))
     have hgd : (t.kids.drop 2).getD j default = t.kid (2 + j) := by unfold Tp.kid; simp [List.getD, List.getElem?_drop]
     obtain ⟨c, hc⟩ : ∃ c, t.kid (2 + j) = c := ⟨_, rfl⟩
     have HCs : Hid (Stands ns c ∧ c.k.count = 1) := by
       rw [← hc]
       refine ⟨HS.out.kid (by have := HKc.out; omega), (HC.out.2.2.2 _ ?_).2⟩
       have h1 : t.kid (2 + j) ∈ t.kids.drop 2 := by rw [← hgd]; exact getD_mem hjl
       rw [show (2 : Nat) = 1 + 1 from rfl, ← List.drop_drop] at h1
       exact List.mem_of_mem_drop h1
     have HKd2 := hid (z49 (cap := cap) (2 + j) wr (z37 HX.out HI.out.1) HX.out.tl HS.out (by have := HKc.out; omega))
     rw [hc, show ((2 + j : Nat) : Int) = z by omega] at HKd2
     rw [hgd, hc] at HN
     have hzs : wrap64 (z + 1) = z + 1 := by have := HC.out; have := HKc.out; unfold wrap64; omega
     have HZs := hid hzs
     have HJ := hid (And.intro hzj (And.intro hj hc))
     have hstep : kc - (intOf (.int .i64 (z + 1))).toNat < kc - (intOf (.int .i64 z)).toNat := by simp only [intOf]; omega
     obtain ⟨hl0, hl1, -⟩ := HCs.out.1.lt
     have hnc := z37 HX.out HI.out.1
     have b0 := hnc c.at_ hl0 0 (by omega)
     have b1 := hnc c.at_ hl0 1 (by omega)
     have b2 := hnc c.at_ hl0 2 (by omega)
     have b3 := hnc c.at_ hl0 3 (by omega)
     have b4 := hnc c.at_ hl0 4 (by omega)
     have b5 := hnc c.at_ hl0 5 (by omega)
     rw [hl1] at b0 b1 b2 b3 b4 b5
     simp only [Nd.cell, Nat.add_zero] at b0 b1 b2 b3 b4 b5
     have hc0 : (0 : Int) ≤ (c.at_ : Int) := by omega
     have hcl : (c.at_ : Int) < (ns.length : Int) := by omega
     have HP3 : Hid (wrap64 ((c.at_ : Int) + 1) = ((c.kid 0).at_ : Int)) := by show _ = _; rw [HCs.out.1.first (by have := HCs.out.2; omega)]; have := HX.out.tl; unfold wrap64; omega
     have hA2 := (MapKept.heap_alloc wr (.cells #[.int .i64 c.n.kind, .int .i64 c.n.num, .string c.n.a, .string c.n.b, .string c.n.c, .int .i64 c.n.kids] 116)).1
     have hB2 := (Below.refl wr.heap.size wr).alloc (Nat.le_refl _) (.cells #[.int .i64 c.n.kind, .int .i64 c.n.num, .string c.n.a, .string c.n.b, .string c.n.c, .int .i64 c.n.kids] 116)
     obtain ⟨V, hV⟩ : ∃ V, wr.alloc (.cells #[.int .i64 c.n.kind, .int .i64 c.n.num, .string c.n.a, .string c.n.b, .string c.n.c, .int .i64 c.n.kids] 116) = V := ⟨_, rfl⟩
     rw [hV] at hA2 hB2
     have HV := hid hV
     have HA2 := hid hA2
     have HB2 := hid hB2
     have V0 := hid (HI.out.1.below hB2)
     have Vf := hid (HI.out.2.1.trans (Cf.of_below hB2))
     clear hA2 hB2 hV hzs hc hjl hgd hl0 hl1 hnc hzj hj
     go_wp2_with fail
     refine HKd2.out.mono ?_
     rintro e Xk ⟨rfl, rfl⟩
     clear e0 e1 e2 e3 e4 e5
     go_upto_region 13 with fail
     rw [HV.out]
     clear HV b0 b1 b2 b3 b4 b5 d0 d1
     have g2 := z11 HA2.out 2
     have g3 := z11 HA2.out 3
     have g4 := z11 HA2.out 4
     simp at g2 g3 g4
     have hD : Below V.heap.size V V.drew := (Below.refl _ _).drew
     obtain ⟨D, hDe⟩ : ∃ D, V.drew = D := ⟨_, rfl⟩
     rw [hDe] at hD
     have D0 := hid (V0.out.below hD)
     have Df := hid (Vf.out.trans (Cf.of_below hD))
     have DA := hid ((hD.block wr.heap.size (z26 HA2.out)).trans HA2.out)
     have hS : (fun w' : World => w'.cell? ⟨Mb, 0, none⟩ = some (.slice ae es.length ce) ∧ w'.cell? ⟨wr.heap.size, 2, none⟩ = some (.string c.n.a) ∧ w'.cell? ⟨wr.heap.size, 3, none⟩ = some (.string c.n.b) ∧ w'.cell? ⟨wr.heap.size, 4, none⟩ = some (.string c.n.c)) D := ⟨D0.out.effs, z11 DA.out 2, z11 DA.out 3, z11 DA.out 4⟩
     refine z33 (S := fun w' => w'.cell? ⟨Mb, 0, none⟩ = some (.slice ae es.length ce) ∧ w'.cell? ⟨wr.heap.size, 2, none⟩ = some (.string c.n.a) ∧ w'.cell? ⟨wr.heap.size, 3, none⟩ = some (.string c.n.b) ∧ w'.cell? ⟨wr.heap.size, 4, none⟩ = some (.string c.n.c)) (by kernel_rfl) rfl rfl ?_
     rw [hDe]
     clear hDe hD g2 g3 g4
     refine pick_o 0 (.pointer (some ⟨Mb, 0, none⟩)) hS ?_
     refine pick_o 1 (.int .i64 (c.at_ : Int)) hS ?_
     refine z12 (i := 2) (v := .int .i64 (wrap64 ((c.at_ : Int) + 1))) (by kernel_rfl) rfl (by kernel_rfl) (by kernel_rfl) rfl rfl (fun w' _ => by simp [go_sem]; exact IntWalk.i64_left _) hS (by simp [go_sem]; exact rfl) ?_
     refine pick_o 3 (.slice adn ss.length cpn) hS ?_
     refine pick_o 4 (.pointer (some ⟨wr.heap.size, 3, none⟩)) hS ?_
     refine pick_o (hy := fun w' h => by simp [go_sem, h.2.2.1]) 5 (.string c.n.b) hS ?_
     refine pick_o 6 (.pointer (some ⟨wr.heap.size, 4, none⟩)) hS ?_
     refine pick_o (hy := fun w' h => by simp [go_sem, h.2.2.2]) 7 (.string c.n.c) hS ?_
     refine pick_o 10 (.pointer (some ⟨Mb, 0, none⟩)) hS ?_
     refine pick_o 11 (.pointer (some ⟨Mb, 0, none⟩)) hS ?_
     refine pick_o 12 (.pointer (some ⟨Mb, 0, none⟩)) hS ?_
     refine pick_o 13 (.pointer (some ⟨Mb, 0, none⟩)) hS ?_
     refine pick_o 14 (.pointer (some ⟨Mb, 0, none⟩)) hS ?_
     refine pick_o (hy := fun w' h => by simp [go_sem, h.1]) 15 (.slice ae es.length ce) hS ?_
     refine pick_o 16 (.pointer (some ⟨wr.heap.size, 2, none⟩)) hS ?_
     refine pick_o (hy := fun w' h => by simp [go_sem, h.2.1]) 17 (.string c.n.a) hS ?_
     rw [HP3.out]
     have hA1 : Below D.heap.size D (D.alloc (.cells #[.string c.n.b, .string c.n.c] 9)) := (Below.refl _ _).alloc (Nat.le_refl _) _
     have hq := z26 DA.out
     have hS1 : (fun w' : World => w'.cell? ⟨Mb, 0, none⟩ = some (.slice ae es.length ce) ∧ w'.cell? ⟨wr.heap.size, 2, none⟩ = some (.string c.n.a) ∧ w'.cell? ⟨wr.heap.size, 3, none⟩ = some (.string c.n.b) ∧ w'.cell? ⟨wr.heap.size, 4, none⟩ = some (.string c.n.c)) (D.alloc (.cells #[.string c.n.b, .string c.n.c] 9)) := ⟨(hA1.cell (z70 D0.out)).trans hS.1, (hA1.cell hq).trans hS.2.1, (hA1.cell hq).trans hS.2.2.1, (hA1.cell hq).trans hS.2.2.2⟩
     refine z29 (i := 8) (v := .slice (some ⟨D.heap.size, 0, none⟩) 2 2) (w1 := D.alloc (.cells #[.string c.n.b, .string c.n.c] 9)) rfl (by kernel_rfl) rfl rfl (by simp [go_sem]) hS1 (by simp [go_sem]; exact rfl) ?_
     refine z27 (i := 9) (f := 50) (args := #[.slice adn ss.length cpn, .slice (some ⟨D.heap.size, 0, none⟩) 2 2]) rfl (by kernel_rfl) rfl rfl (by simp [go_sem]) ?_
     refine (z45 (ss := ss) (ms := [c.n.b, c.n.c]) _ ((N0.out.frame Df.out).names.below hA1) (z59 D [c.n.b, c.n.c]) (by have := HK.out; simp only [List.length_cons, List.length_nil]; omega)).mono ?_
     rintro e E1 ⟨u1, rfl, hu1, hb1⟩
     have B1 : Below D.heap.size D E1 := hA1.trans (hb1.mono (by simp))
     have hS2 : (fun w' : World => w'.cell? ⟨Mb, 0, none⟩ = some (.slice ae es.length ce) ∧ w'.cell? ⟨wr.heap.size, 2, none⟩ = some (.string c.n.a) ∧ w'.cell? ⟨wr.heap.size, 3, none⟩ = some (.string c.n.b) ∧ w'.cell? ⟨wr.heap.size, 4, none⟩ = some (.string c.n.c)) E1 := ⟨(B1.cell (z70 D0.out)).trans hS.1, (B1.cell hq).trans hS.2.1, (B1.cell hq).trans hS.2.2.1, (B1.cell hq).trans hS.2.2.2⟩
     have U1 := hid hu1
     have E0 := hid (D0.out.below B1)
     have Ef := hid (Df.out.trans (Cf.of_below B1))
     have EA := hid ((B1.block wr.heap.size hq).trans DA.out)
     clear hu1 hb1 B1 hS hS1 hA1 hq
     refine ⟨u1, rfl, hS2, ?_⟩
     refine z15 (by simp [go_sem]; exact rfl) ?_
     refine z27 (i := 18) (f := 46) (args := #[.slice ae es.length ce, .string c.n.a]) rfl (by kernel_rfl) rfl rfl (by simp [go_sem]) ?_
     refine (l2Eff_calls ae ce es c.n.a E1 (by have := HX.out.el; omega) (cx_effs HX.out E0.out)).mono ?_
     rintro e Xk ⟨rfl, rfl⟩
     refine ⟨_, rfl, hS2, ?_⟩
     refine z15 (by simp [go_sem]; exact rfl) ?_
     refine pick_o 19 (.agg #[.int .i64 25, .int .i64 (effPlace es c.n.a 0), .int .i64 0, .int .i64 0]) hS2 ?_
     refine z27 (i := 20) (f := 27) (args := #[.pointer (some ⟨Mb, 0, none⟩), .agg #[.int .i64 25, .int .i64 (effPlace es c.n.a 0), .int .i64 0, .int .i64 0]]) rfl (by kernel_rfl) rfl rfl (by simp [go_sem]) ?_
     obtain ⟨s1, hs1⟩ : ∃ x, ((t.kids.drop 2).take j).foldl (opZ es ss) sB = x := ⟨_, rfl⟩
     have HS1 := hid hs1
     have R1 := hid HI.out.2.2
     rw [hs1] at E0 R1
     have Rc := R7
     have HL : Hid (s1.out.length + 10 * s1.rest + 10 * c.size ≤ 950000) := by show _ ≤ _; have h1 := R1.out.cost; have h2 := Rc.out.cost; have h3 := HN.out.1; have h4 := HZ.out; have h5 := HB.out; omega
     refine (z35 ⟨25, effPlace es c.n.a 0, 0, 0⟩ E0.out (by have := HL.out; omega)).mono ?_
     rintro e E2 ⟨rfl, h2, g2⟩
     obtain ⟨m1, hm1⟩ : ∃ m, s1.out.length = m := ⟨_, rfl⟩
     rw [hm1]
     have HM1 := hid hm1
     have P0 := hid h2
     have Pf := hid (Ef.out.trans g2)
     have PU := hid (U1.out.frame g2)
     have PA := hid ((g2.block wr.heap.size _ _ EA.out (by decide) (by decide) (by decide)).trans EA.out)
     clear h2 g2 hS2 hm1 hs1
     refine ⟨_, rfl, ⟨P0.out.effs, z11 PA.out 2, z11 PA.out 3, z11 PA.out 4⟩, ?_⟩
     refine z15 (by simp [go_sem]; exact rfl) ?_
     refine z27 (i := 21) (f := 49) (args := #[.pointer (some ⟨Mb, 0, none⟩), .int .i64 ((c.kid 0).at_ : Int), u1, .int .i64 (m1 : Int), .int .i64 (1 : Int)]) rfl (by kernel_rfl) rfl rfl (by simp [go_sem]) ?_
     refine (wait_calls ⟨c.kid 0, ss ++ [c.n.b, c.n.c], m1, 1⟩ P0.out (by have h1 := later_le (s1.put ⟨25, effPlace es c.n.a 0, 0, 0⟩); have h2 := HL.out; have h3 : (s1.put ⟨25, effPlace es c.n.a 0, 0, 0⟩).rest = s1.rest := rfl; omega) PU.out).mono ?_
     rintro e E3 ⟨⟨x3, rfl⟩, h3, g3⟩
     have Q0 := hid h3
     have Qf := hid (Pf.out.trans g3)
     have QA := hid ((g3.block wr.heap.size _ _ PA.out (by decide) (by decide) (by decide)).trans PA.out)
     clear h3 g3
     refine ⟨x3, rfl, ⟨Q0.out.effs, z11 QA.out 2, z11 QA.out 3, z11 QA.out 4⟩, ?_⟩
     refine z15 (by simp [go_sem]; exact rfl) ?_
     refine z32 (by kernel_rfl) ?_
     have HI2 : Hid (CmE W0 Mb (.slice ae es.length ce) (.slice (some ⟨b, off, none⟩) ns.length cap) (((t.kids.drop 2).take (j + 1)).foldl (opZ es ss) sB) E3 ∧ Cf Y E3 ∧ Rs ns K (10 * (((t.kids.drop 2).take (j + 1)).map Tp.size).sum) ((((t.kids.drop 2).take (j + 1)).map Tp.size).sum) sB (((t.kids.drop 2).take (j + 1)).foldl (opZ es ss) sB)) := by
       have hr := op_r (ns := ns) (K := K) (es := es) (ss := ss) s1 c HCs.out.2 HCs.out.1 (by have h1 := HN.out.1; have := HZ.out; have := HK.out; omega)
       have hm := HM1.out
       have hq := HS1.out
       subst hm
       subst hq
       rw [HN.out.2.1, List.foldl_append]
       refine ⟨Q0.out, Qf.out, (R1.out.trans hr).mono ?_ ?_⟩
       · simp only [List.map_append, List.sum_append, List.map_cons, List.map_nil, List.sum_cons, List.sum_nil]
         omega
       · simp only [List.map_append, List.sum_append, List.map_cons, List.map_nil, List.sum_cons, List.sum_nil]
         omega
     clear Q0 Qf QA P0 Pf PU PA E0 Ef EA U1 D0 Df DA V0 Vf HA2 HB2
     go_wp2_with fail
     try rw [HZs.out]
     exact ⟨⟨j + 1, _, rfl, by have := HJ.out.1; omega, by have := HJ.out.1; omega, HI2⟩, hstep⟩
   · have HT : Hid ((t.kids.drop 2).take j = t.kids.drop 2) := List.take_of_length_le (by rw [List.length_drop, t.kids_len, HKc.out]; omega)
     rw [HT.out] at HI
     clear hzj hj HT
     go_wp2_with fail
     refine (z66 n1 2 HI.out.1 (by have h1 := HI.out.2.2.cost; have h2 := R7.out.cost; have h4 := HZ.out; have h5 := HB.out; omega) (Nat.lt_of_lt_of_le Tn1_7.out HI.out.2.2.out) (by decide)).mono ?_
     rintro e X9 ⟨⟨x9, rfl⟩, h9, g9⟩
     have S9 := hid h9
     have G9 := hid (HI.out.2.1.trans g9)
     clear h9 g9 e0 e1 e2 e3 e4 e5 d0 d1
     go_wp2_with fail
     go_end0
     have qz := HZq.out
     have q1 := H1.out
     have q2 := H5.out
     have q3 := HsB.out
     subst q3
     subst q2
     subst q1
     subst qz
     exact ⟨⟨_, rfl⟩, S9.out, F0.out.trans G9.out⟩
set_option maxHeartbeats 4000000 in
set_option maxRecDepth 100000 in
theorem part_h (cx : Cx W0 Mb ae b off es ns) (hk1 : K ≤ 1000) (ih : PartC W0 Mb ae ce b off cap es ns K F) {t : Tp} {ss : List ByteArray} {s : Cs} {v : Value} {W : World} (hF : t.size ≤ F + 1) (hs : Stands ns t) (hK : ss.length + 2 * t.size ≤ K) (hB : s.out.length + 10 * s.rest + 10 * t.size ≤ 950000) (h : CmE W0 Mb (.slice ae es.length ce) (.slice (some ⟨b, off, none⟩) ns.length cap) s W) (hv : NmT W v ss) (ek : t.n.kind = 23 ∨ t.n.kind = 24) :
   Calls Tryz.prog 26 #[.pointer (some ⟨Mb, 0, none⟩), .int .i64 (t.at_ : Int), v] W (LeadPost W0 Mb (.slice ae es.length ce) (.slice (some ⟨b, off, none⟩) ns.length cap) (handZ es (partZ es F) t ss s) W) := by
 obtain ⟨adn, cpn, rfl⟩ := hv.is
 have hnc := z37 cx h
 obtain ⟨hlt, hat, hsz⟩ := hs.lt
 have c0 := hnc t.at_ hlt 0 (by omega)
 have c1 := hnc t.at_ hlt 1 (by omega)
 have c2 := hnc t.at_ hlt 2 (by omega)
 have c3 := hnc t.at_ hlt 3 (by omega)
 have c4 := hnc t.at_ hlt 4 (by omega)
 have c5 := hnc t.at_ hlt 5 (by omega)
 rw [hat] at c0 c1 c2 c3 c4 c5
 simp only [Nd.cell, Nat.add_zero] at c0 c1 c2 c3 c4 c5
 have d1 := h.tree
 have hA := (MapKept.heap_alloc W (.cells #[.int .i64 t.n.kind, .int .i64 t.n.num, .string t.n.a, .string t.n.b, .string t.n.c, .int .i64 t.n.kids] 116)).1
 have hB1 := (Below.refl W.heap.size W).alloc (Nat.le_refl _) (.cells #[.int .i64 t.n.kind, .int .i64 t.n.num, .string t.n.a, .string t.n.b, .string t.n.c, .int .i64 t.n.kids] 116)
 obtain ⟨Y, hY⟩ : ∃ Y, W.alloc (.cells #[.int .i64 t.n.kind, .int .i64 t.n.num, .string t.n.a, .string t.n.b, .string t.n.c, .int .i64 t.n.kids] 116) = Y := ⟨_, rfl⟩
 rw [hY] at hA hB1
 have HY := hid hY
 have HA := hid hA
 have S0 := hid (h.below hB1)
 have F0 := hid (Cf.of_below hB1)
 have N0 := hid (hv.frame (Cf.of_below hB1))
 have G0 := hid (Cf.refl Y)
 have R0 := hid (Rs.refl ns K s)
 have hgood := hs.toGood
 have HC : Hid (True) := trivial
 have HZ : Hid (1 ≤ t.size) := t.size_pos
 have hp0 : (0 : Int) ≤ (t.at_ : Int) := by omega
 have hpl : (t.at_ : Int) < (ns.length : Int) := by omega
 have HP1 : Hid (0 < t.k.count → wrap64 ((t.at_ : Int) + 1) = ((t.kid 0).at_ : Int)) := fun h0 => by rw [hs.first h0]; have := cx.tl; unfold wrap64; omega
 have HH := hid (hand_calls cx hk1 ih hF hs hK hB (h.below hB1) (hv.frame (Cf.of_below hB1)) ek)
 have HX := hid cx
 have HIH := hid ih
 have HS := hid hs
 have HK := hid (And.intro hK (And.intro hF hk1))
 have HB := hid hB
 clear hA hB1 hY h hv hnc hlt hat hsz hgood cx ih hs hK hF hB hk1
 go_enter Tryz.func26, Tryz.ntmps26
 go_upto_region 1 with fail
 rw [HY.out]
 clear HY c0 c1 c2 c3 c4 c5 d1
 obtain ⟨kd, hkd⟩ : ∃ kd, t.n.kind = kd := ⟨_, rfl⟩
 rw [hkd] at ek HA
 clear hkd
 rcases ek with rfl | rfl
 · have e0 := z11 HA.out 0
   simp at e0
   go_wp2_with fail
   refine HH.out.mono ?_
   rintro e X1 ⟨⟨x1, rfl⟩, h1, g1⟩
   have S1 := hid h1
   have G1 := hid g1
   clear h1 g1 e0
   go_wp2_with fail
   go_end0
   exact ⟨⟨_, rfl⟩, S1.out, F0.out.trans G1.out⟩
 · have e0 := z11 HA.out 0
   simp at e0
   go_wp2_with fail
   refine HH.out.mono ?_
   rintro e X1 ⟨⟨x1, rfl⟩, h1, g1⟩
   have S1 := hid h1
   have G1 := hid g1
   clear h1 g1 e0
   go_wp2_with fail
   go_end0
   exact ⟨⟨_, rfl⟩, S1.out, F0.out.trans G1.out⟩

end
end
section
open Go.RowKit Go.Deep
def effOk (es : List Ef) (i : Nat) : Bool :=
 nameOk (es.getD i default).name && (!effIn (es.take i) (es.getD i default).name && (decide (1 ≤ (es.getD i default).arg ∧ (es.getD i default).arg ≤ 4) && decide (1 ≤ (es.getD i default).res ∧ (es.getD i default).res ≤ 4)))
def nodeHas (es : List Ef) (n : Nd) : Bool := !((n.kind == 22 || n.kind == 26) && !effIn es n.a)
def progZ (es : List Ef) (ns : List Nd) (T : Bool) : Bool := decide (es.length ≤ 8) && (T && ((List.range es.length).all (effOk es) && ns.all (nodeHas es)))
theorem range_step {es : List Ef} {i : Nat} (h : (List.range i).all (effOk es) = true) (h' : effOk es i = true) : (List.range (i + 1)).all (effOk es) = true := by
 rw [List.range_succ, List.all_append, h]
 simpa using h'
theorem range_false {es : List Ef} {i : Nat} (hi : i < es.length) (h : effOk es i = false) : (List.range es.length).all (effOk es) = false := by
 rw [List.all_eq_false]
 exact ⟨i, List.mem_range.2 hi, by simpa using h⟩
theorem has_step {es : List Ef} {ns : List Nd} {i : Nat} (hi : i < ns.length) (h : (ns.take i).all (nodeHas es) = true) (hn : nodeHas es (ns.getD i default) = true) : (ns.take (i + 1)).all (nodeHas es) = true := by
 rw [List.take_succ_eq_append_getElem hi, List.all_append, h]
 simp only [List.getD, List.getElem?_eq_getElem hi] at hn
 simpa using hn
theorem has_false {es : List Ef} {ns : List Nd} {i : Nat} (hi : i < ns.length) (hn : nodeHas es (ns.getD i default) = false) : ns.all (nodeHas es) = false := by
 rw [List.all_eq_false]
 simp only [List.getD, List.getElem?_eq_getElem hi] at hn
 exact ⟨ns[i], List.getElem_mem _, by simpa using hn⟩
theorem effsTake {w : World} {b off : Nat} {es : List Ef} {i : Nat} (h : EffsAt w b off es) : EffsAt w b off (es.take i) := fun k hk c hc => by
 have hk' : k < es.length := by simp at hk; omega
 have hki : k < i := by simp at hk; omega
 rw [h k hk' c hc]
 simp [List.getD, hki]
end
end Go.Proofs.YtfmkgppkgmjpfaaGreatDoor
