/- The instruction behind a node's kids. -/
import Derived.Test.YtegjdgiegnofhaaDoorCompPartML
import Derived.IntWalk
namespace Go.Proofs.YtegjdgiegnofhaaDoor
open Go.RowKit Go.Deep

theorem box_in {W0 : World} {Mb : Nat} {ve vt : Value} {s : Cs} {W Y : World} (h : CmE W0 Mb ve vt s W) (hb : Below W.heap.size W Y) : CmE W0 Mb ve vt s Y ∧ Cf W Y := ⟨h.below hb, Cf.of_below hb⟩

section
variable {W0 : World} {Mb : Nat} {ae : Option Addr} {ce b off cap : Nat} {es : List Ef} {ns : List Nd}

set_option maxHeartbeats 4000000 in
set_option maxRecDepth 100000 in
theorem last_calls (cx : Cx W0 Mb ae b off es ns) (n : Nd) {s : Cs} {W : World} (hB : s.out.length ≤ 950000) (h : CmE W0 Mb (.slice ae es.length ce) (.slice (some ⟨b, off, none⟩) ns.length cap) s W) :
    Calls Tryd.prog 49 #[.pointer (some ⟨Mb, 0, none⟩), .agg #[.int .i64 n.kind, .int .i64 n.num, .string n.a, .string n.b, .string n.c, .int .i64 n.kids]] W (LeadPost W0 Mb (.slice ae es.length ce) (.slice (some ⟨b, off, none⟩) ns.length cap) (s.put (lastZ es n)) W) := by
  obtain ⟨kd, num, a, bb, cc, kids⟩ := n
  dsimp only
  have hA := (MapKept.heap_alloc W (.cells #[.int .i64 kd, .int .i64 num, .string a, .string bb, .string cc, .int .i64 kids] 90)).1
  have hB1 := (Below.refl W.heap.size W).alloc (Nat.le_refl _) (.cells #[.int .i64 kd, .int .i64 num, .string a, .string bb, .string cc, .int .i64 kids] 90)
  obtain ⟨Y, hY⟩ : ∃ Y, W.alloc (.cells #[.int .i64 kd, .int .i64 num, .string a, .string bb, .string cc, .int .i64 kids] 90) = Y := ⟨_, rfl⟩
  rw [hY] at hA hB1
  have HY := hid hY
  have HA := hid hA
  have S0 := hid (h.below hB1)
  have F0 := hid (Cf.of_below hB1)
  have HX := hid cx
  have HB := hid hB
  have e0 := cell_of_heap HA.out 0
  have e2 := cell_of_heap HA.out 2
  simp at e0 e2
  have d0 := S0.out.effs
  obtain ⟨LZ, hLZ⟩ : ∃ LZ, lastZ es ⟨kd, num, a, bb, cc, kids⟩ = LZ := ⟨_, rfl⟩
  rw [hLZ]
  unfold lastZ at hLZ
  dsimp only at hLZ
  clear hA hB1 hY h cx hB
  go_enter Tryd.func49, Tryd.ntmps49
  go_upto_region 1 with fail
  rw [HY.out]
  clear HY
  by_cases k7 : kd = 7
  · rw [if_pos k7] at hLZ
    subst hLZ
    subst k7
    go_wp2_with fail
    refine (putM_calls ⟨8, 0, 0, 0⟩ S0.out (by have := HB.out; omega)).mono ?_
    rintro e X1 ⟨rfl, h1, g1⟩
    obtain ⟨n1, hn1⟩ : ∃ n, s.out.length = n := ⟨_, rfl⟩
    rw [hn1]
    have S1 := hid h1
    have G1 := hid g1
    clear h1 g1 hn1
    go_wp2_with fail
    go_end0
    exact ⟨⟨_, rfl⟩, S1.out, F0.out.trans G1.out⟩
  rw [if_neg k7] at hLZ
  have z7 : (kd == 7) = false := by simp [k7]
  by_cases k16 : kd = 16
  · rw [if_pos k16] at hLZ
    subst hLZ
    subst k16
    go_wp2_with fail
    refine (putM_calls ⟨15, 0, 0, 0⟩ S0.out (by have := HB.out; omega)).mono ?_
    rintro e X1 ⟨rfl, h1, g1⟩
    obtain ⟨n1, hn1⟩ : ∃ n, s.out.length = n := ⟨_, rfl⟩
    rw [hn1]
    have S1 := hid h1
    have G1 := hid g1
    clear h1 g1 hn1
    go_wp2_with fail
    go_end0
    exact ⟨⟨_, rfl⟩, S1.out, F0.out.trans G1.out⟩
  rw [if_neg k16] at hLZ
  have z16 : (kd == 16) = false := by simp [k16]
  by_cases k17 : kd = 17
  · rw [if_pos k17] at hLZ
    subst hLZ
    subst k17
    go_wp2_with fail
    refine (putM_calls ⟨16, 0, 0, 0⟩ S0.out (by have := HB.out; omega)).mono ?_
    rintro e X1 ⟨rfl, h1, g1⟩
    obtain ⟨n1, hn1⟩ : ∃ n, s.out.length = n := ⟨_, rfl⟩
    rw [hn1]
    have S1 := hid h1
    have G1 := hid g1
    clear h1 g1 hn1
    go_wp2_with fail
    go_end0
    exact ⟨⟨_, rfl⟩, S1.out, F0.out.trans G1.out⟩
  rw [if_neg k17] at hLZ
  have z17 : (kd == 17) = false := by simp [k17]
  by_cases k18 : kd = 18
  · rw [if_pos k18] at hLZ
    subst hLZ
    subst k18
    go_wp2_with fail
    refine (putM_calls ⟨17, 0, 0, 0⟩ S0.out (by have := HB.out; omega)).mono ?_
    rintro e X1 ⟨rfl, h1, g1⟩
    obtain ⟨n1, hn1⟩ : ∃ n, s.out.length = n := ⟨_, rfl⟩
    rw [hn1]
    have S1 := hid h1
    have G1 := hid g1
    clear h1 g1 hn1
    go_wp2_with fail
    go_end0
    exact ⟨⟨_, rfl⟩, S1.out, F0.out.trans G1.out⟩
  rw [if_neg k18] at hLZ
  have z18 : (kd == 18) = false := by simp [k18]
  by_cases k19 : kd = 19
  · rw [if_pos k19] at hLZ
    subst hLZ
    subst k19
    go_wp2_with fail
    refine (putM_calls ⟨18, 0, 0, 0⟩ S0.out (by have := HB.out; omega)).mono ?_
    rintro e X1 ⟨rfl, h1, g1⟩
    obtain ⟨n1, hn1⟩ : ∃ n, s.out.length = n := ⟨_, rfl⟩
    rw [hn1]
    have S1 := hid h1
    have G1 := hid g1
    clear h1 g1 hn1
    go_wp2_with fail
    go_end0
    exact ⟨⟨_, rfl⟩, S1.out, F0.out.trans G1.out⟩
  rw [if_neg k19] at hLZ
  have z19 : (kd == 19) = false := by simp [k19]
  by_cases k21 : kd = 21
  · rw [if_pos k21] at hLZ
    subst hLZ
    subst k21
    go_wp2_with fail
    refine (putM_calls ⟨20, 0, 0, 0⟩ S0.out (by have := HB.out; omega)).mono ?_
    rintro e X1 ⟨rfl, h1, g1⟩
    obtain ⟨n1, hn1⟩ : ∃ n, s.out.length = n := ⟨_, rfl⟩
    rw [hn1]
    have S1 := hid h1
    have G1 := hid g1
    clear h1 g1 hn1
    go_wp2_with fail
    go_end0
    exact ⟨⟨_, rfl⟩, S1.out, F0.out.trans G1.out⟩
  rw [if_neg k21] at hLZ
  have z21 : (kd == 21) = false := by simp [k21]
  by_cases k22 : kd = 22
  · rw [if_pos k22] at hLZ
    subst hLZ
    subst k22
    go_upto_region 16 with fail
    have hD : Below Y.heap.size Y Y.drew := (Below.refl _ _).drew
    obtain ⟨D, hDe⟩ : ∃ D, Y.drew = D := ⟨_, rfl⟩
    rw [hDe] at hD
    have S1 := hid (S0.out.below hD)
    have G1 := hid (Cf.of_below hD)
    have hS : (fun w' : World => w'.cell? ⟨Mb, 0, none⟩ = some (.slice ae es.length ce) ∧ w'.cell? ⟨W.heap.size, 2, none⟩ = some (.string a)) D := ⟨S1.out.effs, by rw [← hDe]; exact e2⟩
    refine pick_begin (S := fun w' => w'.cell? ⟨Mb, 0, none⟩ = some (.slice ae es.length ce) ∧ w'.cell? ⟨W.heap.size, 2, none⟩ = some (.string a)) (by kernel_rfl) rfl rfl ?_
    rw [hDe]
    clear hDe hD e0 e2 d0
    refine pick_op (i := 0) (v := .pointer (some ⟨Mb, 0, none⟩)) (by kernel_rfl) rfl (by kernel_rfl) (by kernel_rfl) rfl rfl (fun w' _ => by simp [go_sem]) hS (by simp [go_sem]; exact rfl) ?_
    refine pick_op (i := 1) (v := .pointer (some ⟨Mb, 0, none⟩)) (by kernel_rfl) rfl (by kernel_rfl) (by kernel_rfl) rfl rfl (fun w' _ => by simp [go_sem]) hS (by simp [go_sem]; exact rfl) ?_
    refine pick_op (i := 2) (v := .pointer (some ⟨Mb, 0, none⟩)) (by kernel_rfl) rfl (by kernel_rfl) (by kernel_rfl) rfl rfl (fun w' _ => by simp [go_sem]) hS (by simp [go_sem]; exact rfl) ?_
    refine pick_op (i := 3) (v := .pointer (some ⟨Mb, 0, none⟩)) (by kernel_rfl) rfl (by kernel_rfl) (by kernel_rfl) rfl rfl (fun w' _ => by simp [go_sem]) hS (by simp [go_sem]; exact rfl) ?_
    refine pick_op (i := 4) (v := .pointer (some ⟨Mb, 0, none⟩)) (by kernel_rfl) rfl (by kernel_rfl) (by kernel_rfl) rfl rfl (fun w' _ => by simp [go_sem]) hS (by simp [go_sem]; exact rfl) ?_
    refine pick_op (i := 5) (v := .slice ae es.length ce) (by kernel_rfl) rfl (by kernel_rfl) (by kernel_rfl) rfl rfl (fun w' h => by simp [go_sem, h.1]) hS (by simp [go_sem]; exact rfl) ?_
    refine pick_op (i := 6) (v := .pointer (some ⟨W.heap.size, 2, none⟩)) (by kernel_rfl) rfl (by kernel_rfl) (by kernel_rfl) rfl rfl (fun w' _ => by simp [go_sem]) hS (by simp [go_sem]; exact rfl) ?_
    refine pick_op (i := 7) (v := .string a) (by kernel_rfl) rfl (by kernel_rfl) (by kernel_rfl) rfl rfl (fun w' h => by simp [go_sem, h.2]) hS (by simp [go_sem]; exact rfl) ?_
    refine pick_enter (i := 8) (f := 41) (args := #[.slice ae es.length ce, .string a]) rfl (by kernel_rfl) rfl rfl (by simp [go_sem]) ?_
    refine (l2Eff_calls ae ce es a D (by have := HX.out.el; omega) (cx_effs HX.out S1.out)).mono ?_
    rintro e Xk ⟨rfl, rfl⟩
    refine ⟨_, rfl, hS, ?_⟩
    refine pick_frame (by simp [go_sem]; exact rfl) ?_
    refine pick_op (i := 9) (v := .agg #[.int .i64 22, .int .i64 (effPlace es a 0), .int .i64 0, .int .i64 0]) (by kernel_rfl) rfl (by kernel_rfl) (by kernel_rfl) rfl rfl (fun w' _ => by simp [go_sem]) hS (by simp [go_sem]; exact rfl) ?_
    refine pick_enter (i := 10) (f := 31) (args := #[.pointer (some ⟨Mb, 0, none⟩), .agg #[.int .i64 22, .int .i64 (effPlace es a 0), .int .i64 0, .int .i64 0]]) rfl (by kernel_rfl) rfl rfl (by simp [go_sem]) ?_
    refine (putM_calls ⟨22, effPlace es a 0, 0, 0⟩ S1.out (by have := HB.out; omega)).mono ?_
    rintro e X1 ⟨rfl, h1, g1⟩
    obtain ⟨n1, hn1⟩ : ∃ n, s.out.length = n := ⟨_, rfl⟩
    rw [hn1]
    have S2 := hid h1
    have G2 := hid (G1.out.trans g1)
    clear h1 g1 hn1
    have hbx := (G2.out.block W.heap.size _ _ HA.out (by decide) (by decide) (by decide)).trans HA.out
    refine ⟨_, rfl, ⟨S2.out.effs, cell_of_heap hbx 2⟩, ?_⟩
    clear hbx hS
    refine pick_frame (by simp [go_sem]; exact rfl) ?_
    refine pick_end (by kernel_rfl) ?_
    go_wp2_with fail
    go_end0
    exact ⟨⟨_, rfl⟩, S2.out, F0.out.trans G2.out⟩
  rw [if_neg k22] at hLZ
  have z22 : (kd == 22) = false := by simp [k22]
  subst hLZ
  go_wp2_with fail
  refine (putM_calls ⟨14, kd, 0, 0⟩ S0.out (by have := HB.out; omega)).mono ?_
  rintro e X1 ⟨rfl, h1, g1⟩
  obtain ⟨n1, hn1⟩ : ∃ n, s.out.length = n := ⟨_, rfl⟩
  rw [hn1]
  have S1 := hid h1
  have G1 := hid g1
  clear h1 g1 hn1
  go_wp2_with fail
  go_end0
  exact ⟨⟨_, rfl⟩, S1.out, F0.out.trans G1.out⟩
end
end Go.Proofs.YtegjdgiegnofhaaDoor

/- A handler's code; a part whose kids are made one behind the other; every part. -/
namespace Go.Proofs.YtegjdgiegnofhaaDoor
open Go.RowKit Go.Deep

set_option maxRecDepth 100000 in
theorem one_calls (x : Bool) (W : World) : Calls Tryd.prog 72 #[.bool x] W fun e W' => e = .returned (.int .i64 (if x = true then 1 else 0)) ∧ W = W' := by
  cases x with
  | true =>
    go_enter Tryd.func72, Tryd.ntmps72
    go_wp2_with fail
    go_ret
    exact ⟨rfl, rfl⟩
  | false =>
    go_enter Tryd.func72, Tryd.ntmps72
    go_wp2_with fail
    go_ret
    exact ⟨rfl, rfl⟩

theorem take_next {l : List Tp} {j : Nat} (h : j < l.length) : l.take (j + 1) = l.take j ++ [l.getD j default] := by
  rw [List.take_add_one]
  simp [List.getD, h]

theorem sum_take (l : List Tp) (j : Nat) : ((l.take j).map Tp.size).sum ≤ (l.map Tp.size).sum := by
  have := congrArg (fun l => (List.map Tp.size l).sum) (List.take_append_drop j l)
  simp only [List.map_append, List.sum_append] at this
  omega

theorem sum_next {l : List Tp} {j : Nat} (h : j < l.length) : ((l.take j).map Tp.size).sum + (l.getD j default).size ≤ (l.map Tp.size).sum := by
  have h1 := sum_take l (j + 1)
  rw [take_next h] at h1
  simp only [List.map_append, List.sum_append, List.map_cons, List.map_nil, List.sum_cons, List.sum_nil] at h1
  omega

section
variable {W0 : World} {Mb : Nat} {ae : Option Addr} {ce b off cap : Nat} {es : List Ef} {ns : List Nd} {K F : Nat}

set_option maxHeartbeats 4000000 in
set_option maxRecDepth 100000 in
theorem part_k (cx : Cx W0 Mb ae b off es ns) (hk1 : K ≤ 1000) (ih : PartC W0 Mb ae ce b off cap es ns K F) {t : Tp} {ss : List ByteArray} {s : Cs} {v : Value} {W : World} (hF : t.size ≤ F + 1) (hs : Stands ns t) (hK : ss.length + 2 * t.size ≤ K) (hB : s.out.length + 10 * s.rest + 10 * t.size ≤ 950000) (h : CmE W0 Mb (.slice ae es.length ce) (.slice (some ⟨b, off, none⟩) ns.length cap) s W) (hv : NmT W v ss) (ek : t.n.kind ≠ 1 ∧ t.n.kind ≠ 2 ∧ t.n.kind ≠ 3 ∧ t.n.kind ≠ 4 ∧ t.n.kind ≠ 5 ∧ t.n.kind ≠ 6 ∧ t.n.kind ≠ 8 ∧ t.n.kind ≠ 9 ∧ t.n.kind ≠ 10 ∧ t.n.kind ≠ 20 ∧ t.n.kind ≠ 23 ∧ t.n.kind ≠ 24) :
    Calls Tryd.prog 30 #[.pointer (some ⟨Mb, 0, none⟩), .int .i64 (t.at_ : Int), v] W (LeadPost W0 Mb (.slice ae es.length ce) (.slice (some ⟨b, off, none⟩) ns.length cap) ((t.kids.foldl (fun s c => partZ es F c ss s) s).put (lastZ es t.n)) W) := by
  obtain ⟨adn, cpn, rfl⟩ := hv.is
  have hnc := cx_nodes cx h
  obtain ⟨hlt, hat, hsz⟩ := hs.lt
  have c0 := hnc t.at_ hlt 0 (by omega)
  have c1 := hnc t.at_ hlt 1 (by omega)
  have c2 := hnc t.at_ hlt 2 (by omega)
  have c3 := hnc t.at_ hlt 3 (by omega)
  have c4 := hnc t.at_ hlt 4 (by omega)
  have c5 := hnc t.at_ hlt 5 (by omega)
  rw [hat] at c0 c1 c2 c3 c4 c5
  simp only [Nd.cell, Nat.add_zero] at c0 c1 c2 c3 c4 c5
  have d1 := h.tree
  have hA := (MapKept.heap_alloc W (.cells #[.int .i64 t.n.kind, .int .i64 t.n.num, .string t.n.a, .string t.n.b, .string t.n.c, .int .i64 t.n.kids] 90)).1
  have hB1 := (Below.refl W.heap.size W).alloc (Nat.le_refl _) (.cells #[.int .i64 t.n.kind, .int .i64 t.n.num, .string t.n.a, .string t.n.b, .string t.n.c, .int .i64 t.n.kids] 90)
  obtain ⟨Y, hY⟩ : ∃ Y, W.alloc (.cells #[.int .i64 t.n.kind, .int .i64 t.n.num, .string t.n.a, .string t.n.b, .string t.n.c, .int .i64 t.n.kids] 90) = Y := ⟨_, rfl⟩
  rw [hY] at hA hB1
  have HY := hid hY
  have HA := hid hA
  have S0 := hid (h.below hB1)
  have F0 := hid (Cf.of_below hB1)
  have N0 := hid (hv.frame (Cf.of_below hB1))
  have G0 := hid (Cf.refl Y)
  have R0 := hid (Rs.refl ns K s)
  have hgood := hs.toGood
  have HC : Hid ((t.n.kids = (t.k.count : Int)) ∧ t.k.count ≤ 1000) := ⟨hs.kids, by have h1 := Fo.count_le t.k; have h2 := cx.tl; unfold Tp.size at hsz; omega⟩
  have HZ : Hid ((t.kids.map Tp.size).sum + 1 = t.size) := t.kids_sum
  have hp0 : (0 : Int) ≤ (t.at_ : Int) := by omega
  have hpl : (t.at_ : Int) < (ns.length : Int) := by omega
  have HP1 : Hid (0 < t.k.count → wrap64 ((t.at_ : Int) + 1) = ((t.kid 0).at_ : Int)) := fun h0 => by rw [hs.first h0]; have := cx.tl; unfold wrap64; omega
  have HX := hid cx
  have HIH := hid ih
  have HS := hid hs
  have HK := hid (And.intro hK (And.intro hF hk1))
  have HB := hid hB
  clear hA hB1 hY h hv hnc hlt hat hsz hgood cx ih hs hK hF hB hk1
  go_enter Tryd.func30, Tryd.ntmps30
  go_upto_region 1 with fail
  rw [HY.out]
  clear HY c0 c1 c2 c3 c4 c5 d1
  obtain ⟨kd, hkd⟩ : ∃ kd, t.n.kind = kd := ⟨_, rfl⟩
  obtain ⟨kc, hkc⟩ : ∃ kc : Nat, t.k.count = kc := ⟨_, rfl⟩
  have hkk : t.n.kids = (kc : Int) := by rw [← hkc]; exact HC.out.1
  have HKc := hid hkc
  have HKd := hid hkd
  rw [hkd] at ek HA
  rw [hkk] at HA
  obtain ⟨k1, k2, k3, k4, k5, k6, k8, k9, k10, k20, k23, k24⟩ := ek
  have z1 : (kd == 1) = false := by simp [k1]
  have z2 : (kd == 2) = false := by simp [k2]
  have z3 : (kd == 3) = false := by simp [k3]
  have z4 : (kd == 4) = false := by simp [k4]
  have z5 : (kd == 5) = false := by simp [k5]
  have z6 : (kd == 6) = false := by simp [k6]
  have z8 : (kd == 8) = false := by simp [k8]
  have z9 : (kd == 9) = false := by simp [k9]
  have z10 : (kd == 10) = false := by simp [k10]
  have z20 : (kd == 20) = false := by simp [k20]
  have z23 : (kd == 23) = false := by simp [k23]
  have z24 : (kd == 24) = false := by simp [k24]
  clear hkd hkc k1 k2 k3 k4 k5 k6 k8 k9 k10 k20 k23 k24
  have hbx := (G0.out.block W.heap.size _ _ HA.out (by decide) (by decide) (by decide)).trans HA.out
  have e0 := cell_of_heap hbx 0
  have e1 := cell_of_heap hbx 1
  have e2 := cell_of_heap hbx 2
  have e3 := cell_of_heap hbx 3
  have e4 := cell_of_heap hbx 4
  have e5 := cell_of_heap hbx 5
  have d0 := S0.out.effs
  have d1 := S0.out.tree
  simp at e0 e1 e2 e3 e4 e5
  clear hbx
  try rw [HKd.out]
  try rw [hkk]
  go_wp2_with fail
  clear e0 e1 e2 e3 e4 e5 d0 d1
  go_loopw [11] (fun i wr => ∃ j : Nat, i = .int .i64 (j : Int) ∧ j ≤ kc ∧ Hid (CmE W0 Mb (.slice ae es.length ce) (.slice (some ⟨b, off, none⟩) ns.length cap) ((t.kids.take j).foldl (fun s c => partZ es F c ss s) s) wr ∧ Cf Y wr ∧ Rs ns K (10 * ((t.kids.take j).map Tp.size).sum) (((t.kids.take j).map Tp.size).sum) s ((t.kids.take j).foldl (fun s c => partZ es F c ss s) s))) (fun i _ => kc - (intOf i).toNat)
  case atStart => exact ⟨0, rfl, Nat.zero_le _, S0.out, G0.out, Rs.refl ns K s⟩
  case round =>
    obtain ⟨j, rfl, hj, HI⟩ := hrel
    have hbx := (HI.out.2.1.block W.heap.size _ _ HA.out (by decide) (by decide) (by decide)).trans HA.out
    have e0 := cell_of_heap hbx 0
    have e1 := cell_of_heap hbx 1
    have e2 := cell_of_heap hbx 2
    have e3 := cell_of_heap hbx 3
    have e4 := cell_of_heap hbx 4
    have e5 := cell_of_heap hbx 5
    have d1 := HI.out.1.tree
    simp at e0 e1 e2 e3 e4 e5
    clear hbx
    by_cases hjc : (j : Int) < (kc : Int)
    · have hjl : j < t.kids.length := by rw [t.kids_len, HKc.out]; omega
      have HN := hid (And.intro (sum_next hjl) (And.intro (take_next hjl) hjl))
      have hstep : kc - (intOf (.int .i64 ((j + 1 : Nat) : Int))).toNat < kc - (intOf (.int .i64 (j : Int))).toNat := by simp only [intOf, Int.toNat_natCast]; omega
      clear hjl
      go_wp2_with fail
      refine (kid_calls (cap := cap) j wr (cx_nodes HX.out HI.out.1) HX.out.tl HS.out (by have := HKc.out; omega)).mono ?_
      rintro e Xk ⟨rfl, rfl⟩
      clear e0 e1 e2 e3 e4 e5
      go_wp2_with fail
      have HG : Hid (t.kids.getD j default = t.kid j) := rfl
      refine (HIH.out (t.kid j) ss _ _ _ (by have := HN.out.1; have := HZ.out; have := HK.out; rw [HG.out] at *; omega) (HS.out.kid (by have := HKc.out; omega)) (by have := HN.out.1; have := HZ.out; have := HK.out; rw [HG.out] at *; omega) (by have h1 := HN.out.1; have := HZ.out; have := HB.out; have := HI.out.2.2.cost; rw [HG.out] at h1; omega) HI.out.1 (N0.out.frame HI.out.2.1)).mono ?_
      rintro e X2 ⟨⟨x2, rfl⟩, h2, g2⟩
      have HI2 : Hid (CmE W0 Mb (.slice ae es.length ce) (.slice (some ⟨b, off, none⟩) ns.length cap) ((t.kids.take (j + 1)).foldl (fun s c => partZ es F c ss s) s) X2 ∧ Cf Y X2 ∧ Rs ns K (10 * ((t.kids.take (j + 1)).map Tp.size).sum) (((t.kids.take (j + 1)).map Tp.size).sum) s ((t.kids.take (j + 1)).foldl (fun s c => partZ es F c ss s) s)) := by
        have hr := part_r (ns := ns) (K := K) (es := es) F (t.kid j) ss ((t.kids.take j).foldl (fun s c => partZ es F c ss s) s) (by have := HN.out.1; have := HZ.out; have := HK.out; rw [HG.out] at *; omega) (HS.out.kid (by have := HKc.out; omega)) (by have := HN.out.1; have := HZ.out; have := HK.out; rw [HG.out] at *; omega)
        rw [HN.out.2.1, List.foldl_append]
        refine ⟨h2, HI.out.2.1.trans g2, (HI.out.2.2.trans hr).mono ?_ ?_⟩
        · simp only [List.map_append, List.sum_append, List.map_cons, List.map_nil, List.sum_cons, List.sum_nil, HG.out]
          omega
        · simp only [List.map_append, List.sum_append, List.map_cons, List.map_nil, List.sum_cons, List.sum_nil, HG.out]
          omega
      clear h2 g2
      have hj9 : Hid (j ≤ 1000) := by show _ ≤ _; have := HC.out.2; have := HKc.out; omega
      go_wp2_with fail
      try rw [wrap_succ (by have := hj9.out; omega)]
      exact ⟨⟨j + 1, rfl, by omega, HI2⟩, hstep⟩
    · have ej : j = kc := by omega
      subst ej
      have HT : Hid (t.kids.take j = t.kids) := List.take_of_length_le (by rw [t.kids_len, HKc.out]; exact Nat.le_refl _)
      rw [HT.out] at HI
      go_wp2_with fail
      have HL := hid (last_calls (ce := ce) (cap := cap) HX.out t.n (by have := HI.out.2.2.cost; have := HB.out; have := HZ.out; omega) HI.out.1)
      rw [hkk, HKd.out] at HL
      refine HL.out.mono ?_
      rintro e X3 ⟨⟨x3, rfl⟩, h3, g3⟩
      have S3 := hid h3
      have G3 := hid (HI.out.2.1.trans g3)
      clear h3 g3 e0 e1 e2 e3 e4 e5 d1 HL
      go_wp2_with fail
      go_end0
      exact ⟨⟨_, rfl⟩, S3.out, F0.out.trans G3.out⟩

set_option maxHeartbeats 4000000 in
set_option maxRecDepth 100000 in
theorem hand_calls (cx : Cx W0 Mb ae b off es ns) (hk1 : K ≤ 1000) (ih : PartC W0 Mb ae ce b off cap es ns K F) {t : Tp} {ss : List ByteArray} {s : Cs} {v : Value} {W : World} (hF : t.size ≤ F + 1) (hs : Stands ns t) (hK : ss.length + 2 * t.size ≤ K) (hB : s.out.length + 10 * s.rest + 10 * t.size ≤ 950000) (h : CmE W0 Mb (.slice ae es.length ce) (.slice (some ⟨b, off, none⟩) ns.length cap) s W) (hv : NmT W v ss) (ek : t.n.kind = 23 ∨ t.n.kind = 24) :
    Calls Tryd.prog 48 #[.pointer (some ⟨Mb, 0, none⟩), .int .i64 (t.at_ : Int), v] W (LeadPost W0 Mb (.slice ae es.length ce) (.slice (some ⟨b, off, none⟩) ns.length cap) (handZ es (partZ es F) t ss s) W) := by
  obtain ⟨adn, cpn, rfl⟩ := hv.is
  have hnc := cx_nodes cx h
  obtain ⟨hlt, hat, hsz⟩ := hs.lt
  have c0 := hnc t.at_ hlt 0 (by omega)
  have c1 := hnc t.at_ hlt 1 (by omega)
  have c2 := hnc t.at_ hlt 2 (by omega)
  have c3 := hnc t.at_ hlt 3 (by omega)
  have c4 := hnc t.at_ hlt 4 (by omega)
  have c5 := hnc t.at_ hlt 5 (by omega)
  rw [hat] at c0 c1 c2 c3 c4 c5
  simp only [Nd.cell, Nat.add_zero] at c0 c1 c2 c3 c4 c5
  have d1 := h.tree
  have hA := (MapKept.heap_alloc W (.cells #[.int .i64 t.n.kind, .int .i64 t.n.num, .string t.n.a, .string t.n.b, .string t.n.c, .int .i64 t.n.kids] 90)).1
  have hB1 := (Below.refl W.heap.size W).alloc (Nat.le_refl _) (.cells #[.int .i64 t.n.kind, .int .i64 t.n.num, .string t.n.a, .string t.n.b, .string t.n.c, .int .i64 t.n.kids] 90)
  obtain ⟨Y, hY⟩ : ∃ Y, W.alloc (.cells #[.int .i64 t.n.kind, .int .i64 t.n.num, .string t.n.a, .string t.n.b, .string t.n.c, .int .i64 t.n.kids] 90) = Y := ⟨_, rfl⟩
  rw [hY] at hA hB1
  have HY := hid hY
  have HA := hid hA
  have S0 := hid (h.below hB1)
  have F0 := hid (Cf.of_below hB1)
  have N0 := hid (hv.frame (Cf.of_below hB1))
  have G0 := hid (Cf.refl Y)
  have R0 := hid (Rs.refl ns K s)
  have hgood := hs.toGood
  have HC : Hid (2 ≤ t.k.count ∧ t.k.count ≤ 6 ∧ t.n.kids = (t.k.count : Int) ∧ ∀ c ∈ t.kids.drop 1, c.n.kids = 1 ∧ c.k.count = 1) := ⟨((arity_at hgood).2.1 (by rcases ek with e | e <;> rw [e] <;> rfl)).1, ((arity_at hgood).2.1 (by rcases ek with e | e <;> rw [e] <;> rfl)).2, hs.kids, hs.head ek⟩
  have HZ : Hid ((t.kid 0).size + (t.kid 1).size + ((t.kids.drop 2).map Tp.size).sum + 1 = t.size ∧ 1 ≤ (t.kid 0).size ∧ 1 ≤ (t.kid 1).size ∧ (t.kid 1).k.count = 1 ∧ ((t.kid 1).kid 0).size + 1 = (t.kid 1).size) := by have e0 := kidsM HC.out.1; have e1 := (HC.out.2.2.2 (t.kid 1) (by rw [e0.1]; simp)).2; exact ⟨e0.2, (t.kid 0).size_pos, (t.kid 1).size_pos, e1, (kids1 e1).2⟩
  have hp0 : (0 : Int) ≤ (t.at_ : Int) := by omega
  have hpl : (t.at_ : Int) < (ns.length : Int) := by omega
  have HP1 : Hid (0 < t.k.count → wrap64 ((t.at_ : Int) + 1) = ((t.kid 0).at_ : Int)) := fun h0 => by rw [hs.first h0]; have := cx.tl; unfold wrap64; omega
  have HX := hid cx
  have HIH := hid ih
  have HS := hid hs
  have HK := hid (And.intro hK (And.intro hF hk1))
  have HB := hid hB
  clear hA hB1 hY h hv hnc hlt hat hsz hgood cx ih hs hK hF hB hk1
  go_enter Tryd.func48, Tryd.ntmps48
  go_upto_region 1 with fail
  rw [HY.out]
  clear HY c0 c1 c2 c3 c4 c5 d1
  obtain ⟨kd, hkd⟩ : ∃ kd, t.n.kind = kd := ⟨_, rfl⟩
  obtain ⟨kc, hkc⟩ : ∃ kc : Nat, t.k.count = kc := ⟨_, rfl⟩
  have hkk : t.n.kids = (kc : Int) := by rw [← hkc]; exact HC.out.2.2.1
  have HKc := hid hkc
  have HKd := hid hkd
  obtain ⟨z, hz⟩ : ∃ z : Int, (if t.n.kind = 23 then 1 else 0) = z := ⟨_, rfl⟩
  have HZz : Hid ((if (kd == 23) = true then (1 : Int) else 0) = z) := by show _ = _; rw [← hz, hkd]; simp
  have HZq := hid hz
  have HW2 : Hid (wrap64 ((kc : Int) - 2) = t.n.kids - 2) := by show _ = _; have := HC.out; rw [hkk]; unfold wrap64; omega
  have HP2 : Hid (wrap64 (((t.kid 1).at_ : Int) + 1) = (((t.kid 1).kid 0).at_ : Int)) := by show _ = _; have h1 := HS.out.kid (i := 1) (by have := HC.out; omega); rw [h1.first (by have := HZ.out; omega)]; have := h1.lt; have := HX.out.tl; unfold wrap64; omega
  have hr0 : (0 : Int) ≤ ((t.kid 1).at_ : Int) := by omega
  have hrl : ((t.kid 1).at_ : Int) < (ns.length : Int) := by have := (HS.out.kid (i := 1) (by have := HC.out; omega)).lt; omega
  have HCr : Hid (∀ X, NodesAt X b off ns → X.cell? ⟨b, off + (t.kid 1).at_ * 6 + 2, none⟩ = some (.string (t.kid 1).n.a)) := fun X hX => by have h1 := (HS.out.kid (i := 1) (by have := HC.out; omega)).lt; rw [hX _ h1.1 2 (by omega), h1.2.1]; rfl
  rw [hkd] at HA
  rw [hkk] at HA
  clear hkd hkc hz ek
  have hbx := (G0.out.block W.heap.size _ _ HA.out (by decide) (by decide) (by decide)).trans HA.out
  have e0 := cell_of_heap hbx 0
  have e1 := cell_of_heap hbx 1
  have e2 := cell_of_heap hbx 2
  have e3 := cell_of_heap hbx 3
  have e4 := cell_of_heap hbx 4
  have e5 := cell_of_heap hbx 5
  have d0 := S0.out.effs
  have d1 := S0.out.tree
  simp at e0 e1 e2 e3 e4 e5
  clear hbx
  try rw [HKd.out]
  try rw [hkk]
  go_wp2_with fail
  clear e0 e1 e2 e3 e4 e5 d0 d1
  refine (one_calls (kd == 23) Y).mono ?_
  rintro e Xo ⟨rfl, rfl⟩
  rw [HZz.out]
  have hbx := (G0.out.block W.heap.size _ _ HA.out (by decide) (by decide) (by decide)).trans HA.out
  have e0 := cell_of_heap hbx 0
  have e1 := cell_of_heap hbx 1
  have e2 := cell_of_heap hbx 2
  have e3 := cell_of_heap hbx 3
  have e4 := cell_of_heap hbx 4
  have e5 := cell_of_heap hbx 5
  have d0 := S0.out.effs
  have d1 := S0.out.tree
  simp at e0 e1 e2 e3 e4 e5
  clear hbx
  go_wp2_with fail
  clear e0 e1 e2 e3 e4 e5 d0 d1
  refine (putM_calls ⟨21, 0, z, 0⟩ S0.out (by have r := R0.out.cost; have hb := HB.out; have hz := HZ.out; omega)).mono ?_
  rintro e X1 ⟨rfl, h1, g1⟩
  obtain ⟨n1, hn1⟩ : ∃ n, (s).out.length = n := ⟨_, rfl⟩
  rw [hn1]
  have H1 := hid hn1
  have tn : n1 < (Cs.put (s) ⟨21, 0, z, 0⟩).out.length := by rw [← hn1]; simp [Cs.put]
  have S1 := hid h1
  have G1 : Hid (Cf Y X1) := G0.out.trans g1
  have Q1 := hid (Rs.put ns K (s) ⟨21, 0, z, 0⟩)
  have R1 := hid (R0.out.trans Q1.out)
  have Tn1_1 := hid tn
  clear h1 g1 hn1 tn
  have hbx := (G1.out.block W.heap.size _ _ HA.out (by decide) (by decide) (by decide)).trans HA.out
  have e0 := cell_of_heap hbx 0
  have e1 := cell_of_heap hbx 1
  have e2 := cell_of_heap hbx 2
  have e3 := cell_of_heap hbx 3
  have e4 := cell_of_heap hbx 4
  have e5 := cell_of_heap hbx 5
  have d0 := S1.out.effs
  have d1 := S1.out.tree
  simp at e0 e1 e2 e3 e4 e5
  clear hbx
  go_wp2_with fail
  clear e0 e1 e2 e3 e4 e5 d0 d1
  rw [HP1.out (by have := HC.out; omega)]
  refine (HIH.out (t.kid 0) (ss) ((Cs.put (s) ⟨21, 0, z, 0⟩)) _ _ (by have := HZ.out; have := HK.out; omega) (HS.out.kid (by have := HC.out; omega)) (by have := HK.out; have := HZ.out; (try simp only [List.length_append, List.length_cons, List.length_nil]); omega) (by have r := R1.out.cost; have hb := HB.out; have hz := HZ.out; omega) S1.out (N0.out.frame G1.out)).mono ?_
  rintro e X2 ⟨⟨x2, rfl⟩, h1, g1⟩
  have S2 := hid h1
  have G2 : Hid (Cf Y X2) := G1.out.trans g1
  have Q2 := hid (part_r (ns := ns) (K := K) (es := es) F (t.kid 0) (ss) ((Cs.put (s) ⟨21, 0, z, 0⟩)) (by have := HZ.out; have := HK.out; omega) (HS.out.kid (by have := HC.out; omega)) (by have := HK.out; have := HZ.out; (try simp only [List.length_append, List.length_cons, List.length_nil]); omega))
  have R2 := hid (R1.out.trans Q2.out)
  have Tn1_2 := hid (Nat.lt_of_lt_of_le Tn1_1.out Q2.out.out)
  clear h1 g1
  have hbx := (G2.out.block W.heap.size _ _ HA.out (by decide) (by decide) (by decide)).trans HA.out
  have e0 := cell_of_heap hbx 0
  have e1 := cell_of_heap hbx 1
  have e2 := cell_of_heap hbx 2
  have e3 := cell_of_heap hbx 3
  have e4 := cell_of_heap hbx 4
  have e5 := cell_of_heap hbx 5
  have d0 := S2.out.effs
  have d1 := S2.out.tree
  simp at e0 e1 e2 e3 e4 e5
  clear hbx
  go_wp2_with fail
  clear e0 e1 e2 e3 e4 e5 d0 d1
  refine (putM_calls ⟨23, 0, 0, 0⟩ S2.out (by have r := R2.out.cost; have hb := HB.out; have hz := HZ.out; omega)).mono ?_
  rintro e X3 ⟨rfl, h1, g1⟩
  obtain ⟨n3, hn3⟩ : ∃ n, ((partZ es F (t.kid 0) (ss) ((Cs.put (s) ⟨21, 0, z, 0⟩)))).out.length = n := ⟨_, rfl⟩
  rw [hn3]
  have H3 := hid hn3
  have tn : n3 < (Cs.put ((partZ es F (t.kid 0) (ss) ((Cs.put (s) ⟨21, 0, z, 0⟩)))) ⟨23, 0, 0, 0⟩).out.length := by rw [← hn3]; simp [Cs.put]
  have S3 := hid h1
  have G3 : Hid (Cf Y X3) := G2.out.trans g1
  have Q3 := hid (Rs.put ns K ((partZ es F (t.kid 0) (ss) ((Cs.put (s) ⟨21, 0, z, 0⟩)))) ⟨23, 0, 0, 0⟩)
  have R3 := hid (R2.out.trans Q3.out)
  have Tn1_3 := hid (Nat.lt_of_lt_of_le Tn1_2.out Q3.out.out)
  have Tn3_3 := hid tn
  clear h1 g1 hn3 tn
  have hbx := (G3.out.block W.heap.size _ _ HA.out (by decide) (by decide) (by decide)).trans HA.out
  have e0 := cell_of_heap hbx 0
  have e1 := cell_of_heap hbx 1
  have e2 := cell_of_heap hbx 2
  have e3 := cell_of_heap hbx 3
  have e4 := cell_of_heap hbx 4
  have e5 := cell_of_heap hbx 5
  have d0 := S3.out.effs
  have d1 := S3.out.tree
  simp at e0 e1 e2 e3 e4 e5
  clear hbx
  go_wp2_with fail
  clear e0 e1 e2 e3 e4 e5 d0 d1
  refine (lead_calls n1 0 S3.out (by have r := R3.out.cost; have hb := HB.out; have hz := HZ.out; omega) Tn1_3.out (by decide)).mono ?_
  rintro e X4 ⟨⟨x4, rfl⟩, h1, g1⟩
  have S4 := hid h1
  have G4 : Hid (Cf Y X4) := G3.out.trans g1
  have Q4 := hid (Rs.lead ns K ((Cs.put ((partZ es F (t.kid 0) (ss) ((Cs.put (s) ⟨21, 0, z, 0⟩)))) ⟨23, 0, 0, 0⟩)) n1 0)
  have R4 := hid (R3.out.trans Q4.out)
  have Tn1_4 := hid (Nat.lt_of_lt_of_le Tn1_3.out Q4.out.out)
  have Tn3_4 := hid (Nat.lt_of_lt_of_le Tn3_3.out Q4.out.out)
  clear h1 g1
  have hbx := (G4.out.block W.heap.size _ _ HA.out (by decide) (by decide) (by decide)).trans HA.out
  have e0 := cell_of_heap hbx 0
  have e1 := cell_of_heap hbx 1
  have e2 := cell_of_heap hbx 2
  have e3 := cell_of_heap hbx 3
  have e4 := cell_of_heap hbx 4
  have e5 := cell_of_heap hbx 5
  have d0 := S4.out.effs
  have d1 := S4.out.tree
  simp at e0 e1 e2 e3 e4 e5
  clear hbx
  go_wp2_with fail
  clear e0 e1 e2 e3 e4 e5 d0 d1
  rw [HW2.out]
  refine (putM_calls ⟨24, 0, t.n.kids - 2, 0⟩ S4.out (by have r := R4.out.cost; have hb := HB.out; have hz := HZ.out; omega)).mono ?_
  rintro e X5 ⟨rfl, h1, g1⟩
  obtain ⟨n5, hn5⟩ : ∃ n, ((Cs.lead ((Cs.put ((partZ es F (t.kid 0) (ss) ((Cs.put (s) ⟨21, 0, z, 0⟩)))) ⟨23, 0, 0, 0⟩)) n1 0)).out.length = n := ⟨_, rfl⟩
  rw [hn5]
  have H5 := hid hn5
  have tn : n5 < (Cs.put ((Cs.lead ((Cs.put ((partZ es F (t.kid 0) (ss) ((Cs.put (s) ⟨21, 0, z, 0⟩)))) ⟨23, 0, 0, 0⟩)) n1 0)) ⟨24, 0, t.n.kids - 2, 0⟩).out.length := by rw [← hn5]; simp [Cs.put]
  have S5 := hid h1
  have G5 : Hid (Cf Y X5) := G4.out.trans g1
  have Q5 := hid (Rs.put ns K ((Cs.lead ((Cs.put ((partZ es F (t.kid 0) (ss) ((Cs.put (s) ⟨21, 0, z, 0⟩)))) ⟨23, 0, 0, 0⟩)) n1 0)) ⟨24, 0, t.n.kids - 2, 0⟩)
  have R5 := hid (R4.out.trans Q5.out)
  have Tn1_5 := hid (Nat.lt_of_lt_of_le Tn1_4.out Q5.out.out)
  have Tn3_5 := hid (Nat.lt_of_lt_of_le Tn3_4.out Q5.out.out)
  have Tn5_5 := hid tn
  clear h1 g1 hn5 tn
  have hbx := (G5.out.block W.heap.size _ _ HA.out (by decide) (by decide) (by decide)).trans HA.out
  have e0 := cell_of_heap hbx 0
  have e1 := cell_of_heap hbx 1
  have e2 := cell_of_heap hbx 2
  have e3 := cell_of_heap hbx 3
  have e4 := cell_of_heap hbx 4
  have e5 := cell_of_heap hbx 5
  have d0 := S5.out.effs
  have d1 := S5.out.tree
  simp at e0 e1 e2 e3 e4 e5
  clear hbx
  go_wp2_with fail
  clear e0 e1 e2 e3 e4 e5 d0 d1
  refine (kid_calls (cap := cap) 1 X5 (cx_nodes HX.out S5.out) HX.out.tl HS.out (by have := HC.out; omega)).mono ?_
  rintro e Xk ⟨rfl, rfl⟩
  have hbx := (G5.out.block W.heap.size _ _ HA.out (by decide) (by decide) (by decide)).trans HA.out
  have e0 := cell_of_heap hbx 0
  have e1 := cell_of_heap hbx 1
  have e2 := cell_of_heap hbx 2
  have e3 := cell_of_heap hbx 3
  have e4 := cell_of_heap hbx 4
  have e5 := cell_of_heap hbx 5
  have d0 := S5.out.effs
  have d1 := S5.out.tree
  simp at e0 e1 e2 e3 e4 e5
  clear hbx
  have cr := HCr.out X5 (cx_nodes HX.out S5.out)
  go_wp2_with fail
  clear e0 e1 e2 e3 e4 e5 d0 d1
  clear cr
  refine (withN_calls (ss := ss) (ms := [(t.kid 1).n.a]) _ ((N0.out.frame G5.out).names.below ((Below.refl _ _).alloc (Nat.le_refl _) _)) (lit_names X5 [(t.kid 1).n.a]) (by have := HK.out; have := HZ.out; simp only [List.length_cons, List.length_nil]; omega)).mono ?_
  rintro e X6 ⟨u6, rfl, hu6, hb6⟩
  have B6 : Below X5.heap.size X5 X6 := ((Below.refl _ _).alloc (Nat.le_refl _) _).trans (hb6.mono (by simp))
  have U6 := hid hu6
  have S6 := hid (S5.out.below B6)
  have G6 : Hid (Cf Y X6) := G5.out.trans (Cf.of_below B6)
  have R6 := R5
  have Tn1_6 := Tn1_5
  have Tn3_6 := Tn3_5
  have Tn5_6 := Tn5_5
  clear hu6 hb6 B6
  have hbx := (G6.out.block W.heap.size _ _ HA.out (by decide) (by decide) (by decide)).trans HA.out
  have e0 := cell_of_heap hbx 0
  have e1 := cell_of_heap hbx 1
  have e2 := cell_of_heap hbx 2
  have e3 := cell_of_heap hbx 3
  have e4 := cell_of_heap hbx 4
  have e5 := cell_of_heap hbx 5
  have d0 := S6.out.effs
  have d1 := S6.out.tree
  simp at e0 e1 e2 e3 e4 e5
  clear hbx
  go_wp2_with fail
  clear e0 e1 e2 e3 e4 e5 d0 d1
  rw [HP2.out]
  refine (wait_calls ⟨(t.kid 1).kid 0, ss ++ [(t.kid 1).n.a], n5, 0⟩ S6.out (by have hl := later_le ((Cs.put ((Cs.lead ((Cs.put ((partZ es F (t.kid 0) (ss) ((Cs.put (s) ⟨21, 0, z, 0⟩)))) ⟨23, 0, 0, 0⟩)) n1 0)) ⟨24, 0, t.n.kids - 2, 0⟩)); have r := R6.out.cost; have hb := HB.out; have hz := HZ.out; omega) (U6.out.frame (Cf.refl _))).mono ?_
  rintro e X7 ⟨⟨x7, rfl⟩, h1, g1⟩
  have S7 := hid h1
  have G7 : Hid (Cf Y X7) := G6.out.trans g1
  have Q7 := hid (Rs.wait (ns := ns) (K := K) (s := (Cs.put ((Cs.lead ((Cs.put ((partZ es F (t.kid 0) (ss) ((Cs.put (s) ⟨21, 0, z, 0⟩)))) ⟨23, 0, 0, 0⟩)) n1 0)) ⟨24, 0, t.n.kids - 2, 0⟩)) (l := ⟨(t.kid 1).kid 0, ss ++ [(t.kid 1).n.a], n5, 0⟩) ((HS.out.kid (i := 1) (by have := HC.out; omega)).kid (by have := HZ.out; omega)) (by have := HK.out; have := HZ.out; simp only [List.length_append, List.length_cons, List.length_nil]; omega) Tn5_6.out)
  have R7 := hid (R6.out.trans Q7.out)
  have Tn1_7 := hid (Nat.lt_of_lt_of_le Tn1_6.out Q7.out.out)
  have Tn3_7 := hid (Nat.lt_of_lt_of_le Tn3_6.out Q7.out.out)
  have Tn5_7 := hid (Nat.lt_of_lt_of_le Tn5_6.out Q7.out.out)
  have D6_7 : Hid (Cf X6 X7) := g1
  clear h1 g1
  obtain ⟨sB, hsB⟩ : ∃ x, (Cs.wait ((Cs.put ((Cs.lead ((Cs.put ((partZ es F (t.kid 0) (ss) ((Cs.put (s) ⟨21, 0, z, 0⟩)))) ⟨23, 0, 0, 0⟩)) n1 0)) ⟨24, 0, t.n.kids - 2, 0⟩)) ⟨(t.kid 1).kid 0, ss ++ [(t.kid 1).n.a], n5, 0⟩) = x := ⟨_, rfl⟩
  rw [hsB] at S7 R7 Tn1_7
  have HsB := hid hsB
  clear hsB
  have hbx := (G7.out.block W.heap.size _ _ HA.out (by decide) (by decide) (by decide)).trans HA.out
  have e0 := cell_of_heap hbx 0
  have e1 := cell_of_heap hbx 1
  have e2 := cell_of_heap hbx 2
  have e3 := cell_of_heap hbx 3
  have e4 := cell_of_heap hbx 4
  have e5 := cell_of_heap hbx 5
  have d0 := S7.out.effs
  have d1 := S7.out.tree
  simp at e0 e1 e2 e3 e4 e5
  clear hbx
  go_wp2_with fail
  clear e0 e1 e2 e3 e4 e5 d0 d1
  go_loopw [10] (fun i wr => ∃ (j : Nat) (z : Int), i = .int .i64 z ∧ z = 2 + (j : Int) ∧ 2 + j ≤ kc ∧ Hid (CmE W0 Mb (.slice ae es.length ce) (.slice (some ⟨b, off, none⟩) ns.length cap) (((t.kids.drop 2).take j).foldl (opZ es ss) sB) wr ∧ Cf Y wr ∧ Rs ns K (10 * (((t.kids.drop 2).take j).map Tp.size).sum) ((((t.kids.drop 2).take j).map Tp.size).sum) sB (((t.kids.drop 2).take j).foldl (opZ es ss) sB))) (fun i _ => (kc - (intOf i).toNat))
  case atStart => exact ⟨0, _, rfl, rfl, by have := HC.out; have := HKc.out; omega, S7.out, G7.out, Rs.refl ns K sB⟩
  case round =>
    obtain ⟨j, z, rfl, hzj, hj, HI⟩ := hrel
    have hbx := (HI.out.2.1.block W.heap.size _ _ HA.out (by decide) (by decide) (by decide)).trans HA.out
    have e0 := cell_of_heap hbx 0
    have e1 := cell_of_heap hbx 1
    have e2 := cell_of_heap hbx 2
    have e3 := cell_of_heap hbx 3
    have e4 := cell_of_heap hbx 4
    have e5 := cell_of_heap hbx 5
    have d0 := HI.out.1.effs
    have d1 := HI.out.1.tree
    simp at e0 e1 e2 e3 e4 e5
    clear hbx
    by_cases hjc : z < (kc : Int)
    · have hjl : j < (t.kids.drop 2).length := by rw [List.length_drop, t.kids_len, HKc.out]; omega
      have HN := hid (And.intro (sum_next hjl) (And.intro (take_next hjl) hjl))
      have hgd : (t.kids.drop 2).getD j default = t.kid (2 + j) := by unfold Tp.kid; simp [List.getD, List.getElem?_drop]
      obtain ⟨c, hc⟩ : ∃ c, t.kid (2 + j) = c := ⟨_, rfl⟩
      have HCs : Hid (Stands ns c ∧ c.k.count = 1) := by
        rw [← hc]
        refine ⟨HS.out.kid (by have := HKc.out; omega), (HC.out.2.2.2 _ ?_).2⟩
        have h1 : t.kid (2 + j) ∈ t.kids.drop 2 := by rw [← hgd]; exact getD_mem hjl
        rw [show (2 : Nat) = 1 + 1 from rfl, ← List.drop_drop] at h1
        exact List.mem_of_mem_drop h1
      have HKd2 := hid (kid_calls (cap := cap) (2 + j) wr (cx_nodes HX.out HI.out.1) HX.out.tl HS.out (by have := HKc.out; omega))
      rw [hc, show ((2 + j : Nat) : Int) = z by omega] at HKd2
      rw [hgd, hc] at HN
      have hzs : wrap64 (z + 1) = z + 1 := by have := HC.out; have := HKc.out; unfold wrap64; omega
      have HZs := hid hzs
      have HJ := hid (And.intro hzj (And.intro hj hc))
      have hstep : kc - (intOf (.int .i64 (z + 1))).toNat < kc - (intOf (.int .i64 z)).toNat := by simp only [intOf]; omega
      obtain ⟨hl0, hl1, -⟩ := HCs.out.1.lt
      have hnc := cx_nodes HX.out HI.out.1
      have b0 := hnc c.at_ hl0 0 (by omega)
      have b1 := hnc c.at_ hl0 1 (by omega)
      have b2 := hnc c.at_ hl0 2 (by omega)
      have b3 := hnc c.at_ hl0 3 (by omega)
      have b4 := hnc c.at_ hl0 4 (by omega)
      have b5 := hnc c.at_ hl0 5 (by omega)
      rw [hl1] at b0 b1 b2 b3 b4 b5
      simp only [Nd.cell, Nat.add_zero] at b0 b1 b2 b3 b4 b5
      have hc0 : (0 : Int) ≤ (c.at_ : Int) := by omega
      have hcl : (c.at_ : Int) < (ns.length : Int) := by omega
      have HP3 : Hid (wrap64 ((c.at_ : Int) + 1) = ((c.kid 0).at_ : Int)) := by show _ = _; rw [HCs.out.1.first (by have := HCs.out.2; omega)]; have := HX.out.tl; unfold wrap64; omega
      have hA2 := (MapKept.heap_alloc wr (.cells #[.int .i64 c.n.kind, .int .i64 c.n.num, .string c.n.a, .string c.n.b, .string c.n.c, .int .i64 c.n.kids] 90)).1
      have hB2 := (Below.refl wr.heap.size wr).alloc (Nat.le_refl _) (.cells #[.int .i64 c.n.kind, .int .i64 c.n.num, .string c.n.a, .string c.n.b, .string c.n.c, .int .i64 c.n.kids] 90)
      obtain ⟨V, hV⟩ : ∃ V, wr.alloc (.cells #[.int .i64 c.n.kind, .int .i64 c.n.num, .string c.n.a, .string c.n.b, .string c.n.c, .int .i64 c.n.kids] 90) = V := ⟨_, rfl⟩
      rw [hV] at hA2 hB2
      have HV := hid hV
      have HA2 := hid hA2
      have HB2 := hid hB2
      have V0 := hid (HI.out.1.below hB2)
      have Vf := hid (HI.out.2.1.trans (Cf.of_below hB2))
      clear hA2 hB2 hV hzs hc hjl hgd hl0 hl1 hnc hzj hj
      go_wp2_with fail
      refine HKd2.out.mono ?_
      rintro e Xk ⟨rfl, rfl⟩
      clear e0 e1 e2 e3 e4 e5
      go_upto_region 13 with fail
      rw [HV.out]
      clear HV b0 b1 b2 b3 b4 b5 d0 d1
      have g2 := cell_of_heap HA2.out 2
      have g3 := cell_of_heap HA2.out 3
      have g4 := cell_of_heap HA2.out 4
      simp at g2 g3 g4
      have hD : Below V.heap.size V V.drew := (Below.refl _ _).drew
      obtain ⟨D, hDe⟩ : ∃ D, V.drew = D := ⟨_, rfl⟩
      rw [hDe] at hD
      have D0 := hid (V0.out.below hD)
      have Df := hid (Vf.out.trans (Cf.of_below hD))
      have DA := hid ((hD.block wr.heap.size (heap_lt HA2.out)).trans HA2.out)
      have hS : (fun w' : World => w'.cell? ⟨Mb, 0, none⟩ = some (.slice ae es.length ce) ∧ w'.cell? ⟨wr.heap.size, 2, none⟩ = some (.string c.n.a) ∧ w'.cell? ⟨wr.heap.size, 3, none⟩ = some (.string c.n.b) ∧ w'.cell? ⟨wr.heap.size, 4, none⟩ = some (.string c.n.c)) D := ⟨D0.out.effs, cell_of_heap DA.out 2, cell_of_heap DA.out 3, cell_of_heap DA.out 4⟩
      refine pick_begin (S := fun w' => w'.cell? ⟨Mb, 0, none⟩ = some (.slice ae es.length ce) ∧ w'.cell? ⟨wr.heap.size, 2, none⟩ = some (.string c.n.a) ∧ w'.cell? ⟨wr.heap.size, 3, none⟩ = some (.string c.n.b) ∧ w'.cell? ⟨wr.heap.size, 4, none⟩ = some (.string c.n.c)) (by kernel_rfl) rfl rfl ?_
      rw [hDe]
      clear hDe hD g2 g3 g4
      refine pick_op (i := 0) (v := .pointer (some ⟨Mb, 0, none⟩)) (by kernel_rfl) rfl (by kernel_rfl) (by kernel_rfl) rfl rfl (fun w' _ => by simp [go_sem]) hS (by simp [go_sem]; exact rfl) ?_
      refine pick_op (i := 1) (v := .int .i64 (c.at_ : Int)) (by kernel_rfl) rfl (by kernel_rfl) (by kernel_rfl) rfl rfl (fun w' _ => by simp [go_sem]) hS (by simp [go_sem]; exact rfl) ?_
      refine pick_op (i := 2) (v := .int .i64 (wrap64 ((c.at_ : Int) + 1))) (by kernel_rfl) rfl (by kernel_rfl) (by kernel_rfl) rfl rfl (fun w' _ => by simp [go_sem]; exact IntWalk.i64_left _) hS (by simp [go_sem]; exact rfl) ?_
      refine pick_op (i := 3) (v := .slice adn ss.length cpn) (by kernel_rfl) rfl (by kernel_rfl) (by kernel_rfl) rfl rfl (fun w' _ => by simp [go_sem]) hS (by simp [go_sem]; exact rfl) ?_
      refine pick_op (i := 4) (v := .pointer (some ⟨wr.heap.size, 3, none⟩)) (by kernel_rfl) rfl (by kernel_rfl) (by kernel_rfl) rfl rfl (fun w' _ => by simp [go_sem]) hS (by simp [go_sem]; exact rfl) ?_
      refine pick_op (i := 5) (v := .string c.n.b) (by kernel_rfl) rfl (by kernel_rfl) (by kernel_rfl) rfl rfl (fun w' h => by simp [go_sem, h.2.2.1]) hS (by simp [go_sem]; exact rfl) ?_
      refine pick_op (i := 6) (v := .pointer (some ⟨wr.heap.size, 4, none⟩)) (by kernel_rfl) rfl (by kernel_rfl) (by kernel_rfl) rfl rfl (fun w' _ => by simp [go_sem]) hS (by simp [go_sem]; exact rfl) ?_
      refine pick_op (i := 7) (v := .string c.n.c) (by kernel_rfl) rfl (by kernel_rfl) (by kernel_rfl) rfl rfl (fun w' h => by simp [go_sem, h.2.2.2]) hS (by simp [go_sem]; exact rfl) ?_
      refine pick_op (i := 10) (v := .pointer (some ⟨Mb, 0, none⟩)) (by kernel_rfl) rfl (by kernel_rfl) (by kernel_rfl) rfl rfl (fun w' _ => by simp [go_sem]) hS (by simp [go_sem]; exact rfl) ?_
      refine pick_op (i := 11) (v := .pointer (some ⟨Mb, 0, none⟩)) (by kernel_rfl) rfl (by kernel_rfl) (by kernel_rfl) rfl rfl (fun w' _ => by simp [go_sem]) hS (by simp [go_sem]; exact rfl) ?_
      refine pick_op (i := 12) (v := .pointer (some ⟨Mb, 0, none⟩)) (by kernel_rfl) rfl (by kernel_rfl) (by kernel_rfl) rfl rfl (fun w' _ => by simp [go_sem]) hS (by simp [go_sem]; exact rfl) ?_
      refine pick_op (i := 13) (v := .pointer (some ⟨Mb, 0, none⟩)) (by kernel_rfl) rfl (by kernel_rfl) (by kernel_rfl) rfl rfl (fun w' _ => by simp [go_sem]) hS (by simp [go_sem]; exact rfl) ?_
      refine pick_op (i := 14) (v := .pointer (some ⟨Mb, 0, none⟩)) (by kernel_rfl) rfl (by kernel_rfl) (by kernel_rfl) rfl rfl (fun w' _ => by simp [go_sem]) hS (by simp [go_sem]; exact rfl) ?_
      refine pick_op (i := 15) (v := .slice ae es.length ce) (by kernel_rfl) rfl (by kernel_rfl) (by kernel_rfl) rfl rfl (fun w' h => by simp [go_sem, h.1]) hS (by simp [go_sem]; exact rfl) ?_
      refine pick_op (i := 16) (v := .pointer (some ⟨wr.heap.size, 2, none⟩)) (by kernel_rfl) rfl (by kernel_rfl) (by kernel_rfl) rfl rfl (fun w' _ => by simp [go_sem]) hS (by simp [go_sem]; exact rfl) ?_
      refine pick_op (i := 17) (v := .string c.n.a) (by kernel_rfl) rfl (by kernel_rfl) (by kernel_rfl) rfl rfl (fun w' h => by simp [go_sem, h.2.1]) hS (by simp [go_sem]; exact rfl) ?_
      rw [HP3.out]
      have hA1 : Below D.heap.size D (D.alloc (.cells #[.string c.n.b, .string c.n.c] 9)) := (Below.refl _ _).alloc (Nat.le_refl _) _
      have hq := heap_lt DA.out
      have hS1 : (fun w' : World => w'.cell? ⟨Mb, 0, none⟩ = some (.slice ae es.length ce) ∧ w'.cell? ⟨wr.heap.size, 2, none⟩ = some (.string c.n.a) ∧ w'.cell? ⟨wr.heap.size, 3, none⟩ = some (.string c.n.b) ∧ w'.cell? ⟨wr.heap.size, 4, none⟩ = some (.string c.n.c)) (D.alloc (.cells #[.string c.n.b, .string c.n.c] 9)) := ⟨(hA1.cell (heap_at D0.out)).trans hS.1, (hA1.cell hq).trans hS.2.1, (hA1.cell hq).trans hS.2.2.1, (hA1.cell hq).trans hS.2.2.2⟩
      refine pick_make (i := 8) (v := .slice (some ⟨D.heap.size, 0, none⟩) 2 2) (w1 := D.alloc (.cells #[.string c.n.b, .string c.n.c] 9)) rfl (by kernel_rfl) rfl rfl (by simp [go_sem]) hS1 (by simp [go_sem]; exact rfl) ?_
      refine pick_enter (i := 9) (f := 45) (args := #[.slice adn ss.length cpn, .slice (some ⟨D.heap.size, 0, none⟩) 2 2]) rfl (by kernel_rfl) rfl rfl (by simp [go_sem]) ?_
      refine (withN_calls (ss := ss) (ms := [c.n.b, c.n.c]) _ ((N0.out.frame Df.out).names.below hA1) (lit_names D [c.n.b, c.n.c]) (by have := HK.out; simp only [List.length_cons, List.length_nil]; omega)).mono ?_
      rintro e E1 ⟨u1, rfl, hu1, hb1⟩
      have B1 : Below D.heap.size D E1 := hA1.trans (hb1.mono (by simp))
      have hS2 : (fun w' : World => w'.cell? ⟨Mb, 0, none⟩ = some (.slice ae es.length ce) ∧ w'.cell? ⟨wr.heap.size, 2, none⟩ = some (.string c.n.a) ∧ w'.cell? ⟨wr.heap.size, 3, none⟩ = some (.string c.n.b) ∧ w'.cell? ⟨wr.heap.size, 4, none⟩ = some (.string c.n.c)) E1 := ⟨(B1.cell (heap_at D0.out)).trans hS.1, (B1.cell hq).trans hS.2.1, (B1.cell hq).trans hS.2.2.1, (B1.cell hq).trans hS.2.2.2⟩
      have U1 := hid hu1
      have E0 := hid (D0.out.below B1)
      have Ef := hid (Df.out.trans (Cf.of_below B1))
      have EA := hid ((B1.block wr.heap.size hq).trans DA.out)
      clear hu1 hb1 B1 hS hS1 hA1 hq
      refine ⟨u1, rfl, hS2, ?_⟩
      refine pick_frame (by simp [go_sem]; exact rfl) ?_
      refine pick_enter (i := 18) (f := 41) (args := #[.slice ae es.length ce, .string c.n.a]) rfl (by kernel_rfl) rfl rfl (by simp [go_sem]) ?_
      refine (l2Eff_calls ae ce es c.n.a E1 (by have := HX.out.el; omega) (cx_effs HX.out E0.out)).mono ?_
      rintro e Xk ⟨rfl, rfl⟩
      refine ⟨_, rfl, hS2, ?_⟩
      refine pick_frame (by simp [go_sem]; exact rfl) ?_
      refine pick_op (i := 19) (v := .agg #[.int .i64 25, .int .i64 (effPlace es c.n.a 0), .int .i64 0, .int .i64 0]) (by kernel_rfl) rfl (by kernel_rfl) (by kernel_rfl) rfl rfl (fun w' _ => by simp [go_sem]) hS2 (by simp [go_sem]; exact rfl) ?_
      refine pick_enter (i := 20) (f := 31) (args := #[.pointer (some ⟨Mb, 0, none⟩), .agg #[.int .i64 25, .int .i64 (effPlace es c.n.a 0), .int .i64 0, .int .i64 0]]) rfl (by kernel_rfl) rfl rfl (by simp [go_sem]) ?_
      obtain ⟨s1, hs1⟩ : ∃ x, ((t.kids.drop 2).take j).foldl (opZ es ss) sB = x := ⟨_, rfl⟩
      have HS1 := hid hs1
      have R1 := hid HI.out.2.2
      rw [hs1] at E0 R1
      have Rc := R7
      have HL : Hid (s1.out.length + 10 * s1.rest + 10 * c.size ≤ 950000) := by show _ ≤ _; have h1 := R1.out.cost; have h2 := Rc.out.cost; have h3 := HN.out.1; have h4 := HZ.out; have h5 := HB.out; omega
      refine (putM_calls ⟨25, effPlace es c.n.a 0, 0, 0⟩ E0.out (by have := HL.out; omega)).mono ?_
      rintro e E2 ⟨rfl, h2, g2⟩
      obtain ⟨m1, hm1⟩ : ∃ m, s1.out.length = m := ⟨_, rfl⟩
      rw [hm1]
      have HM1 := hid hm1
      have P0 := hid h2
      have Pf := hid (Ef.out.trans g2)
      have PU := hid (U1.out.frame g2)
      have PA := hid ((g2.block wr.heap.size _ _ EA.out (by decide) (by decide) (by decide)).trans EA.out)
      clear h2 g2 hS2 hm1 hs1
      refine ⟨_, rfl, ⟨P0.out.effs, cell_of_heap PA.out 2, cell_of_heap PA.out 3, cell_of_heap PA.out 4⟩, ?_⟩
      refine pick_frame (by simp [go_sem]; exact rfl) ?_
      refine pick_enter (i := 21) (f := 44) (args := #[.pointer (some ⟨Mb, 0, none⟩), .int .i64 ((c.kid 0).at_ : Int), u1, .int .i64 (m1 : Int), .int .i64 (1 : Int)]) rfl (by kernel_rfl) rfl rfl (by simp [go_sem]) ?_
      refine (wait_calls ⟨c.kid 0, ss ++ [c.n.b, c.n.c], m1, 1⟩ P0.out (by have h1 := later_le (s1.put ⟨25, effPlace es c.n.a 0, 0, 0⟩); have h2 := HL.out; have h3 : (s1.put ⟨25, effPlace es c.n.a 0, 0, 0⟩).rest = s1.rest := rfl; omega) PU.out).mono ?_
      rintro e E3 ⟨⟨x3, rfl⟩, h3, g3⟩
      have Q0 := hid h3
      have Qf := hid (Pf.out.trans g3)
      have QA := hid ((g3.block wr.heap.size _ _ PA.out (by decide) (by decide) (by decide)).trans PA.out)
      clear h3 g3
      refine ⟨x3, rfl, ⟨Q0.out.effs, cell_of_heap QA.out 2, cell_of_heap QA.out 3, cell_of_heap QA.out 4⟩, ?_⟩
      refine pick_frame (by simp [go_sem]; exact rfl) ?_
      refine pick_end (by kernel_rfl) ?_
      have HI2 : Hid (CmE W0 Mb (.slice ae es.length ce) (.slice (some ⟨b, off, none⟩) ns.length cap) (((t.kids.drop 2).take (j + 1)).foldl (opZ es ss) sB) E3 ∧ Cf Y E3 ∧ Rs ns K (10 * (((t.kids.drop 2).take (j + 1)).map Tp.size).sum) ((((t.kids.drop 2).take (j + 1)).map Tp.size).sum) sB (((t.kids.drop 2).take (j + 1)).foldl (opZ es ss) sB)) := by
        have hr := op_r (ns := ns) (K := K) (es := es) (ss := ss) s1 c HCs.out.2 HCs.out.1 (by have h1 := HN.out.1; have := HZ.out; have := HK.out; omega)
        have hm := HM1.out
        have hq := HS1.out
        subst hm
        subst hq
        rw [HN.out.2.1, List.foldl_append]
        refine ⟨Q0.out, Qf.out, (R1.out.trans hr).mono ?_ ?_⟩
        · simp only [List.map_append, List.sum_append, List.map_cons, List.map_nil, List.sum_cons, List.sum_nil]
          omega
        · simp only [List.map_append, List.sum_append, List.map_cons, List.map_nil, List.sum_cons, List.sum_nil]
          omega
      clear Q0 Qf QA P0 Pf PU PA E0 Ef EA U1 D0 Df DA V0 Vf HA2 HB2
      go_wp2_with fail
      try rw [HZs.out]
      exact ⟨⟨j + 1, _, rfl, by have := HJ.out.1; omega, by have := HJ.out.1; omega, HI2⟩, hstep⟩
    · have HT : Hid ((t.kids.drop 2).take j = t.kids.drop 2) := List.take_of_length_le (by rw [List.length_drop, t.kids_len, HKc.out]; omega)
      rw [HT.out] at HI
      clear hzj hj HT
      go_wp2_with fail
      refine (lead_calls n1 2 HI.out.1 (by have h1 := HI.out.2.2.cost; have h2 := R7.out.cost; have h4 := HZ.out; have h5 := HB.out; omega) (Nat.lt_of_lt_of_le Tn1_7.out HI.out.2.2.out) (by decide)).mono ?_
      rintro e X9 ⟨⟨x9, rfl⟩, h9, g9⟩
      have S9 := hid h9
      have G9 := hid (HI.out.2.1.trans g9)
      clear h9 g9 e0 e1 e2 e3 e4 e5 d0 d1
      go_wp2_with fail
      go_end0
      have qz := HZq.out
      have q1 := H1.out
      have q2 := H5.out
      have q3 := HsB.out
      subst q3
      subst q2
      subst q1
      subst qz
      exact ⟨⟨_, rfl⟩, S9.out, F0.out.trans G9.out⟩

set_option maxHeartbeats 4000000 in
set_option maxRecDepth 100000 in
theorem part_h (cx : Cx W0 Mb ae b off es ns) (hk1 : K ≤ 1000) (ih : PartC W0 Mb ae ce b off cap es ns K F) {t : Tp} {ss : List ByteArray} {s : Cs} {v : Value} {W : World} (hF : t.size ≤ F + 1) (hs : Stands ns t) (hK : ss.length + 2 * t.size ≤ K) (hB : s.out.length + 10 * s.rest + 10 * t.size ≤ 950000) (h : CmE W0 Mb (.slice ae es.length ce) (.slice (some ⟨b, off, none⟩) ns.length cap) s W) (hv : NmT W v ss) (ek : t.n.kind = 23 ∨ t.n.kind = 24) :
    Calls Tryd.prog 30 #[.pointer (some ⟨Mb, 0, none⟩), .int .i64 (t.at_ : Int), v] W (LeadPost W0 Mb (.slice ae es.length ce) (.slice (some ⟨b, off, none⟩) ns.length cap) (handZ es (partZ es F) t ss s) W) := by
  obtain ⟨adn, cpn, rfl⟩ := hv.is
  have hnc := cx_nodes cx h
  obtain ⟨hlt, hat, hsz⟩ := hs.lt
  have c0 := hnc t.at_ hlt 0 (by omega)
  have c1 := hnc t.at_ hlt 1 (by omega)
  have c2 := hnc t.at_ hlt 2 (by omega)
  have c3 := hnc t.at_ hlt 3 (by omega)
  have c4 := hnc t.at_ hlt 4 (by omega)
  have c5 := hnc t.at_ hlt 5 (by omega)
  rw [hat] at c0 c1 c2 c3 c4 c5
  simp only [Nd.cell, Nat.add_zero] at c0 c1 c2 c3 c4 c5
  have d1 := h.tree
  have hA := (MapKept.heap_alloc W (.cells #[.int .i64 t.n.kind, .int .i64 t.n.num, .string t.n.a, .string t.n.b, .string t.n.c, .int .i64 t.n.kids] 90)).1
  have hB1 := (Below.refl W.heap.size W).alloc (Nat.le_refl _) (.cells #[.int .i64 t.n.kind, .int .i64 t.n.num, .string t.n.a, .string t.n.b, .string t.n.c, .int .i64 t.n.kids] 90)
  obtain ⟨Y, hY⟩ : ∃ Y, W.alloc (.cells #[.int .i64 t.n.kind, .int .i64 t.n.num, .string t.n.a, .string t.n.b, .string t.n.c, .int .i64 t.n.kids] 90) = Y := ⟨_, rfl⟩
  rw [hY] at hA hB1
  have HY := hid hY
  have HA := hid hA
  have S0 := hid (h.below hB1)
  have F0 := hid (Cf.of_below hB1)
  have N0 := hid (hv.frame (Cf.of_below hB1))
  have G0 := hid (Cf.refl Y)
  have R0 := hid (Rs.refl ns K s)
  have hgood := hs.toGood
  have HC : Hid (True) := trivial
  have HZ : Hid (1 ≤ t.size) := t.size_pos
  have hp0 : (0 : Int) ≤ (t.at_ : Int) := by omega
  have hpl : (t.at_ : Int) < (ns.length : Int) := by omega
  have HP1 : Hid (0 < t.k.count → wrap64 ((t.at_ : Int) + 1) = ((t.kid 0).at_ : Int)) := fun h0 => by rw [hs.first h0]; have := cx.tl; unfold wrap64; omega
  have HH := hid (hand_calls cx hk1 ih hF hs hK hB (h.below hB1) (hv.frame (Cf.of_below hB1)) ek)
  have HX := hid cx
  have HIH := hid ih
  have HS := hid hs
  have HK := hid (And.intro hK (And.intro hF hk1))
  have HB := hid hB
  clear hA hB1 hY h hv hnc hlt hat hsz hgood cx ih hs hK hF hB hk1
  go_enter Tryd.func30, Tryd.ntmps30
  go_upto_region 1 with fail
  rw [HY.out]
  clear HY c0 c1 c2 c3 c4 c5 d1
  obtain ⟨kd, hkd⟩ : ∃ kd, t.n.kind = kd := ⟨_, rfl⟩
  rw [hkd] at ek HA
  clear hkd
  rcases ek with rfl | rfl
  · have e0 := cell_of_heap HA.out 0
    simp at e0
    go_wp2_with fail
    refine HH.out.mono ?_
    rintro e X1 ⟨⟨x1, rfl⟩, h1, g1⟩
    have S1 := hid h1
    have G1 := hid g1
    clear h1 g1 e0
    go_wp2_with fail
    go_end0
    exact ⟨⟨_, rfl⟩, S1.out, F0.out.trans G1.out⟩
  · have e0 := cell_of_heap HA.out 0
    simp at e0
    go_wp2_with fail
    refine HH.out.mono ?_
    rintro e X1 ⟨⟨x1, rfl⟩, h1, g1⟩
    have S1 := hid h1
    have G1 := hid g1
    clear h1 g1 e0
    go_wp2_with fail
    go_end0
    exact ⟨⟨_, rfl⟩, S1.out, F0.out.trans G1.out⟩

end
end Go.Proofs.YtegjdgiegnofhaaDoor
