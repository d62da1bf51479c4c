/- Every part; what was put off; the whole: the specification's Compile. -/
import Derived.Test.YtegjdgiegnofhaaDoorCompC
import Derived.Test.YtegjdgiegnofhaaDoorProgC
import Derived.Test.YtegjdgiegnofhaaDoorFreeM
namespace Go.Proofs.YtegjdgiegnofhaaDoor
open Go.RowKit Go.Deep

section
variable {W0 : World} {Mb : Nat} {ae : Option Addr} {ce b off cap : Nat} {es : List Ef} {ns : List Nd} {K : Nat}

theorem part_all (cx : Cx W0 Mb ae b off es ns) (hk1 : K ≤ 1000) : ∀ F, PartC W0 Mb ae ce b off cap es ns K F := by
  intro F
  induction F with
  | zero => intro t ss s v W hF; have := t.size_pos; omega
  | succ F ih =>
    intro t ss s v W hF hs hK hB h hv
    by_cases n1 : t.n.kind = 1
    · rw [part1 n1]; exact part_c1 cx hk1 hF hs hK hB h hv n1
    by_cases n2 : t.n.kind = 2
    · rw [part2 n2]; exact part_c2 cx hk1 hF hs hK hB h hv n2
    by_cases n3 : t.n.kind = 3
    · rw [part3 n3]; exact part_c3 cx hk1 hF hs hK hB h hv n3
    by_cases n4 : t.n.kind = 4
    · rw [part4 n4]; exact part_c4 cx hk1 hF hs hK hB h hv n4
    by_cases n5 : t.n.kind = 5
    · rw [part5 n5]; exact part_c5 cx hk1 hF hs hK hB h hv n5
    by_cases n6 : t.n.kind = 6
    · rw [part6 n6]; exact part_c6 cx hk1 hF hs hK hB h hv n6
    by_cases n8 : t.n.kind = 8
    · rw [part8 n8]; exact part_c8 cx hk1 ih hF hs hK hB h hv n8
    by_cases n9 : t.n.kind = 9
    · rw [part9 n9]; exact part_c9 cx hk1 ih hF hs hK hB h hv n9
    by_cases n10 : t.n.kind = 10
    · rw [part10 n10]; exact part_c10 cx hk1 ih hF hs hK hB h hv n10
    by_cases n20 : t.n.kind = 20
    · rw [part20 n20]; exact part_c20 cx hk1 ih hF hs hK hB h hv n20
    by_cases nh : t.n.kind = 23 ∨ t.n.kind = 24
    · rw [partH nh]; exact part_h cx hk1 ih hF hs hK hB h hv nh
    · have n23 : t.n.kind ≠ 23 := fun e => nh (Or.inl e)
      have n24 : t.n.kind ≠ 24 := fun e => nh (Or.inr e)
      rw [partK n1 n2 n3 n4 n5 n6 n8 n9 n10 n20 n23 n24]
      exact part_k cx hk1 ih hF hs hK hB h hv ⟨n1, n2, n3, n4, n5, n6, n8, n9, n10, n20, n23, n24⟩
end

/-- What is put off and not yet made. -/
def pend (s : Cs) (i : Nat) : Nat := ((s.later.drop i).map (fun l => l.t.size)).sum

theorem pend_next {s : Cs} {i : Nat} (h : i < s.later.length) : pend s i = (s.later.getD i default).t.size + pend s (i + 1) := by
  have e : s.later.getD i default = s.later[i] := by simp [List.getD, h]
  rw [e]
  unfold pend
  rw [List.drop_eq_getElem_cons h, List.map_cons, List.sum_cons]

theorem rest_split (s : Cs) (i : Nat) : s.rest = ((s.later.take i).map (fun l => l.t.size)).sum + pend s i := by
  unfold Cs.rest pend
  conv => lhs; rw [← List.take_append_drop i s.later]
  rw [List.map_append, List.sum_append]

/-- One that was put off is made. -/
def nextZ (es : List Ef) (l : Lt) (s : Cs) : Cs := (partZ es 400 l.t l.names (s.lead l.fr l.wh)).put ⟨9, 0, 0, 0⟩

theorem next_r {ns : List Nd} {es : List Ef} {s : Cs} {i : Nat} (hi : i < s.later.length) (hl : ns.length ≤ 300) (hok : LOk ns 1000 s) (hB : s.out.length + 10 * s.rest + 3000 * pend s i ≤ 900001) (hP : i + pend s i ≤ 300) :
    LOk ns 1000 (nextZ es (s.later.getD i default) s) ∧ (nextZ es (s.later.getD i default) s).out.length + 10 * (nextZ es (s.later.getD i default) s).rest + 3000 * pend (nextZ es (s.later.getD i default) s) (i + 1) ≤ 900001 ∧ i + 1 + pend (nextZ es (s.later.getD i default) s) (i + 1) ≤ 300 ∧ i + 1 ≤ (nextZ es (s.later.getD i default) s).later.length := by
  obtain ⟨l, hl2⟩ : ∃ l, s.later.getD i default = l := ⟨_, rfl⟩
  have hp := pend_next hi
  rw [hl2] at hp ⊢
  have hmem : l ∈ s.later := by rw [← hl2]; exact getD_mem hi
  obtain ⟨h1, ⟨h2, -⟩, h3⟩ := hok l hmem
  have hsz := h1.lt.2.2
  have hpos := l.t.size_pos
  have r := ((Rs.lead ns 1000 s l.fr l.wh).trans (part_r (ns := ns) (K := 1000) (es := es) 400 l.t l.names (s.lead l.fr l.wh) (by omega) h1 h2)).trans (Rs.put ns 1000 _ ⟨9, 0, 0, 0⟩)
  have r' : Rs ns 1000 (10 * l.t.size) (l.t.size - 1) s (nextZ es l s) := r.mono (by omega) (by omega)
  obtain ⟨q, hq⟩ := r'.pre
  have e1 := rest_split s (i + 1)
  have e2 := rest_split (nextZ es l s) (i + 1)
  have e3 : (nextZ es l s).later.take (i + 1) = s.later.take (i + 1) := by rw [hq, List.take_append_of_le_length (by omega)]
  rw [e3] at e2
  have c1 := r'.cost
  have c2 := r'.rest
  have c3 := r'.len
  refine ⟨r'.ok hok, ?_, ?_, by omega⟩
  · omega
  · omega

theorem cm_start {W : World} (ve vt : Value) : Cm (W.alloc (.cells #[ve, vt, .slice none 0 0, .slice none 0 0] 67)) W.heap.size ve vt ⟨[], []⟩ [] (.slice none 0 0) (.slice none 0 0) (W.alloc (.cells #[ve, vt, .slice none 0 0, .slice none 0 0] 67)) :=
  ⟨(MapKept.heap_alloc W _).1, World.ownsRow_nil _ _ _ _, World.ownsRow_nil _ _ _ _, fun x hx => by simp at hx, rfl, rfl, rfl, rfl, Nat.le_refl _, fun _ _ _ => rfl, by simp⟩

/-- The operations of a program, as they lie. -/
def EffW (W : World) (ae : Option Addr) (ce : Nat) (es : List Ef) : Prop := (ae = none ∧ es = [] ∧ ce = 0) ∨ ∃ be, ae = some ⟨be, 0, none⟩ ∧ be < W.heap.size ∧ EffsAt W be 0 es ∧ es.length ≤ ce

theorem progOk_at {W : World} {ae : Option Addr} {ce bt cn : Nat} {es : List Ef} {ns : List Nd} {T : Bool} (hE : EffW W ae ce es) (hel : es.length ≤ 1000) (hbt : bt < W.heap.size) (hN : NodesAt W bt 0 ns) (hl : ns.length ≤ 300) (hA : SpecAns ns T) :
    Calls Tryd.prog 28 #[.agg #[.slice ae es.length ce, .slice (some ⟨bt, 0, none⟩) ns.length cn]] W fun e W' => e = .returned (.bool (progZ es ns T)) ∧ Below W.heap.size W W' := by
  rcases hE with ⟨rfl, rfl, rfl⟩ | ⟨be, rfl, hbe, hEA, hce⟩
  · exact specProgN_calls bt cn ns T W hbt hN (by omega) (fun w' hb hn => specTree_calls bt 0 cn ns w' T (by omega) hb hn hA)
  · exact specProgC_calls be bt ce cn es ns T W hce hbe hbt hEA hN (by omega) (by omega) (fun w' hb hn => specTree_calls bt 0 cn ns w' T (by omega) hb hn hA)

theorem EffW.below {W W' : World} {ae : Option Addr} {ce : Nat} {es : List Ef} (h : EffW W ae ce es) (hb : Below W.heap.size W W') : EffW W' ae ce es := by
  rcases h with h | ⟨be, e, hbe, hEA, hce⟩
  · exact Or.inl h
  · exact Or.inr ⟨be, e, Nat.lt_of_lt_of_le hbe hb.size, hEA.below hb hbe, hce⟩

def CompPost (es : List Ef) (ns : List Nd) (W : World) (e : Ending) (W' : World) : Prop :=
  ∃ v cs x, e = .returned (.tuple #[v, .bool x]) ∧ W'.ownsRow W.heap.size 28 4 v cs.length (rowZ In.cell 4 cs) ∧ cs.length ≤ 950000 ∧ Below W.heap.size W W' ∧ (x = false → cs = []) ∧ (x = true → ∃ n k, ns = n :: k.flat ∧ n.kids = k.count ∧ k.wf ∧ cs = codeZ es n k)

theorem cm_below {W W0 : World} {Mb : Nat} {ve vt : Value} {s : Cs} {ls : List (Lt × Value)} {vo vl : Value} {X : World} (h : Cm W0 Mb ve vt s ls vo vl X) (hb : Below W.heap.size W W0) (hM : W.heap.size ≤ Mb) : Below W.heap.size W X :=
  ⟨h.os.trans hb.os, h.tape.trans hb.tape, h.output.trans hb.output, Nat.le_trans hb.size h.size, fun q hq => (h.kept q (Nat.lt_of_lt_of_le hq hb.size) (by omega)).trans (hb.block q hq)⟩

set_option maxHeartbeats 8000000 in
set_option maxRecDepth 100000 in
theorem compile_calls {W : World} {ae : Option Addr} {ce bt cn : Nat} {es : List Ef} {ns : List Nd} (hE : EffW W ae ce es) (hel : es.length ≤ 1000) (hbt : bt < W.heap.size) (hN : NodesAt W bt 0 ns) (hl : ns.length ≤ 300) :
    Calls Tryd.prog 20 #[.agg #[.slice ae es.length ce, .slice (some ⟨bt, 0, none⟩) ns.length cn]] W (CompPost es ns W) := by
  obtain ⟨T, hSA, -⟩ := answers ns
  have hA := (MapKept.heap_alloc W (.cells #[.slice ae es.length ce, .slice (some ⟨bt, 0, none⟩) ns.length cn] 57)).1
  have hB1 := (Below.refl W.heap.size W).alloc (Nat.le_refl _) (.cells #[.slice ae es.length ce, .slice (some ⟨bt, 0, none⟩) ns.length cn] 57)
  obtain ⟨Y, hY⟩ : ∃ Y, W.alloc (.cells #[.slice ae es.length ce, .slice (some ⟨bt, 0, none⟩) ns.length cn] 57) = Y := ⟨_, rfl⟩
  rw [hY] at hA hB1
  have HP := hid (progOk_at (cn := cn) (hE.below hB1) hel (Nat.lt_of_lt_of_le hbt hB1.size) (hN.below hB1 hbt) hl hSA)
  have HY := hid hY
  have HA := hid hA
  have HB1 := hid hB1
  have HE := hid hE
  have HN := hid (And.intro hbt hN)
  have HL := hid (And.intro hel hl)
  have HSA := hid hSA
  have e0 := cell_of_heap HA.out 0
  have e1 := cell_of_heap HA.out 1
  simp at e0 e1
  clear hE hel hbt hN hl hSA hA hB1 hY
  go_enter Tryd.func20, Tryd.ntmps20
  go_upto_region 1 with fail
  rw [HY.out]
  clear HY
  go_wp2_with fail
  refine HP.out.mono ?_
  rintro e X1 ⟨rfl, hb2⟩
  have HB2 := hid (HB1.out.trans (hb2.mono HB1.out.size))
  have HA2 := hid ((hb2.block W.heap.size (heap_lt HA.out)).trans HA.out)
  clear hb2 HP e0 e1
  have e0 := cell_of_heap HA2.out 0
  have e1 := cell_of_heap HA2.out 1
  simp at e0 e1
  cases hR : progZ es ns T with
  | false =>
    go_wp2_with fail
    go_ret2
    exact ⟨_, [], false, rfl, World.ownsRow_nil _ _ _ _, Nat.zero_le _, HB2.out, fun _ => rfl, (fun h => by cases h)⟩
  | true =>
    have hT : T = true := by
      unfold progZ at hR
      simp only [Bool.and_eq_true] at hR
      exact hR.2.1
    subst hT
    clear hR
    obtain ⟨n, k, g1, g2, g3, hown⟩ : ∃ (n : Nd) (k : Fo), ns = n :: k.flat ∧ n.kids = k.count ∧ k.wf ∧ ns.all ownOk = true := by
      rcases HSA.out with ⟨-, h⟩ | ⟨-, -, -, h⟩ | ⟨-, -, n, k, e1, e2, e3, h⟩
      · cases h
      · cases h
      · have h' := h.symm
        simp only [Bool.and_eq_true] at h'
        exact ⟨n, k, e1, e2, e3, h'.1⟩
    have HG := hid (And.intro g1 (And.intro g2 g3))
    have HF := hid (specFree_calls (cap := cn) X1 HL.out.2 (Nat.lt_of_lt_of_le HN.out.1 HB2.out.size) (HN.out.2.below HB2.out HN.out.1) HSA.out hown g1 g2 g3)
    clear g1 g2 g3 hown
    go_wp2_with fail
    refine HF.out.mono ?_
    rintro e X2 ⟨u, rfl, hu, hb3⟩
    obtain ⟨au, cu, rfl⟩ := hu.slice
    have HB3 := hid (HB2.out.trans (hb3.mono HB2.out.size))
    have HA3 := hid ((hb3.block W.heap.size (heap_lt HA2.out)).trans HA2.out)
    obtain ⟨L, hL⟩ : ∃ L, (bys (freeOf (wholeW n k))).length = L := ⟨_, rfl⟩
    rw [hL]
    clear hu hb3 HF e0 e1 hL
    by_cases hL0 : (0 : Int) < (L : Int)
    · go_wp2_with fail
      go_ret2
      exact ⟨_, [], false, rfl, World.ownsRow_nil _ _ _ _, Nat.zero_le _, HB3.out, fun _ => rfl, (fun h => by cases h)⟩
    · have e0 := cell_of_heap HA3.out 0
      have e1 := cell_of_heap HA3.out 1
      simp at e0 e1
      have hC := cm_start (W := X2) (.slice ae es.length ce) (.slice (some ⟨bt, 0, none⟩) ns.length cn)
      have hB4 := (Below.refl X2.heap.size X2).alloc (Nat.le_refl _) (.cells #[.slice ae es.length ce, .slice (some ⟨bt, 0, none⟩) ns.length cn, .slice none 0 0, .slice none 0 0] 67)
      obtain ⟨W0, hW0⟩ : ∃ W0, X2.alloc (.cells #[.slice ae es.length ce, .slice (some ⟨bt, 0, none⟩) ns.length cn, .slice none 0 0, .slice none 0 0] 67) = W0 := ⟨_, rfl⟩
      rw [hW0] at hC hB4
      have HW0 := hid hW0
      have HB4 := hid (HB3.out.trans (hB4.mono HB3.out.size))
      have hbt2 : bt < X2.heap.size := Nat.lt_of_lt_of_le HN.out.1 HB3.out.size
      have HX : Hid (Cx W0 X2.heap.size ae bt 0 es ns) := by
        refine ⟨Nat.lt_of_lt_of_le hbt2 hB4.size, by omega, HN.out.2.below HB4.out HN.out.1, HL.out.2, HL.out.1, fun he => ?_⟩
        rcases HE.out with ⟨-, h, -⟩ | ⟨be, h1, h2, h3, -⟩
        · exact absurd h he
        · have h4 : be < X2.heap.size := Nat.lt_of_lt_of_le h2 HB3.out.size
          exact ⟨be, 0, h1, Nat.lt_of_lt_of_le h4 hB4.size, by omega, h3.below HB4.out h2⟩
      have HPA := hid (part_all (ce := ce) (cap := cn) (K := 1000) HX.out (Nat.le_refl _) 400)
      have HS := hid (stands_of HSA.out HG.out.1 HG.out.2.1 HG.out.2.2)
      have HSz : Hid ((⟨n, k, 0⟩ : Tp).size ≤ 300) := by
        show _ ≤ _
        have := HL.out.2
        rw [HG.out.1, List.length_cons] at this
        exact this
      have S0 : Hid (CmE W0 X2.heap.size (.slice ae es.length ce) (.slice (some ⟨bt, 0, none⟩) ns.length cn) ⟨[], []⟩ W0) := ⟨_, _, _, hC⟩
      have HM : Hid (W.heap.size ≤ X2.heap.size) := HB3.out.size
      have HC0 := hid (HPA.out ⟨n, k, 0⟩ [] ⟨[], []⟩ (.slice none 0 0) W0 (by have := HSz.out; omega) HS.out (by have := HSz.out; simp; omega) (by have := HSz.out; simp [Cs.rest]; omega) S0.out (Or.inl ⟨rfl, rfl⟩))
      have R0 := hid (part_r (ns := ns) (K := 1000) (es := es) 400 ⟨n, k, 0⟩ [] ⟨[], []⟩ (by have := HSz.out; omega) HS.out (by have := HSz.out; simp; omega))
      obtain ⟨Mb, hMb⟩ : ∃ Mb, X2.heap.size = Mb := ⟨_, rfl⟩
      rw [hMb] at HX HPA S0 HM HC0
      clear hC hB4 hW0 hbt2 S0
      go_upto_region 4 with fail
      rw [HW0.out]
      try rw [hMb]
      clear HW0 e0 e1 hMb
      go_wp2_with fail
      refine HC0.out.mono ?_
      rintro e X4 ⟨⟨x4, rfl⟩, h4, -⟩
      obtain ⟨s4, hs4⟩ : ∃ x, partZ es 400 ⟨n, k, 0⟩ [] ⟨[], []⟩ = x := ⟨_, rfl⟩
      rw [hs4] at h4 R0
      have S4 := hid h4
      have HS4 := hid hs4
      clear h4 hs4 HC0
      have HR0 : Hid (s4.out.length + 10 * s4.rest ≤ 3000 ∧ s4.rest ≤ 299 ∧ LOk ns 1000 s4) := by
        have h1 := R0.out.cost
        have h2 := R0.out.rest
        have h3 := HSz.out
        have h4 : (⟨[], []⟩ : Cs).rest = 0 := rfl
        have h5 : (⟨[], []⟩ : Cs).out.length = 0 := rfl
        exact ⟨by omega, by omega, R0.out.ok (fun l hl => by cases hl)⟩
      go_wp2_with fail
      refine (putM_calls ⟨0, 0, 0, 0⟩ S4.out (by have := HR0.out.1; omega)).mono ?_
      rintro e X5 ⟨rfl, h5, -⟩
      obtain ⟨n5, hn5⟩ : ∃ m, s4.out.length = m := ⟨_, rfl⟩
      rw [hn5]
      have S5 := hid h5
      clear h5 hn5
      obtain ⟨FIN, hFIN⟩ : ∃ x, codeZ es n k = x := ⟨_, rfl⟩
      have HFIN : Hid ((restZ es 400 0 (s4.put ⟨0, 0, 0, 0⟩)).out = FIN) := by
        show _ = _
        rw [← hFIN, ← HS4.out]
        rfl
      have HFQ := hid hFIN
      clear hFIN
      go_wp2_with fail
      go_loopw [5] (fun i wr => ∃ (i' : Nat) (s : Cs), i = .int .i64 (i' : Int) ∧ Hid (CmE W0 Mb (.slice ae es.length ce) (.slice (some ⟨bt, 0, none⟩) ns.length cn) s wr ∧ LOk ns 1000 s ∧ s.out.length + 10 * s.rest + 3000 * pend s i' ≤ 900001 ∧ i' + pend s i' ≤ 300 ∧ i' ≤ s.later.length ∧ (restZ es (400 - i') i' s).out = FIN)) (fun i _ => 400 - (intOf i).toNat)
      case atStart =>
        refine ⟨0, _, rfl, S5.out, ?_, ?_, ?_, Nat.zero_le _, HFIN.out⟩
        · exact (Rs.put ns 1000 s4 ⟨0, 0, 0, 0⟩).ok HR0.out.2.2
        · have h1 := HR0.out
          have h2 : (s4.put ⟨0, 0, 0, 0⟩).rest = s4.rest := rfl
          have h3 : pend (s4.put ⟨0, 0, 0, 0⟩) 0 = s4.rest := rfl
          have h4 : (s4.put ⟨0, 0, 0, 0⟩).out.length = s4.out.length + 1 := by simp [Cs.put]
          omega
        · have h1 := HR0.out
          have h3 : pend (s4.put ⟨0, 0, 0, 0⟩) 0 = s4.rest := rfl
          omega
      case round =>
        obtain ⟨i', s, rfl, HI⟩ := hrel
        obtain ⟨ls, vo, vl, hcm⟩ := HI.out.1
        obtain ⟨adl, cpl, hvl⟩ := own_slice hcm.lrow
        subst hvl
        have hll : ls.length = s.later.length := by rw [← hcm.lfst, List.length_map]
        have d3 := cell_of_heap hcm.blk 3
        simp at d3
        by_cases hi : (i' : Int) < (ls.length : Int)
        · have hil : i' < s.later.length := by omega
          obtain ⟨gl, hgl⟩ : ∃ g, adl = some ⟨g, 0, none⟩ := by
            obtain ⟨-, ⟨-, h0⟩ | ⟨g, cap, cur, e, -⟩⟩ := hcm.lrow
            · omega
            · cases e
              exact ⟨g, rfl⟩
          subst hgl
          have hcs : ∀ c, c < 4 → wr.cell? ⟨gl, i' * 4 + c, none⟩ = some (ltV (ls.getD i' default) c) := fun c hc => by
            rw [hcm.lrow.cellAt (i' * 4 + c) (by omega), rowZ_get ltV 4 (by decide) ls _ (by omega)]
            rw [show (i' * 4 + c) / 4 = i' by omega, show (i' * 4 + c) % 4 = c by omega]
          have hmem : ls.getD i' default ∈ ls := getD_mem (by omega)
          have hls : s.later.getD i' default = (ls.getD i' default).1 := by
            rw [← hcm.lfst]
            simp [List.getD, show i' < ls.length by omega]
          obtain ⟨⟨l, v⟩, hlv⟩ : ∃ x, ls.getD i' default = x := ⟨_, rfl⟩
          rw [hlv] at hcs hmem hls
          have hnm := hcm.lnam _ hmem
          dsimp only at hls hnm
          obtain ⟨adv, cpv, rfl⟩ := hnm.is
          have b0 := hcs 0 (by omega)
          have b1 := hcs 1 (by omega)
          have b2 := hcs 2 (by omega)
          have b3 := hcs 3 (by omega)
          simp only [ltV, Nat.add_zero] at b0 b1 b2 b3
          have hlm : l ∈ s.later := by rw [← hls]; exact getD_mem hil
          obtain ⟨q1, q2, q3⟩ := HI.out.2.1 l hlm
          have HQ := hid (And.intro q1 (And.intro q2 q3))
          have hnx := next_r (es := es) hil HL.out.2 HI.out.2.1 HI.out.2.2.1 HI.out.2.2.2.1
          rw [hls] at hnx
          have HNx := hid hnx
          have hpn := pend_next hil
          rw [hls] at hpn
          have HPn := hid hpn
          have HFn : Hid ((restZ es (400 - (i' + 1)) (i' + 1) (nextZ es l s)).out = FIN) := by
            have h1 := HI.out.2.2.2.2.2
            rw [show 400 - i' = (400 - (i' + 1)) + 1 by have := HI.out.2.2.2.1; omega, restZ, if_pos hil] at h1
            dsimp only at h1
            have hd : s.later.getD i' ⟨default, [], 0, 0⟩ = l := hls
            rw [hd] at h1
            exact h1
          have hA5 := (MapKept.heap_alloc wr (.cells #[.int .i64 (l.t.at_ : Int), .slice adv l.names.length cpv, .int .i64 (l.fr : Int), .int .i64 (l.wh : Int)] 71)).1
          have hB5 := (Below.refl wr.heap.size wr).alloc (Nat.le_refl _) (.cells #[.int .i64 (l.t.at_ : Int), .slice adv l.names.length cpv, .int .i64 (l.fr : Int), .int .i64 (l.wh : Int)] 71)
          obtain ⟨V, hV⟩ : ∃ V, wr.alloc (.cells #[.int .i64 (l.t.at_ : Int), .slice adv l.names.length cpv, .int .i64 (l.fr : Int), .int .i64 (l.wh : Int)] 71) = V := ⟨_, rfl⟩
          rw [hV] at hA5 hB5
          have HV := hid hV
          have HA5 := hid hA5
          have V0 := hid (HI.out.1.below hB5)
          have VN := hid (hnm.frame (Cf.of_below hB5))
          have hi0 : (0 : Int) ≤ (i' : Int) := by omega
          have hstep : 400 - (intOf (.int .i64 ((i' + 1 : Nat) : Int))).toNat < 400 - (intOf (.int .i64 (i' : Int))).toNat := by
            have := HI.out.2.2.2.1
            simp only [intOf, Int.toNat_natCast]
            omega
          clear hcm hll hil hcs hmem hls hlv hnm hlm q1 q2 q3 hnx hpn hA5 hB5 hV
          go_upto_region 10 with fail
          rw [HV.out]
          clear HV b0 b1 b2 b3 d3
          have x2 := cell_of_heap HA5.out 2
          have x3 := cell_of_heap HA5.out 3
          simp at x2 x3
          go_wp2_with fail
          refine (lead2_calls l.fr l.wh V0.out (by have := HI.out.2.2.1; omega) HQ.out.2.2 (by have := HQ.out.2.1.2; omega)).mono ?_
          rintro e E1 ⟨⟨⟨y1, rfl⟩, h1, f1⟩, l1⟩
          have E1S := hid h1
          have E1N := hid (VN.out.frame f1)
          have E1A := hid ((l1 _ _ HA5.out).trans HA5.out)
          clear h1 f1 l1 x2 x3
          have y0 := cell_of_heap E1A.out 0
          have y1 := cell_of_heap E1A.out 1
          simp at y0 y1
          go_wp2_with fail
          refine (HPA.out l.t l.names _ _ _ (by have := HQ.out.1.lt.2.2; have := HL.out.2; omega) HQ.out.1 HQ.out.2.1.1 (by have h1 := HI.out.2.2.1; have h2 := HQ.out.1.lt.2.2; have h3 := HL.out.2; have h4 : (s.lead l.fr l.wh).out.length = s.out.length := lead_len _ _ _; have h5 : (s.lead l.fr l.wh).rest = s.rest := rfl; omega) E1S.out E1N.out).mono ?_
          rintro e E2 ⟨⟨z2, rfl⟩, h2, -⟩
          have E2S := hid h2
          clear h2 y0 y1
          have HOut : Hid ((partZ es 400 l.t l.names (s.lead l.fr l.wh)).out.length ≤ 950000) := by
            show _ ≤ _
            have h1 := HNx.out.2.1
            have h2 : (nextZ es l s).out.length = (partZ es 400 l.t l.names (s.lead l.fr l.wh)).out.length + 1 := by simp [nextZ, Cs.put]
            omega
          go_wp2_with fail
          refine (putM_calls ⟨9, 0, 0, 0⟩ E2S.out (by have := HOut.out; omega)).mono ?_
          rintro e E3 ⟨rfl, h3, -⟩
          obtain ⟨m3, hm3⟩ : ∃ m, (partZ es 400 l.t l.names (s.lead l.fr l.wh)).out.length = m := ⟨_, rfl⟩
          rw [hm3]
          have E3S : Hid (CmE W0 Mb (.slice ae es.length ce) (.slice (some ⟨bt, 0, none⟩) ns.length cn) (nextZ es l s) E3) := h3
          clear h3 hm3
          have hi9 : Hid (i' ≤ 1000) := by show _ ≤ _; have := HI.out.2.2.2.1; omega
          go_wp2_with fail
          try rw [wrap_succ (by have := hi9.out; omega)]
          exact ⟨⟨i' + 1, nextZ es l s, rfl, E3S.out, HNx.out.1, HNx.out.2.1, HNx.out.2.2.1, HNx.out.2.2.2, HFn.out⟩, hstep⟩
        · have hie : ¬ i' < s.later.length := by omega
          have HFn : Hid (s.out = FIN) := by
            have h1 := HI.out.2.2.2.2.2
            rw [show 400 - i' = (399 - i') + 1 by have := HI.out.2.2.2.1; omega, restZ, if_neg hie] at h1
            exact h1
          obtain ⟨ado, cpo, hvo⟩ := own_slice hcm.orow
          subst hvo
          have d2 := cell_of_heap hcm.blk 2
          simp at d2
          have HCm := hid hcm
          clear hcm hll
          go_wp2_with fail
          go_ret2
          exact ⟨_, s.out, true, rfl, own_base HCm.out.orow HB4.out.size, by have := HI.out.2.2.1; omega, cm_below HCm.out HB4.out HM.out, (fun h => by cases h), fun _ => ⟨n, k, HG.out.1, HG.out.2.1, HG.out.2.2, by rw [HFn.out, HFQ.out]⟩⟩
end Go.Proofs.YtegjdgiegnofhaaDoor
