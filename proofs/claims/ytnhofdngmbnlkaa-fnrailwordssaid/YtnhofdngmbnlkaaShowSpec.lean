/- The specification's text of a tree. -/
import Derived.Test.YtnhofdngmbnlkaaShowPure
import Derived.Test.YtnhofdngmbnlkaaKidAt
import Derived.Test.YtnhofdngmbnlkaaDecPos
import Derived.Test.YtnhofdngmbnlkaaStagesG
import Derived.Deep.CutRange
import Derived.Deep.CutBlock
namespace Go.Proofs.Ytnhofdngmbnlkaa
open Go.RowKit Go.Deep

theorem tx_name (s : ByteArray) : tx s.data.toList = s := rfl

/-- What writing does, up to a size. -/
def ShowC (b off cap : Nat) (ns : List Nd) (F : Nat) : Prop := ∀ (t : Tp) (least : Int) (W : World), t.size ≤ F → Stands ns t → Ex t → b < W.heap.size → NodesAt W b off ns →
    Calls Try.prog 28 #[.slice (some ⟨b, off, none⟩) ns.length cap, .int .i64 (t.at_ : Int), .int .i64 least] W fun e W' => e = .returned (.string (tx (showZ F t least))) ∧ Below W.heap.size W W'

def BareP (W : World) (T : List UInt8) (e : Ending) (W' : World) : Prop := e = .returned (.string (tx T)) ∧ Below W.heap.size W W'

section
variable {b off cap : Nat} {ns : List Nd} {F : Nat}

theorem dec_calls (n : Int) (h0 : 0 ≤ n) (h1 : n ≤ 999999999) (w : World) : Calls Try.prog 55 #[.int .i64 n] w fun e w' => e = .returned (.string (tx (Lib.itoa n))) ∧ Below w.heap.size w w' := by
  obtain ⟨m, rfl⟩ : ∃ m : Nat, n = (m : Int) := ⟨n.toNat, by omega⟩
  cases m with
  | zero =>
    refine (l2Dec_zero w).mono ?_
    rintro e w' ⟨rfl, rfl⟩
    refine ⟨?_, Below.refl _ _⟩
    unfold tx Lib.itoa
    rw [if_neg (by omega)]
    rw [show ((0 : Nat) : Int).toNat = 0 from rfl, Lib.decDigits_one (by omega)]
    rfl
  | succ u =>
    have e : Lib.itoa ((u + 1 : Nat) : Int) = Lib.decDigits (u + 1) := by
      unfold Lib.itoa
      rw [if_neg (by omega), Int.toNat_natCast]
    rw [e]
    exact l2Dec_pos (u + 1) w (by omega) (by omega)

set_option maxHeartbeats 2000000 in
set_option maxRecDepth 100000 in
theorem level_calls (k : Int) (W : World) : Calls Try.prog 44 #[.int .i64 k] W fun e W' => e = .returned (.int .i64 (lvZ k)) ∧ W = W' := by
  by_cases k8 : k = 8
  · subst k8
    go_enter Try.func44, Try.ntmps44
    go_wp2_with fail
    go_ret
    exact ⟨rfl, rfl⟩
  by_cases k9 : k = 9
  · subst k9
    go_enter Try.func44, Try.ntmps44
    go_wp2_with fail
    go_ret
    exact ⟨rfl, rfl⟩
  by_cases k10 : k = 10
  · subst k10
    go_enter Try.func44, Try.ntmps44
    go_wp2_with fail
    go_ret
    exact ⟨rfl, rfl⟩
  by_cases k6 : k = 6
  · subst k6
    go_enter Try.func44, Try.ntmps44
    go_wp2_with fail
    go_ret
    exact ⟨rfl, rfl⟩
  by_cases k20 : k = 20
  · subst k20
    go_enter Try.func44, Try.ntmps44
    go_wp2_with fail
    go_ret
    exact ⟨rfl, rfl⟩
  by_cases k19 : k = 19
  · subst k19
    go_enter Try.func44, Try.ntmps44
    go_wp2_with fail
    go_ret
    exact ⟨rfl, rfl⟩
  by_cases k14 : k = 14
  · subst k14
    go_enter Try.func44, Try.ntmps44
    go_wp2_with fail
    go_ret
    exact ⟨rfl, rfl⟩
  by_cases k15 : k = 15
  · subst k15
    go_enter Try.func44, Try.ntmps44
    go_wp2_with fail
    go_ret
    exact ⟨rfl, rfl⟩
  by_cases k11 : k = 11
  · subst k11
    go_enter Try.func44, Try.ntmps44
    go_wp2_with fail
    go_ret
    exact ⟨rfl, rfl⟩
  by_cases k12 : k = 12
  · subst k12
    go_enter Try.func44, Try.ntmps44
    go_wp2_with fail
    go_ret
    exact ⟨rfl, rfl⟩
  by_cases k13 : k = 13
  · subst k13
    go_enter Try.func44, Try.ntmps44
    go_wp2_with fail
    go_ret
    exact ⟨rfl, rfl⟩
  by_cases k7 : k = 7
  · subst k7
    go_enter Try.func44, Try.ntmps44
    go_wp2_with fail
    go_ret
    exact ⟨rfl, rfl⟩
  by_cases k17 : k = 17
  · subst k17
    go_enter Try.func44, Try.ntmps44
    go_wp2_with fail
    go_ret
    exact ⟨rfl, rfl⟩
  by_cases k18 : k = 18
  · subst k18
    go_enter Try.func44, Try.ntmps44
    go_wp2_with fail
    go_ret
    exact ⟨rfl, rfl⟩
  by_cases k21 : k = 21
  · subst k21
    go_enter Try.func44, Try.ntmps44
    go_wp2_with fail
    go_ret
    exact ⟨rfl, rfl⟩
  by_cases k22 : k = 22
  · subst k22
    go_enter Try.func44, Try.ntmps44
    go_wp2_with fail
    go_ret
    exact ⟨rfl, rfl⟩
  have z8 : (k == 8) = false := by simp [k8]
  have z9 : (k == 9) = false := by simp [k9]
  have z10 : (k == 10) = false := by simp [k10]
  have z6 : (k == 6) = false := by simp [k6]
  have z20 : (k == 20) = false := by simp [k20]
  have z19 : (k == 19) = false := by simp [k19]
  have z14 : (k == 14) = false := by simp [k14]
  have z15 : (k == 15) = false := by simp [k15]
  have z11 : (k == 11) = false := by simp [k11]
  have z12 : (k == 12) = false := by simp [k12]
  have z13 : (k == 13) = false := by simp [k13]
  have z7 : (k == 7) = false := by simp [k7]
  have z17 : (k == 17) = false := by simp [k17]
  have z18 : (k == 18) = false := by simp [k18]
  have z21 : (k == 21) = false := by simp [k21]
  have z22 : (k == 22) = false := by simp [k22]
  have hz : lvZ k = 6 := by unfold lvZ; rw [if_neg (by omega), if_neg (by omega), if_neg (by omega), if_neg (by omega), if_neg (by omega), if_neg (by omega)]
  rw [hz]
  clear hz k8 k9 k10 k6 k20 k19 k14 k15 k11 k12 k13 k7 k17 k18 k21 k22
  go_enter Try.func44, Try.ntmps44
  go_wp2_with fail
  go_ret
  exact ⟨rfl, rfl⟩

set_option maxHeartbeats 4000000 in
set_option maxRecDepth 100000 in
theorem two_calls (hl : ns.length ≤ 300) (hnt : ∀ m ∈ ns, Neat m) (ih : ShowC b off cap ns F) {t : Tp} {W : World} (l r : Int) (sg : List UInt8) (hsg : sg.length ≤ 8) (hF : t.size ≤ F + 1) (hs : Stands ns t) (hx : Ex t) (hh : ¬ (t.n.kind = 23 ∨ t.n.kind = 24)) (hc : t.k.count = 2) (hb : b < W.heap.size) (hn : NodesAt W b off ns) :
    Calls Try.prog 57 #[.slice (some ⟨b, off, none⟩) ns.length cap, .int .i64 (t.at_ : Int), .int .i64 l, .string (tx sg), .int .i64 r] W (BareP W (showZ F (t.kid 0) l ++ [32] ++ sg ++ [32] ++ showZ F (t.kid 1) r)) := by
  have hsz := hs.lt.2.2
  have HZ : Hid ((t.kid 0).size + (t.kid 1).size + 1 = t.size ∧ 1 ≤ (t.kid 0).size ∧ 1 ≤ (t.kid 1).size ∧ t.size ≤ 300) := ⟨(kids2 hc).2, (t.kid 0).size_pos, (t.kid 1).size_pos, by omega⟩
  have HK0 := hid (kid_calls (cap := cap) 0 W hn hl hs (by omega))
  have HS0 := hid (ih (t.kid 0) l W (by have := HZ.out; omega) (hs.kid (by omega)) (hx.1.ex (by omega) (role_plain hh _)) hb hn)
  have HK1 := hid (fun X (hX : Below W.heap.size W X) => kid_calls (cap := cap) 1 X (hn.below hX hb) hl hs (by omega))
  have HS1 := hid (fun X (hX : Below W.heap.size W X) => ih (t.kid 1) r X (by have := HZ.out; omega) (hs.kid (by omega)) (hx.1.ex (by omega) (role_plain hh _)) (Nat.lt_of_lt_of_le hb hX.size) (hn.below hX hb))
  have h0 := (bare_len hnt F).1 (t.kid 0) l (by have := HZ.out; omega) (hs.kid (by omega)) (hx.1.ex (by omega) (role_plain hh _))
  have h1 := (bare_len hnt F).1 (t.kid 1) r (by have := HZ.out; omega) (hs.kid (by omega)) (hx.1.ex (by omega) (role_plain hh _))
  obtain ⟨T0, hT0⟩ : ∃ T, showZ F (t.kid 0) l = T := ⟨_, rfl⟩
  obtain ⟨T1, hT1⟩ : ∃ T, showZ F (t.kid 1) r = T := ⟨_, rfl⟩
  rw [hT0] at HS0 h0 ⊢
  rw [hT1] at HS1 h1 ⊢
  have l0 : (tx T0).size ≤ 18000 := by rw [tx_size]; have := HZ.out; omega
  have l1 : (tx T1).size ≤ 18000 := by rw [tx_size]; have := HZ.out; omega
  have l2 : (tx sg).size ≤ 8 := by rw [tx_size]; exact hsg
  obtain ⟨sb, hsb⟩ : ∃ sb, tx sg = sb := ⟨_, rfl⟩
  have HSB := hid hsb
  rw [hsb] at l2 ⊢
  clear hl hnt ih hsg hF hs hx hh hc hb hn hsz h0 h1 hT0 hT1 hsb
  go_enter Try.func57, Try.ntmps57
  go_wp2_with fail
  refine HK0.out.mono ?_
  rintro e Xk ⟨rfl, rfl⟩
  go_wp2_with fail
  refine HS0.out.mono ?_
  rintro e X1 ⟨rfl, hb1⟩
  have B1 := hid hb1
  clear hb1
  go_wp2_with fail
  refine (HK1.out X1 B1.out).mono ?_
  rintro e Xk ⟨rfl, rfl⟩
  go_wp2_with fail
  refine (HS1.out X1 B1.out).mono ?_
  rintro e X2 ⟨rfl, hb2⟩
  have B2 := hid (B1.out.trans (hb2.mono B1.out.size))
  clear hb2
  go_wp2_with fail
  go_ret
  refine ⟨?_, B2.out⟩
  simp only [← tx_append]
  rw [HSB.out]
  rfl

/-- A handler's text, so many clauses on. -/
def handZ' (F : Nat) (t : Tp) (base : List UInt8) : Nat → List UInt8
  | 0 => base
  | j + 1 => ((t.kids.drop 2).take j).foldl (fun T c => T ++ opT c (showZ F (c.kid 0) 0)) (base ++ retT (t.kid 1) (showZ F ((t.kid 1).kid 0) 0))

theorem handZ_next {F : Nat} {t : Tp} {base : List UInt8} {j : Nat} (h : j + 2 < t.k.count) : handZ' F t base (j + 2) = handZ' F t base (j + 1) ++ opT (t.kid (2 + j)) (showZ F ((t.kid (2 + j)).kid 0) 0) := by
  have hl : j < (t.kids.drop 2).length := by rw [List.length_drop, t.kids_len]; omega
  have hg : (t.kids.drop 2)[j] = t.kid (2 + j) := by
    unfold Tp.kid
    simp [List.getD, show 2 + j < t.kids.length by rw [t.kids_len]; omega]
  show ((t.kids.drop 2).take (j + 1)).foldl _ _ = _
  rw [List.take_add_one, List.getElem?_eq_getElem hl, hg, List.foldl_append]
  rfl

theorem handZ_all {F : Nat} {t : Tp} {base : List UInt8} (h : 2 ≤ t.k.count) : handZ' F t base (t.k.count - 1) = (t.kids.drop 2).foldl (fun T c => T ++ opT c (showZ F (c.kid 0) 0)) (base ++ retT (t.kid 1) (showZ F ((t.kid 1).kid 0) 0)) := by
  obtain ⟨m, hm⟩ : ∃ m, t.k.count = m + 2 := ⟨t.k.count - 2, by omega⟩
  rw [hm, show m + 2 - 1 = m + 1 by omega]
  show ((t.kids.drop 2).take m).foldl _ _ = _
  rw [List.take_of_length_le (by rw [List.length_drop, t.kids_len]; omega)]

/-- The clauses of a handler, one by one. -/
theorem clause_at {t : Tp} (hs : Stands ns t) (hx : Ex t) (hh : t.n.kind = 23 ∨ t.n.kind = 24) {i : Nat} (h1 : 1 ≤ i) (hi : i < t.k.count) : Stands ns (t.kid i) ∧ (t.kid i).k.count = 1 ∧ Ex ((t.kid i).kid 0) ∧ ((t.kid i).kid 0).size + 1 = (t.kid i).size := by
  have hm : t.kid i ∈ t.kids.drop 1 := by
    have hl : i - 1 < (t.kids.drop 1).length := by rw [List.length_drop, t.kids_len]; omega
    have hg : (t.kids.drop 1)[i - 1] = t.kid i := by
      unfold Tp.kid
      simp [List.getD, show i < t.kids.length by rw [t.kids_len]; omega]
      congr 1
      omega
    rw [← hg]
    exact List.getElem_mem hl
  have hc := (hs.head hh _ hm).2
  exact ⟨hs.kid hi, hc, clause_ex hx.1 hi hc, (kids1 hc).2⟩

theorem handZ_len (hl : ns.length ≤ 300) (hnt : ∀ m ∈ ns, Neat m) {t : Tp} (hs : Stands ns t) (hx : Ex t) (hh : t.n.kind = 23 ∨ t.n.kind = 24) (hF : t.size ≤ F + 1) {base : List UInt8} : ∀ j, j < t.k.count → (handZ' F t base j).length ≤ base.length + 20000 * j
  | 0, _ => Nat.le_add_right _ _
  | 1, h => by
    obtain ⟨c1, c2, c3, c4⟩ := clause_at hs hx hh (i := 1) (Nat.le_refl _) h
    have hsz := sum_mem t.kids _ (Tp.kid_mem h)
    have e := t.kids_sum
    have nt := name_len ((c1.neat hnt).a)
    have g := (bare_len hnt F).1 ((t.kid 1).kid 0) 0 (by omega) (c1.kid (by omega)) c3
    have hl2 := hs.lt.2.2
    simp only [handZ', List.take_zero, List.foldl_nil, List.length_append, retT, List.length_cons, List.length_nil]
    omega
  | j + 2, h => by
    obtain ⟨c1, c2, c3, c4⟩ := clause_at hs hx hh (i := 2 + j) (by omega) (by omega)
    have hsz := sum_mem t.kids _ (Tp.kid_mem (t := t) (i := 2 + j) (by omega))
    have e := t.kids_sum
    have nt := c1.neat hnt
    have na := name_len nt.a
    have nb := name_len nt.b
    have nc := name_len nt.c
    have g := (bare_len hnt F).1 ((t.kid (2 + j)).kid 0) 0 (by omega) (c1.kid (by omega)) c3
    have hl2 := hs.lt.2.2
    have ih := handZ_len hl hnt hs hx hh hF (base := base) (j + 1) (by omega)
    rw [handZ_next (by omega)]
    simp only [List.length_append, opT, List.length_cons, List.length_nil]
    omega

set_option maxHeartbeats 4000000 in
set_option maxRecDepth 100000 in
theorem hand_c23 (hl : ns.length ≤ 300) (hnt : ∀ m ∈ ns, Neat m) (ih : ShowC b off cap ns F) {t : Tp} {W : World} (hF : t.size ≤ F + 1) (hs : Stands ns t) (hx : Ex t) (hb : b < W.heap.size) (hn : NodesAt W b off ns) (ek : t.n.kind = 23) :
    Calls Try.prog 58 #[.slice (some ⟨b, off, none⟩) ns.length cap, .int .i64 (t.at_ : Int)] W (BareP W (handT (showZ F) t)) := by
  obtain ⟨hlt, hat, hsz⟩ := hs.lt
  have hh : t.n.kind = 23 ∨ t.n.kind = 24 := by omega
  have c0 := hn t.at_ hlt 0 (by omega)
  have c5 := hn t.at_ hlt 5 (by omega)
  rw [hat] at c0 c5
  simp only [Nd.cell, Nat.add_zero] at c0 c5
  rw [ek] at c0
  have hgood := hs.toGood
  have har := (arity_at hgood).2.1 (by rw [ek]; rfl)
  obtain ⟨kc, hkc⟩ : ∃ kc : Nat, t.k.count = kc := ⟨_, rfl⟩
  rw [hs.kids, hkc] at c5
  rw [hkc] at har
  have HKc := hid (And.intro hkc har)
  have HP1 : Hid (wrap64 ((t.at_ : Int) + 1) = ((t.kid 0).at_ : Int)) := by show _ = _; rw [hs.first (by omega)]; unfold wrap64; omega
  have hsum := (kidsM (t := t) (by omega)).2
  have HS0 := hid (ih (t.kid 0) 0 W (by omega) (hs.kid (by omega)) (hx.1.ex (by omega) (role_first _)) hb hn)
  have h0 := (bare_len hnt F).1 (t.kid 0) 0 (by omega) (hs.kid (by omega)) (hx.1.ex (by omega) (role_first _))
  have hT : handT (showZ F) t = handZ' F t ([104, 97, 110, 100, 108, 101, 32] ++ showZ F (t.kid 0) 0 ++ [32, 119, 105, 116, 104]) (kc - 1) ++ [32, 101, 110, 100] := by
    rw [← hkc, handZ_all (by omega)]
    unfold handT
    rw [ek]
    rfl
  obtain ⟨T0, hT0⟩ : ∃ T, showZ F (t.kid 0) 0 = T := ⟨_, rfl⟩
  rw [hT0] at HS0 h0 hT
  have l0 : (tx T0).size ≤ 18000 := by rw [tx_size]; omega
  obtain ⟨base, hbase⟩ : ∃ x, [104, 97, 110, 100, 108, 101, 32] ++ T0 ++ [32, 119, 105, 116, 104] = x := ⟨_, rfl⟩
  have HBs := hid hbase
  have HBl : Hid (base.length ≤ 18100) := by show _ ≤ _; rw [← hbase]; simp only [List.length_append, List.length_cons, List.length_nil]; omega
  rw [hbase] at hT
  rw [hT]
  have HLn := hid (fun j (hj : j < kc) => handZ_len (F := F) (base := base) hl hnt hs hx hh hF j (by omega))
  have HCl := hid (fun i (h1 : 1 ≤ i) (hi : i < kc) => clause_at hs hx hh h1 (by omega))
  have HNx := hid (fun j (hj : j + 2 < kc) => handZ_next (F := F) (t := t) (base := base) (j := j) (by omega))
  have HSu := hid (fun i (hi : i < kc) => sum_mem t.kids _ (Tp.kid_mem (t := t) (i := i) (by omega)))
  have HSm := hid (And.intro t.kids_sum (And.intro hF hsz))
  have HK := hid (fun (X : World) (i : Nat) (hX : Below W.heap.size W X) (hi : i < kc) => kid_calls (cap := cap) i X (hn.below hX hb) hl hs (by omega))
  have HI := hid (fun (X : World) (c : Tp) (hX : Below W.heap.size W X) (h1 : c.size ≤ F) (h2 : Stands ns c) (h3 : Ex c) => ih c 0 X h1 h2 h3 (Nat.lt_of_lt_of_le hb hX.size) (hn.below hX hb))
  have HN := hid (fun (X : World) (hX : Below W.heap.size W X) => hn.below hX hb)
  have HC0 := hid (fun (X : World) (hX : Below W.heap.size W X) => (hX.cell (p := ⟨b, off + t.at_ * 6 + 5, none⟩) hb).trans c5)
  have HNt := hid hnt
  have HL := hid hl
  have hp0 : (0 : Int) ≤ (t.at_ : Int) := by omega
  have hpl : (t.at_ : Int) < (ns.length : Int) := by omega
  clear hl hnt ih hF hs hx hb hn hlt hat hsz hh hgood har hkc hsum h0 hT0 hbase hT ek
  go_enter Try.func58, Try.ntmps58
  go_wp2_with fail
  rw [HP1.out]
  refine HS0.out.mono ?_
  rintro e X1 ⟨rfl, hb1⟩
  have B1 := hid hb1
  clear hb1 c0 c5 HS0
  go_wp2_with fail
  go_loopw [5, 6] (fun out i wr => ∃ (j : Nat) (z : Int), out = .string (tx (handZ' F t base j)) ∧ i = .int .i64 z ∧ z = 1 + (j : Int) ∧ j + 1 ≤ kc ∧ Hid (Below W.heap.size W wr)) (fun _ i _ => kc - (intOf i).toNat)
  case atStart =>
    refine ⟨0, 1, ?_, rfl, rfl, by have := HKc.out; omega, B1⟩
    show Value.string _ = Value.string _
    congr 1
    show _ = tx base
    rw [← HBs.out]
    simp only [← tx_append]
    rfl
  case round =>
    obtain ⟨j, z, rfl, rfl, hzj, hj, HBr⟩ := hrel
    have c5 := HC0.out wr HBr.out
    by_cases hz : z < (kc : Int)
    · have hjk : 1 + j < kc := by omega
      obtain ⟨q1, q2, q3, q4⟩ := HCl.out (1 + j) (by omega) hjk
      have hsu := HSu.out (1 + j) hjk
      have HKd := hid (HK.out wr (1 + j) HBr.out hjk)
      rw [show ((1 + j : Nat) : Int) = z by omega] at HKd
      have hln := HLn.out j (by omega)
      obtain ⟨c, hc⟩ : ∃ c, t.kid (1 + j) = c := ⟨_, rfl⟩
      rw [hc] at q1 q2 q3 q4 hsu HKd
      obtain ⟨hl0, hl1, -⟩ := q1.lt
      have hnc := HN.out wr HBr.out
      have b0 := hnc c.at_ hl0 0 (by omega)
      have b1 := hnc c.at_ hl0 1 (by omega)
      have b2 := hnc c.at_ hl0 2 (by omega)
      have b3 := hnc c.at_ hl0 3 (by omega)
      have b4 := hnc c.at_ hl0 4 (by omega)
      have b5 := hnc c.at_ hl0 5 (by omega)
      rw [hl1] at b0 b1 b2 b3 b4 b5
      simp only [Nd.cell, Nat.add_zero] at b0 b1 b2 b3 b4 b5
      have nt := q1.neat HNt.out
      have na : c.n.a.size ≤ 8 := nt.a
      have nb : c.n.b.size ≤ 8 := nt.b
      have nc : c.n.c.size ≤ 8 := nt.c
      have hc0 : (0 : Int) ≤ (c.at_ : Int) := by omega
      have hcl : (c.at_ : Int) < (ns.length : Int) := by omega
      have HP3 : Hid (wrap64 ((c.at_ : Int) + 1) = ((c.kid 0).at_ : Int)) := by show _ = _; rw [q1.first (by omega)]; have := HL.out; unfold wrap64; omega
      have g := (bare_len HNt.out F).1 (c.kid 0) 0 (by have := HSm.out; omega) (q1.kid (by omega)) q3
      have HIc := hid (fun (X : World) (hX : Below W.heap.size W X) => HI.out X (c.kid 0) hX (by have := HSm.out; omega) (q1.kid (by omega)) q3)
      obtain ⟨Tc, hTc⟩ : ∃ T, showZ F (c.kid 0) 0 = T := ⟨_, rfl⟩
      rw [hTc] at g HIc
      have HTc := hid hTc
      have lc : (tx Tc).size ≤ 18000 := by rw [tx_size]; have := HSm.out; have := HL.out; omega
      have HV1 : Hid (Below W.heap.size W (wr.alloc (.cells #[.int .i64 c.n.kind, .int .i64 c.n.num, .string c.n.a, .string c.n.b, .string c.n.c, .int .i64 c.n.kids] 65))) := HBr.out.alloc HBr.out.size _
      have HVa := hid (MapKept.heap_alloc wr (.cells #[.int .i64 c.n.kind, .int .i64 c.n.num, .string c.n.a, .string c.n.b, .string c.n.c, .int .i64 c.n.kids] 65)).1
      obtain ⟨V, hV⟩ : ∃ V, wr.alloc (.cells #[.int .i64 c.n.kind, .int .i64 c.n.num, .string c.n.a, .string c.n.b, .string c.n.c, .int .i64 c.n.kids] 65) = V := ⟨_, rfl⟩
      rw [hV] at HV1 HVa
      have HV := hid hV
      have HJ := hid (And.intro hzj (And.intro hj hc))
      have HZs : Hid (wrap64 (z + 1) = z + 1) := by show _ = _; have := HKc.out; unfold wrap64; omega
      have hstep : kc - (intOf (.int .i64 (z + 1))).toNat < kc - (intOf (.int .i64 z)).toNat := by simp only [intOf]; omega
      obtain ⟨TO, hTO⟩ : ∃ T, handZ' F t base j = T := ⟨_, rfl⟩
      rw [hTO] at hln ⊢
      have HTO := hid hTO
      have lo : (tx TO).size ≤ 200000 := by rw [tx_size]; have := HBl.out; have := HKc.out; omega
      clear hjk q1 q2 q3 q4 hsu hln hl0 hl1 hnc nt g hTc hV hj hTO hc hzj
      go_wp2_with fail
      refine HKd.out.mono ?_
      rintro e Xk ⟨rfl, rfl⟩
      clear c5
      go_upto_region 10 with fail
      rw [HV.out]
      clear HV b0 b1 b2 b3 b4 b5
      have g2 := cell_of_heap HVa.out 2
      have g3 := cell_of_heap HVa.out 3
      have g4 := cell_of_heap HVa.out 4
      simp at g2 g3 g4
      cases j with
      | zero =>
        have hz1 : z = 1 := by have := HJ.out.1; omega
        subst hz1
        go_wp2_with fail
        rw [HP3.out]
        refine (HIc.out V HV1.out).mono ?_
        rintro e X4 ⟨rfl, hb4⟩
        have B4 := hid (HV1.out.trans (hb4.mono HV1.out.size))
        clear hb4 g2 g3 g4
        go_wp2_with fail
        try rw [HZs.out]
        refine ⟨⟨1, _, ?_, rfl, by rfl, by have := HKc.out; omega, B4⟩, hstep⟩
        show Value.string _ = Value.string _
        congr 1
        show _ = tx (base ++ retT (t.kid 1) (showZ F ((t.kid 1).kid 0) 0))
        have hc := HJ.out.2.2
        rw [show 1 + 0 = 1 from rfl] at hc
        rw [hc, HTc.out, show base = TO from HTO.out]
        simp only [retT, ← tx_append, tx_name, ByteArray.append_assoc]
        rfl
      | succ j =>
        have hz1 : (z == 1) = false := by have := HJ.out.1; simp; omega
        go_wp2_with fail
        rw [HP3.out]
        refine (HIc.out V HV1.out).mono ?_
        rintro e X4 ⟨rfl, hb4⟩
        have B4 := hid (HV1.out.trans (hb4.mono HV1.out.size))
        clear hb4 g2 g3 g4
        go_wp2_with fail
        try rw [HZs.out]
        refine ⟨⟨j + 2, _, ?_, rfl, by have := HJ.out.1; omega, by have := HJ.out; omega, B4⟩, hstep⟩
        show Value.string _ = Value.string _
        congr 1
        have hc := HJ.out.2.2
        rw [show 1 + (j + 1) = 2 + j by omega] at hc
        rw [HNx.out j (by have := HJ.out; omega), hc, HTc.out, HTO.out]
        simp only [opT, ← tx_append, tx_name, ByteArray.append_assoc]
        rfl
    · have ej : j = kc - 1 := by omega
      obtain ⟨TO, hTO⟩ : ∃ T, handZ' F t base (kc - 1) = T := ⟨_, rfl⟩
      have hln := HLn.out (kc - 1) (by have := HKc.out; omega)
      rw [hTO] at hln
      rw [ej, hTO]
      have lo : (tx TO).size ≤ 200000 := by rw [tx_size]; have := HBl.out; have := HKc.out; omega
      have HTO := hid hTO
      clear hln hTO ej hzj hj
      go_wp2_with fail
      go_ret
      refine ⟨?_, HBr.out⟩
      simp only [← tx_append]
      rw [HTO.out]
      rfl

set_option maxHeartbeats 4000000 in
set_option maxRecDepth 100000 in
theorem hand_c24 (hl : ns.length ≤ 300) (hnt : ∀ m ∈ ns, Neat m) (ih : ShowC b off cap ns F) {t : Tp} {W : World} (hF : t.size ≤ F + 1) (hs : Stands ns t) (hx : Ex t) (hb : b < W.heap.size) (hn : NodesAt W b off ns) (ek : t.n.kind = 24) :
    Calls Try.prog 58 #[.slice (some ⟨b, off, none⟩) ns.length cap, .int .i64 (t.at_ : Int)] W (BareP W (handT (showZ F) t)) := by
  obtain ⟨hlt, hat, hsz⟩ := hs.lt
  have hh : t.n.kind = 23 ∨ t.n.kind = 24 := by omega
  have c0 := hn t.at_ hlt 0 (by omega)
  have c5 := hn t.at_ hlt 5 (by omega)
  rw [hat] at c0 c5
  simp only [Nd.cell, Nat.add_zero] at c0 c5
  rw [ek] at c0
  have hgood := hs.toGood
  have har := (arity_at hgood).2.1 (by rw [ek]; rfl)
  obtain ⟨kc, hkc⟩ : ∃ kc : Nat, t.k.count = kc := ⟨_, rfl⟩
  rw [hs.kids, hkc] at c5
  rw [hkc] at har
  have HKc := hid (And.intro hkc har)
  have HP1 : Hid (wrap64 ((t.at_ : Int) + 1) = ((t.kid 0).at_ : Int)) := by show _ = _; rw [hs.first (by omega)]; unfold wrap64; omega
  have hsum := (kidsM (t := t) (by omega)).2
  have HS0 := hid (ih (t.kid 0) 0 W (by omega) (hs.kid (by omega)) (hx.1.ex (by omega) (role_first _)) hb hn)
  have h0 := (bare_len hnt F).1 (t.kid 0) 0 (by omega) (hs.kid (by omega)) (hx.1.ex (by omega) (role_first _))
  have hT : handT (showZ F) t = handZ' F t ([115, 104, 97, 108, 108, 111, 119, 32] ++ showZ F (t.kid 0) 0 ++ [32, 119, 105, 116, 104]) (kc - 1) ++ [32, 101, 110, 100] := by
    rw [← hkc, handZ_all (by omega)]
    unfold handT
    rw [ek]
    rfl
  obtain ⟨T0, hT0⟩ : ∃ T, showZ F (t.kid 0) 0 = T := ⟨_, rfl⟩
  rw [hT0] at HS0 h0 hT
  have l0 : (tx T0).size ≤ 18000 := by rw [tx_size]; omega
  obtain ⟨base, hbase⟩ : ∃ x, [115, 104, 97, 108, 108, 111, 119, 32] ++ T0 ++ [32, 119, 105, 116, 104] = x := ⟨_, rfl⟩
  have HBs := hid hbase
  have HBl : Hid (base.length ≤ 18100) := by show _ ≤ _; rw [← hbase]; simp only [List.length_append, List.length_cons, List.length_nil]; omega
  rw [hbase] at hT
  rw [hT]
  have HLn := hid (fun j (hj : j < kc) => handZ_len (F := F) (base := base) hl hnt hs hx hh hF j (by omega))
  have HCl := hid (fun i (h1 : 1 ≤ i) (hi : i < kc) => clause_at hs hx hh h1 (by omega))
  have HNx := hid (fun j (hj : j + 2 < kc) => handZ_next (F := F) (t := t) (base := base) (j := j) (by omega))
  have HSu := hid (fun i (hi : i < kc) => sum_mem t.kids _ (Tp.kid_mem (t := t) (i := i) (by omega)))
  have HSm := hid (And.intro t.kids_sum (And.intro hF hsz))
  have HK := hid (fun (X : World) (i : Nat) (hX : Below W.heap.size W X) (hi : i < kc) => kid_calls (cap := cap) i X (hn.below hX hb) hl hs (by omega))
  have HI := hid (fun (X : World) (c : Tp) (hX : Below W.heap.size W X) (h1 : c.size ≤ F) (h2 : Stands ns c) (h3 : Ex c) => ih c 0 X h1 h2 h3 (Nat.lt_of_lt_of_le hb hX.size) (hn.below hX hb))
  have HN := hid (fun (X : World) (hX : Below W.heap.size W X) => hn.below hX hb)
  have HC0 := hid (fun (X : World) (hX : Below W.heap.size W X) => (hX.cell (p := ⟨b, off + t.at_ * 6 + 5, none⟩) hb).trans c5)
  have HNt := hid hnt
  have HL := hid hl
  have hp0 : (0 : Int) ≤ (t.at_ : Int) := by omega
  have hpl : (t.at_ : Int) < (ns.length : Int) := by omega
  clear hl hnt ih hF hs hx hb hn hlt hat hsz hh hgood har hkc hsum h0 hT0 hbase hT ek
  go_enter Try.func58, Try.ntmps58
  go_wp2_with fail
  rw [HP1.out]
  refine HS0.out.mono ?_
  rintro e X1 ⟨rfl, hb1⟩
  have B1 := hid hb1
  clear hb1 c0 c5 HS0
  go_wp2_with fail
  go_loopw [5, 6] (fun out i wr => ∃ (j : Nat) (z : Int), out = .string (tx (handZ' F t base j)) ∧ i = .int .i64 z ∧ z = 1 + (j : Int) ∧ j + 1 ≤ kc ∧ Hid (Below W.heap.size W wr)) (fun _ i _ => kc - (intOf i).toNat)
  case atStart =>
    refine ⟨0, 1, ?_, rfl, rfl, by have := HKc.out; omega, B1⟩
    show Value.string _ = Value.string _
    congr 1
    show _ = tx base
    rw [← HBs.out]
    simp only [← tx_append]
    rfl
  case round =>
    obtain ⟨j, z, rfl, rfl, hzj, hj, HBr⟩ := hrel
    have c5 := HC0.out wr HBr.out
    by_cases hz : z < (kc : Int)
    · have hjk : 1 + j < kc := by omega
      obtain ⟨q1, q2, q3, q4⟩ := HCl.out (1 + j) (by omega) hjk
      have hsu := HSu.out (1 + j) hjk
      have HKd := hid (HK.out wr (1 + j) HBr.out hjk)
      rw [show ((1 + j : Nat) : Int) = z by omega] at HKd
      have hln := HLn.out j (by omega)
      obtain ⟨c, hc⟩ : ∃ c, t.kid (1 + j) = c := ⟨_, rfl⟩
      rw [hc] at q1 q2 q3 q4 hsu HKd
      obtain ⟨hl0, hl1, -⟩ := q1.lt
      have hnc := HN.out wr HBr.out
      have b0 := hnc c.at_ hl0 0 (by omega)
      have b1 := hnc c.at_ hl0 1 (by omega)
      have b2 := hnc c.at_ hl0 2 (by omega)
      have b3 := hnc c.at_ hl0 3 (by omega)
      have b4 := hnc c.at_ hl0 4 (by omega)
      have b5 := hnc c.at_ hl0 5 (by omega)
      rw [hl1] at b0 b1 b2 b3 b4 b5
      simp only [Nd.cell, Nat.add_zero] at b0 b1 b2 b3 b4 b5
      have nt := q1.neat HNt.out
      have na : c.n.a.size ≤ 8 := nt.a
      have nb : c.n.b.size ≤ 8 := nt.b
      have nc : c.n.c.size ≤ 8 := nt.c
      have hc0 : (0 : Int) ≤ (c.at_ : Int) := by omega
      have hcl : (c.at_ : Int) < (ns.length : Int) := by omega
      have HP3 : Hid (wrap64 ((c.at_ : Int) + 1) = ((c.kid 0).at_ : Int)) := by show _ = _; rw [q1.first (by omega)]; have := HL.out; unfold wrap64; omega
      have g := (bare_len HNt.out F).1 (c.kid 0) 0 (by have := HSm.out; omega) (q1.kid (by omega)) q3
      have HIc := hid (fun (X : World) (hX : Below W.heap.size W X) => HI.out X (c.kid 0) hX (by have := HSm.out; omega) (q1.kid (by omega)) q3)
      obtain ⟨Tc, hTc⟩ : ∃ T, showZ F (c.kid 0) 0 = T := ⟨_, rfl⟩
      rw [hTc] at g HIc
      have HTc := hid hTc
      have lc : (tx Tc).size ≤ 18000 := by rw [tx_size]; have := HSm.out; have := HL.out; omega
      have HV1 : Hid (Below W.heap.size W (wr.alloc (.cells #[.int .i64 c.n.kind, .int .i64 c.n.num, .string c.n.a, .string c.n.b, .string c.n.c, .int .i64 c.n.kids] 65))) := HBr.out.alloc HBr.out.size _
      have HVa := hid (MapKept.heap_alloc wr (.cells #[.int .i64 c.n.kind, .int .i64 c.n.num, .string c.n.a, .string c.n.b, .string c.n.c, .int .i64 c.n.kids] 65)).1
      obtain ⟨V, hV⟩ : ∃ V, wr.alloc (.cells #[.int .i64 c.n.kind, .int .i64 c.n.num, .string c.n.a, .string c.n.b, .string c.n.c, .int .i64 c.n.kids] 65) = V := ⟨_, rfl⟩
      rw [hV] at HV1 HVa
      have HV := hid hV
      have HJ := hid (And.intro hzj (And.intro hj hc))
      have HZs : Hid (wrap64 (z + 1) = z + 1) := by show _ = _; have := HKc.out; unfold wrap64; omega
      have hstep : kc - (intOf (.int .i64 (z + 1))).toNat < kc - (intOf (.int .i64 z)).toNat := by simp only [intOf]; omega
      obtain ⟨TO, hTO⟩ : ∃ T, handZ' F t base j = T := ⟨_, rfl⟩
      rw [hTO] at hln ⊢
      have HTO := hid hTO
      have lo : (tx TO).size ≤ 200000 := by rw [tx_size]; have := HBl.out; have := HKc.out; omega
      clear hjk q1 q2 q3 q4 hsu hln hl0 hl1 hnc nt g hTc hV hj hTO hc hzj
      go_wp2_with fail
      refine HKd.out.mono ?_
      rintro e Xk ⟨rfl, rfl⟩
      clear c5
      go_upto_region 10 with fail
      rw [HV.out]
      clear HV b0 b1 b2 b3 b4 b5
      have g2 := cell_of_heap HVa.out 2
      have g3 := cell_of_heap HVa.out 3
      have g4 := cell_of_heap HVa.out 4
      simp at g2 g3 g4
      cases j with
      | zero =>
        have hz1 : z = 1 := by have := HJ.out.1; omega
        subst hz1
        go_wp2_with fail
        rw [HP3.out]
        refine (HIc.out V HV1.out).mono ?_
        rintro e X4 ⟨rfl, hb4⟩
        have B4 := hid (HV1.out.trans (hb4.mono HV1.out.size))
        clear hb4 g2 g3 g4
        go_wp2_with fail
        try rw [HZs.out]
        refine ⟨⟨1, _, ?_, rfl, by rfl, by have := HKc.out; omega, B4⟩, hstep⟩
        show Value.string _ = Value.string _
        congr 1
        show _ = tx (base ++ retT (t.kid 1) (showZ F ((t.kid 1).kid 0) 0))
        have hc := HJ.out.2.2
        rw [show 1 + 0 = 1 from rfl] at hc
        rw [hc, HTc.out, show base = TO from HTO.out]
        simp only [retT, ← tx_append, tx_name, ByteArray.append_assoc]
        rfl
      | succ j =>
        have hz1 : (z == 1) = false := by have := HJ.out.1; simp; omega
        go_wp2_with fail
        rw [HP3.out]
        refine (HIc.out V HV1.out).mono ?_
        rintro e X4 ⟨rfl, hb4⟩
        have B4 := hid (HV1.out.trans (hb4.mono HV1.out.size))
        clear hb4 g2 g3 g4
        go_wp2_with fail
        try rw [HZs.out]
        refine ⟨⟨j + 2, _, ?_, rfl, by have := HJ.out.1; omega, by have := HJ.out; omega, B4⟩, hstep⟩
        show Value.string _ = Value.string _
        congr 1
        have hc := HJ.out.2.2
        rw [show 1 + (j + 1) = 2 + j by omega] at hc
        rw [HNx.out j (by have := HJ.out; omega), hc, HTc.out, HTO.out]
        simp only [opT, ← tx_append, tx_name, ByteArray.append_assoc]
        rfl
    · have ej : j = kc - 1 := by omega
      obtain ⟨TO, hTO⟩ : ∃ T, handZ' F t base (kc - 1) = T := ⟨_, rfl⟩
      have hln := HLn.out (kc - 1) (by have := HKc.out; omega)
      rw [hTO] at hln
      rw [ej, hTO]
      have lo : (tx TO).size ≤ 200000 := by rw [tx_size]; have := HBl.out; have := HKc.out; omega
      have HTO := hid hTO
      clear hln hTO ej hzj hj
      go_wp2_with fail
      go_ret
      refine ⟨?_, HBr.out⟩
      simp only [← tx_append]
      rw [HTO.out]
      rfl

set_option maxHeartbeats 4000000 in
set_option maxRecDepth 100000 in
theorem bare_c1 (hl : ns.length ≤ 300) (hnt : ∀ m ∈ ns, Neat m) {t : Tp} {W : World} (hF : t.size ≤ F + 1) (hs : Stands ns t) (hx : Ex t) (hb : b < W.heap.size) (hn : NodesAt W b off ns) (ek : t.n.kind = 1) :
    Calls Try.prog 43 #[.slice (some ⟨b, off, none⟩) ns.length cap, .int .i64 (t.at_ : Int)] W (BareP W (Lib.itoa t.n.num)) := by
  obtain ⟨hlt, hat, hsz⟩ := hs.lt
  have c0 := hn t.at_ hlt 0 (by omega)
  have c1 := hn t.at_ hlt 1 (by omega)
  have c2 := hn t.at_ hlt 2 (by omega)
  have c3 := hn t.at_ hlt 3 (by omega)
  have c4 := hn t.at_ hlt 4 (by omega)
  have c5 := hn t.at_ hlt 5 (by omega)
  rw [hat] at c0 c1 c2 c3 c4 c5
  simp only [Nd.cell, Nat.add_zero] at c0 c1 c2 c3 c4 c5
  rw [ek] at c0
  have hA := (MapKept.heap_alloc W (.cells #[.int .i64 1, .int .i64 t.n.num, .string t.n.a, .string t.n.b, .string t.n.c, .int .i64 t.n.kids] 65)).1
  have hB1 := (Below.refl W.heap.size W).alloc (Nat.le_refl _) (.cells #[.int .i64 1, .int .i64 t.n.num, .string t.n.a, .string t.n.b, .string t.n.c, .int .i64 t.n.kids] 65)
  obtain ⟨Y, hY⟩ : ∃ Y, W.alloc (.cells #[.int .i64 1, .int .i64 t.n.num, .string t.n.a, .string t.n.b, .string t.n.c, .int .i64 t.n.kids] 65) = Y := ⟨_, rfl⟩
  rw [hY] at hA hB1
  have HY := hid hY
  have HA := hid hA
  have F0 := hid hB1
  have B0 := hid (Below.refl Y.heap.size Y)
  have HT := hid (And.intro (Nat.lt_of_lt_of_le hb hB1.size) (hn.below hB1 hb))
  have hgood := hs.toGood
  have HNm := hid (hs.neat hnt)
  have HNt := hid hnt
  have HL := hid hl
  have HF := hid hF
  have HS := hid hs
  have HXE := hid hx
  have HSz : Hid (t.size ≤ 300) := by show _ ≤ _; omega
  have na : t.n.a.size ≤ 8 := HNm.out.a
  have nb : t.n.b.size ≤ 8 := HNm.out.b
  have HP1 : Hid (wrap64 ((t.at_ : Int) + 1) = (t.at_ : Int) + 1) := by show _ = _; unfold wrap64; omega
  have hp0 : (0 : Int) ≤ (t.at_ : Int) := by omega
  have hpl : (t.at_ : Int) < (ns.length : Int) := by omega
  clear hA hB1 hY hb hn hlt hat hsz hgood hs hx hl hnt hF
  go_enter Try.func43, Try.ntmps43
  go_upto_region 3 with fail
  rw [HY.out]
  rw [HP1.out]
  clear HY c0 c1 c2 c3 c4 c5
  have HNu := hid (HNm.out.num ek)
  have hbx := (B0.out.block W.heap.size (heap_lt HA.out)).trans HA.out
  have e0 := cell_of_heap hbx 0
  have e1 := cell_of_heap hbx 1
  have e2 := cell_of_heap hbx 2
  have e3 := cell_of_heap hbx 3
  have e4 := cell_of_heap hbx 4
  have e5 := cell_of_heap hbx 5
  simp at e0 e1 e2 e3 e4 e5
  clear hbx
  go_wp2_with fail
  clear e0 e1 e2 e3 e4 e5
  refine (dec_calls t.n.num HNu.out.1 HNu.out.2 Y).mono ?_
  rintro e X1 ⟨rfl, hb1⟩
  have B1 := hid (B0.out.trans (hb1.mono B0.out.size))
  clear hb1
  obtain ⟨TT, hTT⟩ : ∃ T, Lib.itoa t.n.num = T := ⟨_, rfl⟩
  rw [hTT]
  have HTT := hid hTT
  clear hTT
  have hbx := (B1.out.block W.heap.size (heap_lt HA.out)).trans HA.out
  have e0 := cell_of_heap hbx 0
  have e1 := cell_of_heap hbx 1
  have e2 := cell_of_heap hbx 2
  have e3 := cell_of_heap hbx 3
  have e4 := cell_of_heap hbx 4
  have e5 := cell_of_heap hbx 5
  simp at e0 e1 e2 e3 e4 e5
  clear hbx
  go_wp2_with fail
  clear e0 e1 e2 e3 e4 e5
  go_ret
  refine ⟨?_, F0.out.trans (B1.out.mono F0.out.size)⟩
  rw [HTT.out]
  rfl

set_option maxHeartbeats 4000000 in
set_option maxRecDepth 100000 in
theorem bare_n0 (hl : ns.length ≤ 300) (hnt : ∀ m ∈ ns, Neat m) {t : Tp} {W : World} (hF : t.size ≤ F + 1) (hs : Stands ns t) (hx : Ex t) (hb : b < W.heap.size) (hn : NodesAt W b off ns) (ek : t.n.kind = 2) (hu : t.n.num = 0) :
    Calls Try.prog 43 #[.slice (some ⟨b, off, none⟩) ns.length cap, .int .i64 (t.at_ : Int)] W (BareP W ([102, 97, 108, 115, 101])) := by
  obtain ⟨hlt, hat, hsz⟩ := hs.lt
  have c0 := hn t.at_ hlt 0 (by omega)
  have c1 := hn t.at_ hlt 1 (by omega)
  have c2 := hn t.at_ hlt 2 (by omega)
  have c3 := hn t.at_ hlt 3 (by omega)
  have c4 := hn t.at_ hlt 4 (by omega)
  have c5 := hn t.at_ hlt 5 (by omega)
  rw [hat] at c0 c1 c2 c3 c4 c5
  simp only [Nd.cell, Nat.add_zero] at c0 c1 c2 c3 c4 c5
  rw [ek] at c0
  rw [hu] at c1
  have hA := (MapKept.heap_alloc W (.cells #[.int .i64 2, .int .i64 0, .string t.n.a, .string t.n.b, .string t.n.c, .int .i64 t.n.kids] 65)).1
  have hB1 := (Below.refl W.heap.size W).alloc (Nat.le_refl _) (.cells #[.int .i64 2, .int .i64 0, .string t.n.a, .string t.n.b, .string t.n.c, .int .i64 t.n.kids] 65)
  obtain ⟨Y, hY⟩ : ∃ Y, W.alloc (.cells #[.int .i64 2, .int .i64 0, .string t.n.a, .string t.n.b, .string t.n.c, .int .i64 t.n.kids] 65) = Y := ⟨_, rfl⟩
  rw [hY] at hA hB1
  have HY := hid hY
  have HA := hid hA
  have F0 := hid hB1
  have B0 := hid (Below.refl Y.heap.size Y)
  have HT := hid (And.intro (Nat.lt_of_lt_of_le hb hB1.size) (hn.below hB1 hb))
  have hgood := hs.toGood
  have HNm := hid (hs.neat hnt)
  have HNt := hid hnt
  have HL := hid hl
  have HF := hid hF
  have HS := hid hs
  have HXE := hid hx
  have HSz : Hid (t.size ≤ 300) := by show _ ≤ _; omega
  have na : t.n.a.size ≤ 8 := HNm.out.a
  have nb : t.n.b.size ≤ 8 := HNm.out.b
  have HP1 : Hid (wrap64 ((t.at_ : Int) + 1) = (t.at_ : Int) + 1) := by show _ = _; unfold wrap64; omega
  have hp0 : (0 : Int) ≤ (t.at_ : Int) := by omega
  have hpl : (t.at_ : Int) < (ns.length : Int) := by omega
  clear hA hB1 hY hb hn hlt hat hsz hgood hs hx hl hnt hF
  go_enter Try.func43, Try.ntmps43
  go_upto_region 3 with fail
  rw [HY.out]
  rw [HP1.out]
  clear HY c0 c1 c2 c3 c4 c5
  have hxl : W.heap.size < Y.heap.size := heap_lt HA.out
  have hxn : W.heap.size ≠ Y.heap.size := by omega
  clear hu
  have hbx := (B0.out.block W.heap.size (heap_lt HA.out)).trans HA.out
  have e0 := cell_of_heap hbx 0
  have e1 := cell_of_heap hbx 1
  have e2 := cell_of_heap hbx 2
  have e3 := cell_of_heap hbx 3
  have e4 := cell_of_heap hbx 4
  have e5 := cell_of_heap hbx 5
  simp at e0 e1 e2 e3 e4 e5
  clear hbx
  go_wp2_with fail
  go_ret
  exact ⟨rfl, F0.out.trans ((B0.out.alloc (Nat.le_refl _) _).mono F0.out.size)⟩

set_option maxHeartbeats 4000000 in
set_option maxRecDepth 100000 in
theorem bare_n1 (hl : ns.length ≤ 300) (hnt : ∀ m ∈ ns, Neat m) {t : Tp} {W : World} (hF : t.size ≤ F + 1) (hs : Stands ns t) (hx : Ex t) (hb : b < W.heap.size) (hn : NodesAt W b off ns) (ek : t.n.kind = 2) (hu : t.n.num = 1) :
    Calls Try.prog 43 #[.slice (some ⟨b, off, none⟩) ns.length cap, .int .i64 (t.at_ : Int)] W (BareP W ([116, 114, 117, 101])) := by
  obtain ⟨hlt, hat, hsz⟩ := hs.lt
  have c0 := hn t.at_ hlt 0 (by omega)
  have c1 := hn t.at_ hlt 1 (by omega)
  have c2 := hn t.at_ hlt 2 (by omega)
  have c3 := hn t.at_ hlt 3 (by omega)
  have c4 := hn t.at_ hlt 4 (by omega)
  have c5 := hn t.at_ hlt 5 (by omega)
  rw [hat] at c0 c1 c2 c3 c4 c5
  simp only [Nd.cell, Nat.add_zero] at c0 c1 c2 c3 c4 c5
  rw [ek] at c0
  rw [hu] at c1
  have hA := (MapKept.heap_alloc W (.cells #[.int .i64 2, .int .i64 1, .string t.n.a, .string t.n.b, .string t.n.c, .int .i64 t.n.kids] 65)).1
  have hB1 := (Below.refl W.heap.size W).alloc (Nat.le_refl _) (.cells #[.int .i64 2, .int .i64 1, .string t.n.a, .string t.n.b, .string t.n.c, .int .i64 t.n.kids] 65)
  obtain ⟨Y, hY⟩ : ∃ Y, W.alloc (.cells #[.int .i64 2, .int .i64 1, .string t.n.a, .string t.n.b, .string t.n.c, .int .i64 t.n.kids] 65) = Y := ⟨_, rfl⟩
  rw [hY] at hA hB1
  have HY := hid hY
  have HA := hid hA
  have F0 := hid hB1
  have B0 := hid (Below.refl Y.heap.size Y)
  have HT := hid (And.intro (Nat.lt_of_lt_of_le hb hB1.size) (hn.below hB1 hb))
  have hgood := hs.toGood
  have HNm := hid (hs.neat hnt)
  have HNt := hid hnt
  have HL := hid hl
  have HF := hid hF
  have HS := hid hs
  have HXE := hid hx
  have HSz : Hid (t.size ≤ 300) := by show _ ≤ _; omega
  have na : t.n.a.size ≤ 8 := HNm.out.a
  have nb : t.n.b.size ≤ 8 := HNm.out.b
  have HP1 : Hid (wrap64 ((t.at_ : Int) + 1) = (t.at_ : Int) + 1) := by show _ = _; unfold wrap64; omega
  have hp0 : (0 : Int) ≤ (t.at_ : Int) := by omega
  have hpl : (t.at_ : Int) < (ns.length : Int) := by omega
  clear hA hB1 hY hb hn hlt hat hsz hgood hs hx hl hnt hF
  go_enter Try.func43, Try.ntmps43
  go_upto_region 3 with fail
  rw [HY.out]
  rw [HP1.out]
  clear HY c0 c1 c2 c3 c4 c5
  have hxl : W.heap.size < Y.heap.size := heap_lt HA.out
  have hxn : W.heap.size ≠ Y.heap.size := by omega
  clear hu
  have hbx := (B0.out.block W.heap.size (heap_lt HA.out)).trans HA.out
  have e0 := cell_of_heap hbx 0
  have e1 := cell_of_heap hbx 1
  have e2 := cell_of_heap hbx 2
  have e3 := cell_of_heap hbx 3
  have e4 := cell_of_heap hbx 4
  have e5 := cell_of_heap hbx 5
  simp at e0 e1 e2 e3 e4 e5
  clear hbx
  go_wp2_with fail
  go_ret
  exact ⟨rfl, F0.out.trans ((B0.out.alloc (Nat.le_refl _) _).mono F0.out.size)⟩


set_option maxHeartbeats 4000000 in
set_option maxRecDepth 100000 in
theorem bare_c3 (hl : ns.length ≤ 300) (hnt : ∀ m ∈ ns, Neat m) {t : Tp} {W : World} (hF : t.size ≤ F + 1) (hs : Stands ns t) (hx : Ex t) (hb : b < W.heap.size) (hn : NodesAt W b off ns) (ek : t.n.kind = 3) :
    Calls Try.prog 43 #[.slice (some ⟨b, off, none⟩) ns.length cap, .int .i64 (t.at_ : Int)] W (BareP W (text3 (showZ F) t)) := by
  obtain ⟨hlt, hat, hsz⟩ := hs.lt
  have c0 := hn t.at_ hlt 0 (by omega)
  have c1 := hn t.at_ hlt 1 (by omega)
  have c2 := hn t.at_ hlt 2 (by omega)
  have c3 := hn t.at_ hlt 3 (by omega)
  have c4 := hn t.at_ hlt 4 (by omega)
  have c5 := hn t.at_ hlt 5 (by omega)
  rw [hat] at c0 c1 c2 c3 c4 c5
  simp only [Nd.cell, Nat.add_zero] at c0 c1 c2 c3 c4 c5
  rw [ek] at c0
  have hA := (MapKept.heap_alloc W (.cells #[.int .i64 3, .int .i64 t.n.num, .string t.n.a, .string t.n.b, .string t.n.c, .int .i64 t.n.kids] 65)).1
  have hB1 := (Below.refl W.heap.size W).alloc (Nat.le_refl _) (.cells #[.int .i64 3, .int .i64 t.n.num, .string t.n.a, .string t.n.b, .string t.n.c, .int .i64 t.n.kids] 65)
  obtain ⟨Y, hY⟩ : ∃ Y, W.alloc (.cells #[.int .i64 3, .int .i64 t.n.num, .string t.n.a, .string t.n.b, .string t.n.c, .int .i64 t.n.kids] 65) = Y := ⟨_, rfl⟩
  rw [hY] at hA hB1
  have HY := hid hY
  have HA := hid hA
  have F0 := hid hB1
  have B0 := hid (Below.refl Y.heap.size Y)
  have HT := hid (And.intro (Nat.lt_of_lt_of_le hb hB1.size) (hn.below hB1 hb))
  have hgood := hs.toGood
  have HNm := hid (hs.neat hnt)
  have HNt := hid hnt
  have HL := hid hl
  have HF := hid hF
  have HS := hid hs
  have HXE := hid hx
  have HSz : Hid (t.size ≤ 300) := by show _ ≤ _; omega
  have na : t.n.a.size ≤ 8 := HNm.out.a
  have nb : t.n.b.size ≤ 8 := HNm.out.b
  have HP1 : Hid (wrap64 ((t.at_ : Int) + 1) = (t.at_ : Int) + 1) := by show _ = _; unfold wrap64; omega
  have hp0 : (0 : Int) ≤ (t.at_ : Int) := by omega
  have hpl : (t.at_ : Int) < (ns.length : Int) := by omega
  clear hA hB1 hY hb hn hlt hat hsz hgood hs hx hl hnt hF
  go_enter Try.func43, Try.ntmps43
  go_upto_region 3 with fail
  rw [HY.out]
  rw [HP1.out]
  clear HY c0 c1 c2 c3 c4 c5
  have hbx := (B0.out.block W.heap.size (heap_lt HA.out)).trans HA.out
  have e0 := cell_of_heap hbx 0
  have e1 := cell_of_heap hbx 1
  have e2 := cell_of_heap hbx 2
  have e3 := cell_of_heap hbx 3
  have e4 := cell_of_heap hbx 4
  have e5 := cell_of_heap hbx 5
  simp at e0 e1 e2 e3 e4 e5
  clear hbx
  go_wp2_with fail
  clear e0 e1 e2 e3 e4 e5
  go_ret
  refine ⟨?_, F0.out.trans (B0.out.mono F0.out.size)⟩
  simp only [text3]
  rfl

set_option maxHeartbeats 4000000 in
set_option maxRecDepth 100000 in
theorem bare_c4 (hl : ns.length ≤ 300) (hnt : ∀ m ∈ ns, Neat m) {t : Tp} {W : World} (hF : t.size ≤ F + 1) (hs : Stands ns t) (hx : Ex t) (hb : b < W.heap.size) (hn : NodesAt W b off ns) (ek : t.n.kind = 4) :
    Calls Try.prog 43 #[.slice (some ⟨b, off, none⟩) ns.length cap, .int .i64 (t.at_ : Int)] W (BareP W (text4 (showZ F) t)) := by
  obtain ⟨hlt, hat, hsz⟩ := hs.lt
  have c0 := hn t.at_ hlt 0 (by omega)
  have c1 := hn t.at_ hlt 1 (by omega)
  have c2 := hn t.at_ hlt 2 (by omega)
  have c3 := hn t.at_ hlt 3 (by omega)
  have c4 := hn t.at_ hlt 4 (by omega)
  have c5 := hn t.at_ hlt 5 (by omega)
  rw [hat] at c0 c1 c2 c3 c4 c5
  simp only [Nd.cell, Nat.add_zero] at c0 c1 c2 c3 c4 c5
  rw [ek] at c0
  have hA := (MapKept.heap_alloc W (.cells #[.int .i64 4, .int .i64 t.n.num, .string t.n.a, .string t.n.b, .string t.n.c, .int .i64 t.n.kids] 65)).1
  have hB1 := (Below.refl W.heap.size W).alloc (Nat.le_refl _) (.cells #[.int .i64 4, .int .i64 t.n.num, .string t.n.a, .string t.n.b, .string t.n.c, .int .i64 t.n.kids] 65)
  obtain ⟨Y, hY⟩ : ∃ Y, W.alloc (.cells #[.int .i64 4, .int .i64 t.n.num, .string t.n.a, .string t.n.b, .string t.n.c, .int .i64 t.n.kids] 65) = Y := ⟨_, rfl⟩
  rw [hY] at hA hB1
  have HY := hid hY
  have HA := hid hA
  have F0 := hid hB1
  have B0 := hid (Below.refl Y.heap.size Y)
  have HT := hid (And.intro (Nat.lt_of_lt_of_le hb hB1.size) (hn.below hB1 hb))
  have hgood := hs.toGood
  have HNm := hid (hs.neat hnt)
  have HNt := hid hnt
  have HL := hid hl
  have HF := hid hF
  have HS := hid hs
  have HXE := hid hx
  have HSz : Hid (t.size ≤ 300) := by show _ ≤ _; omega
  have na : t.n.a.size ≤ 8 := HNm.out.a
  have nb : t.n.b.size ≤ 8 := HNm.out.b
  have HP1 : Hid (wrap64 ((t.at_ : Int) + 1) = (t.at_ : Int) + 1) := by show _ = _; unfold wrap64; omega
  have hp0 : (0 : Int) ≤ (t.at_ : Int) := by omega
  have hpl : (t.at_ : Int) < (ns.length : Int) := by omega
  clear hA hB1 hY hb hn hlt hat hsz hgood hs hx hl hnt hF
  go_enter Try.func43, Try.ntmps43
  go_upto_region 3 with fail
  rw [HY.out]
  rw [HP1.out]
  clear HY c0 c1 c2 c3 c4 c5
  have hbx := (B0.out.block W.heap.size (heap_lt HA.out)).trans HA.out
  have e0 := cell_of_heap hbx 0
  have e1 := cell_of_heap hbx 1
  have e2 := cell_of_heap hbx 2
  have e3 := cell_of_heap hbx 3
  have e4 := cell_of_heap hbx 4
  have e5 := cell_of_heap hbx 5
  simp at e0 e1 e2 e3 e4 e5
  clear hbx
  go_wp2_with fail
  clear e0 e1 e2 e3 e4 e5
  go_ret
  refine ⟨?_, F0.out.trans (B0.out.mono F0.out.size)⟩
  simp only [text4]
  rfl

set_option maxHeartbeats 4000000 in
set_option maxRecDepth 100000 in
theorem bare_c5 (hl : ns.length ≤ 300) (hnt : ∀ m ∈ ns, Neat m) {t : Tp} {W : World} (hF : t.size ≤ F + 1) (hs : Stands ns t) (hx : Ex t) (hb : b < W.heap.size) (hn : NodesAt W b off ns) (ek : t.n.kind = 5) :
    Calls Try.prog 43 #[.slice (some ⟨b, off, none⟩) ns.length cap, .int .i64 (t.at_ : Int)] W (BareP W (text5 (showZ F) t)) := by
  obtain ⟨hlt, hat, hsz⟩ := hs.lt
  have c0 := hn t.at_ hlt 0 (by omega)
  have c1 := hn t.at_ hlt 1 (by omega)
  have c2 := hn t.at_ hlt 2 (by omega)
  have c3 := hn t.at_ hlt 3 (by omega)
  have c4 := hn t.at_ hlt 4 (by omega)
  have c5 := hn t.at_ hlt 5 (by omega)
  rw [hat] at c0 c1 c2 c3 c4 c5
  simp only [Nd.cell, Nat.add_zero] at c0 c1 c2 c3 c4 c5
  rw [ek] at c0
  have hA := (MapKept.heap_alloc W (.cells #[.int .i64 5, .int .i64 t.n.num, .string t.n.a, .string t.n.b, .string t.n.c, .int .i64 t.n.kids] 65)).1
  have hB1 := (Below.refl W.heap.size W).alloc (Nat.le_refl _) (.cells #[.int .i64 5, .int .i64 t.n.num, .string t.n.a, .string t.n.b, .string t.n.c, .int .i64 t.n.kids] 65)
  obtain ⟨Y, hY⟩ : ∃ Y, W.alloc (.cells #[.int .i64 5, .int .i64 t.n.num, .string t.n.a, .string t.n.b, .string t.n.c, .int .i64 t.n.kids] 65) = Y := ⟨_, rfl⟩
  rw [hY] at hA hB1
  have HY := hid hY
  have HA := hid hA
  have F0 := hid hB1
  have B0 := hid (Below.refl Y.heap.size Y)
  have HT := hid (And.intro (Nat.lt_of_lt_of_le hb hB1.size) (hn.below hB1 hb))
  have hgood := hs.toGood
  have HNm := hid (hs.neat hnt)
  have HNt := hid hnt
  have HL := hid hl
  have HF := hid hF
  have HS := hid hs
  have HXE := hid hx
  have HSz : Hid (t.size ≤ 300) := by show _ ≤ _; omega
  have na : t.n.a.size ≤ 8 := HNm.out.a
  have nb : t.n.b.size ≤ 8 := HNm.out.b
  have HP1 : Hid (wrap64 ((t.at_ : Int) + 1) = (t.at_ : Int) + 1) := by show _ = _; unfold wrap64; omega
  have hp0 : (0 : Int) ≤ (t.at_ : Int) := by omega
  have hpl : (t.at_ : Int) < (ns.length : Int) := by omega
  clear hA hB1 hY hb hn hlt hat hsz hgood hs hx hl hnt hF
  go_enter Try.func43, Try.ntmps43
  go_upto_region 3 with fail
  rw [HY.out]
  rw [HP1.out]
  clear HY c0 c1 c2 c3 c4 c5
  have hbx := (B0.out.block W.heap.size (heap_lt HA.out)).trans HA.out
  have e0 := cell_of_heap hbx 0
  have e1 := cell_of_heap hbx 1
  have e2 := cell_of_heap hbx 2
  have e3 := cell_of_heap hbx 3
  have e4 := cell_of_heap hbx 4
  have e5 := cell_of_heap hbx 5
  simp at e0 e1 e2 e3 e4 e5
  clear hbx
  go_wp2_with fail
  clear e0 e1 e2 e3 e4 e5
  go_ret
  refine ⟨?_, F0.out.trans (B0.out.mono F0.out.size)⟩
  simp only [text5, tx_name]
  rfl

set_option maxHeartbeats 4000000 in
set_option maxRecDepth 100000 in
theorem bare_c6 (hl : ns.length ≤ 300) (hnt : ∀ m ∈ ns, Neat m) (ih : ShowC b off cap ns F) {t : Tp} {W : World} (hF : t.size ≤ F + 1) (hs : Stands ns t) (hx : Ex t) (hb : b < W.heap.size) (hn : NodesAt W b off ns) (ek : t.n.kind = 6) :
    Calls Try.prog 43 #[.slice (some ⟨b, off, none⟩) ns.length cap, .int .i64 (t.at_ : Int)] W (BareP W (text6 (showZ F) t)) := by
  obtain ⟨hlt, hat, hsz⟩ := hs.lt
  have c0 := hn t.at_ hlt 0 (by omega)
  have c1 := hn t.at_ hlt 1 (by omega)
  have c2 := hn t.at_ hlt 2 (by omega)
  have c3 := hn t.at_ hlt 3 (by omega)
  have c4 := hn t.at_ hlt 4 (by omega)
  have c5 := hn t.at_ hlt 5 (by omega)
  rw [hat] at c0 c1 c2 c3 c4 c5
  simp only [Nd.cell, Nat.add_zero] at c0 c1 c2 c3 c4 c5
  rw [ek] at c0
  have hA := (MapKept.heap_alloc W (.cells #[.int .i64 6, .int .i64 t.n.num, .string t.n.a, .string t.n.b, .string t.n.c, .int .i64 t.n.kids] 65)).1
  have hB1 := (Below.refl W.heap.size W).alloc (Nat.le_refl _) (.cells #[.int .i64 6, .int .i64 t.n.num, .string t.n.a, .string t.n.b, .string t.n.c, .int .i64 t.n.kids] 65)
  obtain ⟨Y, hY⟩ : ∃ Y, W.alloc (.cells #[.int .i64 6, .int .i64 t.n.num, .string t.n.a, .string t.n.b, .string t.n.c, .int .i64 t.n.kids] 65) = Y := ⟨_, rfl⟩
  rw [hY] at hA hB1
  have HY := hid hY
  have HA := hid hA
  have F0 := hid hB1
  have B0 := hid (Below.refl Y.heap.size Y)
  have HT := hid (And.intro (Nat.lt_of_lt_of_le hb hB1.size) (hn.below hB1 hb))
  have hgood := hs.toGood
  have HNm := hid (hs.neat hnt)
  have HNt := hid hnt
  have HL := hid hl
  have HF := hid hF
  have HS := hid hs
  have HXE := hid hx
  have HSz : Hid (t.size ≤ 300) := by show _ ≤ _; omega
  have na : t.n.a.size ≤ 8 := HNm.out.a
  have nb : t.n.b.size ≤ 8 := HNm.out.b
  have HC : Hid (t.k.count = 1) := count_of hgood ek (c := 1) rfl
  have HZ : Hid ((t.kid 0).size + 1 = t.size ∧ 1 ≤ (t.kid 0).size) := ⟨(kids1 HC.out).2, (t.kid 0).size_pos⟩
  have HIH := hid ih
  have HP1 : Hid (wrap64 ((t.at_ : Int) + 1) = ((t.kid 0).at_ : Int)) := by show _ = _; rw [hs.first (by have := HC.out; omega)]; unfold wrap64; omega
  have hp0 : (0 : Int) ≤ (t.at_ : Int) := by omega
  have hpl : (t.at_ : Int) < (ns.length : Int) := by omega
  clear hA hB1 hY hb hn hlt hat hsz hgood hs hx hl hnt hF ih
  go_enter Try.func43, Try.ntmps43
  go_upto_region 3 with fail
  rw [HY.out]
  rw [HP1.out]
  clear HY c0 c1 c2 c3 c4 c5
  have hbx := (B0.out.block W.heap.size (heap_lt HA.out)).trans HA.out
  have e0 := cell_of_heap hbx 0
  have e1 := cell_of_heap hbx 1
  have e2 := cell_of_heap hbx 2
  have e3 := cell_of_heap hbx 3
  have e4 := cell_of_heap hbx 4
  have e5 := cell_of_heap hbx 5
  simp at e0 e1 e2 e3 e4 e5
  clear hbx
  go_upto_region 15 with fail
  have hD : Below Y.heap.size Y Y.drew := (Below.refl _ _).drew
  obtain ⟨D, hDe⟩ : ∃ D, Y.drew = D := ⟨_, rfl⟩
  rw [hDe] at hD
  have B1 := hid (B0.out.trans (hD.mono B0.out.size))
  have hq := (B1.out.block W.heap.size (heap_lt HA.out)).trans HA.out
  have hS : (fun w' : World => w'.cell? ⟨W.heap.size, 2, none⟩ = some (.string t.n.a)) D := cell_of_heap hq 2
  clear hq
  refine pick_begin (S := fun w' => w'.cell? ⟨W.heap.size, 2, none⟩ = some (.string t.n.a)) (by kernel_rfl) rfl rfl ?_
  rw [hDe]
  clear hDe hD
  clear e0 e1 e2 e3 e4 e5
  refine pick_op (i := 0) (v := .pointer (some ⟨W.heap.size, 2, none⟩)) (by kernel_rfl) rfl (by kernel_rfl) (by kernel_rfl) rfl rfl (fun w' _ => by simp [go_sem]) hS (by simp [go_sem]; exact rfl) ?_
  refine pick_op (i := 1) (v := .string t.n.a) (by kernel_rfl) rfl (by kernel_rfl) (by kernel_rfl) rfl rfl (fun w' h => by simp [go_sem, h]) hS (by simp [go_sem]; exact rfl) ?_
  refine pick_op (i := 2) (v := .string ((⟨#[102, 110, 32]⟩ : ByteArray) ++ t.n.a)) (by kernel_rfl) rfl (by kernel_rfl) (by kernel_rfl) rfl rfl (fun w' _ => by simp [go_sem]; omega) hS (by simp [go_sem]; exact rfl) ?_
  refine pick_op (i := 3) (v := .string (((⟨#[102, 110, 32]⟩ : ByteArray) ++ t.n.a) ++ (⟨#[32, 45, 62, 32]⟩ : ByteArray))) (by kernel_rfl) rfl (by kernel_rfl) (by kernel_rfl) rfl rfl (fun w' _ => by simp [go_sem]; omega) hS (by simp [go_sem]; exact rfl) ?_
  refine pick_op (i := 4) (v := .slice (some ⟨b, off, none⟩) ns.length cap) (by kernel_rfl) rfl (by kernel_rfl) (by kernel_rfl) rfl rfl (fun w' _ => by simp [go_sem]) hS (by simp [go_sem]; exact rfl) ?_
  refine pick_op (i := 5) (v := .int .i64 ((t.kid 0).at_ : Int)) (by kernel_rfl) rfl (by kernel_rfl) (by kernel_rfl) rfl rfl (fun w' _ => by simp [go_sem]) hS (by simp [go_sem]; exact rfl) ?_
  refine pick_enter (i := 6) (f := 28) (args := #[.slice (some ⟨b, off, none⟩) ns.length cap, .int .i64 ((t.kid 0).at_ : Int), .int .i64 0]) rfl (by kernel_rfl) rfl rfl (by simp [go_sem]) ?_
  refine (HIH.out (t.kid 0) 0 D (by have := HZ.out; have := HF.out; omega) (HS.out.kid (by have := HC.out; omega)) (HXE.out.1.ex (by have := HC.out; omega) (role_plain (by omega) _)) (Nat.lt_of_lt_of_le HT.out.1 B1.out.size) (HT.out.2.below B1.out HT.out.1)).mono ?_
  rintro e X2 ⟨rfl, hb2⟩
  obtain ⟨T0, hT0⟩ : ∃ T, showZ F (t.kid 0) 0 = T := ⟨_, rfl⟩
  have HT0 := hid hT0
  have hl0 : (tx T0).size ≤ 18000 := by rw [tx_size, ← hT0]; have h1 := (bare_len HNt.out F).1 (t.kid 0) 0 (by have := HZ.out; have := HF.out; omega) (HS.out.kid (by have := HC.out; omega)) (HXE.out.1.ex (by have := HC.out; omega) (role_plain (by omega) _)); have := HZ.out; have := HSz.out; omega
  rw [hT0]
  clear hT0
  have B2 := hid (B1.out.trans (hb2.mono B1.out.size))
  clear hb2 hS
  have hq := (B2.out.block W.heap.size (heap_lt HA.out)).trans HA.out
  have hS : (fun w' : World => w'.cell? ⟨W.heap.size, 2, none⟩ = some (.string t.n.a)) X2 := cell_of_heap hq 2
  clear hq
  refine ⟨_, rfl, hS, ?_⟩
  refine pick_frame (by simp [go_sem]; exact rfl) ?_
  refine pick_op (i := 7) (v := .string ((((⟨#[102, 110, 32]⟩ : ByteArray) ++ t.n.a) ++ (⟨#[32, 45, 62, 32]⟩ : ByteArray)) ++ tx T0)) (by kernel_rfl) rfl (by kernel_rfl) (by kernel_rfl) rfl rfl (fun w' _ => by simp [go_sem]; omega) hS (by simp [go_sem]; exact rfl) ?_
  refine pick_op (i := 8) (v := .string ((((⟨#[102, 110, 32]⟩ : ByteArray) ++ t.n.a) ++ (⟨#[32, 45, 62, 32]⟩ : ByteArray)) ++ tx T0)) (by kernel_rfl) rfl (by kernel_rfl) (by kernel_rfl) rfl rfl (fun w' _ => by simp [go_sem]) hS (by simp [go_sem]; exact rfl) ?_
  refine pick_end (by kernel_rfl) ?_
  clear hS
  have hbx := (B2.out.block W.heap.size (heap_lt HA.out)).trans HA.out
  have e0 := cell_of_heap hbx 0
  have e1 := cell_of_heap hbx 1
  have e2 := cell_of_heap hbx 2
  have e3 := cell_of_heap hbx 3
  have e4 := cell_of_heap hbx 4
  have e5 := cell_of_heap hbx 5
  simp at e0 e1 e2 e3 e4 e5
  clear hbx
  go_wp2_with fail
  clear e0 e1 e2 e3 e4 e5
  go_ret
  refine ⟨?_, F0.out.trans (B2.out.mono F0.out.size)⟩
  simp only [text6, ← tx_append, tx_name]
  rw [HT0.out]
  rfl

set_option maxHeartbeats 4000000 in
set_option maxRecDepth 100000 in
theorem bare_c7 (hl : ns.length ≤ 300) (hnt : ∀ m ∈ ns, Neat m) (ih : ShowC b off cap ns F) {t : Tp} {W : World} (hF : t.size ≤ F + 1) (hs : Stands ns t) (hx : Ex t) (hb : b < W.heap.size) (hn : NodesAt W b off ns) (ek : t.n.kind = 7) :
    Calls Try.prog 43 #[.slice (some ⟨b, off, none⟩) ns.length cap, .int .i64 (t.at_ : Int)] W (BareP W (text7 (showZ F) t)) := by
  obtain ⟨hlt, hat, hsz⟩ := hs.lt
  have c0 := hn t.at_ hlt 0 (by omega)
  have c1 := hn t.at_ hlt 1 (by omega)
  have c2 := hn t.at_ hlt 2 (by omega)
  have c3 := hn t.at_ hlt 3 (by omega)
  have c4 := hn t.at_ hlt 4 (by omega)
  have c5 := hn t.at_ hlt 5 (by omega)
  rw [hat] at c0 c1 c2 c3 c4 c5
  simp only [Nd.cell, Nat.add_zero] at c0 c1 c2 c3 c4 c5
  rw [ek] at c0
  have hA := (MapKept.heap_alloc W (.cells #[.int .i64 7, .int .i64 t.n.num, .string t.n.a, .string t.n.b, .string t.n.c, .int .i64 t.n.kids] 65)).1
  have hB1 := (Below.refl W.heap.size W).alloc (Nat.le_refl _) (.cells #[.int .i64 7, .int .i64 t.n.num, .string t.n.a, .string t.n.b, .string t.n.c, .int .i64 t.n.kids] 65)
  obtain ⟨Y, hY⟩ : ∃ Y, W.alloc (.cells #[.int .i64 7, .int .i64 t.n.num, .string t.n.a, .string t.n.b, .string t.n.c, .int .i64 t.n.kids] 65) = Y := ⟨_, rfl⟩
  rw [hY] at hA hB1
  have HY := hid hY
  have HA := hid hA
  have F0 := hid hB1
  have B0 := hid (Below.refl Y.heap.size Y)
  have HT := hid (And.intro (Nat.lt_of_lt_of_le hb hB1.size) (hn.below hB1 hb))
  have hgood := hs.toGood
  have HNm := hid (hs.neat hnt)
  have HNt := hid hnt
  have HL := hid hl
  have HF := hid hF
  have HS := hid hs
  have HXE := hid hx
  have HSz : Hid (t.size ≤ 300) := by show _ ≤ _; omega
  have na : t.n.a.size ≤ 8 := HNm.out.a
  have nb : t.n.b.size ≤ 8 := HNm.out.b
  have HC : Hid (t.k.count = 2) := count_of hgood ek (c := 2) rfl
  have HZ : Hid ((t.kid 0).size + (t.kid 1).size + 1 = t.size ∧ 1 ≤ (t.kid 0).size ∧ 1 ≤ (t.kid 1).size) := ⟨(kids2 HC.out).2, (t.kid 0).size_pos, (t.kid 1).size_pos⟩
  have HIH := hid ih
  have HP1 : Hid (wrap64 ((t.at_ : Int) + 1) = ((t.kid 0).at_ : Int)) := by show _ = _; rw [hs.first (by have := HC.out; omega)]; unfold wrap64; omega
  have hp0 : (0 : Int) ≤ (t.at_ : Int) := by omega
  have hpl : (t.at_ : Int) < (ns.length : Int) := by omega
  clear hA hB1 hY hb hn hlt hat hsz hgood hs hx hl hnt hF ih
  go_enter Try.func43, Try.ntmps43
  go_upto_region 3 with fail
  rw [HY.out]
  rw [HP1.out]
  clear HY c0 c1 c2 c3 c4 c5
  have hbx := (B0.out.block W.heap.size (heap_lt HA.out)).trans HA.out
  have e0 := cell_of_heap hbx 0
  have e1 := cell_of_heap hbx 1
  have e2 := cell_of_heap hbx 2
  have e3 := cell_of_heap hbx 3
  have e4 := cell_of_heap hbx 4
  have e5 := cell_of_heap hbx 5
  simp at e0 e1 e2 e3 e4 e5
  clear hbx
  go_wp2_with fail
  clear e0 e1 e2 e3 e4 e5
  refine (HIH.out (t.kid 0) 5 Y (by have := HZ.out; have := HF.out; omega) (HS.out.kid (by have := HC.out; omega)) (HXE.out.1.ex (by have := HC.out; omega) (role_plain (by omega) _)) (Nat.lt_of_lt_of_le HT.out.1 B0.out.size) (HT.out.2.below B0.out HT.out.1)).mono ?_
  rintro e X1 ⟨rfl, hb1⟩
  obtain ⟨T0, hT0⟩ : ∃ T, showZ F (t.kid 0) 5 = T := ⟨_, rfl⟩
  have HT0 := hid hT0
  have hl0 : (tx T0).size ≤ 18000 := by rw [tx_size, ← hT0]; have h1 := (bare_len HNt.out F).1 (t.kid 0) 5 (by have := HZ.out; have := HF.out; omega) (HS.out.kid (by have := HC.out; omega)) (HXE.out.1.ex (by have := HC.out; omega) (role_plain (by omega) _)); have := HZ.out; have := HSz.out; omega
  rw [hT0]
  clear hT0
  have B1 := hid (B0.out.trans (hb1.mono B0.out.size))
  clear hb1
  have hbx := (B1.out.block W.heap.size (heap_lt HA.out)).trans HA.out
  have e0 := cell_of_heap hbx 0
  have e1 := cell_of_heap hbx 1
  have e2 := cell_of_heap hbx 2
  have e3 := cell_of_heap hbx 3
  have e4 := cell_of_heap hbx 4
  have e5 := cell_of_heap hbx 5
  simp at e0 e1 e2 e3 e4 e5
  clear hbx
  go_wp2_with fail
  clear e0 e1 e2 e3 e4 e5
  refine (kid_calls (cap := cap) 1 X1 (HT.out.2.below B1.out HT.out.1) HL.out HS.out (by have := HC.out; omega)).mono ?_
  rintro e Xk ⟨rfl, rfl⟩
  go_wp2_with fail
  refine (HIH.out (t.kid 1) 6 X1 (by have := HZ.out; have := HF.out; omega) (HS.out.kid (by have := HC.out; omega)) (HXE.out.1.ex (by have := HC.out; omega) (role_plain (by omega) _)) (Nat.lt_of_lt_of_le HT.out.1 B1.out.size) (HT.out.2.below B1.out HT.out.1)).mono ?_
  rintro e X2 ⟨rfl, hb2⟩
  obtain ⟨T1, hT1⟩ : ∃ T, showZ F (t.kid 1) 6 = T := ⟨_, rfl⟩
  have HT1 := hid hT1
  have hl1 : (tx T1).size ≤ 18000 := by rw [tx_size, ← hT1]; have h1 := (bare_len HNt.out F).1 (t.kid 1) 6 (by have := HZ.out; have := HF.out; omega) (HS.out.kid (by have := HC.out; omega)) (HXE.out.1.ex (by have := HC.out; omega) (role_plain (by omega) _)); have := HZ.out; have := HSz.out; omega
  rw [hT1]
  clear hT1
  have B2 := hid (B1.out.trans (hb2.mono B1.out.size))
  clear hb2
  have hbx := (B2.out.block W.heap.size (heap_lt HA.out)).trans HA.out
  have e0 := cell_of_heap hbx 0
  have e1 := cell_of_heap hbx 1
  have e2 := cell_of_heap hbx 2
  have e3 := cell_of_heap hbx 3
  have e4 := cell_of_heap hbx 4
  have e5 := cell_of_heap hbx 5
  simp at e0 e1 e2 e3 e4 e5
  clear hbx
  go_wp2_with fail
  clear e0 e1 e2 e3 e4 e5
  go_ret
  refine ⟨?_, F0.out.trans (B2.out.mono F0.out.size)⟩
  simp only [text7, ← tx_append]
  rw [HT0.out]
  rw [HT1.out]
  rfl

set_option maxHeartbeats 4000000 in
set_option maxRecDepth 100000 in
theorem bare_c8 (hl : ns.length ≤ 300) (hnt : ∀ m ∈ ns, Neat m) (ih : ShowC b off cap ns F) {t : Tp} {W : World} (hF : t.size ≤ F + 1) (hs : Stands ns t) (hx : Ex t) (hb : b < W.heap.size) (hn : NodesAt W b off ns) (ek : t.n.kind = 8) :
    Calls Try.prog 43 #[.slice (some ⟨b, off, none⟩) ns.length cap, .int .i64 (t.at_ : Int)] W (BareP W (text8 (showZ F) t)) := by
  obtain ⟨hlt, hat, hsz⟩ := hs.lt
  have c0 := hn t.at_ hlt 0 (by omega)
  have c1 := hn t.at_ hlt 1 (by omega)
  have c2 := hn t.at_ hlt 2 (by omega)
  have c3 := hn t.at_ hlt 3 (by omega)
  have c4 := hn t.at_ hlt 4 (by omega)
  have c5 := hn t.at_ hlt 5 (by omega)
  rw [hat] at c0 c1 c2 c3 c4 c5
  simp only [Nd.cell, Nat.add_zero] at c0 c1 c2 c3 c4 c5
  rw [ek] at c0
  have hA := (MapKept.heap_alloc W (.cells #[.int .i64 8, .int .i64 t.n.num, .string t.n.a, .string t.n.b, .string t.n.c, .int .i64 t.n.kids] 65)).1
  have hB1 := (Below.refl W.heap.size W).alloc (Nat.le_refl _) (.cells #[.int .i64 8, .int .i64 t.n.num, .string t.n.a, .string t.n.b, .string t.n.c, .int .i64 t.n.kids] 65)
  obtain ⟨Y, hY⟩ : ∃ Y, W.alloc (.cells #[.int .i64 8, .int .i64 t.n.num, .string t.n.a, .string t.n.b, .string t.n.c, .int .i64 t.n.kids] 65) = Y := ⟨_, rfl⟩
  rw [hY] at hA hB1
  have HY := hid hY
  have HA := hid hA
  have F0 := hid hB1
  have B0 := hid (Below.refl Y.heap.size Y)
  have HT := hid (And.intro (Nat.lt_of_lt_of_le hb hB1.size) (hn.below hB1 hb))
  have hgood := hs.toGood
  have HNm := hid (hs.neat hnt)
  have HNt := hid hnt
  have HL := hid hl
  have HF := hid hF
  have HS := hid hs
  have HXE := hid hx
  have HSz : Hid (t.size ≤ 300) := by show _ ≤ _; omega
  have na : t.n.a.size ≤ 8 := HNm.out.a
  have nb : t.n.b.size ≤ 8 := HNm.out.b
  have HC : Hid (t.k.count = 2) := count_of hgood ek (c := 2) rfl
  have HZ : Hid ((t.kid 0).size + (t.kid 1).size + 1 = t.size ∧ 1 ≤ (t.kid 0).size ∧ 1 ≤ (t.kid 1).size) := ⟨(kids2 HC.out).2, (t.kid 0).size_pos, (t.kid 1).size_pos⟩
  have HIH := hid ih
  have HP1 : Hid (wrap64 ((t.at_ : Int) + 1) = ((t.kid 0).at_ : Int)) := by show _ = _; rw [hs.first (by have := HC.out; omega)]; unfold wrap64; omega
  have hp0 : (0 : Int) ≤ (t.at_ : Int) := by omega
  have hpl : (t.at_ : Int) < (ns.length : Int) := by omega
  clear hA hB1 hY hb hn hlt hat hsz hgood hs hx hl hnt hF ih
  go_enter Try.func43, Try.ntmps43
  go_upto_region 3 with fail
  rw [HY.out]
  rw [HP1.out]
  clear HY c0 c1 c2 c3 c4 c5
  have hbx := (B0.out.block W.heap.size (heap_lt HA.out)).trans HA.out
  have e0 := cell_of_heap hbx 0
  have e1 := cell_of_heap hbx 1
  have e2 := cell_of_heap hbx 2
  have e3 := cell_of_heap hbx 3
  have e4 := cell_of_heap hbx 4
  have e5 := cell_of_heap hbx 5
  simp at e0 e1 e2 e3 e4 e5
  clear hbx
  go_upto_region 19 with fail
  have hD : Below Y.heap.size Y Y.drew := (Below.refl _ _).drew
  obtain ⟨D, hDe⟩ : ∃ D, Y.drew = D := ⟨_, rfl⟩
  rw [hDe] at hD
  have B1 := hid (B0.out.trans (hD.mono B0.out.size))
  have hq := (B1.out.block W.heap.size (heap_lt HA.out)).trans HA.out
  have hS : (fun w' : World => w'.cell? ⟨W.heap.size, 2, none⟩ = some (.string t.n.a)) D := cell_of_heap hq 2
  clear hq
  refine pick_begin (S := fun w' => w'.cell? ⟨W.heap.size, 2, none⟩ = some (.string t.n.a)) (by kernel_rfl) rfl rfl ?_
  rw [hDe]
  clear hDe hD
  clear e0 e1 e2 e3 e4 e5
  refine pick_op (i := 0) (v := .pointer (some ⟨W.heap.size, 2, none⟩)) (by kernel_rfl) rfl (by kernel_rfl) (by kernel_rfl) rfl rfl (fun w' _ => by simp [go_sem]) hS (by simp [go_sem]; exact rfl) ?_
  refine pick_op (i := 1) (v := .string t.n.a) (by kernel_rfl) rfl (by kernel_rfl) (by kernel_rfl) rfl rfl (fun w' h => by simp [go_sem, h]) hS (by simp [go_sem]; exact rfl) ?_
  refine pick_op (i := 2) (v := .string ((⟨#[108, 101, 116, 32]⟩ : ByteArray) ++ t.n.a)) (by kernel_rfl) rfl (by kernel_rfl) (by kernel_rfl) rfl rfl (fun w' _ => by simp [go_sem]; omega) hS (by simp [go_sem]; exact rfl) ?_
  refine pick_op (i := 3) (v := .string (((⟨#[108, 101, 116, 32]⟩ : ByteArray) ++ t.n.a) ++ (⟨#[32, 61, 32]⟩ : ByteArray))) (by kernel_rfl) rfl (by kernel_rfl) (by kernel_rfl) rfl rfl (fun w' _ => by simp [go_sem]; omega) hS (by simp [go_sem]; exact rfl) ?_
  refine pick_op (i := 4) (v := .slice (some ⟨b, off, none⟩) ns.length cap) (by kernel_rfl) rfl (by kernel_rfl) (by kernel_rfl) rfl rfl (fun w' _ => by simp [go_sem]) hS (by simp [go_sem]; exact rfl) ?_
  refine pick_op (i := 5) (v := .int .i64 ((t.kid 0).at_ : Int)) (by kernel_rfl) rfl (by kernel_rfl) (by kernel_rfl) rfl rfl (fun w' _ => by simp [go_sem]) hS (by simp [go_sem]; exact rfl) ?_
  refine pick_op (i := 9) (v := .slice (some ⟨b, off, none⟩) ns.length cap) (by kernel_rfl) rfl (by kernel_rfl) (by kernel_rfl) rfl rfl (fun w' _ => by simp [go_sem]) hS (by simp [go_sem]; exact rfl) ?_
  refine pick_op (i := 10) (v := .slice (some ⟨b, off, none⟩) ns.length cap) (by kernel_rfl) rfl (by kernel_rfl) (by kernel_rfl) rfl rfl (fun w' _ => by simp [go_sem]) hS (by simp [go_sem]; exact rfl) ?_
  refine pick_op (i := 11) (v := .int .i64 (t.at_ : Int)) (by kernel_rfl) rfl (by kernel_rfl) (by kernel_rfl) rfl rfl (fun w' _ => by simp [go_sem]) hS (by simp [go_sem]; exact rfl) ?_
  refine pick_enter (i := 6) (f := 28) (args := #[.slice (some ⟨b, off, none⟩) ns.length cap, .int .i64 ((t.kid 0).at_ : Int), .int .i64 0]) rfl (by kernel_rfl) rfl rfl (by simp [go_sem]) ?_
  refine (HIH.out (t.kid 0) 0 D (by have := HZ.out; have := HF.out; omega) (HS.out.kid (by have := HC.out; omega)) (HXE.out.1.ex (by have := HC.out; omega) (role_plain (by omega) _)) (Nat.lt_of_lt_of_le HT.out.1 B1.out.size) (HT.out.2.below B1.out HT.out.1)).mono ?_
  rintro e X2 ⟨rfl, hb2⟩
  obtain ⟨T0, hT0⟩ : ∃ T, showZ F (t.kid 0) 0 = T := ⟨_, rfl⟩
  have HT0 := hid hT0
  have hl0 : (tx T0).size ≤ 18000 := by rw [tx_size, ← hT0]; have h1 := (bare_len HNt.out F).1 (t.kid 0) 0 (by have := HZ.out; have := HF.out; omega) (HS.out.kid (by have := HC.out; omega)) (HXE.out.1.ex (by have := HC.out; omega) (role_plain (by omega) _)); have := HZ.out; have := HSz.out; omega
  rw [hT0]
  clear hT0
  have B2 := hid (B1.out.trans (hb2.mono B1.out.size))
  clear hb2 hS
  have hq := (B2.out.block W.heap.size (heap_lt HA.out)).trans HA.out
  have hS : (fun w' : World => w'.cell? ⟨W.heap.size, 2, none⟩ = some (.string t.n.a)) X2 := cell_of_heap hq 2
  clear hq
  refine ⟨_, rfl, hS, ?_⟩
  refine pick_frame (by simp [go_sem]; exact rfl) ?_
  refine pick_op (i := 7) (v := .string ((((⟨#[108, 101, 116, 32]⟩ : ByteArray) ++ t.n.a) ++ (⟨#[32, 61, 32]⟩ : ByteArray)) ++ tx T0)) (by kernel_rfl) rfl (by kernel_rfl) (by kernel_rfl) rfl rfl (fun w' _ => by simp [go_sem]; omega) hS (by simp [go_sem]; exact rfl) ?_
  refine pick_op (i := 8) (v := .string (((((⟨#[108, 101, 116, 32]⟩ : ByteArray) ++ t.n.a) ++ (⟨#[32, 61, 32]⟩ : ByteArray)) ++ tx T0) ++ (⟨#[32, 105, 110, 32]⟩ : ByteArray))) (by kernel_rfl) rfl (by kernel_rfl) (by kernel_rfl) rfl rfl (fun w' _ => by simp [go_sem]; omega) hS (by simp [go_sem]; exact rfl) ?_
  refine pick_enter (i := 12) (f := 56) (args := #[.slice (some ⟨b, off, none⟩) ns.length cap, .int .i64 (t.at_ : Int), .int .i64 1]) rfl (by kernel_rfl) rfl rfl (by simp [go_sem]) ?_
  refine (kid_calls (cap := cap) 1 X2 (HT.out.2.below B2.out HT.out.1) HL.out HS.out (by have := HC.out; omega)).mono ?_
  rintro e Xk ⟨rfl, rfl⟩
  refine ⟨_, rfl, hS, ?_⟩
  refine pick_frame (by simp [go_sem]; exact rfl) ?_
  refine pick_enter (i := 13) (f := 28) (args := #[.slice (some ⟨b, off, none⟩) ns.length cap, .int .i64 ((t.kid 1).at_ : Int), .int .i64 0]) rfl (by kernel_rfl) rfl rfl (by simp [go_sem]) ?_
  refine (HIH.out (t.kid 1) 0 X2 (by have := HZ.out; have := HF.out; omega) (HS.out.kid (by have := HC.out; omega)) (HXE.out.1.ex (by have := HC.out; omega) (role_plain (by omega) _)) (Nat.lt_of_lt_of_le HT.out.1 B2.out.size) (HT.out.2.below B2.out HT.out.1)).mono ?_
  rintro e X3 ⟨rfl, hb3⟩
  obtain ⟨T1, hT1⟩ : ∃ T, showZ F (t.kid 1) 0 = T := ⟨_, rfl⟩
  have HT1 := hid hT1
  have hl1 : (tx T1).size ≤ 18000 := by rw [tx_size, ← hT1]; have h1 := (bare_len HNt.out F).1 (t.kid 1) 0 (by have := HZ.out; have := HF.out; omega) (HS.out.kid (by have := HC.out; omega)) (HXE.out.1.ex (by have := HC.out; omega) (role_plain (by omega) _)); have := HZ.out; have := HSz.out; omega
  rw [hT1]
  clear hT1
  have B3 := hid (B2.out.trans (hb3.mono B2.out.size))
  clear hb3 hS
  have hq := (B3.out.block W.heap.size (heap_lt HA.out)).trans HA.out
  have hS : (fun w' : World => w'.cell? ⟨W.heap.size, 2, none⟩ = some (.string t.n.a)) X3 := cell_of_heap hq 2
  clear hq
  refine ⟨_, rfl, hS, ?_⟩
  refine pick_frame (by simp [go_sem]; exact rfl) ?_
  refine pick_op (i := 14) (v := .string ((((((⟨#[108, 101, 116, 32]⟩ : ByteArray) ++ t.n.a) ++ (⟨#[32, 61, 32]⟩ : ByteArray)) ++ tx T0) ++ (⟨#[32, 105, 110, 32]⟩ : ByteArray)) ++ tx T1)) (by kernel_rfl) rfl (by kernel_rfl) (by kernel_rfl) rfl rfl (fun w' _ => by simp [go_sem]; omega) hS (by simp [go_sem]; exact rfl) ?_
  refine pick_op (i := 15) (v := .string ((((((⟨#[108, 101, 116, 32]⟩ : ByteArray) ++ t.n.a) ++ (⟨#[32, 61, 32]⟩ : ByteArray)) ++ tx T0) ++ (⟨#[32, 105, 110, 32]⟩ : ByteArray)) ++ tx T1)) (by kernel_rfl) rfl (by kernel_rfl) (by kernel_rfl) rfl rfl (fun w' _ => by simp [go_sem]) hS (by simp [go_sem]; exact rfl) ?_
  refine pick_end (by kernel_rfl) ?_
  clear hS
  have hbx := (B3.out.block W.heap.size (heap_lt HA.out)).trans HA.out
  have e0 := cell_of_heap hbx 0
  have e1 := cell_of_heap hbx 1
  have e2 := cell_of_heap hbx 2
  have e3 := cell_of_heap hbx 3
  have e4 := cell_of_heap hbx 4
  have e5 := cell_of_heap hbx 5
  simp at e0 e1 e2 e3 e4 e5
  clear hbx
  go_wp2_with fail
  clear e0 e1 e2 e3 e4 e5
  go_ret
  refine ⟨?_, F0.out.trans (B3.out.mono F0.out.size)⟩
  simp only [text8, ← tx_append, tx_name]
  rw [HT0.out]
  rw [HT1.out]
  rfl

set_option maxHeartbeats 4000000 in
set_option maxRecDepth 100000 in
theorem bare_c9 (hl : ns.length ≤ 300) (hnt : ∀ m ∈ ns, Neat m) (ih : ShowC b off cap ns F) {t : Tp} {W : World} (hF : t.size ≤ F + 1) (hs : Stands ns t) (hx : Ex t) (hb : b < W.heap.size) (hn : NodesAt W b off ns) (ek : t.n.kind = 9) :
    Calls Try.prog 43 #[.slice (some ⟨b, off, none⟩) ns.length cap, .int .i64 (t.at_ : Int)] W (BareP W (text9 (showZ F) t)) := by
  obtain ⟨hlt, hat, hsz⟩ := hs.lt
  have c0 := hn t.at_ hlt 0 (by omega)
  have c1 := hn t.at_ hlt 1 (by omega)
  have c2 := hn t.at_ hlt 2 (by omega)
  have c3 := hn t.at_ hlt 3 (by omega)
  have c4 := hn t.at_ hlt 4 (by omega)
  have c5 := hn t.at_ hlt 5 (by omega)
  rw [hat] at c0 c1 c2 c3 c4 c5
  simp only [Nd.cell, Nat.add_zero] at c0 c1 c2 c3 c4 c5
  rw [ek] at c0
  have hA := (MapKept.heap_alloc W (.cells #[.int .i64 9, .int .i64 t.n.num, .string t.n.a, .string t.n.b, .string t.n.c, .int .i64 t.n.kids] 65)).1
  have hB1 := (Below.refl W.heap.size W).alloc (Nat.le_refl _) (.cells #[.int .i64 9, .int .i64 t.n.num, .string t.n.a, .string t.n.b, .string t.n.c, .int .i64 t.n.kids] 65)
  obtain ⟨Y, hY⟩ : ∃ Y, W.alloc (.cells #[.int .i64 9, .int .i64 t.n.num, .string t.n.a, .string t.n.b, .string t.n.c, .int .i64 t.n.kids] 65) = Y := ⟨_, rfl⟩
  rw [hY] at hA hB1
  have HY := hid hY
  have HA := hid hA
  have F0 := hid hB1
  have B0 := hid (Below.refl Y.heap.size Y)
  have HT := hid (And.intro (Nat.lt_of_lt_of_le hb hB1.size) (hn.below hB1 hb))
  have hgood := hs.toGood
  have HNm := hid (hs.neat hnt)
  have HNt := hid hnt
  have HL := hid hl
  have HF := hid hF
  have HS := hid hs
  have HXE := hid hx
  have HSz : Hid (t.size ≤ 300) := by show _ ≤ _; omega
  have na : t.n.a.size ≤ 8 := HNm.out.a
  have nb : t.n.b.size ≤ 8 := HNm.out.b
  have HC : Hid (t.k.count = 2) := count_of hgood ek (c := 2) rfl
  have HZ : Hid ((t.kid 0).size + (t.kid 1).size + 1 = t.size ∧ 1 ≤ (t.kid 0).size ∧ 1 ≤ (t.kid 1).size) := ⟨(kids2 HC.out).2, (t.kid 0).size_pos, (t.kid 1).size_pos⟩
  have HIH := hid ih
  have HP1 : Hid (wrap64 ((t.at_ : Int) + 1) = ((t.kid 0).at_ : Int)) := by show _ = _; rw [hs.first (by have := HC.out; omega)]; unfold wrap64; omega
  have hp0 : (0 : Int) ≤ (t.at_ : Int) := by omega
  have hpl : (t.at_ : Int) < (ns.length : Int) := by omega
  clear hA hB1 hY hb hn hlt hat hsz hgood hs hx hl hnt hF ih
  go_enter Try.func43, Try.ntmps43
  go_upto_region 3 with fail
  rw [HY.out]
  rw [HP1.out]
  clear HY c0 c1 c2 c3 c4 c5
  have hbx := (B0.out.block W.heap.size (heap_lt HA.out)).trans HA.out
  have e0 := cell_of_heap hbx 0
  have e1 := cell_of_heap hbx 1
  have e2 := cell_of_heap hbx 2
  have e3 := cell_of_heap hbx 3
  have e4 := cell_of_heap hbx 4
  have e5 := cell_of_heap hbx 5
  simp at e0 e1 e2 e3 e4 e5
  clear hbx
  go_upto_region 21 with fail
  have hD : Below Y.heap.size Y Y.drew := (Below.refl _ _).drew
  obtain ⟨D, hDe⟩ : ∃ D, Y.drew = D := ⟨_, rfl⟩
  rw [hDe] at hD
  have B1 := hid (B0.out.trans (hD.mono B0.out.size))
  have hq := (B1.out.block W.heap.size (heap_lt HA.out)).trans HA.out
  have hS : (fun w' : World => w'.cell? ⟨W.heap.size, 2, none⟩ = some (.string t.n.a) ∧ w'.cell? ⟨W.heap.size, 3, none⟩ = some (.string t.n.b)) D := ⟨cell_of_heap hq 2, cell_of_heap hq 3⟩
  clear hq
  refine pick_begin (S := fun w' => w'.cell? ⟨W.heap.size, 2, none⟩ = some (.string t.n.a) ∧ w'.cell? ⟨W.heap.size, 3, none⟩ = some (.string t.n.b)) (by kernel_rfl) rfl rfl ?_
  rw [hDe]
  clear hDe hD
  clear e0 e1 e2 e3 e4 e5
  refine pick_op (i := 0) (v := .pointer (some ⟨W.heap.size, 2, none⟩)) (by kernel_rfl) rfl (by kernel_rfl) (by kernel_rfl) rfl rfl (fun w' _ => by simp [go_sem]) hS (by simp [go_sem]; exact rfl) ?_
  refine pick_op (i := 1) (v := .string t.n.a) (by kernel_rfl) rfl (by kernel_rfl) (by kernel_rfl) rfl rfl (fun w' h => by simp [go_sem, h.1]) hS (by simp [go_sem]; exact rfl) ?_
  refine pick_op (i := 2) (v := .string ((⟨#[108, 101, 116, 32, 114, 101, 99, 32]⟩ : ByteArray) ++ t.n.a)) (by kernel_rfl) rfl (by kernel_rfl) (by kernel_rfl) rfl rfl (fun w' _ => by simp [go_sem]; omega) hS (by simp [go_sem]; exact rfl) ?_
  refine pick_op (i := 3) (v := .string (((⟨#[108, 101, 116, 32, 114, 101, 99, 32]⟩ : ByteArray) ++ t.n.a) ++ (⟨#[32]⟩ : ByteArray))) (by kernel_rfl) rfl (by kernel_rfl) (by kernel_rfl) rfl rfl (fun w' _ => by simp [go_sem]; omega) hS (by simp [go_sem]; exact rfl) ?_
  refine pick_op (i := 4) (v := .pointer (some ⟨W.heap.size, 3, none⟩)) (by kernel_rfl) rfl (by kernel_rfl) (by kernel_rfl) rfl rfl (fun w' _ => by simp [go_sem]) hS (by simp [go_sem]; exact rfl) ?_
  refine pick_op (i := 5) (v := .string t.n.b) (by kernel_rfl) rfl (by kernel_rfl) (by kernel_rfl) rfl rfl (fun w' h => by simp [go_sem, h.2]) hS (by simp [go_sem]; exact rfl) ?_
  refine pick_op (i := 6) (v := .string ((((⟨#[108, 101, 116, 32, 114, 101, 99, 32]⟩ : ByteArray) ++ t.n.a) ++ (⟨#[32]⟩ : ByteArray)) ++ t.n.b)) (by kernel_rfl) rfl (by kernel_rfl) (by kernel_rfl) rfl rfl (fun w' _ => by simp [go_sem]; omega) hS (by simp [go_sem]; exact rfl) ?_
  refine pick_op (i := 7) (v := .string (((((⟨#[108, 101, 116, 32, 114, 101, 99, 32]⟩ : ByteArray) ++ t.n.a) ++ (⟨#[32]⟩ : ByteArray)) ++ t.n.b) ++ (⟨#[32, 61, 32]⟩ : ByteArray))) (by kernel_rfl) rfl (by kernel_rfl) (by kernel_rfl) rfl rfl (fun w' _ => by simp [go_sem]; omega) hS (by simp [go_sem]; exact rfl) ?_
  refine pick_op (i := 8) (v := .slice (some ⟨b, off, none⟩) ns.length cap) (by kernel_rfl) rfl (by kernel_rfl) (by kernel_rfl) rfl rfl (fun w' _ => by simp [go_sem]) hS (by simp [go_sem]; exact rfl) ?_
  refine pick_op (i := 9) (v := .int .i64 ((t.kid 0).at_ : Int)) (by kernel_rfl) rfl (by kernel_rfl) (by kernel_rfl) rfl rfl (fun w' _ => by simp [go_sem]) hS (by simp [go_sem]; exact rfl) ?_
  refine pick_op (i := 13) (v := .slice (some ⟨b, off, none⟩) ns.length cap) (by kernel_rfl) rfl (by kernel_rfl) (by kernel_rfl) rfl rfl (fun w' _ => by simp [go_sem]) hS (by simp [go_sem]; exact rfl) ?_
  refine pick_op (i := 14) (v := .slice (some ⟨b, off, none⟩) ns.length cap) (by kernel_rfl) rfl (by kernel_rfl) (by kernel_rfl) rfl rfl (fun w' _ => by simp [go_sem]) hS (by simp [go_sem]; exact rfl) ?_
  refine pick_op (i := 15) (v := .int .i64 (t.at_ : Int)) (by kernel_rfl) rfl (by kernel_rfl) (by kernel_rfl) rfl rfl (fun w' _ => by simp [go_sem]) hS (by simp [go_sem]; exact rfl) ?_
  refine pick_enter (i := 10) (f := 28) (args := #[.slice (some ⟨b, off, none⟩) ns.length cap, .int .i64 ((t.kid 0).at_ : Int), .int .i64 0]) rfl (by kernel_rfl) rfl rfl (by simp [go_sem]) ?_
  refine (HIH.out (t.kid 0) 0 D (by have := HZ.out; have := HF.out; omega) (HS.out.kid (by have := HC.out; omega)) (HXE.out.1.ex (by have := HC.out; omega) (role_plain (by omega) _)) (Nat.lt_of_lt_of_le HT.out.1 B1.out.size) (HT.out.2.below B1.out HT.out.1)).mono ?_
  rintro e X2 ⟨rfl, hb2⟩
  obtain ⟨T0, hT0⟩ : ∃ T, showZ F (t.kid 0) 0 = T := ⟨_, rfl⟩
  have HT0 := hid hT0
  have hl0 : (tx T0).size ≤ 18000 := by rw [tx_size, ← hT0]; have h1 := (bare_len HNt.out F).1 (t.kid 0) 0 (by have := HZ.out; have := HF.out; omega) (HS.out.kid (by have := HC.out; omega)) (HXE.out.1.ex (by have := HC.out; omega) (role_plain (by omega) _)); have := HZ.out; have := HSz.out; omega
  rw [hT0]
  clear hT0
  have B2 := hid (B1.out.trans (hb2.mono B1.out.size))
  clear hb2 hS
  have hq := (B2.out.block W.heap.size (heap_lt HA.out)).trans HA.out
  have hS : (fun w' : World => w'.cell? ⟨W.heap.size, 2, none⟩ = some (.string t.n.a) ∧ w'.cell? ⟨W.heap.size, 3, none⟩ = some (.string t.n.b)) X2 := ⟨cell_of_heap hq 2, cell_of_heap hq 3⟩
  clear hq
  refine ⟨_, rfl, hS, ?_⟩
  refine pick_frame (by simp [go_sem]; exact rfl) ?_
  refine pick_op (i := 11) (v := .string ((((((⟨#[108, 101, 116, 32, 114, 101, 99, 32]⟩ : ByteArray) ++ t.n.a) ++ (⟨#[32]⟩ : ByteArray)) ++ t.n.b) ++ (⟨#[32, 61, 32]⟩ : ByteArray)) ++ tx T0)) (by kernel_rfl) rfl (by kernel_rfl) (by kernel_rfl) rfl rfl (fun w' _ => by simp [go_sem]; omega) hS (by simp [go_sem]; exact rfl) ?_
  refine pick_op (i := 12) (v := .string (((((((⟨#[108, 101, 116, 32, 114, 101, 99, 32]⟩ : ByteArray) ++ t.n.a) ++ (⟨#[32]⟩ : ByteArray)) ++ t.n.b) ++ (⟨#[32, 61, 32]⟩ : ByteArray)) ++ tx T0) ++ (⟨#[32, 105, 110, 32]⟩ : ByteArray))) (by kernel_rfl) rfl (by kernel_rfl) (by kernel_rfl) rfl rfl (fun w' _ => by simp [go_sem]; omega) hS (by simp [go_sem]; exact rfl) ?_
  refine pick_enter (i := 16) (f := 56) (args := #[.slice (some ⟨b, off, none⟩) ns.length cap, .int .i64 (t.at_ : Int), .int .i64 1]) rfl (by kernel_rfl) rfl rfl (by simp [go_sem]) ?_
  refine (kid_calls (cap := cap) 1 X2 (HT.out.2.below B2.out HT.out.1) HL.out HS.out (by have := HC.out; omega)).mono ?_
  rintro e Xk ⟨rfl, rfl⟩
  refine ⟨_, rfl, hS, ?_⟩
  refine pick_frame (by simp [go_sem]; exact rfl) ?_
  refine pick_enter (i := 17) (f := 28) (args := #[.slice (some ⟨b, off, none⟩) ns.length cap, .int .i64 ((t.kid 1).at_ : Int), .int .i64 0]) rfl (by kernel_rfl) rfl rfl (by simp [go_sem]) ?_
  refine (HIH.out (t.kid 1) 0 X2 (by have := HZ.out; have := HF.out; omega) (HS.out.kid (by have := HC.out; omega)) (HXE.out.1.ex (by have := HC.out; omega) (role_plain (by omega) _)) (Nat.lt_of_lt_of_le HT.out.1 B2.out.size) (HT.out.2.below B2.out HT.out.1)).mono ?_
  rintro e X3 ⟨rfl, hb3⟩
  obtain ⟨T1, hT1⟩ : ∃ T, showZ F (t.kid 1) 0 = T := ⟨_, rfl⟩
  have HT1 := hid hT1
  have hl1 : (tx T1).size ≤ 18000 := by rw [tx_size, ← hT1]; have h1 := (bare_len HNt.out F).1 (t.kid 1) 0 (by have := HZ.out; have := HF.out; omega) (HS.out.kid (by have := HC.out; omega)) (HXE.out.1.ex (by have := HC.out; omega) (role_plain (by omega) _)); have := HZ.out; have := HSz.out; omega
  rw [hT1]
  clear hT1
  have B3 := hid (B2.out.trans (hb3.mono B2.out.size))
  clear hb3 hS
  have hq := (B3.out.block W.heap.size (heap_lt HA.out)).trans HA.out
  have hS : (fun w' : World => w'.cell? ⟨W.heap.size, 2, none⟩ = some (.string t.n.a) ∧ w'.cell? ⟨W.heap.size, 3, none⟩ = some (.string t.n.b)) X3 := ⟨cell_of_heap hq 2, cell_of_heap hq 3⟩
  clear hq
  refine ⟨_, rfl, hS, ?_⟩
  refine pick_frame (by simp [go_sem]; exact rfl) ?_
  refine pick_op (i := 18) (v := .string ((((((((⟨#[108, 101, 116, 32, 114, 101, 99, 32]⟩ : ByteArray) ++ t.n.a) ++ (⟨#[32]⟩ : ByteArray)) ++ t.n.b) ++ (⟨#[32, 61, 32]⟩ : ByteArray)) ++ tx T0) ++ (⟨#[32, 105, 110, 32]⟩ : ByteArray)) ++ tx T1)) (by kernel_rfl) rfl (by kernel_rfl) (by kernel_rfl) rfl rfl (fun w' _ => by simp [go_sem]; omega) hS (by simp [go_sem]; exact rfl) ?_
  refine pick_op (i := 19) (v := .string ((((((((⟨#[108, 101, 116, 32, 114, 101, 99, 32]⟩ : ByteArray) ++ t.n.a) ++ (⟨#[32]⟩ : ByteArray)) ++ t.n.b) ++ (⟨#[32, 61, 32]⟩ : ByteArray)) ++ tx T0) ++ (⟨#[32, 105, 110, 32]⟩ : ByteArray)) ++ tx T1)) (by kernel_rfl) rfl (by kernel_rfl) (by kernel_rfl) rfl rfl (fun w' _ => by simp [go_sem]) hS (by simp [go_sem]; exact rfl) ?_
  refine pick_end (by kernel_rfl) ?_
  clear hS
  have hbx := (B3.out.block W.heap.size (heap_lt HA.out)).trans HA.out
  have e0 := cell_of_heap hbx 0
  have e1 := cell_of_heap hbx 1
  have e2 := cell_of_heap hbx 2
  have e3 := cell_of_heap hbx 3
  have e4 := cell_of_heap hbx 4
  have e5 := cell_of_heap hbx 5
  simp at e0 e1 e2 e3 e4 e5
  clear hbx
  go_wp2_with fail
  clear e0 e1 e2 e3 e4 e5
  go_ret
  refine ⟨?_, F0.out.trans (B3.out.mono F0.out.size)⟩
  simp only [text9, ← tx_append, tx_name]
  rw [HT0.out]
  rw [HT1.out]
  rfl

set_option maxHeartbeats 4000000 in
set_option maxRecDepth 100000 in
theorem bare_c10 (hl : ns.length ≤ 300) (hnt : ∀ m ∈ ns, Neat m) (ih : ShowC b off cap ns F) {t : Tp} {W : World} (hF : t.size ≤ F + 1) (hs : Stands ns t) (hx : Ex t) (hb : b < W.heap.size) (hn : NodesAt W b off ns) (ek : t.n.kind = 10) :
    Calls Try.prog 43 #[.slice (some ⟨b, off, none⟩) ns.length cap, .int .i64 (t.at_ : Int)] W (BareP W (text10 (showZ F) t)) := by
  obtain ⟨hlt, hat, hsz⟩ := hs.lt
  have c0 := hn t.at_ hlt 0 (by omega)
  have c1 := hn t.at_ hlt 1 (by omega)
  have c2 := hn t.at_ hlt 2 (by omega)
  have c3 := hn t.at_ hlt 3 (by omega)
  have c4 := hn t.at_ hlt 4 (by omega)
  have c5 := hn t.at_ hlt 5 (by omega)
  rw [hat] at c0 c1 c2 c3 c4 c5
  simp only [Nd.cell, Nat.add_zero] at c0 c1 c2 c3 c4 c5
  rw [ek] at c0
  have hA := (MapKept.heap_alloc W (.cells #[.int .i64 10, .int .i64 t.n.num, .string t.n.a, .string t.n.b, .string t.n.c, .int .i64 t.n.kids] 65)).1
  have hB1 := (Below.refl W.heap.size W).alloc (Nat.le_refl _) (.cells #[.int .i64 10, .int .i64 t.n.num, .string t.n.a, .string t.n.b, .string t.n.c, .int .i64 t.n.kids] 65)
  obtain ⟨Y, hY⟩ : ∃ Y, W.alloc (.cells #[.int .i64 10, .int .i64 t.n.num, .string t.n.a, .string t.n.b, .string t.n.c, .int .i64 t.n.kids] 65) = Y := ⟨_, rfl⟩
  rw [hY] at hA hB1
  have HY := hid hY
  have HA := hid hA
  have F0 := hid hB1
  have B0 := hid (Below.refl Y.heap.size Y)
  have HT := hid (And.intro (Nat.lt_of_lt_of_le hb hB1.size) (hn.below hB1 hb))
  have hgood := hs.toGood
  have HNm := hid (hs.neat hnt)
  have HNt := hid hnt
  have HL := hid hl
  have HF := hid hF
  have HS := hid hs
  have HXE := hid hx
  have HSz : Hid (t.size ≤ 300) := by show _ ≤ _; omega
  have na : t.n.a.size ≤ 8 := HNm.out.a
  have nb : t.n.b.size ≤ 8 := HNm.out.b
  have HC : Hid (t.k.count = 3) := count_of hgood ek (c := 3) rfl
  have HZ : Hid ((t.kid 0).size + (t.kid 1).size + (t.kid 2).size + 1 = t.size ∧ 1 ≤ (t.kid 0).size ∧ 1 ≤ (t.kid 1).size ∧ 1 ≤ (t.kid 2).size) := ⟨(kids3 HC.out).2, (t.kid 0).size_pos, (t.kid 1).size_pos, (t.kid 2).size_pos⟩
  have HIH := hid ih
  have HP1 : Hid (wrap64 ((t.at_ : Int) + 1) = ((t.kid 0).at_ : Int)) := by show _ = _; rw [hs.first (by have := HC.out; omega)]; unfold wrap64; omega
  have hp0 : (0 : Int) ≤ (t.at_ : Int) := by omega
  have hpl : (t.at_ : Int) < (ns.length : Int) := by omega
  clear hA hB1 hY hb hn hlt hat hsz hgood hs hx hl hnt hF ih
  go_enter Try.func43, Try.ntmps43
  go_upto_region 3 with fail
  rw [HY.out]
  rw [HP1.out]
  clear HY c0 c1 c2 c3 c4 c5
  have hbx := (B0.out.block W.heap.size (heap_lt HA.out)).trans HA.out
  have e0 := cell_of_heap hbx 0
  have e1 := cell_of_heap hbx 1
  have e2 := cell_of_heap hbx 2
  have e3 := cell_of_heap hbx 3
  have e4 := cell_of_heap hbx 4
  have e5 := cell_of_heap hbx 5
  simp at e0 e1 e2 e3 e4 e5
  clear hbx
  go_wp2_with fail
  clear e0 e1 e2 e3 e4 e5
  refine (HIH.out (t.kid 0) 0 Y (by have := HZ.out; have := HF.out; omega) (HS.out.kid (by have := HC.out; omega)) (HXE.out.1.ex (by have := HC.out; omega) (role_plain (by omega) _)) (Nat.lt_of_lt_of_le HT.out.1 B0.out.size) (HT.out.2.below B0.out HT.out.1)).mono ?_
  rintro e X1 ⟨rfl, hb1⟩
  obtain ⟨T0, hT0⟩ : ∃ T, showZ F (t.kid 0) 0 = T := ⟨_, rfl⟩
  have HT0 := hid hT0
  have hl0 : (tx T0).size ≤ 18000 := by rw [tx_size, ← hT0]; have h1 := (bare_len HNt.out F).1 (t.kid 0) 0 (by have := HZ.out; have := HF.out; omega) (HS.out.kid (by have := HC.out; omega)) (HXE.out.1.ex (by have := HC.out; omega) (role_plain (by omega) _)); have := HZ.out; have := HSz.out; omega
  rw [hT0]
  clear hT0
  have B1 := hid (B0.out.trans (hb1.mono B0.out.size))
  clear hb1
  have hbx := (B1.out.block W.heap.size (heap_lt HA.out)).trans HA.out
  have e0 := cell_of_heap hbx 0
  have e1 := cell_of_heap hbx 1
  have e2 := cell_of_heap hbx 2
  have e3 := cell_of_heap hbx 3
  have e4 := cell_of_heap hbx 4
  have e5 := cell_of_heap hbx 5
  simp at e0 e1 e2 e3 e4 e5
  clear hbx
  go_wp2_with fail
  clear e0 e1 e2 e3 e4 e5
  refine (kid_calls (cap := cap) 1 X1 (HT.out.2.below B1.out HT.out.1) HL.out HS.out (by have := HC.out; omega)).mono ?_
  rintro e Xk ⟨rfl, rfl⟩
  go_wp2_with fail
  refine (HIH.out (t.kid 1) 0 X1 (by have := HZ.out; have := HF.out; omega) (HS.out.kid (by have := HC.out; omega)) (HXE.out.1.ex (by have := HC.out; omega) (role_plain (by omega) _)) (Nat.lt_of_lt_of_le HT.out.1 B1.out.size) (HT.out.2.below B1.out HT.out.1)).mono ?_
  rintro e X2 ⟨rfl, hb2⟩
  obtain ⟨T1, hT1⟩ : ∃ T, showZ F (t.kid 1) 0 = T := ⟨_, rfl⟩
  have HT1 := hid hT1
  have hl1 : (tx T1).size ≤ 18000 := by rw [tx_size, ← hT1]; have h1 := (bare_len HNt.out F).1 (t.kid 1) 0 (by have := HZ.out; have := HF.out; omega) (HS.out.kid (by have := HC.out; omega)) (HXE.out.1.ex (by have := HC.out; omega) (role_plain (by omega) _)); have := HZ.out; have := HSz.out; omega
  rw [hT1]
  clear hT1
  have B2 := hid (B1.out.trans (hb2.mono B1.out.size))
  clear hb2
  have hbx := (B2.out.block W.heap.size (heap_lt HA.out)).trans HA.out
  have e0 := cell_of_heap hbx 0
  have e1 := cell_of_heap hbx 1
  have e2 := cell_of_heap hbx 2
  have e3 := cell_of_heap hbx 3
  have e4 := cell_of_heap hbx 4
  have e5 := cell_of_heap hbx 5
  simp at e0 e1 e2 e3 e4 e5
  clear hbx
  go_wp2_with fail
  clear e0 e1 e2 e3 e4 e5
  refine (kid_calls (cap := cap) 2 X2 (HT.out.2.below B2.out HT.out.1) HL.out HS.out (by have := HC.out; omega)).mono ?_
  rintro e Xk ⟨rfl, rfl⟩
  go_wp2_with fail
  refine (HIH.out (t.kid 2) 0 X2 (by have := HZ.out; have := HF.out; omega) (HS.out.kid (by have := HC.out; omega)) (HXE.out.1.ex (by have := HC.out; omega) (role_plain (by omega) _)) (Nat.lt_of_lt_of_le HT.out.1 B2.out.size) (HT.out.2.below B2.out HT.out.1)).mono ?_
  rintro e X3 ⟨rfl, hb3⟩
  obtain ⟨T2, hT2⟩ : ∃ T, showZ F (t.kid 2) 0 = T := ⟨_, rfl⟩
  have HT2 := hid hT2
  have hl2 : (tx T2).size ≤ 18000 := by rw [tx_size, ← hT2]; have h1 := (bare_len HNt.out F).1 (t.kid 2) 0 (by have := HZ.out; have := HF.out; omega) (HS.out.kid (by have := HC.out; omega)) (HXE.out.1.ex (by have := HC.out; omega) (role_plain (by omega) _)); have := HZ.out; have := HSz.out; omega
  rw [hT2]
  clear hT2
  have B3 := hid (B2.out.trans (hb3.mono B2.out.size))
  clear hb3
  have hbx := (B3.out.block W.heap.size (heap_lt HA.out)).trans HA.out
  have e0 := cell_of_heap hbx 0
  have e1 := cell_of_heap hbx 1
  have e2 := cell_of_heap hbx 2
  have e3 := cell_of_heap hbx 3
  have e4 := cell_of_heap hbx 4
  have e5 := cell_of_heap hbx 5
  simp at e0 e1 e2 e3 e4 e5
  clear hbx
  go_wp2_with fail
  clear e0 e1 e2 e3 e4 e5
  go_ret
  refine ⟨?_, F0.out.trans (B3.out.mono F0.out.size)⟩
  simp only [text10, ← tx_append]
  rw [HT0.out]
  rw [HT1.out]
  rw [HT2.out]
  rfl

set_option maxHeartbeats 4000000 in
set_option maxRecDepth 100000 in
theorem bare_c11 (hl : ns.length ≤ 300) (hnt : ∀ m ∈ ns, Neat m) (ih : ShowC b off cap ns F) {t : Tp} {W : World} (hF : t.size ≤ F + 1) (hs : Stands ns t) (hx : Ex t) (hb : b < W.heap.size) (hn : NodesAt W b off ns) (ek : t.n.kind = 11) :
    Calls Try.prog 43 #[.slice (some ⟨b, off, none⟩) ns.length cap, .int .i64 (t.at_ : Int)] W (BareP W (text11 (showZ F) t)) := by
  obtain ⟨hlt, hat, hsz⟩ := hs.lt
  have c0 := hn t.at_ hlt 0 (by omega)
  have c1 := hn t.at_ hlt 1 (by omega)
  have c2 := hn t.at_ hlt 2 (by omega)
  have c3 := hn t.at_ hlt 3 (by omega)
  have c4 := hn t.at_ hlt 4 (by omega)
  have c5 := hn t.at_ hlt 5 (by omega)
  rw [hat] at c0 c1 c2 c3 c4 c5
  simp only [Nd.cell, Nat.add_zero] at c0 c1 c2 c3 c4 c5
  rw [ek] at c0
  have hA := (MapKept.heap_alloc W (.cells #[.int .i64 11, .int .i64 t.n.num, .string t.n.a, .string t.n.b, .string t.n.c, .int .i64 t.n.kids] 65)).1
  have hB1 := (Below.refl W.heap.size W).alloc (Nat.le_refl _) (.cells #[.int .i64 11, .int .i64 t.n.num, .string t.n.a, .string t.n.b, .string t.n.c, .int .i64 t.n.kids] 65)
  obtain ⟨Y, hY⟩ : ∃ Y, W.alloc (.cells #[.int .i64 11, .int .i64 t.n.num, .string t.n.a, .string t.n.b, .string t.n.c, .int .i64 t.n.kids] 65) = Y := ⟨_, rfl⟩
  rw [hY] at hA hB1
  have HY := hid hY
  have HA := hid hA
  have F0 := hid hB1
  have B0 := hid (Below.refl Y.heap.size Y)
  have HT := hid (And.intro (Nat.lt_of_lt_of_le hb hB1.size) (hn.below hB1 hb))
  have hgood := hs.toGood
  have HNm := hid (hs.neat hnt)
  have HNt := hid hnt
  have HL := hid hl
  have HF := hid hF
  have HS := hid hs
  have HXE := hid hx
  have HSz : Hid (t.size ≤ 300) := by show _ ≤ _; omega
  have na : t.n.a.size ≤ 8 := HNm.out.a
  have nb : t.n.b.size ≤ 8 := HNm.out.b
  have HC : Hid (t.k.count = 2) := count_of hgood ek (c := 2) rfl
  have HZ : Hid ((t.kid 0).size + (t.kid 1).size + 1 = t.size ∧ 1 ≤ (t.kid 0).size ∧ 1 ≤ (t.kid 1).size) := ⟨(kids2 HC.out).2, (t.kid 0).size_pos, (t.kid 1).size_pos⟩
  have HIH := hid ih
  have HP1 : Hid (wrap64 ((t.at_ : Int) + 1) = ((t.kid 0).at_ : Int)) := by show _ = _; rw [hs.first (by have := HC.out; omega)]; unfold wrap64; omega
  have HTw := hid (two_calls (cap := cap) hl hnt ih 3 4 [43] (by decide) hF hs hx (by omega) HC.out HT.out.1 HT.out.2)
  have hp0 : (0 : Int) ≤ (t.at_ : Int) := by omega
  have hpl : (t.at_ : Int) < (ns.length : Int) := by omega
  clear hA hB1 hY hb hn hlt hat hsz hgood hs hx hl hnt hF ih
  go_enter Try.func43, Try.ntmps43
  go_upto_region 3 with fail
  rw [HY.out]
  rw [HP1.out]
  clear HY c0 c1 c2 c3 c4 c5
  have hbx := (B0.out.block W.heap.size (heap_lt HA.out)).trans HA.out
  have e0 := cell_of_heap hbx 0
  have e1 := cell_of_heap hbx 1
  have e2 := cell_of_heap hbx 2
  have e3 := cell_of_heap hbx 3
  have e4 := cell_of_heap hbx 4
  have e5 := cell_of_heap hbx 5
  simp at e0 e1 e2 e3 e4 e5
  clear hbx
  go_wp2_with fail
  clear e0 e1 e2 e3 e4 e5
  refine HTw.out.mono ?_
  rintro e X1 ⟨rfl, hb1⟩
  have B1 := hid (B0.out.trans (hb1.mono B0.out.size))
  clear hb1
  obtain ⟨TT, hTT⟩ : ∃ T, showZ F (t.kid 0) 3 ++ [32] ++ [43] ++ [32] ++ showZ F (t.kid 1) 4 = T := ⟨_, rfl⟩
  rw [hTT]
  have HTT := hid hTT
  clear hTT
  have hbx := (B1.out.block W.heap.size (heap_lt HA.out)).trans HA.out
  have e0 := cell_of_heap hbx 0
  have e1 := cell_of_heap hbx 1
  have e2 := cell_of_heap hbx 2
  have e3 := cell_of_heap hbx 3
  have e4 := cell_of_heap hbx 4
  have e5 := cell_of_heap hbx 5
  simp at e0 e1 e2 e3 e4 e5
  clear hbx
  go_wp2_with fail
  clear e0 e1 e2 e3 e4 e5
  go_ret
  refine ⟨?_, F0.out.trans (B1.out.mono F0.out.size)⟩
  rw [← HTT.out]
  rfl

set_option maxHeartbeats 4000000 in
set_option maxRecDepth 100000 in
theorem bare_c12 (hl : ns.length ≤ 300) (hnt : ∀ m ∈ ns, Neat m) (ih : ShowC b off cap ns F) {t : Tp} {W : World} (hF : t.size ≤ F + 1) (hs : Stands ns t) (hx : Ex t) (hb : b < W.heap.size) (hn : NodesAt W b off ns) (ek : t.n.kind = 12) :
    Calls Try.prog 43 #[.slice (some ⟨b, off, none⟩) ns.length cap, .int .i64 (t.at_ : Int)] W (BareP W (text12 (showZ F) t)) := by
  obtain ⟨hlt, hat, hsz⟩ := hs.lt
  have c0 := hn t.at_ hlt 0 (by omega)
  have c1 := hn t.at_ hlt 1 (by omega)
  have c2 := hn t.at_ hlt 2 (by omega)
  have c3 := hn t.at_ hlt 3 (by omega)
  have c4 := hn t.at_ hlt 4 (by omega)
  have c5 := hn t.at_ hlt 5 (by omega)
  rw [hat] at c0 c1 c2 c3 c4 c5
  simp only [Nd.cell, Nat.add_zero] at c0 c1 c2 c3 c4 c5
  rw [ek] at c0
  have hA := (MapKept.heap_alloc W (.cells #[.int .i64 12, .int .i64 t.n.num, .string t.n.a, .string t.n.b, .string t.n.c, .int .i64 t.n.kids] 65)).1
  have hB1 := (Below.refl W.heap.size W).alloc (Nat.le_refl _) (.cells #[.int .i64 12, .int .i64 t.n.num, .string t.n.a, .string t.n.b, .string t.n.c, .int .i64 t.n.kids] 65)
  obtain ⟨Y, hY⟩ : ∃ Y, W.alloc (.cells #[.int .i64 12, .int .i64 t.n.num, .string t.n.a, .string t.n.b, .string t.n.c, .int .i64 t.n.kids] 65) = Y := ⟨_, rfl⟩
  rw [hY] at hA hB1
  have HY := hid hY
  have HA := hid hA
  have F0 := hid hB1
  have B0 := hid (Below.refl Y.heap.size Y)
  have HT := hid (And.intro (Nat.lt_of_lt_of_le hb hB1.size) (hn.below hB1 hb))
  have hgood := hs.toGood
  have HNm := hid (hs.neat hnt)
  have HNt := hid hnt
  have HL := hid hl
  have HF := hid hF
  have HS := hid hs
  have HXE := hid hx
  have HSz : Hid (t.size ≤ 300) := by show _ ≤ _; omega
  have na : t.n.a.size ≤ 8 := HNm.out.a
  have nb : t.n.b.size ≤ 8 := HNm.out.b
  have HC : Hid (t.k.count = 2) := count_of hgood ek (c := 2) rfl
  have HZ : Hid ((t.kid 0).size + (t.kid 1).size + 1 = t.size ∧ 1 ≤ (t.kid 0).size ∧ 1 ≤ (t.kid 1).size) := ⟨(kids2 HC.out).2, (t.kid 0).size_pos, (t.kid 1).size_pos⟩
  have HIH := hid ih
  have HP1 : Hid (wrap64 ((t.at_ : Int) + 1) = ((t.kid 0).at_ : Int)) := by show _ = _; rw [hs.first (by have := HC.out; omega)]; unfold wrap64; omega
  have HTw := hid (two_calls (cap := cap) hl hnt ih 3 4 [45] (by decide) hF hs hx (by omega) HC.out HT.out.1 HT.out.2)
  have hp0 : (0 : Int) ≤ (t.at_ : Int) := by omega
  have hpl : (t.at_ : Int) < (ns.length : Int) := by omega
  clear hA hB1 hY hb hn hlt hat hsz hgood hs hx hl hnt hF ih
  go_enter Try.func43, Try.ntmps43
  go_upto_region 3 with fail
  rw [HY.out]
  rw [HP1.out]
  clear HY c0 c1 c2 c3 c4 c5
  have hbx := (B0.out.block W.heap.size (heap_lt HA.out)).trans HA.out
  have e0 := cell_of_heap hbx 0
  have e1 := cell_of_heap hbx 1
  have e2 := cell_of_heap hbx 2
  have e3 := cell_of_heap hbx 3
  have e4 := cell_of_heap hbx 4
  have e5 := cell_of_heap hbx 5
  simp at e0 e1 e2 e3 e4 e5
  clear hbx
  go_wp2_with fail
  clear e0 e1 e2 e3 e4 e5
  refine HTw.out.mono ?_
  rintro e X1 ⟨rfl, hb1⟩
  have B1 := hid (B0.out.trans (hb1.mono B0.out.size))
  clear hb1
  obtain ⟨TT, hTT⟩ : ∃ T, showZ F (t.kid 0) 3 ++ [32] ++ [45] ++ [32] ++ showZ F (t.kid 1) 4 = T := ⟨_, rfl⟩
  rw [hTT]
  have HTT := hid hTT
  clear hTT
  have hbx := (B1.out.block W.heap.size (heap_lt HA.out)).trans HA.out
  have e0 := cell_of_heap hbx 0
  have e1 := cell_of_heap hbx 1
  have e2 := cell_of_heap hbx 2
  have e3 := cell_of_heap hbx 3
  have e4 := cell_of_heap hbx 4
  have e5 := cell_of_heap hbx 5
  simp at e0 e1 e2 e3 e4 e5
  clear hbx
  go_wp2_with fail
  clear e0 e1 e2 e3 e4 e5
  go_ret
  refine ⟨?_, F0.out.trans (B1.out.mono F0.out.size)⟩
  rw [← HTT.out]
  rfl

set_option maxHeartbeats 4000000 in
set_option maxRecDepth 100000 in
theorem bare_c13 (hl : ns.length ≤ 300) (hnt : ∀ m ∈ ns, Neat m) (ih : ShowC b off cap ns F) {t : Tp} {W : World} (hF : t.size ≤ F + 1) (hs : Stands ns t) (hx : Ex t) (hb : b < W.heap.size) (hn : NodesAt W b off ns) (ek : t.n.kind = 13) :
    Calls Try.prog 43 #[.slice (some ⟨b, off, none⟩) ns.length cap, .int .i64 (t.at_ : Int)] W (BareP W (text13 (showZ F) t)) := by
  obtain ⟨hlt, hat, hsz⟩ := hs.lt
  have c0 := hn t.at_ hlt 0 (by omega)
  have c1 := hn t.at_ hlt 1 (by omega)
  have c2 := hn t.at_ hlt 2 (by omega)
  have c3 := hn t.at_ hlt 3 (by omega)
  have c4 := hn t.at_ hlt 4 (by omega)
  have c5 := hn t.at_ hlt 5 (by omega)
  rw [hat] at c0 c1 c2 c3 c4 c5
  simp only [Nd.cell, Nat.add_zero] at c0 c1 c2 c3 c4 c5
  rw [ek] at c0
  have hA := (MapKept.heap_alloc W (.cells #[.int .i64 13, .int .i64 t.n.num, .string t.n.a, .string t.n.b, .string t.n.c, .int .i64 t.n.kids] 65)).1
  have hB1 := (Below.refl W.heap.size W).alloc (Nat.le_refl _) (.cells #[.int .i64 13, .int .i64 t.n.num, .string t.n.a, .string t.n.b, .string t.n.c, .int .i64 t.n.kids] 65)
  obtain ⟨Y, hY⟩ : ∃ Y, W.alloc (.cells #[.int .i64 13, .int .i64 t.n.num, .string t.n.a, .string t.n.b, .string t.n.c, .int .i64 t.n.kids] 65) = Y := ⟨_, rfl⟩
  rw [hY] at hA hB1
  have HY := hid hY
  have HA := hid hA
  have F0 := hid hB1
  have B0 := hid (Below.refl Y.heap.size Y)
  have HT := hid (And.intro (Nat.lt_of_lt_of_le hb hB1.size) (hn.below hB1 hb))
  have hgood := hs.toGood
  have HNm := hid (hs.neat hnt)
  have HNt := hid hnt
  have HL := hid hl
  have HF := hid hF
  have HS := hid hs
  have HXE := hid hx
  have HSz : Hid (t.size ≤ 300) := by show _ ≤ _; omega
  have na : t.n.a.size ≤ 8 := HNm.out.a
  have nb : t.n.b.size ≤ 8 := HNm.out.b
  have HC : Hid (t.k.count = 2) := count_of hgood ek (c := 2) rfl
  have HZ : Hid ((t.kid 0).size + (t.kid 1).size + 1 = t.size ∧ 1 ≤ (t.kid 0).size ∧ 1 ≤ (t.kid 1).size) := ⟨(kids2 HC.out).2, (t.kid 0).size_pos, (t.kid 1).size_pos⟩
  have HIH := hid ih
  have HP1 : Hid (wrap64 ((t.at_ : Int) + 1) = ((t.kid 0).at_ : Int)) := by show _ = _; rw [hs.first (by have := HC.out; omega)]; unfold wrap64; omega
  have HTw := hid (two_calls (cap := cap) hl hnt ih 4 5 [42] (by decide) hF hs hx (by omega) HC.out HT.out.1 HT.out.2)
  have hp0 : (0 : Int) ≤ (t.at_ : Int) := by omega
  have hpl : (t.at_ : Int) < (ns.length : Int) := by omega
  clear hA hB1 hY hb hn hlt hat hsz hgood hs hx hl hnt hF ih
  go_enter Try.func43, Try.ntmps43
  go_upto_region 3 with fail
  rw [HY.out]
  rw [HP1.out]
  clear HY c0 c1 c2 c3 c4 c5
  have hbx := (B0.out.block W.heap.size (heap_lt HA.out)).trans HA.out
  have e0 := cell_of_heap hbx 0
  have e1 := cell_of_heap hbx 1
  have e2 := cell_of_heap hbx 2
  have e3 := cell_of_heap hbx 3
  have e4 := cell_of_heap hbx 4
  have e5 := cell_of_heap hbx 5
  simp at e0 e1 e2 e3 e4 e5
  clear hbx
  go_wp2_with fail
  clear e0 e1 e2 e3 e4 e5
  refine HTw.out.mono ?_
  rintro e X1 ⟨rfl, hb1⟩
  have B1 := hid (B0.out.trans (hb1.mono B0.out.size))
  clear hb1
  obtain ⟨TT, hTT⟩ : ∃ T, showZ F (t.kid 0) 4 ++ [32] ++ [42] ++ [32] ++ showZ F (t.kid 1) 5 = T := ⟨_, rfl⟩
  rw [hTT]
  have HTT := hid hTT
  clear hTT
  have hbx := (B1.out.block W.heap.size (heap_lt HA.out)).trans HA.out
  have e0 := cell_of_heap hbx 0
  have e1 := cell_of_heap hbx 1
  have e2 := cell_of_heap hbx 2
  have e3 := cell_of_heap hbx 3
  have e4 := cell_of_heap hbx 4
  have e5 := cell_of_heap hbx 5
  simp at e0 e1 e2 e3 e4 e5
  clear hbx
  go_wp2_with fail
  clear e0 e1 e2 e3 e4 e5
  go_ret
  refine ⟨?_, F0.out.trans (B1.out.mono F0.out.size)⟩
  rw [← HTT.out]
  rfl

set_option maxHeartbeats 4000000 in
set_option maxRecDepth 100000 in
theorem bare_c14 (hl : ns.length ≤ 300) (hnt : ∀ m ∈ ns, Neat m) (ih : ShowC b off cap ns F) {t : Tp} {W : World} (hF : t.size ≤ F + 1) (hs : Stands ns t) (hx : Ex t) (hb : b < W.heap.size) (hn : NodesAt W b off ns) (ek : t.n.kind = 14) :
    Calls Try.prog 43 #[.slice (some ⟨b, off, none⟩) ns.length cap, .int .i64 (t.at_ : Int)] W (BareP W (text14 (showZ F) t)) := by
  obtain ⟨hlt, hat, hsz⟩ := hs.lt
  have c0 := hn t.at_ hlt 0 (by omega)
  have c1 := hn t.at_ hlt 1 (by omega)
  have c2 := hn t.at_ hlt 2 (by omega)
  have c3 := hn t.at_ hlt 3 (by omega)
  have c4 := hn t.at_ hlt 4 (by omega)
  have c5 := hn t.at_ hlt 5 (by omega)
  rw [hat] at c0 c1 c2 c3 c4 c5
  simp only [Nd.cell, Nat.add_zero] at c0 c1 c2 c3 c4 c5
  rw [ek] at c0
  have hA := (MapKept.heap_alloc W (.cells #[.int .i64 14, .int .i64 t.n.num, .string t.n.a, .string t.n.b, .string t.n.c, .int .i64 t.n.kids] 65)).1
  have hB1 := (Below.refl W.heap.size W).alloc (Nat.le_refl _) (.cells #[.int .i64 14, .int .i64 t.n.num, .string t.n.a, .string t.n.b, .string t.n.c, .int .i64 t.n.kids] 65)
  obtain ⟨Y, hY⟩ : ∃ Y, W.alloc (.cells #[.int .i64 14, .int .i64 t.n.num, .string t.n.a, .string t.n.b, .string t.n.c, .int .i64 t.n.kids] 65) = Y := ⟨_, rfl⟩
  rw [hY] at hA hB1
  have HY := hid hY
  have HA := hid hA
  have F0 := hid hB1
  have B0 := hid (Below.refl Y.heap.size Y)
  have HT := hid (And.intro (Nat.lt_of_lt_of_le hb hB1.size) (hn.below hB1 hb))
  have hgood := hs.toGood
  have HNm := hid (hs.neat hnt)
  have HNt := hid hnt
  have HL := hid hl
  have HF := hid hF
  have HS := hid hs
  have HXE := hid hx
  have HSz : Hid (t.size ≤ 300) := by show _ ≤ _; omega
  have na : t.n.a.size ≤ 8 := HNm.out.a
  have nb : t.n.b.size ≤ 8 := HNm.out.b
  have HC : Hid (t.k.count = 2) := count_of hgood ek (c := 2) rfl
  have HZ : Hid ((t.kid 0).size + (t.kid 1).size + 1 = t.size ∧ 1 ≤ (t.kid 0).size ∧ 1 ≤ (t.kid 1).size) := ⟨(kids2 HC.out).2, (t.kid 0).size_pos, (t.kid 1).size_pos⟩
  have HIH := hid ih
  have HP1 : Hid (wrap64 ((t.at_ : Int) + 1) = ((t.kid 0).at_ : Int)) := by show _ = _; rw [hs.first (by have := HC.out; omega)]; unfold wrap64; omega
  have HTw := hid (two_calls (cap := cap) hl hnt ih 3 3 [61] (by decide) hF hs hx (by omega) HC.out HT.out.1 HT.out.2)
  have hp0 : (0 : Int) ≤ (t.at_ : Int) := by omega
  have hpl : (t.at_ : Int) < (ns.length : Int) := by omega
  clear hA hB1 hY hb hn hlt hat hsz hgood hs hx hl hnt hF ih
  go_enter Try.func43, Try.ntmps43
  go_upto_region 3 with fail
  rw [HY.out]
  rw [HP1.out]
  clear HY c0 c1 c2 c3 c4 c5
  have hbx := (B0.out.block W.heap.size (heap_lt HA.out)).trans HA.out
  have e0 := cell_of_heap hbx 0
  have e1 := cell_of_heap hbx 1
  have e2 := cell_of_heap hbx 2
  have e3 := cell_of_heap hbx 3
  have e4 := cell_of_heap hbx 4
  have e5 := cell_of_heap hbx 5
  simp at e0 e1 e2 e3 e4 e5
  clear hbx
  go_wp2_with fail
  clear e0 e1 e2 e3 e4 e5
  refine HTw.out.mono ?_
  rintro e X1 ⟨rfl, hb1⟩
  have B1 := hid (B0.out.trans (hb1.mono B0.out.size))
  clear hb1
  obtain ⟨TT, hTT⟩ : ∃ T, showZ F (t.kid 0) 3 ++ [32] ++ [61] ++ [32] ++ showZ F (t.kid 1) 3 = T := ⟨_, rfl⟩
  rw [hTT]
  have HTT := hid hTT
  clear hTT
  have hbx := (B1.out.block W.heap.size (heap_lt HA.out)).trans HA.out
  have e0 := cell_of_heap hbx 0
  have e1 := cell_of_heap hbx 1
  have e2 := cell_of_heap hbx 2
  have e3 := cell_of_heap hbx 3
  have e4 := cell_of_heap hbx 4
  have e5 := cell_of_heap hbx 5
  simp at e0 e1 e2 e3 e4 e5
  clear hbx
  go_wp2_with fail
  clear e0 e1 e2 e3 e4 e5
  go_ret
  refine ⟨?_, F0.out.trans (B1.out.mono F0.out.size)⟩
  rw [← HTT.out]
  rfl

set_option maxHeartbeats 4000000 in
set_option maxRecDepth 100000 in
theorem bare_c15 (hl : ns.length ≤ 300) (hnt : ∀ m ∈ ns, Neat m) (ih : ShowC b off cap ns F) {t : Tp} {W : World} (hF : t.size ≤ F + 1) (hs : Stands ns t) (hx : Ex t) (hb : b < W.heap.size) (hn : NodesAt W b off ns) (ek : t.n.kind = 15) :
    Calls Try.prog 43 #[.slice (some ⟨b, off, none⟩) ns.length cap, .int .i64 (t.at_ : Int)] W (BareP W (text15 (showZ F) t)) := by
  obtain ⟨hlt, hat, hsz⟩ := hs.lt
  have c0 := hn t.at_ hlt 0 (by omega)
  have c1 := hn t.at_ hlt 1 (by omega)
  have c2 := hn t.at_ hlt 2 (by omega)
  have c3 := hn t.at_ hlt 3 (by omega)
  have c4 := hn t.at_ hlt 4 (by omega)
  have c5 := hn t.at_ hlt 5 (by omega)
  rw [hat] at c0 c1 c2 c3 c4 c5
  simp only [Nd.cell, Nat.add_zero] at c0 c1 c2 c3 c4 c5
  rw [ek] at c0
  have hA := (MapKept.heap_alloc W (.cells #[.int .i64 15, .int .i64 t.n.num, .string t.n.a, .string t.n.b, .string t.n.c, .int .i64 t.n.kids] 65)).1
  have hB1 := (Below.refl W.heap.size W).alloc (Nat.le_refl _) (.cells #[.int .i64 15, .int .i64 t.n.num, .string t.n.a, .string t.n.b, .string t.n.c, .int .i64 t.n.kids] 65)
  obtain ⟨Y, hY⟩ : ∃ Y, W.alloc (.cells #[.int .i64 15, .int .i64 t.n.num, .string t.n.a, .string t.n.b, .string t.n.c, .int .i64 t.n.kids] 65) = Y := ⟨_, rfl⟩
  rw [hY] at hA hB1
  have HY := hid hY
  have HA := hid hA
  have F0 := hid hB1
  have B0 := hid (Below.refl Y.heap.size Y)
  have HT := hid (And.intro (Nat.lt_of_lt_of_le hb hB1.size) (hn.below hB1 hb))
  have hgood := hs.toGood
  have HNm := hid (hs.neat hnt)
  have HNt := hid hnt
  have HL := hid hl
  have HF := hid hF
  have HS := hid hs
  have HXE := hid hx
  have HSz : Hid (t.size ≤ 300) := by show _ ≤ _; omega
  have na : t.n.a.size ≤ 8 := HNm.out.a
  have nb : t.n.b.size ≤ 8 := HNm.out.b
  have HC : Hid (t.k.count = 2) := count_of hgood ek (c := 2) rfl
  have HZ : Hid ((t.kid 0).size + (t.kid 1).size + 1 = t.size ∧ 1 ≤ (t.kid 0).size ∧ 1 ≤ (t.kid 1).size) := ⟨(kids2 HC.out).2, (t.kid 0).size_pos, (t.kid 1).size_pos⟩
  have HIH := hid ih
  have HP1 : Hid (wrap64 ((t.at_ : Int) + 1) = ((t.kid 0).at_ : Int)) := by show _ = _; rw [hs.first (by have := HC.out; omega)]; unfold wrap64; omega
  have HTw := hid (two_calls (cap := cap) hl hnt ih 3 3 [60] (by decide) hF hs hx (by omega) HC.out HT.out.1 HT.out.2)
  have hp0 : (0 : Int) ≤ (t.at_ : Int) := by omega
  have hpl : (t.at_ : Int) < (ns.length : Int) := by omega
  clear hA hB1 hY hb hn hlt hat hsz hgood hs hx hl hnt hF ih
  go_enter Try.func43, Try.ntmps43
  go_upto_region 3 with fail
  rw [HY.out]
  rw [HP1.out]
  clear HY c0 c1 c2 c3 c4 c5
  have hbx := (B0.out.block W.heap.size (heap_lt HA.out)).trans HA.out
  have e0 := cell_of_heap hbx 0
  have e1 := cell_of_heap hbx 1
  have e2 := cell_of_heap hbx 2
  have e3 := cell_of_heap hbx 3
  have e4 := cell_of_heap hbx 4
  have e5 := cell_of_heap hbx 5
  simp at e0 e1 e2 e3 e4 e5
  clear hbx
  go_wp2_with fail
  clear e0 e1 e2 e3 e4 e5
  refine HTw.out.mono ?_
  rintro e X1 ⟨rfl, hb1⟩
  have B1 := hid (B0.out.trans (hb1.mono B0.out.size))
  clear hb1
  obtain ⟨TT, hTT⟩ : ∃ T, showZ F (t.kid 0) 3 ++ [32] ++ [60] ++ [32] ++ showZ F (t.kid 1) 3 = T := ⟨_, rfl⟩
  rw [hTT]
  have HTT := hid hTT
  clear hTT
  have hbx := (B1.out.block W.heap.size (heap_lt HA.out)).trans HA.out
  have e0 := cell_of_heap hbx 0
  have e1 := cell_of_heap hbx 1
  have e2 := cell_of_heap hbx 2
  have e3 := cell_of_heap hbx 3
  have e4 := cell_of_heap hbx 4
  have e5 := cell_of_heap hbx 5
  simp at e0 e1 e2 e3 e4 e5
  clear hbx
  go_wp2_with fail
  clear e0 e1 e2 e3 e4 e5
  go_ret
  refine ⟨?_, F0.out.trans (B1.out.mono F0.out.size)⟩
  rw [← HTT.out]
  rfl

set_option maxHeartbeats 4000000 in
set_option maxRecDepth 100000 in
theorem bare_c19 (hl : ns.length ≤ 300) (hnt : ∀ m ∈ ns, Neat m) (ih : ShowC b off cap ns F) {t : Tp} {W : World} (hF : t.size ≤ F + 1) (hs : Stands ns t) (hx : Ex t) (hb : b < W.heap.size) (hn : NodesAt W b off ns) (ek : t.n.kind = 19) :
    Calls Try.prog 43 #[.slice (some ⟨b, off, none⟩) ns.length cap, .int .i64 (t.at_ : Int)] W (BareP W (text19 (showZ F) t)) := by
  obtain ⟨hlt, hat, hsz⟩ := hs.lt
  have c0 := hn t.at_ hlt 0 (by omega)
  have c1 := hn t.at_ hlt 1 (by omega)
  have c2 := hn t.at_ hlt 2 (by omega)
  have c3 := hn t.at_ hlt 3 (by omega)
  have c4 := hn t.at_ hlt 4 (by omega)
  have c5 := hn t.at_ hlt 5 (by omega)
  rw [hat] at c0 c1 c2 c3 c4 c5
  simp only [Nd.cell, Nat.add_zero] at c0 c1 c2 c3 c4 c5
  rw [ek] at c0
  have hA := (MapKept.heap_alloc W (.cells #[.int .i64 19, .int .i64 t.n.num, .string t.n.a, .string t.n.b, .string t.n.c, .int .i64 t.n.kids] 65)).1
  have hB1 := (Below.refl W.heap.size W).alloc (Nat.le_refl _) (.cells #[.int .i64 19, .int .i64 t.n.num, .string t.n.a, .string t.n.b, .string t.n.c, .int .i64 t.n.kids] 65)
  obtain ⟨Y, hY⟩ : ∃ Y, W.alloc (.cells #[.int .i64 19, .int .i64 t.n.num, .string t.n.a, .string t.n.b, .string t.n.c, .int .i64 t.n.kids] 65) = Y := ⟨_, rfl⟩
  rw [hY] at hA hB1
  have HY := hid hY
  have HA := hid hA
  have F0 := hid hB1
  have B0 := hid (Below.refl Y.heap.size Y)
  have HT := hid (And.intro (Nat.lt_of_lt_of_le hb hB1.size) (hn.below hB1 hb))
  have hgood := hs.toGood
  have HNm := hid (hs.neat hnt)
  have HNt := hid hnt
  have HL := hid hl
  have HF := hid hF
  have HS := hid hs
  have HXE := hid hx
  have HSz : Hid (t.size ≤ 300) := by show _ ≤ _; omega
  have na : t.n.a.size ≤ 8 := HNm.out.a
  have nb : t.n.b.size ≤ 8 := HNm.out.b
  have HC : Hid (t.k.count = 2) := count_of hgood ek (c := 2) rfl
  have HZ : Hid ((t.kid 0).size + (t.kid 1).size + 1 = t.size ∧ 1 ≤ (t.kid 0).size ∧ 1 ≤ (t.kid 1).size) := ⟨(kids2 HC.out).2, (t.kid 0).size_pos, (t.kid 1).size_pos⟩
  have HIH := hid ih
  have HP1 : Hid (wrap64 ((t.at_ : Int) + 1) = ((t.kid 0).at_ : Int)) := by show _ = _; rw [hs.first (by have := HC.out; omega)]; unfold wrap64; omega
  have HTw := hid (two_calls (cap := cap) hl hnt ih 2 1 [58, 58] (by decide) hF hs hx (by omega) HC.out HT.out.1 HT.out.2)
  have hp0 : (0 : Int) ≤ (t.at_ : Int) := by omega
  have hpl : (t.at_ : Int) < (ns.length : Int) := by omega
  clear hA hB1 hY hb hn hlt hat hsz hgood hs hx hl hnt hF ih
  go_enter Try.func43, Try.ntmps43
  go_upto_region 3 with fail
  rw [HY.out]
  rw [HP1.out]
  clear HY c0 c1 c2 c3 c4 c5
  have hbx := (B0.out.block W.heap.size (heap_lt HA.out)).trans HA.out
  have e0 := cell_of_heap hbx 0
  have e1 := cell_of_heap hbx 1
  have e2 := cell_of_heap hbx 2
  have e3 := cell_of_heap hbx 3
  have e4 := cell_of_heap hbx 4
  have e5 := cell_of_heap hbx 5
  simp at e0 e1 e2 e3 e4 e5
  clear hbx
  go_wp2_with fail
  clear e0 e1 e2 e3 e4 e5
  refine HTw.out.mono ?_
  rintro e X1 ⟨rfl, hb1⟩
  have B1 := hid (B0.out.trans (hb1.mono B0.out.size))
  clear hb1
  obtain ⟨TT, hTT⟩ : ∃ T, showZ F (t.kid 0) 2 ++ [32] ++ [58, 58] ++ [32] ++ showZ F (t.kid 1) 1 = T := ⟨_, rfl⟩
  rw [hTT]
  have HTT := hid hTT
  clear hTT
  have hbx := (B1.out.block W.heap.size (heap_lt HA.out)).trans HA.out
  have e0 := cell_of_heap hbx 0
  have e1 := cell_of_heap hbx 1
  have e2 := cell_of_heap hbx 2
  have e3 := cell_of_heap hbx 3
  have e4 := cell_of_heap hbx 4
  have e5 := cell_of_heap hbx 5
  simp at e0 e1 e2 e3 e4 e5
  clear hbx
  go_wp2_with fail
  clear e0 e1 e2 e3 e4 e5
  go_ret
  refine ⟨?_, F0.out.trans (B1.out.mono F0.out.size)⟩
  rw [← HTT.out]
  rfl

set_option maxHeartbeats 4000000 in
set_option maxRecDepth 100000 in
theorem bare_c16 (hl : ns.length ≤ 300) (hnt : ∀ m ∈ ns, Neat m) (ih : ShowC b off cap ns F) {t : Tp} {W : World} (hF : t.size ≤ F + 1) (hs : Stands ns t) (hx : Ex t) (hb : b < W.heap.size) (hn : NodesAt W b off ns) (ek : t.n.kind = 16) :
    Calls Try.prog 43 #[.slice (some ⟨b, off, none⟩) ns.length cap, .int .i64 (t.at_ : Int)] W (BareP W (text16 (showZ F) t)) := by
  obtain ⟨hlt, hat, hsz⟩ := hs.lt
  have c0 := hn t.at_ hlt 0 (by omega)
  have c1 := hn t.at_ hlt 1 (by omega)
  have c2 := hn t.at_ hlt 2 (by omega)
  have c3 := hn t.at_ hlt 3 (by omega)
  have c4 := hn t.at_ hlt 4 (by omega)
  have c5 := hn t.at_ hlt 5 (by omega)
  rw [hat] at c0 c1 c2 c3 c4 c5
  simp only [Nd.cell, Nat.add_zero] at c0 c1 c2 c3 c4 c5
  rw [ek] at c0
  have hA := (MapKept.heap_alloc W (.cells #[.int .i64 16, .int .i64 t.n.num, .string t.n.a, .string t.n.b, .string t.n.c, .int .i64 t.n.kids] 65)).1
  have hB1 := (Below.refl W.heap.size W).alloc (Nat.le_refl _) (.cells #[.int .i64 16, .int .i64 t.n.num, .string t.n.a, .string t.n.b, .string t.n.c, .int .i64 t.n.kids] 65)
  obtain ⟨Y, hY⟩ : ∃ Y, W.alloc (.cells #[.int .i64 16, .int .i64 t.n.num, .string t.n.a, .string t.n.b, .string t.n.c, .int .i64 t.n.kids] 65) = Y := ⟨_, rfl⟩
  rw [hY] at hA hB1
  have HY := hid hY
  have HA := hid hA
  have F0 := hid hB1
  have B0 := hid (Below.refl Y.heap.size Y)
  have HT := hid (And.intro (Nat.lt_of_lt_of_le hb hB1.size) (hn.below hB1 hb))
  have hgood := hs.toGood
  have HNm := hid (hs.neat hnt)
  have HNt := hid hnt
  have HL := hid hl
  have HF := hid hF
  have HS := hid hs
  have HXE := hid hx
  have HSz : Hid (t.size ≤ 300) := by show _ ≤ _; omega
  have na : t.n.a.size ≤ 8 := HNm.out.a
  have nb : t.n.b.size ≤ 8 := HNm.out.b
  have HC : Hid (t.k.count = 2) := count_of hgood ek (c := 2) rfl
  have HZ : Hid ((t.kid 0).size + (t.kid 1).size + 1 = t.size ∧ 1 ≤ (t.kid 0).size ∧ 1 ≤ (t.kid 1).size) := ⟨(kids2 HC.out).2, (t.kid 0).size_pos, (t.kid 1).size_pos⟩
  have HIH := hid ih
  have HP1 : Hid (wrap64 ((t.at_ : Int) + 1) = ((t.kid 0).at_ : Int)) := by show _ = _; rw [hs.first (by have := HC.out; omega)]; unfold wrap64; omega
  have hp0 : (0 : Int) ≤ (t.at_ : Int) := by omega
  have hpl : (t.at_ : Int) < (ns.length : Int) := by omega
  clear hA hB1 hY hb hn hlt hat hsz hgood hs hx hl hnt hF ih
  go_enter Try.func43, Try.ntmps43
  go_upto_region 3 with fail
  rw [HY.out]
  rw [HP1.out]
  clear HY c0 c1 c2 c3 c4 c5
  have hbx := (B0.out.block W.heap.size (heap_lt HA.out)).trans HA.out
  have e0 := cell_of_heap hbx 0
  have e1 := cell_of_heap hbx 1
  have e2 := cell_of_heap hbx 2
  have e3 := cell_of_heap hbx 3
  have e4 := cell_of_heap hbx 4
  have e5 := cell_of_heap hbx 5
  simp at e0 e1 e2 e3 e4 e5
  clear hbx
  go_wp2_with fail
  clear e0 e1 e2 e3 e4 e5
  refine (HIH.out (t.kid 0) 0 Y (by have := HZ.out; have := HF.out; omega) (HS.out.kid (by have := HC.out; omega)) (HXE.out.1.ex (by have := HC.out; omega) (role_plain (by omega) _)) (Nat.lt_of_lt_of_le HT.out.1 B0.out.size) (HT.out.2.below B0.out HT.out.1)).mono ?_
  rintro e X1 ⟨rfl, hb1⟩
  obtain ⟨T0, hT0⟩ : ∃ T, showZ F (t.kid 0) 0 = T := ⟨_, rfl⟩
  have HT0 := hid hT0
  have hl0 : (tx T0).size ≤ 18000 := by rw [tx_size, ← hT0]; have h1 := (bare_len HNt.out F).1 (t.kid 0) 0 (by have := HZ.out; have := HF.out; omega) (HS.out.kid (by have := HC.out; omega)) (HXE.out.1.ex (by have := HC.out; omega) (role_plain (by omega) _)); have := HZ.out; have := HSz.out; omega
  rw [hT0]
  clear hT0
  have B1 := hid (B0.out.trans (hb1.mono B0.out.size))
  clear hb1
  have hbx := (B1.out.block W.heap.size (heap_lt HA.out)).trans HA.out
  have e0 := cell_of_heap hbx 0
  have e1 := cell_of_heap hbx 1
  have e2 := cell_of_heap hbx 2
  have e3 := cell_of_heap hbx 3
  have e4 := cell_of_heap hbx 4
  have e5 := cell_of_heap hbx 5
  simp at e0 e1 e2 e3 e4 e5
  clear hbx
  go_wp2_with fail
  clear e0 e1 e2 e3 e4 e5
  refine (kid_calls (cap := cap) 1 X1 (HT.out.2.below B1.out HT.out.1) HL.out HS.out (by have := HC.out; omega)).mono ?_
  rintro e Xk ⟨rfl, rfl⟩
  go_wp2_with fail
  refine (HIH.out (t.kid 1) 0 X1 (by have := HZ.out; have := HF.out; omega) (HS.out.kid (by have := HC.out; omega)) (HXE.out.1.ex (by have := HC.out; omega) (role_plain (by omega) _)) (Nat.lt_of_lt_of_le HT.out.1 B1.out.size) (HT.out.2.below B1.out HT.out.1)).mono ?_
  rintro e X2 ⟨rfl, hb2⟩
  obtain ⟨T1, hT1⟩ : ∃ T, showZ F (t.kid 1) 0 = T := ⟨_, rfl⟩
  have HT1 := hid hT1
  have hl1 : (tx T1).size ≤ 18000 := by rw [tx_size, ← hT1]; have h1 := (bare_len HNt.out F).1 (t.kid 1) 0 (by have := HZ.out; have := HF.out; omega) (HS.out.kid (by have := HC.out; omega)) (HXE.out.1.ex (by have := HC.out; omega) (role_plain (by omega) _)); have := HZ.out; have := HSz.out; omega
  rw [hT1]
  clear hT1
  have B2 := hid (B1.out.trans (hb2.mono B1.out.size))
  clear hb2
  have hbx := (B2.out.block W.heap.size (heap_lt HA.out)).trans HA.out
  have e0 := cell_of_heap hbx 0
  have e1 := cell_of_heap hbx 1
  have e2 := cell_of_heap hbx 2
  have e3 := cell_of_heap hbx 3
  have e4 := cell_of_heap hbx 4
  have e5 := cell_of_heap hbx 5
  simp at e0 e1 e2 e3 e4 e5
  clear hbx
  go_wp2_with fail
  clear e0 e1 e2 e3 e4 e5
  go_ret
  refine ⟨?_, F0.out.trans (B2.out.mono F0.out.size)⟩
  simp only [text16, ← tx_append]
  rw [HT0.out]
  rw [HT1.out]
  rfl

set_option maxHeartbeats 4000000 in
set_option maxRecDepth 100000 in
theorem bare_c17 (hl : ns.length ≤ 300) (hnt : ∀ m ∈ ns, Neat m) (ih : ShowC b off cap ns F) {t : Tp} {W : World} (hF : t.size ≤ F + 1) (hs : Stands ns t) (hx : Ex t) (hb : b < W.heap.size) (hn : NodesAt W b off ns) (ek : t.n.kind = 17) :
    Calls Try.prog 43 #[.slice (some ⟨b, off, none⟩) ns.length cap, .int .i64 (t.at_ : Int)] W (BareP W (text17 (showZ F) t)) := by
  obtain ⟨hlt, hat, hsz⟩ := hs.lt
  have c0 := hn t.at_ hlt 0 (by omega)
  have c1 := hn t.at_ hlt 1 (by omega)
  have c2 := hn t.at_ hlt 2 (by omega)
  have c3 := hn t.at_ hlt 3 (by omega)
  have c4 := hn t.at_ hlt 4 (by omega)
  have c5 := hn t.at_ hlt 5 (by omega)
  rw [hat] at c0 c1 c2 c3 c4 c5
  simp only [Nd.cell, Nat.add_zero] at c0 c1 c2 c3 c4 c5
  rw [ek] at c0
  have hA := (MapKept.heap_alloc W (.cells #[.int .i64 17, .int .i64 t.n.num, .string t.n.a, .string t.n.b, .string t.n.c, .int .i64 t.n.kids] 65)).1
  have hB1 := (Below.refl W.heap.size W).alloc (Nat.le_refl _) (.cells #[.int .i64 17, .int .i64 t.n.num, .string t.n.a, .string t.n.b, .string t.n.c, .int .i64 t.n.kids] 65)
  obtain ⟨Y, hY⟩ : ∃ Y, W.alloc (.cells #[.int .i64 17, .int .i64 t.n.num, .string t.n.a, .string t.n.b, .string t.n.c, .int .i64 t.n.kids] 65) = Y := ⟨_, rfl⟩
  rw [hY] at hA hB1
  have HY := hid hY
  have HA := hid hA
  have F0 := hid hB1
  have B0 := hid (Below.refl Y.heap.size Y)
  have HT := hid (And.intro (Nat.lt_of_lt_of_le hb hB1.size) (hn.below hB1 hb))
  have hgood := hs.toGood
  have HNm := hid (hs.neat hnt)
  have HNt := hid hnt
  have HL := hid hl
  have HF := hid hF
  have HS := hid hs
  have HXE := hid hx
  have HSz : Hid (t.size ≤ 300) := by show _ ≤ _; omega
  have na : t.n.a.size ≤ 8 := HNm.out.a
  have nb : t.n.b.size ≤ 8 := HNm.out.b
  have HC : Hid (t.k.count = 1) := count_of hgood ek (c := 1) rfl
  have HZ : Hid ((t.kid 0).size + 1 = t.size ∧ 1 ≤ (t.kid 0).size) := ⟨(kids1 HC.out).2, (t.kid 0).size_pos⟩
  have HIH := hid ih
  have HP1 : Hid (wrap64 ((t.at_ : Int) + 1) = ((t.kid 0).at_ : Int)) := by show _ = _; rw [hs.first (by have := HC.out; omega)]; unfold wrap64; omega
  have hp0 : (0 : Int) ≤ (t.at_ : Int) := by omega
  have hpl : (t.at_ : Int) < (ns.length : Int) := by omega
  clear hA hB1 hY hb hn hlt hat hsz hgood hs hx hl hnt hF ih
  go_enter Try.func43, Try.ntmps43
  go_upto_region 3 with fail
  rw [HY.out]
  rw [HP1.out]
  clear HY c0 c1 c2 c3 c4 c5
  have hbx := (B0.out.block W.heap.size (heap_lt HA.out)).trans HA.out
  have e0 := cell_of_heap hbx 0
  have e1 := cell_of_heap hbx 1
  have e2 := cell_of_heap hbx 2
  have e3 := cell_of_heap hbx 3
  have e4 := cell_of_heap hbx 4
  have e5 := cell_of_heap hbx 5
  simp at e0 e1 e2 e3 e4 e5
  clear hbx
  go_wp2_with fail
  clear e0 e1 e2 e3 e4 e5
  refine (HIH.out (t.kid 0) 6 Y (by have := HZ.out; have := HF.out; omega) (HS.out.kid (by have := HC.out; omega)) (HXE.out.1.ex (by have := HC.out; omega) (role_plain (by omega) _)) (Nat.lt_of_lt_of_le HT.out.1 B0.out.size) (HT.out.2.below B0.out HT.out.1)).mono ?_
  rintro e X1 ⟨rfl, hb1⟩
  obtain ⟨T0, hT0⟩ : ∃ T, showZ F (t.kid 0) 6 = T := ⟨_, rfl⟩
  have HT0 := hid hT0
  have hl0 : (tx T0).size ≤ 18000 := by rw [tx_size, ← hT0]; have h1 := (bare_len HNt.out F).1 (t.kid 0) 6 (by have := HZ.out; have := HF.out; omega) (HS.out.kid (by have := HC.out; omega)) (HXE.out.1.ex (by have := HC.out; omega) (role_plain (by omega) _)); have := HZ.out; have := HSz.out; omega
  rw [hT0]
  clear hT0
  have B1 := hid (B0.out.trans (hb1.mono B0.out.size))
  clear hb1
  have hbx := (B1.out.block W.heap.size (heap_lt HA.out)).trans HA.out
  have e0 := cell_of_heap hbx 0
  have e1 := cell_of_heap hbx 1
  have e2 := cell_of_heap hbx 2
  have e3 := cell_of_heap hbx 3
  have e4 := cell_of_heap hbx 4
  have e5 := cell_of_heap hbx 5
  simp at e0 e1 e2 e3 e4 e5
  clear hbx
  go_wp2_with fail
  clear e0 e1 e2 e3 e4 e5
  go_ret
  refine ⟨?_, F0.out.trans (B1.out.mono F0.out.size)⟩
  simp only [text17, ← tx_append]
  rw [HT0.out]
  rfl

set_option maxHeartbeats 4000000 in
set_option maxRecDepth 100000 in
theorem bare_c18 (hl : ns.length ≤ 300) (hnt : ∀ m ∈ ns, Neat m) (ih : ShowC b off cap ns F) {t : Tp} {W : World} (hF : t.size ≤ F + 1) (hs : Stands ns t) (hx : Ex t) (hb : b < W.heap.size) (hn : NodesAt W b off ns) (ek : t.n.kind = 18) :
    Calls Try.prog 43 #[.slice (some ⟨b, off, none⟩) ns.length cap, .int .i64 (t.at_ : Int)] W (BareP W (text18 (showZ F) t)) := by
  obtain ⟨hlt, hat, hsz⟩ := hs.lt
  have c0 := hn t.at_ hlt 0 (by omega)
  have c1 := hn t.at_ hlt 1 (by omega)
  have c2 := hn t.at_ hlt 2 (by omega)
  have c3 := hn t.at_ hlt 3 (by omega)
  have c4 := hn t.at_ hlt 4 (by omega)
  have c5 := hn t.at_ hlt 5 (by omega)
  rw [hat] at c0 c1 c2 c3 c4 c5
  simp only [Nd.cell, Nat.add_zero] at c0 c1 c2 c3 c4 c5
  rw [ek] at c0
  have hA := (MapKept.heap_alloc W (.cells #[.int .i64 18, .int .i64 t.n.num, .string t.n.a, .string t.n.b, .string t.n.c, .int .i64 t.n.kids] 65)).1
  have hB1 := (Below.refl W.heap.size W).alloc (Nat.le_refl _) (.cells #[.int .i64 18, .int .i64 t.n.num, .string t.n.a, .string t.n.b, .string t.n.c, .int .i64 t.n.kids] 65)
  obtain ⟨Y, hY⟩ : ∃ Y, W.alloc (.cells #[.int .i64 18, .int .i64 t.n.num, .string t.n.a, .string t.n.b, .string t.n.c, .int .i64 t.n.kids] 65) = Y := ⟨_, rfl⟩
  rw [hY] at hA hB1
  have HY := hid hY
  have HA := hid hA
  have F0 := hid hB1
  have B0 := hid (Below.refl Y.heap.size Y)
  have HT := hid (And.intro (Nat.lt_of_lt_of_le hb hB1.size) (hn.below hB1 hb))
  have hgood := hs.toGood
  have HNm := hid (hs.neat hnt)
  have HNt := hid hnt
  have HL := hid hl
  have HF := hid hF
  have HS := hid hs
  have HXE := hid hx
  have HSz : Hid (t.size ≤ 300) := by show _ ≤ _; omega
  have na : t.n.a.size ≤ 8 := HNm.out.a
  have nb : t.n.b.size ≤ 8 := HNm.out.b
  have HC : Hid (t.k.count = 1) := count_of hgood ek (c := 1) rfl
  have HZ : Hid ((t.kid 0).size + 1 = t.size ∧ 1 ≤ (t.kid 0).size) := ⟨(kids1 HC.out).2, (t.kid 0).size_pos⟩
  have HIH := hid ih
  have HP1 : Hid (wrap64 ((t.at_ : Int) + 1) = ((t.kid 0).at_ : Int)) := by show _ = _; rw [hs.first (by have := HC.out; omega)]; unfold wrap64; omega
  have hp0 : (0 : Int) ≤ (t.at_ : Int) := by omega
  have hpl : (t.at_ : Int) < (ns.length : Int) := by omega
  clear hA hB1 hY hb hn hlt hat hsz hgood hs hx hl hnt hF ih
  go_enter Try.func43, Try.ntmps43
  go_upto_region 3 with fail
  rw [HY.out]
  rw [HP1.out]
  clear HY c0 c1 c2 c3 c4 c5
  have hbx := (B0.out.block W.heap.size (heap_lt HA.out)).trans HA.out
  have e0 := cell_of_heap hbx 0
  have e1 := cell_of_heap hbx 1
  have e2 := cell_of_heap hbx 2
  have e3 := cell_of_heap hbx 3
  have e4 := cell_of_heap hbx 4
  have e5 := cell_of_heap hbx 5
  simp at e0 e1 e2 e3 e4 e5
  clear hbx
  go_wp2_with fail
  clear e0 e1 e2 e3 e4 e5
  refine (HIH.out (t.kid 0) 6 Y (by have := HZ.out; have := HF.out; omega) (HS.out.kid (by have := HC.out; omega)) (HXE.out.1.ex (by have := HC.out; omega) (role_plain (by omega) _)) (Nat.lt_of_lt_of_le HT.out.1 B0.out.size) (HT.out.2.below B0.out HT.out.1)).mono ?_
  rintro e X1 ⟨rfl, hb1⟩
  obtain ⟨T0, hT0⟩ : ∃ T, showZ F (t.kid 0) 6 = T := ⟨_, rfl⟩
  have HT0 := hid hT0
  have hl0 : (tx T0).size ≤ 18000 := by rw [tx_size, ← hT0]; have h1 := (bare_len HNt.out F).1 (t.kid 0) 6 (by have := HZ.out; have := HF.out; omega) (HS.out.kid (by have := HC.out; omega)) (HXE.out.1.ex (by have := HC.out; omega) (role_plain (by omega) _)); have := HZ.out; have := HSz.out; omega
  rw [hT0]
  clear hT0
  have B1 := hid (B0.out.trans (hb1.mono B0.out.size))
  clear hb1
  have hbx := (B1.out.block W.heap.size (heap_lt HA.out)).trans HA.out
  have e0 := cell_of_heap hbx 0
  have e1 := cell_of_heap hbx 1
  have e2 := cell_of_heap hbx 2
  have e3 := cell_of_heap hbx 3
  have e4 := cell_of_heap hbx 4
  have e5 := cell_of_heap hbx 5
  simp at e0 e1 e2 e3 e4 e5
  clear hbx
  go_wp2_with fail
  clear e0 e1 e2 e3 e4 e5
  go_ret
  refine ⟨?_, F0.out.trans (B1.out.mono F0.out.size)⟩
  simp only [text18, ← tx_append]
  rw [HT0.out]
  rfl

set_option maxHeartbeats 4000000 in
set_option maxRecDepth 100000 in
theorem bare_c21 (hl : ns.length ≤ 300) (hnt : ∀ m ∈ ns, Neat m) (ih : ShowC b off cap ns F) {t : Tp} {W : World} (hF : t.size ≤ F + 1) (hs : Stands ns t) (hx : Ex t) (hb : b < W.heap.size) (hn : NodesAt W b off ns) (ek : t.n.kind = 21) :
    Calls Try.prog 43 #[.slice (some ⟨b, off, none⟩) ns.length cap, .int .i64 (t.at_ : Int)] W (BareP W (text21 (showZ F) t)) := by
  obtain ⟨hlt, hat, hsz⟩ := hs.lt
  have c0 := hn t.at_ hlt 0 (by omega)
  have c1 := hn t.at_ hlt 1 (by omega)
  have c2 := hn t.at_ hlt 2 (by omega)
  have c3 := hn t.at_ hlt 3 (by omega)
  have c4 := hn t.at_ hlt 4 (by omega)
  have c5 := hn t.at_ hlt 5 (by omega)
  rw [hat] at c0 c1 c2 c3 c4 c5
  simp only [Nd.cell, Nat.add_zero] at c0 c1 c2 c3 c4 c5
  rw [ek] at c0
  have hA := (MapKept.heap_alloc W (.cells #[.int .i64 21, .int .i64 t.n.num, .string t.n.a, .string t.n.b, .string t.n.c, .int .i64 t.n.kids] 65)).1
  have hB1 := (Below.refl W.heap.size W).alloc (Nat.le_refl _) (.cells #[.int .i64 21, .int .i64 t.n.num, .string t.n.a, .string t.n.b, .string t.n.c, .int .i64 t.n.kids] 65)
  obtain ⟨Y, hY⟩ : ∃ Y, W.alloc (.cells #[.int .i64 21, .int .i64 t.n.num, .string t.n.a, .string t.n.b, .string t.n.c, .int .i64 t.n.kids] 65) = Y := ⟨_, rfl⟩
  rw [hY] at hA hB1
  have HY := hid hY
  have HA := hid hA
  have F0 := hid hB1
  have B0 := hid (Below.refl Y.heap.size Y)
  have HT := hid (And.intro (Nat.lt_of_lt_of_le hb hB1.size) (hn.below hB1 hb))
  have hgood := hs.toGood
  have HNm := hid (hs.neat hnt)
  have HNt := hid hnt
  have HL := hid hl
  have HF := hid hF
  have HS := hid hs
  have HXE := hid hx
  have HSz : Hid (t.size ≤ 300) := by show _ ≤ _; omega
  have na : t.n.a.size ≤ 8 := HNm.out.a
  have nb : t.n.b.size ≤ 8 := HNm.out.b
  have HC : Hid (t.k.count = 1) := count_of hgood ek (c := 1) rfl
  have HZ : Hid ((t.kid 0).size + 1 = t.size ∧ 1 ≤ (t.kid 0).size) := ⟨(kids1 HC.out).2, (t.kid 0).size_pos⟩
  have HIH := hid ih
  have HP1 : Hid (wrap64 ((t.at_ : Int) + 1) = ((t.kid 0).at_ : Int)) := by show _ = _; rw [hs.first (by have := HC.out; omega)]; unfold wrap64; omega
  have hp0 : (0 : Int) ≤ (t.at_ : Int) := by omega
  have hpl : (t.at_ : Int) < (ns.length : Int) := by omega
  clear hA hB1 hY hb hn hlt hat hsz hgood hs hx hl hnt hF ih
  go_enter Try.func43, Try.ntmps43
  go_upto_region 3 with fail
  rw [HY.out]
  rw [HP1.out]
  clear HY c0 c1 c2 c3 c4 c5
  have hbx := (B0.out.block W.heap.size (heap_lt HA.out)).trans HA.out
  have e0 := cell_of_heap hbx 0
  have e1 := cell_of_heap hbx 1
  have e2 := cell_of_heap hbx 2
  have e3 := cell_of_heap hbx 3
  have e4 := cell_of_heap hbx 4
  have e5 := cell_of_heap hbx 5
  simp at e0 e1 e2 e3 e4 e5
  clear hbx
  go_wp2_with fail
  clear e0 e1 e2 e3 e4 e5
  refine (HIH.out (t.kid 0) 6 Y (by have := HZ.out; have := HF.out; omega) (HS.out.kid (by have := HC.out; omega)) (HXE.out.1.ex (by have := HC.out; omega) (role_plain (by omega) _)) (Nat.lt_of_lt_of_le HT.out.1 B0.out.size) (HT.out.2.below B0.out HT.out.1)).mono ?_
  rintro e X1 ⟨rfl, hb1⟩
  obtain ⟨T0, hT0⟩ : ∃ T, showZ F (t.kid 0) 6 = T := ⟨_, rfl⟩
  have HT0 := hid hT0
  have hl0 : (tx T0).size ≤ 18000 := by rw [tx_size, ← hT0]; have h1 := (bare_len HNt.out F).1 (t.kid 0) 6 (by have := HZ.out; have := HF.out; omega) (HS.out.kid (by have := HC.out; omega)) (HXE.out.1.ex (by have := HC.out; omega) (role_plain (by omega) _)); have := HZ.out; have := HSz.out; omega
  rw [hT0]
  clear hT0
  have B1 := hid (B0.out.trans (hb1.mono B0.out.size))
  clear hb1
  have hbx := (B1.out.block W.heap.size (heap_lt HA.out)).trans HA.out
  have e0 := cell_of_heap hbx 0
  have e1 := cell_of_heap hbx 1
  have e2 := cell_of_heap hbx 2
  have e3 := cell_of_heap hbx 3
  have e4 := cell_of_heap hbx 4
  have e5 := cell_of_heap hbx 5
  simp at e0 e1 e2 e3 e4 e5
  clear hbx
  go_wp2_with fail
  clear e0 e1 e2 e3 e4 e5
  go_ret
  refine ⟨?_, F0.out.trans (B1.out.mono F0.out.size)⟩
  simp only [text21, ← tx_append]
  rw [HT0.out]
  rfl

set_option maxHeartbeats 4000000 in
set_option maxRecDepth 100000 in
theorem bare_c22 (hl : ns.length ≤ 300) (hnt : ∀ m ∈ ns, Neat m) (ih : ShowC b off cap ns F) {t : Tp} {W : World} (hF : t.size ≤ F + 1) (hs : Stands ns t) (hx : Ex t) (hb : b < W.heap.size) (hn : NodesAt W b off ns) (ek : t.n.kind = 22) :
    Calls Try.prog 43 #[.slice (some ⟨b, off, none⟩) ns.length cap, .int .i64 (t.at_ : Int)] W (BareP W (text22 (showZ F) t)) := by
  obtain ⟨hlt, hat, hsz⟩ := hs.lt
  have c0 := hn t.at_ hlt 0 (by omega)
  have c1 := hn t.at_ hlt 1 (by omega)
  have c2 := hn t.at_ hlt 2 (by omega)
  have c3 := hn t.at_ hlt 3 (by omega)
  have c4 := hn t.at_ hlt 4 (by omega)
  have c5 := hn t.at_ hlt 5 (by omega)
  rw [hat] at c0 c1 c2 c3 c4 c5
  simp only [Nd.cell, Nat.add_zero] at c0 c1 c2 c3 c4 c5
  rw [ek] at c0
  have hA := (MapKept.heap_alloc W (.cells #[.int .i64 22, .int .i64 t.n.num, .string t.n.a, .string t.n.b, .string t.n.c, .int .i64 t.n.kids] 65)).1
  have hB1 := (Below.refl W.heap.size W).alloc (Nat.le_refl _) (.cells #[.int .i64 22, .int .i64 t.n.num, .string t.n.a, .string t.n.b, .string t.n.c, .int .i64 t.n.kids] 65)
  obtain ⟨Y, hY⟩ : ∃ Y, W.alloc (.cells #[.int .i64 22, .int .i64 t.n.num, .string t.n.a, .string t.n.b, .string t.n.c, .int .i64 t.n.kids] 65) = Y := ⟨_, rfl⟩
  rw [hY] at hA hB1
  have HY := hid hY
  have HA := hid hA
  have F0 := hid hB1
  have B0 := hid (Below.refl Y.heap.size Y)
  have HT := hid (And.intro (Nat.lt_of_lt_of_le hb hB1.size) (hn.below hB1 hb))
  have hgood := hs.toGood
  have HNm := hid (hs.neat hnt)
  have HNt := hid hnt
  have HL := hid hl
  have HF := hid hF
  have HS := hid hs
  have HXE := hid hx
  have HSz : Hid (t.size ≤ 300) := by show _ ≤ _; omega
  have na : t.n.a.size ≤ 8 := HNm.out.a
  have nb : t.n.b.size ≤ 8 := HNm.out.b
  have HC : Hid (t.k.count = 1) := count_of hgood ek (c := 1) rfl
  have HZ : Hid ((t.kid 0).size + 1 = t.size ∧ 1 ≤ (t.kid 0).size) := ⟨(kids1 HC.out).2, (t.kid 0).size_pos⟩
  have HIH := hid ih
  have HP1 : Hid (wrap64 ((t.at_ : Int) + 1) = ((t.kid 0).at_ : Int)) := by show _ = _; rw [hs.first (by have := HC.out; omega)]; unfold wrap64; omega
  have hp0 : (0 : Int) ≤ (t.at_ : Int) := by omega
  have hpl : (t.at_ : Int) < (ns.length : Int) := by omega
  clear hA hB1 hY hb hn hlt hat hsz hgood hs hx hl hnt hF ih
  go_enter Try.func43, Try.ntmps43
  go_upto_region 3 with fail
  rw [HY.out]
  rw [HP1.out]
  clear HY c0 c1 c2 c3 c4 c5
  have hbx := (B0.out.block W.heap.size (heap_lt HA.out)).trans HA.out
  have e0 := cell_of_heap hbx 0
  have e1 := cell_of_heap hbx 1
  have e2 := cell_of_heap hbx 2
  have e3 := cell_of_heap hbx 3
  have e4 := cell_of_heap hbx 4
  have e5 := cell_of_heap hbx 5
  simp at e0 e1 e2 e3 e4 e5
  clear hbx
  go_upto_region 45 with fail
  have hD : Below Y.heap.size Y Y.drew := (Below.refl _ _).drew
  obtain ⟨D, hDe⟩ : ∃ D, Y.drew = D := ⟨_, rfl⟩
  rw [hDe] at hD
  have B1 := hid (B0.out.trans (hD.mono B0.out.size))
  have hq := (B1.out.block W.heap.size (heap_lt HA.out)).trans HA.out
  have hS : (fun w' : World => w'.cell? ⟨W.heap.size, 2, none⟩ = some (.string t.n.a)) D := cell_of_heap hq 2
  clear hq
  refine pick_begin (S := fun w' => w'.cell? ⟨W.heap.size, 2, none⟩ = some (.string t.n.a)) (by kernel_rfl) rfl rfl ?_
  rw [hDe]
  clear hDe hD
  clear e0 e1 e2 e3 e4 e5
  refine pick_op (i := 0) (v := .pointer (some ⟨W.heap.size, 2, none⟩)) (by kernel_rfl) rfl (by kernel_rfl) (by kernel_rfl) rfl rfl (fun w' _ => by simp [go_sem]) hS (by simp [go_sem]; exact rfl) ?_
  refine pick_op (i := 1) (v := .string t.n.a) (by kernel_rfl) rfl (by kernel_rfl) (by kernel_rfl) rfl rfl (fun w' h => by simp [go_sem, h]) hS (by simp [go_sem]; exact rfl) ?_
  refine pick_op (i := 2) (v := .string ((⟨#[100, 111, 32]⟩ : ByteArray) ++ t.n.a)) (by kernel_rfl) rfl (by kernel_rfl) (by kernel_rfl) rfl rfl (fun w' _ => by simp [go_sem]; omega) hS (by simp [go_sem]; exact rfl) ?_
  refine pick_op (i := 3) (v := .string (((⟨#[100, 111, 32]⟩ : ByteArray) ++ t.n.a) ++ (⟨#[32]⟩ : ByteArray))) (by kernel_rfl) rfl (by kernel_rfl) (by kernel_rfl) rfl rfl (fun w' _ => by simp [go_sem]; omega) hS (by simp [go_sem]; exact rfl) ?_
  refine pick_op (i := 4) (v := .slice (some ⟨b, off, none⟩) ns.length cap) (by kernel_rfl) rfl (by kernel_rfl) (by kernel_rfl) rfl rfl (fun w' _ => by simp [go_sem]) hS (by simp [go_sem]; exact rfl) ?_
  refine pick_op (i := 5) (v := .int .i64 ((t.kid 0).at_ : Int)) (by kernel_rfl) rfl (by kernel_rfl) (by kernel_rfl) rfl rfl (fun w' _ => by simp [go_sem]) hS (by simp [go_sem]; exact rfl) ?_
  refine pick_enter (i := 6) (f := 28) (args := #[.slice (some ⟨b, off, none⟩) ns.length cap, .int .i64 ((t.kid 0).at_ : Int), .int .i64 6]) rfl (by kernel_rfl) rfl rfl (by simp [go_sem]) ?_
  refine (HIH.out (t.kid 0) 6 D (by have := HZ.out; have := HF.out; omega) (HS.out.kid (by have := HC.out; omega)) (HXE.out.1.ex (by have := HC.out; omega) (role_plain (by omega) _)) (Nat.lt_of_lt_of_le HT.out.1 B1.out.size) (HT.out.2.below B1.out HT.out.1)).mono ?_
  rintro e X2 ⟨rfl, hb2⟩
  obtain ⟨T0, hT0⟩ : ∃ T, showZ F (t.kid 0) 6 = T := ⟨_, rfl⟩
  have HT0 := hid hT0
  have hl0 : (tx T0).size ≤ 18000 := by rw [tx_size, ← hT0]; have h1 := (bare_len HNt.out F).1 (t.kid 0) 6 (by have := HZ.out; have := HF.out; omega) (HS.out.kid (by have := HC.out; omega)) (HXE.out.1.ex (by have := HC.out; omega) (role_plain (by omega) _)); have := HZ.out; have := HSz.out; omega
  rw [hT0]
  clear hT0
  have B2 := hid (B1.out.trans (hb2.mono B1.out.size))
  clear hb2 hS
  have hq := (B2.out.block W.heap.size (heap_lt HA.out)).trans HA.out
  have hS : (fun w' : World => w'.cell? ⟨W.heap.size, 2, none⟩ = some (.string t.n.a)) X2 := cell_of_heap hq 2
  clear hq
  refine ⟨_, rfl, hS, ?_⟩
  refine pick_frame (by simp [go_sem]; exact rfl) ?_
  refine pick_op (i := 7) (v := .string ((((⟨#[100, 111, 32]⟩ : ByteArray) ++ t.n.a) ++ (⟨#[32]⟩ : ByteArray)) ++ tx T0)) (by kernel_rfl) rfl (by kernel_rfl) (by kernel_rfl) rfl rfl (fun w' _ => by simp [go_sem]; omega) hS (by simp [go_sem]; exact rfl) ?_
  refine pick_op (i := 8) (v := .string ((((⟨#[100, 111, 32]⟩ : ByteArray) ++ t.n.a) ++ (⟨#[32]⟩ : ByteArray)) ++ tx T0)) (by kernel_rfl) rfl (by kernel_rfl) (by kernel_rfl) rfl rfl (fun w' _ => by simp [go_sem]) hS (by simp [go_sem]; exact rfl) ?_
  refine pick_end (by kernel_rfl) ?_
  clear hS
  have hbx := (B2.out.block W.heap.size (heap_lt HA.out)).trans HA.out
  have e0 := cell_of_heap hbx 0
  have e1 := cell_of_heap hbx 1
  have e2 := cell_of_heap hbx 2
  have e3 := cell_of_heap hbx 3
  have e4 := cell_of_heap hbx 4
  have e5 := cell_of_heap hbx 5
  simp at e0 e1 e2 e3 e4 e5
  clear hbx
  go_wp2_with fail
  clear e0 e1 e2 e3 e4 e5
  go_ret
  refine ⟨?_, F0.out.trans (B2.out.mono F0.out.size)⟩
  simp only [text22, ← tx_append, tx_name]
  rw [HT0.out]
  rfl

set_option maxHeartbeats 4000000 in
set_option maxRecDepth 100000 in
theorem bare_c20 (hl : ns.length ≤ 300) (hnt : ∀ m ∈ ns, Neat m) (ih : ShowC b off cap ns F) {t : Tp} {W : World} (hF : t.size ≤ F + 1) (hs : Stands ns t) (hx : Ex t) (hb : b < W.heap.size) (hn : NodesAt W b off ns) (ek : t.n.kind = 20) :
    Calls Try.prog 43 #[.slice (some ⟨b, off, none⟩) ns.length cap, .int .i64 (t.at_ : Int)] W (BareP W (text20 (showZ F) t)) := by
  obtain ⟨hlt, hat, hsz⟩ := hs.lt
  have c0 := hn t.at_ hlt 0 (by omega)
  have c1 := hn t.at_ hlt 1 (by omega)
  have c2 := hn t.at_ hlt 2 (by omega)
  have c3 := hn t.at_ hlt 3 (by omega)
  have c4 := hn t.at_ hlt 4 (by omega)
  have c5 := hn t.at_ hlt 5 (by omega)
  rw [hat] at c0 c1 c2 c3 c4 c5
  simp only [Nd.cell, Nat.add_zero] at c0 c1 c2 c3 c4 c5
  rw [ek] at c0
  have hA := (MapKept.heap_alloc W (.cells #[.int .i64 20, .int .i64 t.n.num, .string t.n.a, .string t.n.b, .string t.n.c, .int .i64 t.n.kids] 65)).1
  have hB1 := (Below.refl W.heap.size W).alloc (Nat.le_refl _) (.cells #[.int .i64 20, .int .i64 t.n.num, .string t.n.a, .string t.n.b, .string t.n.c, .int .i64 t.n.kids] 65)
  obtain ⟨Y, hY⟩ : ∃ Y, W.alloc (.cells #[.int .i64 20, .int .i64 t.n.num, .string t.n.a, .string t.n.b, .string t.n.c, .int .i64 t.n.kids] 65) = Y := ⟨_, rfl⟩
  rw [hY] at hA hB1
  have HY := hid hY
  have HA := hid hA
  have F0 := hid hB1
  have B0 := hid (Below.refl Y.heap.size Y)
  have HT := hid (And.intro (Nat.lt_of_lt_of_le hb hB1.size) (hn.below hB1 hb))
  have hgood := hs.toGood
  have HNm := hid (hs.neat hnt)
  have HNt := hid hnt
  have HL := hid hl
  have HF := hid hF
  have HS := hid hs
  have HXE := hid hx
  have HSz : Hid (t.size ≤ 300) := by show _ ≤ _; omega
  have na : t.n.a.size ≤ 8 := HNm.out.a
  have nb : t.n.b.size ≤ 8 := HNm.out.b
  have HC : Hid (t.k.count = 3) := count_of hgood ek (c := 3) rfl
  have HZ : Hid ((t.kid 0).size + (t.kid 1).size + (t.kid 2).size + 1 = t.size ∧ 1 ≤ (t.kid 0).size ∧ 1 ≤ (t.kid 1).size ∧ 1 ≤ (t.kid 2).size) := ⟨(kids3 HC.out).2, (t.kid 0).size_pos, (t.kid 1).size_pos, (t.kid 2).size_pos⟩
  have HIH := hid ih
  have HP1 : Hid (wrap64 ((t.at_ : Int) + 1) = ((t.kid 0).at_ : Int)) := by show _ = _; rw [hs.first (by have := HC.out; omega)]; unfold wrap64; omega
  have hp0 : (0 : Int) ≤ (t.at_ : Int) := by omega
  have hpl : (t.at_ : Int) < (ns.length : Int) := by omega
  clear hA hB1 hY hb hn hlt hat hsz hgood hs hx hl hnt hF ih
  go_enter Try.func43, Try.ntmps43
  go_upto_region 3 with fail
  rw [HY.out]
  rw [HP1.out]
  clear HY c0 c1 c2 c3 c4 c5
  have hbx := (B0.out.block W.heap.size (heap_lt HA.out)).trans HA.out
  have e0 := cell_of_heap hbx 0
  have e1 := cell_of_heap hbx 1
  have e2 := cell_of_heap hbx 2
  have e3 := cell_of_heap hbx 3
  have e4 := cell_of_heap hbx 4
  have e5 := cell_of_heap hbx 5
  simp at e0 e1 e2 e3 e4 e5
  clear hbx
  go_upto_region 47 with fail
  have hD : Below Y.heap.size Y Y.drew := (Below.refl _ _).drew
  obtain ⟨D, hDe⟩ : ∃ D, Y.drew = D := ⟨_, rfl⟩
  rw [hDe] at hD
  have B1 := hid (B0.out.trans (hD.mono B0.out.size))
  have hq := (B1.out.block W.heap.size (heap_lt HA.out)).trans HA.out
  have hS : (fun w' : World => w'.cell? ⟨W.heap.size, 2, none⟩ = some (.string t.n.a) ∧ w'.cell? ⟨W.heap.size, 3, none⟩ = some (.string t.n.b)) D := ⟨cell_of_heap hq 2, cell_of_heap hq 3⟩
  clear hq
  refine pick_begin (S := fun w' => w'.cell? ⟨W.heap.size, 2, none⟩ = some (.string t.n.a) ∧ w'.cell? ⟨W.heap.size, 3, none⟩ = some (.string t.n.b)) (by kernel_rfl) rfl rfl ?_
  rw [hDe]
  clear hDe hD
  clear e0 e1 e2 e3 e4 e5
  refine pick_op (i := 0) (v := .slice (some ⟨b, off, none⟩) ns.length cap) (by kernel_rfl) rfl (by kernel_rfl) (by kernel_rfl) rfl rfl (fun w' _ => by simp [go_sem]) hS (by simp [go_sem]; exact rfl) ?_
  refine pick_op (i := 1) (v := .int .i64 ((t.kid 0).at_ : Int)) (by kernel_rfl) rfl (by kernel_rfl) (by kernel_rfl) rfl rfl (fun w' _ => by simp [go_sem]) hS (by simp [go_sem]; exact rfl) ?_
  refine pick_op (i := 5) (v := .slice (some ⟨b, off, none⟩) ns.length cap) (by kernel_rfl) rfl (by kernel_rfl) (by kernel_rfl) rfl rfl (fun w' _ => by simp [go_sem]) hS (by simp [go_sem]; exact rfl) ?_
  refine pick_op (i := 6) (v := .slice (some ⟨b, off, none⟩) ns.length cap) (by kernel_rfl) rfl (by kernel_rfl) (by kernel_rfl) rfl rfl (fun w' _ => by simp [go_sem]) hS (by simp [go_sem]; exact rfl) ?_
  refine pick_op (i := 7) (v := .int .i64 (t.at_ : Int)) (by kernel_rfl) rfl (by kernel_rfl) (by kernel_rfl) rfl rfl (fun w' _ => by simp [go_sem]) hS (by simp [go_sem]; exact rfl) ?_
  refine pick_op (i := 12) (v := .pointer (some ⟨W.heap.size, 2, none⟩)) (by kernel_rfl) rfl (by kernel_rfl) (by kernel_rfl) rfl rfl (fun w' _ => by simp [go_sem]) hS (by simp [go_sem]; exact rfl) ?_
  refine pick_op (i := 13) (v := .string t.n.a) (by kernel_rfl) rfl (by kernel_rfl) (by kernel_rfl) rfl rfl (fun w' h => by simp [go_sem, h.1]) hS (by simp [go_sem]; exact rfl) ?_
  refine pick_op (i := 16) (v := .pointer (some ⟨W.heap.size, 3, none⟩)) (by kernel_rfl) rfl (by kernel_rfl) (by kernel_rfl) rfl rfl (fun w' _ => by simp [go_sem]) hS (by simp [go_sem]; exact rfl) ?_
  refine pick_op (i := 17) (v := .string t.n.b) (by kernel_rfl) rfl (by kernel_rfl) (by kernel_rfl) rfl rfl (fun w' h => by simp [go_sem, h.2]) hS (by simp [go_sem]; exact rfl) ?_
  refine pick_op (i := 20) (v := .slice (some ⟨b, off, none⟩) ns.length cap) (by kernel_rfl) rfl (by kernel_rfl) (by kernel_rfl) rfl rfl (fun w' _ => by simp [go_sem]) hS (by simp [go_sem]; exact rfl) ?_
  refine pick_op (i := 21) (v := .slice (some ⟨b, off, none⟩) ns.length cap) (by kernel_rfl) rfl (by kernel_rfl) (by kernel_rfl) rfl rfl (fun w' _ => by simp [go_sem]) hS (by simp [go_sem]; exact rfl) ?_
  refine pick_op (i := 22) (v := .int .i64 (t.at_ : Int)) (by kernel_rfl) rfl (by kernel_rfl) (by kernel_rfl) rfl rfl (fun w' _ => by simp [go_sem]) hS (by simp [go_sem]; exact rfl) ?_
  refine pick_enter (i := 2) (f := 28) (args := #[.slice (some ⟨b, off, none⟩) ns.length cap, .int .i64 ((t.kid 0).at_ : Int), .int .i64 0]) rfl (by kernel_rfl) rfl rfl (by simp [go_sem]) ?_
  refine (HIH.out (t.kid 0) 0 D (by have := HZ.out; have := HF.out; omega) (HS.out.kid (by have := HC.out; omega)) (HXE.out.1.ex (by have := HC.out; omega) (role_plain (by omega) _)) (Nat.lt_of_lt_of_le HT.out.1 B1.out.size) (HT.out.2.below B1.out HT.out.1)).mono ?_
  rintro e X2 ⟨rfl, hb2⟩
  obtain ⟨T0, hT0⟩ : ∃ T, showZ F (t.kid 0) 0 = T := ⟨_, rfl⟩
  have HT0 := hid hT0
  have hl0 : (tx T0).size ≤ 18000 := by rw [tx_size, ← hT0]; have h1 := (bare_len HNt.out F).1 (t.kid 0) 0 (by have := HZ.out; have := HF.out; omega) (HS.out.kid (by have := HC.out; omega)) (HXE.out.1.ex (by have := HC.out; omega) (role_plain (by omega) _)); have := HZ.out; have := HSz.out; omega
  rw [hT0]
  clear hT0
  have B2 := hid (B1.out.trans (hb2.mono B1.out.size))
  clear hb2 hS
  have hq := (B2.out.block W.heap.size (heap_lt HA.out)).trans HA.out
  have hS : (fun w' : World => w'.cell? ⟨W.heap.size, 2, none⟩ = some (.string t.n.a) ∧ w'.cell? ⟨W.heap.size, 3, none⟩ = some (.string t.n.b)) X2 := ⟨cell_of_heap hq 2, cell_of_heap hq 3⟩
  clear hq
  refine ⟨_, rfl, hS, ?_⟩
  refine pick_frame (by simp [go_sem]; exact rfl) ?_
  refine pick_op (i := 3) (v := .string ((⟨#[99, 97, 115, 101, 32]⟩ : ByteArray) ++ tx T0)) (by kernel_rfl) rfl (by kernel_rfl) (by kernel_rfl) rfl rfl (fun w' _ => by simp [go_sem]; omega) hS (by simp [go_sem]; exact rfl) ?_
  refine pick_op (i := 4) (v := .string (((⟨#[99, 97, 115, 101, 32]⟩ : ByteArray) ++ tx T0) ++ (⟨#[32, 111, 102, 32, 110, 105, 108, 32, 45, 62, 32]⟩ : ByteArray))) (by kernel_rfl) rfl (by kernel_rfl) (by kernel_rfl) rfl rfl (fun w' _ => by simp [go_sem]; omega) hS (by simp [go_sem]; exact rfl) ?_
  refine pick_enter (i := 8) (f := 56) (args := #[.slice (some ⟨b, off, none⟩) ns.length cap, .int .i64 (t.at_ : Int), .int .i64 1]) rfl (by kernel_rfl) rfl rfl (by simp [go_sem]) ?_
  refine (kid_calls (cap := cap) 1 X2 (HT.out.2.below B2.out HT.out.1) HL.out HS.out (by have := HC.out; omega)).mono ?_
  rintro e Xk ⟨rfl, rfl⟩
  refine ⟨_, rfl, hS, ?_⟩
  refine pick_frame (by simp [go_sem]; exact rfl) ?_
  refine pick_enter (i := 9) (f := 28) (args := #[.slice (some ⟨b, off, none⟩) ns.length cap, .int .i64 ((t.kid 1).at_ : Int), .int .i64 0]) rfl (by kernel_rfl) rfl rfl (by simp [go_sem]) ?_
  refine (HIH.out (t.kid 1) 0 X2 (by have := HZ.out; have := HF.out; omega) (HS.out.kid (by have := HC.out; omega)) (HXE.out.1.ex (by have := HC.out; omega) (role_plain (by omega) _)) (Nat.lt_of_lt_of_le HT.out.1 B2.out.size) (HT.out.2.below B2.out HT.out.1)).mono ?_
  rintro e X3 ⟨rfl, hb3⟩
  obtain ⟨T1, hT1⟩ : ∃ T, showZ F (t.kid 1) 0 = T := ⟨_, rfl⟩
  have HT1 := hid hT1
  have hl1 : (tx T1).size ≤ 18000 := by rw [tx_size, ← hT1]; have h1 := (bare_len HNt.out F).1 (t.kid 1) 0 (by have := HZ.out; have := HF.out; omega) (HS.out.kid (by have := HC.out; omega)) (HXE.out.1.ex (by have := HC.out; omega) (role_plain (by omega) _)); have := HZ.out; have := HSz.out; omega
  rw [hT1]
  clear hT1
  have B3 := hid (B2.out.trans (hb3.mono B2.out.size))
  clear hb3 hS
  have hq := (B3.out.block W.heap.size (heap_lt HA.out)).trans HA.out
  have hS : (fun w' : World => w'.cell? ⟨W.heap.size, 2, none⟩ = some (.string t.n.a) ∧ w'.cell? ⟨W.heap.size, 3, none⟩ = some (.string t.n.b)) X3 := ⟨cell_of_heap hq 2, cell_of_heap hq 3⟩
  clear hq
  refine ⟨_, rfl, hS, ?_⟩
  refine pick_frame (by simp [go_sem]; exact rfl) ?_
  refine pick_op (i := 10) (v := .string ((((⟨#[99, 97, 115, 101, 32]⟩ : ByteArray) ++ tx T0) ++ (⟨#[32, 111, 102, 32, 110, 105, 108, 32, 45, 62, 32]⟩ : ByteArray)) ++ tx T1)) (by kernel_rfl) rfl (by kernel_rfl) (by kernel_rfl) rfl rfl (fun w' _ => by simp [go_sem]; omega) hS (by simp [go_sem]; exact rfl) ?_
  refine pick_op (i := 11) (v := .string (((((⟨#[99, 97, 115, 101, 32]⟩ : ByteArray) ++ tx T0) ++ (⟨#[32, 111, 102, 32, 110, 105, 108, 32, 45, 62, 32]⟩ : ByteArray)) ++ tx T1) ++ (⟨#[32, 124, 32]⟩ : ByteArray))) (by kernel_rfl) rfl (by kernel_rfl) (by kernel_rfl) rfl rfl (fun w' _ => by simp [go_sem]; omega) hS (by simp [go_sem]; exact rfl) ?_
  refine pick_op (i := 14) (v := .string ((((((⟨#[99, 97, 115, 101, 32]⟩ : ByteArray) ++ tx T0) ++ (⟨#[32, 111, 102, 32, 110, 105, 108, 32, 45, 62, 32]⟩ : ByteArray)) ++ tx T1) ++ (⟨#[32, 124, 32]⟩ : ByteArray)) ++ t.n.a)) (by kernel_rfl) rfl (by kernel_rfl) (by kernel_rfl) rfl rfl (fun w' _ => by simp [go_sem]; omega) hS (by simp [go_sem]; exact rfl) ?_
  refine pick_op (i := 15) (v := .string (((((((⟨#[99, 97, 115, 101, 32]⟩ : ByteArray) ++ tx T0) ++ (⟨#[32, 111, 102, 32, 110, 105, 108, 32, 45, 62, 32]⟩ : ByteArray)) ++ tx T1) ++ (⟨#[32, 124, 32]⟩ : ByteArray)) ++ t.n.a) ++ (⟨#[32, 58, 58, 32]⟩ : ByteArray))) (by kernel_rfl) rfl (by kernel_rfl) (by kernel_rfl) rfl rfl (fun w' _ => by simp [go_sem]; omega) hS (by simp [go_sem]; exact rfl) ?_
  refine pick_op (i := 18) (v := .string ((((((((⟨#[99, 97, 115, 101, 32]⟩ : ByteArray) ++ tx T0) ++ (⟨#[32, 111, 102, 32, 110, 105, 108, 32, 45, 62, 32]⟩ : ByteArray)) ++ tx T1) ++ (⟨#[32, 124, 32]⟩ : ByteArray)) ++ t.n.a) ++ (⟨#[32, 58, 58, 32]⟩ : ByteArray)) ++ t.n.b)) (by kernel_rfl) rfl (by kernel_rfl) (by kernel_rfl) rfl rfl (fun w' _ => by simp [go_sem]; omega) hS (by simp [go_sem]; exact rfl) ?_
  refine pick_op (i := 19) (v := .string (((((((((⟨#[99, 97, 115, 101, 32]⟩ : ByteArray) ++ tx T0) ++ (⟨#[32, 111, 102, 32, 110, 105, 108, 32, 45, 62, 32]⟩ : ByteArray)) ++ tx T1) ++ (⟨#[32, 124, 32]⟩ : ByteArray)) ++ t.n.a) ++ (⟨#[32, 58, 58, 32]⟩ : ByteArray)) ++ t.n.b) ++ (⟨#[32, 45, 62, 32]⟩ : ByteArray))) (by kernel_rfl) rfl (by kernel_rfl) (by kernel_rfl) rfl rfl (fun w' _ => by simp [go_sem]; omega) hS (by simp [go_sem]; exact rfl) ?_
  refine pick_enter (i := 23) (f := 56) (args := #[.slice (some ⟨b, off, none⟩) ns.length cap, .int .i64 (t.at_ : Int), .int .i64 2]) rfl (by kernel_rfl) rfl rfl (by simp [go_sem]) ?_
  refine (kid_calls (cap := cap) 2 X3 (HT.out.2.below B3.out HT.out.1) HL.out HS.out (by have := HC.out; omega)).mono ?_
  rintro e Xk ⟨rfl, rfl⟩
  refine ⟨_, rfl, hS, ?_⟩
  refine pick_frame (by simp [go_sem]; exact rfl) ?_
  refine pick_enter (i := 24) (f := 28) (args := #[.slice (some ⟨b, off, none⟩) ns.length cap, .int .i64 ((t.kid 2).at_ : Int), .int .i64 0]) rfl (by kernel_rfl) rfl rfl (by simp [go_sem]) ?_
  refine (HIH.out (t.kid 2) 0 X3 (by have := HZ.out; have := HF.out; omega) (HS.out.kid (by have := HC.out; omega)) (HXE.out.1.ex (by have := HC.out; omega) (role_plain (by omega) _)) (Nat.lt_of_lt_of_le HT.out.1 B3.out.size) (HT.out.2.below B3.out HT.out.1)).mono ?_
  rintro e X4 ⟨rfl, hb4⟩
  obtain ⟨T2, hT2⟩ : ∃ T, showZ F (t.kid 2) 0 = T := ⟨_, rfl⟩
  have HT2 := hid hT2
  have hl2 : (tx T2).size ≤ 18000 := by rw [tx_size, ← hT2]; have h1 := (bare_len HNt.out F).1 (t.kid 2) 0 (by have := HZ.out; have := HF.out; omega) (HS.out.kid (by have := HC.out; omega)) (HXE.out.1.ex (by have := HC.out; omega) (role_plain (by omega) _)); have := HZ.out; have := HSz.out; omega
  rw [hT2]
  clear hT2
  have B4 := hid (B3.out.trans (hb4.mono B3.out.size))
  clear hb4 hS
  have hq := (B4.out.block W.heap.size (heap_lt HA.out)).trans HA.out
  have hS : (fun w' : World => w'.cell? ⟨W.heap.size, 2, none⟩ = some (.string t.n.a) ∧ w'.cell? ⟨W.heap.size, 3, none⟩ = some (.string t.n.b)) X4 := ⟨cell_of_heap hq 2, cell_of_heap hq 3⟩
  clear hq
  refine ⟨_, rfl, hS, ?_⟩
  refine pick_frame (by simp [go_sem]; exact rfl) ?_
  refine pick_op (i := 25) (v := .string ((((((((((⟨#[99, 97, 115, 101, 32]⟩ : ByteArray) ++ tx T0) ++ (⟨#[32, 111, 102, 32, 110, 105, 108, 32, 45, 62, 32]⟩ : ByteArray)) ++ tx T1) ++ (⟨#[32, 124, 32]⟩ : ByteArray)) ++ t.n.a) ++ (⟨#[32, 58, 58, 32]⟩ : ByteArray)) ++ t.n.b) ++ (⟨#[32, 45, 62, 32]⟩ : ByteArray)) ++ tx T2)) (by kernel_rfl) rfl (by kernel_rfl) (by kernel_rfl) rfl rfl (fun w' _ => by simp [go_sem]; omega) hS (by simp [go_sem]; exact rfl) ?_
  refine pick_op (i := 26) (v := .string ((((((((((⟨#[99, 97, 115, 101, 32]⟩ : ByteArray) ++ tx T0) ++ (⟨#[32, 111, 102, 32, 110, 105, 108, 32, 45, 62, 32]⟩ : ByteArray)) ++ tx T1) ++ (⟨#[32, 124, 32]⟩ : ByteArray)) ++ t.n.a) ++ (⟨#[32, 58, 58, 32]⟩ : ByteArray)) ++ t.n.b) ++ (⟨#[32, 45, 62, 32]⟩ : ByteArray)) ++ tx T2)) (by kernel_rfl) rfl (by kernel_rfl) (by kernel_rfl) rfl rfl (fun w' _ => by simp [go_sem]) hS (by simp [go_sem]; exact rfl) ?_
  refine pick_end (by kernel_rfl) ?_
  clear hS
  have hbx := (B4.out.block W.heap.size (heap_lt HA.out)).trans HA.out
  have e0 := cell_of_heap hbx 0
  have e1 := cell_of_heap hbx 1
  have e2 := cell_of_heap hbx 2
  have e3 := cell_of_heap hbx 3
  have e4 := cell_of_heap hbx 4
  have e5 := cell_of_heap hbx 5
  simp at e0 e1 e2 e3 e4 e5
  clear hbx
  go_wp2_with fail
  clear e0 e1 e2 e3 e4 e5
  go_ret
  refine ⟨?_, F0.out.trans (B4.out.mono F0.out.size)⟩
  simp only [text20, ← tx_append, tx_name]
  rw [HT0.out]
  rw [HT1.out]
  rw [HT2.out]
  rfl

end
end Go.Proofs.Ytnhofdngmbnlkaa
