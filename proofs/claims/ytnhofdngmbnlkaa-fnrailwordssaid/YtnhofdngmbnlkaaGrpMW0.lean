/- The specification's text of a program. -/
import Derived.Test.YtnhofdngmbnlkaaShowAll
import Derived.Test.YtnhofdngmbnlkaaSpecProgN
import Derived.Test.YtnhofdngmbnlkaaRows
import Derived.WalkKit
import Derived.ProofKit
import Derived.Laws.Bits64
import Derived.Test.YtnhofdngmbnlkaaOwnRow
import Derived.Test.YtnhofdngmbnlkaaNodeArgs
import Derived.Maps.AppendAt
import Derived.OwnWalk
import Derived.Test.YtnhofdngmbnlkaaSpecDeep
import Derived.Test.YtnhofdngmbnlkaaStagesG
import Derived.BigQuiet
import Derived.Test.YtnhofdngmbnlkaaEffWalks
import Derived.Deep.Cut
namespace Go.Proofs.Ytnhofdngmbnlkaa
open Go.RowKit Go.Deep

def baseT (k : Int) : List UInt8 := if k = 1 then [105, 110, 116] else if k = 2 then [98, 111, 111, 108] else if k = 3 then [117, 110, 105, 116] else [108, 105, 115, 116]
def effT (e : Ef) : List UInt8 := [101, 102, 102, 101, 99, 116, 32] ++ e.name.data.toList ++ [32, 58, 32] ++ baseT e.arg ++ [32, 61, 62, 32] ++ baseT e.res ++ [32, 59, 32]
def effsT (es : List Ef) (i : Nat) : List UInt8 := (es.take i).flatMap effT
def progT (es : List Ef) (n : Nd) (k : Fo) : List UInt8 := es.flatMap effT ++ showZ 400 ⟨n, k, 0⟩ 0

theorem base_len (k : Int) : (baseT k).length ≤ 4 := by
  unfold baseT
  repeat' split
  all_goals simp

theorem base_lenX (k : Int) : (tx (baseT k)).size ≤ 4 := by rw [tx_size]; exact base_len k

theorem fit_short {nm : Int} {i : Nat} {s : ByteArray} (h : fit nm i s = true) : s.size ≤ 8 := by
  unfold fit at h
  split at h
  · simp only [nameOk, Bool.and_eq_true, decide_eq_true_eq] at h
    exact h.1.1.2
  · have h1 : s.toList = [] := by simpa using h
    rw [ByteArray.toList_eq] at h1
    have h2 := congrArg List.length h1
    simp at h2
    show s.data.size ≤ 8
    rw [h2]
    exact Nat.zero_le _

theorem neat_own {m : Nd} (h : ownOk m = true) : Neat m := by
  simp only [ownOk, namesOk, Bool.and_eq_true] at h
  obtain ⟨-, ⟨ha, hb, hc⟩, -, hnum⟩ := h
  have h2 := of_decide_eq_true hnum
  refine ⟨fit_short ha, fit_short hb, fit_short hc, fun e => ?_, fun e => ?_⟩
  · rw [e] at h2
    have : mostZ 1 = 999999999 := by decide
    omega
  · rw [e] at h2
    have : mostZ 2 = 1 := by decide
    omega

/-- What is known of a tree that is right. -/
theorem right_of {ns : List Nd} (hA : SpecAns ns true) : ∃ (n : Nd) (k : Fo), ns = n :: k.flat ∧ n.kids = k.count ∧ k.wf ∧ ns.length ≤ 300 ∧ Stands ns ⟨n, k, 0⟩ ∧ Ex ⟨n, k, 0⟩ ∧ ∀ m ∈ ns, Neat m := by
  have hA' := hA
  rcases hA with ⟨-, h⟩ | ⟨-, -, -, h⟩ | ⟨-, hl, n, k, e1, e2, e3, hR⟩
  · cases h
  · cases h
  have hR' := hR.symm
  rw [Bool.and_eq_true, Bool.and_eq_true] at hR'
  obtain ⟨ho, -, hs⟩ := hR'
  unfold specTree at hs
  rw [Bool.and_eq_true] at hs
  exact ⟨n, k, e1, e2, e3, hl, stands_of hA' e1 e2 e3, ⟨hs.2, head_none hs.1⟩, fun m hm => neat_own (List.all_eq_true.1 ho m hm)⟩

set_option maxRecDepth 100000 in
theorem base2_calls (k : Int) (h0 : 1 ≤ k) (h1 : k ≤ 4) (W : World) : Calls Try.prog 27 #[.int .i64 k] W fun e W' => e = .returned (.string (tx (baseT k))) ∧ Below W.heap.size W W' := by
  have h : k = 1 ∨ k = 2 ∨ k = 3 ∨ k = 4 := by omega
  clear h0 h1
  have hb (o : Obj) : Below W.heap.size W (W.alloc o) := (Below.refl _ _).alloc (Nat.le_refl _) _
  rcases h with rfl | rfl | rfl | rfl
  all_goals
    go_enter Try.func27, Try.ntmps27
    go_wp2_with fail
    go_ret
    exact ⟨rfl, hb _⟩

theorem effs_next {es : List Ef} {i : Nat} (h : i < es.length) : effsT es (i + 1) = effsT es i ++ effT (es.getD i default) := by
  unfold effsT
  rw [List.take_add_one, List.flatMap_append]
  simp [List.getD, h]

theorem effs_len {es : List Ef} (h : ∀ i, i < es.length → (es.getD i default).name.size ≤ 8) : ∀ i, i ≤ es.length → (effsT es i).length ≤ 40 * i
  | 0, _ => by simp [effsT]
  | i + 1, hi => by
    have ih := effs_len h i (by omega)
    have h1 := name_len (h i (by omega))
    have b1 := base_len (es.getD i default).arg
    have b2 := base_len (es.getD i default).res
    rw [effs_next (by omega)]
    simp only [effT, List.length_append, List.length_cons, List.length_nil]
    omega

theorem eff_right {es : List Ef} {i : Nat} (h : effOk es i = true) : (es.getD i default).name.size ≤ 8 ∧ 1 ≤ (es.getD i default).arg ∧ (es.getD i default).arg ≤ 4 ∧ 1 ≤ (es.getD i default).res ∧ (es.getD i default).res ≤ 4 := by
  unfold effOk at h
  simp only [nameOk, Bool.and_eq_true, decide_eq_true_eq] at h
  exact ⟨h.1.1.1.2, h.2.2.1.1, h.2.2.1.2, h.2.2.2.1, h.2.2.2.2⟩

def TextP (W : World) (T : List UInt8) (e : Ending) (W' : World) : Prop := e = .returned (.string (tx T)) ∧ Below W.heap.size W W'

set_option maxHeartbeats 8000000 in
set_option maxRecDepth 100000 in
theorem progText_calls {W : World} {ae : Option Addr} {ce bt cn : Nat} {es : List Ef} {ns : List Nd} {T : Bool} (hE : EffW W ae ce es) (hel : es.length ≤ 1000) (hbt : bt < W.heap.size) (hN : NodesAt W bt 0 ns) (hl : ns.length ≤ 300) (hA : SpecAns ns T) :
    (progZ es ns T = false → Calls Try.prog 11 #[.agg #[.slice ae es.length ce, .slice (some ⟨bt, 0, none⟩) ns.length cn]] W (TextP W [])) ∧
    (progZ es ns T = true → ∀ n k, ns = n :: k.flat → n.kids = k.count → k.wf → Calls Try.prog 11 #[.agg #[.slice ae es.length ce, .slice (some ⟨bt, 0, none⟩) ns.length cn]] W (TextP W (progT es n k))) := by
  have hA1 := (MapKept.heap_alloc W (.cells #[.slice ae es.length ce, .slice (some ⟨bt, 0, none⟩) ns.length cn] 45)).1
  have hB1 := (Below.refl W.heap.size W).alloc (Nat.le_refl _) (.cells #[.slice ae es.length ce, .slice (some ⟨bt, 0, none⟩) ns.length cn] 45)
  obtain ⟨Y, hY⟩ : ∃ Y, W.alloc (.cells #[.slice ae es.length ce, .slice (some ⟨bt, 0, none⟩) ns.length cn] 45) = Y := ⟨_, rfl⟩
  rw [hY] at hA1 hB1
  have HP := hid (progOk_at (cn := cn) (hE.below hB1) hel (Nat.lt_of_lt_of_le hbt hB1.size) (hN.below hB1 hbt) hl hA)
  have HY := hid hY
  have HA := hid hA1
  have HB1 := hid hB1
  have HE := hid hE
  have HN := hid (And.intro hbt hN)
  have HL := hid (And.intro hel hl)
  have HSA := hid hA
  have e0 := cell_of_heap HA.out 0
  have e1 := cell_of_heap HA.out 1
  simp at e0 e1
  clear hE hel hbt hN hl hA hA1 hB1 hY
  refine ⟨fun hR => ?_, fun hR n k g1 g2 g3 => ?_⟩
  · rw [hR] at HP
    clear hR
    go_enter Try.func11, Try.ntmps11
    go_upto_region 1 with fail
    rw [HY.out]
    clear HY
    go_wp2_with fail
    refine HP.out.mono ?_
    rintro e X1 ⟨rfl, hb2⟩
    have HB2 := hid (HB1.out.trans (hb2.mono HB1.out.size))
    clear hb2
    go_wp2_with fail
    go_ret
    exact ⟨rfl, HB2.out⟩
  · have hT : T = true := by
      unfold progZ at hR
      simp only [Bool.and_eq_true] at hR
      exact hR.2.1
    have hef : ∀ i, i < es.length → effOk es i = true := by
      unfold progZ at hR
      simp only [Bool.and_eq_true] at hR
      exact fun i hi => List.all_eq_true.1 hR.2.2.1 i (List.mem_range.2 hi)
    have he8 : es.length ≤ 8 := by
      unfold progZ at hR
      simp only [Bool.and_eq_true, decide_eq_true_eq] at hR
      exact hR.1
    subst hT
    rw [hR] at HP
    have HEf := hid (fun i hi => eff_right (hef i hi))
    have HE8 := hid he8
    have HTl := hid (fun i hi => effs_len (fun i hi => (eff_right (hef i hi)).1) i hi)
    have HG := hid (And.intro g1 (And.intro g2 g3))
    obtain ⟨n', k', f1, f2, f3, -, hst, hex, hne⟩ := right_of HSA.out
    obtain ⟨rfl, rfl⟩ := tree_inj g1 g2 g3 f1 f2 f3
    have HSh := hid (fun (X : World) (hX : Below W.heap.size W X) => show_all (cap := cn) HL.out.2 hne 400 ⟨n', k', 0⟩ 0 X (by have := hst.lt.2.2; have := HL.out.2; omega) hst hex (Nat.lt_of_lt_of_le HN.out.1 hX.size) (HN.out.2.below hX HN.out.1))
    have hsl := (bare_len hne 400).1 ⟨n', k', 0⟩ 0 (by have := hst.lt.2.2; have := HL.out.2; omega) hst hex
    have hss := hst.lt.2.2
    obtain ⟨TS, hTS⟩ : ∃ T, showZ 400 ⟨n', k', 0⟩ 0 = T := ⟨_, rfl⟩
    rw [hTS] at HSh hsl
    have lts : (tx TS).size ≤ 18000 := by rw [tx_size]; have := HL.out.2; omega
    have HTS : Hid (progT es n' k' = effsT es es.length ++ TS) := by show _ = _; unfold progT effsT; rw [hTS, List.take_length]
    rw [HTS.out]
    clear hR hef he8 g1 g2 g3 f1 f2 f3 hst hex hne hsl hss hTS
    go_enter Try.func11, Try.ntmps11
    go_upto_region 1 with fail
    rw [HY.out]
    clear HY
    go_wp2_with fail
    refine HP.out.mono ?_
    rintro e X1 ⟨rfl, hb2⟩
    have HB2 := hid (HB1.out.trans (hb2.mono HB1.out.size))
    have HA2 := hid ((hb2.block W.heap.size (heap_lt HA.out)).trans HA.out)
    clear hb2 HP e0 e1
    go_wp2_with fail
    go_loopw [3, 4] (fun out i wr => ∃ j : Nat, j ≤ es.length ∧ out = .string (tx (effsT es j)) ∧ i = .int .i64 (j : Int) ∧ Hid (Below X1.heap.size X1 wr)) (fun _ i _ => es.length - (intOf i).toNat)
    case atStart => exact ⟨0, Nat.zero_le _, rfl, rfl, Below.refl _ _⟩
    case round =>
      obtain ⟨j, hj, rfl, rfl, HBr⟩ := hrel
      have hpb := (HBr.out.block W.heap.size (heap_lt HA2.out)).trans HA2.out
      have e0 := cell_of_heap hpb 0
      have e1 := cell_of_heap hpb 1
      simp at e0 e1
      have HPb := hid hpb
      clear hpb
      have hol := HTl.out j hj
      obtain ⟨TO, hTO⟩ : ∃ T, effsT es j = T := ⟨_, rfl⟩
      rw [hTO] at hol ⊢
      have HTO := hid hTO
      have lo : (tx TO).size ≤ 400 := by rw [tx_size]; have := HE8.out; omega
      clear hol hTO
      by_cases hlt : (j : Int) < (es.length : Int)
      · have hjl : j < es.length := by omega
        obtain ⟨be, hae, hbe, hEA⟩ : ∃ be, ae = some ⟨be, 0, none⟩ ∧ be < W.heap.size ∧ EffsAt W be 0 es := by
          rcases HE.out with ⟨-, h, -⟩ | ⟨be, h1, h2, h3, -⟩
          · rw [h] at hjl
            simp at hjl
          · exact ⟨be, h1, h2, h3⟩
        subst hae
        have hEr := hEA.below (HB2.out.trans (HBr.out.mono HB2.out.size)) hbe
        have c0 := hEr j hjl 0 (by omega)
        have c1 := hEr j hjl 1 (by omega)
        have c2 := hEr j hjl 2 (by omega)
        obtain ⟨r1, r2, r3, r4, r5⟩ := HEf.out j hjl
        have hnx := effs_next hjl
        obtain ⟨⟨nm, ag, rs⟩, hee⟩ : ∃ x, es.getD j default = x := ⟨_, rfl⟩
        rw [hee] at c0 c1 c2 r1 r2 r3 r4 r5 hnx
        simp only [Ef.cell, Nat.add_zero, Nat.zero_add] at c0 c1 c2
        dsimp only at r1 r2 r3 r4 r5
        have HNx := hid hnx
        have HRg := hid (And.intro r2 (And.intro r3 (And.intro r4 r5)))
        have hj0 : (0 : Int) ≤ (j : Int) := by omega
        have hstep : es.length - (intOf (.int .i64 ((j + 1 : Nat) : Int))).toNat < es.length - (intOf (.int .i64 (j : Int))).toNat := by simp only [intOf, Int.toNat_natCast]; omega
        have hA5 := (MapKept.heap_alloc wr (.cells #[.string nm, .int .i64 ag, .int .i64 rs] 60)).1
        have hB5 := (Below.refl wr.heap.size wr).alloc (Nat.le_refl _) (.cells #[.string nm, .int .i64 ag, .int .i64 rs] 60)
        obtain ⟨V, hV⟩ : ∃ V, wr.alloc (.cells #[.string nm, .int .i64 ag, .int .i64 rs] 60) = V := ⟨_, rfl⟩
        rw [hV] at hA5 hB5
        have HV := hid hV
        have HA5 := hid hA5
        have HB5 := hid (HBr.out.trans (hB5.mono HBr.out.size))
        clear hA5 hB5 hV hEr hEA hbe hjl hee hnx r2 r3 r4 r5 hj
        go_upto_region 8 with fail
        rw [HV.out]
        clear HV c0 c1 c2 e0 e1
        have hD : Below V.heap.size V V.drew := (Below.refl _ _).drew
        obtain ⟨D, hDe⟩ : ∃ D, V.drew = D := ⟨_, rfl⟩
        rw [hDe] at hD
        have BD := hid (HB5.out.trans (hD.mono HB5.out.size))
        have AD := hid ((hD.block wr.heap.size (heap_lt HA5.out)).trans HA5.out)
        have hS : (fun w' : World => w'.cell? ⟨wr.heap.size, 0, none⟩ = some (.string nm) ∧ w'.cell? ⟨wr.heap.size, 1, none⟩ = some (.int .i64 ag) ∧ w'.cell? ⟨wr.heap.size, 2, none⟩ = some (.int .i64 rs)) D := ⟨cell_of_heap AD.out 0, cell_of_heap AD.out 1, cell_of_heap AD.out 2⟩
        refine pick_begin (S := fun w' => w'.cell? ⟨wr.heap.size, 0, none⟩ = some (.string nm) ∧ w'.cell? ⟨wr.heap.size, 1, none⟩ = some (.int .i64 ag) ∧ w'.cell? ⟨wr.heap.size, 2, none⟩ = some (.int .i64 rs)) (by kernel_rfl) rfl rfl ?_
        rw [hDe]
        clear hDe hD
        refine pick_op (i := 0) (v := .string (tx TO)) (by kernel_rfl) rfl (by kernel_rfl) (by kernel_rfl) rfl rfl (fun w' _ => by simp [go_sem]) hS (by simp [go_sem]; exact rfl) ?_
        refine pick_op (i := 1) (v := .string (tx TO ++ (⟨#[101, 102, 102, 101, 99, 116, 32]⟩ : ByteArray))) (by kernel_rfl) rfl (by kernel_rfl) (by kernel_rfl) rfl rfl (fun w' _ => by simp [go_sem]; omega) hS (by simp [go_sem]; exact rfl) ?_
        refine pick_op (i := 2) (v := .pointer (some ⟨wr.heap.size, 0, none⟩)) (by kernel_rfl) rfl (by kernel_rfl) (by kernel_rfl) rfl rfl (fun w' _ => by simp [go_sem]) hS (by simp [go_sem]; exact rfl) ?_
        refine pick_op (i := 3) (v := .string nm) (by kernel_rfl) rfl (by kernel_rfl) (by kernel_rfl) rfl rfl (fun w' h => by simp [go_sem, h.1]) hS (by simp [go_sem]; exact rfl) ?_
        refine pick_op (i := 4) (v := .string ((tx TO ++ (⟨#[101, 102, 102, 101, 99, 116, 32]⟩ : ByteArray)) ++ nm)) (by kernel_rfl) rfl (by kernel_rfl) (by kernel_rfl) rfl rfl (fun w' _ => by simp [go_sem]; omega) hS (by simp [go_sem]; exact rfl) ?_
        refine pick_op (i := 5) (v := .string (((tx TO ++ (⟨#[101, 102, 102, 101, 99, 116, 32]⟩ : ByteArray)) ++ nm) ++ (⟨#[32, 58, 32]⟩ : ByteArray))) (by kernel_rfl) rfl (by kernel_rfl) (by kernel_rfl) rfl rfl (fun w' _ => by simp [go_sem]; omega) hS (by simp [go_sem]; exact rfl) ?_
        refine pick_op (i := 6) (v := .pointer (some ⟨wr.heap.size, 1, none⟩)) (by kernel_rfl) rfl (by kernel_rfl) (by kernel_rfl) rfl rfl (fun w' _ => by simp [go_sem]) hS (by simp [go_sem]; exact rfl) ?_
        refine pick_op (i := 7) (v := .int .i64 ag) (by kernel_rfl) rfl (by kernel_rfl) (by kernel_rfl) rfl rfl (fun w' h => by simp [go_sem, h.2.1]) hS (by simp [go_sem]; exact rfl) ?_
        refine pick_op (i := 11) (v := .pointer (some ⟨wr.heap.size, 2, none⟩)) (by kernel_rfl) rfl (by kernel_rfl) (by kernel_rfl) rfl rfl (fun w' _ => by simp [go_sem]) hS (by simp [go_sem]; exact rfl) ?_
        refine pick_op (i := 12) (v := .int .i64 rs) (by kernel_rfl) rfl (by kernel_rfl) (by kernel_rfl) rfl rfl (fun w' h => by simp [go_sem, h.2.2]) hS (by simp [go_sem]; exact rfl) ?_
        refine pick_enter (i := 8) (f := 27) (args := #[.int .i64 ag]) rfl (by kernel_rfl) rfl rfl (by simp [go_sem]) ?_
        refine (base2_calls ag HRg.out.1 HRg.out.2.1 D).mono ?_
        rintro e E1 ⟨rfl, hb6⟩
        have BE1 := hid (BD.out.trans (hb6.mono BD.out.size))
        have AE1 := hid ((hb6.block wr.heap.size (heap_lt AD.out)).trans AD.out)
        clear hb6 hS
        have hS : (fun w' : World => w'.cell? ⟨wr.heap.size, 0, none⟩ = some (.string nm) ∧ w'.cell? ⟨wr.heap.size, 1, none⟩ = some (.int .i64 ag) ∧ w'.cell? ⟨wr.heap.size, 2, none⟩ = some (.int .i64 rs)) E1 := ⟨cell_of_heap AE1.out 0, cell_of_heap AE1.out 1, cell_of_heap AE1.out 2⟩
        have lb1 := base_lenX ag
        refine ⟨_, rfl, hS, ?_⟩
        refine pick_frame (by simp [go_sem]; exact rfl) ?_
        refine pick_op (i := 9) (v := .string ((((tx TO ++ (⟨#[101, 102, 102, 101, 99, 116, 32]⟩ : ByteArray)) ++ nm) ++ (⟨#[32, 58, 32]⟩ : ByteArray)) ++ tx (baseT ag))) (by kernel_rfl) rfl (by kernel_rfl) (by kernel_rfl) rfl rfl (fun w' _ => by simp [go_sem]; omega) hS (by simp [go_sem]; exact rfl) ?_
        refine pick_op (i := 10) (v := .string (((((tx TO ++ (⟨#[101, 102, 102, 101, 99, 116, 32]⟩ : ByteArray)) ++ nm) ++ (⟨#[32, 58, 32]⟩ : ByteArray)) ++ tx (baseT ag)) ++ (⟨#[32, 61, 62, 32]⟩ : ByteArray))) (by kernel_rfl) rfl (by kernel_rfl) (by kernel_rfl) rfl rfl (fun w' _ => by simp [go_sem]; omega) hS (by simp [go_sem]; exact rfl) ?_
        refine pick_enter (i := 13) (f := 27) (args := #[.int .i64 rs]) rfl (by kernel_rfl) rfl rfl (by simp [go_sem]) ?_
        refine (base2_calls rs HRg.out.2.2.1 HRg.out.2.2.2 E1).mono ?_
        rintro e E2 ⟨rfl, hb7⟩
        have BE2 := hid (BE1.out.trans (hb7.mono BE1.out.size))
        have AE2 := hid ((hb7.block wr.heap.size (heap_lt AE1.out)).trans AE1.out)
        clear hb7 hS
        have hS : (fun w' : World => w'.cell? ⟨wr.heap.size, 0, none⟩ = some (.string nm) ∧ w'.cell? ⟨wr.heap.size, 1, none⟩ = some (.int .i64 ag) ∧ w'.cell? ⟨wr.heap.size, 2, none⟩ = some (.int .i64 rs)) E2 := ⟨cell_of_heap AE2.out 0, cell_of_heap AE2.out 1, cell_of_heap AE2.out 2⟩
        have lb2 := base_lenX rs
        refine ⟨_, rfl, hS, ?_⟩
        refine pick_frame (by simp [go_sem]; exact rfl) ?_
        refine pick_op (i := 14) (v := .string ((((((tx TO ++ (⟨#[101, 102, 102, 101, 99, 116, 32]⟩ : ByteArray)) ++ nm) ++ (⟨#[32, 58, 32]⟩ : ByteArray)) ++ tx (baseT ag)) ++ (⟨#[32, 61, 62, 32]⟩ : ByteArray)) ++ tx (baseT rs))) (by kernel_rfl) rfl (by kernel_rfl) (by kernel_rfl) rfl rfl (fun w' _ => by simp [go_sem]; omega) hS (by simp [go_sem]; exact rfl) ?_
        refine pick_op (i := 15) (v := .string (((((((tx TO ++ (⟨#[101, 102, 102, 101, 99, 116, 32]⟩ : ByteArray)) ++ nm) ++ (⟨#[32, 58, 32]⟩ : ByteArray)) ++ tx (baseT ag)) ++ (⟨#[32, 61, 62, 32]⟩ : ByteArray)) ++ tx (baseT rs)) ++ (⟨#[32, 59, 32]⟩ : ByteArray))) (by kernel_rfl) rfl (by kernel_rfl) (by kernel_rfl) rfl rfl (fun w' _ => by simp [go_sem]; omega) hS (by simp [go_sem]; exact rfl) ?_
        refine pick_op (i := 16) (v := .string (((((((tx TO ++ (⟨#[101, 102, 102, 101, 99, 116, 32]⟩ : ByteArray)) ++ nm) ++ (⟨#[32, 58, 32]⟩ : ByteArray)) ++ tx (baseT ag)) ++ (⟨#[32, 61, 62, 32]⟩ : ByteArray)) ++ tx (baseT rs)) ++ (⟨#[32, 59, 32]⟩ : ByteArray))) (by kernel_rfl) rfl (by kernel_rfl) (by kernel_rfl) rfl rfl (fun w' _ => by simp [go_sem]) hS (by simp [go_sem]; exact rfl) ?_
        refine pick_end (by kernel_rfl) ?_
        clear hS
        have HFn : Hid ((((((((tx TO ++ (⟨#[101, 102, 102, 101, 99, 116, 32]⟩ : ByteArray)) ++ nm) ++ (⟨#[32, 58, 32]⟩ : ByteArray)) ++ tx (baseT ag)) ++ (⟨#[32, 61, 62, 32]⟩ : ByteArray)) ++ tx (baseT rs)) ++ (⟨#[32, 59, 32]⟩ : ByteArray)) = tx (effsT es (j + 1))) := by
          show _ = _
          rw [HNx.out, HTO.out]
          simp only [effT, ← tx_append, tx_name, ByteArray.append_assoc]
          rfl
        rw [HFn.out]
        clear lb1 lb2
        have hpb := (BE2.out.block W.heap.size (heap_lt HA2.out)).trans HA2.out
        have hj9 : Hid (j ≤ 8) := by show _ ≤ _; have := HE8.out; omega
        go_wp2_with fail
        try rw [wrap_succ (by have := hj9.out; omega)]
        exact ⟨⟨j + 1, by omega, rfl, rfl, BE2⟩, hstep⟩
      · have ej : j = es.length := by omega
        have HEq : Hid (effsT es es.length = TO) := by show _ = _; rw [← ej]; exact HTO.out
        clear hj ej
        go_wp2_with fail
        refine (HSh.out wr (HB2.out.trans (HBr.out.mono HB2.out.size))).mono ?_
        rintro e X9 ⟨rfl, hb9⟩
        have HB9 := hid ((HB2.out.trans (HBr.out.mono HB2.out.size)).trans (hb9.mono (HB2.out.trans (HBr.out.mono HB2.out.size)).size))
        clear hb9 e0 e1
        go_wp2_with fail
        go_ret
        refine ⟨?_, HB9.out⟩
        rw [HEq.out]
        simp only [← tx_append]
        rfl
end Go.Proofs.Ytnhofdngmbnlkaa

/- A number drawn out of bytes is from 0 on and below its bound. -/
namespace Go.Proofs.Ytnhofdngmbnlkaa
open Go.RowKit

structure Picked (B : Nat) (p : Nat) (w w' : World) : Prop where
  cell0 : w'.cell? ⟨B, 0, none⟩ = w.cell? ⟨B, 0, none⟩
  cell1 : w'.cell? ⟨B, 1, none⟩ = some (.int .i64 ((p : Int) + 1))
  frozen : w'.frozen? ⟨B, 1, none⟩ = w.frozen? ⟨B, 1, none⟩
  other : ∀ a : Addr, a.block ≠ B → w'.cell? a = w.cell? a
  below : ∀ n, n ≤ B → Below n w w'
  how : w' = w.setCell ⟨B, 1, none⟩ (.int .i64 ((p : Int) + 1)) ∨ w' = (w.setCell ⟨B, 1, none⟩ (.int .i64 ((p : Int) + 1))).drew

theorem picked_set (B p : Nat) (w : World) (h1 : w.cell? ⟨B, 1, none⟩ = some (.int .i64 p)) : Picked B p w (w.setCell ⟨B, 1, none⟩ (.int .i64 ((p : Int) + 1))) where
  cell0 := by simp [go_sem]
  cell1 := World.cell?_setCell_same' _ _ _ (by rw [h1]; rfl)
  frozen := by simp
  other := fun a ha => World.cell?_of_block (w := w) (Below.heap_setCell w _ _ a.block ha)
  below := fun n hn => (Below.refl n w).setCell hn _
  how := Or.inl rfl

theorem picked_drew (B p : Nat) (w : World) (h1 : w.cell? ⟨B, 1, none⟩ = some (.int .i64 p)) : Picked B p w (w.setCell ⟨B, 1, none⟩ (.int .i64 ((p : Int) + 1))).drew where
  cell0 := (picked_set B p w h1).cell0
  cell1 := (picked_set B p w h1).cell1
  frozen := (picked_set B p w h1).frozen
  other := (picked_set B p w h1).other
  below := fun n hn => ((picked_set B p w h1).below n hn).drew
  how := Or.inr rfl

theorem xor_i64 (a b : Nat) (ha : a < 4611686018427387904) (hb : b < 4611686018427387904) :
    bits .xor .i64 (a : Int) (b : Int) = ((a ^^^ b : Nat) : Int) := by
  have hx : a ^^^ b < 2 ^ 62 := Nat.xor_lt_two_pow (by omega) (by omega)
  have h1 : (BitVec.ofInt 64 (a : Int)).toNat = a := by
    rw [BitVec.ofInt_natCast, BitVec.toNat_ofNat]; exact Nat.mod_eq_of_lt (by omega)
  have h2 : (BitVec.ofInt 64 (b : Int)).toNat = b := by
    rw [BitVec.ofInt_natCast, BitVec.toNat_ofNat]; exact Nat.mod_eq_of_lt (by omega)
  show IntKind.i64.wrap ((BitVec.ofInt 64 (a : Int) ^^^ BitVec.ofInt 64 (b : Int)).toNat : Int) = _
  rw [BitVec.toNat_xor, h1, h2, IntKind.wrap_i64]
  omega

def PickPost (B p : Nat) (n : Int) (w : World) (e : Ending) (w' : World) : Prop :=
  (∃ r, e = .returned (.int .i64 r) ∧ 0 ≤ r ∧ (0 < n → r < n)) ∧ Picked B p w w'

set_option maxRecDepth 100000 in
theorem pick_none (B : Nat) (a0 : Option Addr) (len cap : Nat) (p : Nat) (n : Int) (w : World)
    (h0 : w.cell? ⟨B, 0, none⟩ = some (.slice a0 len cap)) (h1 : w.cell? ⟨B, 1, none⟩ = some (.int .i64 p))
    (hfz : w.frozen? ⟨B, 1, none⟩ = false) (hp : p ≤ 1000000) (hn : n < 1 ∨ len = 0) :
    Calls Try.prog 13 #[.pointer (some ⟨B, 0, none⟩), .int .i64 n] w (PickPost B p n w) := by
  have hn' : n < 1 ∨ ((len : Int) == 0) = true := by
    rcases hn with h | h
    · exact Or.inl h
    · exact Or.inr (by simp [h])
  rcases hn' with hn' | hn'
  all_goals
    go_enter Try.func13, Try.ntmps13
    go_wp2
    all_goals
      go_ret
      exact ⟨⟨0, rfl, Int.le_refl _, fun h => h⟩, picked_set B p w h1⟩

set_option maxRecDepth 100000 in
theorem pick_near (B b off : Nat) (len cap : Nat) (p : Nat) (z n : Int) (w : World)
    (h0 : w.cell? ⟨B, 0, none⟩ = some (.slice (some ⟨b, off, none⟩) len cap)) (h1 : w.cell? ⟨B, 1, none⟩ = some (.int .i64 p))
    (hfz : w.frozen? ⟨B, 1, none⟩ = false) (hp : p ≤ 1000000) (hn : 1 ≤ n) (hlt : p < len) (hbB : b ≠ B)
    (hz : w.cell? ⟨b, off + p, none⟩ = some (.int .u8 z)) (hz0 : 0 ≤ z) (hz1 : z ≤ 255) :
    Calls Try.prog 13 #[.pointer (some ⟨B, 0, none⟩), .int .i64 n] w (PickPost B p n w) := by
  have hl : ((len : Int) == 0) = false := by simp; omega
  go_enter Try.func13, Try.ntmps13
  go_wp2
  go_ret
  exact ⟨⟨z % n, rfl, Int.emod_nonneg _ (by omega), fun h => Int.emod_lt_of_pos _ h⟩, picked_set B p w h1⟩

theorem far_sum (z y : Int) (p len : Nat) (hp : p ≤ 1000000) (hz0 : 0 ≤ z) (hz1 : z ≤ 255) (hy0 : 0 ≤ y) (hy1 : y ≤ 255) :
    ∃ x : Nat, x ≤ 1000000000000 ∧ wrap64 (z * 131 + y * 1117 + (p : Int) * 29 + wrap64 (wrap64 ((p : Int) / (len : Int)) * 53)) = (x : Int) := by
  have hq : ((p : Int) / (len : Int)) = ((p / len : Nat) : Int) := by omega
  have hq2 : p / len ≤ p := Nat.div_le_self _ _
  rw [hq]
  generalize p / len = q at hq2
  rw [IntWalk.wrap64_in (q : Int) ⟨by omega, by omega⟩, IntWalk.wrap64_in ((q : Int) * 53) ⟨by omega, by omega⟩, IntWalk.wrap64_in _ ⟨by omega, by omega⟩]
  exact ⟨(z * 131 + y * 1117 + (p : Int) * 29 + (q : Int) * 53).toNat, by omega, by omega⟩

theorem far_nat (x : Nat) (hx : x ≤ 1000000000000) : bits .xor .i64 (x : Int) (wrap64 ((x : Int) / 64)) = ((x ^^^ (x / 64) : Nat) : Int) := by
  rw [show ((x : Int) / 64) = ((x / 64 : Nat) : Int) by omega, IntWalk.wrap64_in _ ⟨by omega, by omega⟩]
  exact xor_i64 _ _ (by omega) (by omega)

theorem far_low (x : Nat) (hx : x ≤ 1000000000000) (n : Int) : 0 ≤ (bits .xor .i64 (x : Int) (wrap64 ((x : Int) / 64))).tmod n := by
  rw [far_nat x hx]
  exact Int.tmod_nonneg _ (Int.natCast_nonneg _)

theorem far_high (x : Nat) (hx : x ≤ 1000000000000) (n : Int) (hn : 0 < n) : (bits .xor .i64 (x : Int) (wrap64 ((x : Int) / 64))).tmod n < n := by
  rw [far_nat x hx]
  exact Int.tmod_lt_of_pos _ hn

set_option maxRecDepth 100000 in
theorem pick_far (B b off : Nat) (len cap : Nat) (p : Nat) (z y n : Int) (w : World)
    (h0 : w.cell? ⟨B, 0, none⟩ = some (.slice (some ⟨b, off, none⟩) len cap)) (h1 : w.cell? ⟨B, 1, none⟩ = some (.int .i64 p))
    (hfz : w.frozen? ⟨B, 1, none⟩ = false) (hp : p ≤ 1000000) (hn : 1 ≤ n) (hl1 : 1 ≤ len) (hlt : len ≤ p) (hbB : b ≠ B)
    (i j : Nat) (hi : ((p : Int)) % (len : Int) = i) (hj : ((p : Int) * 7 + 3) % (len : Int) = j) (hil : i < len) (hjl : j < len)
    (hz : w.cell? ⟨b, off + i, none⟩ = some (.int .u8 z)) (hz0 : 0 ≤ z) (hz1 : z ≤ 255)
    (hy : w.cell? ⟨b, off + j, none⟩ = some (.int .u8 y)) (hy0 : 0 ≤ y) (hy1 : y ≤ 255) :
    Calls Try.prog 13 #[.pointer (some ⟨B, 0, none⟩), .int .i64 n] w (PickPost B p n w) := by
  have hl : ((len : Int) == 0) = false := by simp; omega
  obtain ⟨x, hx, ex⟩ := far_sum z y p len hp hz0 hz1 hy0 hy1
  have hx' : Hid (x ≤ 1000000000000) := hx
  have ex' : Hid (wrap64 (z * 131 + y * 1117 + (p : Int) * 29 + wrap64 (wrap64 ((p : Int) / (len : Int)) * 53)) = (x : Int)) := ex
  clear ex hx
  go_enter Try.func13, Try.ntmps13
  go_wp2
  go_region
  rw [ex'.out]
  go_wp2
  go_ret
  refine ⟨⟨_, rfl, ?_, ?_⟩, picked_drew B p w h1⟩
  · exact far_low x hx'.out n
  · exact far_high x hx'.out n

theorem pick_calls (B : Nat) (a0 : Option Addr) (len cap : Nat) (p : Nat) (n : Int) (w : World)
    (h0 : w.cell? ⟨B, 0, none⟩ = some (.slice a0 len cap)) (h1 : w.cell? ⟨B, 1, none⟩ = some (.int .i64 p))
    (hfz : w.frozen? ⟨B, 1, none⟩ = false) (hp : p ≤ 1000000)
    (hc : 0 < len → ∃ b off, a0 = some ⟨b, off, none⟩ ∧ b ≠ B ∧ ∀ i, i < len → ∃ z, w.cell? ⟨b, off + i, none⟩ = some (.int .u8 z) ∧ 0 ≤ z ∧ z ≤ 255) :
    Calls Try.prog 13 #[.pointer (some ⟨B, 0, none⟩), .int .i64 n] w (PickPost B p n w) := by
  by_cases hn : n < 1 ∨ len = 0
  · exact pick_none B a0 len cap p n w h0 h1 hfz hp hn
  · have hl : 0 < len := by omega
    obtain ⟨b, off, rfl, hbB, hz⟩ := hc hl
    by_cases hlt : p < len
    · obtain ⟨z, hz, hz0, hz1⟩ := hz p hlt
      exact pick_near B b off len cap p z n w h0 h1 hfz hp (by omega) hlt hbB hz hz0 hz1
    · obtain ⟨z, hzc, hz0, hz1⟩ := hz (p % len) (Nat.mod_lt _ hl)
      obtain ⟨y, hyc, hy0, hy1⟩ := hz ((p * 7 + 3) % len) (Nat.mod_lt _ hl)
      exact pick_far B b off len cap p z y n w h0 h1 hfz hp (by omega) hl (by omega) hbB (p % len) ((p * 7 + 3) % len) (by omega) (by first | (push_cast; rfl) | simp)
        (Nat.mod_lt _ hl) (Nat.mod_lt _ hl) hzc hz0 hz1 hyc hy0 hy1
end Go.Proofs.Ytnhofdngmbnlkaa

/- What a drawer of programs stands on: the reader of bytes, the drawer's own block, lists that lie elsewhere; what a draw costs. -/
namespace Go.Proofs.Ytnhofdngmbnlkaa
open Go.RowKit Go.Deep

/-- Where the reader lies, and the drawer; which bytes are read. -/
structure Dr where
  B : Nat
  G : Nat
  a0 : Option Addr
  len : Nat
  cap : Nat

/-- A block that is neither the reader's nor the drawer's. -/
def Dr.free (d : Dr) (W : World) (q : Nat) : Prop := q < W.heap.size ∧ q ≠ d.B ∧ q ≠ d.G

/-- Everything but the reader and the drawer lies as it lay. -/
structure Grew (d : Dr) (W W' : World) : Prop where
  os : W'.os = W.os
  tape : W'.tape = W.tape
  output : W'.output = W.output
  size : W.heap.size ≤ W'.heap.size
  block : ∀ q, d.free W q → W'.heap[q]? = W.heap[q]?

theorem Grew.refl (d : Dr) (W : World) : Grew d W W := ⟨rfl, rfl, rfl, Nat.le_refl _, fun _ _ => rfl⟩

theorem Dr.free.grew {d : Dr} {W W' : World} {q : Nat} (h : d.free W q) (g : Grew d W W') : d.free W' q := ⟨Nat.lt_of_lt_of_le h.1 g.size, h.2⟩

theorem Grew.trans {d : Dr} {W W' W'' : World} (h : Grew d W W') (g : Grew d W' W'') : Grew d W W'' :=
  ⟨g.os.trans h.os, g.tape.trans h.tape, g.output.trans h.output, Nat.le_trans h.size g.size, fun q hq => (g.block q (hq.grew h)).trans (h.block q hq)⟩

theorem Grew.of_below {d : Dr} {W W' : World} (h : Below W.heap.size W W') : Grew d W W' := ⟨h.os, h.tape, h.output, h.size, fun q hq => h.block q hq.1⟩

theorem Grew.alloc {d : Dr} {W W' : World} (h : Grew d W W') (o : Obj) : Grew d W (W'.alloc o) := h.trans (Grew.of_below ((Below.refl _ _).alloc (Nat.le_refl _) _))

theorem Grew.drew {d : Dr} {W W' : World} (h : Grew d W W') : Grew d W W'.drew := ⟨h.os, h.tape, h.output, h.size, h.block⟩

theorem Grew.below {d : Dr} {W W' : World} {n : Nat} (h : Grew d W W') (hn : n ≤ W.heap.size) (h1 : n ≤ d.B) (h2 : n ≤ d.G) : Below n W W' :=
  ⟨h.os, h.tape, h.output, h.size, fun q hq => h.block q ⟨by omega, by omega, by omega⟩⟩

theorem Grew.cell {d : Dr} {W W' : World} (h : Grew d W W') {p : Addr} (hq : d.free W p.block) : W'.cell? p = W.cell? p := World.cell?_of_block (h.block _ hq)

/-- A slice of n things of sz cells that lies elsewhere. -/
def Lies (d : Dr) (W : World) (v : Value) (n sz : Nat) (F : Nat → Value) : Prop :=
  (v = .slice none 0 0 ∧ n = 0) ∨ ∃ b off cap, v = .slice (some ⟨b, off, none⟩) n cap ∧ n ≤ cap ∧ off = 0 ∧ d.free W b ∧ ∀ i, i < n * sz → W.cell? ⟨b, off + i, none⟩ = some (F i)

theorem Lies.grew {d : Dr} {W W' : World} {v : Value} {n sz : Nat} {F : Nat → Value} (h : Lies d W v n sz F) (g : Grew d W W') : Lies d W' v n sz F := by
  rcases h with h | ⟨b, off, cap, rfl, hn, hz, hq, hc⟩
  · exact Or.inl h
  · exact Or.inr ⟨b, off, cap, rfl, hn, hz, hq.grew g, fun i hi => (g.cell (p := ⟨b, off + i, none⟩) hq).trans (hc i hi)⟩

theorem Lies.is {d : Dr} {W : World} {v : Value} {n sz : Nat} {F : Nat → Value} (h : Lies d W v n sz F) : ∃ ad cp, v = .slice ad n cp := by
  rcases h with ⟨rfl, rfl⟩ | ⟨b, off, cap, rfl, -⟩
  · exact ⟨_, _, rfl⟩
  · exact ⟨_, _, rfl⟩

theorem Lies.at {d : Dr} {W : World} {ad : Option Addr} {n cp n' sz : Nat} {F : Nat → Value} (h : Lies d W (.slice ad n cp) n' sz F) (h0 : 0 < n) : n' = n ∧ n ≤ cp ∧ ∃ b off, ad = some ⟨b, off, none⟩ ∧ d.free W b ∧ ∀ i, i < n * sz → W.cell? ⟨b, off + i, none⟩ = some (F i) := by
  rcases h with ⟨e, rfl⟩ | ⟨b, off, cap, e, hn, -, hq, hc⟩
  · cases e; omega
  · cases e
    exact ⟨rfl, hn, b, off, rfl, hq, hc⟩

/-- A name that is known. -/
structure Kn where
  name : ByteArray
  ty : Int
  res : Int

instance : Inhabited Kn := ⟨⟨ByteArray.empty, 0, 0⟩⟩

def Kn.cell (k : Kn) : Nat → Value
  | 0 => .string k.name
  | 1 => .int .i64 k.ty
  | _ => .int .i64 k.res

/-- Names are short. -/
def Brief (s : ByteArray) : Prop := s.size ≤ 100

def NodesD (d : Dr) (W : World) (v : Value) (ns : List Nd) : Prop := Lies d W v ns.length 6 (fun i => (ns.getD (i / 6) default).cell (i % 6)) ∧ ∀ n ∈ ns, Brief n.a ∧ Brief n.b ∧ Brief n.c
def KnowsD (d : Dr) (W : World) (v : Value) (ks : List Kn) : Prop := Lies d W v ks.length 3 (fun i => (ks.getD (i / 3) default).cell (i % 3)) ∧ ∀ k ∈ ks, Brief k.name
def BoolsD (d : Dr) (W : World) (v : Value) (ms : List Bool) : Prop := Lies d W v ms.length 1 (fun i => .bool (ms.getD i false))

theorem NodesD.grew {d : Dr} {W W' : World} {v : Value} {ns : List Nd} (h : NodesD d W v ns) (g : Grew d W W') : NodesD d W' v ns := ⟨h.1.grew g, h.2⟩
theorem KnowsD.grew {d : Dr} {W W' : World} {v : Value} {ks : List Kn} (h : KnowsD d W v ks) (g : Grew d W W') : KnowsD d W' v ks := ⟨h.1.grew g, h.2⟩
theorem BoolsD.grew {d : Dr} {W W' : World} {v : Value} {ms : List Bool} (h : BoolsD d W v ms) (g : Grew d W W') : BoolsD d W' v ms := Lies.grew h g

theorem getD_mem {α : Type} [Inhabited α] {l : List α} {k : Nat} (h : k < l.length) : l.getD k default ∈ l := by
  rw [show l.getD k default = l[k] by simp [List.getD, h]]
  exact List.getElem_mem h

theorem cell_div {α : Type} [Inhabited α] (l : List α) (f : α → Nat → Value) (sz k c : Nat) (hc : c < sz) : f (l.getD ((k * sz + c) / sz) default) ((k * sz + c) % sz) = f (l.getD k default) c := by
  rw [Nat.mul_comm k sz, Nat.mul_add_div (by omega), Nat.div_eq_of_lt hc, Nat.mul_add_mod, Nat.mod_eq_of_lt hc, Nat.add_zero]

theorem NodesD.slice {d : Dr} {W : World} {v : Value} {ns : List Nd} (h : NodesD d W v ns) : NodeSlice W v ns := by
  obtain ⟨h, -⟩ := h
  rcases h with ⟨rfl, h⟩ | ⟨b, off, cap, rfl, hn, -, hq, hc⟩
  · exact ⟨none, 0, by rw [h], Or.inl (List.eq_nil_of_length_eq_zero h)⟩
  · refine ⟨_, cap, rfl, Or.inr ⟨b, off, rfl, hq.1, fun k hk c hc' => ?_⟩⟩
    rw [Nat.add_assoc, hc (k * 6 + c) (by omega)]
    exact congrArg some (cell_div ns Nd.cell 6 k c hc')

theorem NodesD.short {d : Dr} {W : World} {v : Value} {ns : List Nd} (h : NodesD d W v ns) : Short ns := fun n hn => by
  obtain ⟨h1, h2, h3⟩ := h.2 n hn
  unfold Brief at h1 h2 h3
  unfold maxLen
  omega

theorem KnowsD.at {d : Dr} {W : World} {ad : Option Addr} {n cp : Nat} {ks : List Kn} (h : KnowsD d W (.slice ad n cp) ks) {i : Nat} (hi : i < n) : ∃ b off nm ty res, ad = some ⟨b, off, none⟩ ∧ ks.getD i default = ⟨nm, ty, res⟩ ∧ Brief nm ∧ d.free W b ∧ W.cell? ⟨b, off + i * 3, none⟩ = some (.string nm) ∧ W.cell? ⟨b, off + i * 3 + 1, none⟩ = some (.int .i64 ty) ∧ W.cell? ⟨b, off + i * 3 + 2, none⟩ = some (.int .i64 res) := by
  obtain ⟨h, hB⟩ := h
  obtain ⟨hl, -, b, off, rfl, hq, hc⟩ := h.at (by omega)
  obtain ⟨k, hk⟩ : ∃ k, ks.getD i default = k := ⟨_, rfl⟩
  have hb := hB _ (getD_mem (l := ks) (k := i) (by omega))
  have e : ∀ c, c < 3 → W.cell? ⟨b, off + (i * 3 + c), none⟩ = some (k.cell c) := fun c hc' => by
    rw [hc (i * 3 + c) (by omega), ← hk]
    exact congrArg some (cell_div ks Kn.cell 3 i c hc')
  rw [hk] at hb
  obtain ⟨nm, ty, res⟩ := k
  exact ⟨b, off, nm, ty, res, rfl, hk, hb, hq, e 0 (by omega), e 1 (by omega), e 2 (by omega)⟩

theorem KnowsD.is {d : Dr} {W : World} {v : Value} {ks : List Kn} (h : KnowsD d W v ks) : ∃ ad cp, v = .slice ad ks.length cp := h.1.is
theorem NodesD.is {d : Dr} {W : World} {v : Value} {ns : List Nd} (h : NodesD d W v ns) : ∃ ad cp, v = .slice ad ns.length cp := h.1.is
theorem BoolsD.is {d : Dr} {W : World} {v : Value} {ms : List Bool} (h : BoolsD d W v ms) : ∃ ad cp, v = .slice ad ms.length cp := Lies.is h

theorem BoolsD.at {d : Dr} {W : World} {ad : Option Addr} {n cp : Nat} {ms : List Bool} (h : BoolsD d W (.slice ad n cp) ms) {i : Nat} (hi : i < n) : ∃ b off, ad = some ⟨b, off, none⟩ ∧ d.free W b ∧ W.cell? ⟨b, off + i, none⟩ = some (.bool (ms.getD i false)) := by
  obtain ⟨hl, -, b, off, rfl, hq, hc⟩ := Lies.at h (by omega)
  exact ⟨b, off, rfl, hq, hc i (by omega)⟩

/-- What the drawer counts. -/
structure Cn where
  p : Nat
  left : Int
  next : Nat

/-- The reader's block, and the bytes. -/
structure Rdr (d : Dr) (W : World) (p : Nat) : Prop where
  blk : W.heap[d.B]? = some (.cells #[.slice d.a0 d.len d.cap, .int .i64 (p : Int)] 40)
  bytes : 0 < d.len → ∃ b off, d.a0 = some ⟨b, off, none⟩ ∧ d.free W b ∧ ∀ i, i < d.len → ∃ z, W.cell? ⟨b, off + i, none⟩ = some (.int .u8 z) ∧ 0 ≤ z ∧ z ≤ 255

/-- The drawer's block; ve: the operations. -/
structure Gen (d : Dr) (ve : Value) (W : World) (s : Cn) : Prop where
  rd : Rdr d W s.p
  blk : W.heap[d.G]? = some (.cells #[.pointer (some ⟨d.B, 0, none⟩), ve, .int .i64 s.left, .int .i64 (s.next : Int)] 77)
  ne : d.B ≠ d.G

theorem Rdr.same {d : Dr} {W W' : World} {p : Nat} (h : Rdr d W p) (g : Grew d W W') (e : W'.heap[d.B]? = W.heap[d.B]?) : Rdr d W' p := by
  refine ⟨e.trans h.blk, fun hl => ?_⟩
  obtain ⟨b, off, ea, hq, hz⟩ := h.bytes hl
  refine ⟨b, off, ea, hq.grew g, fun i hi => ?_⟩
  obtain ⟨z, hz, h2⟩ := hz i hi
  exact ⟨z, (g.cell (p := ⟨b, off + i, none⟩) hq).trans hz, h2⟩

theorem Gen.below {d : Dr} {ve : Value} {W W' : World} {s : Cn} (h : Gen d ve W s) (hb : Below W.heap.size W W') : Gen d ve W' s :=
  ⟨h.rd.same (Grew.of_below hb) (hb.block _ (heap_lt h.rd.blk)), (hb.block _ (heap_lt h.blk)).trans h.blk, h.ne⟩

theorem Gen.alloc {d : Dr} {ve : Value} {W : World} {s : Cn} (h : Gen d ve W s) (o : Obj) : Gen d ve (W.alloc o) s := h.below ((Below.refl _ _).alloc (Nat.le_refl _) _)

theorem Gen.drew {d : Dr} {ve : Value} {W : World} {s : Cn} (h : Gen d ve W s) : Gen d ve W.drew s := ⟨⟨h.rd.blk, h.rd.bytes⟩, h.blk, h.ne⟩

theorem Rdr.drew {d : Dr} {W : World} {p : Nat} (h : Rdr d W p) : Rdr d W.drew p := ⟨h.blk, h.bytes⟩

theorem Rdr.below {d : Dr} {W W' : World} {p : Nat} (h : Rdr d W p) (hb : Below W.heap.size W W') : Rdr d W' p := h.same (Grew.of_below hb) (hb.block _ (heap_lt h.blk))

/-- What was spent. -/
def Spent (s s' : Cn) (t c : Nat) : Prop := s'.p ≤ s.p + t ∧ s'.next ≤ s.next + t ∧ s.left - t ≤ s'.left ∧ s'.left ≤ s.left ∧ t + 300 * s'.left.toNat ≤ 300 * s.left.toNat + c

/-- There is enough left to spend. -/
def Fit (s : Cn) (c : Nat) : Prop := s.p + 300 * s.left.toNat + c ≤ 900000 ∧ s.next + 300 * s.left.toNat + c ≤ 900000 ∧ -900000 ≤ s.left - 300 * s.left.toNat - c ∧ s.left ≤ 1000

theorem Rdr.picked {d : Dr} {W W' : World} {p : Nat} (h : Rdr d W p) (hg : Grew d W W') (hb : W'.heap[d.B]? = some (.cells #[.slice d.a0 d.len d.cap, .int .i64 ((p : Int) + 1)] 40)) : Rdr d W' (p + 1) := by
  refine ⟨by rw [hb]; push_cast; rfl, fun hl => ?_⟩
  obtain ⟨b, off, ea, hq, hz⟩ := h.bytes hl
  refine ⟨b, off, ea, hq.grew hg, fun i hi => ?_⟩
  obtain ⟨z, hz, h2⟩ := hz i hi
  exact ⟨z, (hg.cell (p := ⟨b, off + i, none⟩) hq).trans hz, h2⟩

/-- A number is drawn. -/
theorem rdr_pick {d : Dr} {W : World} {p : Nat} (h : Rdr d W p) (hp : p ≤ 1000000) (n : Int) (hn : 0 < n) :
    Calls Try.prog 13 #[.pointer (some ⟨d.B, 0, none⟩), .int .i64 n] W fun e W' => ∃ m : Int, e = .returned (.int .i64 m) ∧ 0 ≤ m ∧ m < n ∧ Rdr d W' (p + 1) ∧ Grew d W W' ∧ W'.heap.size = W.heap.size ∧ (∀ q, q ≠ d.B → W'.heap[q]? = W.heap[q]?) := by
  have hc0 := cell_of_heap h.blk 0
  have hc1 := cell_of_heap h.blk 1
  refine (pick_calls d.B d.a0 d.len d.cap p n W (by simpa using hc0) (by simpa using hc1) (frozen_of_heap h.blk 1) hp (fun hl => ?_)).mono ?_
  · obtain ⟨b, off, ea, hq, hz⟩ := h.bytes hl
    exact ⟨b, off, ea, hq.2.1, hz⟩
  · rintro e W' ⟨⟨r, rfl, hr0, hr1⟩, hP⟩
    have hw := hP.how
    have hs : W'.heap.size = W.heap.size := by rcases hw with rfl | rfl <;> simp [World.setCell, World.drew]
    have ho : ∀ q, q ≠ d.B → W'.heap[q]? = W.heap[q]? := fun q hq => by
      rcases hw with rfl | rfl
      · exact Below.heap_setCell W ⟨d.B, 1, none⟩ _ q hq
      · exact Below.heap_setCell W ⟨d.B, 1, none⟩ _ q hq
    have hg : Grew d W W' := ⟨by rcases hw with rfl | rfl <;> rfl, by rcases hw with rfl | rfl <;> rfl, by rcases hw with rfl | rfl <;> rfl, Nat.le_of_eq hs.symm, fun q hq => ho q hq.2.1⟩
    refine ⟨r, rfl, hr0, hr1 hn, h.picked hg ?_, hg, hs, ho⟩
    rcases hw with rfl | rfl
    · simp [World.setCell, Array.getElem?_modify, h.blk]
    · simp [World.setCell, World.drew, Array.getElem?_modify, h.blk]
end Go.Proofs.Ytnhofdngmbnlkaa

/- The drawer's small parts: rows of nodes and of names that are known, grown one by one. -/
namespace Go.Proofs.Ytnhofdngmbnlkaa
open Go.RowKit Go.Deep

/-- The cells of a list of things of sz cells each. -/
def rowZ {α : Type} (f : α → Nat → Value) (sz : Nat) (l : List α) : List Value := l.flatMap fun x => (List.range sz).map (f x)

theorem rowZ_len {α : Type} (f : α → Nat → Value) (sz : Nat) : ∀ l : List α, (rowZ f sz l).length = l.length * sz
  | [] => by simp [rowZ]
  | x :: l => by
    have := rowZ_len f sz l
    simp only [rowZ, List.flatMap_cons, List.length_append, List.length_map, List.length_range, List.length_cons] at this ⊢
    rw [this, Nat.succ_mul]
    omega

theorem rowZ_app {α : Type} (f : α → Nat → Value) (sz : Nat) (l m : List α) : rowZ f sz (l ++ m) = rowZ f sz l ++ rowZ f sz m := by
  simp [rowZ, List.flatMap_append]

theorem rowZ_get {α : Type} [Inhabited α] (f : α → Nat → Value) (sz : Nat) (hz : 0 < sz) : ∀ (l : List α) (i : Nat), i < l.length * sz → (rowZ f sz l)[i]? = some (f (l.getD (i / sz) default) (i % sz))
  | [], i, h => by simp at h
  | x :: l, i, h => by
    have e : rowZ f sz (x :: l) = (List.range sz).map (f x) ++ rowZ f sz l := by simp [rowZ]
    rw [e]
    by_cases hi : i < sz
    · rw [List.getElem?_append_left (by simpa using hi), Nat.div_eq_of_lt hi, Nat.mod_eq_of_lt hi]
      simp [hi]
    · have hi' : sz ≤ i := by omega
      rw [List.length_cons, Nat.succ_mul] at h
      rw [List.getElem?_append_right (by simpa using hi')]
      simp only [List.length_map, List.length_range]
      rw [rowZ_get f sz hz l (i - sz) (by omega)]
      have e1 : i / sz = (i - sz) / sz + 1 := Nat.div_eq_sub_div hz hi'
      have e2 : i % sz = (i - sz) % sz := by rw [Nat.mod_eq_sub_mod hi']
      rw [e1, e2]
      simp [List.getD]

theorem wpList_append_by {P : Program} {ops : Array Oper} {rest : List Oper} {o : Oper} {a : Act} {w : World} {Q : Exit → Act → World → Prop} (hgd : o.guard = none) (s x : Operand) (t : TypeId)
    (ho : o.op = .call { callee := .builtin .append, args := #[s, x], argTypes := #[t, t] }) (v xv : Value) (hs : a.eval s = v) (hx : a.eval x = xv) {R : Value → World → Prop}
    (hr : ∀ ty, ∃ v' w', (Builtin.append_ #[t, t] ty #[v, xv]).run P w = .ok v' w' ∧ R v' w') (h : ∀ v' w', R v' w' → wpList P ops Q rest (a.put o.dst v') w') :
    wpList P ops Q (o :: rest) a w := by
  refine wpList_plain hgd fun K hK => ?_
  obtain ⟨v', w', hr, h2⟩ := hr o.type
  unfold Oper.wp execOp
  simp only [ho, resolve, invoke, builtin, Sem.run_bind, Sem.run_pure, Result.andThen_ok, List.map_toArray, List.map_cons, List.map_nil, hs, hx, hr]
  exact hK _ _ (h v' w' h2)

section
variable {d : Dr}

/-- Things that lie in a row of one's own, from a block on that is none of the drawer's. -/
theorem lies_owns {α : Type} [Inhabited α] {f : α → Nat → Value} {sz : Nat} (hz : 0 < sz) {W : World} {B : Nat} {t : TypeId} {v : Value} {l : List α} (h : W.ownsRow B t sz v l.length (rowZ f sz l)) (h1 : d.B < B) (h2 : d.G < B) : Lies d W v l.length sz (fun i => f (l.getD (i / sz) default) (i % sz)) := by
  have h' := h
  obtain ⟨-, ⟨rfl, h0⟩ | ⟨g, cap, cur, rfl, hB, hc, hnc, -⟩⟩ := h
  · exact Or.inl ⟨rfl, h0⟩
  · refine Or.inr ⟨g, 0, cap, rfl, hnc, rfl, ⟨heap_lt hc, by omega, by omega⟩, fun i hi => ?_⟩
    rw [Nat.zero_add, h'.cellAt i hi, rowZ_get f sz hz l i hi]

/-- A row that was just written out. -/
theorem lies_lit {α : Type} [Inhabited α] {f : α → Nat → Value} {sz : Nat} (hz : 0 < sz) (W : World) (t : TypeId) (l : List α) (c : Array Value) (hc : c = (rowZ f sz l).toArray) (h1 : d.B < W.heap.size) (h2 : d.G < W.heap.size) : Lies d (W.alloc (.cells c t)) (.slice (some ⟨W.heap.size, 0, none⟩) l.length l.length) l.length sz (fun i => f (l.getD (i / sz) default) (i % sz)) := by
  subst hc
  have hh := (MapKept.heap_alloc W (.cells (rowZ f sz l).toArray t)).1
  refine Or.inr ⟨_, 0, _, rfl, Nat.le_refl _, rfl, ⟨heap_lt hh, by omega, by omega⟩, fun i hi => ?_⟩
  rw [Nat.zero_add, cell_of_heap hh i, List.getElem?_toArray, rowZ_get f sz hz l i hi]

/-- Things appended to a row of one's own. -/
theorem app_row {α : Type} [Inhabited α] {f : α → Nat → Value} (h1 : ∀ x i, (f x i).oneCell' = true) {sz : Nat} {W : World} {B : Nat} {t e : TypeId} {i0 : TypeInfo} {z : Value} {by_ : Nat} (ht : Try.prog.underlying t = some (.slice e)) (hi : Try.prog.info? e = some i0) (hz0 : i0.zero = some z) (hz1 : i0.size = sz) (hz2 : i0.bytes = by_) (hzs : z.cells.size = sz) (hsz : 0 < sz) (hby : by_ ≤ 100) {v xv : Value} {l m : List α}
    (hown : W.ownsRow B e sz v l.length (rowZ f sz l)) (hx : Lies d W xv m.length sz (fun i => f (m.getD (i / sz) default) (i % sz))) (hm : l.length + m.length ≤ 1000000) (hB : B ≤ W.heap.size) (ty : TypeId) :
    ∃ v' W', (Builtin.append_ #[t, t] ty #[v, xv]).run Try.prog W = .ok v' W' ∧ W'.ownsRow B e sz v' (l ++ m).length (rowZ f sz (l ++ m)) ∧ W.grownBy W' v.ownBlock := by
  rcases hx with ⟨rfl, hl⟩ | ⟨b, off, cap, rfl, -, -, hq, hc⟩
  · have : m = [] := List.eq_nil_of_length_eq_zero hl
    subst this
    refine ⟨v, W, run_append_owned_none W B t ty e i0 sz ht hi v _ _ hown, ?_, ⟨rfl, rfl, rfl, Nat.le_refl _, fun _ _ _ => rfl⟩⟩
    rw [List.append_nil]
    exact hown
  · obtain ⟨v', W', hr, h2, h3, -, -⟩ := run_append_own_at (P := Try.prog) W B t ty e i0 z sz by_ ht hi hz0 hz1 hz2 hzs hsz v l.length (rowZ f sz l) hown ⟨b, off, none⟩ m.length cap (rowZ f sz m) (rowZ_len f sz m)
      (fun j u hu => by
        have hj : j < m.length * sz := by
          have := (List.getElem?_eq_some_iff.1 hu).1
          rwa [rowZ_len] at this
        rw [rowZ_get f sz hsz m j hj] at hu
        cases hu
        rw [Addr.add_lit]
        exact hc j hj)
      (fun u hu => by
        unfold rowZ at hu
        rw [List.mem_flatMap] at hu
        obtain ⟨x, -, hu⟩ := hu
        rw [List.mem_map] at hu
        obtain ⟨i, -, rfl⟩ := hu
        exact h1 x i) (by unfold maxLen; omega) (by
          have := Nat.mul_le_mul hm hby
          omega) hB
    refine ⟨v', W', hr, ?_, h3⟩
    rw [List.length_append, rowZ_app]
    exact h2
end

theorem nd_one (n : Nd) (i : Nat) : (n.cell i).oneCell' = true := by
  match i with
  | 0 => rfl
  | 1 => rfl
  | 2 => rfl
  | 3 => rfl
  | 4 => rfl
  | _ + 5 => rfl

theorem kn_one (k : Kn) (i : Nat) : (k.cell i).oneCell' = true := by
  match i with
  | 0 => rfl
  | 1 => rfl
  | _ + 2 => rfl

theorem info_know : (Try.prog.info? 100).map (fun i => (i.zero, i.size, i.bytes)) = some (some (.agg #[.string ByteArray.empty, .int .i64 0, .int .i64 0]), 3, 32) := by kernel_rfl

theorem brief_none : Brief ByteArray.empty := by unfold Brief; decide

set_option maxRecDepth 100000 in
theorem node_calls {d : Dr} (k n : Int) (W : World) (h1 : d.B < W.heap.size) (h2 : d.G < W.heap.size) :
    Calls Try.prog 47 #[.int .i64 k, .int .i64 n] W fun e W' => ∃ v, e = .returned v ∧ NodesD d W' v [⟨k, n, ByteArray.empty, ByteArray.empty, ByteArray.empty, 0⟩] ∧ Below W.heap.size W W' := by
  go_enter Try.func47, Try.ntmps47
  go_wp2_with fail
  go_ret
  refine ⟨_, rfl, ⟨lies_lit (f := Nd.cell) (sz := 6) (by decide) W 65 [⟨k, n, ByteArray.empty, ByteArray.empty, ByteArray.empty, 0⟩] _ rfl h1 h2, fun n hn => ?_⟩, (Below.refl _ _).alloc (Nat.le_refl _) _⟩
  rw [List.mem_singleton] at hn
  subst hn
  exact ⟨brief_none, brief_none, brief_none⟩

/-- Lists of nodes, in a list. -/
def KidsV (d : Dr) (W : World) (v : Value) (ls : List (Value × List Nd)) : Prop :=
  Lies d W v ls.length 1 (fun i => (ls.getD i (.slice none 0 0, [])).1) ∧ ∀ x ∈ ls, NodesD d W x.1 x.2

def flatL (ls : List (Value × List Nd)) : List Nd := ls.flatMap Prod.snd

theorem flatL_take (ls : List (Value × List Nd)) (i : Nat) (h : i < ls.length) : flatL (ls.take (i + 1)) = flatL (ls.take i) ++ (ls.getD i (.slice none 0 0, [])).2 := by
  unfold flatL
  rw [List.take_add_one, List.flatMap_append]
  simp [List.getD, h]

theorem flatL_le (ls : List (Value × List Nd)) (i : Nat) : (flatL (ls.take i)).length ≤ (flatL ls).length := by
  conv => rhs; rw [← List.take_append_drop i ls]
  unfold flatL
  rw [List.flatMap_append, List.length_append]
  omega

theorem flatL_mem {ls : List (Value × List Nd)} {n : Nd} (h : n ∈ flatL ls) : ∃ x ∈ ls, n ∈ x.2 := by
  unfold flatL at h
  rw [List.mem_flatMap] at h
  exact h

theorem put_step {W wr W' : World} {acc ns : List Nd} {out v' : Value} (h : wr.ownsRow W.heap.size 65 6 out acc.length (rowZ Nd.cell 6 acc) ∧ Below W.heap.size W wr) (h' : W'.ownsRow W.heap.size 65 6 v' (acc ++ ns).length (rowZ Nd.cell 6 (acc ++ ns)) ∧ wr.grownBy W' out.ownBlock) :
    W'.ownsRow W.heap.size 65 6 v' (acc ++ ns).length (rowZ Nd.cell 6 (acc ++ ns)) ∧ Below W.heap.size W W' :=
  ⟨h'.1, h.2.grown h'.2 h.2.size (fun k hk => (h.1.lt k hk).1)⟩

set_option maxHeartbeats 4000000 in
set_option maxRecDepth 100000 in
theorem gput_calls {d : Dr} (k nm kd : Int) (a b c : ByteArray) (W : World) (vk : Value) (ls : List (Value × List Nd)) (h1 : d.B < W.heap.size) (h2 : d.G < W.heap.size) (hk : KidsV d W vk ls) (hb : Brief a ∧ Brief b ∧ Brief c) (hl : ls.length ≤ 1000) (hm : (flatL ls).length ≤ 800000) :
    Calls Try.prog 60 #[.agg #[.int .i64 k, .int .i64 nm, .string a, .string b, .string c, .int .i64 kd], vk] W fun e W' => ∃ v, e = .returned v ∧ NodesD d W' v (⟨k, nm, a, b, c, (ls.length : Int)⟩ :: flatL ls) ∧ Below W.heap.size W W' := by
  obtain ⟨L, hL⟩ : ∃ L, ls.length = L := ⟨_, rfl⟩
  have HK := hid hk
  have HL := hid (And.intro hL (And.intro hl (And.intro hm (And.intro hb (And.intro h1 h2)))))
  obtain ⟨ad, cp, rfl⟩ := hk.1.is
  rw [hL] at HK ⊢
  clear hk hb hm hl h1 h2 hL
  obtain ⟨i0, hinf, hz0, hz1, hz2⟩ := info_parts info_node
  go_enter Try.func60, Try.ntmps60
  go_wp2_with fail
  go_loopw [5, 6] (fun out i wr => ∃ (i' : Nat) (acc : List Nd), i = .int .i64 i' ∧ i' ≤ L ∧ Hid (wr.ownsRow W.heap.size 65 6 out acc.length (rowZ Nd.cell 6 acc) ∧ Below W.heap.size W wr) ∧ Hid (acc = ⟨k, nm, a, b, c, (L : Int)⟩ :: flatL (ls.take i'))) (fun _ i _ => L - (intOf i).toNat)
  case atStart =>
    have hw : (W.alloc (.cells #[.int .i64 k, .int .i64 nm, .string a, .string b, .string c, .int .i64 (L : Int)] 65)).heap.size = W.heap.size + 1 := by simp
    have ho := World.ownsRow_lit (base := W.heap.size) (e := 65) (size := 6) (W.alloc (.cells #[.int .i64 k, .int .i64 nm, .string a, .string b, .string c, .int .i64 (L : Int)] 65)) #[.int .i64 k, .int .i64 nm, .string a, .string b, .string c, .int .i64 (L : Int)] 1 (by rw [hw]; omega) (by unfold maxLen; omega) rfl
    rw [hw] at ho
    exact ⟨0, [⟨k, nm, a, b, c, (L : Int)⟩], rfl, Nat.zero_le _, ⟨ho, ((Below.refl _ _).alloc (Nat.le_refl _) _).alloc (by rw [hw]; omega) _⟩, by show _ = _; simp [flatL]⟩
  case round =>
    obtain ⟨i', acc, rfl, hle, HO, HA⟩ := hrel
    by_cases hi : (i' : Int) < (L : Int)
    · have hil : i' < ls.length := by have := HL.out.1; omega
      obtain ⟨-, -, g, o, rfl, hq, hc⟩ := HK.out.1.at (by omega : 0 < L)
      have hcell := (HO.out.2.cell (p := ⟨g, o + i', none⟩) hq.1).trans (hc i' (by omega))
      have hnd := HK.out.2 _ (List.mem_of_getElem? (l := ls) (i := i') (a := ls.getD i' (.slice none 0 0, [])) (by simp [List.getD, hil]))
      have hft := flatL_take ls i' hil
      have hfl := flatL_le ls (i' + 1)
      generalize ls.getD i' (.slice none 0 0, []) = kx at hcell hnd hft
      obtain ⟨kv, kns⟩ := kx
      dsimp only at hcell hnd hft
      have HN := hid (hnd.grew (Grew.of_below HO.out.2))
      have HF := hid (And.intro hft hfl)
      obtain ⟨kad, kcp, rfl⟩ := hnd.is
      clear hnd hft hfl hc hil
      have hi0 : (0 : Int) ≤ (i' : Int) := by omega
      have hstep : L - (intOf (.int .i64 ((i' + 1 : Nat) : Int))).toNat < L - (intOf (.int .i64 (i' : Int))).toNat := lt_step hi
      have HS : Hid (acc ++ kns = ⟨k, nm, a, b, c, (L : Int)⟩ :: flatL (ls.take (i' + 1)) ∧ acc.length + kns.length ≤ 900000) := by
        have e : acc ++ kns = ⟨k, nm, a, b, c, (L : Int)⟩ :: flatL (ls.take (i' + 1)) := by rw [HA.out, HF.out.1]; rfl
        refine ⟨e, ?_⟩
        rw [← List.length_append, e, List.length_cons]
        have := HF.out.2
        have := HL.out.2.2.1
        omega
      clear HA HF
      go_wp2_with (at_builtin; refine wpList_append_by rfl _ _ 43 rfl _ _ rfl rfl (fun ty => app_row nd_one Try.underlying43 hinf hz0 hz1 hz2 rfl (by decide) (by decide) HO.out.1 HN.out.1 (by have := HS.out.2; omega) HO.out.2.size ty) ?_; intro v5 w5 hv5; have HO5 := hid (put_step HO.out hv5); clear hv5)
      try rw [wrap_succ (by have := HL.out.2.1; have := HL.out.1; omega)]
      exact ⟨⟨i' + 1, acc ++ kns, rfl, by omega, HO5, HS.out.1⟩, hstep⟩
    · have e : i' = L := by omega
      subst e
      have HE : Hid (acc = ⟨k, nm, a, b, c, (i' : Int)⟩ :: flatL ls) := by
        show _ = _
        rw [HA.out, List.take_of_length_le (by have := HL.out.1; omega)]
      clear HA
      go_wp2_with fail
      go_ret
      refine ⟨_, rfl, ⟨?_, fun n hn => ?_⟩, HO.out.2⟩
      · rw [← HE.out]
        exact lies_owns (f := Nd.cell) (by decide) HO.out.1 HL.out.2.2.2.2.1 HL.out.2.2.2.2.2
      · rw [List.mem_cons] at hn
        rcases hn with rfl | hn
        · exact HL.out.2.2.2.1
        · obtain ⟨x, hx, hnx⟩ := flatL_mem hn
          exact (HK.out.2 x hx).2 n hnx
end Go.Proofs.Ytnhofdngmbnlkaa

/- A name is drawn; a name that is known is drawn; a name more is known. -/
namespace Go.Proofs.Ytnhofdngmbnlkaa
open Go.RowKit Go.Deep

theorem Gen.setNext {d : Dr} {ve : Value} {W : World} {s : Cn} (h : Gen d ve W s) (x : Nat) : Gen d ve (W.setCell ⟨d.G, 3, none⟩ (.int .i64 (x : Int))) { s with next := x } ∧ Grew d W (W.setCell ⟨d.G, 3, none⟩ (.int .i64 (x : Int))) := by
  have ho : ∀ q, q ≠ d.G → (W.setCell ⟨d.G, 3, none⟩ (.int .i64 (x : Int))).heap[q]? = W.heap[q]? := fun q hq => Below.heap_setCell W ⟨d.G, 3, none⟩ _ q hq
  have hg : Grew d W (W.setCell ⟨d.G, 3, none⟩ (.int .i64 (x : Int))) := ⟨rfl, rfl, rfl, by simp [World.setCell], fun q hq => ho q hq.2.2⟩
  exact ⟨⟨h.rd.same hg (ho _ h.ne), by simp [World.setCell, Array.getElem?_modify, h.blk], h.ne⟩, hg⟩

theorem Gen.setLeft {d : Dr} {ve : Value} {W : World} {s : Cn} (h : Gen d ve W s) (x : Int) : Gen d ve (W.setCell ⟨d.G, 2, none⟩ (.int .i64 x)) { s with left := x } ∧ Grew d W (W.setCell ⟨d.G, 2, none⟩ (.int .i64 x)) := by
  have ho : ∀ q, q ≠ d.G → (W.setCell ⟨d.G, 2, none⟩ (.int .i64 x)).heap[q]? = W.heap[q]? := fun q hq => Below.heap_setCell W ⟨d.G, 2, none⟩ _ q hq
  have hg : Grew d W (W.setCell ⟨d.G, 2, none⟩ (.int .i64 x)) := ⟨rfl, rfl, rfl, by simp [World.setCell], fun q hq => ho q hq.2.2⟩
  exact ⟨⟨h.rd.same hg (ho _ h.ne), by simp [World.setCell, Array.getElem?_modify, h.blk], h.ne⟩, hg⟩

theorem Gen.ltG {d : Dr} {ve : Value} {W : World} {s : Cn} (h : Gen d ve W s) : d.G < W.heap.size := heap_lt h.blk
theorem Gen.ltB {d : Dr} {ve : Value} {W : World} {s : Cn} (h : Gen d ve W s) : d.B < W.heap.size := heap_lt h.rd.blk
theorem Gen.c0 {d : Dr} {ve : Value} {W : World} {s : Cn} (h : Gen d ve W s) : W.cell? ⟨d.G, 0, none⟩ = some (.pointer (some ⟨d.B, 0, none⟩)) := by rw [cell_of_heap h.blk]; rfl
theorem Gen.c1 {d : Dr} {ve : Value} {W : World} {s : Cn} (h : Gen d ve W s) : W.cell? ⟨d.G, 1, none⟩ = some ve := by rw [cell_of_heap h.blk]; rfl
theorem Gen.c2 {d : Dr} {ve : Value} {W : World} {s : Cn} (h : Gen d ve W s) : W.cell? ⟨d.G, 2, none⟩ = some (.int .i64 s.left) := by rw [cell_of_heap h.blk]; rfl
theorem Gen.c3 {d : Dr} {ve : Value} {W : World} {s : Cn} (h : Gen d ve W s) : W.cell? ⟨d.G, 3, none⟩ = some (.int .i64 (s.next : Int)) := by rw [cell_of_heap h.blk]; rfl
theorem Gen.f2 {d : Dr} {ve : Value} {W : World} {s : Cn} (h : Gen d ve W s) : W.frozen? ⟨d.G, 2, none⟩ = false := frozen_of_heap h.blk 2
theorem Gen.f3 {d : Dr} {ve : Value} {W : World} {s : Cn} (h : Gen d ve W s) : W.frozen? ⟨d.G, 3, none⟩ = false := frozen_of_heap h.blk 3

/-- A number is drawn by the drawer. -/
theorem gen_pick {d : Dr} {ve : Value} {W : World} {s : Cn} (h : Gen d ve W s) (hp : s.p ≤ 1000000) (n : Int) (hn : 0 < n) :
    Calls Try.prog 13 #[.pointer (some ⟨d.B, 0, none⟩), .int .i64 n] W fun e W' => ∃ m : Int, e = .returned (.int .i64 m) ∧ 0 ≤ m ∧ m < n ∧ Gen d ve W' { s with p := s.p + 1 } ∧ Grew d W W' := by
  refine (rdr_pick h.rd hp n hn).mono ?_
  rintro e W' ⟨m, rfl, h0, h1, hr, hg, -, ho⟩
  exact ⟨m, rfl, h0, h1, ⟨hr, (ho _ (Ne.symm h.ne)).trans h.blk, h.ne⟩, hg⟩

theorem cell_old {W : World} {o : Obj} {p : Addr} {v : Value} (hp : p.block < W.heap.size) (h : W.cell? p = some v) : (W.alloc o).cell? p = some v :=
  (((Below.refl W.heap.size W).alloc (Nat.le_refl _) o).cell hp).trans h

theorem digit_run (m : Int) (h0 : 0 < m) (h1 : m < 7) : ∃ s : ByteArray, s.size = 1 ∧ ∀ W : World, (convert 22 9 (.slice (some ⟨W.heap.size, 0, none⟩) 1 1)).run Try.prog (W.alloc (.cells #[.int .u8 (48 + m)] 5)) = .ok (.string s) (W.alloc (.cells #[.int .u8 (48 + m)] 5)) := by
  refine ⟨⟨#[UInt8.ofNat (48 + m.toNat)]⟩, rfl, fun W => ?_⟩
  have h := run_convert_bytes_back (P := Try.prog) (W.alloc (.cells #[.int .u8 (48 + m)] 5)) 22 9 5 ⟨W.heap.size, 0, none⟩ 1 [UInt8.ofNat (48 + m.toNat)] Try.underlying22 Try.underlying5 Try.underlying9 (fun i hi => by
    have h0 : i = 0 := by simpa using hi
    subst h0
    simp [Addr.add]
    omega)
  exact h

set_option maxRecDepth 100000 in
theorem digit_zero (W : World) : Calls Try.prog 55 #[.int .i64 0] W fun e W' => e = .returned (.string ⟨#[48]⟩) ∧ W' = W := by
  go_enter Try.func55, Try.ntmps55
  go_wp2_with fail
  go_ret
  exact ⟨rfl, rfl⟩

set_option maxRecDepth 100000 in
/-- A digit as a text: nothing is made but a block of one byte. -/
theorem digit_calls (m : Int) (x : ByteArray) (hx : x.size = 1) (h2 : 0 < m) (h1 : m < 7) (hr : ∀ W : World, (convert 22 9 (.slice (some ⟨W.heap.size, 0, none⟩) 1 1)).run Try.prog (W.alloc (.cells #[.int .u8 (48 + m)] 5)) = .ok (.string x) (W.alloc (.cells #[.int .u8 (48 + m)] 5))) (W : World) : Calls Try.prog 55 #[.int .i64 m] W fun e W' => e = .returned (.string (x ++ ⟨#[]⟩)) ∧ W' = W.alloc (.cells #[.int .u8 (48 + m)] 5) := by
  have hrun := hr W
  have hm : ¬ m = 0 := by omega
  have e0 : (m == 0) = false := by simp [hm]
  have e1 : m % 10 = m := by omega
  have e2 : m / 10 = 0 := by omega
  clear hr
  go_enter Try.func55, Try.ntmps55
  go_wp2_with fail
  refine wp_loop_rounds 2 ?_
  rw [rounds_succ]
  go_wp2_with fail
  rw [e2, rounds_succ]
  go_wp2_with fail
  go_ret
  exact ⟨rfl, rfl⟩

/-- A digit as a text. -/
theorem digit_any (m : Int) (h0 : 0 ≤ m) (h1 : m < 7) : ∃ x : ByteArray, x.size ≤ 50 ∧ ∀ W, Calls Try.prog 55 #[.int .i64 m] W fun e W' => e = .returned (.string x) ∧ Below W.heap.size W W' := by
  by_cases hm : m = 0
  · subst hm
    refine ⟨⟨#[48]⟩, by decide, fun W => (digit_zero W).mono ?_⟩
    rintro e W' ⟨rfl, rfl⟩
    exact ⟨rfl, Below.refl _ _⟩
  · obtain ⟨x, hx, hr⟩ := digit_run m (by omega) h1
    refine ⟨x ++ ⟨#[]⟩, ?_, fun W => (digit_calls m x hx (by omega) h1 hr W).mono ?_⟩
    · rw [ByteArray.size_append, hx]
      decide
    · rintro e W' ⟨rfl, rfl⟩
      exact ⟨rfl, (Below.refl _ _).alloc (Nat.le_refl _) _⟩

def sixV : Array Value := #[.string ⟨#[120]⟩, .string ⟨#[121]⟩, .string ⟨#[122]⟩, .string ⟨#[110]⟩, .string ⟨#[109]⟩, .string ⟨#[113]⟩]

theorem six_get (r : Int) (h0 : 0 ≤ r) (h1 : r < 6) : ∃ y : ByteArray, y.size = 1 ∧ sixV[r.toNat]? = some (.string y) := by
  have h : r = 0 ∨ r = 1 ∨ r = 2 ∨ r = 3 ∨ r = 4 ∨ r = 5 := by omega
  rcases h with rfl | rfl | rfl | rfl | rfl | rfl <;> exact ⟨_, rfl, rfl⟩

theorem six_cell {X : World} (r : Int) (y : ByteArray) (h : sixV[r.toNat]? = some (.string y)) : (X.alloc (.cells sixV 9)).cell? ⟨X.heap.size, r.toNat, none⟩ = some (.string y) := by
  rw [cell_of_heap (MapKept.heap_alloc X _).1, h]

set_option maxHeartbeats 4000000 in
set_option maxRecDepth 100000 in
/-- A name is drawn. -/
theorem name_calls {d : Dr} {ve : Value} {W : World} {s : Cn} (h : Gen d ve W s) (hn : s.next ≤ 1000000) :
    Calls Try.prog 61 #[.pointer (some ⟨d.G, 0, none⟩)] W fun e W' => ∃ x, e = .returned (.string x) ∧ Brief x ∧ Gen d ve W' { s with next := s.next + 1 } ∧ Grew d W W' := by
  have HG := hid h
  have HN := hid (h.setNext (s.next + 1))
  obtain ⟨n, hn'⟩ : ∃ n : Nat, s.next = n := ⟨_, rfl⟩
  have c3 := h.c3
  have f3 := h.f3
  rw [hn'] at c3 hn HN ⊢
  obtain ⟨G, hGe⟩ : ∃ G, d.G = G := ⟨_, rfl⟩
  rw [hGe] at c3 f3 HN ⊢
  go_enter Try.func61, Try.ntmps61
  go_wp2_with fail
  have e1 : ((n : Int) + 1) = ((n + 1 : Nat) : Int) := by omega
  rw [e1]
  have cN := HN.out.1.c3
  have hGl := HN.out.1.ltG
  rw [hGe] at cN hGl
  clear c3 f3 HG h e1
  generalize W.setCell ⟨G, 3, none⟩ (.int .i64 ((n + 1 : Nat) : Int)) = W1 at *
  dsimp only at cN
  have hN0 : (0 : Int) ≤ ((n + 1 : Nat) : Int) := by omega
  generalize hNe : ((n + 1 : Nat) : Int) = N at *
  obtain ⟨m, hm⟩ : ∃ m, N % 7 = m := ⟨_, rfl⟩
  have hm0 : 0 ≤ m := by omega
  have hm1 : m < 7 := by omega
  obtain ⟨x, hx, hD⟩ := digit_any m hm0 hm1
  have HD := hid hD
  have HX := hid hx
  obtain ⟨r, hr⟩ : ∃ r, N % 6 = r := ⟨_, rfl⟩
  have hr0 : 0 ≤ r := by omega
  have hr1 : r < 6 := by omega
  have ht6 : N.tmod 6 = r := (Int.tmod_eq_emod_of_nonneg hN0).trans hr
  have ht7 : N.tmod 7 = m := (Int.tmod_eq_emod_of_nonneg hN0).trans hm
  obtain ⟨y, hy, hsix⟩ := six_get r hr0 hr1
  have HY := hid hy
  have HN1 : Hid (Gen d ve W1.drew { s with next := n + 1 } ∧ Grew d W W1.drew) := ⟨HN.out.1.drew, HN.out.2.drew⟩
  have cD : W1.drew.cell? ⟨G, 3, none⟩ = some (.int .i64 N) := cN
  have hGD : G < W1.drew.heap.size := hGl
  clear hNe hn hn' hGe hm hm0 hm1 hr cN hGl HN hD hx
  refine pick_begin (S := fun w' => w'.cell? ⟨G, 3, none⟩ = some (.int .i64 N)) (by kernel_rfl) rfl rfl ?_
  generalize W1.drew = D at *
  refine pick_op (i := 1) (v := .pointer (some ⟨G, 0, none⟩)) (by kernel_rfl) rfl (by kernel_rfl) (by kernel_rfl) rfl rfl (fun w' hw => by simp [go_sem]) cD (by simp [go_sem]; exact rfl) ?_
  refine pick_op (i := 2) (v := .pointer (some ⟨G, 0, none⟩)) (by kernel_rfl) rfl (by kernel_rfl) (by kernel_rfl) rfl rfl (fun w' hw => by simp [go_sem]) cD (by simp [go_sem]; exact rfl) ?_
  refine pick_op (i := 3) (v := .pointer (some ⟨G, 3, none⟩)) (by kernel_rfl) rfl (by kernel_rfl) (by kernel_rfl) rfl rfl (fun w' hw => by simp [go_sem]) cD (by simp [go_sem]; exact rfl) ?_
  refine pick_op (i := 4) (v := .int .i64 N) (by kernel_rfl) rfl (by kernel_rfl) (by kernel_rfl) rfl rfl (fun w' hw => by simp [go_sem, hw]) cD (by simp [go_sem]; exact rfl) ?_
  refine pick_op (i := 5) (v := .int .i64 r) (by kernel_rfl) rfl (by kernel_rfl) (by kernel_rfl) rfl rfl (fun w' hw => by simp [go_sem, ht6]) cD (by simp [go_sem]; exact rfl) ?_
  refine pick_op (i := 8) (v := .pointer (some ⟨G, 0, none⟩)) (by kernel_rfl) rfl (by kernel_rfl) (by kernel_rfl) rfl rfl (fun w' hw => by simp [go_sem]) cD (by simp [go_sem]; exact rfl) ?_
  refine pick_op (i := 9) (v := .pointer (some ⟨G, 0, none⟩)) (by kernel_rfl) rfl (by kernel_rfl) (by kernel_rfl) rfl rfl (fun w' hw => by simp [go_sem]) cD (by simp [go_sem]; exact rfl) ?_
  refine pick_op (i := 10) (v := .pointer (some ⟨G, 3, none⟩)) (by kernel_rfl) rfl (by kernel_rfl) (by kernel_rfl) rfl rfl (fun w' hw => by simp [go_sem]) cD (by simp [go_sem]; exact rfl) ?_
  refine pick_op (i := 11) (v := .int .i64 N) (by kernel_rfl) rfl (by kernel_rfl) (by kernel_rfl) rfl rfl (fun w' hw => by simp [go_sem, hw]) cD (by simp [go_sem]; exact rfl) ?_
  refine pick_op (i := 12) (v := .int .i64 m) (by kernel_rfl) rfl (by kernel_rfl) (by kernel_rfl) rfl rfl (fun w' hw => by simp [go_sem, ht7]) cD (by simp [go_sem]; exact rfl) ?_
  have hx := HX.out
  refine pick_either (i := 0) (j := 13) (by kernel_rfl) ?_ ?_
  · have cy := six_cell (X := D) r y hsix
    have c1 := cell_old (o := .cells sixV 9) hGD cD
    have HB1 : Hid (Below D.heap.size D (D.alloc (.cells sixV 9))) := (Below.refl _ _).alloc (Nat.le_refl _) _
    have hq : D.heap.size < (D.alloc (.cells sixV 9)).heap.size := by simp
    refine ⟨_, .slice (some ⟨D.heap.size, 0, none⟩) 6 6, D.alloc (.cells sixV 9), rfl, rfl, by simp [go_sem, sixV], c1, ?_⟩
    refine pick_frame (by simp [go_sem]; exact rfl) ?_
    generalize D.alloc (.cells sixV 9) = X1 at *
    refine pick_op (i := 6) (v := .pointer (some ⟨D.heap.size, r.toNat, none⟩)) (by kernel_rfl) rfl (by kernel_rfl) (by kernel_rfl) rfl rfl (fun w' hw => by simp [go_sem, hr0, hr1]) c1 (by simp [go_sem]; exact rfl) ?_
    refine pick_more (fun w' => w'.cell? ⟨G, 3, none⟩ = some (.int .i64 N) ∧ w'.cell? ⟨D.heap.size, r.toNat, none⟩ = some (.string y)) (fun w h => h.1) ?_
    refine pick_op (i := 7) (v := .string y) (by kernel_rfl) rfl (by kernel_rfl) (by kernel_rfl) rfl rfl (fun w' hw => by simp [go_sem, hw.2]) ⟨c1, cy⟩ (by simp [go_sem]; exact rfl) ?_
    refine pick_enter (i := 13) (f := 55) (args := #[.int .i64 m]) rfl (by kernel_rfl) rfl rfl (by simp [go_sem]) ?_
    refine (HD.out X1).mono ?_
    rintro e X2 ⟨rfl, hb⟩
    have HB2 := hid hb
    have c2 := (hb.cell (p := ⟨G, 3, none⟩) (block_lt_of_cell c1)).trans c1
    have cy2 := (hb.cell (p := ⟨D.heap.size, r.toNat, none⟩) hq).trans cy
    clear hb
    refine ⟨_, rfl, ⟨c2, cy2⟩, ?_⟩
    refine pick_frame (by simp [go_sem]; exact rfl) ?_
    refine pick_op (i := 14) (v := .string (y ++ x)) (by kernel_rfl) rfl (by kernel_rfl) (by kernel_rfl) rfl rfl (fun w' hw => by simp [go_sem, HY.out]; omega) ⟨c2, cy2⟩ (by simp [go_sem]; exact rfl) ?_
    refine pick_op (i := 15) (v := .string (y ++ x)) (by kernel_rfl) rfl (by kernel_rfl) (by kernel_rfl) rfl rfl (fun w' hw => by simp [go_sem]) ⟨c2, cy2⟩ (by simp [go_sem]; exact rfl) ?_
    refine pick_end (by kernel_rfl) ?_
    go_wp2_with fail
    go_ret
    exact ⟨_, rfl, by unfold Brief; rw [ByteArray.size_append, HY.out]; have := HX.out; omega, (HN1.out.1.below HB1.out).below HB2.out, HN1.out.2.trans ((Grew.of_below HB1.out).trans (Grew.of_below HB2.out))⟩
  · refine ⟨_, 55, #[.int .i64 m], rfl, rfl, by simp [go_sem], ?_⟩
    refine (HD.out D).mono ?_
    rintro e X1 ⟨rfl, hb⟩
    have HB1 := hid hb
    have c1 := (hb.cell (p := ⟨G, 3, none⟩) hGD).trans cD
    have hGX : G < X1.heap.size := block_lt_of_cell c1
    clear hb
    refine ⟨_, rfl, c1, ?_⟩
    refine pick_frame (by simp [go_sem]; exact rfl) ?_
    have cy := six_cell (X := X1) r y hsix
    have c2 := cell_old (o := .cells sixV 9) hGX c1
    have HB2 : Hid (Below X1.heap.size X1 (X1.alloc (.cells sixV 9))) := (Below.refl _ _).alloc (Nat.le_refl _) _
    refine pick_make (i := 0) (v := .slice (some ⟨X1.heap.size, 0, none⟩) 6 6) (w1 := X1.alloc (.cells sixV 9)) rfl (by kernel_rfl) rfl rfl (by simp [go_sem, sixV]) c2 (by simp [go_sem]; exact rfl) ?_
    generalize X1.alloc (.cells sixV 9) = X2 at *
    refine pick_op (i := 6) (v := .pointer (some ⟨X1.heap.size, r.toNat, none⟩)) (by kernel_rfl) rfl (by kernel_rfl) (by kernel_rfl) rfl rfl (fun w' hw => by simp [go_sem, hr0, hr1]) c2 (by simp [go_sem]; exact rfl) ?_
    refine pick_more (fun w' => w'.cell? ⟨G, 3, none⟩ = some (.int .i64 N) ∧ w'.cell? ⟨X1.heap.size, r.toNat, none⟩ = some (.string y)) (fun w h => h.1) ?_
    refine pick_op (i := 7) (v := .string y) (by kernel_rfl) rfl (by kernel_rfl) (by kernel_rfl) rfl rfl (fun w' hw => by simp [go_sem, hw.2]) ⟨c2, cy⟩ (by simp [go_sem]; exact rfl) ?_
    refine pick_op (i := 14) (v := .string (y ++ x)) (by kernel_rfl) rfl (by kernel_rfl) (by kernel_rfl) rfl rfl (fun w' hw => by simp [go_sem, HY.out]; omega) ⟨c2, cy⟩ (by simp [go_sem]; exact rfl) ?_
    refine pick_op (i := 15) (v := .string (y ++ x)) (by kernel_rfl) rfl (by kernel_rfl) (by kernel_rfl) rfl rfl (fun w' hw => by simp [go_sem]) ⟨c2, cy⟩ (by simp [go_sem]; exact rfl) ?_
    refine pick_end (by kernel_rfl) ?_
    go_wp2_with fail
    go_ret
    exact ⟨_, rfl, by unfold Brief; rw [ByteArray.size_append, HY.out]; have := HX.out; omega, (HN1.out.1.below HB1.out).below HB2.out, HN1.out.2.trans ((Grew.of_below HB1.out).trans (Grew.of_below HB2.out))⟩
end Go.Proofs.Ytnhofdngmbnlkaa

/- A name more is known; a name of a type is drawn; something small is drawn. -/
namespace Go.Proofs.Ytnhofdngmbnlkaa
open Go.RowKit Go.Deep

theorem knows_owns {d : Dr} {W : World} {B : Nat} {v : Value} {ks : List Kn} (h : W.ownsRow B 100 3 v ks.length (rowZ Kn.cell 3 ks)) (hb : ∀ k ∈ ks, Brief k.name) (h1 : d.B < B) (h2 : d.G < B) : KnowsD d W v ks :=
  ⟨lies_owns (by decide) h h1 h2, hb⟩

/-- One thing in a slice of its own, just written out. -/
theorem know_lit {d : Dr} (W : World) (k : Kn) (h1 : d.B < W.heap.size) (h2 : d.G < W.heap.size) : Lies d (W.alloc (.cells #[.string k.name, .int .i64 k.ty, .int .i64 k.res] 100)) (.slice (some ⟨W.heap.size, 0, none⟩) 1 1) [k].length 3 (fun i => Kn.cell ([k].getD (i / 3) default) (i % 3)) :=
  lies_lit (f := Kn.cell) (sz := 3) (by decide) W 100 [k] _ rfl h1 h2

theorem kadd_step {W wr W' : World} {acc ks : List Kn} {out v' : Value} {o : Obj} (h : wr.ownsRow W.heap.size 100 3 out acc.length (rowZ Kn.cell 3 acc) ∧ Below W.heap.size W wr ∧ ∀ k ∈ acc, Brief k.name) (hk : ∀ k ∈ ks, Brief k.name) (h' : W'.ownsRow W.heap.size 100 3 v' (acc ++ ks).length (rowZ Kn.cell 3 (acc ++ ks)) ∧ (wr.alloc o).grownBy W' out.ownBlock) :
    W'.ownsRow W.heap.size 100 3 v' (acc ++ ks).length (rowZ Kn.cell 3 (acc ++ ks)) ∧ Below W.heap.size W W' ∧ ∀ k ∈ acc ++ ks, Brief k.name :=
  ⟨h'.1, (h.2.1.alloc h.2.1.size o).grown h'.2 (by have := h.2.1.size; simp; omega) (fun k hk => (h.1.lt k hk).1), fun k hx => by
    rw [List.mem_append] at hx
    rcases hx with hx | hx
    · exact h.2.2 k hx
    · exact hk k hx⟩

set_option maxHeartbeats 4000000 in
set_option maxRecDepth 100000 in
theorem kadd_calls {d : Dr} {v : Value} {ks : List Kn} (nm : ByteArray) (ty res : Int) (W : World) (h1 : d.B < W.heap.size) (h2 : d.G < W.heap.size) (hk : KnowsD d W v ks) (hb : Brief nm) (hl : ks.length ≤ 1000) :
    Calls Try.prog 62 #[v, .string nm, .int .i64 ty, .int .i64 res] W fun e W' => ∃ u, e = .returned u ∧ ∃ ks', KnowsD d W' u ks' ∧ ks'.length ≤ ks.length + 1 ∧ Below W.heap.size W W' := by
  obtain ⟨L, hL⟩ : ∃ L, ks.length = L := ⟨_, rfl⟩
  have HK := hid hk
  have HL := hid (And.intro hL (And.intro hl (And.intro hb (And.intro h1 h2))))
  obtain ⟨ad, cp, rfl⟩ := hk.is
  rw [hL] at HK ⊢
  clear hk hb hl h1 h2 hL
  obtain ⟨i0, hinf, hz0, hz1, hz2⟩ := info_parts info_know
  go_enter Try.func62, Try.ntmps62
  go_wp2_with fail
  go_loopw [9, 10] (fun out i wr => ∃ (i' : Nat) (acc : List Kn), i = .int .i64 i' ∧ i' ≤ L ∧ Hid (acc.length ≤ i') ∧ Hid (wr.ownsRow W.heap.size 100 3 out acc.length (rowZ Kn.cell 3 acc) ∧ Below W.heap.size W wr ∧ ∀ k ∈ acc, Brief k.name)) (fun _ i _ => L - (intOf i).toNat)
  case atStart => exact ⟨0, [], rfl, Nat.zero_le _, Nat.zero_le _, World.ownsRow_nil _ _ _ _, Below.refl _ _, fun k hk => by simp at hk⟩
  case round =>
    obtain ⟨i', acc, rfl, hle, HA, HO⟩ := hrel
    by_cases hi : (i' : Int) < (L : Int)
    · obtain ⟨b, off, xn, xt, xr, rfl, -, hbr, hq, c0, c1, c2⟩ := HK.out.at (i := i') (by omega)
      have c0 := (HO.out.2.1.cell (p := ⟨b, off + i' * 3, none⟩) hq.1).trans c0
      have c1 := (HO.out.2.1.cell (p := ⟨b, off + i' * 3 + 1, none⟩) hq.1).trans c1
      have c2 := (HO.out.2.1.cell (p := ⟨b, off + i' * 3 + 2, none⟩) hq.1).trans c2
      have hi0 : (0 : Int) ≤ (i' : Int) := by omega
      have hstep : L - (intOf (.int .i64 ((i' + 1 : Nat) : Int))).toNat < L - (intOf (.int .i64 (i' : Int))).toNat := lt_step hi
      have HBr : Hid (∀ k ∈ [(⟨xn, xt, xr⟩ : Kn)], Brief k.name) := fun k hk => by rw [List.mem_singleton] at hk; rw [hk]; exact hbr
      have HS := hid (And.intro (show d.B < wr.heap.size by have := HO.out.2.1.size; have := HL.out; omega) (show d.G < wr.heap.size by have := HO.out.2.1.size; have := HL.out; omega))
      clear hbr hq
      go_wp2_with (at_builtin; refine wpList_append_by rfl _ _ 88 rfl _ _ rfl rfl (fun ty => app_row kn_one Try.underlying88 hinf hz0 hz1 hz2 rfl (by decide) (by decide) (HO.out.1.alloc _) (know_lit wr ⟨xn, xt, xr⟩ HS.out.1 HS.out.2) (by have := HA.out; have := HL.out; simp; omega) (by have := HO.out.2.1.size; simp; omega) ty) ?_; intro v5 w5 hv5; have HO5 := hid (kadd_step HO.out HBr.out hv5); clear hv5)
      · try rw [wrap_succ (by have := HL.out; omega)]
        exact ⟨⟨i' + 1, acc ++ [⟨xn, xt, xr⟩], rfl, by omega, by show _ ≤ _; have := HA.out; simp; omega, HO5⟩, hstep⟩
      · try rw [wrap_succ (by have := HL.out; omega)]
        exact ⟨⟨i' + 1, acc, rfl, by omega, by show _ ≤ _; have := HA.out; omega, HO⟩, hstep⟩
    · have e : i' = L := by omega
      subst e
      have HBr : Hid (∀ k ∈ [(⟨nm, ty, res⟩ : Kn)], Brief k.name) := fun k hk => by rw [List.mem_singleton] at hk; rw [hk]; exact HL.out.2.2.1
      have HS := hid (And.intro (show d.B < wr.heap.size by have := HO.out.2.1.size; have := HL.out; omega) (show d.G < wr.heap.size by have := HO.out.2.1.size; have := HL.out; omega))
      go_wp2_with (at_builtin; refine wpList_append_by rfl _ _ 88 rfl _ _ rfl rfl (fun ty_ => app_row kn_one Try.underlying88 hinf hz0 hz1 hz2 rfl (by decide) (by decide) (HO.out.1.alloc _) (know_lit wr ⟨nm, ty, res⟩ HS.out.1 HS.out.2) (by have := HA.out; have := HL.out; simp; omega) (by have := HO.out.2.1.size; simp; omega) ty_) ?_; intro v5 w5 hv5; have HO5 := hid (kadd_step HO.out HBr.out hv5); clear hv5)
      go_ret
      refine ⟨_, rfl, acc ++ [⟨nm, ty, res⟩], knows_owns HO5.out.1 HO5.out.2.2 HL.out.2.2.2.1 HL.out.2.2.2.2, ?_, HO5.out.2.1⟩
      have := HA.out
      simp
      omega

/-- What a draw of nodes comes to: nodes, and not too much spent. -/
def NodesPost (d : Dr) (ve : Value) (W : World) (s : Cn) (c : Nat) (e : Ending) (W' : World) : Prop :=
  ∃ v ns s' t, e = .returned v ∧ NodesD d W' v ns ∧ (1 ≤ ns.length ∧ ns.length ≤ t) ∧ Gen d ve W' s' ∧ Grew d W W' ∧ Spent s s' t c

/-- The same, or no nodes. -/
def NodesPost0 (d : Dr) (ve : Value) (W : World) (s : Cn) (c : Nat) (e : Ending) (W' : World) : Prop :=
  ∃ v ns s' t, e = .returned v ∧ NodesD d W' v ns ∧ ns.length ≤ t ∧ Gen d ve W' s' ∧ Grew d W W' ∧ Spent s s' t c

theorem nodes_none (d : Dr) (W : World) : NodesD d W (.slice none 0 0) [] := ⟨Or.inl ⟨rfl, rfl⟩, fun n hn => by simp at hn⟩

theorem Spent.refl (s : Cn) (c : Nat) : Spent s s 0 c := ⟨by omega, by omega, by omega, by omega, by omega⟩

theorem nd_lit {d : Dr} (W : World) (n : Nd) (h1 : d.B < W.heap.size) (h2 : d.G < W.heap.size) (hb : Brief n.a ∧ Brief n.b ∧ Brief n.c) : NodesD d (W.alloc (.cells #[.int .i64 n.kind, .int .i64 n.num, .string n.a, .string n.b, .string n.c, .int .i64 n.kids] 65)) (.slice (some ⟨W.heap.size, 0, none⟩) 1 1) [n] :=
  ⟨lies_lit (f := Nd.cell) (sz := 6) (by decide) W 65 [n] _ rfl h1 h2, fun x hx => by rw [List.mem_singleton] at hx; rw [hx]; exact hb⟩

set_option maxHeartbeats 4000000 in
set_option maxRecDepth 100000 in
/-- A name that is known. -/
theorem gknown_calls {d : Dr} {ve v : Value} {W : World} {s : Cn} {ks : List Kn} (ty : Int) (h : Gen d ve W s) (hp : s.p ≤ 1000000) (hk : KnowsD d W v ks) (hl : ks.length ≤ 1000) :
    Calls Try.prog 73 #[.pointer (some ⟨d.G, 0, none⟩), v, .int .i64 ty] W (NodesPost0 d ve W s 1) := by
  obtain ⟨L, hL⟩ : ∃ L, ks.length = L := ⟨_, rfl⟩
  have HK := hid hk
  have HG := hid h
  have HL := hid (And.intro hL (And.intro hl hp))
  have g0 := h.c0
  obtain ⟨ad, cp, rfl⟩ := hk.is
  rw [hL] at HK ⊢
  obtain ⟨G, hGe⟩ : ∃ G, d.G = G := ⟨_, rfl⟩
  have HGe := hid hGe
  obtain ⟨B, hBe⟩ : ∃ B, d.B = B := ⟨_, rfl⟩
  have HBe := hid hBe
  rw [hGe, hBe] at g0
  rw [hGe]
  clear hk hl hp hL h hGe hBe
  go_enter Try.func73, Try.ntmps73
  go_wp2_with fail
  go_loopw [7, 8] (fun n i wr => ∃ (i' n' : Nat), n = .int .i64 n' ∧ i = .int .i64 i' ∧ i' ≤ L ∧ Hid (n' ≤ i') ∧ wr = W) (fun _ i _ => L - (intOf i).toNat)
  case atStart => exact ⟨0, 0, rfl, rfl, Nat.zero_le _, Nat.zero_le _, rfl⟩
  case round =>
    obtain ⟨i', n', rfl, rfl, hle, HN, rfl⟩ := hrel
    by_cases hi : (i' : Int) < (L : Int)
    · obtain ⟨b, off, xn, xt, xr, rfl, -, -, hq, c0, c1, c2⟩ := HK.out.at (i := i') (by omega)
      have hi0 : (0 : Int) ≤ (i' : Int) := by omega
      have hstep : L - (intOf (.int .i64 ((i' + 1 : Nat) : Int))).toNat < L - (intOf (.int .i64 (i' : Int))).toNat := lt_step hi
      clear hq c0 c2
      go_wp2_with fail
      · rw [wrap_succ (x := i') (by have := HL.out; omega), wrap_succ (x := n') (by have := HL.out; have := HN.out; omega)]
        exact ⟨⟨i' + 1, n' + 1, rfl, rfl, by omega, by show _ ≤ _; have := HN.out; omega, by first | rfl | trivial⟩, hstep⟩
      · rw [wrap_succ (x := i') (by have := HL.out; omega)]
        exact ⟨⟨i' + 1, n', rfl, rfl, by omega, by show _ ≤ _; have := HN.out; omega, by first | rfl | trivial⟩, hstep⟩
    · rename World => Wo
      by_cases hn0 : n' = 0
      · subst hn0
        go_wp2_with fail
        go_ret
        exact ⟨_, [], s, 0, rfl, nodes_none _ _, by simp, HG.out, Grew.refl _ _, Spent.refl _ _⟩
      · have hz : ((n' : Int) == 0) = false := by simp; omega
        have HP := hid (gen_pick HG.out (by have := HL.out; omega) (n' : Int) (by omega))
        rw [HBe.out] at HP
        go_wp2_with fail
        refine HP.out.mono ?_
        rintro e W2 ⟨k0, rfl, hk0, hk1, hg2, hgr2⟩
        have HG2 := hid (And.intro hg2 hgr2)
        have HK2 := hid (HK.out.grew hgr2)
        have HKk : Hid (k0 ≤ 1000) := by show _ ≤ _; have := HL.out; have := HN.out; omega
        clear HP hk1 hg2 hgr2 HK HG g0 hz hn0
        go_wp2_with fail
        go_loopw [9, 10] (fun k i wr => ∃ (i' : Nat) (k' : Int), k = .int .i64 k' ∧ i = .int .i64 i' ∧ i' ≤ L ∧ 0 ≤ k' ∧ Hid (k' ≤ 1000) ∧ wr = W2) (fun _ i _ => L - (intOf i).toNat)
        case atStart => exact ⟨0, k0, rfl, rfl, Nat.zero_le _, hk0, HKk, rfl⟩
        case round =>
          obtain ⟨i2, k2, rfl, rfl, hle2, hk20, HK21, rfl⟩ := hrel
          by_cases hi2 : (i2 : Int) < (L : Int)
          · obtain ⟨b, off, xn, xt, xr, rfl, -, hbr, hq, c0, c1, c2⟩ := HK2.out.at (i := i2) (by omega)
            have HBr := hid hbr
            have hi0 : (0 : Int) ≤ (i2 : Int) := by omega
            have hstep : L - (intOf (.int .i64 ((i2 + 1 : Nat) : Int))).toNat < L - (intOf (.int .i64 (i2 : Int))).toNat := lt_step hi2
            clear hq c2 hbr
            by_cases hk2 : k2 = 0
            · subst hk2
              go_wp2_with fail
              · go_ret
                exact ⟨_, [⟨5, 0, xn, ByteArray.empty, ByteArray.empty, 0⟩], _, 1, rfl, nd_lit wr ⟨5, 0, xn, ByteArray.empty, ByteArray.empty, 0⟩ HG2.out.1.ltB HG2.out.1.ltG ⟨HBr.out, brief_none, brief_none⟩, by simp, HG2.out.1.alloc _, HG2.out.2.alloc _, by unfold Spent; dsimp only; omega⟩
              · rw [wrap_succ (x := i2) (by have := HL.out; omega)]
                exact ⟨⟨i2 + 1, 0, rfl, rfl, by omega, Int.le_refl _, by show _ ≤ _; omega, by first | rfl | trivial⟩, hstep⟩
            · have hz2 : (k2 == 0) = false := by simp [hk2]
              have HW : Hid (wrap64 (k2 - 1) = k2 - 1) := by show _ = _; have := HK21.out; unfold wrap64; omega
              go_wp2_with fail
              · rw [wrap_succ (x := i2) (by have := HL.out; omega)]
                try rw [HW.out]
                exact ⟨⟨i2 + 1, k2 - 1, rfl, rfl, by omega, by omega, by show _ ≤ _; have := HK21.out; omega, by first | rfl | trivial⟩, hstep⟩
              · rw [wrap_succ (x := i2) (by have := HL.out; omega)]
                exact ⟨⟨i2 + 1, k2, rfl, rfl, by omega, hk20, HK21, by first | rfl | trivial⟩, hstep⟩
          · go_wp2_with fail
            go_ret
            exact ⟨_, [], _, 1, rfl, nodes_none _ _, by simp, HG2.out.1, HG2.out.2, by unfold Spent; dsimp only; omega⟩

/-- Where a draw stands: the drawer, what it left alone, what it spent. -/
def At (d : Dr) (ve : Value) (W : World) (s : Cn) (X : World) (s' : Cn) (t c : Nat) : Prop := Gen d ve X s' ∧ Grew d W X ∧ Spent s s' t c

theorem Spent.trans {s s1 s2 : Cn} {t t' c c' : Nat} (h : Spent s s1 t c) (g : Spent s1 s2 t' c') : Spent s s2 (t + t') (c + c') := by
  unfold Spent at h g ⊢
  omega

theorem Spent.mono {s s1 : Cn} {t c c' : Nat} (h : Spent s s1 t c) (hc : c ≤ c') : Spent s s1 t c' := by
  unfold Spent at h ⊢
  omega

theorem At.start {d : Dr} {ve : Value} {W : World} {s : Cn} (h : Gen d ve W s) : At d ve W s W s 0 0 := ⟨h, Grew.refl _ _, Spent.refl _ _⟩

theorem At.step {d : Dr} {ve : Value} {W X X' : World} {s s1 s2 : Cn} {t t' c c' : Nat} (h : At d ve W s X s1 t c) (h1 : Gen d ve X' s2) (h2 : Grew d X X') (h3 : Spent s1 s2 t' c') : At d ve W s X' s2 (t + t') (c + c') := ⟨h1, h.2.1.trans h2, h.2.2.trans h3⟩

theorem At.below {d : Dr} {ve : Value} {W X X' : World} {s s1 : Cn} {t c : Nat} (h : At d ve W s X s1 t c) (hb : Below X.heap.size X X') : At d ve W s X' s1 t c := ⟨h.1.below hb, h.2.1.trans (Grew.of_below hb), h.2.2⟩

theorem At.alloc {d : Dr} {ve : Value} {W X : World} {s s1 : Cn} {t c : Nat} (h : At d ve W s X s1 t c) (o : Obj) : At d ve W s (X.alloc o) s1 t c := h.below ((Below.refl _ _).alloc (Nat.le_refl _) o)

theorem At.drew {d : Dr} {ve : Value} {W X : World} {s s1 : Cn} {t c : Nat} (h : At d ve W s X s1 t c) : At d ve W s X.drew s1 t c := ⟨h.1.drew, h.2.1.drew, h.2.2⟩

theorem At.fit {d : Dr} {ve : Value} {W X : World} {s s1 : Cn} {t c C : Nat} (h : At d ve W s X s1 t c) (hf : Fit s C) (C' : Nat) (hc : c + C' ≤ C) : Fit s1 C' := by
  have h3 := h.2.2
  unfold Spent at h3
  unfold Fit at hf ⊢
  omega

theorem At.done {d : Dr} {ve : Value} {W X : World} {s s1 : Cn} {t c C : Nat} {v : Value} {ns : List Nd} (h : At d ve W s X s1 t c) (k : Nat) (hn : NodesD d X v ns) (hl : 1 ≤ ns.length ∧ ns.length ≤ t + k) (hc : c + k ≤ C) : NodesPost d ve W s C (.returned v) X :=
  ⟨v, ns, s1, t + k, rfl, hn, hl, h.1, h.2.1, by have h3 := h.2.2; unfold Spent at h3 ⊢; omega⟩

theorem At.done0 {d : Dr} {ve : Value} {W X : World} {s s1 : Cn} {t c C : Nat} {v : Value} {ns : List Nd} (h : At d ve W s X s1 t c) (k : Nat) (hn : NodesD d X v ns) (hl : ns.length ≤ t + k) (hc : c + k ≤ C) : NodesPost0 d ve W s C (.returned v) X :=
  ⟨v, ns, s1, t + k, rfl, hn, hl, h.1, h.2.1, by have h3 := h.2.2; unfold Spent at h3 ⊢; omega⟩

/-- A number is drawn. -/
theorem At.pick {d : Dr} {ve : Value} {W X : World} {s s1 : Cn} {t c C : Nat} (h : At d ve W s X s1 t c) (hf : Fit s C) (hc : c < C) (n : Int) (hn : 0 < n) :
    Calls Try.prog 13 #[.pointer (some ⟨d.B, 0, none⟩), .int .i64 n] X fun e X' => ∃ (m : Int) (s2 : Cn), e = .returned (.int .i64 m) ∧ 0 ≤ m ∧ m < n ∧ At d ve W s X' s2 (t + 1) (c + 1) ∧ Grew d X X' := by
  have hf1 := h.fit hf 1 (by omega)
  refine (gen_pick h.1 (by unfold Fit at hf1; omega) n hn).mono ?_
  rintro e X' ⟨m, rfl, h0, h1, hg, hgr⟩
  exact ⟨m, _, rfl, h0, h1, h.step hg hgr (by unfold Spent; dsimp only; omega), hgr⟩

/-- A name is drawn. -/
theorem At.name {d : Dr} {ve : Value} {W X : World} {s s1 : Cn} {t c C : Nat} (h : At d ve W s X s1 t c) (hf : Fit s C) (hc : c < C) :
    Calls Try.prog 61 #[.pointer (some ⟨d.G, 0, none⟩)] X fun e X' => ∃ (x : ByteArray) (s2 : Cn), e = .returned (.string x) ∧ Brief x ∧ At d ve W s X' s2 (t + 1) (c + 1) ∧ Grew d X X' := by
  have hf1 := h.fit hf 1 (by omega)
  refine (name_calls h.1 (by unfold Fit at hf1; omega)).mono ?_
  rintro e X' ⟨x, rfl, hb, hg, hgr⟩
  exact ⟨x, _, rfl, hb, h.step hg hgr (by unfold Spent; dsimp only; omega), hgr⟩

/-- What draws nodes, from where a draw stands. -/
theorem At.nodes {d : Dr} {ve : Value} {W X : World} {s s1 : Cn} {t c c' : Nat} {f : FuncId} {args : Array Value} (h : At d ve W s X s1 t c) (hc : Calls Try.prog f args X (NodesPost d ve X s1 c')) :
    Calls Try.prog f args X fun e X' => ∃ v ns s2 t', e = .returned v ∧ NodesD d X' v ns ∧ (1 ≤ ns.length ∧ ns.length ≤ t') ∧ At d ve W s X' s2 (t + t') (c + c') ∧ Grew d X X' := by
  refine hc.mono ?_
  rintro e X' ⟨v, ns, s2, t', rfl, hn, hl, hg, hgr, hsp⟩
  exact ⟨v, ns, s2, t', rfl, hn, hl, h.step hg hgr hsp, hgr⟩

theorem At.nodes0 {d : Dr} {ve : Value} {W X : World} {s s1 : Cn} {t c c' : Nat} {f : FuncId} {args : Array Value} (h : At d ve W s X s1 t c) (hc : Calls Try.prog f args X (NodesPost0 d ve X s1 c')) :
    Calls Try.prog f args X fun e X' => ∃ v ns s2 t', e = .returned v ∧ NodesD d X' v ns ∧ ns.length ≤ t' ∧ At d ve W s X' s2 (t + t') (c + c') ∧ Grew d X X' := by
  refine hc.mono ?_
  rintro e X' ⟨v, ns, s2, t', rfl, hn, hl, hg, hgr, hsp⟩
  exact ⟨v, ns, s2, t', rfl, hn, hl, h.step hg hgr hsp, hgr⟩

/-- One node alone. -/
theorem At.node {d : Dr} {ve : Value} {W X : World} {s s1 : Cn} {t c : Nat} (h : At d ve W s X s1 t c) (k n : Int) :
    Calls Try.prog 47 #[.int .i64 k, .int .i64 n] X fun e X' => ∃ v ns, e = .returned v ∧ NodesD d X' v ns ∧ ns.length = 1 ∧ At d ve W s X' s1 t c ∧ Grew d X X' := by
  refine (node_calls (d := d) k n X h.1.ltB h.1.ltG).mono ?_
  rintro e X' ⟨v, rfl, hn, hb⟩
  exact ⟨v, _, rfl, hn, rfl, h.below hb, Grew.of_below hb⟩

/-- A name more is known. -/
theorem At.add {d : Dr} {ve v : Value} {W X : World} {s s1 : Cn} {t c : Nat} {ks : List Kn} (h : At d ve W s X s1 t c) (nm : ByteArray) (ty res : Int) (hk : KnowsD d X v ks) (hb : Brief nm) (hl : ks.length ≤ 1000) :
    Calls Try.prog 62 #[v, .string nm, .int .i64 ty, .int .i64 res] X fun e X' => ∃ u ks', e = .returned u ∧ KnowsD d X' u ks' ∧ ks'.length ≤ ks.length + 1 ∧ At d ve W s X' s1 t c ∧ Grew d X X' := by
  refine (kadd_calls nm ty res X h.1.ltB h.1.ltG hk hb hl).mono ?_
  rintro e X' ⟨u, rfl, ks', hk', hl', hbl⟩
  exact ⟨u, ks', rfl, hk', hl', h.below hbl, Grew.of_below hbl⟩

theorem kids_lit {d : Dr} {X : World} (ls : List (Value × List Nd)) (c : Array Value) (hc : c = (ls.map Prod.fst).toArray) (h1 : d.B < X.heap.size) (h2 : d.G < X.heap.size) (h : ∀ x ∈ ls, NodesD d X x.1 x.2) :
    KidsV d (X.alloc (.cells c 43)) (.slice (some ⟨X.heap.size, 0, none⟩) ls.length ls.length) ls := by
  subst hc
  have hh := (MapKept.heap_alloc X (.cells (ls.map Prod.fst).toArray 43)).1
  refine ⟨Or.inr ⟨_, 0, _, rfl, Nat.le_refl _, rfl, ⟨heap_lt hh, by omega, by omega⟩, fun i hi => ?_⟩, fun x hx => (h x hx).grew (Grew.of_below ((Below.refl _ _).alloc (Nat.le_refl _) _))⟩
  rw [Nat.zero_add, cell_of_heap hh i, List.getElem?_toArray]
  rw [Nat.mul_one] at hi
  simp [List.getD, hi]

/-- Nodes put together. -/
theorem At.put {d : Dr} {ve : Value} {W X : World} {s s1 : Cn} {t c : Nat} (h : At d ve W s X s1 t c) (ls : List (Value × List Nd)) (cs : Array Value) (m : Nat) (k nm kd : Int) (a b e' : ByteArray) (hc : cs = (ls.map Prod.fst).toArray) (hm : m = ls.length) (hls : ∀ x ∈ ls, NodesD d X x.1 x.2) (hb : Brief a ∧ Brief b ∧ Brief e') (hl : ls.length ≤ 1000) (hfl : (flatL ls).length ≤ 800000) :
    Calls Try.prog 60 #[.agg #[.int .i64 k, .int .i64 nm, .string a, .string b, .string e', .int .i64 kd], .slice (some ⟨X.heap.size, 0, none⟩) m m] (X.alloc (.cells cs 43)) fun e X' => ∃ v ns, e = .returned v ∧ NodesD d X' v ns ∧ ns.length = 1 + (flatL ls).length ∧ At d ve W s X' s1 t c ∧ Grew d X X' := by
  subst hm
  have hB : (X.alloc (.cells cs 43)).heap.size = X.heap.size + 1 := by simp
  refine (gput_calls (d := d) k nm kd a b e' (X.alloc (.cells cs 43)) _ ls (by rw [hB]; have := h.1.ltB; omega) (by rw [hB]; have := h.1.ltG; omega) (kids_lit ls cs hc h.1.ltB h.1.ltG hls) hb hl hfl).mono ?_
  rintro e X' ⟨v, rfl, hn, hbl⟩
  exact ⟨v, _, rfl, hn, by simp; omega, (h.alloc _).below hbl, (Grew.of_below ((Below.refl _ _).alloc (Nat.le_refl _) _)).trans (Grew.of_below hbl)⟩

theorem At.put1 {d : Dr} {ve : Value} {W X : World} {s s1 : Cn} {t c : Nat} (h : At d ve W s X s1 t c) (k nm kd : Int) (a b e' : ByteArray) {v1 : Value} {n1 : List Nd} (h1 : NodesD d X v1 n1) (hb : Brief a ∧ Brief b ∧ Brief e') (hfl : n1.length ≤ 800000) :
    Calls Try.prog 60 #[.agg #[.int .i64 k, .int .i64 nm, .string a, .string b, .string e', .int .i64 kd], .slice (some ⟨X.heap.size, 0, none⟩) 1 1] (X.alloc (.cells #[v1] 43)) fun e X' => ∃ v ns, e = .returned v ∧ NodesD d X' v ns ∧ ns.length = 1 + n1.length ∧ At d ve W s X' s1 t c ∧ Grew d X X' := by
  have hf : (flatL [(v1, n1)]).length = n1.length := by simp [flatL]
  rw [← hf]
  exact h.put [(v1, n1)] _ 1 k nm kd a b e' rfl rfl (fun x hx => by simp at hx; subst hx; exact h1) hb (by simp) (by omega)

theorem At.put2 {d : Dr} {ve : Value} {W X : World} {s s1 : Cn} {t c : Nat} (h : At d ve W s X s1 t c) (k nm kd : Int) (a b e' : ByteArray) {v1 v2 : Value} {n1 n2 : List Nd} (h1 : NodesD d X v1 n1) (h2 : NodesD d X v2 n2) (hb : Brief a ∧ Brief b ∧ Brief e') (hfl : n1.length + n2.length ≤ 800000) :
    Calls Try.prog 60 #[.agg #[.int .i64 k, .int .i64 nm, .string a, .string b, .string e', .int .i64 kd], .slice (some ⟨X.heap.size, 0, none⟩) 2 2] (X.alloc (.cells #[v1, v2] 43)) fun e X' => ∃ v ns, e = .returned v ∧ NodesD d X' v ns ∧ ns.length = 1 + (n1.length + n2.length) ∧ At d ve W s X' s1 t c ∧ Grew d X X' := by
  have hf : (flatL [(v1, n1), (v2, n2)]).length = n1.length + n2.length := by simp [flatL]
  rw [← hf]
  exact h.put [(v1, n1), (v2, n2)] _ 2 k nm kd a b e' rfl rfl (fun x hx => by simp at hx; rcases hx with rfl | rfl; exact h1; exact h2) hb (by simp) (by omega)

theorem At.put3 {d : Dr} {ve : Value} {W X : World} {s s1 : Cn} {t c : Nat} (h : At d ve W s X s1 t c) (k nm kd : Int) (a b e' : ByteArray) {v1 v2 v3 : Value} {n1 n2 n3 : List Nd} (h1 : NodesD d X v1 n1) (h2 : NodesD d X v2 n2) (h3 : NodesD d X v3 n3) (hb : Brief a ∧ Brief b ∧ Brief e') (hfl : n1.length + n2.length + n3.length ≤ 800000) :
    Calls Try.prog 60 #[.agg #[.int .i64 k, .int .i64 nm, .string a, .string b, .string e', .int .i64 kd], .slice (some ⟨X.heap.size, 0, none⟩) 3 3] (X.alloc (.cells #[v1, v2, v3] 43)) fun e X' => ∃ v ns, e = .returned v ∧ NodesD d X' v ns ∧ ns.length = 1 + (n1.length + n2.length + n3.length) ∧ At d ve W s X' s1 t c ∧ Grew d X X' := by
  have hf : (flatL [(v1, n1), (v2, n2), (v3, n3)]).length = n1.length + n2.length + n3.length := by simp [flatL]; omega
  rw [← hf]
  exact h.put [(v1, n1), (v2, n2), (v3, n3)] _ 3 k nm kd a b e' rfl rfl (fun x hx => by simp at hx; rcases hx with rfl | rfl | rfl; exact h1; exact h2; exact h3) hb (by simp) (by omega)
end Go.Proofs.Ytnhofdngmbnlkaa

/- Something small is drawn. -/
namespace Go.Proofs.Ytnhofdngmbnlkaa
open Go.RowKit Go.Deep

/-- What is spent is bounded. -/
theorem At.bound {d : Dr} {ve : Value} {W X : World} {s s1 : Cn} {t c C : Nat} (h : At d ve W s X s1 t c) (hf : Fit s C) (hc : c ≤ C) (hC : C ≤ 1000) : t ≤ 400000 := by
  have h3 := h.2.2
  unfold Spent at h3
  unfold Fit at hf
  omega

set_option maxHeartbeats 4000000 in
set_option maxRecDepth 100000 in
/-- Something small of type 1. -/
theorem leaf1 {d : Dr} {ve v : Value} {W : World} {s : Cn} {ks : List Kn} (ty : Int) (ht : ty = 1) (h : Gen d ve W s) (hf : Fit s 4) (hk : KnowsD d W v ks) (hl : ks.length ≤ 999) :
    Calls Try.prog 59 #[.pointer (some ⟨d.G, 0, none⟩), .int .i64 ty, v] W (NodesPost d ve W s 4) := by
  have HF := hid hf
  have A0 := hid (At.start h)
  have HKn := hid hk
  have HKl := hid hl
  have HK := hid (A0.out.nodes0 (gknown_calls ty h (by unfold Fit at hf; omega) hk (by omega)))
  obtain ⟨ad, cp, rfl⟩ := hk.is
  clear hk hl h hf
  subst ht
  go_enter Try.func59, Try.ntmps59
  go_wp2_with fail
  refine HK.out.mono ?_
  rintro e X1 ⟨v1, n1, s1, t1, rfl, hn1, hl1, ha1, hg1⟩
  have A1 := hid ha1
  have N1 := hid (And.intro hn1 hl1)
  have G1 := hid hg1
  obtain ⟨ad1, cp1, rfl⟩ := hn1.is
  obtain ⟨l1, hl1e⟩ : ∃ l, n1.length = l := ⟨_, rfl⟩
  have HL1 := hid hl1e
  rw [hl1e] at N1 ⊢
  clear hn1 hl1 ha1 hg1 HK hl1e A0
  by_cases hz : l1 = 0
  · subst hz
    have g0 := A1.out.1.c0
    go_wp2_with fail
    refine (A1.out.pick HF.out (by omega) 10 (by decide)).mono ?_
    rintro e X2 ⟨m2, s2, rfl, hm2, hM2, ha, hg⟩
    have A2 := hid ha
    have G2 := hid hg
    clear ha hg
    clear g0
    go_wp2_with fail
    refine (A2.out.node 1 m2).mono ?_
    rintro e X3 ⟨v3, n3, rfl, hn3, hl3, ha, hg⟩
    have A3 := hid ha
    have G3 := hid hg
    clear ha hg
    have N3 := hid (And.intro hn3 hl3)
    obtain ⟨ad3, cp3, rfl⟩ := hn3.is
    clear hn3 hl3
    go_wp2_with fail
    go_ret
    exact A3.out.done 1 N3.out.1 (by have := N3.out.2; omega) (by omega)
  · have hz' : (0 : Int) < (l1 : Int) := by omega
    have g0 := A1.out.1.c0
    go_wp2_with fail
    refine (A1.out.pick HF.out (by omega) 3 (by decide)).mono ?_
    rintro e X2 ⟨m2, s2, rfl, hm2, hM2, ha, hg⟩
    have A2 := hid ha
    have G2 := hid hg
    clear ha hg
    clear g0
    by_cases hm : 0 < m2
    · go_wp2_with fail
      go_ret
      exact A2.out.done 0 (N1.out.1.grew G2.out) (by have := N1.out.2; have := HL1.out; omega) (by omega)
    · have hm0 : m2 = 0 := by omega
      subst hm0
      have g0 := A2.out.1.c0
      go_wp2_with fail
      refine (A2.out.pick HF.out (by omega) 10 (by decide)).mono ?_
      rintro e X3 ⟨m3, s3, rfl, hm3, hM3, ha, hg⟩
      have A3 := hid ha
      have G3 := hid hg
      clear ha hg
      clear g0
      go_wp2_with fail
      refine (A3.out.node 1 m3).mono ?_
      rintro e X4 ⟨v4, n4, rfl, hn4, hl4, ha, hg⟩
      have A4 := hid ha
      have G4 := hid hg
      clear ha hg
      have N4 := hid (And.intro hn4 hl4)
      obtain ⟨ad4, cp4, rfl⟩ := hn4.is
      clear hn4 hl4
      go_wp2_with fail
      go_ret
      exact A4.out.done 1 N4.out.1 (by have := N4.out.2; omega) (by omega)

set_option maxHeartbeats 4000000 in
set_option maxRecDepth 100000 in
/-- Something small of type 2. -/
theorem leaf2 {d : Dr} {ve v : Value} {W : World} {s : Cn} {ks : List Kn} (ty : Int) (ht : ty = 2) (h : Gen d ve W s) (hf : Fit s 4) (hk : KnowsD d W v ks) (hl : ks.length ≤ 999) :
    Calls Try.prog 59 #[.pointer (some ⟨d.G, 0, none⟩), .int .i64 ty, v] W (NodesPost d ve W s 4) := by
  have HF := hid hf
  have A0 := hid (At.start h)
  have HKn := hid hk
  have HKl := hid hl
  have HK := hid (A0.out.nodes0 (gknown_calls ty h (by unfold Fit at hf; omega) hk (by omega)))
  obtain ⟨ad, cp, rfl⟩ := hk.is
  clear hk hl h hf
  subst ht
  go_enter Try.func59, Try.ntmps59
  go_wp2_with fail
  refine HK.out.mono ?_
  rintro e X1 ⟨v1, n1, s1, t1, rfl, hn1, hl1, ha1, hg1⟩
  have A1 := hid ha1
  have N1 := hid (And.intro hn1 hl1)
  have G1 := hid hg1
  obtain ⟨ad1, cp1, rfl⟩ := hn1.is
  obtain ⟨l1, hl1e⟩ : ∃ l, n1.length = l := ⟨_, rfl⟩
  have HL1 := hid hl1e
  rw [hl1e] at N1 ⊢
  clear hn1 hl1 ha1 hg1 HK hl1e A0
  by_cases hz : l1 = 0
  · subst hz
    have g0 := A1.out.1.c0
    go_wp2_with fail
    refine (A1.out.pick HF.out (by omega) 2 (by decide)).mono ?_
    rintro e X2 ⟨m2, s2, rfl, hm2, hM2, ha, hg⟩
    have A2 := hid ha
    have G2 := hid hg
    clear ha hg
    clear g0
    go_wp2_with fail
    refine (A2.out.node 2 m2).mono ?_
    rintro e X3 ⟨v3, n3, rfl, hn3, hl3, ha, hg⟩
    have A3 := hid ha
    have G3 := hid hg
    clear ha hg
    have N3 := hid (And.intro hn3 hl3)
    obtain ⟨ad3, cp3, rfl⟩ := hn3.is
    clear hn3 hl3
    go_wp2_with fail
    go_ret
    exact A3.out.done 1 N3.out.1 (by have := N3.out.2; omega) (by omega)
  · have hz' : (0 : Int) < (l1 : Int) := by omega
    have g0 := A1.out.1.c0
    go_wp2_with fail
    refine (A1.out.pick HF.out (by omega) 3 (by decide)).mono ?_
    rintro e X2 ⟨m2, s2, rfl, hm2, hM2, ha, hg⟩
    have A2 := hid ha
    have G2 := hid hg
    clear ha hg
    clear g0
    by_cases hm : 0 < m2
    · go_wp2_with fail
      go_ret
      exact A2.out.done 0 (N1.out.1.grew G2.out) (by have := N1.out.2; have := HL1.out; omega) (by omega)
    · have hm0 : m2 = 0 := by omega
      subst hm0
      have g0 := A2.out.1.c0
      go_wp2_with fail
      refine (A2.out.pick HF.out (by omega) 2 (by decide)).mono ?_
      rintro e X3 ⟨m3, s3, rfl, hm3, hM3, ha, hg⟩
      have A3 := hid ha
      have G3 := hid hg
      clear ha hg
      clear g0
      go_wp2_with fail
      refine (A3.out.node 2 m3).mono ?_
      rintro e X4 ⟨v4, n4, rfl, hn4, hl4, ha, hg⟩
      have A4 := hid ha
      have G4 := hid hg
      clear ha hg
      have N4 := hid (And.intro hn4 hl4)
      obtain ⟨ad4, cp4, rfl⟩ := hn4.is
      clear hn4 hl4
      go_wp2_with fail
      go_ret
      exact A4.out.done 1 N4.out.1 (by have := N4.out.2; omega) (by omega)

set_option maxHeartbeats 4000000 in
set_option maxRecDepth 100000 in
/-- Something small of type 3. -/
theorem leaf3 {d : Dr} {ve v : Value} {W : World} {s : Cn} {ks : List Kn} (ty : Int) (ht : ty = 3) (h : Gen d ve W s) (hf : Fit s 4) (hk : KnowsD d W v ks) (hl : ks.length ≤ 999) :
    Calls Try.prog 59 #[.pointer (some ⟨d.G, 0, none⟩), .int .i64 ty, v] W (NodesPost d ve W s 4) := by
  have HF := hid hf
  have A0 := hid (At.start h)
  have HKn := hid hk
  have HKl := hid hl
  have HK := hid (A0.out.nodes0 (gknown_calls ty h (by unfold Fit at hf; omega) hk (by omega)))
  obtain ⟨ad, cp, rfl⟩ := hk.is
  clear hk hl h hf
  subst ht
  go_enter Try.func59, Try.ntmps59
  go_wp2_with fail
  refine HK.out.mono ?_
  rintro e X1 ⟨v1, n1, s1, t1, rfl, hn1, hl1, ha1, hg1⟩
  have A1 := hid ha1
  have N1 := hid (And.intro hn1 hl1)
  have G1 := hid hg1
  obtain ⟨ad1, cp1, rfl⟩ := hn1.is
  obtain ⟨l1, hl1e⟩ : ∃ l, n1.length = l := ⟨_, rfl⟩
  have HL1 := hid hl1e
  rw [hl1e] at N1 ⊢
  clear hn1 hl1 ha1 hg1 HK hl1e A0
  by_cases hz : l1 = 0
  · subst hz
    go_wp2_with fail
    refine (A1.out.node 3 0).mono ?_
    rintro e X2 ⟨v2, n2, rfl, hn2, hl2, ha, hg⟩
    have A2 := hid ha
    have G2 := hid hg
    clear ha hg
    have N2 := hid (And.intro hn2 hl2)
    obtain ⟨ad2, cp2, rfl⟩ := hn2.is
    clear hn2 hl2
    go_wp2_with fail
    go_ret
    exact A2.out.done 1 N2.out.1 (by have := N2.out.2; omega) (by omega)
  · have hz' : (0 : Int) < (l1 : Int) := by omega
    have g0 := A1.out.1.c0
    go_wp2_with fail
    refine (A1.out.pick HF.out (by omega) 3 (by decide)).mono ?_
    rintro e X2 ⟨m2, s2, rfl, hm2, hM2, ha, hg⟩
    have A2 := hid ha
    have G2 := hid hg
    clear ha hg
    clear g0
    by_cases hm : 0 < m2
    · go_wp2_with fail
      go_ret
      exact A2.out.done 0 (N1.out.1.grew G2.out) (by have := N1.out.2; have := HL1.out; omega) (by omega)
    · have hm0 : m2 = 0 := by omega
      subst hm0
      go_wp2_with fail
      refine (A2.out.node 3 0).mono ?_
      rintro e X3 ⟨v3, n3, rfl, hn3, hl3, ha, hg⟩
      have A3 := hid ha
      have G3 := hid hg
      clear ha hg
      have N3 := hid (And.intro hn3 hl3)
      obtain ⟨ad3, cp3, rfl⟩ := hn3.is
      clear hn3 hl3
      go_wp2_with fail
      go_ret
      exact A3.out.done 1 N3.out.1 (by have := N3.out.2; omega) (by omega)

set_option maxHeartbeats 4000000 in
set_option maxRecDepth 100000 in
/-- Something small of type 4. -/
theorem leaf4 {d : Dr} {ve v : Value} {W : World} {s : Cn} {ks : List Kn} (ty : Int) (ht : ty = 4) (h : Gen d ve W s) (hf : Fit s 4) (hk : KnowsD d W v ks) (hl : ks.length ≤ 999) :
    Calls Try.prog 59 #[.pointer (some ⟨d.G, 0, none⟩), .int .i64 ty, v] W (NodesPost d ve W s 4) := by
  have HF := hid hf
  have A0 := hid (At.start h)
  have HKn := hid hk
  have HKl := hid hl
  have HK := hid (A0.out.nodes0 (gknown_calls ty h (by unfold Fit at hf; omega) hk (by omega)))
  obtain ⟨ad, cp, rfl⟩ := hk.is
  clear hk hl h hf
  subst ht
  go_enter Try.func59, Try.ntmps59
  go_wp2_with fail
  refine HK.out.mono ?_
  rintro e X1 ⟨v1, n1, s1, t1, rfl, hn1, hl1, ha1, hg1⟩
  have A1 := hid ha1
  have N1 := hid (And.intro hn1 hl1)
  have G1 := hid hg1
  obtain ⟨ad1, cp1, rfl⟩ := hn1.is
  obtain ⟨l1, hl1e⟩ : ∃ l, n1.length = l := ⟨_, rfl⟩
  have HL1 := hid hl1e
  rw [hl1e] at N1 ⊢
  clear hn1 hl1 ha1 hg1 HK hl1e A0
  by_cases hz : l1 = 0
  · subst hz
    go_wp2_with fail
    refine (A1.out.node 4 0).mono ?_
    rintro e X2 ⟨v2, n2, rfl, hn2, hl2, ha, hg⟩
    have A2 := hid ha
    have G2 := hid hg
    clear ha hg
    have N2 := hid (And.intro hn2 hl2)
    obtain ⟨ad2, cp2, rfl⟩ := hn2.is
    clear hn2 hl2
    go_wp2_with fail
    go_ret
    exact A2.out.done 1 N2.out.1 (by have := N2.out.2; omega) (by omega)
  · have hz' : (0 : Int) < (l1 : Int) := by omega
    have g0 := A1.out.1.c0
    go_wp2_with fail
    refine (A1.out.pick HF.out (by omega) 3 (by decide)).mono ?_
    rintro e X2 ⟨m2, s2, rfl, hm2, hM2, ha, hg⟩
    have A2 := hid ha
    have G2 := hid hg
    clear ha hg
    clear g0
    by_cases hm : 0 < m2
    · go_wp2_with fail
      go_ret
      exact A2.out.done 0 (N1.out.1.grew G2.out) (by have := N1.out.2; have := HL1.out; omega) (by omega)
    · have hm0 : m2 = 0 := by omega
      subst hm0
      go_wp2_with fail
      refine (A2.out.node 4 0).mono ?_
      rintro e X3 ⟨v3, n3, rfl, hn3, hl3, ha, hg⟩
      have A3 := hid ha
      have G3 := hid hg
      clear ha hg
      have N3 := hid (And.intro hn3 hl3)
      obtain ⟨ad3, cp3, rfl⟩ := hn3.is
      clear hn3 hl3
      go_wp2_with fail
      go_ret
      exact A3.out.done 1 N3.out.1 (by have := N3.out.2; omega) (by omega)

set_option maxHeartbeats 4000000 in
set_option maxRecDepth 100000 in
/-- A function, small. -/
theorem gleaf5 {d : Dr} {ve v : Value} {W : World} {s : Cn} {ks : List Kn} (ty : Int) (h1 : ty ≠ 1) (h2 : ty ≠ 2) (h3 : ty ≠ 3) (h4 : ty ≠ 4) (h : Gen d ve W s) (hf : Fit s 10) (hk : KnowsD d W v ks) (hl : ks.length ≤ 998) :
    Calls Try.prog 59 #[.pointer (some ⟨d.G, 0, none⟩), .int .i64 ty, v] W (NodesPost d ve W s 10) := by
  have HF := hid hf
  have A0 := hid (At.start h)
  have HKn := hid hk
  have HKl := hid hl
  have HK := hid (A0.out.nodes0 (gknown_calls ty h (by unfold Fit at hf; omega) hk (by omega)))
  obtain ⟨ad, cp, rfl⟩ := hk.is
  clear hk hl h hf
  have e1 : (ty == 1) = false := by simp [h1]
  have e2 : (ty == 2) = false := by simp [h2]
  have e3 : (ty == 3) = false := by simp [h3]
  have e4 : (ty == 4) = false := by simp [h4]
  clear h1 h2 h3 h4
  go_enter Try.func59, Try.ntmps59
  go_wp2_with fail
  refine HK.out.mono ?_
  rintro e X1 ⟨v1, n1, s1, t1, rfl, hn1, hl1, ha1, hg1⟩
  have A1 := hid ha1
  have N1 := hid (And.intro hn1 hl1)
  have G1 := hid hg1
  obtain ⟨ad1, cp1, rfl⟩ := hn1.is
  obtain ⟨l1, hl1e⟩ : ∃ l, n1.length = l := ⟨_, rfl⟩
  have HL1 := hid hl1e
  rw [hl1e] at N1 ⊢
  clear hn1 hl1 ha1 hg1 HK hl1e A0
  by_cases hz : l1 = 0
  · subst hz
    go_wp2_with fail
    refine (A1.out.name HF.out (by omega)).mono ?_
    rintro e X2 ⟨x2, s2, rfl, hb2, ha, hg⟩
    have A2 := hid ha
    have G2 := hid hg
    clear ha hg
    have B2 := hid hb2
    clear hb2
    go_wp2_with fail
    refine (A2.out.add x2 1 0 (HKn.out.grew (G1.out.trans G2.out)) B2.out (by have := HKl.out; omega)).mono ?_
    rintro e X3 ⟨u3, ks3, rfl, hk3, hkl3, ha, hg⟩
    have A3 := hid ha
    have G3 := hid hg
    clear ha hg
    have K3 := hid (And.intro hk3 hkl3)
    clear hk3 hkl3
    go_wp2_with fail
    refine (A3.out.nodes (leaf1 1 rfl A3.out.1 (A3.out.fit HF.out 4 (by omega)) K3.out.1 (by have := K3.out.2; have := HKl.out; omega))).mono ?_
    rintro e X4 ⟨v4, n4, s4, t4, rfl, hn4, hl4, ha, hg⟩
    have A4 := hid ha
    have G4 := hid hg
    clear ha hg
    have N4 := hid (And.intro hn4 hl4)
    obtain ⟨ad4, cp4, rfl⟩ := hn4.is
    clear hn4 hl4
    go_wp2_with fail
    refine (A4.out.put1 6 0 0 x2 ByteArray.empty ByteArray.empty N4.out.1 ⟨B2.out, brief_none, brief_none⟩ (by have := A4.out.bound HF.out (by omega) (by decide); have := N4.out.2; omega)).mono ?_
    rintro e X5 ⟨v5, n5, rfl, hn5, hl5, ha, hg⟩
    have A5 := hid ha
    have G5 := hid hg
    clear ha hg
    have N5 := hid (And.intro hn5 hl5)
    obtain ⟨ad5, cp5, rfl⟩ := hn5.is
    clear hn5 hl5
    go_wp2_with fail
    go_ret
    exact A5.out.done 1 N5.out.1 (by have := N5.out.2; have := N4.out.2; omega) (by omega)
  · have hz' : (0 : Int) < (l1 : Int) := by omega
    have g0 := A1.out.1.c0
    go_wp2_with fail
    refine (A1.out.pick HF.out (by omega) 3 (by decide)).mono ?_
    rintro e X2 ⟨m2, s2, rfl, hm2, hM2, ha, hg⟩
    have A2 := hid ha
    have G2 := hid hg
    clear ha hg
    clear g0
    by_cases hm : 0 < m2
    · go_wp2_with fail
      go_ret
      exact A2.out.done 0 (N1.out.1.grew G2.out) (by have := N1.out.2; have := HL1.out; omega) (by omega)
    · have hm0 : m2 = 0 := by omega
      subst hm0
      go_wp2_with fail
      refine (A2.out.name HF.out (by omega)).mono ?_
      rintro e X3 ⟨x3, s3, rfl, hb3, ha, hg⟩
      have A3 := hid ha
      have G3 := hid hg
      clear ha hg
      have B3 := hid hb3
      clear hb3
      go_wp2_with fail
      refine (A3.out.add x3 1 0 (HKn.out.grew (G1.out.trans (G2.out.trans G3.out))) B3.out (by have := HKl.out; omega)).mono ?_
      rintro e X4 ⟨u4, ks4, rfl, hk4, hkl4, ha, hg⟩
      have A4 := hid ha
      have G4 := hid hg
      clear ha hg
      have K4 := hid (And.intro hk4 hkl4)
      clear hk4 hkl4
      go_wp2_with fail
      refine (A4.out.nodes (leaf1 1 rfl A4.out.1 (A4.out.fit HF.out 4 (by omega)) K4.out.1 (by have := K4.out.2; have := HKl.out; omega))).mono ?_
      rintro e X5 ⟨v5, n5, s5, t5, rfl, hn5, hl5, ha, hg⟩
      have A5 := hid ha
      have G5 := hid hg
      clear ha hg
      have N5 := hid (And.intro hn5 hl5)
      obtain ⟨ad5, cp5, rfl⟩ := hn5.is
      clear hn5 hl5
      go_wp2_with fail
      refine (A5.out.put1 6 0 0 x3 ByteArray.empty ByteArray.empty N5.out.1 ⟨B3.out, brief_none, brief_none⟩ (by have := A5.out.bound HF.out (by omega) (by decide); have := N5.out.2; omega)).mono ?_
      rintro e X6 ⟨v6, n6, rfl, hn6, hl6, ha, hg⟩
      have A6 := hid ha
      have G6 := hid hg
      clear ha hg
      have N6 := hid (And.intro hn6 hl6)
      obtain ⟨ad6, cp6, rfl⟩ := hn6.is
      clear hn6 hl6
      go_wp2_with fail
      go_ret
      exact A6.out.done 1 N6.out.1 (by have := N6.out.2; have := N5.out.2; omega) (by omega)

theorem Fit.mono {s : Cn} {c c' : Nat} (h : Fit s c) (hc : c' ≤ c) : Fit s c' := by
  unfold Fit at h ⊢
  omega

theorem NodesPost.mono {d : Dr} {ve : Value} {W W' : World} {s : Cn} {c c' : Nat} {e : Ending} (h : NodesPost d ve W s c e W') (hc : c ≤ c') : NodesPost d ve W s c' e W' := by
  obtain ⟨v, ns, s', t, h1, h2, h3, h4, h5, h6⟩ := h
  exact ⟨v, ns, s', t, h1, h2, h3, h4, h5, h6.mono hc⟩

/-- Something small is drawn. -/
theorem leaf_calls {d : Dr} {ve v : Value} {W : World} {s : Cn} {ks : List Kn} (ty : Int) (h : Gen d ve W s) (hf : Fit s 10) (hk : KnowsD d W v ks) (hl : ks.length ≤ 998) :
    Calls Try.prog 59 #[.pointer (some ⟨d.G, 0, none⟩), .int .i64 ty, v] W (NodesPost d ve W s 10) := by
  by_cases h1 : ty = 1
  · exact (leaf1 ty h1 h (hf.mono (by omega)) hk (by omega)).mono fun e W' h => h.mono (by omega)
  by_cases h2 : ty = 2
  · exact (leaf2 ty h2 h (hf.mono (by omega)) hk (by omega)).mono fun e W' h => h.mono (by omega)
  by_cases h3 : ty = 3
  · exact (leaf3 ty h3 h (hf.mono (by omega)) hk (by omega)).mono fun e W' h => h.mono (by omega)
  by_cases h4 : ty = 4
  · exact (leaf4 ty h4 h (hf.mono (by omega)) hk (by omega)).mono fun e W' h => h.mono (by omega)
  exact gleaf5 ty h1 h2 h3 h4 h hf hk hl
end Go.Proofs.Ytnhofdngmbnlkaa

/- What draws nodes stands in: what is known, what may be performed; the contract of the whole drawer. -/
namespace Go.Proofs.Ytnhofdngmbnlkaa
open Go.RowKit Go.Deep

def EffsD (d : Dr) (W : World) (v : Value) (es : List Ef) : Prop := Lies d W v es.length 3 (fun i => (es.getD (i / 3) default).cell (i % 3)) ∧ ∀ e ∈ es, Brief e.name

theorem EffsD.grew {d : Dr} {W W' : World} {v : Value} {es : List Ef} (h : EffsD d W v es) (g : Grew d W W') : EffsD d W' v es := ⟨h.1.grew g, h.2⟩
theorem EffsD.is {d : Dr} {W : World} {v : Value} {es : List Ef} (h : EffsD d W v es) : ∃ ad cp, v = .slice ad es.length cp := h.1.is

theorem EffsD.at {d : Dr} {W : World} {ad : Option Addr} {n cp : Nat} {es : List Ef} (h : EffsD d W (.slice ad n cp) es) {i : Nat} (hi : i < n) : ∃ b off nm ar re, ad = some ⟨b, off, none⟩ ∧ es.getD i default = ⟨nm, ar, re⟩ ∧ Brief nm ∧ d.free W b ∧ W.cell? ⟨b, off + i * 3, none⟩ = some (.string nm) ∧ W.cell? ⟨b, off + i * 3 + 1, none⟩ = some (.int .i64 ar) ∧ W.cell? ⟨b, off + i * 3 + 2, none⟩ = some (.int .i64 re) := by
  obtain ⟨h, hB⟩ := h
  obtain ⟨hl, -, b, off, rfl, hq, hc⟩ := h.at (by omega)
  obtain ⟨k, hk⟩ : ∃ k, es.getD i default = k := ⟨_, rfl⟩
  have hb := hB _ (getD_mem (l := es) (k := i) (by omega))
  have e : ∀ c, c < 3 → W.cell? ⟨b, off + (i * 3 + c), none⟩ = some (k.cell c) := fun c hc' => by
    rw [hc (i * 3 + c) (by omega), ← hk]
    exact congrArg some (cell_div es Ef.cell 3 i c hc')
  rw [hk] at hb
  obtain ⟨nm, ar, re⟩ := k
  exact ⟨b, off, nm, ar, re, rfl, hk, hb, hq, e 0 (by omega), e 1 (by omega), e 2 (by omega)⟩

/-- What is known and what may be performed, at a depth. -/
structure Env (d : Dr) (ve : Value) (es : List Ef) (X : World) (v : Value) (ks : List Kn) (vm : Value) (ms : List Bool) (D : Nat) : Prop where
  know : KnowsD d X v ks
  may : BoolsD d X vm ms
  len : ms.length = es.length
  effs : EffsD d X ve es
  room : ks.length + 4 * D ≤ 400
  few : es.length ≤ 4

theorem Env.grew {d : Dr} {ve : Value} {es : List Ef} {X X' : World} {v : Value} {ks : List Kn} {vm : Value} {ms : List Bool} {D : Nat} (h : Env d ve es X v ks vm ms D) (g : Grew d X X') : Env d ve es X' v ks vm ms D :=
  ⟨h.know.grew g, h.may.grew g, h.len, h.effs.grew g, h.room, h.few⟩

theorem Env.down {d : Dr} {ve : Value} {es : List Ef} {X : World} {v : Value} {ks : List Kn} {vm : Value} {ms : List Bool} {D : Nat} (h : Env d ve es X v ks vm ms (D + 1)) : Env d ve es X v ks vm ms D :=
  ⟨h.know, h.may, h.len, h.effs, by have := h.room; omega, h.few⟩

theorem Env.with {d : Dr} {ve : Value} {es : List Ef} {X : World} {v u : Value} {ks ks' : List Kn} {vm : Value} {ms : List Bool} {D : Nat} (h : Env d ve es X v ks vm ms (D + 1)) (hk : KnowsD d X u ks') (hl : ks'.length ≤ ks.length + 4) : Env d ve es X u ks' vm ms D :=
  ⟨hk, h.may, h.len, h.effs, by have := h.room; omega, h.few⟩

theorem Env.let {d : Dr} {ve : Value} {es : List Ef} {X : World} {v um : Value} {ks : List Kn} {vm : Value} {ms ms' : List Bool} {D : Nat} (h : Env d ve es X v ks vm ms (D + 1)) (hm : BoolsD d X um ms') (hl : ms'.length = es.length) : Env d ve es X v ks um ms' D :=
  ⟨h.know, hm, hl, h.effs, by have := h.room; omega, h.few⟩

/-- The drawer keeps its contract at depths up to D. -/
def OfC (d : Dr) (ve : Value) (es : List Ef) (D : Nat) : Prop :=
  ∀ (deep ty : Int) (v vm : Value) (ks : List Kn) (ms : List Bool) (X : World) (s : Cn), deep ≤ D → -100 ≤ deep → Fit s 10 → Gen d ve X s → Env d ve es X v ks vm ms D →
    Calls Try.prog 46 #[.pointer (some ⟨d.G, 0, none⟩), .int .i64 ty, v, vm, .int .i64 deep] X (NodesPost d ve X s 10)

set_option maxRecDepth 100000 in
theorem base_calls (b : Int) (W : World) : Calls Try.prog 74 #[.int .i64 b] W fun e W' => e = .returned (.int .i64 b) ∧ W = W' := by
  go_enter Try.func74, Try.ntmps74
  go_wp2_with fail
  go_ret
  exact ⟨rfl, rfl⟩

theorem nd_lit_at {d : Dr} (W : World) (n : Nd) (q : Nat) (hq : W.heap.size = q) (h1 : d.B < W.heap.size) (h2 : d.G < W.heap.size) (hb : Brief n.a ∧ Brief n.b ∧ Brief n.c) : NodesD d (W.alloc (.cells #[.int .i64 n.kind, .int .i64 n.num, .string n.a, .string n.b, .string n.c, .int .i64 n.kids] 65)) (.slice (some ⟨q, 0, none⟩) 1 1) [n] := by
  subst hq
  exact nd_lit W n h1 h2 hb

theorem two_get (a b : Int) (m : Int) (h0 : 0 ≤ m) (h1 : m < 2) : ∃ k : Int, (#[.int .i64 a, .int .i64 b] : Array Value)[m.toNat]? = some (.int .i64 k) := by
  have h : m = 0 ∨ m = 1 := by omega
  rcases h with rfl | rfl <;> exact ⟨_, rfl⟩

theorem KidsV.grew {d : Dr} {X X' : World} {v : Value} {ls : List (Value × List Nd)} (h : KidsV d X v ls) (g : Grew d X X') : KidsV d X' v ls := ⟨h.1.grew g, fun x hx => (h.2 x hx).grew g⟩

/-- Trees put together that lie in a list. -/
theorem At.put_kids {d : Dr} {ve : Value} {W X : World} {s s1 : Cn} {t c : Nat} (h : At d ve W s X s1 t c) {ls : List (Value × List Nd)} {vk : Value} (k nm kd : Int) (a b e' : ByteArray) (hk : KidsV d X vk ls) (hb : Brief a ∧ Brief b ∧ Brief e') (hl : ls.length ≤ 1000) (hfl : (flatL ls).length ≤ 800000) :
    Calls Try.prog 60 #[.agg #[.int .i64 k, .int .i64 nm, .string a, .string b, .string e', .int .i64 kd], vk] X fun e X' => ∃ v ns, e = .returned v ∧ NodesD d X' v ns ∧ ns.length = 1 + (flatL ls).length ∧ At d ve W s X' s1 t c ∧ Grew d X X' := by
  refine (gput_calls (d := d) k nm kd a b e' X _ ls h.1.ltB h.1.ltG hk hb hl hfl).mono ?_
  rintro e X' ⟨v, rfl, hn, hbl⟩
  exact ⟨v, _, rfl, hn, by simp; omega, h.below hbl, Grew.of_below hbl⟩
end Go.Proofs.Ytnhofdngmbnlkaa

/- A call of a continuation is drawn; an operation is drawn. -/
namespace Go.Proofs.Ytnhofdngmbnlkaa
open Go.RowKit Go.Deep

theorem none_post {d : Dr} {ve : Value} {W X : World} {s s1 : Cn} {t c C : Nat} (h : At d ve W s X s1 t c) (hc : c ≤ C) : NodesPost0 d ve W s C (.returned (.slice none 0 0)) X :=
  h.done0 0 (nodes_none _ _) (by simp) (by omega)

set_option maxHeartbeats 8000000 in
set_option maxRecDepth 100000 in
/-- A call of a continuation, or nothing. -/
theorem cont_calls {d : Dr} {ve v vm : Value} {es : List Ef} {W : World} {s : Cn} {ks : List Kn} {ms : List Bool} {D : Nat} (ty : Int) (deep : Int) (hO : OfC d ve es D) (h1 : deep ≤ D) (h2 : -90 ≤ deep) (h3 : D ≤ 100) (h : Gen d ve W s) (hf : Fit s 30) (hE : Env d ve es W v ks vm ms (D + 1)) :
    Calls Try.prog 64 #[.pointer (some ⟨d.G, 0, none⟩), .int .i64 ty, v, vm, .int .i64 deep] W (NodesPost0 d ve W s 30) := by
  have HF := hid hf
  have HO := hid hO
  have A0 := hid (At.start h)
  have HE := hid hE
  have HD := hid (And.intro h1 (And.intro h2 h3))
  have hdu : deep ≤ 1000 := by omega
  obtain ⟨ad, cp, rfl⟩ := hE.know.is
  obtain ⟨adm, cpm, rfl⟩ := hE.may.is
  clear hO h1 h3 h hf hE
  obtain ⟨L, hL⟩ : ∃ L, ks.length = L := ⟨_, rfl⟩
  have HL : Hid (ks.length = L ∧ L ≤ 1000) := ⟨hL, by have := HE.out.room; omega⟩
  rw [hL] at HE ⊢
  clear hL
  have hL0 : Hid (wrap64 ((L : Int) - 1) = (L : Int) - 1) := by show _ = _; have := HL.out.2; unfold wrap64; omega
  go_enter Try.func64, Try.ntmps64
  go_wp2_with fail
  try rw [hL0.out]
  go_loopw [11] (fun i wr => ∃ i' : Nat, i = .int .i64 ((i' : Int) - 1) ∧ i' ≤ L ∧ wr = W) (fun i _ => (intOf i + 1).toNat)
  case atStart => exact ⟨L, rfl, Nat.le_refl _, rfl⟩
  case round =>
    obtain ⟨i', rfl, hle, rfl⟩ := hrel
    by_cases hz : i' = 0
    · subst hz
      go_wp2_with fail
      go_ret
      exact none_post A0.out (by omega)
    · obtain ⟨j, rfl⟩ : ∃ j, i' = j + 1 := ⟨i' - 1, by omega⟩
      have ej : ((j + 1 : Nat) : Int) - 1 = (j : Int) := by omega
      rw [ej]
      obtain ⟨b, off, xn, xt, xr, rfl, -, hbr, hq, c0, c1, c2⟩ := HE.out.know.at (i := j) (by omega)
      have HQ := hid (And.intro hq hbr)
      have hj0 : (0 : Int) ≤ (j : Int) := by omega
      have hjl : (j : Int) < (L : Int) := by omega
      have HW : Hid (wrap64 ((j : Int) - 1) = (j : Int) - 1) := by show _ = _; have := HL.out.2; unfold wrap64; omega
      have hstep : (intOf (.int .i64 ((j : Int) - 1)) + 1).toNat < (intOf (.int .i64 (j : Int)) + 1).toNat := by simp [intOf]
      clear hq hbr hz
      by_cases hty : (xt == wrap64 (10 + ty)) = true
      · go_upto_region 5 with fail
        refine pick_begin (S := fun w' => w'.cell? ⟨b, off + j * 3, none⟩ = some (.string xn) ∧ w'.cell? ⟨b, off + j * 3 + 2, none⟩ = some (.int .i64 xr)) (by kernel_rfl) rfl rfl ?_
        have A1 := hid A0.out.drew
        have G1 := hid (Grew.refl d wr).drew
        generalize wr.drew = X1 at *
        refine pick_op (i := 0) (v := .agg #[.int .i64 7, .int .i64 0, .string ⟨#[]⟩, .string ⟨#[]⟩, .string ⟨#[]⟩, .int .i64 0]) (by kernel_rfl) rfl (by kernel_rfl) (by kernel_rfl) rfl rfl (fun w' hw => by simp [go_sem]) ⟨((G1.out.cell (p := ⟨b, off + j * 3, none⟩) HQ.out.1).trans c0), ((G1.out.cell (p := ⟨b, off + j * 3 + 2, none⟩) HQ.out.1).trans c2)⟩ (by simp [go_sem]; exact rfl) ?_
        refine pick_op (i := 1) (v := .slice (some ⟨b, off, none⟩) L cp) (by kernel_rfl) rfl (by kernel_rfl) (by kernel_rfl) rfl rfl (fun w' hw => by simp [go_sem]) ⟨((G1.out.cell (p := ⟨b, off + j * 3, none⟩) HQ.out.1).trans c0), ((G1.out.cell (p := ⟨b, off + j * 3 + 2, none⟩) HQ.out.1).trans c2)⟩ (by simp [go_sem]; exact rfl) ?_
        refine pick_op (i := 2) (v := .int .i64 (j : Int)) (by kernel_rfl) rfl (by kernel_rfl) (by kernel_rfl) rfl rfl (fun w' hw => by simp [go_sem]) ⟨((G1.out.cell (p := ⟨b, off + j * 3, none⟩) HQ.out.1).trans c0), ((G1.out.cell (p := ⟨b, off + j * 3 + 2, none⟩) HQ.out.1).trans c2)⟩ (by simp [go_sem]; exact rfl) ?_
        refine pick_op (i := 3) (v := .pointer (some ⟨b, off + j * 3, none⟩)) (by kernel_rfl) rfl (by kernel_rfl) (by kernel_rfl) rfl rfl (fun w' hw => by simp [go_sem, hj0, hjl]) ⟨((G1.out.cell (p := ⟨b, off + j * 3, none⟩) HQ.out.1).trans c0), ((G1.out.cell (p := ⟨b, off + j * 3 + 2, none⟩) HQ.out.1).trans c2)⟩ (by simp [go_sem]; exact rfl) ?_
        refine pick_op (i := 4) (v := .pointer (some ⟨b, off + j * 3, none⟩)) (by kernel_rfl) rfl (by kernel_rfl) (by kernel_rfl) rfl rfl (fun w' hw => by simp [go_sem]) ⟨((G1.out.cell (p := ⟨b, off + j * 3, none⟩) HQ.out.1).trans c0), ((G1.out.cell (p := ⟨b, off + j * 3 + 2, none⟩) HQ.out.1).trans c2)⟩ (by simp [go_sem]; exact rfl) ?_
        refine pick_op (i := 5) (v := .string xn) (by kernel_rfl) rfl (by kernel_rfl) (by kernel_rfl) rfl rfl (fun w' hw => by simp [go_sem, hw.1]) ⟨((G1.out.cell (p := ⟨b, off + j * 3, none⟩) HQ.out.1).trans c0), ((G1.out.cell (p := ⟨b, off + j * 3 + 2, none⟩) HQ.out.1).trans c2)⟩ (by simp [go_sem]; exact rfl) ?_
        refine pick_op (i := 6) (v := .agg #[.int .i64 5, .int .i64 0, .string xn, .string ⟨#[]⟩, .string ⟨#[]⟩, .int .i64 0]) (by kernel_rfl) rfl (by kernel_rfl) (by kernel_rfl) rfl rfl (fun w' hw => by simp [go_sem]) ⟨((G1.out.cell (p := ⟨b, off + j * 3, none⟩) HQ.out.1).trans c0), ((G1.out.cell (p := ⟨b, off + j * 3 + 2, none⟩) HQ.out.1).trans c2)⟩ (by simp [go_sem]; exact rfl) ?_
        refine pick_op (i := 8) (v := .pointer (some ⟨d.G, 0, none⟩)) (by kernel_rfl) rfl (by kernel_rfl) (by kernel_rfl) rfl rfl (fun w' hw => by simp [go_sem]) ⟨((G1.out.cell (p := ⟨b, off + j * 3, none⟩) HQ.out.1).trans c0), ((G1.out.cell (p := ⟨b, off + j * 3 + 2, none⟩) HQ.out.1).trans c2)⟩ (by simp [go_sem]; exact rfl) ?_
        refine pick_op (i := 9) (v := .slice (some ⟨b, off, none⟩) L cp) (by kernel_rfl) rfl (by kernel_rfl) (by kernel_rfl) rfl rfl (fun w' hw => by simp [go_sem]) ⟨((G1.out.cell (p := ⟨b, off + j * 3, none⟩) HQ.out.1).trans c0), ((G1.out.cell (p := ⟨b, off + j * 3 + 2, none⟩) HQ.out.1).trans c2)⟩ (by simp [go_sem]; exact rfl) ?_
        refine pick_op (i := 10) (v := .int .i64 (j : Int)) (by kernel_rfl) rfl (by kernel_rfl) (by kernel_rfl) rfl rfl (fun w' hw => by simp [go_sem]) ⟨((G1.out.cell (p := ⟨b, off + j * 3, none⟩) HQ.out.1).trans c0), ((G1.out.cell (p := ⟨b, off + j * 3 + 2, none⟩) HQ.out.1).trans c2)⟩ (by simp [go_sem]; exact rfl) ?_
        refine pick_op (i := 11) (v := .pointer (some ⟨b, off + j * 3, none⟩)) (by kernel_rfl) rfl (by kernel_rfl) (by kernel_rfl) rfl rfl (fun w' hw => by simp [go_sem, hj0, hjl]) ⟨((G1.out.cell (p := ⟨b, off + j * 3, none⟩) HQ.out.1).trans c0), ((G1.out.cell (p := ⟨b, off + j * 3 + 2, none⟩) HQ.out.1).trans c2)⟩ (by simp [go_sem]; exact rfl) ?_
        refine pick_op (i := 12) (v := .pointer (some ⟨b, off + j * 3 + 2, none⟩)) (by kernel_rfl) rfl (by kernel_rfl) (by kernel_rfl) rfl rfl (fun w' hw => by simp [go_sem]) ⟨((G1.out.cell (p := ⟨b, off + j * 3, none⟩) HQ.out.1).trans c0), ((G1.out.cell (p := ⟨b, off + j * 3 + 2, none⟩) HQ.out.1).trans c2)⟩ (by simp [go_sem]; exact rfl) ?_
        refine pick_op (i := 13) (v := .int .i64 xr) (by kernel_rfl) rfl (by kernel_rfl) (by kernel_rfl) rfl rfl (fun w' hw => by simp [go_sem, hw.2]) ⟨((G1.out.cell (p := ⟨b, off + j * 3, none⟩) HQ.out.1).trans c0), ((G1.out.cell (p := ⟨b, off + j * 3 + 2, none⟩) HQ.out.1).trans c2)⟩ (by simp [go_sem]; exact rfl) ?_
        refine pick_op (i := 14) (v := .slice (some ⟨b, off, none⟩) L cp) (by kernel_rfl) rfl (by kernel_rfl) (by kernel_rfl) rfl rfl (fun w' hw => by simp [go_sem]) ⟨((G1.out.cell (p := ⟨b, off + j * 3, none⟩) HQ.out.1).trans c0), ((G1.out.cell (p := ⟨b, off + j * 3 + 2, none⟩) HQ.out.1).trans c2)⟩ (by simp [go_sem]; exact rfl) ?_
        refine pick_op (i := 15) (v := .slice adm ms.length cpm) (by kernel_rfl) rfl (by kernel_rfl) (by kernel_rfl) rfl rfl (fun w' hw => by simp [go_sem]) ⟨((G1.out.cell (p := ⟨b, off + j * 3, none⟩) HQ.out.1).trans c0), ((G1.out.cell (p := ⟨b, off + j * 3 + 2, none⟩) HQ.out.1).trans c2)⟩ (by simp [go_sem]; exact rfl) ?_
        refine pick_op (i := 16) (v := .int .i64 deep) (by kernel_rfl) rfl (by kernel_rfl) (by kernel_rfl) rfl rfl (fun w' hw => by simp [go_sem]) ⟨((G1.out.cell (p := ⟨b, off + j * 3, none⟩) HQ.out.1).trans c0), ((G1.out.cell (p := ⟨b, off + j * 3 + 2, none⟩) HQ.out.1).trans c2)⟩ (by simp [go_sem]; exact rfl) ?_
        refine pick_either (i := 7) (j := 17) (by kernel_rfl) ?_ ?_
        · have NL : Hid (NodesD d (X1.alloc (.cells #[.int .i64 5, .int .i64 0, .string xn, .string ⟨#[]⟩, .string ⟨#[]⟩, .int .i64 0] 65)) (.slice (some ⟨X1.heap.size, 0, none⟩) 1 1) [⟨5, 0, xn, ByteArray.empty, ByteArray.empty, 0⟩] ∧ [(⟨5, 0, xn, ByteArray.empty, ByteArray.empty, 0⟩ : Nd)].length = 1) := ⟨nd_lit (d := d) X1 ⟨5, 0, xn, ByteArray.empty, ByteArray.empty, 0⟩ A1.out.1.ltB A1.out.1.ltG ⟨HQ.out.2, brief_none, brief_none⟩, rfl⟩
          have A2 := hid (A1.out.alloc (.cells #[.int .i64 5, .int .i64 0, .string xn, .string ⟨#[]⟩, .string ⟨#[]⟩, .int .i64 0] 65))
          have G2 := hid ((Grew.refl d X1).alloc (.cells #[.int .i64 5, .int .i64 0, .string xn, .string ⟨#[]⟩, .string ⟨#[]⟩, .int .i64 0] 65))
          refine ⟨_, .slice (some ⟨X1.heap.size, 0, none⟩) 1 1, X1.alloc (.cells #[.int .i64 5, .int .i64 0, .string xn, .string ⟨#[]⟩, .string ⟨#[]⟩, .int .i64 0] 65), rfl, rfl, by simp [go_sem], ⟨(((G1.out.trans G2.out).cell (p := ⟨b, off + j * 3, none⟩) HQ.out.1).trans c0), (((G1.out.trans G2.out).cell (p := ⟨b, off + j * 3 + 2, none⟩) HQ.out.1).trans c2)⟩, ?_⟩
          refine pick_frame (by simp [go_sem]; exact rfl) ?_
          generalize X1.alloc (.cells #[.int .i64 5, .int .i64 0, .string xn, .string ⟨#[]⟩, .string ⟨#[]⟩, .int .i64 0] 65) = X2 at *
          refine pick_enter (i := 17) (f := 46) (args := #[.pointer (some ⟨d.G, 0, none⟩), .int .i64 xr, .slice (some ⟨b, off, none⟩) L cp, .slice adm ms.length cpm, .int .i64 deep]) rfl (by kernel_rfl) rfl rfl (by simp [go_sem]) ?_
          refine (A2.out.nodes (HO.out deep xr _ _ _ _ _ _ (by have := HD.out; omega) (by have := HD.out; omega) (A2.out.fit HF.out 10 (by omega)) A2.out.1 (HE.out.grew (G1.out.trans G2.out)).down)).mono ?_
          rintro e X3 ⟨v3, n3, s3, t3, rfl, hn3, hl3, ha, hg⟩
          have A3 := hid ha
          have G3 := hid hg
          clear ha hg
          have N3 := hid (And.intro hn3 hl3)
          obtain ⟨ad3, cp3, rfl⟩ := hn3.is
          clear hn3 hl3
          refine ⟨_, rfl, ⟨(((G1.out.trans (G2.out.trans G3.out)).cell (p := ⟨b, off + j * 3, none⟩) HQ.out.1).trans c0), (((G1.out.trans (G2.out.trans G3.out)).cell (p := ⟨b, off + j * 3 + 2, none⟩) HQ.out.1).trans c2)⟩, ?_⟩
          refine pick_frame (by simp [go_sem]; exact rfl) ?_
          have KV : Hid (KidsV d (X3.alloc (.cells #[.slice (some ⟨X1.heap.size, 0, none⟩) 1 1, .slice ad3 n3.length cp3] 43)) (.slice (some ⟨X3.heap.size, 0, none⟩) 2 2) [(.slice (some ⟨X1.heap.size, 0, none⟩) 1 1, [(⟨5, 0, xn, ByteArray.empty, ByteArray.empty, 0⟩ : Nd)]), (.slice ad3 n3.length cp3, n3)]) := (kids_lit [(.slice (some ⟨X1.heap.size, 0, none⟩) 1 1, [(⟨5, 0, xn, ByteArray.empty, ByteArray.empty, 0⟩ : Nd)]), (.slice ad3 n3.length cp3, n3)] _ rfl A3.out.1.ltB A3.out.1.ltG (fun x hx => by simp at hx; rcases hx with rfl | rfl; exact (NL.out.1.grew G3.out); exact N3.out.1))
          have A4 := hid (A3.out.alloc (.cells #[.slice (some ⟨X1.heap.size, 0, none⟩) 1 1, .slice ad3 n3.length cp3] 43))
          have G4 := hid ((Grew.refl d X3).alloc (.cells #[.slice (some ⟨X1.heap.size, 0, none⟩) 1 1, .slice ad3 n3.length cp3] 43))
          refine pick_make (i := 18) (v := .slice (some ⟨X3.heap.size, 0, none⟩) 2 2) (w1 := X3.alloc (.cells #[.slice (some ⟨X1.heap.size, 0, none⟩) 1 1, .slice ad3 n3.length cp3] 43)) rfl (by kernel_rfl) rfl rfl (by simp [go_sem]) ⟨(((G1.out.trans (G2.out.trans (G3.out.trans G4.out))).cell (p := ⟨b, off + j * 3, none⟩) HQ.out.1).trans c0), (((G1.out.trans (G2.out.trans (G3.out.trans G4.out))).cell (p := ⟨b, off + j * 3 + 2, none⟩) HQ.out.1).trans c2)⟩ (by simp [go_sem]; exact rfl) ?_
          generalize X3.alloc (.cells #[.slice (some ⟨X1.heap.size, 0, none⟩) 1 1, .slice ad3 n3.length cp3] 43) = X4 at *
          refine pick_enter (i := 19) (f := 60) (args := #[.agg #[.int .i64 7, .int .i64 0, .string ⟨#[]⟩, .string ⟨#[]⟩, .string ⟨#[]⟩, .int .i64 0], .slice (some ⟨X3.heap.size, 0, none⟩) 2 2]) rfl (by kernel_rfl) rfl rfl (by simp [go_sem]) ?_
          refine (A4.out.put_kids 7 0 0 ⟨#[]⟩ ⟨#[]⟩ ⟨#[]⟩ KV.out ⟨brief_none, brief_none, brief_none⟩ (by simp) (by have := A4.out.bound HF.out (by omega) (by decide); have := N3.out.2; simp [flatL]; omega)).mono ?_
          rintro e X5 ⟨v5, n5, rfl, hn5, hl5, ha, hg⟩
          have A5 := hid ha
          have G5 := hid hg
          clear ha hg
          have N5 := hid (And.intro hn5 hl5)
          obtain ⟨ad5, cp5, rfl⟩ := hn5.is
          clear hn5 hl5
          refine ⟨_, rfl, ⟨(((G1.out.trans (G2.out.trans (G3.out.trans (G4.out.trans G5.out)))).cell (p := ⟨b, off + j * 3, none⟩) HQ.out.1).trans c0), (((G1.out.trans (G2.out.trans (G3.out.trans (G4.out.trans G5.out)))).cell (p := ⟨b, off + j * 3 + 2, none⟩) HQ.out.1).trans c2)⟩, ?_⟩
          refine pick_frame (by simp [go_sem]; exact rfl) ?_
          refine pick_op (i := 20) (v := .slice ad5 n5.length cp5) (by kernel_rfl) rfl (by kernel_rfl) (by kernel_rfl) rfl rfl (fun w' hw => by simp [go_sem]) ⟨(((G1.out.trans (G2.out.trans (G3.out.trans (G4.out.trans G5.out)))).cell (p := ⟨b, off + j * 3, none⟩) HQ.out.1).trans c0), (((G1.out.trans (G2.out.trans (G3.out.trans (G4.out.trans G5.out)))).cell (p := ⟨b, off + j * 3 + 2, none⟩) HQ.out.1).trans c2)⟩ (by simp [go_sem]; exact rfl) ?_
          refine pick_end (by kernel_rfl) ?_
          go_wp2_with fail
          go_ret
          exact A5.out.done0 5 N5.out.1 (by have := N5.out.2; have := N3.out.2; simp [flatL] at *; omega) (by omega)
        · refine ⟨_, 46, #[.pointer (some ⟨d.G, 0, none⟩), .int .i64 xr, .slice (some ⟨b, off, none⟩) L cp, .slice adm ms.length cpm, .int .i64 deep], rfl, rfl, by simp [go_sem], ?_⟩
          refine (A1.out.nodes (HO.out deep xr _ _ _ _ _ _ (by have := HD.out; omega) (by have := HD.out; omega) (A1.out.fit HF.out 10 (by omega)) A1.out.1 (HE.out.grew G1.out).down)).mono ?_
          rintro e X2 ⟨v2, n2, s2, t2, rfl, hn2, hl2, ha, hg⟩
          have A2 := hid ha
          have G2 := hid hg
          clear ha hg
          have N2 := hid (And.intro hn2 hl2)
          obtain ⟨ad2, cp2, rfl⟩ := hn2.is
          clear hn2 hl2
          refine ⟨_, rfl, ⟨(((G1.out.trans G2.out).cell (p := ⟨b, off + j * 3, none⟩) HQ.out.1).trans c0), (((G1.out.trans G2.out).cell (p := ⟨b, off + j * 3 + 2, none⟩) HQ.out.1).trans c2)⟩, ?_⟩
          refine pick_frame (by simp [go_sem]; exact rfl) ?_
          have NL : Hid (NodesD d (X2.alloc (.cells #[.int .i64 5, .int .i64 0, .string xn, .string ⟨#[]⟩, .string ⟨#[]⟩, .int .i64 0] 65)) (.slice (some ⟨X2.heap.size, 0, none⟩) 1 1) [⟨5, 0, xn, ByteArray.empty, ByteArray.empty, 0⟩] ∧ [(⟨5, 0, xn, ByteArray.empty, ByteArray.empty, 0⟩ : Nd)].length = 1) := ⟨nd_lit (d := d) X2 ⟨5, 0, xn, ByteArray.empty, ByteArray.empty, 0⟩ A2.out.1.ltB A2.out.1.ltG ⟨HQ.out.2, brief_none, brief_none⟩, rfl⟩
          have A3 := hid (A2.out.alloc (.cells #[.int .i64 5, .int .i64 0, .string xn, .string ⟨#[]⟩, .string ⟨#[]⟩, .int .i64 0] 65))
          have G3 := hid ((Grew.refl d X2).alloc (.cells #[.int .i64 5, .int .i64 0, .string xn, .string ⟨#[]⟩, .string ⟨#[]⟩, .int .i64 0] 65))
          refine pick_make (i := 7) (v := .slice (some ⟨X2.heap.size, 0, none⟩) 1 1) (w1 := X2.alloc (.cells #[.int .i64 5, .int .i64 0, .string xn, .string ⟨#[]⟩, .string ⟨#[]⟩, .int .i64 0] 65)) rfl (by kernel_rfl) rfl rfl (by simp [go_sem]) ⟨(((G1.out.trans (G2.out.trans G3.out)).cell (p := ⟨b, off + j * 3, none⟩) HQ.out.1).trans c0), (((G1.out.trans (G2.out.trans G3.out)).cell (p := ⟨b, off + j * 3 + 2, none⟩) HQ.out.1).trans c2)⟩ (by simp [go_sem]; exact rfl) ?_
          generalize X2.alloc (.cells #[.int .i64 5, .int .i64 0, .string xn, .string ⟨#[]⟩, .string ⟨#[]⟩, .int .i64 0] 65) = X3 at *
          have KV : Hid (KidsV d (X3.alloc (.cells #[.slice (some ⟨X2.heap.size, 0, none⟩) 1 1, .slice ad2 n2.length cp2] 43)) (.slice (some ⟨X3.heap.size, 0, none⟩) 2 2) [(.slice (some ⟨X2.heap.size, 0, none⟩) 1 1, [(⟨5, 0, xn, ByteArray.empty, ByteArray.empty, 0⟩ : Nd)]), (.slice ad2 n2.length cp2, n2)]) := (kids_lit [(.slice (some ⟨X2.heap.size, 0, none⟩) 1 1, [(⟨5, 0, xn, ByteArray.empty, ByteArray.empty, 0⟩ : Nd)]), (.slice ad2 n2.length cp2, n2)] _ rfl A3.out.1.ltB A3.out.1.ltG (fun x hx => by simp at hx; rcases hx with rfl | rfl; exact NL.out.1; exact (N2.out.1.grew G3.out)))
          have A4 := hid (A3.out.alloc (.cells #[.slice (some ⟨X2.heap.size, 0, none⟩) 1 1, .slice ad2 n2.length cp2] 43))
          have G4 := hid ((Grew.refl d X3).alloc (.cells #[.slice (some ⟨X2.heap.size, 0, none⟩) 1 1, .slice ad2 n2.length cp2] 43))
          refine pick_make (i := 18) (v := .slice (some ⟨X3.heap.size, 0, none⟩) 2 2) (w1 := X3.alloc (.cells #[.slice (some ⟨X2.heap.size, 0, none⟩) 1 1, .slice ad2 n2.length cp2] 43)) rfl (by kernel_rfl) rfl rfl (by simp [go_sem]) ⟨(((G1.out.trans (G2.out.trans (G3.out.trans G4.out))).cell (p := ⟨b, off + j * 3, none⟩) HQ.out.1).trans c0), (((G1.out.trans (G2.out.trans (G3.out.trans G4.out))).cell (p := ⟨b, off + j * 3 + 2, none⟩) HQ.out.1).trans c2)⟩ (by simp [go_sem]; exact rfl) ?_
          generalize X3.alloc (.cells #[.slice (some ⟨X2.heap.size, 0, none⟩) 1 1, .slice ad2 n2.length cp2] 43) = X4 at *
          refine pick_enter (i := 19) (f := 60) (args := #[.agg #[.int .i64 7, .int .i64 0, .string ⟨#[]⟩, .string ⟨#[]⟩, .string ⟨#[]⟩, .int .i64 0], .slice (some ⟨X3.heap.size, 0, none⟩) 2 2]) rfl (by kernel_rfl) rfl rfl (by simp [go_sem]) ?_
          refine (A4.out.put_kids 7 0 0 ⟨#[]⟩ ⟨#[]⟩ ⟨#[]⟩ KV.out ⟨brief_none, brief_none, brief_none⟩ (by simp) (by have := A4.out.bound HF.out (by omega) (by decide); have := N2.out.2; simp [flatL]; omega)).mono ?_
          rintro e X5 ⟨v5, n5, rfl, hn5, hl5, ha, hg⟩
          have A5 := hid ha
          have G5 := hid hg
          clear ha hg
          have N5 := hid (And.intro hn5 hl5)
          obtain ⟨ad5, cp5, rfl⟩ := hn5.is
          clear hn5 hl5
          refine ⟨_, rfl, ⟨(((G1.out.trans (G2.out.trans (G3.out.trans (G4.out.trans G5.out)))).cell (p := ⟨b, off + j * 3, none⟩) HQ.out.1).trans c0), (((G1.out.trans (G2.out.trans (G3.out.trans (G4.out.trans G5.out)))).cell (p := ⟨b, off + j * 3 + 2, none⟩) HQ.out.1).trans c2)⟩, ?_⟩
          refine pick_frame (by simp [go_sem]; exact rfl) ?_
          refine pick_op (i := 20) (v := .slice ad5 n5.length cp5) (by kernel_rfl) rfl (by kernel_rfl) (by kernel_rfl) rfl rfl (fun w' hw => by simp [go_sem]) ⟨(((G1.out.trans (G2.out.trans (G3.out.trans (G4.out.trans G5.out)))).cell (p := ⟨b, off + j * 3, none⟩) HQ.out.1).trans c0), (((G1.out.trans (G2.out.trans (G3.out.trans (G4.out.trans G5.out)))).cell (p := ⟨b, off + j * 3 + 2, none⟩) HQ.out.1).trans c2)⟩ (by simp [go_sem]; exact rfl) ?_
          refine pick_end (by kernel_rfl) ?_
          go_wp2_with fail
          go_ret
          exact A5.out.done0 5 N5.out.1 (by have := N5.out.2; have := N2.out.2; simp [flatL] at *; omega) (by omega)
      · have hty' : (xt == wrap64 (10 + ty)) = false := by simpa using hty
        clear hty
        go_wp2_with fail
        rw [HW.out]
        exact ⟨⟨j, rfl, by omega, by first | rfl | trivial⟩, hstep⟩

end Go.Proofs.Ytnhofdngmbnlkaa

/- An operation is drawn. -/
namespace Go.Proofs.Ytnhofdngmbnlkaa
open Go.RowKit Go.Deep

set_option maxHeartbeats 8000000 in
set_option maxRecDepth 100000 in
/-- An operation that gives a type, or nothing. -/
theorem perform_calls {d : Dr} {ve v vm : Value} {es : List Ef} {W : World} {s : Cn} {ks : List Kn} {ms : List Bool} {D : Nat} (ty : Int) (deep : Int) (hO : OfC d ve es D) (h1 : deep ≤ D) (h2 : -90 ≤ deep) (h3 : D ≤ 100) (h : Gen d ve W s) (hf : Fit s 30) (hE : Env d ve es W v ks vm ms (D + 1)) :
    Calls Try.prog 65 #[.pointer (some ⟨d.G, 0, none⟩), .int .i64 ty, v, vm, .int .i64 deep] W (NodesPost0 d ve W s 30) := by
  have HF := hid hf
  have HO := hid hO
  have A0 := hid (At.start h)
  have HE := hid hE
  have HD := hid (And.intro h1 (And.intro h2 h3))
  have hdu : deep ≤ 1000 := by omega
  obtain ⟨ad, cp, rfl⟩ := hE.know.is
  obtain ⟨adm, cpm, rfl⟩ := hE.may.is
  obtain ⟨ade, cpe, rfl⟩ := hE.effs.is
  clear hO h1 h3 h hf hE
  have HL : Hid (es.length ≤ 4 ∧ ms.length = es.length) := ⟨HE.out.few, HE.out.len⟩
  have hwr : IntKind.i64.wrap ((es.length : Int) + 1) = (es.length : Int) + 1 := by rw [IntKind.wrap_i64]; have := HL.out.1; omega
  go_enter Try.func65, Try.ntmps65
  go_upto_region 1 with fail
  refine pick_begin (S := fun w' => w'.cell? ⟨d.G, 0, none⟩ = some (.pointer (some ⟨d.B, 0, none⟩)) ∧ w'.cell? ⟨d.G, 1, none⟩ = some (.slice ade es.length cpe)) (by kernel_rfl) rfl rfl ?_
  have A1 := hid A0.out.drew
  have G1 := hid (Grew.refl d W).drew
  generalize W.drew = X1 at *
  refine pick_op (i := 0) (v := .pointer (some ⟨d.G, 0, none⟩)) (by kernel_rfl) rfl (by kernel_rfl) (by kernel_rfl) rfl rfl (fun w' hw => by simp [go_sem]) ⟨A1.out.1.c0, A1.out.1.c1⟩ (by simp [go_sem]; exact rfl) ?_
  refine pick_op (i := 1) (v := .pointer (some ⟨d.G, 0, none⟩)) (by kernel_rfl) rfl (by kernel_rfl) (by kernel_rfl) rfl rfl (fun w' hw => by simp [go_sem]) ⟨A1.out.1.c0, A1.out.1.c1⟩ (by simp [go_sem]; exact rfl) ?_
  refine pick_op (i := 2) (v := .pointer (some ⟨d.G, 0, none⟩)) (by kernel_rfl) rfl (by kernel_rfl) (by kernel_rfl) rfl rfl (fun w' hw => by simp [go_sem]) ⟨A1.out.1.c0, A1.out.1.c1⟩ (by simp [go_sem]; exact rfl) ?_
  refine pick_op (i := 3) (v := .pointer (some ⟨d.B, 0, none⟩)) (by kernel_rfl) rfl (by kernel_rfl) (by kernel_rfl) rfl rfl (fun w' hw => by simp [go_sem, hw.1]) ⟨A1.out.1.c0, A1.out.1.c1⟩ (by simp [go_sem]; exact rfl) ?_
  refine pick_op (i := 4) (v := .pointer (some ⟨d.G, 0, none⟩)) (by kernel_rfl) rfl (by kernel_rfl) (by kernel_rfl) rfl rfl (fun w' hw => by simp [go_sem]) ⟨A1.out.1.c0, A1.out.1.c1⟩ (by simp [go_sem]; exact rfl) ?_
  refine pick_op (i := 5) (v := .pointer (some ⟨d.G, 0, none⟩)) (by kernel_rfl) rfl (by kernel_rfl) (by kernel_rfl) rfl rfl (fun w' hw => by simp [go_sem]) ⟨A1.out.1.c0, A1.out.1.c1⟩ (by simp [go_sem]; exact rfl) ?_
  refine pick_op (i := 6) (v := .pointer (some ⟨d.G, 1, none⟩)) (by kernel_rfl) rfl (by kernel_rfl) (by kernel_rfl) rfl rfl (fun w' hw => by simp [go_sem]) ⟨A1.out.1.c0, A1.out.1.c1⟩ (by simp [go_sem]; exact rfl) ?_
  refine pick_op (i := 7) (v := .slice ade es.length cpe) (by kernel_rfl) rfl (by kernel_rfl) (by kernel_rfl) rfl rfl (fun w' hw => by simp [go_sem, hw.2]) ⟨A1.out.1.c0, A1.out.1.c1⟩ (by simp [go_sem]; exact rfl) ?_
  refine pick_op (i := 8) (v := .int .i64 (es.length : Int)) (by kernel_rfl) rfl (by kernel_rfl) (by kernel_rfl) rfl rfl (fun w' hw => by simp [go_sem]) ⟨A1.out.1.c0, A1.out.1.c1⟩ (by simp [go_sem]; exact rfl) ?_
  refine pick_op (i := 9) (v := .int .i64 ((es.length : Int) + 1)) (by kernel_rfl) rfl (by kernel_rfl) (by kernel_rfl) rfl rfl (fun w' hw => by simp [go_sem, hwr]) ⟨A1.out.1.c0, A1.out.1.c1⟩ (by simp [go_sem]; exact rfl) ?_
  refine pick_enter (i := 10) (f := 13) (args := #[.pointer (some ⟨d.B, 0, none⟩), .int .i64 ((es.length : Int) + 1)]) rfl (by kernel_rfl) rfl rfl (by simp [go_sem]) ?_
  refine (A1.out.pick HF.out (by omega) _ (by omega)).mono ?_
  rintro e X2 ⟨m, s2, rfl, hm0, hm1, ha, hg⟩
  have A2 := hid ha
  have G2 := hid hg
  clear ha hg
  refine ⟨_, rfl, ⟨A2.out.1.c0, A2.out.1.c1⟩, ?_⟩
  refine pick_frame (by simp [go_sem]; exact rfl) ?_
  refine pick_op (i := 11) (v := .int .i64 m) (by kernel_rfl) rfl (by kernel_rfl) (by kernel_rfl) rfl rfl (fun w' hw => by simp [go_sem]) ⟨A2.out.1.c0, A2.out.1.c1⟩ (by simp [go_sem]; exact rfl) ?_
  refine pick_end (by kernel_rfl) ?_
  have AX := A2
  have HEX := hid (HE.out.grew (G1.out.trans G2.out))
  have GX := hid (G1.out.trans G2.out)
  have g0 := AX.out.1.c0
  have g1 := AX.out.1.c1
  have HM := hid (And.intro hm0 hm1)
  generalize X2 = X at *
  clear A0 HE hwr
  go_wp2_with fail
  go_loopw [12, 13] (fun i k wr => ∃ i' : Nat, i = .int .i64 i' ∧ i' ≤ es.length ∧ wr = X) (fun i _ _ => es.length - (intOf i).toNat)
  case atStart => exact ⟨0, rfl, Nat.zero_le _, rfl⟩
  case round =>
    obtain ⟨i', rfl, hle, rfl⟩ := hrel
    by_cases hi : (i' : Int) < (es.length : Int)
    · obtain ⟨kk, hkk⟩ : ∃ kk : Nat, (m + (i' : Int)) % (es.length : Int) = (kk : Int) := ⟨((m + (i' : Int)) % (es.length : Int)).toNat, by have := Int.emod_nonneg (m + (i' : Int)) (show (es.length : Int) ≠ 0 by omega); omega⟩
      have hkl : kk < es.length := by have := Int.emod_lt_of_pos (m + (i' : Int)) (show (0 : Int) < (es.length : Int) by omega); omega
      have hkt : (m + (i' : Int)).tmod (es.length : Int) = (kk : Int) := (Int.tmod_eq_emod_of_nonneg (by have := HM.out.1; omega)).trans hkk
      have hsum : wrap64 (m + (i' : Int)) = m + (i' : Int) := by have := HM.out; have := HL.out; unfold wrap64; omega
      obtain ⟨bm, om, rfl, hqm, cm⟩ := HEX.out.may.at (i := kk) (by have := HL.out.2; omega)
      obtain ⟨be, oe, xn, xa, xr, rfl, -, hbr, hqe, c0, c1, c2⟩ := HEX.out.effs.at (i := kk) hkl
      have HQ := hid (And.intro hqe hbr)
      have hk0 : (0 : Int) ≤ (kk : Int) := by omega
      have hk1 : (kk : Int) < (es.length : Int) := by omega
      have hk2 : (kk : Int) < (ms.length : Int) := by have := HL.out.2; omega
      have hstep : es.length - (intOf (.int .i64 ((i' + 1 : Nat) : Int))).toNat < es.length - (intOf (.int .i64 (i' : Int))).toNat := lt_step hi
      have hi0 : (0 : Int) ≤ (i' : Int) := by omega
      have hne : ((es.length : Int) == 0) = false := beq_eq_false_iff_ne.2 (by omega)
      clear hqm hqe hbr hkk hkl
      generalize ms.getD kk false = bb at *
      cases bb with
      | false =>
        go_wp2_with fail
        rw [wrap_succ (by have := HL.out.1; omega)]
        exact ⟨⟨i' + 1, rfl, by omega, by first | rfl | trivial⟩, hstep⟩
      | true =>
        go_wp2_with fail
        refine (base_calls xr _).mono ?_
        rintro e W9 ⟨rfl, rfl⟩
        by_cases hty : (xr == ty) = true
        · have HE := HEX
          go_upto_region 7 with fail
          refine pick_begin (S := fun w' => w'.cell? ⟨d.G, 1, none⟩ = some (.slice (some ⟨be, oe, none⟩) es.length cpe) ∧ w'.cell? ⟨be, oe + kk * 3, none⟩ = some (.string xn) ∧ w'.cell? ⟨be, oe + kk * 3 + 1, none⟩ = some (.int .i64 xa)) (by kernel_rfl) rfl rfl ?_
          have A1 := hid AX.out.drew
          have G1 := hid (Grew.refl d wr).drew
          generalize wr.drew = X1 at *
          refine pick_op (i := 0) (v := .pointer (some ⟨d.G, 0, none⟩)) (by kernel_rfl) rfl (by kernel_rfl) (by kernel_rfl) rfl rfl (fun w' hw => by simp [go_sem]) ⟨A1.out.1.c1, ((G1.out.cell (p := ⟨be, oe + kk * 3, none⟩) HQ.out.1).trans c0), ((G1.out.cell (p := ⟨be, oe + kk * 3 + 1, none⟩) HQ.out.1).trans c1)⟩ (by simp [go_sem]; exact rfl) ?_
          refine pick_op (i := 1) (v := .pointer (some ⟨d.G, 0, none⟩)) (by kernel_rfl) rfl (by kernel_rfl) (by kernel_rfl) rfl rfl (fun w' hw => by simp [go_sem]) ⟨A1.out.1.c1, ((G1.out.cell (p := ⟨be, oe + kk * 3, none⟩) HQ.out.1).trans c0), ((G1.out.cell (p := ⟨be, oe + kk * 3 + 1, none⟩) HQ.out.1).trans c1)⟩ (by simp [go_sem]; exact rfl) ?_
          refine pick_op (i := 2) (v := .pointer (some ⟨d.G, 1, none⟩)) (by kernel_rfl) rfl (by kernel_rfl) (by kernel_rfl) rfl rfl (fun w' hw => by simp [go_sem]) ⟨A1.out.1.c1, ((G1.out.cell (p := ⟨be, oe + kk * 3, none⟩) HQ.out.1).trans c0), ((G1.out.cell (p := ⟨be, oe + kk * 3 + 1, none⟩) HQ.out.1).trans c1)⟩ (by simp [go_sem]; exact rfl) ?_
          refine pick_op (i := 3) (v := .slice (some ⟨be, oe, none⟩) es.length cpe) (by kernel_rfl) rfl (by kernel_rfl) (by kernel_rfl) rfl rfl (fun w' hw => by simp [go_sem, hw.1]) ⟨A1.out.1.c1, ((G1.out.cell (p := ⟨be, oe + kk * 3, none⟩) HQ.out.1).trans c0), ((G1.out.cell (p := ⟨be, oe + kk * 3 + 1, none⟩) HQ.out.1).trans c1)⟩ (by simp [go_sem]; exact rfl) ?_
          refine pick_op (i := 4) (v := .int .i64 (kk : Int)) (by kernel_rfl) rfl (by kernel_rfl) (by kernel_rfl) rfl rfl (fun w' hw => by simp [go_sem]) ⟨A1.out.1.c1, ((G1.out.cell (p := ⟨be, oe + kk * 3, none⟩) HQ.out.1).trans c0), ((G1.out.cell (p := ⟨be, oe + kk * 3 + 1, none⟩) HQ.out.1).trans c1)⟩ (by simp [go_sem]; exact rfl) ?_
          refine pick_op (i := 5) (v := .pointer (some ⟨be, oe + kk * 3, none⟩)) (by kernel_rfl) rfl (by kernel_rfl) (by kernel_rfl) rfl rfl (fun w' hw => by simp [go_sem, hk0, hk1]) ⟨A1.out.1.c1, ((G1.out.cell (p := ⟨be, oe + kk * 3, none⟩) HQ.out.1).trans c0), ((G1.out.cell (p := ⟨be, oe + kk * 3 + 1, none⟩) HQ.out.1).trans c1)⟩ (by simp [go_sem]; exact rfl) ?_
          refine pick_op (i := 6) (v := .pointer (some ⟨be, oe + kk * 3, none⟩)) (by kernel_rfl) rfl (by kernel_rfl) (by kernel_rfl) rfl rfl (fun w' hw => by simp [go_sem]) ⟨A1.out.1.c1, ((G1.out.cell (p := ⟨be, oe + kk * 3, none⟩) HQ.out.1).trans c0), ((G1.out.cell (p := ⟨be, oe + kk * 3 + 1, none⟩) HQ.out.1).trans c1)⟩ (by simp [go_sem]; exact rfl) ?_
          refine pick_op (i := 7) (v := .string xn) (by kernel_rfl) rfl (by kernel_rfl) (by kernel_rfl) rfl rfl (fun w' hw => by simp [go_sem, hw.2.1]) ⟨A1.out.1.c1, ((G1.out.cell (p := ⟨be, oe + kk * 3, none⟩) HQ.out.1).trans c0), ((G1.out.cell (p := ⟨be, oe + kk * 3 + 1, none⟩) HQ.out.1).trans c1)⟩ (by simp [go_sem]; exact rfl) ?_
          refine pick_op (i := 8) (v := .agg #[.int .i64 22, .int .i64 0, .string xn, .string ⟨#[]⟩, .string ⟨#[]⟩, .int .i64 0]) (by kernel_rfl) rfl (by kernel_rfl) (by kernel_rfl) rfl rfl (fun w' hw => by simp [go_sem]) ⟨A1.out.1.c1, ((G1.out.cell (p := ⟨be, oe + kk * 3, none⟩) HQ.out.1).trans c0), ((G1.out.cell (p := ⟨be, oe + kk * 3 + 1, none⟩) HQ.out.1).trans c1)⟩ (by simp [go_sem]; exact rfl) ?_
          refine pick_op (i := 9) (v := .pointer (some ⟨d.G, 0, none⟩)) (by kernel_rfl) rfl (by kernel_rfl) (by kernel_rfl) rfl rfl (fun w' hw => by simp [go_sem]) ⟨A1.out.1.c1, ((G1.out.cell (p := ⟨be, oe + kk * 3, none⟩) HQ.out.1).trans c0), ((G1.out.cell (p := ⟨be, oe + kk * 3 + 1, none⟩) HQ.out.1).trans c1)⟩ (by simp [go_sem]; exact rfl) ?_
          refine pick_op (i := 10) (v := .pointer (some ⟨d.G, 0, none⟩)) (by kernel_rfl) rfl (by kernel_rfl) (by kernel_rfl) rfl rfl (fun w' hw => by simp [go_sem]) ⟨A1.out.1.c1, ((G1.out.cell (p := ⟨be, oe + kk * 3, none⟩) HQ.out.1).trans c0), ((G1.out.cell (p := ⟨be, oe + kk * 3 + 1, none⟩) HQ.out.1).trans c1)⟩ (by simp [go_sem]; exact rfl) ?_
          refine pick_op (i := 11) (v := .pointer (some ⟨d.G, 0, none⟩)) (by kernel_rfl) rfl (by kernel_rfl) (by kernel_rfl) rfl rfl (fun w' hw => by simp [go_sem]) ⟨A1.out.1.c1, ((G1.out.cell (p := ⟨be, oe + kk * 3, none⟩) HQ.out.1).trans c0), ((G1.out.cell (p := ⟨be, oe + kk * 3 + 1, none⟩) HQ.out.1).trans c1)⟩ (by simp [go_sem]; exact rfl) ?_
          refine pick_op (i := 12) (v := .pointer (some ⟨d.G, 1, none⟩)) (by kernel_rfl) rfl (by kernel_rfl) (by kernel_rfl) rfl rfl (fun w' hw => by simp [go_sem]) ⟨A1.out.1.c1, ((G1.out.cell (p := ⟨be, oe + kk * 3, none⟩) HQ.out.1).trans c0), ((G1.out.cell (p := ⟨be, oe + kk * 3 + 1, none⟩) HQ.out.1).trans c1)⟩ (by simp [go_sem]; exact rfl) ?_
          refine pick_op (i := 13) (v := .slice (some ⟨be, oe, none⟩) es.length cpe) (by kernel_rfl) rfl (by kernel_rfl) (by kernel_rfl) rfl rfl (fun w' hw => by simp [go_sem, hw.1]) ⟨A1.out.1.c1, ((G1.out.cell (p := ⟨be, oe + kk * 3, none⟩) HQ.out.1).trans c0), ((G1.out.cell (p := ⟨be, oe + kk * 3 + 1, none⟩) HQ.out.1).trans c1)⟩ (by simp [go_sem]; exact rfl) ?_
          refine pick_op (i := 14) (v := .int .i64 (kk : Int)) (by kernel_rfl) rfl (by kernel_rfl) (by kernel_rfl) rfl rfl (fun w' hw => by simp [go_sem]) ⟨A1.out.1.c1, ((G1.out.cell (p := ⟨be, oe + kk * 3, none⟩) HQ.out.1).trans c0), ((G1.out.cell (p := ⟨be, oe + kk * 3 + 1, none⟩) HQ.out.1).trans c1)⟩ (by simp [go_sem]; exact rfl) ?_
          refine pick_op (i := 15) (v := .pointer (some ⟨be, oe + kk * 3, none⟩)) (by kernel_rfl) rfl (by kernel_rfl) (by kernel_rfl) rfl rfl (fun w' hw => by simp [go_sem, hk0, hk1]) ⟨A1.out.1.c1, ((G1.out.cell (p := ⟨be, oe + kk * 3, none⟩) HQ.out.1).trans c0), ((G1.out.cell (p := ⟨be, oe + kk * 3 + 1, none⟩) HQ.out.1).trans c1)⟩ (by simp [go_sem]; exact rfl) ?_
          refine pick_op (i := 16) (v := .pointer (some ⟨be, oe + kk * 3 + 1, none⟩)) (by kernel_rfl) rfl (by kernel_rfl) (by kernel_rfl) rfl rfl (fun w' hw => by simp [go_sem]) ⟨A1.out.1.c1, ((G1.out.cell (p := ⟨be, oe + kk * 3, none⟩) HQ.out.1).trans c0), ((G1.out.cell (p := ⟨be, oe + kk * 3 + 1, none⟩) HQ.out.1).trans c1)⟩ (by simp [go_sem]; exact rfl) ?_
          refine pick_op (i := 17) (v := .int .i64 xa) (by kernel_rfl) rfl (by kernel_rfl) (by kernel_rfl) rfl rfl (fun w' hw => by simp [go_sem, hw.2.2]) ⟨A1.out.1.c1, ((G1.out.cell (p := ⟨be, oe + kk * 3, none⟩) HQ.out.1).trans c0), ((G1.out.cell (p := ⟨be, oe + kk * 3 + 1, none⟩) HQ.out.1).trans c1)⟩ (by simp [go_sem]; exact rfl) ?_
          refine pick_op (i := 19) (v := .slice ad ks.length cp) (by kernel_rfl) rfl (by kernel_rfl) (by kernel_rfl) rfl rfl (fun w' hw => by simp [go_sem]) ⟨A1.out.1.c1, ((G1.out.cell (p := ⟨be, oe + kk * 3, none⟩) HQ.out.1).trans c0), ((G1.out.cell (p := ⟨be, oe + kk * 3 + 1, none⟩) HQ.out.1).trans c1)⟩ (by simp [go_sem]; exact rfl) ?_
          refine pick_op (i := 20) (v := .slice (some ⟨bm, om, none⟩) ms.length cpm) (by kernel_rfl) rfl (by kernel_rfl) (by kernel_rfl) rfl rfl (fun w' hw => by simp [go_sem]) ⟨A1.out.1.c1, ((G1.out.cell (p := ⟨be, oe + kk * 3, none⟩) HQ.out.1).trans c0), ((G1.out.cell (p := ⟨be, oe + kk * 3 + 1, none⟩) HQ.out.1).trans c1)⟩ (by simp [go_sem]; exact rfl) ?_
          refine pick_op (i := 21) (v := .int .i64 deep) (by kernel_rfl) rfl (by kernel_rfl) (by kernel_rfl) rfl rfl (fun w' hw => by simp [go_sem]) ⟨A1.out.1.c1, ((G1.out.cell (p := ⟨be, oe + kk * 3, none⟩) HQ.out.1).trans c0), ((G1.out.cell (p := ⟨be, oe + kk * 3 + 1, none⟩) HQ.out.1).trans c1)⟩ (by simp [go_sem]; exact rfl) ?_
          refine pick_enter (i := 18) (f := 74) (args := #[.int .i64 xa]) rfl (by kernel_rfl) rfl rfl (by simp [go_sem]) ?_
          refine (base_calls xa _).mono ?_
          rintro e W8 ⟨rfl, rfl⟩
          refine ⟨_, rfl, ⟨A1.out.1.c1, ((G1.out.cell (p := ⟨be, oe + kk * 3, none⟩) HQ.out.1).trans c0), ((G1.out.cell (p := ⟨be, oe + kk * 3 + 1, none⟩) HQ.out.1).trans c1)⟩, ?_⟩
          refine pick_frame (by simp [go_sem]; exact rfl) ?_
          refine pick_enter (i := 22) (f := 46) (args := #[.pointer (some ⟨d.G, 0, none⟩), .int .i64 xa, .slice ad ks.length cp, .slice (some ⟨bm, om, none⟩) ms.length cpm, .int .i64 deep]) rfl (by kernel_rfl) rfl rfl (by simp [go_sem]) ?_
          refine (A1.out.nodes (HO.out deep xa _ _ _ _ _ _ (by have := HD.out; omega) (by have := HD.out; omega) (A1.out.fit HF.out 10 (by omega)) A1.out.1 (HE.out.grew G1.out).down)).mono ?_
          rintro e X2 ⟨v2, n2, s2, t2, rfl, hn2, hl2, ha, hg⟩
          have A2 := hid ha
          have G2 := hid hg
          clear ha hg
          have N2 := hid (And.intro hn2 hl2)
          obtain ⟨ad2, cp2, rfl⟩ := hn2.is
          clear hn2 hl2
          refine ⟨_, rfl, ⟨A2.out.1.c1, (((G1.out.trans G2.out).cell (p := ⟨be, oe + kk * 3, none⟩) HQ.out.1).trans c0), (((G1.out.trans G2.out).cell (p := ⟨be, oe + kk * 3 + 1, none⟩) HQ.out.1).trans c1)⟩, ?_⟩
          refine pick_frame (by simp [go_sem]; exact rfl) ?_
          have KV : Hid (KidsV d (X2.alloc (.cells #[.slice ad2 n2.length cp2] 43)) (.slice (some ⟨X2.heap.size, 0, none⟩) 1 1) [(.slice ad2 n2.length cp2, n2)]) := (kids_lit [(.slice ad2 n2.length cp2, n2)] _ rfl A2.out.1.ltB A2.out.1.ltG (fun x hx => by simp at hx; rcases hx with rfl; exact N2.out.1))
          have A3 := hid (A2.out.alloc (.cells #[.slice ad2 n2.length cp2] 43))
          have G3 := hid ((Grew.refl d X2).alloc (.cells #[.slice ad2 n2.length cp2] 43))
          refine pick_make (i := 23) (v := .slice (some ⟨X2.heap.size, 0, none⟩) 1 1) (w1 := X2.alloc (.cells #[.slice ad2 n2.length cp2] 43)) rfl (by kernel_rfl) rfl rfl (by simp [go_sem]) ⟨A3.out.1.c1, (((G1.out.trans (G2.out.trans G3.out)).cell (p := ⟨be, oe + kk * 3, none⟩) HQ.out.1).trans c0), (((G1.out.trans (G2.out.trans G3.out)).cell (p := ⟨be, oe + kk * 3 + 1, none⟩) HQ.out.1).trans c1)⟩ (by simp [go_sem]; exact rfl) ?_
          generalize X2.alloc (.cells #[.slice ad2 n2.length cp2] 43) = X3 at *
          refine pick_enter (i := 24) (f := 60) (args := #[.agg #[.int .i64 22, .int .i64 0, .string xn, .string ⟨#[]⟩, .string ⟨#[]⟩, .int .i64 0], .slice (some ⟨X2.heap.size, 0, none⟩) 1 1]) rfl (by kernel_rfl) rfl rfl (by simp [go_sem]) ?_
          refine (A3.out.put_kids 22 0 0 xn ⟨#[]⟩ ⟨#[]⟩ KV.out ⟨HQ.out.2, brief_none, brief_none⟩ (by simp) (by have := A3.out.bound HF.out (by omega) (by decide); have := N2.out.2; simp [flatL]; omega)).mono ?_
          rintro e X4 ⟨v4, n4, rfl, hn4, hl4, ha, hg⟩
          have A4 := hid ha
          have G4 := hid hg
          clear ha hg
          have N4 := hid (And.intro hn4 hl4)
          obtain ⟨ad4, cp4, rfl⟩ := hn4.is
          clear hn4 hl4
          refine ⟨_, rfl, ⟨A4.out.1.c1, (((G1.out.trans (G2.out.trans (G3.out.trans G4.out))).cell (p := ⟨be, oe + kk * 3, none⟩) HQ.out.1).trans c0), (((G1.out.trans (G2.out.trans (G3.out.trans G4.out))).cell (p := ⟨be, oe + kk * 3 + 1, none⟩) HQ.out.1).trans c1)⟩, ?_⟩
          refine pick_frame (by simp [go_sem]; exact rfl) ?_
          refine pick_op (i := 25) (v := .slice ad4 n4.length cp4) (by kernel_rfl) rfl (by kernel_rfl) (by kernel_rfl) rfl rfl (fun w' hw => by simp [go_sem]) ⟨A4.out.1.c1, (((G1.out.trans (G2.out.trans (G3.out.trans G4.out))).cell (p := ⟨be, oe + kk * 3, none⟩) HQ.out.1).trans c0), (((G1.out.trans (G2.out.trans (G3.out.trans G4.out))).cell (p := ⟨be, oe + kk * 3 + 1, none⟩) HQ.out.1).trans c1)⟩ (by simp [go_sem]; exact rfl) ?_
          refine pick_end (by kernel_rfl) ?_
          go_wp2_with fail
          go_ret
          exact A4.out.done0 5 N4.out.1 (by have := N4.out.2; have := N2.out.2; simp [flatL] at *; omega) (by omega)
        · have hty' : (xr == ty) = false := by simpa using hty
          clear hty
          go_wp2_with fail
          rw [wrap_succ (by have := HL.out.1; omega)]
          exact ⟨⟨i' + 1, rfl, by omega, by first | rfl | trivial⟩, hstep⟩
    · go_wp2_with fail
      go_ret
      exact none_post AX.out (by omega)
end Go.Proofs.Ytnhofdngmbnlkaa

/- A function that calls itself is drawn, and a call. -/
namespace Go.Proofs.Ytnhofdngmbnlkaa
open Go.RowKit Go.Deep

set_option maxHeartbeats 8000000 in
set_option maxRecDepth 100000 in
/-- A function that calls itself, and a call. -/
theorem loop_calls {d : Dr} {ve v vm : Value} {es : List Ef} {W : World} {s : Cn} {ks : List Kn} {ms : List Bool} {D : Nat} (deep : Int) (hO : OfC d ve es D) (h1 : deep ≤ D) (h2 : -90 ≤ deep) (h3 : D ≤ 100) (h : Gen d ve W s) (hf : Fit s 60) (hE : Env d ve es W v ks vm ms (D + 1)) :
    Calls Try.prog 75 #[.pointer (some ⟨d.G, 0, none⟩), v, vm, .int .i64 deep] W (NodesPost d ve W s 60) := by
  have HF := hid hf
  have HO := hid hO
  have A0 := hid (At.start h)
  have HE := hid hE
  have HD := hid (And.intro h1 (And.intro h2 h3))
  have hdu : deep ≤ 1000 := by omega
  obtain ⟨ad, cp, rfl⟩ := hE.know.is
  obtain ⟨adm, cpm, rfl⟩ := hE.may.is
  clear hO h1 h3 h hf hE
  go_enter Try.func75, Try.ntmps75
  go_wp2_with fail
  refine (A0.out.name HF.out (by omega)).mono ?_
  rintro e X1 ⟨x1, s1, rfl, hb1, ha, hg⟩
  have A1 := hid ha
  have G1 := hid hg
  clear ha hg
  have B1 := hid hb1
  clear hb1
  go_wp2_with fail
  refine (A1.out.name HF.out (by omega)).mono ?_
  rintro e X2 ⟨x2, s2, rfl, hb2, ha, hg⟩
  have A2 := hid ha
  have G2 := hid hg
  clear ha hg
  have B2 := hid hb2
  clear hb2
  have N3 := hid (And.intro (nd_lit_at (d := d) X2 ⟨5, 0, x2, ByteArray.empty, ByteArray.empty, 0⟩ (X2.heap.size) (by simp) A2.out.1.ltB A2.out.1.ltG ⟨B2.out, brief_none, brief_none⟩) (show [(⟨5, 0, x2, ByteArray.empty, ByteArray.empty, 0⟩ : Nd)].length = 1 from rfl))
  have A3 := hid (A2.out.alloc (.cells #[.int .i64 5, .int .i64 0, .string x2, .string ByteArray.empty, .string ByteArray.empty, .int .i64 0] 65))
  have G3 := hid ((Grew.refl d X2).alloc (.cells #[.int .i64 5, .int .i64 0, .string x2, .string ByteArray.empty, .string ByteArray.empty, .int .i64 0] 65))
  have N4 := hid (And.intro (nd_lit_at (d := d) (X2.alloc (.cells #[.int .i64 5, .int .i64 0, .string x2, .string ByteArray.empty, .string ByteArray.empty, .int .i64 0] 65)) ⟨5, 0, x1, ByteArray.empty, ByteArray.empty, 0⟩ (X2.heap.size + 1) (by simp) A3.out.1.ltB A3.out.1.ltG ⟨B1.out, brief_none, brief_none⟩) (show [(⟨5, 0, x1, ByteArray.empty, ByteArray.empty, 0⟩ : Nd)].length = 1 from rfl))
  have A4 := hid (A3.out.alloc (.cells #[.int .i64 5, .int .i64 0, .string x1, .string ByteArray.empty, .string ByteArray.empty, .int .i64 0] 65))
  have G4 := hid ((Grew.refl d (X2.alloc (.cells #[.int .i64 5, .int .i64 0, .string x2, .string ByteArray.empty, .string ByteArray.empty, .int .i64 0] 65))).alloc (.cells #[.int .i64 5, .int .i64 0, .string x1, .string ByteArray.empty, .string ByteArray.empty, .int .i64 0] 65))
  go_wp2_with fail
  refine (A4.out.node 1 1).mono ?_
  rintro e X5 ⟨v5, n5, rfl, hn5, hl5, ha, hg⟩
  have A5 := hid ha
  have G5 := hid hg
  clear ha hg
  have N5 := hid (And.intro hn5 hl5)
  obtain ⟨ad5, cp5, rfl⟩ := hn5.is
  clear hn5 hl5
  go_wp2_with fail
  refine (A5.out.put2 12 0 0 ByteArray.empty ByteArray.empty ByteArray.empty (N3.out.1.grew (G4.out.trans G5.out)) N5.out.1 ⟨brief_none, brief_none, brief_none⟩ (by have := A5.out.bound HF.out (by omega) (by decide); have := N3.out.2; have := N5.out.2; omega)).mono ?_
  rintro e X6 ⟨v6, n6, rfl, hn6, hl6, ha, hg⟩
  have A6 := hid ha
  have G6 := hid hg
  clear ha hg
  have N6 := hid (And.intro hn6 hl6)
  obtain ⟨ad6, cp6, rfl⟩ := hn6.is
  clear hn6 hl6
  go_wp2_with fail
  refine (A6.out.put2 7 0 0 ByteArray.empty ByteArray.empty ByteArray.empty (N4.out.1.grew (G5.out.trans G6.out)) N6.out.1 ⟨brief_none, brief_none, brief_none⟩ (by have := A6.out.bound HF.out (by omega) (by decide); have := N4.out.2; have := N6.out.2; have := N3.out.2; have := N5.out.2; omega)).mono ?_
  rintro e X7 ⟨v7, n7, rfl, hn7, hl7, ha, hg⟩
  have A7 := hid ha
  have G7 := hid hg
  clear ha hg
  have N7 := hid (And.intro hn7 hl7)
  obtain ⟨ad7, cp7, rfl⟩ := hn7.is
  clear hn7 hl7
  go_wp2_with fail
  refine (A7.out.add x2 1 0 (HE.out.grew (G1.out.trans (G2.out.trans (G3.out.trans (G4.out.trans (G5.out.trans (G6.out.trans G7.out))))))).know B2.out (by have := HE.out.room; omega)).mono ?_
  rintro e X8 ⟨u8, ks8, rfl, hk8, hkl8, ha, hg⟩
  have A8 := hid ha
  have G8 := hid hg
  clear ha hg
  have K8 := hid (And.intro hk8 hkl8)
  obtain ⟨ad8, cp8, rfl⟩ := hk8.is
  clear hk8 hkl8
  go_wp2_with fail
  refine (A8.out.node 1 1).mono ?_
  rintro e X9 ⟨v9, n9, rfl, hn9, hl9, ha, hg⟩
  have A9 := hid ha
  have G9 := hid hg
  clear ha hg
  have N9 := hid (And.intro hn9 hl9)
  obtain ⟨ad9, cp9, rfl⟩ := hn9.is
  clear hn9 hl9
  go_wp2_with fail
  refine (A9.out.put2 15 0 0 ByteArray.empty ByteArray.empty ByteArray.empty (N3.out.1.grew (G4.out.trans (G5.out.trans (G6.out.trans (G7.out.trans (G8.out.trans G9.out)))))) N9.out.1 ⟨brief_none, brief_none, brief_none⟩ (by have := A9.out.bound HF.out (by omega) (by decide); have := N3.out.2; have := N9.out.2; omega)).mono ?_
  rintro e X10 ⟨v10, n10, rfl, hn10, hl10, ha, hg⟩
  have A10 := hid ha
  have G10 := hid hg
  clear ha hg
  have N10 := hid (And.intro hn10 hl10)
  obtain ⟨ad10, cp10, rfl⟩ := hn10.is
  clear hn10 hl10
  go_wp2_with fail
  refine (A10.out.nodes (leaf_calls 1 A10.out.1 (A10.out.fit HF.out 10 (by omega)) (K8.out.1.grew (G9.out.trans G10.out)) (by have := HE.out.room; have := K8.out.2; omega))).mono ?_
  rintro e X11 ⟨v11, n11, s11, t11, rfl, hn11, hl11, ha, hg⟩
  have A11 := hid ha
  have G11 := hid hg
  clear ha hg
  have N11 := hid (And.intro hn11 hl11)
  obtain ⟨ad11, cp11, rfl⟩ := hn11.is
  clear hn11 hl11
  go_wp2_with fail
  refine (A11.out.nodes (HO.out (deep - 2) 1 _ _ _ _ _ _ (by have := HD.out; omega) (by have := HD.out; omega) (A11.out.fit HF.out 10 (by omega)) A11.out.1 ((HE.out.grew (G1.out.trans (G2.out.trans (G3.out.trans (G4.out.trans (G5.out.trans (G6.out.trans (G7.out.trans (G8.out.trans (G9.out.trans (G10.out.trans G11.out))))))))))).with (K8.out.1.grew (G9.out.trans (G10.out.trans G11.out))) (by have := K8.out.2; omega)))).mono ?_
  rintro e X12 ⟨v12, n12, s12, t12, rfl, hn12, hl12, ha, hg⟩
  have A12 := hid ha
  have G12 := hid hg
  clear ha hg
  have N12 := hid (And.intro hn12 hl12)
  obtain ⟨ad12, cp12, rfl⟩ := hn12.is
  clear hn12 hl12
  go_wp2_with fail
  refine (A12.out.put2 11 0 0 ByteArray.empty ByteArray.empty ByteArray.empty N12.out.1 (N7.out.1.grew (G8.out.trans (G9.out.trans (G10.out.trans (G11.out.trans G12.out))))) ⟨brief_none, brief_none, brief_none⟩ (by have := A12.out.bound HF.out (by omega) (by decide); have := N12.out.2; have := N7.out.2; have := N4.out.2; have := N6.out.2; have := N3.out.2; have := N5.out.2; omega)).mono ?_
  rintro e X13 ⟨v13, n13, rfl, hn13, hl13, ha, hg⟩
  have A13 := hid ha
  have G13 := hid hg
  clear ha hg
  have N13 := hid (And.intro hn13 hl13)
  obtain ⟨ad13, cp13, rfl⟩ := hn13.is
  clear hn13 hl13
  go_wp2_with fail
  refine (A13.out.put3 10 0 0 ByteArray.empty ByteArray.empty ByteArray.empty (N10.out.1.grew (G11.out.trans (G12.out.trans G13.out))) (N11.out.1.grew (G12.out.trans G13.out)) N13.out.1 ⟨brief_none, brief_none, brief_none⟩ (by have := A13.out.bound HF.out (by omega) (by decide); have := N10.out.2; have := N3.out.2; have := N9.out.2; have := N11.out.2; have := N13.out.2; have := N12.out.2; have := N7.out.2; have := N4.out.2; have := N6.out.2; have := N3.out.2; have := N5.out.2; omega)).mono ?_
  rintro e X14 ⟨v14, n14, rfl, hn14, hl14, ha, hg⟩
  have A14 := hid ha
  have G14 := hid hg
  clear ha hg
  have N14 := hid (And.intro hn14 hl14)
  obtain ⟨ad14, cp14, rfl⟩ := hn14.is
  clear hn14 hl14
  have N15 := hid (And.intro (nd_lit_at (d := d) X14 ⟨5, 0, x1, ByteArray.empty, ByteArray.empty, 0⟩ (X14.heap.size) (by simp) A14.out.1.ltB A14.out.1.ltG ⟨B1.out, brief_none, brief_none⟩) (show [(⟨5, 0, x1, ByteArray.empty, ByteArray.empty, 0⟩ : Nd)].length = 1 from rfl))
  have A15 := hid (A14.out.alloc (.cells #[.int .i64 5, .int .i64 0, .string x1, .string ByteArray.empty, .string ByteArray.empty, .int .i64 0] 65))
  have G15 := hid ((Grew.refl d X14).alloc (.cells #[.int .i64 5, .int .i64 0, .string x1, .string ByteArray.empty, .string ByteArray.empty, .int .i64 0] 65))
  have g0 : (X14.alloc (.cells #[.int .i64 5, .int .i64 0, .string x1, .string ⟨#[]⟩, .string ⟨#[]⟩, .int .i64 0] 65)).cell? ⟨d.G, 0, none⟩ = some (.pointer (some ⟨d.B, 0, none⟩)) := A15.out.1.c0
  go_wp2_with fail
  refine (A15.out.pick HF.out (by omega) 12 (by decide)).mono ?_
  rintro e X16 ⟨m16, s16, rfl, hm16, hM16, ha, hg⟩
  have A16 := hid ha
  have G16 := hid hg
  clear ha hg
  clear g0
  go_wp2_with fail
  refine (A16.out.node 1 m16).mono ?_
  rintro e X17 ⟨v17, n17, rfl, hn17, hl17, ha, hg⟩
  have A17 := hid ha
  have G17 := hid hg
  clear ha hg
  have N17 := hid (And.intro hn17 hl17)
  obtain ⟨ad17, cp17, rfl⟩ := hn17.is
  clear hn17 hl17
  go_wp2_with fail
  refine (A17.out.put2 7 0 0 ByteArray.empty ByteArray.empty ByteArray.empty (N15.out.1.grew (G16.out.trans G17.out)) N17.out.1 ⟨brief_none, brief_none, brief_none⟩ (by have := A17.out.bound HF.out (by omega) (by decide); have := N15.out.2; have := N17.out.2; omega)).mono ?_
  rintro e X18 ⟨v18, n18, rfl, hn18, hl18, ha, hg⟩
  have A18 := hid ha
  have G18 := hid hg
  clear ha hg
  have N18 := hid (And.intro hn18 hl18)
  obtain ⟨ad18, cp18, rfl⟩ := hn18.is
  clear hn18 hl18
  go_wp2_with fail
  refine (A18.out.put2 9 0 0 x1 x2 ByteArray.empty (N14.out.1.grew (G15.out.trans (G16.out.trans (G17.out.trans G18.out)))) N18.out.1 ⟨B1.out, B2.out, brief_none⟩ (by have := A18.out.bound HF.out (by omega) (by decide); have := N14.out.2; have := N10.out.2; have := N3.out.2; have := N9.out.2; have := N11.out.2; have := N13.out.2; have := N12.out.2; have := N7.out.2; have := N4.out.2; have := N6.out.2; have := N3.out.2; have := N5.out.2; have := N18.out.2; have := N15.out.2; have := N17.out.2; omega)).mono ?_
  rintro e X19 ⟨v19, n19, rfl, hn19, hl19, ha, hg⟩
  have A19 := hid ha
  have G19 := hid hg
  clear ha hg
  have N19 := hid (And.intro hn19 hl19)
  obtain ⟨ad19, cp19, rfl⟩ := hn19.is
  clear hn19 hl19
  go_wp2_with fail
  go_ret
  exact A19.out.done 30 N19.out.1 (by have := N19.out.2; have := N14.out.2; have := N10.out.2; have := N3.out.2; have := N9.out.2; have := N11.out.2; have := N13.out.2; have := N12.out.2; have := N7.out.2; have := N4.out.2; have := N6.out.2; have := N3.out.2; have := N5.out.2; have := N18.out.2; have := N15.out.2; have := N17.out.2; omega) (by omega)
end Go.Proofs.Ytnhofdngmbnlkaa
