/- The program's text of code is the plain one. -/
import Derived.Test.YtmjcifaihmecmaaDoorSpecText
import Derived.Test.YtmjcifaihmecmaaDoorImplNums
import Derived.Test.YtmjcifaihmecmaaDoorBuilderOwn
import Derived.Lib.SmallJoins
namespace Go.Proofs.YtmjcifaihmecmaaDoor
open Go.RowKit

/-- The table of the instructions' words, as it lies. -/
def wordsArr : Array Value := (insWordsL.map fun l => Value.string ⟨l.toArray⟩).toArray

structure Laid (w : World) : Prop where
  words : w.var? Tryd.prog "loop.example/handrail/impl.insWords" = some wordsArr
  pows : Lib.TabIs Tryd.prog w "internal/strconv.uint64pow10" .u64 Lib.pow10Tab

theorem gWords : Tryd.prog.globalNamed "loop.example/handrail/impl.insWords" = some 0 := by kernel_rfl
theorem gPows : Tryd.prog.globalNamed "internal/strconv.uint64pow10" = some 1 := by kernel_rfl

theorem Laid.stays {w w' : World} (h : Laid w) (hb : Below w.heap.size w w') : Laid w' :=
  ⟨Joins.var_stays gWords h.words hb (Nat.le_refl _), Joins.var_stays gPows h.pows hb (Nat.le_refl _)⟩

theorem Laid.word {w : World} (h : Laid w) (k : Nat) (hk : k < 26) : w.cell? ⟨0, k, none⟩ = some (.string (tx (wordZ (k : Int)))) := by
  rw [World.var?_cell gWords h.words k]
  have hl : k < insWordsL.length := hk
  simp [wordsArr, wordZ, tx, hl]

theorem builder_kept {T e : TypeId} {B b : Nat} {bs : List Value} {w w' : World} (h : Lib.IsBuilderF T e B b bs w) (hb : Below w.heap.size w w') : Lib.IsBuilderF T e B b bs w' := by
  have one : ∀ p, Lib.BuilderAtF T e B b p bs w → Lib.BuilderAtF T e B b p bs w' := by
    rintro p ⟨hB, v, hbk, hown, hne⟩
    exact ⟨hB, v, (hb.block b (heap_lt hbk)).trans hbk, hown.kept (kept_of_below hb none) (by cases hv : v.ownBlock <;> simp), hne⟩
  exact h.imp (one _) (one _)

theorem builder_new (B : Nat) (w : World) (hB : B ≤ w.heap.size) : Lib.IsBuilderF 41 5 B w.heap.size [] (w.alloc (.cells #[.pointer none, .slice none 0 0] 41)) :=
  Or.inl ⟨hB, _, (MapKept.heap_alloc w _).1, World.ownsRowF_nil _ _ _ _, by simp [Value.ownBlock]⟩

theorem grow_below (w : World) (k : Nat) (os : Array Obj) : Below w.heap.size w (Go.Sort.grow (w.drewN k) os) :=
  ⟨rfl, rfl, rfl, by rw [Go.Sort.size_grow]; exact Nat.le_add_right _ _, fun j hj => by rw [Go.Sort.heap_grow_old (w.drewN k) os hj]; rfl⟩

theorem builder_lt {T e : TypeId} {B b : Nat} {bs : List Value} {w : World} (h : Lib.IsBuilderF T e B b bs w) : b < w.heap.size := h.elim (fun h => h.lt) (fun h => h.lt)

theorem put_calls (B bb : Nat) (l m : List UInt8) (w : World) (h : Lib.IsBuilderF 41 5 B bb (Lib.byteCells l) w) (hl : l.length + m.length ≤ 1000000) (hB : B ≤ w.heap.size) :
    Calls Tryd.prog 15 #[.pointer (some ⟨bb, 0, none⟩), .string (tx m)] w fun e w' => e = .returned (.tuple #[.int .i64 m.length, .nilIface]) ∧ Lib.IsBuilderF 41 5 B bb (Lib.byteCells (l ++ m)) w' ∧ Below B w w' ∧ Lib.OthersKept 5 (some bb) w w' := by
  refine (writeString_calls B bb (Lib.byteCells l) (tx m) w h (by rw [Lib.byteCells_length, tx_size]; exact hl) hB).mono ?_
  rintro e w' ⟨rfl, h1, h2, h3⟩
  refine ⟨by rw [tx_size], ?_, h2, h3⟩
  rw [Lib.byteCells_append]
  exact h1

theorem itoa_calls (n : Int) (hn : Small n) (w : World) (hL : Laid w) :
    Calls Tryd.prog 17 #[.int .i64 n] w fun e w' => e = .returned (.string (tx (Lib.itoa n))) ∧ Below w.heap.size w w' := by
  unfold Small at hn
  refine (Tryd.strconv_Itoa n (by omega) (by omega) w hL.pows).mono ?_
  rintro e w' ⟨rfl, k, os, rfl⟩
  exact ⟨rfl, grow_below w k os⟩

set_option maxHeartbeats 4000000 in
set_option maxRecDepth 100000 in
theorem implText_rows (b off cap : Nat) (cs : List In) (w : World) (hL : Laid w) (hb : b < w.heap.size) (hn : InsAt w b off cs) :
    Calls Tryd.prog 7 #[.slice (some ⟨b, off, none⟩) cs.length cap] w fun e w' => e = .returned (.string (tx (ansText cs))) ∧ Below w.heap.size w w' := by
  have HL : Hid (Calls _ _ _ _ _) := listOk_calls b off cap cs w hb hn
  obtain ⟨len, hlen⟩ : ∃ len, cs.length = len := ⟨_, rfl⟩
  have Hlen : Hid (cs.length = len) := hlen
  have HN : Hid (InsAt w b off cs) := hn
  have HLA : Hid (Laid w) := hL
  clear hn hL
  cases hok : codeOkZ cs with
  | false =>
    rw [hlen, hok] at HL
    rw [hlen, ansText, hok, if_neg (by simp)]
    go_enter Tryd.func7, Tryd.ntmps7
    go_wp2_with fail
    refine HL.out.mono ?_
    rintro e w1 ⟨rfl, hb1⟩
    go_wp2_with fail
    go_ret
    exact ⟨rfl, hb1⟩
  | true =>
    rw [hlen, hok] at HL
    rw [hlen, ansText, hok, if_pos rfl]
    have HM : Hid (len ≤ 1500 ∧ cs.all In.ok = true) := by
      unfold codeOkZ at hok
      rw [Bool.and_eq_true] at hok
      exact ⟨by have := of_decide_eq_true hok.1; omega, hok.2⟩
    obtain ⟨ansR, hansR⟩ : ∃ ansR, tx (textZ cs) = ansR := ⟨_, rfl⟩
    have HAN : Hid (tx (textZ cs) = ansR) := hansR
    rw [hansR]
    clear hlen hok hansR
    go_enter Tryd.func7, Tryd.ntmps7
    go_wp2_with fail
    refine HL.out.mono ?_
    rintro e W1 ⟨rfl, hb1⟩
    clear HL
    have HNEW := hid (builder_new w.heap.size W1 hb1.size)
    have hnx0 := hb1.alloc hb1.size (.cells #[.pointer none, .slice none 0 0] 41)
    go_wp2_with fail
    generalize W1.alloc (.cells #[.pointer none, .slice none 0 0] 41) = W2 at *
    generalize W1.heap.size = bb at *
    clear hb1
    go_loopw [13] (fun i wr => ∃ k : Nat, i = .int .i64 k ∧ k ≤ len ∧ Hid (Lib.IsBuilderF 41 5 w.heap.size bb (Lib.byteCells (textZ (cs.take k))) wr) ∧ Below w.heap.size w wr) (fun i _ => len - (intOf i).toNat)
    case atStart => exact ⟨0, rfl, Nat.zero_le _, HNEW, hnx0⟩
    case round =>
      obtain ⟨k, rfl, hk, HB, hnx⟩ := hrel
      clear HNEW hnx0
      have hszr := hnx.size
      by_cases hkl : (k : Int) < (len : Int)
      · have hkn : k < cs.length := by rw [Hlen.out]; omega
        have hcell := fun c (hc : c < 4) => (hnx.cell (p := ⟨b, off + k * 4 + c, none⟩) hb).trans (HN.out k hkn c hc)
        have HD : Hid (cs.take (k + 1) = cs.take k ++ [cs.getD k default]) := ins_drop hkn
        have hok : In.ok (cs.getD k default) = true := List.all_eq_true.1 HM.out.2 (cs.getD k default) (by simp [List.getD, List.getElem?_eq_getElem hkn])
        generalize cs.getD k default = n at hcell HD hok
        obtain ⟨op, x, y, z⟩ := n
        have c0 := hcell 0 (by omega)
        have c1 := hcell 1 (by omega)
        have c2 := hcell 2 (by omega)
        have c3 := hcell 3 (by omega)
        simp only [In.cell, Nat.add_zero] at c0 c1 c2 c3
        clear hcell hkn
        have HTL : Hid ((textZ (cs.take k)).length ≤ 900000) := by
          show _ ≤ _
          have h0 : (cs.take k).all In.ok = true := by
            rw [List.all_eq_true]
            exact fun i hi => List.all_eq_true.1 HM.out.2 i (List.mem_of_mem_take hi)
          have h1 := text_length (cs.take k) h0
          have h2 : (cs.take k).length ≤ k := by simp; omega
          have := HM.out.1
          omega
        have hop : 0 ≤ op ∧ op ≤ 25 := ok_op hok
        obtain ⟨q, hqq⟩ : ∃ q : Nat, op = (q : Int) := ⟨op.toNat, by omega⟩
        have hq26 : q < 26 := by omega
        subst hqq
        have hqi : (q : Int) < 26 := by omega
        obtain ⟨mm, hmm, hm3⟩ := numsZ_range (q : Int)
        have HS1 : Hid (textZ (cs.take (k + 1)) = ((textZ (cs.take k) ++ wordZ (q : Int)) ++ numsText ([x, y, z].take mm)) ++ [10]) := by
          show _ = _
          have h0 : ¬ manyZ (q : Int) < 0 := fun h => by
            simp only [In.ok] at hok
            unfold insOkZ at hok
            rw [if_pos (Or.inl h)] at hok
            cases hok
          have h1 : manyZ (q : Int) = (mm : Int) := by
            rw [← hmm, numsZ_many, if_neg h0]
          rw [HD.out]
          simp [textZ, In.line, In.nums, h1]
        have hsm := ok_small hok
        have HSM : Hid (∀ n ∈ [x, y, z], Small n) := by
          intro n hn
          simp at hn
          rcases hn with rfl | rfl | rfl
          · exact hsm.1
          · exact hsm.2.1
          · exact hsm.2.2
        have HMM : Hid (numsZ (q : Int) = (mm : Int)) := hmm
        have hlaw := (HLA.out.stays hnx).word q hq26
        have hwl := word_length (q : Int)
        have HWL : Hid ((wordZ (q : Int)).length ≤ 6) := hwl
        have h0r : 0 < wr.heap.size := by omega
        have hbw := builder_lt HB.out
        clear HD hok hmm hop hsm hwl hq26
        generalize wordZ (q : Int) = wd at *
        generalize textZ (cs.take k) = tk at *
        go_wp2_with fail
        clear c0 c1 c2 c3 hlaw
        have hbA := (Below.refl wr.heap.size wr).alloc (Nat.le_refl _) (.cells #[.int .i64 (q : Int), .int .i64 x, .int .i64 y, .int .i64 z] 31)
        have h6 := (MapKept.heap_alloc wr (.cells #[.int .i64 (q : Int), .int .i64 x, .int .i64 y, .int .i64 z] 31)).1
        have HBA := hid (builder_kept HB.out hbA)
        have hnxA := hnx.alloc hszr (.cells #[.int .i64 (q : Int), .int .i64 x, .int .i64 y, .int .i64 z] 31)
        clear HB hnx hbA
        have hneq : some wr.heap.size ≠ some bb := by simp; omega
        generalize wr.alloc (.cells #[.int .i64 (q : Int), .int .i64 x, .int .i64 y, .int .i64 z] 31) = WA at *
        refine (put_calls w.heap.size bb tk wd WA HBA.out (by have := HTL.out; have := HWL.out; omega) hnxA.size).mono ?_
        rintro e W3 ⟨rfl, hb3, hn3, ho3⟩
        have h63 := ho3 _ _ h6 hneq (by intro c fz h; cases h)
        have HB3 := hid hb3
        have hnx3 := hnxA.trans hn3
        clear h6 ho3 hn3 hb3 hnxA HBA
        have q0 := cell_of_heap h63 0
        have q1 := cell_of_heap h63 1
        have q2 := cell_of_heap h63 2
        have q3 := cell_of_heap h63 3
        simp at q0 q1 q2 q3
        have hlt6 := heap_lt h63
        clear h63
        go_wp2_with fail
        refine (numbers_calls (q : Int) x y z mm _ HMM.out hm3).mono ?_
        rintro e W4 ⟨rfl, hg4, hb4⟩
        have HB4 := hid (builder_kept HB3.out hb4)
        have hnx4 := hnx3.trans (hb4.mono hnx3.size)
        have hb3lt := builder_lt HB3.out
        have hneq : some (W3.heap.size + 1) ≠ some bb := by simp; omega
        clear HB3 hnx3 hb4 q0 q1 q2 q3 hlt6 hb3lt
        generalize W3.heap.size + 1 = B7 at *
        go_wp2_with fail
        generalize hti : tk ++ wd = tw at *
        have HTW : Hid (tw.length ≤ 900006) := by
          show _ ≤ _
          rw [← hti, List.length_append]
          have := HTL.out
          have := HWL.out
          omega
        clear hti HTL HWL
        go_loopw [25] (fun j wi => ∃ j' : Nat, j = .int .i64 j' ∧ j' ≤ mm ∧ Hid (Lib.IsBuilderF 41 5 w.heap.size bb (Lib.byteCells (tw ++ numsText ([x, y, z].take j'))) wi) ∧
            wi.heap[B7]? = some (.cells #[.int .i64 x, .int .i64 y, .int .i64 z] 3) ∧ Below w.heap.size w wi) (fun j _ => mm - (intOf j).toNat)
        case atStart => exact ⟨0, rfl, Nat.zero_le _, by simpa [Hid, numsText] using HB4.out, hg4, hnx4⟩
        case round =>
          obtain ⟨j, rfl, hjm, HBj, h7j, hnxj⟩ := hrel
          clear HB4 hg4 hnx4
          have hlt7 := heap_lt h7j
          have hszj := hnxj.size
          have HCl : Hid ((tw ++ numsText ([x, y, z].take j)).length ≤ 900072) := by
            show _ ≤ _
            rw [List.length_append]
            have h1 := HTW.out
            have h2 := nums_text_length ([x, y, z].take j) (fun n hn => HSM.out n (List.mem_of_mem_take hn))
            have h3 : ([x, y, z].take j).length ≤ 3 := by simp; omega
            omega
          by_cases hq : (j : Int) < (mm : Int)
          · have hq3 : j < 3 := by omega
            have r7 := cell_of_heap h7j j
            have HT : Hid (numsText ([x, y, z].take (j + 1)) = numsText ([x, y, z].take j) ++ (32 :: Lib.itoa ([x, y, z].getD j 0))) := by
              show _ = _
              unfold numsText
              rw [List.take_succ_eq_append_getElem (by simpa using hq3), List.flatMap_append]
              simp [List.getD, hq3]
            have hsn : Small ([x, y, z].getD j 0) := HSM.out _ (by
              match j, hq3 with
              | 0, _ => simp
              | 1, _ => simp
              | 2, _ => simp)
            rw [show (#[.int .i64 x, .int .i64 y, .int .i64 z] : Array Value)[j]? = some (.int .i64 ([x, y, z].getD j 0)) by
              match j, hq3 with
              | 0, _ => rfl
              | 1, _ => rfl
              | 2, _ => rfl] at r7
            generalize [x, y, z].getD j 0 = nq at *
            have HSN : Hid (Small nq) := hsn
            clear hsn
            have hi3 : (j : Int) < 3 := by omega
            go_wp2_with fail
            refine (itoa_calls nq HSN.out _ (HLA.out.stays hnxj)).mono ?_
            rintro e W6 ⟨rfl, hb6⟩
            have HB6 := hid (builder_kept HBj.out hb6)
            have h76 := (hb6.block B7 hlt7).trans h7j
            have hnx6 := hnxj.trans (hb6.mono hszj)
            have HLn : Hid ((Lib.itoa nq).length ≤ 21) := itoa_small HSN.out
            have hcat : ¬ 9223372036854775807 < 1 + (tx (Lib.itoa nq)).size := by rw [tx_size]; have := HLn.out; omega
            have HAP : Hid ((⟨#[32]⟩ : ByteArray) ++ tx (Lib.itoa nq) = tx (32 :: Lib.itoa nq)) := bytes_append [32] _
            obtain ⟨D, hD⟩ : ∃ D : ByteArray, tx (Lib.itoa nq) = D := ⟨_, rfl⟩
            rw [hD] at hcat HAP
            rw [hD]
            clear hD hb6 hnxj h7j r7 HBj
            go_wp2_with fail
            rw [HAP.out]
            refine (put_calls w.heap.size bb _ (32 :: Lib.itoa nq) W6 HB6.out (by have := HCl.out; have := HLn.out; simp only [List.length_cons]; omega) hnx6.size).mono ?_
            rintro e W7 ⟨rfl, hb7, hn7, ho7⟩
            have h77 := ho7 _ _ h76 hneq (by intro c fz h; cases h)
            have HB7 : Hid (Lib.IsBuilderF 41 5 w.heap.size bb (Lib.byteCells (tw ++ numsText ([x, y, z].take (j + 1)))) W7) := by
              rw [HT.out, ← List.append_assoc]
              exact hb7
            have hnx7 := hnx6.trans hn7
            clear ho7 hn7 hb7 hnx6 h76 HB6 HAP hcat
            go_wp2_with fail
            rw [show ((j : Int) + 1) = ((j + 1 : Nat) : Int) from rfl]
            exact ⟨⟨j + 1, rfl, by omega, HB7, h77, hnx7⟩, by simp only [intOf, Int.toNat_natCast]; omega⟩
          · have hjm' : j = mm := by omega
            subst hjm'
            go_wp2_with fail
            refine (put_calls w.heap.size bb _ [10] wr HBj.out (by have := HCl.out; simp only [List.length_singleton]; omega) hnxj.size).mono ?_
            rintro e W7 ⟨rfl, hb7, hn7, ho7⟩
            have HB7 : Hid (Lib.IsBuilderF 41 5 w.heap.size bb (Lib.byteCells (textZ (cs.take (k + 1)))) W7) := by
              rw [HS1.out]
              exact hb7
            have hnx7 := hnxj.trans hn7
            clear ho7 hn7 hb7 hnxj HBj HS1
            go_wp2_with fail
            have hs : len - (intOf (.int .i64 ((k + 1 : Nat) : Int))).toNat < len - (intOf (.int .i64 (k : Int))).toNat := by simp only [intOf, Int.toNat_natCast]; omega
            rw [wrap_one (k := k) (len := len) (by omega) (by have := HM.out.1; omega)]
            exact ⟨⟨k + 1, rfl, by omega, HB7, hnx7⟩, hs⟩
      · have e1 : cs.take k = cs := List.take_of_length_le (by rw [Hlen.out]; omega)
        rw [e1] at HB
        go_wp2_with fail
        refine (Tryd.Builder_String_any_k w.heap.size bb (textZ cs) wr HB.out hszr).mono ?_
        rintro e W9 ⟨rfl, _, hb9, _⟩
        have HAN' : Hid ((⟨(textZ cs).toArray⟩ : ByteArray) = ansR) := HAN.out
        go_wp2_with fail
        go_ret
        exact ⟨by rw [← HAN'.out]; rfl, hnx.trans hb9⟩

set_option maxRecDepth 100000 in
theorem index_none (ad : Option Addr) (cap : Nat) (f : Value) (w : World) :
    Calls Tryd.prog 26 #[.slice ad 0 cap, f] w fun e w' => e = .returned (.int .i64 (-1)) ∧ w = w' := by
  go_enter Tryd.func26, Tryd.ntmps26
  go_wp2
  refine wp_loop_rounds 1 ?_
  rw [rounds_succ]
  go_wp2
  go_ret
  exact ⟨rfl, rfl⟩

set_option maxRecDepth 100000 in
theorem contains_none (ad : Option Addr) (cap : Nat) (f : Value) (w : World) :
    Calls Tryd.prog 20 #[.slice ad 0 cap, f] w fun e w' => e = .returned (.bool false) ∧ w = w' := by
  go_enter Tryd.func20, Tryd.ntmps20
  go_wp2_with fail
  refine (index_none _ _ _ _).mono ?_
  rintro e w1 ⟨rfl, rfl⟩
  go_wp2_with fail
  go_ret
  exact ⟨rfl, rfl⟩

set_option maxRecDepth 100000 in
theorem list_none (ad : Option Addr) (cap : Nat) (w : World) :
    Calls Tryd.prog 14 #[.slice ad 0 cap] w fun e w' => e = .returned (.bool true) ∧ w = w' := by
  go_enter Tryd.func14, Tryd.ntmps14
  go_wp2_with fail
  refine (contains_none _ _ _ _).mono ?_
  rintro e w1 ⟨rfl, rfl⟩
  go_wp2_with fail
  go_ret
  exact ⟨rfl, rfl⟩

set_option maxRecDepth 100000 in
theorem implText_none (ad : Option Addr) (cap : Nat) (w : World) : Calls Tryd.prog 7 #[.slice ad 0 cap] w fun e w' => e = .returned (.string (tx [])) ∧ Below w.heap.size w w' := by
  have HNEW := hid (builder_new w.heap.size w (Nat.le_refl _))
  go_enter Tryd.func7, Tryd.ntmps7
  go_wp2_with fail
  refine (list_none _ _ _).mono ?_
  rintro e w1 ⟨rfl, rfl⟩
  go_wp2_with fail
  refine wp_loop_rounds 1 ?_
  rw [rounds_succ]
  go_wp2_with fail
  refine (Tryd.Builder_String_any_k w.heap.size w.heap.size [] _ HNEW.out (by simp)).mono ?_
  rintro e W9 ⟨rfl, _, hb9, _⟩
  go_wp2_with fail
  go_ret
  exact ⟨rfl, ((Below.refl _ _).alloc (Nat.le_refl _) _).trans hb9⟩
end Go.Proofs.YtmjcifaihmecmaaDoor
