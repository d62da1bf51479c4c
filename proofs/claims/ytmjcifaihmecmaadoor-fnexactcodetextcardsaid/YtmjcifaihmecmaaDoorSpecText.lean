/- The specification's text of code is the plain one. -/
import Derived.Test.YtmjcifaihmecmaaDoorSpecDec
import Derived.Test.YtmjcifaihmecmaaDoorInsSpec
import Derived.Deep.RegionHeld3
namespace Go.Proofs.YtmjcifaihmecmaaDoor
open Go.RowKit

def tx (l : List UInt8) : ByteArray := ⟨l.toArray⟩
theorem tx_size (l : List UInt8) : (tx l).size = l.length := bytes_size l
theorem tx_append (a b : List UInt8) : tx a ++ tx b = tx (a ++ b) := bytes_append a b

set_option maxHeartbeats 4000000 in
set_option maxRecDepth 100000 in
theorem specText_rows (b off cap : Nat) (cs : List In) (w : World) (hb : b < w.heap.size) (hn : InsAt w b off cs) (hm : cs.length ≤ 1048576) :
    Calls Tryd.prog 5 #[.slice (some ⟨b, off, none⟩) cs.length cap] w fun e w' => e = .returned (.string (tx (ansText cs))) ∧ Below w.heap.size w w' := by
  obtain ⟨len, hlen⟩ : ∃ len, cs.length = len := ⟨_, rfl⟩
  have Hlen : Hid (cs.length = len) := hlen
  have HN : Hid (InsAt w b off cs) := hn
  obtain ⟨R, hR⟩ : ∃ R, tx (ansText cs) = R := ⟨_, rfl⟩
  have HR : Hid (tx (ansText cs) = R) := hR
  have HM : Hid (len ≤ 1048576) := by show _ ≤ _; omega
  rw [hlen, hR]
  clear hlen hR hn hm
  go_enter Tryd.func5, Tryd.ntmps5
  go_wp2_with fail
  go_loopw [3, 4] (fun o i wr => ∃ (k : Nat) (T : ByteArray), i = .int .i64 k ∧ k ≤ len ∧ o = .string T ∧ Hid (T = tx (textZ (cs.take k)) ∧ k ≤ 1500) ∧ Hid ((cs.take k).all In.ok = true) ∧ Below w.heap.size w wr) (fun _ i _ => len - (intOf i).toNat)
  case atStart => exact ⟨0, _, rfl, Nat.zero_le _, rfl, ⟨rfl, by omega⟩, by simp [Hid], Below.refl _ _⟩
  case round =>
    obtain ⟨k, T, rfl, hk, rfl, HT, HA, hnx⟩ := hrel
    have hsz := hnx.size
    by_cases hkl : (k : Int) < (len : Int)
    · have hkn : k < cs.length := by rw [Hlen.out]; omega
      have hcell := fun c (hc : c < 4) => (hnx.cell (p := ⟨b, off + k * 4 + c, none⟩) hb).trans (HN.out k hkn c hc)
      have HD : Hid (cs.take (k + 1) = cs.take k ++ [cs.getD k default]) := ins_drop hkn
      generalize cs.getD k default = n at hcell HD
      obtain ⟨op, x, y, z⟩ := n
      have c0 := hcell 0 (by omega)
      have c1 := hcell 1 (by omega)
      have c2 := hcell 2 (by omega)
      have c3 := hcell 3 (by omega)
      simp only [In.cell, Nat.add_zero] at c0 c1 c2 c3
      clear hcell hkn
      go_wp2_with fail
      refine (specInsOk_calls op x y z _).mono ?_
      rintro e W1 ⟨rfl, hb1⟩
      have hnx1 := hnx.trans (hb1.mono hsz)
      have hbr : b < wr.heap.size := by omega
      have d0 := (hb1.cell (p := ⟨b, off + k * 4, none⟩) hbr).trans c0
      have d1 := (hb1.cell (p := ⟨b, off + k * 4 + 1, none⟩) hbr).trans c1
      have d2 := (hb1.cell (p := ⟨b, off + k * 4 + 2, none⟩) hbr).trans c2
      have d3 := (hb1.cell (p := ⟨b, off + k * 4 + 3, none⟩) hbr).trans c3
      clear c0 c1 c2 c3 hb1 hnx
      have hq : insOkZ op x y z = false ∨ (insOkZ op x y z = true ∧ (1500 : Int) ≤ (k : Int)) ∨ (insOkZ op x y z = true ∧ ¬ (1500 : Int) ≤ (k : Int)) := by
        cases insOkZ op x y z <;> simp <;> omega
      rcases hq with hok | ⟨hok, hk15⟩ | ⟨hok, hk15⟩
      · have HF : Hid (R = tx []) := by
          show _ = _
          rw [← HR.out, ansText, if_neg]
          unfold codeOkZ
          have h1 : (cs.take (k + 1)).all In.ok = false := by
            rw [HD.out, List.all_append]
            simp [In.ok, hok]
          rw [← List.take_append_drop (k + 1) cs, List.all_append, h1]
          simp
        clear HD HA HN HT
        rw [hok]
        go_wp2_with fail
        go_ret
        exact ⟨by rw [HF.out]; rfl, hnx1⟩
      · have HF : Hid (R = tx []) := by
          show _ = _
          rw [← HR.out, ansText, if_neg]
          unfold codeOkZ
          rw [decide_eq_false (by rw [Hlen.out]; omega)]
          simp
        clear HD HA HN HT
        rw [hok]
        go_wp2_with fail
        go_ret
        exact ⟨by rw [HF.out]; rfl, hnx1⟩
      · have HO : Hid (insOkZ op x y z = true) := hok
        have hop := ok_op hok
        obtain ⟨q, hqq⟩ : ∃ q : Nat, op = (q : Int) := ⟨op.toNat, by omega⟩
        have hq26 : q < 26 := by omega
        subst hqq
        have HW : Hid (∀ w, _) := fun w => l5Word_calls q w hq26
        have HL : Hid (In.line ⟨(q : Int), x, y, z⟩ = wordZ (q : Int) ++ (numsText (In.nums ⟨(q : Int), x, y, z⟩) ++ [10])) := rfl
        have hwl := word_length (q : Int)
        have HTL : Hid (T.size ≤ 1000000) := by
          show _ ≤ _
          rw [HT.out.1, tx_size]
          have h1 := text_length (cs.take k) HA.out
          have h2 : (cs.take k).length ≤ k := by simp; omega
          omega
        obtain ⟨wd, hwd⟩ : ∃ wd, tx (wordZ (q : Int)) = wd := ⟨_, rfl⟩
        have Hwd : Hid (tx (wordZ (q : Int)) = wd) := hwd
        have hws : wd.size ≤ 6 := by rw [← hwd, tx_size]; exact hwl
        have HWS : Hid (wd.size ≤ 6) := hws
        have hc1 : ¬ 9223372036854775807 < T.size + wd.size := by have := HTL.out; omega
        clear hop hwl hws
        rw [hok]
        clear hok
        go_wp2_with fail
        refine (HW.out _).mono ?_
        rintro e W2 ⟨rfl, hb2⟩
        rw [show (⟨(wordZ (q : Int)).toArray⟩ : ByteArray) = wd from hwd]
        have hnx2 := hnx1.trans (hb2.mono hnx1.size)
        have hbw1 : b < W1.heap.size := by have := hnx1.size; omega
        have e0 := (hb2.cell (p := ⟨b, off + k * 4, none⟩) hbw1).trans d0
        have e1 := (hb2.cell (p := ⟨b, off + k * 4 + 1, none⟩) hbw1).trans d1
        have e2 := (hb2.cell (p := ⟨b, off + k * 4 + 2, none⟩) hbw1).trans d2
        have e3 := (hb2.cell (p := ⟨b, off + k * 4 + 3, none⟩) hbw1).trans d3
        clear d0 d1 d2 d3 hb2 hwd HW
        have hki : (0 : Int) ≤ (k : Int) := by omega
        go_wp2_with fail
        go_region_held3 (fun w' => w'.cell? ⟨b, off + k * 4 + 1, none⟩ = some (.int .i64 x) ∧ w'.cell? ⟨b, off + k * 4 + 2, none⟩ = some (.int .i64 y) ∧ w'.cell? ⟨b, off + k * 4 + 3, none⟩ = some (.int .i64 z)) (go_keep) (fail)
        go_wp2_with fail
        have h7 : ((W2.alloc (.cells #[.int .i64 x, .int .i64 y, .int .i64 z] 3)).drew).heap[W2.heap.size]? = some (.cells #[.int .i64 x, .int .i64 y, .int .i64 z] 3) := (MapKept.heap_alloc W2 _).1
        have hnx4 : Below w.heap.size w ((W2.alloc (.cells #[.int .i64 x, .int .i64 y, .int .i64 z] 3)).drew) := (hnx2.alloc hnx2.size _).drew
        have hbw4 : b < W2.heap.size := by have := hnx2.size; omega
        have f0 := (((Below.refl W2.heap.size W2).alloc (Nat.le_refl _) (.cells #[.int .i64 x, .int .i64 y, .int .i64 z] 3)).drew.cell (p := ⟨b, off + k * 4, none⟩) hbw4).trans e0
        have HA1 : Hid ((cs.take (k + 1)).all In.ok = true) := by
          show _ = _
          rw [HD.out, List.all_append, HA.out]
          simp [In.ok, HO.out]
        have HS1 : Hid (textZ (cs.take (k + 1)) = textZ (cs.take k) ++ (wordZ (q : Int) ++ (numsText (In.nums ⟨(q : Int), x, y, z⟩) ++ [10]))) := by
          show _ = _
          rw [HD.out]
          simp [textZ, HL.out]
        have hsm := ok_small HO.out
        have HSM : Hid (∀ n ∈ [x, y, z], Small n) := by
          intro n hn
          simp at hn
          rcases hn with rfl | rfl | rfl
          · exact hsm.1
          · exact hsm.2.1
          · exact hsm.2.2
        have hmany : ∃ mm : Nat, manyZ (q : Int) = (mm : Int) ∧ mm ≤ 3 := by
          have hok := HO.out
          have h0 : ¬ manyZ (q : Int) < 0 := fun h => by
            unfold insOkZ at hok
            rw [if_pos (Or.inl h)] at hok
            cases hok
          refine ⟨(manyZ (q : Int)).toNat, by omega, ?_⟩
          have : manyZ (q : Int) ≤ 3 := by
            unfold manyZ
            repeat' split
            all_goals omega
          omega
        obtain ⟨mm, hmm, hm3⟩ := hmany
        have HMM : Hid (manyZ (q : Int) = (mm : Int)) := hmm
        have HNU : Hid (In.nums ⟨(q : Int), x, y, z⟩ = [x, y, z].take mm) := by
          show _ = _
          simp only [In.nums, hmm, Int.toNat_natCast]
        have HCU : Hid (T ++ wd = tx (textZ (cs.take k) ++ wordZ (q : Int)) ∧ (textZ (cs.take k) ++ wordZ (q : Int)).length ≤ 1000006) := by
          show _ ∧ _
          have h2 := HTL.out
          rw [HT.out.1, tx_size] at h2
          have h3 := word_length (q : Int)
          rw [HT.out.1, ← Hwd.out, tx_append]
          refine ⟨rfl, ?_⟩
          rw [List.length_append]
          omega
        clear e0 e1 e2 e3 hsm hmm hnx2 hnx1 hbw1 hbr hc1 HO HL HD HA HTL HT Hwd HWS
        obtain ⟨O, hO⟩ : ∃ O, T ++ wd = O := ⟨_, rfl⟩
        have HO : Hid (T ++ wd = O) := hO
        rw [hO]
        rw [hO] at HCU
        clear hO
        generalize ((W2.alloc (.cells #[.int .i64 x, .int .i64 y, .int .i64 z] 3)).drew) = W4 at *
        generalize W2.heap.size = B7 at *
        clear hq26
        generalize hqi : (q : Int) = qi at *
        clear hqi
        clear hsz
        go_loopw [3, 6] (fun o j wi => ∃ (q : Nat) (C : ByteArray), j = .int .i64 q ∧ o = .string C ∧ q ≤ mm ∧ Hid (C = tx ((textZ (cs.take k) ++ wordZ qi) ++ numsText ([x, y, z].take q))) ∧ wi.cell? ⟨b, off + k * 4, none⟩ = some (.int .i64 qi) ∧
            wi.heap[B7]? = some (.cells #[.int .i64 x, .int .i64 y, .int .i64 z] 3) ∧ Below w.heap.size w wi) (fun _ j _ => mm - (intOf j).toNat)
        case atStart => exact ⟨0, O, rfl, rfl, Nat.zero_le _, by simpa [Hid, numsText] using HCU.out.1, f0, h7, hnx4⟩
        case round =>
          obtain ⟨j, C, rfl, rfl, hqm, HC, f0q, h7q, hnxq⟩ := hrel
          clear f0 h7 hnx4
          have hlt7 := heap_lt h7q
          have hszq := hnxq.size
          have hCl : C.size ≤ 1000100 := by
            rw [HC.out, tx_size, List.length_append]
            have h1 := HCU.out.2
            have h2 := nums_text_length ([x, y, z].take j) (fun n hn => HSM.out n (List.mem_of_mem_take hn))
            have h3 : ([x, y, z].take j).length ≤ 3 := by simp; omega
            omega
          have HCl : Hid (C.size ≤ 1000100) := hCl
          have hcat1 : ¬ 9223372036854775807 < C.size + 1 := by omega
          clear hCl
          go_wp2_with fail
          refine (l5Many_calls _ _).mono ?_
          rintro e W5 ⟨rfl, rfl⟩
          rw [HMM.out]
          by_cases hq : (j : Int) < (mm : Int)
          · have hq3 : j < 3 := by omega
            have r7 := cell_of_heap h7q j
            have HT : Hid (numsText ([x, y, z].take (j + 1)) = numsText ([x, y, z].take j) ++ (32 :: Lib.itoa ([x, y, z].getD j 0))) := by
              show _ = _
              unfold numsText
              rw [List.take_succ_eq_append_getElem (by simpa using hq3), List.flatMap_append]
              simp [List.getD, hq3]
            have hsn : Small ([x, y, z].getD j 0) := HSM.out _ (by
              match j, hq3 with
              | 0, _ => simp
              | 1, _ => simp
              | 2, _ => simp)
            rw [show (#[.int .i64 x, .int .i64 y, .int .i64 z] : Array Value)[j]? = some (.int .i64 ([x, y, z].getD j 0)) by
              match j, hq3 with
              | 0, _ => rfl
              | 1, _ => rfl
              | 2, _ => rfl] at r7
            generalize [x, y, z].getD j 0 = nq at *
            have HSN : Hid (Small nq) := hsn
            clear hsn
            have hi3 : (j : Int) < 3 := by omega
            go_wp2_with fail
            refine (l2Dec_calls nq _ HSN.out).mono ?_
            rintro e W6 ⟨rfl, hb6⟩
            have f6 := (hb6.cell (p := ⟨b, off + k * 4, none⟩) (show b < wr.heap.size by omega)).trans f0q
            have h76 := (hb6.block B7 hlt7).trans h7q
            have hnx6 := hnxq.trans (hb6.mono hszq)
            obtain ⟨D, hD⟩ : ∃ D : ByteArray, ⟨(Lib.itoa nq).toArray⟩ = D := ⟨_, rfl⟩
            have HDe : Hid (tx (Lib.itoa nq) = D) := hD
            rw [hD]
            have hds : D.size ≤ 21 := by rw [← HDe.out, tx_size]; exact itoa_small HSN.out
            have HDs : Hid (D.size ≤ 21) := hds
            have hcat2 : ¬ 9223372036854775807 < C.size + 1 + D.size := by have := HCl.out; omega
            clear hD hds hb6 hnxq h7q f0q
            go_wp2_with fail
            rw [show ((j : Int) + 1) = ((j + 1 : Nat) : Int) from rfl]
            refine ⟨⟨j + 1, _, rfl, rfl, by omega, ?_, f6, h76, hnx6⟩, by simp only [intOf, Int.toNat_natCast]; omega⟩
            show _ = _
            rw [HT.out, HC.out, ← HDe.out, show (⟨#[32]⟩ : ByteArray) = tx [32] from rfl, tx_append, tx_append]
            simp
          · have hjm : j = mm := by omega
            subst hjm
            have HC1 : Hid (C ++ ⟨#[10]⟩ = tx (textZ (cs.take (k + 1)))) := by
              show _ = _
              rw [HC.out, HS1.out, HNU.out, show (⟨#[10]⟩ : ByteArray) = tx [10] from rfl, tx_append]
              simp
            clear HC HS1 HNU HCU f0q h7q HSM HMM
            go_wp2_with fail
            rw [show ((k : Int) + 1) = ((k + 1 : Nat) : Int) from rfl]
            refine ⟨⟨k + 1, _, rfl, by omega, rfl, ⟨HC1.out, by omega⟩, HA1, hnxq⟩, by simp only [intOf, Int.toNat_natCast]; omega⟩
    · have hkl' : k = len := by omega
      have HF : Hid (T = R) := by
        show _ = _
        have h1 : cs.take k = cs := by rw [hkl', ← Hlen.out]; exact List.take_length
        have h2 := HT.out
        have h3 := HA.out
        rw [h1] at h2 h3
        rw [← HR.out, h2.1, ansText, if_pos]
        unfold codeOkZ
        rw [h3, decide_eq_true (by rw [Hlen.out]; omega)]
        rfl
      clear HN HT HA
      go_wp2_with fail
      go_ret
      exact ⟨by rw [HF.out]; rfl, hnx⟩

set_option maxRecDepth 100000 in
theorem specText_none (ad : Option Addr) (cap : Nat) (w : World) : Calls Tryd.prog 5 #[.slice ad 0 cap] w fun e w' => e = .returned (.string (tx [])) ∧ Below w.heap.size w w' := by
  go_enter Tryd.func5, Tryd.ntmps5
  go_wp2
  refine wp_loop_rounds 1 ?_
  rw [rounds_succ]
  go_wp2
  go_ret
  exact ⟨rfl, Below.refl _ _⟩
end Go.Proofs.YtmjcifaihmecmaaDoor
