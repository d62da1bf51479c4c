/- The specification's words and decimals. -/
import Derived.Test.YtegjdgiegnofhaaDoorTextA
import Derived.Laws.IdiomStrings
import Derived.Deep.RegionHeld3
import Derived.Test.YtegjdgiegnofhaaDoorOwnRow
import Derived.Test.YtegjdgiegnofhaaDoorShelf
import Derived.Shelf.Strings.BuilderK
import Derived.Lib.SmallJoins
namespace Go.Proofs.YtegjdgiegnofhaaDoor
open Go.RowKit

theorem word_cell (w : World) (k : Nat) (hk : k < 26) : (w.alloc (.cells #[.string ⟨#[104, 97, 108, 116]⟩, .string ⟨#[105, 110, 116]⟩, .string ⟨#[98, 111, 111, 108]⟩, .string ⟨#[117, 110, 105, 116]⟩, .string ⟨#[110, 105, 108]⟩, .string ⟨#[118, 97, 114]⟩, .string ⟨#[99, 108, 111, 115]⟩, .string ⟨#[114, 101, 99]⟩, .string ⟨#[97, 112, 112]⟩, .string ⟨#[114, 101, 116]⟩, .string ⟨#[116, 101, 115, 116]⟩, .string ⟨#[106, 117, 109, 112]⟩, .string ⟨#[98, 105, 110, 100]⟩, .string ⟨#[100, 114, 111, 112]⟩, .string ⟨#[97, 114, 105, 116, 104]⟩, .string ⟨#[112, 97, 105, 114]⟩, .string ⟨#[102, 115, 116]⟩, .string ⟨#[115, 110, 100]⟩, .string ⟨#[99, 111, 110, 115]⟩, .string ⟨#[99, 97, 115, 101]⟩, .string ⟨#[112, 114, 105, 110, 116]⟩, .string ⟨#[104, 97, 110, 100, 108, 101]⟩, .string ⟨#[100, 111]⟩, .string ⟨#[100, 111, 110, 101]⟩, .string ⟨#[116, 97, 98]⟩, .string ⟨#[116, 97, 98, 111, 112]⟩] 9)).cell? ⟨w.heap.size, k, none⟩ = some (.string ⟨(wordZ (k : Int)).toArray⟩) := by
  rw [cell_of_heap (MapKept.heap_alloc w _).1]
  have h : ∀ k : Fin 26, (#[.string ⟨#[104, 97, 108, 116]⟩, .string ⟨#[105, 110, 116]⟩, .string ⟨#[98, 111, 111, 108]⟩, .string ⟨#[117, 110, 105, 116]⟩, .string ⟨#[110, 105, 108]⟩, .string ⟨#[118, 97, 114]⟩, .string ⟨#[99, 108, 111, 115]⟩, .string ⟨#[114, 101, 99]⟩, .string ⟨#[97, 112, 112]⟩, .string ⟨#[114, 101, 116]⟩, .string ⟨#[116, 101, 115, 116]⟩, .string ⟨#[106, 117, 109, 112]⟩, .string ⟨#[98, 105, 110, 100]⟩, .string ⟨#[100, 114, 111, 112]⟩, .string ⟨#[97, 114, 105, 116, 104]⟩, .string ⟨#[112, 97, 105, 114]⟩, .string ⟨#[102, 115, 116]⟩, .string ⟨#[115, 110, 100]⟩, .string ⟨#[99, 111, 110, 115]⟩, .string ⟨#[99, 97, 115, 101]⟩, .string ⟨#[112, 114, 105, 110, 116]⟩, .string ⟨#[104, 97, 110, 100, 108, 101]⟩, .string ⟨#[100, 111]⟩, .string ⟨#[100, 111, 110, 101]⟩, .string ⟨#[116, 97, 98]⟩, .string ⟨#[116, 97, 98, 111, 112]⟩] : Array Value)[k.val]? = some (.string ⟨(wordZ (k.val : Int)).toArray⟩) := by
    intro k
    match k with
    | ⟨0, _⟩ => rfl
    | ⟨1, _⟩ => rfl
    | ⟨2, _⟩ => rfl
    | ⟨3, _⟩ => rfl
    | ⟨4, _⟩ => rfl
    | ⟨5, _⟩ => rfl
    | ⟨6, _⟩ => rfl
    | ⟨7, _⟩ => rfl
    | ⟨8, _⟩ => rfl
    | ⟨9, _⟩ => rfl
    | ⟨10, _⟩ => rfl
    | ⟨11, _⟩ => rfl
    | ⟨12, _⟩ => rfl
    | ⟨13, _⟩ => rfl
    | ⟨14, _⟩ => rfl
    | ⟨15, _⟩ => rfl
    | ⟨16, _⟩ => rfl
    | ⟨17, _⟩ => rfl
    | ⟨18, _⟩ => rfl
    | ⟨19, _⟩ => rfl
    | ⟨20, _⟩ => rfl
    | ⟨21, _⟩ => rfl
    | ⟨22, _⟩ => rfl
    | ⟨23, _⟩ => rfl
    | ⟨24, _⟩ => rfl
    | ⟨25, _⟩ => rfl
    | ⟨j + 26, hj⟩ => exact absurd hj (by omega)
  exact h ⟨k, hk⟩

set_option maxHeartbeats 1000000 in
set_option maxRecDepth 100000 in
theorem l5Word_calls (k : Nat) (w : World) (h1 : k < 26) :
    Calls Tryd.prog 16 #[.int .i64 (k : Int)] w fun e w' => e = .returned (.string ⟨(wordZ (k : Int)).toArray⟩) ∧ Below w.heap.size w w' := by
  have hc := word_cell w k h1
  have hi : (k : Int) < 26 := by omega
  have hi0 : (0 : Int) ≤ (k : Int) := by omega
  generalize wordZ (k : Int) = wd at *
  go_enter Tryd.func16, Tryd.ntmps16
  go_wp2
  go_ret
  exact ⟨rfl, (Below.refl _ _).alloc (Nat.le_refl _) _⟩

/-- The digits of a number, put ahead one by one. -/
def decGo : Nat → Nat → List UInt8 → List UInt8
  | 0, _, out => out
  | f + 1, u, out => if u = 0 then out else decGo f (u / 10) (UInt8.ofNat (48 + u % 10) :: out)

theorem decGo_eq : ∀ (f u : Nat) (out : List UInt8), 0 < u → u ≤ f → decGo f u out = Lib.decDigits u ++ out
  | 0, u, out, h0, h1 => by omega
  | f + 1, u, out, h0, h1 => by
    rw [decGo, if_neg (by omega)]
    by_cases h : u < 10
    · rw [Lib.decDigits_one h, show u / 10 = 0 by omega, show u % 10 = u by omega]
      cases f with
      | zero => rfl
      | succ f => rw [decGo, if_pos rfl]; rfl
    · rw [decGo_eq f (u / 10) _ (by omega) (by omega)]
      conv => rhs; rw [Lib.decDigits, dif_neg h]
      simp

theorem itoa_zero : Lib.itoa 0 = [48] := by
  unfold Lib.itoa
  rw [if_neg (by omega)]
  exact Lib.decDigits_one (by decide)

def digB (u : Nat) : ByteArray := ⟨#[UInt8.ofNat (48 + u % 10)]⟩

theorem digB_run (j : Nat) (w : World) : (convert 22 9 (.slice (some ⟨w.heap.size, 0, none⟩) 1 1)).run Tryd.prog (w.alloc (.cells #[.int .u8 (48 + (j : Int) % 10)] 5)) = .ok (.string (digB j)) (w.alloc (.cells #[.int .u8 (48 + (j : Int) % 10)] 5)) := by
  have h := run_convert_bytes_back (P := Tryd.prog) (w.alloc (.cells #[.int .u8 (48 + (j : Int) % 10)] 5)) 22 9 5 ⟨w.heap.size, 0, none⟩ 1 [UInt8.ofNat (48 + j % 10)] Tryd.underlying22 Tryd.underlying5 Tryd.underlying9 (fun i hi => by
    have h0 : i = 0 := by simpa using hi
    subst h0
    simp [Addr.add]
    omega)
  exact h

theorem digB_append (j : Nat) (l : List UInt8) : digB j ++ ⟨l.toArray⟩ = ⟨(UInt8.ofNat (48 + j % 10) :: l).toArray⟩ := bytes_appendC [UInt8.ofNat (48 + j % 10)] l

set_option maxHeartbeats 1000000 in
set_option maxRecDepth 100000 in
theorem l2Dec_pos (u : Nat) (w : World) (hu : 0 < u) (hn : u ≤ 2147483648) :
    Calls Tryd.prog 18 #[.int .i64 (u : Int)] w fun e w' => e = .returned (.string ⟨(Lib.decDigits u).toArray⟩) ∧ Below w.heap.size w w' := by
  obtain ⟨R, hR⟩ : ∃ R, Lib.decDigits u = R := ⟨_, rfl⟩
  have HR : Hid (decGo u u [] = R) := by
    show _ = _
    rw [decGo_eq u u [] hu (Nat.le_refl _), hR]
    simp
  rw [hR]
  have HN : Hid (u ≤ 2147483648) := hn
  clear hR hn
  have hb0 : ((u : Int) == 0) = false := by simp; omega
  have hneg : ¬ (u : Int) < 0 := by omega
  go_enter Tryd.func18, Tryd.ntmps18
  go_wp2_with fail
  go_loopw [0, 3] (fun a o wr => ∃ (v f : Nat) (l : List UInt8), a = .int .i64 (v : Int) ∧ o = .string ⟨l.toArray⟩ ∧ v ≤ f ∧ Hid (l.length + f ≤ 2147483648) ∧ Hid (decGo f v l = R) ∧ Below w.heap.size w wr) (fun a _ _ => (intOf a).toNat)
  case atStart => exact ⟨u, u, [], rfl, rfl, Nat.le_refl _, by simpa [Hid] using HN.out, HR, Below.refl _ _⟩
  case round =>
    obtain ⟨v, f, l, rfl, rfl, hvf, HF, HE, hnx⟩ := hrel
    clear HR hb0 hneg
    by_cases hv0 : v = 0
    · subst hv0
      have hE : l = R := by
        have := HE.out
        cases f with
        | zero => exact this
        | succ f => simpa [decGo] using this
      subst hE
      clear HE
      go_wp2_with fail
      go_ret
      exact ⟨rfl, hnx⟩
    · obtain ⟨f, rfl⟩ : ∃ f', f = f' + 1 := ⟨f - 1, by omega⟩
      have hE := HE.out
      rw [decGo, if_neg hv0] at hE
      have HE' : Hid (decGo f (v / 10) (UInt8.ofNat (48 + v % 10) :: l) = R) := hE
      have hb0 : ((v : Int) == 0) = false := by simp; omega
      have hd : ¬ ((v : Int) % 10 < 0) := by omega
      have hcv := digB_run v wr
      have HA : Hid (digB v ++ ⟨l.toArray⟩ = ⟨(UInt8.ofNat (48 + v % 10) :: l).toArray⟩) := digB_append v l
      have hdz : (digB v).size = 1 := rfl
      have hcat : ¬ 9223372036854775807 < 1 + l.length := by have := HF.out; omega
      clear HE hE
      generalize digB v = dj at *
      go_wp2_with fail
      have ew : wrap64 ((v : Int) / 10) = ((v / 10 : Nat) : Int) := by have := HF.out; unfold wrap64; omega
      rw [HA.out, ew]
      refine ⟨⟨v / 10, f, _, rfl, rfl, by omega, ?_, HE', hnx.alloc hnx.size _⟩, by simp only [intOf, Int.toNat_natCast]; omega⟩
      show (_ :: l).length + f ≤ _
      have := HF.out
      simp only [List.length_cons]
      omega

set_option maxHeartbeats 1000000 in
set_option maxRecDepth 100000 in
theorem l2Dec_neg (u : Nat) (w : World) (hu : 0 < u) (hn : u ≤ 2147483648) :
    Calls Tryd.prog 18 #[.int .i64 (-(u : Int))] w fun e w' => e = .returned (.string ⟨(45 :: Lib.decDigits u).toArray⟩) ∧ Below w.heap.size w w' := by
  obtain ⟨R, hR⟩ : ∃ R, Lib.decDigits u = R := ⟨_, rfl⟩
  have HR : Hid (decGo u u [] = R) := by
    show _ = _
    rw [decGo_eq u u [] hu (Nat.le_refl _), hR]
    simp
  rw [hR]
  have HN : Hid (u ≤ 2147483648) := hn
  clear hR hn
  obtain ⟨n, hnn⟩ : ∃ n : Int, -(u : Int) = n := ⟨_, rfl⟩
  have Hnn : Hid (-(u : Int) = n) := hnn
  have hb0 : (n == 0) = false := by simp; omega
  have hneg : n < 0 := by omega
  rw [hnn]
  clear hnn
  go_enter Tryd.func18, Tryd.ntmps18
  go_wp2_with fail
  go_loopw [0, 3] (fun a o wr => ∃ (m : Int) (v f : Nat) (l : List UInt8), a = .int .i64 m ∧ o = .string ⟨l.toArray⟩ ∧ Hid (m = -(v : Int)) ∧ v ≤ f ∧ Hid (l.length + f ≤ 2147483648) ∧ Hid (decGo f v l = R) ∧ Below w.heap.size w wr) (fun a _ _ => (intOf a).natAbs)
  case atStart => exact ⟨n, u, u, [], rfl, rfl, Hnn.out.symm, Nat.le_refl _, by simpa [Hid] using HN.out, HR, Below.refl _ _⟩
  case round =>
    obtain ⟨m, v, f, l, rfl, rfl, HM, hvf, HF, HE, hnx⟩ := hrel
    clear HR hb0
    by_cases hv0 : v = 0
    · have hm0 : (m == 0) = true := by rw [HM.out, hv0]; rfl
      have hE : l = R := by
        have := HE.out
        rw [hv0] at this
        cases f with
        | zero => exact this
        | succ f => simpa [decGo] using this
      have HE2 : Hid (l = R) := hE
      have hcat : ¬ 9223372036854775807 < 1 + l.length := by have := HF.out; omega
      clear HE hE
      go_wp2_with fail
      go_ret
      exact ⟨by rw [← HE2.out]; exact congrArg (fun x => Ending.returned (Value.string x)) (bytes_appendC [45] l), hnx⟩
    · obtain ⟨f, rfl⟩ : ∃ f', f = f' + 1 := ⟨f - 1, by omega⟩
      have hE := HE.out
      rw [decGo, if_neg hv0] at hE
      have HE' : Hid (decGo f (v / 10) (UInt8.ofNat (48 + v % 10) :: l) = R) := hE
      have hb0 : (m == 0) = false := by
        have := HM.out
        simp
        omega
      have hcat : ¬ 9223372036854775807 < 1 + l.length := by have := HF.out; omega
      have hcv := digB_run v wr
      have HA : Hid (digB v ++ ⟨l.toArray⟩ = ⟨(UInt8.ofNat (48 + v % 10) :: l).toArray⟩) := digB_append v l
      have hdz : (digB v).size = 1 := rfl
      clear HE hE
      generalize digB v = dj at *
      have Htm : Hid (m.tmod 10 = -((v : Int) % 10)) := by
        show _ = _
        rw [HM.out, Int.neg_tmod, Int.tmod_eq_emod_of_nonneg (by omega)]
      have Htd : Hid (wrap64 (m.tdiv 10) = -((v / 10 : Nat) : Int)) := by
        show _ = _
        rw [HM.out, Int.neg_tdiv, Int.tdiv_eq_ediv_of_nonneg (by omega)]
        have := HF.out
        unfold wrap64
        omega
      have hm10 : (0 : Int) ≤ (v : Int) % 10 := by omega
      by_cases hr : (v : Int) % 10 = 0
      · have htm : m.tmod 10 = (v : Int) % 10 := by rw [Htm.out, hr]; rfl
        have hd : ¬ ((v : Int) % 10 < 0) := by omega
        have Hr : Hid ((v : Int) % 10 = 0) := hr
        clear hr Htm
        go_wp2_with fail
        rw [HA.out, Htd.out]
        refine ⟨⟨_, v / 10, f, _, rfl, rfl, rfl, by omega, ?_, HE', hnx.alloc hnx.size _⟩, ?_⟩
        · show (_ :: l).length + f ≤ _
          have := HF.out
          simp only [List.length_cons]
          omega
        · have := HM.out
          simp only [intOf]
          omega
      · obtain ⟨t, htm⟩ : ∃ t, m.tmod 10 = t := ⟨_, rfl⟩
        have ht : t < 0 := by rw [← htm, Htm.out]; omega
        have hng : wrap64 (-t) = (v : Int) % 10 := by rw [← htm, Htm.out]; unfold wrap64; omega
        have hd : ¬ ((v : Int) % 10 < 0) := by omega
        clear hr Htm
        go_wp2_with fail
        rw [HA.out, Htd.out]
        refine ⟨⟨_, v / 10, f, _, rfl, rfl, rfl, by omega, ?_, HE', hnx.alloc hnx.size _⟩, ?_⟩
        · show (_ :: l).length + f ≤ _
          have := HF.out
          simp only [List.length_cons]
          omega
        · have := HM.out
          simp only [intOf]
          omega

theorem l2Dec_calls (n : Int) (w : World) (hn : Small n) :
    Calls Tryd.prog 18 #[.int .i64 n] w fun e w' => e = .returned (.string ⟨(Lib.itoa n).toArray⟩) ∧ Below w.heap.size w w' := by
  unfold Small at hn
  rcases Int.lt_trichotomy n 0 with h | h | h
  · obtain ⟨u, hu⟩ : ∃ u : Nat, n = -(u : Int) := ⟨n.natAbs, by omega⟩
    subst hu
    have e : Lib.itoa (-(u : Int)) = 45 :: Lib.decDigits u := by
      unfold Lib.itoa
      rw [if_pos h, show (-(u : Int)).natAbs = u by omega]
    rw [e]
    exact l2Dec_neg u w (by omega) (by omega)
  · subst h
    rw [itoa_zero]
    go_enter Tryd.func18, Tryd.ntmps18
    go_wp2
    go_ret
    exact ⟨rfl, Below.refl _ _⟩
  · obtain ⟨u, hu⟩ : ∃ u : Nat, n = (u : Int) := ⟨n.toNat, by omega⟩
    subst hu
    have e : Lib.itoa (u : Int) = Lib.decDigits u := by
      unfold Lib.itoa
      rw [if_neg (by omega), Int.toNat_natCast]
    rw [e]
    exact l2Dec_pos u w (by omega) (by omega)
end Go.Proofs.YtegjdgiegnofhaaDoor

/- The specification's text of code is the plain one. -/
namespace Go.Proofs.YtegjdgiegnofhaaDoor
open Go.RowKit

def tx (l : List UInt8) : ByteArray := ⟨l.toArray⟩
theorem tx_size (l : List UInt8) : (tx l).size = l.length := bytes_size l
theorem tx_append (a b : List UInt8) : tx a ++ tx b = tx (a ++ b) := bytes_appendC a b

set_option maxHeartbeats 4000000 in
set_option maxRecDepth 100000 in
theorem specText_rows (b off cap : Nat) (cs : List In) (w : World) (hb : b < w.heap.size) (hn : InsAt w b off cs) (hm : cs.length ≤ 1048576) :
    Calls Tryd.prog 6 #[.slice (some ⟨b, off, none⟩) cs.length cap] w fun e w' => e = .returned (.string (tx (ansText cs))) ∧ Below w.heap.size w w' := by
  obtain ⟨len, hlen⟩ : ∃ len, cs.length = len := ⟨_, rfl⟩
  have Hlen : Hid (cs.length = len) := hlen
  have HN : Hid (InsAt w b off cs) := hn
  obtain ⟨R, hR⟩ : ∃ R, tx (ansText cs) = R := ⟨_, rfl⟩
  have HR : Hid (tx (ansText cs) = R) := hR
  have HM : Hid (len ≤ 1048576) := by show _ ≤ _; omega
  rw [hlen, hR]
  clear hlen hR hn hm
  go_enter Tryd.func6, Tryd.ntmps6
  go_wp2_with fail
  go_loopw [3, 4] (fun o i wr => ∃ (k : Nat) (T : ByteArray), i = .int .i64 k ∧ k ≤ len ∧ o = .string T ∧ Hid (T = tx (textZ (cs.take k)) ∧ k ≤ 1500) ∧ Hid ((cs.take k).all In.ok = true) ∧ Below w.heap.size w wr) (fun _ i _ => len - (intOf i).toNat)
  case atStart => exact ⟨0, _, rfl, Nat.zero_le _, rfl, ⟨rfl, by omega⟩, by simp [Hid], Below.refl _ _⟩
  case round =>
    obtain ⟨k, T, rfl, hk, rfl, HT, HA, hnx⟩ := hrel
    have hsz := hnx.size
    by_cases hkl : (k : Int) < (len : Int)
    · have hkn : k < cs.length := by rw [Hlen.out]; omega
      have hcell := fun c (hc : c < 4) => (hnx.cell (p := ⟨b, off + k * 4 + c, none⟩) hb).trans (HN.out k hkn c hc)
      have HD : Hid (cs.take (k + 1) = cs.take k ++ [cs.getD k default]) := ins_drop hkn
      generalize cs.getD k default = n at hcell HD
      obtain ⟨op, x, y, z⟩ := n
      have c0 := hcell 0 (by omega)
      have c1 := hcell 1 (by omega)
      have c2 := hcell 2 (by omega)
      have c3 := hcell 3 (by omega)
      simp only [In.cell, Nat.add_zero] at c0 c1 c2 c3
      clear hcell hkn
      go_wp2_with fail
      refine (specInsOk_calls op x y z _).mono ?_
      rintro e W1 ⟨rfl, hb1⟩
      have hnx1 := hnx.trans (hb1.mono hsz)
      have hbr : b < wr.heap.size := by omega
      have d0 := (hb1.cell (p := ⟨b, off + k * 4, none⟩) hbr).trans c0
      have d1 := (hb1.cell (p := ⟨b, off + k * 4 + 1, none⟩) hbr).trans c1
      have d2 := (hb1.cell (p := ⟨b, off + k * 4 + 2, none⟩) hbr).trans c2
      have d3 := (hb1.cell (p := ⟨b, off + k * 4 + 3, none⟩) hbr).trans c3
      clear c0 c1 c2 c3 hb1 hnx
      have hq : insOkZ op x y z = false ∨ (insOkZ op x y z = true ∧ (1500 : Int) ≤ (k : Int)) ∨ (insOkZ op x y z = true ∧ ¬ (1500 : Int) ≤ (k : Int)) := by
        cases insOkZ op x y z <;> simp <;> omega
      rcases hq with hok | ⟨hok, hk15⟩ | ⟨hok, hk15⟩
      · have HF : Hid (R = tx []) := by
          show _ = _
          rw [← HR.out, ansText, if_neg]
          unfold codeOkZ
          have h1 : (cs.take (k + 1)).all In.ok = false := by
            rw [HD.out, List.all_append]
            simp [In.ok, hok]
          rw [← List.take_append_drop (k + 1) cs, List.all_append, h1]
          simp
        clear HD HA HN HT
        rw [hok]
        go_wp2_with fail
        go_ret
        exact ⟨by rw [HF.out]; rfl, hnx1⟩
      · have HF : Hid (R = tx []) := by
          show _ = _
          rw [← HR.out, ansText, if_neg]
          unfold codeOkZ
          rw [decide_eq_false (by rw [Hlen.out]; omega)]
          simp
        clear HD HA HN HT
        rw [hok]
        go_wp2_with fail
        go_ret
        exact ⟨by rw [HF.out]; rfl, hnx1⟩
      · have HO : Hid (insOkZ op x y z = true) := hok
        have hop := ok_op hok
        obtain ⟨q, hqq⟩ : ∃ q : Nat, op = (q : Int) := ⟨op.toNat, by omega⟩
        have hq26 : q < 26 := by omega
        subst hqq
        have HW : Hid (∀ w, _) := fun w => l5Word_calls q w hq26
        have HL : Hid (In.line ⟨(q : Int), x, y, z⟩ = wordZ (q : Int) ++ (numsText (In.nums ⟨(q : Int), x, y, z⟩) ++ [10])) := rfl
        have hwl := word_length (q : Int)
        have HTL : Hid (T.size ≤ 1000000) := by
          show _ ≤ _
          rw [HT.out.1, tx_size]
          have h1 := text_length (cs.take k) HA.out
          have h2 : (cs.take k).length ≤ k := by simp; omega
          omega
        obtain ⟨wd, hwd⟩ : ∃ wd, tx (wordZ (q : Int)) = wd := ⟨_, rfl⟩
        have Hwd : Hid (tx (wordZ (q : Int)) = wd) := hwd
        have hws : wd.size ≤ 6 := by rw [← hwd, tx_size]; exact hwl
        have HWS : Hid (wd.size ≤ 6) := hws
        have hc1 : ¬ 9223372036854775807 < T.size + wd.size := by have := HTL.out; omega
        clear hop hwl hws
        rw [hok]
        clear hok
        go_wp2_with fail
        refine (HW.out _).mono ?_
        rintro e W2 ⟨rfl, hb2⟩
        rw [show (⟨(wordZ (q : Int)).toArray⟩ : ByteArray) = wd from hwd]
        have hnx2 := hnx1.trans (hb2.mono hnx1.size)
        have hbw1 : b < W1.heap.size := by have := hnx1.size; omega
        have e0 := (hb2.cell (p := ⟨b, off + k * 4, none⟩) hbw1).trans d0
        have e1 := (hb2.cell (p := ⟨b, off + k * 4 + 1, none⟩) hbw1).trans d1
        have e2 := (hb2.cell (p := ⟨b, off + k * 4 + 2, none⟩) hbw1).trans d2
        have e3 := (hb2.cell (p := ⟨b, off + k * 4 + 3, none⟩) hbw1).trans d3
        clear d0 d1 d2 d3 hb2 hwd HW
        have hki : (0 : Int) ≤ (k : Int) := by omega
        go_wp2_with fail
        go_region_held3 (fun w' => w'.cell? ⟨b, off + k * 4 + 1, none⟩ = some (.int .i64 x) ∧ w'.cell? ⟨b, off + k * 4 + 2, none⟩ = some (.int .i64 y) ∧ w'.cell? ⟨b, off + k * 4 + 3, none⟩ = some (.int .i64 z)) (go_keep) (fail)
        go_wp2_with fail
        have h7 : ((W2.alloc (.cells #[.int .i64 x, .int .i64 y, .int .i64 z] 3)).drew).heap[W2.heap.size]? = some (.cells #[.int .i64 x, .int .i64 y, .int .i64 z] 3) := (MapKept.heap_alloc W2 _).1
        have hnx4 : Below w.heap.size w ((W2.alloc (.cells #[.int .i64 x, .int .i64 y, .int .i64 z] 3)).drew) := (hnx2.alloc hnx2.size _).drew
        have hbw4 : b < W2.heap.size := by have := hnx2.size; omega
        have f0 := (((Below.refl W2.heap.size W2).alloc (Nat.le_refl _) (.cells #[.int .i64 x, .int .i64 y, .int .i64 z] 3)).drew.cell (p := ⟨b, off + k * 4, none⟩) hbw4).trans e0
        have HA1 : Hid ((cs.take (k + 1)).all In.ok = true) := by
          show _ = _
          rw [HD.out, List.all_append, HA.out]
          simp [In.ok, HO.out]
        have HS1 : Hid (textZ (cs.take (k + 1)) = textZ (cs.take k) ++ (wordZ (q : Int) ++ (numsText (In.nums ⟨(q : Int), x, y, z⟩) ++ [10]))) := by
          show _ = _
          rw [HD.out]
          simp [textZ, HL.out]
        have hsm := ok_small HO.out
        have HSM : Hid (∀ n ∈ [x, y, z], Small n) := by
          intro n hn
          simp at hn
          rcases hn with rfl | rfl | rfl
          · exact hsm.1
          · exact hsm.2.1
          · exact hsm.2.2
        have hmany : ∃ mm : Nat, manyZ (q : Int) = (mm : Int) ∧ mm ≤ 3 := by
          have hok := HO.out
          have h0 : ¬ manyZ (q : Int) < 0 := fun h => by
            unfold insOkZ at hok
            rw [if_pos (Or.inl h)] at hok
            cases hok
          refine ⟨(manyZ (q : Int)).toNat, by omega, ?_⟩
          have : manyZ (q : Int) ≤ 3 := by
            unfold manyZ
            repeat' split
            all_goals omega
          omega
        obtain ⟨mm, hmm, hm3⟩ := hmany
        have HMM : Hid (manyZ (q : Int) = (mm : Int)) := hmm
        have HNU : Hid (In.nums ⟨(q : Int), x, y, z⟩ = [x, y, z].take mm) := by
          show _ = _
          simp only [In.nums, hmm, Int.toNat_natCast]
        have HCU : Hid (T ++ wd = tx (textZ (cs.take k) ++ wordZ (q : Int)) ∧ (textZ (cs.take k) ++ wordZ (q : Int)).length ≤ 1000006) := by
          show _ ∧ _
          have h2 := HTL.out
          rw [HT.out.1, tx_size] at h2
          have h3 := word_length (q : Int)
          rw [HT.out.1, ← Hwd.out, tx_append]
          refine ⟨rfl, ?_⟩
          rw [List.length_append]
          omega
        clear e0 e1 e2 e3 hsm hmm hnx2 hnx1 hbw1 hbr hc1 HO HL HD HA HTL HT Hwd HWS
        obtain ⟨O, hO⟩ : ∃ O, T ++ wd = O := ⟨_, rfl⟩
        have HO : Hid (T ++ wd = O) := hO
        rw [hO]
        rw [hO] at HCU
        clear hO
        generalize ((W2.alloc (.cells #[.int .i64 x, .int .i64 y, .int .i64 z] 3)).drew) = W4 at *
        generalize W2.heap.size = B7 at *
        clear hq26
        generalize hqi : (q : Int) = qi at *
        clear hqi
        clear hsz
        go_loopw [3, 6] (fun o j wi => ∃ (q : Nat) (C : ByteArray), j = .int .i64 q ∧ o = .string C ∧ q ≤ mm ∧ Hid (C = tx ((textZ (cs.take k) ++ wordZ qi) ++ numsText ([x, y, z].take q))) ∧ wi.cell? ⟨b, off + k * 4, none⟩ = some (.int .i64 qi) ∧
            wi.heap[B7]? = some (.cells #[.int .i64 x, .int .i64 y, .int .i64 z] 3) ∧ Below w.heap.size w wi) (fun _ j _ => mm - (intOf j).toNat)
        case atStart => exact ⟨0, O, rfl, rfl, Nat.zero_le _, by simpa [Hid, numsText] using HCU.out.1, f0, h7, hnx4⟩
        case round =>
          obtain ⟨j, C, rfl, rfl, hqm, HC, f0q, h7q, hnxq⟩ := hrel
          clear f0 h7 hnx4
          have hlt7 := heap_lt h7q
          have hszq := hnxq.size
          have hCl : C.size ≤ 1000100 := by
            rw [HC.out, tx_size, List.length_append]
            have h1 := HCU.out.2
            have h2 := nums_text_length ([x, y, z].take j) (fun n hn => HSM.out n (List.mem_of_mem_take hn))
            have h3 : ([x, y, z].take j).length ≤ 3 := by simp; omega
            omega
          have HCl : Hid (C.size ≤ 1000100) := hCl
          have hcat1 : ¬ 9223372036854775807 < C.size + 1 := by omega
          clear hCl
          go_wp2_with fail
          refine (l5Many_calls _ _).mono ?_
          rintro e W5 ⟨rfl, rfl⟩
          rw [HMM.out]
          by_cases hq : (j : Int) < (mm : Int)
          · have hq3 : j < 3 := by omega
            have r7 := cell_of_heap h7q j
            have HT : Hid (numsText ([x, y, z].take (j + 1)) = numsText ([x, y, z].take j) ++ (32 :: Lib.itoa ([x, y, z].getD j 0))) := by
              show _ = _
              unfold numsText
              rw [List.take_succ_eq_append_getElem (by simpa using hq3), List.flatMap_append]
              simp [List.getD, hq3]
            have hsn : Small ([x, y, z].getD j 0) := HSM.out _ (by
              match j, hq3 with
              | 0, _ => simp
              | 1, _ => simp
              | 2, _ => simp)
            rw [show (#[.int .i64 x, .int .i64 y, .int .i64 z] : Array Value)[j]? = some (.int .i64 ([x, y, z].getD j 0)) by
              match j, hq3 with
              | 0, _ => rfl
              | 1, _ => rfl
              | 2, _ => rfl] at r7
            generalize [x, y, z].getD j 0 = nq at *
            have HSN : Hid (Small nq) := hsn
            clear hsn
            have hi3 : (j : Int) < 3 := by omega
            go_wp2_with fail
            refine (l2Dec_calls nq _ HSN.out).mono ?_
            rintro e W6 ⟨rfl, hb6⟩
            have f6 := (hb6.cell (p := ⟨b, off + k * 4, none⟩) (show b < wr.heap.size by omega)).trans f0q
            have h76 := (hb6.block B7 hlt7).trans h7q
            have hnx6 := hnxq.trans (hb6.mono hszq)
            obtain ⟨D, hD⟩ : ∃ D : ByteArray, ⟨(Lib.itoa nq).toArray⟩ = D := ⟨_, rfl⟩
            have HDe : Hid (tx (Lib.itoa nq) = D) := hD
            rw [hD]
            have hds : D.size ≤ 21 := by rw [← HDe.out, tx_size]; exact itoa_small HSN.out
            have HDs : Hid (D.size ≤ 21) := hds
            have hcat2 : ¬ 9223372036854775807 < C.size + 1 + D.size := by have := HCl.out; omega
            clear hD hds hb6 hnxq h7q f0q
            go_wp2_with fail
            rw [show ((j : Int) + 1) = ((j + 1 : Nat) : Int) from rfl]
            refine ⟨⟨j + 1, _, rfl, rfl, by omega, ?_, f6, h76, hnx6⟩, by simp only [intOf, Int.toNat_natCast]; omega⟩
            show _ = _
            rw [HT.out, HC.out, ← HDe.out, show (⟨#[32]⟩ : ByteArray) = tx [32] from rfl, tx_append, tx_append]
            simp
          · have hjm : j = mm := by omega
            subst hjm
            have HC1 : Hid (C ++ ⟨#[10]⟩ = tx (textZ (cs.take (k + 1)))) := by
              show _ = _
              rw [HC.out, HS1.out, HNU.out, show (⟨#[10]⟩ : ByteArray) = tx [10] from rfl, tx_append]
              simp
            clear HC HS1 HNU HCU f0q h7q HSM HMM
            go_wp2_with fail
            rw [show ((k : Int) + 1) = ((k + 1 : Nat) : Int) from rfl]
            refine ⟨⟨k + 1, _, rfl, by omega, rfl, ⟨HC1.out, by omega⟩, HA1, hnxq⟩, by simp only [intOf, Int.toNat_natCast]; omega⟩
    · have hkl' : k = len := by omega
      have HF : Hid (T = R) := by
        show _ = _
        have h1 : cs.take k = cs := by rw [hkl', ← Hlen.out]; exact List.take_length
        have h2 := HT.out
        have h3 := HA.out
        rw [h1] at h2 h3
        rw [← HR.out, h2.1, ansText, if_pos]
        unfold codeOkZ
        rw [h3, decide_eq_true (by rw [Hlen.out]; omega)]
        rfl
      clear HN HT HA
      go_wp2_with fail
      go_ret
      exact ⟨by rw [HF.out]; rfl, hnx⟩

set_option maxRecDepth 100000 in
theorem specText_none (ad : Option Addr) (cap : Nat) (w : World) : Calls Tryd.prog 6 #[.slice ad 0 cap] w fun e w' => e = .returned (.string (tx [])) ∧ Below w.heap.size w w' := by
  go_enter Tryd.func6, Tryd.ntmps6
  go_wp2
  refine wp_loop_rounds 1 ?_
  rw [rounds_succ]
  go_wp2
  go_ret
  exact ⟨rfl, Below.refl _ _⟩
end Go.Proofs.YtegjdgiegnofhaaDoor

/- The library's builder of texts at this program: writing a text puts its bytes behind those that are there. -/
namespace Go.Proofs.YtegjdgiegnofhaaDoor
open Go.RowKit

theorem size_builder : (Tryd.prog.info? 36).map (·.size) = some 2 := by kernel_rfl
theorem lies_builder : liesAt Tryd.prog Tryd.prog.depth 36 (2 / Tryd.prog.cellsOf 36) 0 36 1 = true := by kernel_rfl
theorem info_u8 : (Tryd.prog.info? 5).map (fun i => (i.zero, i.size, i.bytes)) = some (some (.int .u8 0), 1, 1) := by kernel_rfl

set_option maxHeartbeats 1000000 in
set_option maxRecDepth 100000 in
theorem copyCheck_calls (B b : Nat) (bs : List Value) (w : World) (h : Lib.IsBuilderF 36 5 B b bs w) :
    Calls Tryd.prog 25 #[.pointer (some ⟨b, 0, none⟩)] w fun e w' => e = .returned (.tuple #[]) ∧ Lib.BuilderAtF 36 5 B b (.pointer (some ⟨b, 0, none⟩)) bs w' ∧ Below B w w' ∧ Lib.OthersKept 5 (some b) w w' := by
  obtain ⟨j, hj, hjs⟩ := Option.map_eq_some_iff.1 size_builder
  rcases h with h | h
  · have hc := h.cell0
    have hsh := h.shape
    have hz := h.frozen0
    go_enter Tryd.func25, Tryd.ntmps25
    go_wp2
    rw [Lib.run_to_unsafe w ⟨b, 0, none⟩ Tryd.underlying34 Tryd.underlying81 hj (by rw [hjs]; decide) hsh (Nat.zero_lt_succ 1)]
    simp only [Result.andThen]
    rw [Oper.upon_value]
    go_wp2
    rw [run_callFunc_extern Tryd.func37 (by kernel_rfl) (by kernel_rfl) (by kernel_rfl) (e := Extern.AbiNoEscape.same) (by kernel_rfl)]
    rw [Lib.run_noEscape]
    simp only [Result.andThen]
    rw [Oper.upon_value]
    go_wp2
    rw [Lib.run_from_unsafe w ⟨b, 0, none⟩ Tryd.underlying81 Tryd.underlying34 hj hsh lies_builder]
    simp only [Result.andThen]
    rw [Oper.upon_value]
    go_wp2
    go_end0
    exact ⟨rfl, h.used _, (Below.refl B w).setCell (p := ⟨b, 0, none⟩) h.1 _, (Lib.OthersKept.refl _ _ w).setCell ⟨b, 0, none⟩ rfl _⟩
  · have hc := h.cell0
    go_enter Tryd.func25, Tryd.ntmps25
    go_wp2
    rw [Lib.run_neq_ptr_same w _ Tryd.underlying34 hj]
    go_wp2
    go_end0
    exact ⟨rfl, h, Below.refl B _, Lib.OthersKept.refl _ _ _⟩

set_option maxHeartbeats 2000000 in
set_option maxRecDepth 100000 in
theorem writeString_calls (B b : Nat) (bs : List Value) (s : ByteArray) (w : World) (h : Lib.IsBuilderF 36 5 B b bs w) (hlen : bs.length + s.size ≤ 1000000) (hBw : B ≤ w.heap.size) :
    Calls Tryd.prog 11 #[.pointer (some ⟨b, 0, none⟩), .string s] w fun e w' => e = .returned (.tuple #[.int .i64 s.size, .nilIface]) ∧ Lib.IsBuilderF 36 5 B b (bs ++ Lib.strCells s) w' ∧ Below B w w' ∧ Lib.OthersKept 5 (some b) w w' := by
  obtain ⟨i0, hi, hz0, hz1, hz2⟩ := info_parts info_u8
  have HL : Hid (bs.length + s.size ≤ 1000000) := hlen
  clear hlen
  go_enter Tryd.func11, Tryd.ntmps11
  go_wp2_with fail
  refine (copyCheck_calls B b bs _ h).mono ?_
  rintro e w1 ⟨rfl, h1, hb1, hk1⟩
  obtain ⟨hB, v, hbk, hown, hne⟩ := h1
  have c0 := cell_of_heap hbk 0
  have c1 := cell_of_heap hbk 1
  simp at c0 c1
  have hlt := heap_lt hbk
  have hsz := hb1.size
  go_wp2_with (first
    | (at_builtin; refine Lib.wpList_append_own_stringF _ rfl _ _ 22 9 rfl B 5 i0 Tryd.underlying22 Tryd.underlying9 hi hz0 hz1 hz2 _ _ _ rfl hown s rfl (by have := HL.out; unfold maxLen; omega) (by have := HL.out; omega) (by omega) ?_
       intro v' w2 hown' hgrow _
       have hb2 : w2.heap[b]? = some (.cells #[.pointer (some ⟨b, 0, none⟩), v] 36 (0, 0)) := (hgrow.block b hlt (fun e => hne e.symm)).trans hbk
       have d0 := cell_of_heap hb2 0
       have d1 := cell_of_heap hb2 1
       have f1 := frozen_of_heap hb2 1
       simp at d0 d1
       obtain ⟨ao, n', cap, rfl⟩ : ∃ ao n' cap, v' = .slice ao n' cap := by
         rcases hown'.2 with ⟨hv, _⟩ | ⟨g, cap, cur, fz, hv, _⟩
         · exact ⟨_, _, _, hv⟩
         · exact ⟨_, _, _, hv⟩))
  go_ret2
  refine ⟨rfl, Or.inr ?_, ?_, (hk1.grown hgrow (Lib.ownsRowF_kind hown)).setCell ⟨b, 1, none⟩ rfl _⟩
  · exact Lib.BuilderAtF.put hB hb2 (bs' := bs ++ Lib.strCells s) (by simpa [Lib.strCells_length] using hown') (by decide)
  · exact (hb1.grown hgrow (by omega) (fun k hk => (hown.lt k hk).1)).setCell (p := ⟨b, 1, none⟩) hB _
end Go.Proofs.YtegjdgiegnofhaaDoor

/- The program's text of code is the plain one. -/
namespace Go.Proofs.YtegjdgiegnofhaaDoor
open Go.RowKit

/-- The table of the instructions' words, as it lies. -/
def wordsArr : Array Value := (insWordsL.map fun l => Value.string ⟨l.toArray⟩).toArray

structure LaidC (w : World) : Prop where
  words : w.var? Tryd.prog "loop.example/handrail/impl.insWords" = some wordsArr
  pows : Lib.TabIs Tryd.prog w "internal/strconv.uint64pow10" .u64 Lib.pow10Tab

theorem gWords : Tryd.prog.globalNamed "loop.example/handrail/impl.insWords" = some 0 := by kernel_rfl
theorem gPowsC : Tryd.prog.globalNamed "internal/strconv.uint64pow10" = some 1 := by kernel_rfl

theorem LaidC.stays {w w' : World} (h : LaidC w) (hb : Below w.heap.size w w') : LaidC w' :=
  ⟨Joins.var_stays gWords h.words hb (Nat.le_refl _), Joins.var_stays gPowsC h.pows hb (Nat.le_refl _)⟩

theorem LaidC.word {w : World} (h : LaidC w) (k : Nat) (hk : k < 26) : w.cell? ⟨0, k, none⟩ = some (.string (tx (wordZ (k : Int)))) := by
  rw [World.var?_cell gWords h.words k]
  have hl : k < insWordsL.length := hk
  simp [wordsArr, wordZ, tx, hl]

theorem builder_kept {T e : TypeId} {B b : Nat} {bs : List Value} {w w' : World} (h : Lib.IsBuilderF T e B b bs w) (hb : Below w.heap.size w w') : Lib.IsBuilderF T e B b bs w' := by
  have one : ∀ p, Lib.BuilderAtF T e B b p bs w → Lib.BuilderAtF T e B b p bs w' := by
    rintro p ⟨hB, v, hbk, hown, hne⟩
    exact ⟨hB, v, (hb.block b (heap_lt hbk)).trans hbk, hown.kept (kept_of_below hb none) (by cases hv : v.ownBlock <;> simp), hne⟩
  exact h.imp (one _) (one _)

theorem builder_new (B : Nat) (w : World) (hB : B ≤ w.heap.size) : Lib.IsBuilderF 36 5 B w.heap.size [] (w.alloc (.cells #[.pointer none, .slice none 0 0] 36)) :=
  Or.inl ⟨hB, _, (MapKept.heap_alloc w _).1, World.ownsRowF_nil _ _ _ _, by simp [Value.ownBlock]⟩

theorem grow_belowC (w : World) (k : Nat) (os : Array Obj) : Below w.heap.size w (Go.Sort.grow (w.drewN k) os) :=
  ⟨rfl, rfl, rfl, by rw [Go.Sort.size_grow]; exact Nat.le_add_right _ _, fun j hj => by rw [Go.Sort.heap_grow_old (w.drewN k) os hj]; rfl⟩

theorem builder_lt {T e : TypeId} {B b : Nat} {bs : List Value} {w : World} (h : Lib.IsBuilderF T e B b bs w) : b < w.heap.size := h.elim (fun h => h.lt) (fun h => h.lt)

theorem put_calls (B bb : Nat) (l m : List UInt8) (w : World) (h : Lib.IsBuilderF 36 5 B bb (Lib.byteCells l) w) (hl : l.length + m.length ≤ 1000000) (hB : B ≤ w.heap.size) :
    Calls Tryd.prog 11 #[.pointer (some ⟨bb, 0, none⟩), .string (tx m)] w fun e w' => e = .returned (.tuple #[.int .i64 m.length, .nilIface]) ∧ Lib.IsBuilderF 36 5 B bb (Lib.byteCells (l ++ m)) w' ∧ Below B w w' ∧ Lib.OthersKept 5 (some bb) w w' := by
  refine (writeString_calls B bb (Lib.byteCells l) (tx m) w h (by rw [Lib.byteCells_length, tx_size]; exact hl) hB).mono ?_
  rintro e w' ⟨rfl, h1, h2, h3⟩
  refine ⟨by rw [tx_size], ?_, h2, h3⟩
  rw [Lib.byteCells_append]
  exact h1

theorem itoaC_calls (n : Int) (hn : Small n) (w : World) (hL : LaidC w) :
    Calls Tryd.prog 13 #[.int .i64 n] w fun e w' => e = .returned (.string (tx (Lib.itoa n))) ∧ Below w.heap.size w w' := by
  unfold Small at hn
  refine (Tryd.strconv_Itoa n (by omega) (by omega) w hL.pows).mono ?_
  rintro e w' ⟨rfl, k, os, rfl⟩
  exact ⟨rfl, grow_belowC w k os⟩

set_option maxHeartbeats 4000000 in
set_option maxRecDepth 100000 in
theorem implText_rows (b off cap : Nat) (cs : List In) (w : World) (hL : LaidC w) (hb : b < w.heap.size) (hn : InsAt w b off cs) :
    Calls Tryd.prog 5 #[.slice (some ⟨b, off, none⟩) cs.length cap] w fun e w' => e = .returned (.string (tx (ansText cs))) ∧ Below w.heap.size w w' := by
  have HL : Hid (Calls _ _ _ _ _) := listOk_calls b off cap cs w hb hn
  obtain ⟨len, hlen⟩ : ∃ len, cs.length = len := ⟨_, rfl⟩
  have Hlen : Hid (cs.length = len) := hlen
  have HN : Hid (InsAt w b off cs) := hn
  have HLA : Hid (LaidC w) := hL
  clear hn hL
  cases hok : codeOkZ cs with
  | false =>
    rw [hlen, hok] at HL
    rw [hlen, ansText, hok, if_neg (by simp)]
    go_enter Tryd.func5, Tryd.ntmps5
    go_wp2_with fail
    refine HL.out.mono ?_
    rintro e w1 ⟨rfl, hb1⟩
    go_wp2_with fail
    go_ret
    exact ⟨rfl, hb1⟩
  | true =>
    rw [hlen, hok] at HL
    rw [hlen, ansText, hok, if_pos rfl]
    have HM : Hid (len ≤ 1500 ∧ cs.all In.ok = true) := by
      unfold codeOkZ at hok
      rw [Bool.and_eq_true] at hok
      exact ⟨by have := of_decide_eq_true hok.1; omega, hok.2⟩
    obtain ⟨ansR, hansR⟩ : ∃ ansR, tx (textZ cs) = ansR := ⟨_, rfl⟩
    have HAN : Hid (tx (textZ cs) = ansR) := hansR
    rw [hansR]
    clear hlen hok hansR
    go_enter Tryd.func5, Tryd.ntmps5
    go_wp2_with fail
    refine HL.out.mono ?_
    rintro e W1 ⟨rfl, hb1⟩
    clear HL
    have HNEW := hid (builder_new w.heap.size W1 hb1.size)
    have hnx0 := hb1.alloc hb1.size (.cells #[.pointer none, .slice none 0 0] 36)
    go_wp2_with fail
    generalize W1.alloc (.cells #[.pointer none, .slice none 0 0] 36) = W2 at *
    generalize W1.heap.size = bb at *
    clear hb1
    go_loopw [13] (fun i wr => ∃ k : Nat, i = .int .i64 k ∧ k ≤ len ∧ Hid (Lib.IsBuilderF 36 5 w.heap.size bb (Lib.byteCells (textZ (cs.take k))) wr) ∧ Below w.heap.size w wr) (fun i _ => len - (intOf i).toNat)
    case atStart => exact ⟨0, rfl, Nat.zero_le _, HNEW, hnx0⟩
    case round =>
      obtain ⟨k, rfl, hk, HB, hnx⟩ := hrel
      clear HNEW hnx0
      have hszr := hnx.size
      by_cases hkl : (k : Int) < (len : Int)
      · have hkn : k < cs.length := by rw [Hlen.out]; omega
        have hcell := fun c (hc : c < 4) => (hnx.cell (p := ⟨b, off + k * 4 + c, none⟩) hb).trans (HN.out k hkn c hc)
        have HD : Hid (cs.take (k + 1) = cs.take k ++ [cs.getD k default]) := ins_drop hkn
        have hok : In.ok (cs.getD k default) = true := List.all_eq_true.1 HM.out.2 (cs.getD k default) (by simp [List.getD, List.getElem?_eq_getElem hkn])
        generalize cs.getD k default = n at hcell HD hok
        obtain ⟨op, x, y, z⟩ := n
        have c0 := hcell 0 (by omega)
        have c1 := hcell 1 (by omega)
        have c2 := hcell 2 (by omega)
        have c3 := hcell 3 (by omega)
        simp only [In.cell, Nat.add_zero] at c0 c1 c2 c3
        clear hcell hkn
        have HTL : Hid ((textZ (cs.take k)).length ≤ 900000) := by
          show _ ≤ _
          have h0 : (cs.take k).all In.ok = true := by
            rw [List.all_eq_true]
            exact fun i hi => List.all_eq_true.1 HM.out.2 i (List.mem_of_mem_take hi)
          have h1 := text_length (cs.take k) h0
          have h2 : (cs.take k).length ≤ k := by simp; omega
          have := HM.out.1
          omega
        have hop : 0 ≤ op ∧ op ≤ 25 := ok_op hok
        obtain ⟨q, hqq⟩ : ∃ q : Nat, op = (q : Int) := ⟨op.toNat, by omega⟩
        have hq26 : q < 26 := by omega
        subst hqq
        have hqi : (q : Int) < 26 := by omega
        obtain ⟨mm, hmm, hm3⟩ := numsZ_range (q : Int)
        have HS1 : Hid (textZ (cs.take (k + 1)) = ((textZ (cs.take k) ++ wordZ (q : Int)) ++ numsText ([x, y, z].take mm)) ++ [10]) := by
          show _ = _
          have h0 : ¬ manyZ (q : Int) < 0 := fun h => by
            simp only [In.ok] at hok
            unfold insOkZ at hok
            rw [if_pos (Or.inl h)] at hok
            cases hok
          have h1 : manyZ (q : Int) = (mm : Int) := by
            rw [← hmm, numsZ_many, if_neg h0]
          rw [HD.out]
          simp [textZ, In.line, In.nums, h1]
        have hsm := ok_small hok
        have HSM : Hid (∀ n ∈ [x, y, z], Small n) := by
          intro n hn
          simp at hn
          rcases hn with rfl | rfl | rfl
          · exact hsm.1
          · exact hsm.2.1
          · exact hsm.2.2
        have HMM : Hid (numsZ (q : Int) = (mm : Int)) := hmm
        have hlaw := (HLA.out.stays hnx).word q hq26
        have hwl := word_length (q : Int)
        have HWL : Hid ((wordZ (q : Int)).length ≤ 6) := hwl
        have h0r : 0 < wr.heap.size := by omega
        have hbw := builder_lt HB.out
        clear HD hok hmm hop hsm hwl hq26
        generalize wordZ (q : Int) = wd at *
        generalize textZ (cs.take k) = tk at *
        go_wp2_with fail
        clear c0 c1 c2 c3 hlaw
        have hbA := (Below.refl wr.heap.size wr).alloc (Nat.le_refl _) (.cells #[.int .i64 (q : Int), .int .i64 x, .int .i64 y, .int .i64 z] 28)
        have h6 := (MapKept.heap_alloc wr (.cells #[.int .i64 (q : Int), .int .i64 x, .int .i64 y, .int .i64 z] 28)).1
        have HBA := hid (builder_kept HB.out hbA)
        have hnxA := hnx.alloc hszr (.cells #[.int .i64 (q : Int), .int .i64 x, .int .i64 y, .int .i64 z] 28)
        clear HB hnx hbA
        have hneq : some wr.heap.size ≠ some bb := by simp; omega
        generalize wr.alloc (.cells #[.int .i64 (q : Int), .int .i64 x, .int .i64 y, .int .i64 z] 28) = WA at *
        refine (put_calls w.heap.size bb tk wd WA HBA.out (by have := HTL.out; have := HWL.out; omega) hnxA.size).mono ?_
        rintro e W3 ⟨rfl, hb3, hn3, ho3⟩
        have h63 := ho3 _ _ h6 hneq (by intro c fz h; cases h)
        have HB3 := hid hb3
        have hnx3 := hnxA.trans hn3
        clear h6 ho3 hn3 hb3 hnxA HBA
        have q0 := cell_of_heap h63 0
        have q1 := cell_of_heap h63 1
        have q2 := cell_of_heap h63 2
        have q3 := cell_of_heap h63 3
        simp at q0 q1 q2 q3
        have hlt6 := heap_lt h63
        clear h63
        go_wp2_with fail
        refine (numbers_calls (q : Int) x y z mm _ HMM.out hm3).mono ?_
        rintro e W4 ⟨rfl, hg4, hb4⟩
        have HB4 := hid (builder_kept HB3.out hb4)
        have hnx4 := hnx3.trans (hb4.mono hnx3.size)
        have hb3lt := builder_lt HB3.out
        have hneq : some (W3.heap.size + 1) ≠ some bb := by simp; omega
        clear HB3 hnx3 hb4 q0 q1 q2 q3 hlt6 hb3lt
        generalize W3.heap.size + 1 = B7 at *
        go_wp2_with fail
        generalize hti : tk ++ wd = tw at *
        have HTW : Hid (tw.length ≤ 900006) := by
          show _ ≤ _
          rw [← hti, List.length_append]
          have := HTL.out
          have := HWL.out
          omega
        clear hti HTL HWL
        go_loopw [25] (fun j wi => ∃ j' : Nat, j = .int .i64 j' ∧ j' ≤ mm ∧ Hid (Lib.IsBuilderF 36 5 w.heap.size bb (Lib.byteCells (tw ++ numsText ([x, y, z].take j'))) wi) ∧
            wi.heap[B7]? = some (.cells #[.int .i64 x, .int .i64 y, .int .i64 z] 3) ∧ Below w.heap.size w wi) (fun j _ => mm - (intOf j).toNat)
        case atStart => exact ⟨0, rfl, Nat.zero_le _, by simpa [Hid, numsText] using HB4.out, hg4, hnx4⟩
        case round =>
          obtain ⟨j, rfl, hjm, HBj, h7j, hnxj⟩ := hrel
          clear HB4 hg4 hnx4
          have hlt7 := heap_lt h7j
          have hszj := hnxj.size
          have HCl : Hid ((tw ++ numsText ([x, y, z].take j)).length ≤ 900072) := by
            show _ ≤ _
            rw [List.length_append]
            have h1 := HTW.out
            have h2 := nums_text_length ([x, y, z].take j) (fun n hn => HSM.out n (List.mem_of_mem_take hn))
            have h3 : ([x, y, z].take j).length ≤ 3 := by simp; omega
            omega
          by_cases hq : (j : Int) < (mm : Int)
          · have hq3 : j < 3 := by omega
            have r7 := cell_of_heap h7j j
            have HT : Hid (numsText ([x, y, z].take (j + 1)) = numsText ([x, y, z].take j) ++ (32 :: Lib.itoa ([x, y, z].getD j 0))) := by
              show _ = _
              unfold numsText
              rw [List.take_succ_eq_append_getElem (by simpa using hq3), List.flatMap_append]
              simp [List.getD, hq3]
            have hsn : Small ([x, y, z].getD j 0) := HSM.out _ (by
              match j, hq3 with
              | 0, _ => simp
              | 1, _ => simp
              | 2, _ => simp)
            rw [show (#[.int .i64 x, .int .i64 y, .int .i64 z] : Array Value)[j]? = some (.int .i64 ([x, y, z].getD j 0)) by
              match j, hq3 with
              | 0, _ => rfl
              | 1, _ => rfl
              | 2, _ => rfl] at r7
            generalize [x, y, z].getD j 0 = nq at *
            have HSN : Hid (Small nq) := hsn
            clear hsn
            have hi3 : (j : Int) < 3 := by omega
            go_wp2_with fail
            refine (itoaC_calls nq HSN.out _ (HLA.out.stays hnxj)).mono ?_
            rintro e W6 ⟨rfl, hb6⟩
            have HB6 := hid (builder_kept HBj.out hb6)
            have h76 := (hb6.block B7 hlt7).trans h7j
            have hnx6 := hnxj.trans (hb6.mono hszj)
            have HLn : Hid ((Lib.itoa nq).length ≤ 21) := itoa_small HSN.out
            have hcat : ¬ 9223372036854775807 < 1 + (tx (Lib.itoa nq)).size := by rw [tx_size]; have := HLn.out; omega
            have HAP : Hid ((⟨#[32]⟩ : ByteArray) ++ tx (Lib.itoa nq) = tx (32 :: Lib.itoa nq)) := bytes_appendC [32] _
            obtain ⟨D, hD⟩ : ∃ D : ByteArray, tx (Lib.itoa nq) = D := ⟨_, rfl⟩
            rw [hD] at hcat HAP
            rw [hD]
            clear hD hb6 hnxj h7j r7 HBj
            go_wp2_with fail
            rw [HAP.out]
            refine (put_calls w.heap.size bb _ (32 :: Lib.itoa nq) W6 HB6.out (by have := HCl.out; have := HLn.out; simp only [List.length_cons]; omega) hnx6.size).mono ?_
            rintro e W7 ⟨rfl, hb7, hn7, ho7⟩
            have h77 := ho7 _ _ h76 hneq (by intro c fz h; cases h)
            have HB7 : Hid (Lib.IsBuilderF 36 5 w.heap.size bb (Lib.byteCells (tw ++ numsText ([x, y, z].take (j + 1)))) W7) := by
              rw [HT.out, ← List.append_assoc]
              exact hb7
            have hnx7 := hnx6.trans hn7
            clear ho7 hn7 hb7 hnx6 h76 HB6 HAP hcat
            go_wp2_with fail
            rw [show ((j : Int) + 1) = ((j + 1 : Nat) : Int) from rfl]
            exact ⟨⟨j + 1, rfl, by omega, HB7, h77, hnx7⟩, by simp only [intOf, Int.toNat_natCast]; omega⟩
          · have hjm' : j = mm := by omega
            subst hjm'
            go_wp2_with fail
            refine (put_calls w.heap.size bb _ [10] wr HBj.out (by have := HCl.out; simp only [List.length_singleton]; omega) hnxj.size).mono ?_
            rintro e W7 ⟨rfl, hb7, hn7, ho7⟩
            have HB7 : Hid (Lib.IsBuilderF 36 5 w.heap.size bb (Lib.byteCells (textZ (cs.take (k + 1)))) W7) := by
              rw [HS1.out]
              exact hb7
            have hnx7 := hnxj.trans hn7
            clear ho7 hn7 hb7 hnxj HBj HS1
            go_wp2_with fail
            have hs : len - (intOf (.int .i64 ((k + 1 : Nat) : Int))).toNat < len - (intOf (.int .i64 (k : Int))).toNat := by simp only [intOf, Int.toNat_natCast]; omega
            rw [wrap_one (k := k) (len := len) (by omega) (by have := HM.out.1; omega)]
            exact ⟨⟨k + 1, rfl, by omega, HB7, hnx7⟩, hs⟩
      · have e1 : cs.take k = cs := List.take_of_length_le (by rw [Hlen.out]; omega)
        rw [e1] at HB
        go_wp2_with fail
        refine (Tryd.Builder_String_any_k w.heap.size bb (textZ cs) wr HB.out hszr).mono ?_
        rintro e W9 ⟨rfl, _, hb9, _⟩
        have HAN' : Hid ((⟨(textZ cs).toArray⟩ : ByteArray) = ansR) := HAN.out
        go_wp2_with fail
        go_ret
        exact ⟨by rw [← HAN'.out]; rfl, hnx.trans hb9⟩

set_option maxRecDepth 100000 in
theorem index_none (ad : Option Addr) (cap : Nat) (f : Value) (w : World) :
    Calls Tryd.prog 36 #[.slice ad 0 cap, f] w fun e w' => e = .returned (.int .i64 (-1)) ∧ w = w' := by
  go_enter Tryd.func36, Tryd.ntmps36
  go_wp2
  refine wp_loop_rounds 1 ?_
  rw [rounds_succ]
  go_wp2
  go_ret
  exact ⟨rfl, rfl⟩

set_option maxRecDepth 100000 in
theorem contains_none (ad : Option Addr) (cap : Nat) (f : Value) (w : World) :
    Calls Tryd.prog 23 #[.slice ad 0 cap, f] w fun e w' => e = .returned (.bool false) ∧ w = w' := by
  go_enter Tryd.func23, Tryd.ntmps23
  go_wp2_with fail
  refine (index_none _ _ _ _).mono ?_
  rintro e w1 ⟨rfl, rfl⟩
  go_wp2_with fail
  go_ret
  exact ⟨rfl, rfl⟩

set_option maxRecDepth 100000 in
theorem list_none (ad : Option Addr) (cap : Nat) (w : World) :
    Calls Tryd.prog 10 #[.slice ad 0 cap] w fun e w' => e = .returned (.bool true) ∧ w = w' := by
  go_enter Tryd.func10, Tryd.ntmps10
  go_wp2_with fail
  refine (contains_none _ _ _ _).mono ?_
  rintro e w1 ⟨rfl, rfl⟩
  go_wp2_with fail
  go_ret
  exact ⟨rfl, rfl⟩

set_option maxRecDepth 100000 in
theorem implText_none (ad : Option Addr) (cap : Nat) (w : World) : Calls Tryd.prog 5 #[.slice ad 0 cap] w fun e w' => e = .returned (.string (tx [])) ∧ Below w.heap.size w w' := by
  have HNEW := hid (builder_new w.heap.size w (Nat.le_refl _))
  go_enter Tryd.func5, Tryd.ntmps5
  go_wp2_with fail
  refine (list_none _ _ _).mono ?_
  rintro e w1 ⟨rfl, rfl⟩
  go_wp2_with fail
  refine wp_loop_rounds 1 ?_
  rw [rounds_succ]
  go_wp2_with fail
  refine (Tryd.Builder_String_any_k w.heap.size w.heap.size [] _ HNEW.out (by simp)).mono ?_
  rintro e W9 ⟨rfl, _, hb9, _⟩
  go_wp2_with fail
  go_ret
  exact ⟨rfl, ((Below.refl _ _).alloc (Nat.le_refl _) _).trans hb9⟩
end Go.Proofs.YtegjdgiegnofhaaDoor

/- The law of the text of code returns true, wherever the two tables lie as the program lays them. -/
namespace Go.Proofs.YtegjdgiegnofhaaDoor
open Go.RowKit

theorem specText_any {v : Value} {cs : List In} (w : World) (h : InsSlice w v cs) (hm : cs.length ≤ 1048576) :
    Calls Tryd.prog 6 #[v] w fun e w' => e = .returned (.string (tx (ansText cs))) ∧ Below w.heap.size w w' := by
  obtain ⟨ad, cap, rfl, h⟩ := h
  by_cases h0 : cs = []
  · subst h0
    exact specText_none ad cap w
  · obtain ⟨g, o, rfl, hb, hr⟩ := h.resolve_left h0
    exact specText_rows g o cap cs w hb hr hm

theorem implText_any {v : Value} {cs : List In} (w : World) (hL : LaidC w) (h : InsSlice w v cs) :
    Calls Tryd.prog 5 #[v] w fun e w' => e = .returned (.string (tx (ansText cs))) ∧ Below w.heap.size w w' := by
  obtain ⟨ad, cap, rfl, h⟩ := h
  by_cases h0 : cs = []
  · subst h0
    exact implText_none ad cap w
  · obtain ⟨g, o, rfl, hb, hr⟩ := h.resolve_left h0
    exact implText_rows g o cap cs w hL hb hr

end Go.Proofs.YtegjdgiegnofhaaDoor
