/- The program's text of a report is the plain one. -/
import Derived.Test.YtnoejhfpplddfaaDoorSpecDrive
import Derived.Test.YtnoejhfpplddfaaDoorBuilderOwn
import Derived.Lib.SmallJoins
namespace Go.Proofs.YtnoejhfpplddfaaDoor
open Go.RowKit

/-- The table of powers lies as the program lays it. -/
structure Laid (w : World) : Prop where
  pows : Lib.TabIs Tryd.prog w "internal/strconv.uint64pow10" .u64 Lib.pow10Tab

theorem gPows : Tryd.prog.globalNamed "internal/strconv.uint64pow10" = some 0 := by kernel_rfl

theorem Laid.stays {w w' : World} (h : Laid w) (hb : Below w.heap.size w w') : Laid w' :=
  ⟨Joins.var_stays gPows h.pows hb (Nat.le_refl _)⟩

theorem grow_below (w : World) (k : Nat) (os : Array Obj) : Below w.heap.size w (Go.Sort.grow (w.drewN k) os) :=
  ⟨rfl, rfl, rfl, by rw [Go.Sort.size_grow]; exact Nat.le_add_right _ _, fun j hj => by rw [Go.Sort.heap_grow_old (w.drewN k) os hj]; rfl⟩

theorem itoa_any (n : Int) (w : World) (hn : Long n) (hL : Laid w) :
    Calls Tryd.prog 14 #[.int .i64 n] w fun e w' => e = .returned (.string (tx (Lib.itoa n))) ∧ Below w.heap.size w w' := by
  unfold Long at hn
  refine (Tryd.strconv_Itoa n hn.1 hn.2 w hL.pows).mono ?_
  rintro e w' ⟨rfl, k, os, rfl⟩
  exact ⟨rfl, grow_below w k os⟩

theorem builder_kept {T e : TypeId} {B b : Nat} {bs : List Value} {w w' : World} (h : Lib.IsBuilderF T e B b bs w) (hb : Below w.heap.size w w') : Lib.IsBuilderF T e B b bs w' := by
  have one : ∀ p, Lib.BuilderAtF T e B b p bs w → Lib.BuilderAtF T e B b p bs w' := by
    rintro p ⟨hB, v, hbk, hown, hne⟩
    exact ⟨hB, v, (hb.block b (heap_lt hbk)).trans hbk, hown.kept (kept_of_below hb none) (by cases hv : v.ownBlock <;> simp), hne⟩
  exact h.imp (one _) (one _)

theorem builder_new (B : Nat) (w : World) (hB : B ≤ w.heap.size) : Lib.IsBuilderF 49 5 B w.heap.size [] (w.alloc (.cells #[.pointer none, .slice none 0 0] 49)) :=
  Or.inl ⟨hB, _, (MapKept.heap_alloc w _).1, World.ownsRowF_nil _ _ _ _, by simp [Value.ownBlock]⟩

theorem put_calls (B bb : Nat) (l m : List UInt8) (w : World) (h : Lib.IsBuilderF 49 5 B bb (Lib.byteCells l) w) (hl : l.length + m.length ≤ 1000000) (hB : B ≤ w.heap.size) :
    Calls Tryd.prog 15 #[.pointer (some ⟨bb, 0, none⟩), .string (tx m)] w fun e w' => e = .returned (.tuple #[.int .i64 m.length, .nilIface]) ∧ Lib.IsBuilderF 49 5 B bb (Lib.byteCells (l ++ m)) w' ∧ Below B w w' := by
  refine (writeString_calls B bb (Lib.byteCells l) (tx m) w h (by rw [Lib.byteCells_length, tx_size]; exact hl) hB).mono ?_
  rintro e w' ⟨rfl, h1, h2, h3⟩
  refine ⟨by rw [tx_size], ?_, h2⟩
  rw [Lib.byteCells_append]
  exact h1

/-- Worlds in which a builder holds these bytes, and what lay below B is as it was. -/
structure BLater (B bb : Nat) (l : List UInt8) (W : World) where
  w : World
  h : Below B W w
  hb : Lib.IsBuilderF 49 5 B bb (Lib.byteCells l) w

set_option maxHeartbeats 2000000 in
set_option maxRecDepth 100000 in
theorem iDrive_fault {v : Value} {bs : List Int} (r : RpN) (w : World) (hL : Laid w) (hv : IntSlice w v bs) (h1 : Long r.fc) (h2 : Long r.fa) (hfc : r.fc ≠ 0) :
    Calls Tryd.prog 7 #[repV v r] w fun e w' => e = .returned (.string (tx (driveZ r bs))) ∧ Below w.heap.size w w' := by
  obtain ⟨R, hR⟩ : ∃ R, tx (driveZ r bs) = R := ⟨_, rfl⟩
  have HR : Hid (R = tx [102, 97, 117, 108, 116, 32] ++ tx (Lib.itoa r.fc) ++ tx [32, 97, 116, 32] ++ tx (Lib.itoa r.fa)) := by
    show _ = _
    rw [← hR, driveZ, if_pos hfc, tx_append, tx_append, tx_append]
    simp
  rw [hR]
  clear hR
  obtain ⟨ad, cap, rfl, _⟩ := hv
  obtain ⟨fc, fa, ty, cd, ins, en, va, st, fl, to⟩ := r
  unfold repV
  dsimp only at *
  obtain ⟨D1, hD1⟩ : ∃ D1, tx (Lib.itoa fc) = D1 := ⟨_, rfl⟩
  obtain ⟨D2, hD2⟩ : ∃ D2, tx (Lib.itoa fa) = D2 := ⟨_, rfl⟩
  have s1 : D1.size ≤ 21 := by rw [← hD1, tx_size]; exact itoa_long h1
  have s2 : D2.size ≤ 21 := by rw [← hD2, tx_size]; exact itoa_long h2
  have HD : Hid (∀ (n : Int) (D : ByteArray) (X : World), Laid X → (n = fc ∧ D = D1) ∨ (n = fa ∧ D = D2) → Calls Tryd.prog 14 #[.int .i64 n] X fun e w' => e = .returned (.string D) ∧ Below X.heap.size X w') := fun n D X hX h => by
    rcases h with ⟨rfl, rfl⟩ | ⟨rfl, rfl⟩
    · rw [← hD1]
      exact itoa_any _ X h1 hX
    · rw [← hD2]
      exact itoa_any _ X h2 hX
  rw [hD1, hD2] at HR
  have hc1 : ¬ 9223372036854775807 < 6 + D1.size := by omega
  have hc2 : ¬ 9223372036854775807 < 6 + D1.size + 4 := by omega
  have hc3 : ¬ 9223372036854775807 < 6 + D1.size + 4 + D2.size := by omega
  have hne : (fc != 0) = true := by simpa using hfc
  clear hD1 hD2 s1 s2 h1 h2
  have hK := (Below.refl w.heap.size w).alloc (Nat.le_refl _) (.cells #[.int .i64 fc, .int .i64 fa, .string ty, .int .i64 cd, .int .i64 ins, .int .i64 en, .slice ad bs.length cap, .string va, .int .i64 st, .int .i64 fl, .int .i64 to] 37)
  have hB := (MapKept.heap_alloc w (.cells #[.int .i64 fc, .int .i64 fa, .string ty, .int .i64 cd, .int .i64 ins, .int .i64 en, .slice ad bs.length cap, .string va, .int .i64 st, .int .i64 fl, .int .i64 to] 37)).1
  have HK := hid hK
  have HB := hid hB
  have HLa := hid (hL.stays hK)
  clear hK hB hL
  go_enter Tryd.func7, Tryd.ntmps7
  go_wp2_with fail
  generalize w.alloc (.cells #[.int .i64 fc, .int .i64 fa, .string ty, .int .i64 cd, .int .i64 ins, .int .i64 en, .slice ad bs.length cap, .string va, .int .i64 st, .int .i64 fl, .int .i64 to] 37) = W0 at *
  have c0 : ∀ y : Later W0.heap.size W0, y.w.cell? ⟨w.heap.size, 0, none⟩ = some (.int .i64 fc) := fun y => y.cell (heap_lt HB.out) (by rw [cell_of_heap HB.out]; rfl)
  have c1 : ∀ y : Later W0.heap.size W0, y.w.cell? ⟨w.heap.size, 1, none⟩ = some (.int .i64 fa) := fun y => y.cell (heap_lt HB.out) (by rw [cell_of_heap HB.out]; rfl)
  refine wp_region_calm W0.heap.size (by kernel_rfl) (by kernel_rfl) ?_
  repeat (go_big_quiet_step (first | (rename_i y; go_at_call 14; refine (HD.out _ _ _ (HLa.out.stays y.h) (by first | exact Or.inl ⟨rfl, rfl⟩ | exact Or.inr ⟨rfl, rfl⟩)).mono ?_; rintro e w5 ⟨rfl, hb5⟩; exact ⟨rfl, ⟨w5, y.h.trans (hb5.mono y.h.size)⟩, rfl⟩)))
  refine wpQuiet_nil ?_
  rintro w6 ⟨y, rfl⟩
  have HB6 := hid (HK.out.trans (y.h.mono HK.out.size))
  generalize y.w = W2 at *
  go_wp2_with fail
  go_ret
  exact ⟨by rw [HR.out]; rfl, HB6.out⟩

set_option maxHeartbeats 2000000 in
set_option maxRecDepth 100000 in
theorem iDrive_type {v : Value} {bs : List Int} (r : RpN) (w : World) (hL : Laid w) (hv : IntSlice w v bs) (h1 : Long r.cd) (hfc : r.fc = 0) (hcd : r.cd ≠ 0) :
    Calls Tryd.prog 7 #[repV v r] w fun e w' => e = .returned (.string (tx (driveZ r bs))) ∧ Below w.heap.size w w' := by
  obtain ⟨R, hR⟩ : ∃ R, tx (driveZ r bs) = R := ⟨_, rfl⟩
  have HR : Hid (R = tx [116, 121, 112, 101, 32] ++ tx (Lib.itoa r.cd)) := by
    show _ = _
    rw [← hR, driveZ, if_neg (by simpa using hfc), if_pos hcd, tx_append]
  rw [hR]
  clear hR
  obtain ⟨ad, cap, rfl, _⟩ := hv
  obtain ⟨fc, fa, ty, cd, ins, en, va, st, fl, to⟩ := r
  unfold repV
  dsimp only at *
  subst hfc
  obtain ⟨D1, hD1⟩ : ∃ D1, tx (Lib.itoa cd) = D1 := ⟨_, rfl⟩
  have s1 : D1.size ≤ 21 := by rw [← hD1, tx_size]; exact itoa_long h1
  have HD := hid (fun X hX => itoa_any cd X h1 hX)
  have HLa := hid hL
  rw [hD1] at HR HD
  have hc1 : ¬ 9223372036854775807 < 5 + D1.size := by omega
  have hne : (cd != 0) = true := by simpa using hcd
  clear hD1 s1 h1 hL
  go_enter Tryd.func7, Tryd.ntmps7
  go_wp2_with fail
  refine (HD.out _ (HLa.out.stays ((Below.refl w.heap.size w).alloc (Nat.le_refl _) _))).mono ?_
  rintro e W1 ⟨rfl, hb1⟩
  have HB := hid (((Below.refl w.heap.size w).alloc (Nat.le_refl _) _).trans (hb1.mono (by simp)))
  clear hb1 HD
  go_wp2_with fail
  go_ret
  exact ⟨by rw [HR.out]; rfl, HB.out⟩

set_option maxHeartbeats 4000000 in
set_option maxRecDepth 100000 in
theorem iDrive_run {g len cap : Nat} {bs : List Int} (r : RpN) (w : World) (hL : Laid w) (hlen : bs.length = len) (hcap : len ≤ cap) (hcell : ∀ k, k < len → g < w.heap.size ∧ w.cell? ⟨g, k, none⟩ = some (.int .i64 (bs.getD k 0))) (hm : len ≤ 1048576) (hl : ∀ n ∈ bs, Long n) (hen : Long r.en) (hty : r.ty.size ≤ 1048576) (hva : r.va.size ≤ 1048576) (hfc : r.fc = 0) (hcd : r.cd = 0) :
    Calls Tryd.prog 7 #[repV (.slice (some ⟨g, 0, none⟩) len cap) r] w fun e w' => e = .returned (.string (tx (driveZ r bs))) ∧ Below w.heap.size w w' := by
  obtain ⟨R, hR⟩ : ∃ R, tx (driveZ r bs) = R := ⟨_, rfl⟩
  have HR : Hid (R = r.ty ++ tx [32, 124] ++ tx (numsText (bs.take 200)) ++ tx [32, 124, 32] ++ tx (endB r)) := by
    show _ = _
    rw [← hR, driveZ, if_neg (by simpa using hfc), if_neg (by simpa using hcd), ← tx_of r.ty, tx_append, tx_append, tx_append, tx_append, tx_of]
    simp
  rw [hR]
  clear hR
  obtain ⟨fc, fa, ty, cd, ins, en, va, st, fl, to⟩ := r
  unfold repV
  dsimp only at *
  subst hfc hcd
  have HLn := hid hl
  have HM := hid hm
  have HTy := hid hty
  have HVa := hid hva
  have HCl := hid hcell
  have HLen := hid hlen
  have HDe := hid (fun X hX => itoa_any en X hen hX)
  have HEl := hid (itoa_long hen)
  have hK := (Below.refl w.heap.size w).alloc (Nat.le_refl _) (.cells #[.int .i64 0, .int .i64 fa, .string ty, .int .i64 0, .int .i64 ins, .int .i64 en, .slice (some ⟨g, 0, none⟩) len cap, .string va, .int .i64 st, .int .i64 fl, .int .i64 to] 37)
  have hB := (MapKept.heap_alloc w (.cells #[.int .i64 0, .int .i64 fa, .string ty, .int .i64 0, .int .i64 ins, .int .i64 en, .slice (some ⟨g, 0, none⟩) len cap, .string va, .int .i64 st, .int .i64 fl, .int .i64 to] 37)).1
  have HK := hid hK
  have HB := hid hB
  have HLa := hid (hL.stays hK)
  obtain ⟨mn, hmn⟩ : ∃ mn : Nat, (mn = len ∧ len ≤ 200) ∨ (mn = 200 ∧ 200 < len) := by
    by_cases h : len ≤ 200
    · exact ⟨len, Or.inl ⟨rfl, h⟩⟩
    · exact ⟨200, Or.inr ⟨rfl, by omega⟩⟩
  have HMn : Hid (mn ≤ len ∧ mn ≤ 200 ∧ bs.take mn = bs.take 200) := by
    refine ⟨by omega, by omega, ?_⟩
    rcases hmn with ⟨h1, h2⟩ | ⟨h1, h2⟩
    · rw [h1, List.take_of_length_le (by omega), List.take_of_length_le (by omega)]
    · rw [h1]
  have HNl : Hid (∀ k, k ≤ 200 → (numsText (bs.take k)).length ≤ 4400) := fun k hk => by
    have h := numsText_len (bs.take k) (fun n hn => hl n (List.mem_of_mem_take hn))
    have h2 : (bs.take k).length ≤ k := by simp; omega
    omega
  clear hK hB hl hm hty hva hen hL hcell
  go_enter Tryd.func7, Tryd.ntmps7
  obtain ⟨mi, hmi⟩ : ∃ mi : Int, min (len : Int) 200 = mi := ⟨_, rfl⟩
  have htn : mi.toNat = mn := by omega
  have hmx : max mi 0 = mi := by omega
  have hm0 : 0 ≤ mi := by omega
  have hmc : mi ≤ (cap : Int) := by omega
  have hml : mi ≤ (len : Int) := by omega
  have HMi : Hid (mi = (mn : Int)) := by show _ = _; omega
  clear hmn
  go_wp2_with fail
  have hsz : (w.alloc (.cells #[.int .i64 0, .int .i64 fa, .string ty, .int .i64 0, .int .i64 ins, .int .i64 en, .slice (some ⟨g, 0, none⟩) len cap, .string va, .int .i64 st, .int .i64 fl, .int .i64 to] 37)).heap.size = w.heap.size + 1 := by simp
  generalize w.alloc (.cells #[.int .i64 0, .int .i64 fa, .string ty, .int .i64 0, .int .i64 ins, .int .i64 en, .slice (some ⟨g, 0, none⟩) len cap, .string va, .int .i64 st, .int .i64 fl, .int .i64 to] 37) = W0 at *
  have HNEW := hid (builder_new W0.heap.size W0 (Nat.le_refl _))
  have hnx := hid ((Below.refl W0.heap.size W0).alloc (Nat.le_refl _) (.cells #[.pointer none, .slice none 0 0] 49))
  generalize W0.alloc (.cells #[.pointer none, .slice none 0 0] 49) = W1 at *
  rw [hsz] at HNEW
  have HSz := hid hsz
  clear hcap hlen hsz
  go_loopw [41] (fun i wr => ∃ (ii : Int) (k : Nat), i = .int .i64 ii ∧ Hid (ii = (k : Int) ∧ k ≤ mn) ∧ Hid (Lib.IsBuilderF 49 5 (w.heap.size + 1) (w.heap.size + 1) (Lib.byteCells (numsText (bs.take k))) wr) ∧ Hid (Below W0.heap.size W0 wr)) (fun i _ => mn - (intOf i).toNat)
  case atStart => exact ⟨0, 0, rfl, ⟨rfl, by omega⟩, by have e := HNEW.out; simpa [numsText, Lib.byteCells, Hid] using e, hnx.out⟩
  case round =>
    obtain ⟨ii, k, rfl, HQ, HBd, HX⟩ := hrel
    clear HNEW hnx
    have hi0 : 0 ≤ ii := by have := HQ.out; omega
    have HKr := hid (HK.out.trans (HX.out.mono HK.out.size))
    by_cases hlt : ii < mi
    · have hik : ii.toNat = k := by have := HQ.out; omega
      have hkl : k < len := by have := HQ.out; have := HMn.out; have := HMi.out; omega
      have hkb : k < bs.length := by have := HLen.out; omega
      have q0 := (HKr.out.cell (p := ⟨g, k, none⟩) (HCl.out k hkl).1).trans (HCl.out k hkl).2
      have hxl : Long (bs.getD k 0) := HLn.out _ (by simp [List.getD, hkb])
      have HDk := hid (fun X hX => itoa_any (bs.getD k 0) X hxl hX)
      have HIl := hid (itoa_long hxl)
      have HNx := hid (numsText_next bs hkb)
      have HNk := hid (HNl.out k (by have := HQ.out; have := HMn.out; omega))
      clear hxl
      obtain ⟨x, hx⟩ : ∃ x, bs.getD k 0 = x := ⟨_, rfl⟩
      rw [hx] at HDk HIl HNx q0
      clear hx
      obtain ⟨D, hD⟩ : ∃ D, tx (Lib.itoa x) = D := ⟨_, rfl⟩
      have HAP : Hid ((⟨#[32]⟩ : ByteArray) ++ D = tx (32 :: Lib.itoa x)) := by show _ = _; rw [← hD]; exact bytes_append [32] _
      rw [hD] at HDk
      have hcat : ¬ 9223372036854775807 < 1 + D.size := by rw [← hD, tx_size]; have := HIl.out; omega
      clear hD
      have hs : Hid (mn - (intOf (.int .i64 (ii + 1))).toNat < mn - (intOf (.int .i64 ii)).toNat) := by show _ < _; have := HMi.out; simp only [intOf]; omega
      have hw : Hid (wrap64 (ii + 1) = ii + 1) := by show _ = _; have := HQ.out; have := HMn.out; unfold wrap64; omega
      go_wp2_with fail
      refine (HDk.out _ (HLa.out.stays HX.out)).mono ?_
      rintro e W3 ⟨rfl, hb3⟩
      have HBd3 := hid (builder_kept HBd.out hb3)
      have HX3 := hid (HX.out.trans (hb3.mono HX.out.size))
      clear hb3 HDk q0 HBd HX HKr
      go_wp2_with fail
      rw [HAP.out]
      refine (put_calls (w.heap.size + 1) (w.heap.size + 1) _ (32 :: Lib.itoa x) W3 HBd3.out (by have := HNk.out; have := HIl.out; simp only [List.length_cons]; omega) (by have := HX3.out.size; have := HSz.out; omega)).mono ?_
      rintro e W4 ⟨rfl, hb4, hn4⟩
      have HBd4 : Hid (Lib.IsBuilderF 49 5 (w.heap.size + 1) (w.heap.size + 1) (Lib.byteCells (numsText (bs.take (k + 1)))) W4) := by
        rw [HNx.out]
        exact hb4
      have HX4 := hid (HX3.out.trans (HSz.out ▸ hn4))
      clear hb4 hn4 HX3 HBd3 HNx HAP hcat
      go_wp2_with fail
      try rw [hw.out]
      exact ⟨⟨ii + 1, k + 1, rfl, ⟨by have := HQ.out; push_cast; omega, by have := HMi.out; have := HQ.out; omega⟩, HBd4.out, HX4.out⟩, hs.out⟩
    · have hkn : k = mn := by have := HQ.out; have := HMi.out; omega
      have HBe : Hid (Lib.IsBuilderF 49 5 (w.heap.size + 1) (w.heap.size + 1) (Lib.byteCells (numsText (bs.take 200))) wr) := by
        have e := HBd.out
        rw [hkn, HMn.out.2.2] at e
        exact e
      rename World => Wr
      have eB := (HX.out.block w.heap.size (heap_lt HB.out)).trans HB.out
      have a2 := cell_of_heap eB 2
      have a5 := cell_of_heap eB 5
      have a7 := cell_of_heap eB 7
      simp at a2 a5 a7
      have HBr := hid eB
      have HNk := hid (HNl.out 200 (by omega))
      obtain ⟨N, hN⟩ : ∃ N, numsText (bs.take 200) = N := ⟨_, rfl⟩
      rw [hN] at HBe HR HNk
      clear hN eB HBd hkn
      obtain ⟨D, hD⟩ : ∃ D, tx (Lib.itoa en) = D := ⟨_, rfl⟩
      have sD : D.size ≤ 21 := by rw [← hD, tx_size]; exact HEl.out
      have hcat : ¬ 9223372036854775807 < 4 + D.size := by omega
      have HDe' := HDe
      rw [hD] at HDe'
      have HsD := hid sD
      have HhD := hid hD
      clear sD hD HDe
      go_wp2_with fail
      refine (HDe'.out _ (HLa.out.stays HX.out)).mono ?_
      rintro e W3 ⟨rfl, hb3⟩
      have HB3 := hid (builder_kept HBe.out hb3)
      have HX3 := hid (HX.out.trans (hb3.mono HX.out.size))
      have HK3 := hid (HKr.out.trans (hb3.mono HKr.out.size))
      have eB := (hb3.block w.heap.size (heap_lt HBr.out)).trans HBr.out
      have HBr3 := hid eB
      have b5 := cell_of_heap eB 5
      have b7 := cell_of_heap eB 7
      simp at b5 b7
      clear eB hb3 HDe' a2 a5 a7 HBe HX HKr HBr
      have hend : ∃ E : ByteArray, E.size ≤ 1048601 ∧ tx (endB ⟨0, fa, ty, 0, ins, en, va, st, fl, to⟩) = E ∧ (en = 0 → E = va) ∧ (en ≠ 0 → E = ⟨#[101, 110, 100, 32]⟩ ++ D) := by
        refine ⟨_, ?_, rfl, fun h => ?_, fun h => ?_⟩
        · rw [tx_size]
          unfold endB
          dsimp only
          split
          · rw [bytesOf_len]
            have := HVa.out
            omega
          · have := HEl.out
            simp only [List.length_append, List.length_cons, List.length_nil]
            omega
        · unfold endB
          dsimp only
          rw [if_pos h, tx_of]
        · unfold endB
          dsimp only
          rw [if_neg h, ← HhD.out, ← tx_append]
          rfl
      obtain ⟨E, sE, hE, hE0, hE1⟩ := hend
      rw [hE] at HR
      have HSt : Hid (∀ X, Lib.IsBuilderF 49 5 (w.heap.size + 1) (w.heap.size + 1) (Lib.byteCells N) X → Calls Tryd.prog 16 #[.pointer (some ⟨w.heap.size + 1, 0, none⟩)] X fun e w' => e = .returned (.string (tx N)) ∧ Lib.IsBuilderF 49 5 (w.heap.size + 1) (w.heap.size + 1) (Lib.byteCells N) w' ∧ Below (w.heap.size + 1) X w') := fun X hX => by
        have hsz : w.heap.size + 1 ≤ X.heap.size := by
          rcases hX with h | h
          · exact Nat.le_of_lt h.lt
          · exact Nat.le_of_lt h.lt
        exact (Tryd.Builder_String_any_f (w.heap.size + 1) (w.heap.size + 1) N X hX hsz)
      have sT := HTy.out
      have sN : (tx N).size ≤ 4400 := by rw [tx_size]; exact HNk.out
      have d1 : ¬ 9223372036854775807 < ty.size + 2 := by omega
      have d2 : ¬ 9223372036854775807 < ty.size + 2 + (tx N).size := by omega
      have d3 : ¬ 9223372036854775807 < ty.size + 2 + (tx N).size + 3 := by omega
      have d4 : ¬ 9223372036854775807 < ty.size + 2 + (tx N).size + 3 + E.size := by omega
      clear sT sN sE hE
      generalize tx N = S at *
      have hcE : (en = 0 ∧ E = va) ∨ ((en == 0) = false ∧ ¬ en = 0 ∧ E = ⟨#[101, 110, 100, 32]⟩ ++ D) := by
        by_cases h : en = 0
        · exact Or.inl ⟨h, hE0 h⟩
        · exact Or.inr ⟨by simpa using h, h, hE1 h⟩
      clear hE0 hE1
      have v2 : ∀ y : BLater (w.heap.size + 1) (w.heap.size + 1) N W3, y.w.cell? ⟨w.heap.size, 2, none⟩ = some (.string ty) := fun y => (y.h.cell (p := ⟨w.heap.size, 2, none⟩) (show w.heap.size < w.heap.size + 1 by omega)).trans (by rw [cell_of_heap HBr3.out]; rfl)
      haveI : Nonempty (BLater (w.heap.size + 1) (w.heap.size + 1) N W3) := ⟨⟨W3, Below.refl _ _, HB3.out⟩⟩
      rcases hcE with ⟨h0, hE⟩ | ⟨h0, h00, hE⟩
      · subst h0
        subst hE
        go_wp2_with fail
        refine wp_region_quiet (C := fun w' => ∃ x : BLater (w.heap.size + 1) (w.heap.size + 1) N W3, w' = x.w) (by kernel_rfl) (by kernel_rfl) ⟨⟨W3.drew, (Below.refl _ _).drew, builder_kept HB3.out (Below.refl _ _).drew⟩, rfl⟩ ?_
        simp only []
        repeat (go_big_quiet_step (first | (rename_i y; go_at_call 16; refine (HSt.out _ y.hb).mono ?_; rintro e w5 ⟨rfl, hb5, hn5⟩; exact ⟨rfl, ⟨w5, y.h.trans hn5, hb5⟩, rfl⟩)))
        refine wpQuiet_nil ?_
        rintro w6 ⟨y, rfl⟩
        have HB6 := hid (HK3.out.trans (y.h.mono (Nat.le_succ _)))
        generalize y.w = W5 at *
        go_wp2_with fail
        go_ret
        exact ⟨by rw [HR.out]; rfl, HB6.out⟩
      · go_wp2_with fail
        rw [← hE]
        clear hE hcat
        refine wp_region_quiet (C := fun w' => ∃ x : BLater (w.heap.size + 1) (w.heap.size + 1) N W3, w' = x.w) (by kernel_rfl) (by kernel_rfl) ⟨⟨W3.drew, (Below.refl _ _).drew, builder_kept HB3.out (Below.refl _ _).drew⟩, rfl⟩ ?_
        simp only []
        repeat (go_big_quiet_step (first | (rename_i y; go_at_call 16; refine (HSt.out _ y.hb).mono ?_; rintro e w5 ⟨rfl, hb5, hn5⟩; exact ⟨rfl, ⟨w5, y.h.trans hn5, hb5⟩, rfl⟩)))
        refine wpQuiet_nil ?_
        rintro w6 ⟨y, rfl⟩
        have HB6 := hid (HK3.out.trans (y.h.mono (Nat.le_succ _)))
        generalize y.w = W5 at *
        go_wp2_with fail
        go_ret
        exact ⟨by rw [HR.out]; rfl, HB6.out⟩
end Go.Proofs.YtnoejhfpplddfaaDoor
