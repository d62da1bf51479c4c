/- The specification's parser: a base type; operations, plainly. -/
import Derived.Test.YtkdipppeljpgmaaGreatDoorPzRow
import Derived.Test.YtkdipppeljpgmaaGreatDoorEffWalks
namespace Go.Proofs.YtkdipppeljpgmaaGreatDoor
open Go.RowKit Go.Deep

section
variable {ws : List Wd}

theorem orT {α : Type} {s s1 : Ps} {l : List UInt8} {p q : PS α} (h : seesS ws s l = true) (h1 : s.next = s1) : orS ws l p q s = p s1 := by
  unfold orS
  rw [h, h1]
  rfl

theorem orF {α : Type} {s : Ps} {l : List UInt8} {p q : PS α} (h : seesS ws s l = false) : orS ws l p q s = q s := by
  unfold orS
  rw [h]
  rfl

theorem bindEq {α β : Type} {p : PS α} {k : α → PS β} {s s1 : Ps} {a : α} (h : p s = (a, s1)) : bindS p k s = k a s1 := by
  unfold bindS
  rw [h]

theorem bindTake {β : Type} {l : List UInt8} {k : Unit → PS β} {s s1 : Ps} (h : (takeS ws l s).2 = s1) : bindS (takeS ws l) k s = k () s1 := by
  unfold bindS
  rw [h]

def badS : PS Int := fun s => (0, s.fail)

variable (ws)
def baseS : PS Int := orS ws kInt (pureS 1) (orS ws kBool (pureS 2) (orS ws kUnit (pureS 3) (orS ws kList (pureS 4) badS)))

/-- Operations, so many at most. -/
def effsS : Nat → List Ef → PS (List Ef)
  | 0, es => pureS es
  | f + 1, es => orS ws kEffect (bindS (nameS ws) fun x => bindS (takeS ws gColon) fun _ => bindS (baseS ws) fun a => bindS (takeS ws gGives) fun _ => bindS (baseS ws) fun r => bindS (takeS ws gSemi) fun _ => effsS f (es ++ [⟨x, a, r⟩])) (pureS es)
variable {ws}

theorem base_on {s : Ps} (hs : s.at_ ≤ ws.length) : s.at_ ≤ (baseS ws s).2.at_ ∧ (baseS ws s).2.at_ ≤ ws.length := by
  have one : ∀ (l : List UInt8) (a : Int) (q : PS Int), l ≠ [] → (s.at_ ≤ (q s).2.at_ ∧ (q s).2.at_ ≤ ws.length) → s.at_ ≤ (orS ws l (pureS a) q s).2.at_ ∧ (orS ws l (pureS a) q s).2.at_ ≤ ws.length := fun l a q hl hq => by
    cases hc : seesS ws s l with
    | true =>
      have := sees_lt hl hc
      rw [orT hc rfl]
      exact ⟨Nat.le_succ _, this⟩
    | false =>
      rw [orF hc]
      exact hq
  exact one _ _ _ (by decide) (one _ _ _ (by decide) (one _ _ _ (by decide) (one _ _ _ (by decide) ⟨Nat.le_refl _, hs⟩)))
end

section
variable {d : Dr} {ws : List Wd} {ad : Option Addr} {cp : Nat}

set_option maxHeartbeats 8000000 in
set_option maxRecDepth 100000 in
theorem base_calls (s : Ps) (W : World) (h : PsAt d ws ad cp s W) :
    Calls Tryz.prog 30 #[.pointer (some ⟨d.B, 0, none⟩)] W fun e W' => e = .returned (.int .i64 (baseS ws s).1) ∧ StepP d ws ad cp (baseS ws s).2 W W' := by
  have SP := hid (StepP.start h)
  have G := hid (show s.at_ + 0 ≤ s.at_ ∧ s.at_ ≤ ws.length from ⟨Nat.le_refl _, h.lt⟩)
  clear h
  go_enter Tryz.func30, Tryz.ntmps30
  go_wp2_with fail
  refine (text_calls s W SP.out.1).mono ?_
  rintro e X1 ⟨rfl, hb1⟩
  have SP := hid (SP.out.below hb1)
  obtain ⟨u1, hu1⟩ : ∃ u, txt ws s = u := ⟨_, rfl⟩
  rw [hu1]
  have HU1 := hid hu1
  clear hb1 hu1
  by_cases hkInt1 : (u1.toList == ([105, 110, 116] : List UInt8)) = true
  · have hz2 : seesS ws s kInt = true := by unfold seesS; rw [HU1.out]; exact hkInt1
    have hl2 := sees_lt (by decide) hz2
    have Z2 := hid (And.intro hz2 hl2)
    clear hz2 hl2
    have q1 := cell_of_heap SP.out.1.blk 1
    have z1 := frozen_of_heap SP.out.1.blk 1
    simp at q1
    have HWr := hid SP.out.wrap
    have hn3 := SP.out.next Z2.out.2
    obtain ⟨s3, hs3⟩ : ∃ x, s.next = x := ⟨_, rfl⟩
    have hc3 : s3.at_ = s.at_ + 1 := by rw [← hs3]; rfl
    rw [hs3] at hn3
    have GR3 := hid (grew_set (d := d) X1 1 (.int .i64 ((s.at_ + 1 : Nat) : Int)))
    obtain ⟨X3, hX3⟩ : ∃ Y, X1.setCell ⟨d.B, 1, none⟩ (.int .i64 ((s.at_ + 1 : Nat) : Int)) = Y := ⟨_, rfl⟩
    rw [hX3] at hn3 GR3
    have HX3 := hid hX3
    have G := hid (show s.at_ + 1 ≤ s3.at_ ∧ s3.at_ ≤ ws.length by have h1 := G.out; have h2 := Z2.out.2; omega)
    have SPn := hid hn3
    have Q3 := hid hs3
    clear hn3 hs3 hc3 hX3 GR3
    go_wp2_with fail
    go_ret
    have hE : baseS ws s = (1, s3) := by
      refine (orT Z2.out.1 Q3.out).trans ?_
      rfl
    rw [hE, HWr.out, HX3.out]
    exact ⟨rfl, SPn.out⟩
  have hx1kInt : (u1.toList == ([105, 110, 116] : List UInt8)) = false := by simpa using hkInt1
  clear hkInt1
  have hkInt1 := hx1kInt
  clear hx1kInt
  have hz4 : seesS ws s kInt = false := by unfold seesS; rw [HU1.out]; exact hkInt1
  have Z4 := hid hz4
  clear hz4
  by_cases hkBool1 : (u1.toList == ([98, 111, 111, 108] : List UInt8)) = true
  · have hz5 : seesS ws s kBool = true := by unfold seesS; rw [HU1.out]; exact hkBool1
    have hl5 := sees_lt (by decide) hz5
    have Z5 := hid (And.intro hz5 hl5)
    clear hz5 hl5
    have q1 := cell_of_heap SP.out.1.blk 1
    have z1 := frozen_of_heap SP.out.1.blk 1
    simp at q1
    have HWr := hid SP.out.wrap
    have hn6 := SP.out.next Z5.out.2
    obtain ⟨s6, hs6⟩ : ∃ x, s.next = x := ⟨_, rfl⟩
    have hc6 : s6.at_ = s.at_ + 1 := by rw [← hs6]; rfl
    rw [hs6] at hn6
    have GR6 := hid (grew_set (d := d) X1 1 (.int .i64 ((s.at_ + 1 : Nat) : Int)))
    obtain ⟨X6, hX6⟩ : ∃ Y, X1.setCell ⟨d.B, 1, none⟩ (.int .i64 ((s.at_ + 1 : Nat) : Int)) = Y := ⟨_, rfl⟩
    rw [hX6] at hn6 GR6
    have HX6 := hid hX6
    have G := hid (show s.at_ + 1 ≤ s6.at_ ∧ s6.at_ ≤ ws.length by have h1 := G.out; have h2 := Z5.out.2; omega)
    have SPn := hid hn6
    have Q6 := hid hs6
    clear hn6 hs6 hc6 hX6 GR6
    go_wp2_with fail
    go_ret
    have hE : baseS ws s = (2, s6) := by
      refine (orF Z4.out).trans ?_
      refine (orT Z5.out.1 Q6.out).trans ?_
      rfl
    rw [hE, HWr.out, HX6.out]
    exact ⟨rfl, SPn.out⟩
  have hx1kBool : (u1.toList == ([98, 111, 111, 108] : List UInt8)) = false := by simpa using hkBool1
  clear hkBool1
  have hkBool1 := hx1kBool
  clear hx1kBool
  have hz7 : seesS ws s kBool = false := by unfold seesS; rw [HU1.out]; exact hkBool1
  have Z7 := hid hz7
  clear hz7
  by_cases hkUnit1 : (u1.toList == ([117, 110, 105, 116] : List UInt8)) = true
  · have hz8 : seesS ws s kUnit = true := by unfold seesS; rw [HU1.out]; exact hkUnit1
    have hl8 := sees_lt (by decide) hz8
    have Z8 := hid (And.intro hz8 hl8)
    clear hz8 hl8
    have q1 := cell_of_heap SP.out.1.blk 1
    have z1 := frozen_of_heap SP.out.1.blk 1
    simp at q1
    have HWr := hid SP.out.wrap
    have hn9 := SP.out.next Z8.out.2
    obtain ⟨s9, hs9⟩ : ∃ x, s.next = x := ⟨_, rfl⟩
    have hc9 : s9.at_ = s.at_ + 1 := by rw [← hs9]; rfl
    rw [hs9] at hn9
    have GR9 := hid (grew_set (d := d) X1 1 (.int .i64 ((s.at_ + 1 : Nat) : Int)))
    obtain ⟨X9, hX9⟩ : ∃ Y, X1.setCell ⟨d.B, 1, none⟩ (.int .i64 ((s.at_ + 1 : Nat) : Int)) = Y := ⟨_, rfl⟩
    rw [hX9] at hn9 GR9
    have HX9 := hid hX9
    have G := hid (show s.at_ + 1 ≤ s9.at_ ∧ s9.at_ ≤ ws.length by have h1 := G.out; have h2 := Z8.out.2; omega)
    have SPn := hid hn9
    have Q9 := hid hs9
    clear hn9 hs9 hc9 hX9 GR9
    go_wp2_with fail
    go_ret
    have hE : baseS ws s = (3, s9) := by
      refine (orF Z4.out).trans ?_
      refine (orF Z7.out).trans ?_
      refine (orT Z8.out.1 Q9.out).trans ?_
      rfl
    rw [hE, HWr.out, HX9.out]
    exact ⟨rfl, SPn.out⟩
  have hx1kUnit : (u1.toList == ([117, 110, 105, 116] : List UInt8)) = false := by simpa using hkUnit1
  clear hkUnit1
  have hkUnit1 := hx1kUnit
  clear hx1kUnit
  have hz10 : seesS ws s kUnit = false := by unfold seesS; rw [HU1.out]; exact hkUnit1
  have Z10 := hid hz10
  clear hz10
  by_cases hkList1 : (u1.toList == ([108, 105, 115, 116] : List UInt8)) = true
  · have hz11 : seesS ws s kList = true := by unfold seesS; rw [HU1.out]; exact hkList1
    have hl11 := sees_lt (by decide) hz11
    have Z11 := hid (And.intro hz11 hl11)
    clear hz11 hl11
    have q1 := cell_of_heap SP.out.1.blk 1
    have z1 := frozen_of_heap SP.out.1.blk 1
    simp at q1
    have HWr := hid SP.out.wrap
    have hn12 := SP.out.next Z11.out.2
    obtain ⟨s12, hs12⟩ : ∃ x, s.next = x := ⟨_, rfl⟩
    have hc12 : s12.at_ = s.at_ + 1 := by rw [← hs12]; rfl
    rw [hs12] at hn12
    have GR12 := hid (grew_set (d := d) X1 1 (.int .i64 ((s.at_ + 1 : Nat) : Int)))
    obtain ⟨X12, hX12⟩ : ∃ Y, X1.setCell ⟨d.B, 1, none⟩ (.int .i64 ((s.at_ + 1 : Nat) : Int)) = Y := ⟨_, rfl⟩
    rw [hX12] at hn12 GR12
    have HX12 := hid hX12
    have G := hid (show s.at_ + 1 ≤ s12.at_ ∧ s12.at_ ≤ ws.length by have h1 := G.out; have h2 := Z11.out.2; omega)
    have SPn := hid hn12
    have Q12 := hid hs12
    clear hn12 hs12 hc12 hX12 GR12
    go_wp2_with fail
    go_ret
    have hE : baseS ws s = (4, s12) := by
      refine (orF Z4.out).trans ?_
      refine (orF Z7.out).trans ?_
      refine (orF Z10.out).trans ?_
      refine (orT Z11.out.1 Q12.out).trans ?_
      rfl
    rw [hE, HWr.out, HX12.out]
    exact ⟨rfl, SPn.out⟩
  have hx1kList : (u1.toList == ([108, 105, 115, 116] : List UInt8)) = false := by simpa using hkList1
  clear hkList1
  have hkList1 := hx1kList
  clear hx1kList
  have hz13 : seesS ws s kList = false := by unfold seesS; rw [HU1.out]; exact hkList1
  have Z13 := hid hz13
  clear hz13
  have q2 := cell_of_heap SP.out.1.blk 2
  have z2 := frozen_of_heap SP.out.1.blk 2
  simp at q2
  go_wp2_with fail
  go_ret
  have hE : baseS ws s = (0, s.fail) := by
    refine (orF Z4.out).trans ?_
    refine (orF Z7.out).trans ?_
    refine (orF Z10.out).trans ?_
    refine (orF Z13.out).trans ?_
    rfl
  rw [hE]
  exact ⟨rfl, SP.out.1.fails, SP.out.2.trans (grew_set X1 2 _)⟩

end
end Go.Proofs.YtkdipppeljpgmaaGreatDoor
