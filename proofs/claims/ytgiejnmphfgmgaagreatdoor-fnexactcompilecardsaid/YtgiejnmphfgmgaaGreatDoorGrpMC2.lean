/- The program's maker of code: forms whose kids come first and one instruction behind. -/
import Derived.Test.YtgiejnmphfgmgaaGreatDoorGrpMC1
import Derived.Test.YtgiejnmphfgmgaaGreatDoorNodeOf
import Derived.IntWalk
import Derived.Test.YtgiejnmphfgmgaaGreatDoorEffIn
import Derived.Test.YtgiejnmphfgmgaaGreatDoorNameWalks
import Derived.Test.YtgiejnmphfgmgaaGreatDoorKept
import Derived.Test.YtgiejnmphfgmgaaGreatDoorCalm
namespace Go.Proofs.YtgiejnmphfgmgaaGreatDoor
open Go.RowKit Go.Deep

def TRow (w' : World) (sv : Value) (us : List Value) : Prop := (us = [] ∧ ∃ a c, sv = .slice a 0 c) ∨ ∃ g, sv = .slice (some ⟨g, 0, none⟩) us.length us.length ∧ w'.heap[g]? = some (.cells us.toArray 64)

def KidsPostT (us : List Value) (w : World) (e : Ending) (w' : World) : Prop := ∃ sv, e = .returned sv ∧ TRow w' sv us ∧ Below w.heap.size w w'

theorem row_newT (w : World) (o1 : Obj) (us : List Value) : TRow ((w.alloc o1).alloc (.cells us.toArray 64)) (.slice (some ⟨w.heap.size + 1, 0, none⟩) us.length us.length) us := by
  have e := (MapKept.heap_alloc (w.alloc o1) (.cells us.toArray 64)).1
  have hs : (w.alloc o1).heap.size = w.heap.size + 1 := by simp
  rw [hs] at e
  exact Or.inr ⟨_, rfl, e⟩

set_option maxRecDepth 100000 in
theorem kidsT_leaf (w : World) : Calls Tryz.prog 164 #[.agg #[]] w (KidsPostT [] w) := by
  go_enter Tryz.func164, Tryz.ntmps164
  go_wp2_with fail
  go_ret
  exact ⟨_, rfl, Or.inl ⟨rfl, none, 0, rfl⟩, (Below.refl _ _).alloc (Nat.le_refl _) _⟩

set_option maxRecDepth 100000 in
theorem kidsT_app (T0 T1 : TypeId) (p0 p1 : Value) (w : World) : Calls Tryz.prog 202 #[.agg #[.iface T0 p0, .iface T1 p1]] w (KidsPostT [.iface T0 p0, .iface T1 p1] w) := by
  go_enter Tryz.func202, Tryz.ntmps202
  go_wp2_with fail
  go_ret
  exact ⟨_, rfl, row_newT w _ [.iface T0 p0, .iface T1 p1], below_two w _ _⟩

set_option maxRecDepth 100000 in
theorem kidsT_sign (k : Int) (T0 T1 : TypeId) (p0 p1 : Value) (w : World) : Calls Tryz.prog 222 #[.agg #[.int .i64 k, .iface T0 p0, .iface T1 p1]] w (KidsPostT [.iface T0 p0, .iface T1 p1] w) := by
  go_enter Tryz.func222, Tryz.ntmps222
  go_wp2_with fail
  go_ret
  exact ⟨_, rfl, row_newT w _ [.iface T0 p0, .iface T1 p1], below_two w _ _⟩

set_option maxRecDepth 100000 in
theorem kidsT_pair (T0 T1 : TypeId) (p0 p1 : Value) (w : World) : Calls Tryz.prog 206 #[.agg #[.iface T0 p0, .iface T1 p1]] w (KidsPostT [.iface T0 p0, .iface T1 p1] w) := by
  go_enter Tryz.func206, Tryz.ntmps206
  go_wp2_with fail
  go_ret
  exact ⟨_, rfl, row_newT w _ [.iface T0 p0, .iface T1 p1], below_two w _ _⟩

set_option maxRecDepth 100000 in
theorem kidsT_take (k : Int) (T0 : TypeId) (p0 : Value) (w : World) : Calls Tryz.prog 210 #[.agg #[.int .i64 k, .iface T0 p0]] w (KidsPostT [.iface T0 p0] w) := by
  go_enter Tryz.func210, Tryz.ntmps210
  go_wp2_with fail
  go_ret
  exact ⟨_, rfl, row_newT w _ [.iface T0 p0], below_two w _ _⟩

set_option maxRecDepth 100000 in
theorem kidsT_cons (T0 T1 : TypeId) (p0 p1 : Value) (w : World) : Calls Tryz.prog 214 #[.agg #[.iface T0 p0, .iface T1 p1]] w (KidsPostT [.iface T0 p0, .iface T1 p1] w) := by
  go_enter Tryz.func214, Tryz.ntmps214
  go_wp2_with fail
  go_ret
  exact ⟨_, rfl, row_newT w _ [.iface T0 p0, .iface T1 p1], below_two w _ _⟩

set_option maxRecDepth 100000 in
theorem kidsT_perform (a : ByteArray) (T0 : TypeId) (p0 : Value) (w : World) : Calls Tryz.prog 218 #[.agg #[.string a, .iface T0 p0]] w (KidsPostT [.iface T0 p0] w) := by
  go_enter Tryz.func218, Tryz.ntmps218
  go_wp2_with fail
  go_ret
  exact ⟨_, rfl, row_newT w _ [.iface T0 p0], below_two w _ _⟩

/-- A form whose kids come first. -/
def PlainV (n : Nd) (us : List Value) (v : Value) : Prop := ∃ T pv, v = .iface T pv ∧ (T ≠ 101 ∧ T ≠ 107 ∧ T ≠ 113 ∧ T ≠ 115 ∧ T ≠ 117 ∧ T ≠ 120 ∧ T ≠ 124) ∧
  (∃ g rv, (∀ w, (method 342 T pv "loop.example/handrail/impl.kids").run Tryz.prog w = .ok (g, rv) w) ∧ (∀ args w, (callFunc g args).run Tryz.prog w = .ok (.enter g args) w) ∧ ∀ w, Calls Tryz.prog g #[rv] w (KidsPostT us w)) ∧ ∀ w, NodeOf w v (bareZ n)

theorem plain_of {B : Nat} {w : World} {n : Nd} {us : List Value} {v : Value} (h : Shape B w n us v) (hi : ∀ u ∈ us, ∃ T p, u = .iface T p) (h5 : n.kind ≠ 5) (h6 : n.kind ≠ 6) (h8 : n.kind ≠ 8) (h9 : n.kind ≠ 9) (h10 : n.kind ≠ 10) (h20 : n.kind ≠ 20) (h23 : n.kind < 23) : PlainV n us v := by
  cases h with
  | int => exact ⟨_, _, rfl, ⟨by decide, by decide, by decide, by decide, by decide, by decide, by decide⟩, ⟨164, .agg #[], fun w => by kernel_rfl, fun args w => by kernel_rfl, kidsT_leaf⟩, fun w2 => nodeOf (B := 0) (w := w2) .int hi⟩
  | bool => exact ⟨_, _, rfl, ⟨by decide, by decide, by decide, by decide, by decide, by decide, by decide⟩, ⟨164, .agg #[], fun w => by kernel_rfl, fun args w => by kernel_rfl, kidsT_leaf⟩, fun w2 => nodeOf (B := 0) (w := w2) .bool hi⟩
  | unit => exact ⟨_, _, rfl, ⟨by decide, by decide, by decide, by decide, by decide, by decide, by decide⟩, ⟨164, .agg #[], fun w => by kernel_rfl, fun args w => by kernel_rfl, kidsT_leaf⟩, fun w2 => nodeOf (B := 0) (w := w2) .unit hi⟩
  | nil => exact ⟨_, _, rfl, ⟨by decide, by decide, by decide, by decide, by decide, by decide, by decide⟩, ⟨164, .agg #[], fun w => by kernel_rfl, fun args w => by kernel_rfl, kidsT_leaf⟩, fun w2 => nodeOf (B := 0) (w := w2) .nil hi⟩
  | app =>
    obtain ⟨T0, p0, rfl⟩ := hi _ (List.mem_of_getElem? (i := 0) rfl)
    obtain ⟨T1, p1, rfl⟩ := hi _ (List.mem_of_getElem? (i := 1) rfl)
    exact ⟨_, _, rfl, ⟨by decide, by decide, by decide, by decide, by decide, by decide, by decide⟩, ⟨202, .agg #[.iface T0 p0, .iface T1 p1], fun w => by kernel_rfl, fun args w => by kernel_rfl, fun w => kidsT_app _ _ _ _ w⟩, fun w2 => nodeOf (B := 0) (w := w2) .app hi⟩
  | @sign kq _ _ _ _ _ _ _ hk =>
    obtain ⟨T0, p0, rfl⟩ := hi _ (List.mem_of_getElem? (i := 0) rfl)
    obtain ⟨T1, p1, rfl⟩ := hi _ (List.mem_of_getElem? (i := 1) rfl)
    exact ⟨_, _, rfl, ⟨by decide, by decide, by decide, by decide, by decide, by decide, by decide⟩, ⟨222, .agg #[.int .i64 kq, .iface T0 p0, .iface T1 p1], fun w => by kernel_rfl, fun args w => by kernel_rfl, fun w => kidsT_sign _ _ _ _ _ w⟩, fun w2 => nodeOf (B := 0) (w := w2) (.sign hk) hi⟩
  | pair =>
    obtain ⟨T0, p0, rfl⟩ := hi _ (List.mem_of_getElem? (i := 0) rfl)
    obtain ⟨T1, p1, rfl⟩ := hi _ (List.mem_of_getElem? (i := 1) rfl)
    exact ⟨_, _, rfl, ⟨by decide, by decide, by decide, by decide, by decide, by decide, by decide⟩, ⟨206, .agg #[.iface T0 p0, .iface T1 p1], fun w => by kernel_rfl, fun args w => by kernel_rfl, fun w => kidsT_pair _ _ _ _ w⟩, fun w2 => nodeOf (B := 0) (w := w2) .pair hi⟩
  | @take kq _ _ _ _ _ _ hk =>
    obtain ⟨T0, p0, rfl⟩ := hi _ (List.mem_of_getElem? (i := 0) rfl)
    exact ⟨_, _, rfl, ⟨by decide, by decide, by decide, by decide, by decide, by decide, by decide⟩, ⟨210, .agg #[.int .i64 kq, .iface T0 p0], fun w => by kernel_rfl, fun args w => by kernel_rfl, fun w => kidsT_take _ _ _ w⟩, fun w2 => nodeOf (B := 0) (w := w2) (.take hk) hi⟩
  | cons =>
    obtain ⟨T0, p0, rfl⟩ := hi _ (List.mem_of_getElem? (i := 0) rfl)
    obtain ⟨T1, p1, rfl⟩ := hi _ (List.mem_of_getElem? (i := 1) rfl)
    exact ⟨_, _, rfl, ⟨by decide, by decide, by decide, by decide, by decide, by decide, by decide⟩, ⟨214, .agg #[.iface T0 p0, .iface T1 p1], fun w => by kernel_rfl, fun args w => by kernel_rfl, fun w => kidsT_cons _ _ _ _ w⟩, fun w2 => nodeOf (B := 0) (w := w2) .cons hi⟩
  | @perform _ aq _ _ _ _ =>
    obtain ⟨T0, p0, rfl⟩ := hi _ (List.mem_of_getElem? (i := 0) rfl)
    exact ⟨_, _, rfl, ⟨by decide, by decide, by decide, by decide, by decide, by decide, by decide⟩, ⟨218, .agg #[.string aq, .iface T0 p0], fun w => by kernel_rfl, fun args w => by kernel_rfl, fun w => kidsT_perform _ _ _ w⟩, fun w2 => nodeOf (B := 0) (w := w2) .perform hi⟩
  | var => exact absurd rfl h5
  | fn => exact absurd rfl h6
  | bind => exact absurd rfl h8
  | recur => exact absurd rfl h9
  | cond => exact absurd rfl h10
  | case => exact absurd rfl h20
  | handler hk => exfalso; dsimp only at h23; omega
  | ret => exfalso; dsimp only at h23; omega
  | op => exfalso; dsimp only at h23; omega

set_option maxRecDepth 100000 in
theorem closureP_calls (a s : ByteArray) (x y : Int) (P : Nat) (w : World) (hP : w.cell? ⟨P, 0, none⟩ = some (.string s)) (hlt : P < w.heap.size) :
    Calls Tryz.prog 134 #[.agg #[.string a, .int .i64 x, .int .i64 y], .pointer (some ⟨P, 0, none⟩)] w fun e w' => e = .returned (.bool (a.toList == s.toList)) ∧ Below w.heap.size w w' := by
  go_enter Tryz.func134, Tryz.ntmps134
  go_wp2_with fail
  go_ret
  exact ⟨rfl, (Below.refl _ _).alloc (Nat.le_refl _) _⟩

set_option maxHeartbeats 1000000 in
set_option maxRecDepth 100000 in
theorem indexP_calls (a0 : Option Addr) (cap P : Nat) (es : List Ef) (s : ByteArray) (w : World) (hP : w.cell? ⟨P, 0, none⟩ = some (.string s)) (hPl : P < w.heap.size) (hm : es.length ≤ 1000000) (hn : es ≠ [] → ∃ b off, a0 = some ⟨b, off, none⟩ ∧ b < w.heap.size ∧ EffsAt w b off es) :
    Calls Tryz.prog 107 #[.slice a0 es.length cap, .func (.func 134) #[] #[.pointer (some ⟨P, 0, none⟩)]] w fun e w' => e = .returned (.int .i64 (effPlace es s 0)) ∧ Below w.heap.size w w' := by
  obtain ⟨len, hlen⟩ : ∃ len, es.length = len := ⟨_, rfl⟩
  have Hlen : Hid (es.length = len) := hlen
  have HM : Hid (len ≤ 1000000) := by show _ ≤ _; omega
  obtain ⟨R, hR⟩ : ∃ R, effPlace es s 0 = R := ⟨_, rfl⟩
  have HR : Hid (effPlace es s 0 = R) := hR
  have HN : Hid (es ≠ [] → ∃ b off, a0 = some ⟨b, off, none⟩ ∧ b < w.heap.size ∧ EffsAt w b off es) := hn
  have HP : Hid (w.cell? ⟨P, 0, none⟩ = some (.string s) ∧ P < w.heap.size) := ⟨hP, hPl⟩
  rw [hlen, hR]
  clear hlen hR hm hn hP hPl
  go_enter Tryz.func107, Tryz.ntmps107
  go_wp2_with fail
  go_loopw [8] (fun i wr => ∃ k : Nat, i = .int .i64 k ∧ k ≤ len ∧ Hid (effPlace (es.drop k) s k = R) ∧ Below w.heap.size w wr) (fun i _ => len - (intOf i).toNat)
  case atStart => exact ⟨0, rfl, Nat.zero_le _, HR.out, Below.refl _ _⟩
  case round =>
    obtain ⟨k, rfl, hle, HT, hbx⟩ := hrel
    by_cases hlt : (k : Int) < (len : Int)
    · have hil : k < es.length := by rw [Hlen.out]; omega
      obtain ⟨b, off, rfl, hbw, hE0⟩ := HN.out (fun h => by rw [h] at hil; cases hil)
      have hE := hE0.below hbx hbw
      have c0 := hE k hil 0 (by omega)
      have c1 := hE k hil 1 (by omega)
      have c2 := hE k hil 2 (by omega)
      have hT := HT.out
      rw [effs_drop hil] at hT
      obtain ⟨n, hnd⟩ : ∃ n, es.getD k default = n := ⟨_, rfl⟩
      rw [hnd] at c0 c1 c2 hT
      simp only [Ef.cell, Nat.add_zero] at c0 c1 c2
      have HC : Hid (∀ a x y, _) := fun a x y => closureP_calls a s x y P wr ((hbx.cell (p := ⟨P, 0, none⟩) HP.out.2).trans HP.out.1) (Nat.lt_of_lt_of_le HP.out.2 hbx.size)
      have HT1 : Hid (effPlace (n :: es.drop (k + 1)) s k = R) := hT
      clear HT HN hil hE hE0 hnd hT
      go_wp2_with fail
      refine (HC.out _ _ _).mono ?_
      rintro e w2 ⟨rfl, hb2⟩
      have hb3 := hbx.trans (hb2.mono hbx.size)
      clear c0 c1 c2 HC hb2
      cases he : (n.name.toList == s.toList) with
      | true =>
        have HT2 : Hid ((k : Int) = R) := by
          show _ = _
          rw [← HT1.out, effPlace, he]
          simp
        clear HT1
        go_wp2_with fail
        go_ret
        exact ⟨by rw [← HT2.out]; rfl, hb3⟩
      | false =>
        have HT2 : Hid (effPlace (es.drop (k + 1)) s (k + 1) = R) := by
          show _ = _
          rw [← HT1.out, effPlace, he]
          simp
        clear HT1
        go_wp2_with fail
        have hs : len - (intOf (.int .i64 ((k + 1 : Nat) : Int))).toNat < len - (intOf (.int .i64 (k : Int))).toNat := by simp only [intOf, Int.toNat_natCast]; omega
        try rw [show wrap64 ((k : Int) + 1) = ((k + 1 : Nat) : Int) by have := HM.out; unfold wrap64; omega]
        exact ⟨⟨k + 1, rfl, by omega, HT2, hb3⟩, hs⟩
    · have hT := HT.out
      rw [List.drop_eq_nil_of_le (by rw [Hlen.out]; omega)] at hT
      have HT2 : Hid ((-1 : Int) = R) := hT
      clear hT HT HN
      go_wp2_with fail
      go_ret
      exact ⟨by rw [← HT2.out]; rfl, hbx⟩

/-- Where the operations lie. -/
structure Ex (W0 : World) (Mb : Nat) (ae : Option Addr) (es : List Ef) : Prop where
  few : es.length ≤ 1000
  lie : es ≠ [] → ∃ b off, ae = some ⟨b, off, none⟩ ∧ b < W0.heap.size ∧ b ≠ Mb ∧ EffsAt W0 b off es

theorem ex_effs {B : Nat} {W0 : World} {Mb : Nat} {ae : Option Addr} {es : List Ef} (h : Ex W0 Mb ae es) {ve : Value} {s : Cs} {W : World} (m : KmE B W0 Mb ve s W) : es ≠ [] → ∃ b off, ae = some ⟨b, off, none⟩ ∧ b < W.heap.size ∧ EffsAt W b off es := fun hne => by
  obtain ⟨ls, vo, vl, m⟩ := m
  obtain ⟨b, off, e, hb, hn, hE⟩ := h.lie hne
  exact ⟨b, off, e, Nat.lt_of_lt_of_le hb m.size, fun k hk c hc => (World.cell?_of_block (a := ⟨b, off + k * 3 + c, none⟩) (m.kept b hb hn)).trans (hE k hk c hc)⟩

set_option maxHeartbeats 1000000 in
set_option maxRecDepth 100000 in
theorem opPlace_calls (a0 : Option Addr) (cap : Nat) (es : List Ef) (s : ByteArray) (w : World) (hm : es.length ≤ 1000000) (hn : es ≠ [] → ∃ b off, a0 = some ⟨b, off, none⟩ ∧ b < w.heap.size ∧ EffsAt w b off es) :
    Calls Tryz.prog 122 #[.slice a0 es.length cap, .string s] w fun e w' => e = .returned (.int .i64 (effPlace es s 0)) ∧ Below w.heap.size w w' := by
  have HW : Hid (w.heap.size < (w.alloc (.cells #[.string s] 9)).heap.size ∧ Below w.heap.size w (w.alloc (.cells #[.string s] 9))) := ⟨by simp, (Below.refl _ _).alloc (Nat.le_refl _) _⟩
  have HX : Hid (Calls _ _ _ _ _) := indexP_calls a0 cap w.heap.size es s (w.alloc (.cells #[.string s] 9)) (by simp [go_sem]) HW.out.1 hm (fun h => by
    obtain ⟨b, off, e, hb, hE⟩ := hn h
    exact ⟨b, off, e, Nat.lt_trans hb HW.out.1, hE.below HW.out.2 hb⟩)
  obtain ⟨R, hR⟩ : ∃ R, effPlace es s 0 = R := ⟨_, rfl⟩
  rw [hR] at HX ⊢
  clear hm hn hR
  go_enter Tryz.func122, Tryz.ntmps122
  go_wp2_with fail
  refine HX.out.mono ?_
  rintro e w2 ⟨rfl, hb⟩
  have HB := hid (HW.out.2.trans (hb.mono HW.out.2.size))
  clear hb HX
  go_wp2_with fail
  go_ret
  exact ⟨rfl, HB.out⟩

/-- The instruction of a plain form. -/
def plainZ (es : List Ef) (n : Nd) : In := if n.kind = 1 then ⟨1, n.num, 0, 0⟩ else if n.kind = 2 then ⟨2, n.num, 0, 0⟩ else if n.kind = 3 then ⟨3, 0, 0, 0⟩ else if n.kind = 4 then ⟨4, 0, 0, 0⟩ else lastZ es n

def insV (i : In) : Value := .agg #[.int .i64 i.op, .int .i64 i.a, .int .i64 i.b, .int .i64 i.c]

def PlainP (W : World) (i : In) (e : Ending) (W' : World) : Prop := e = .returned (insV i) ∧ Below W.heap.size W W'

set_option maxHeartbeats 8000000 in
set_option maxRecDepth 100000 in
theorem plainIns_calls {B : Nat} {W0 : World} {Mb : Nat} {ae : Option Addr} {ce : Nat} {es : List Ef} {s : Cs} {W : World} (ex : Ex W0 Mb ae es) (h : KmE B W0 Mb (.slice ae es.length ce) s W) (n : Nd) :
    Calls Tryz.prog 98 #[.pointer (some ⟨Mb, 0, none⟩), .agg #[.int .i64 n.kind, .int .i64 n.num, .string n.a, .string n.b, .string n.c, .int .i64 n.kids]] W (PlainP W (plainZ es n)) := by
  obtain ⟨kd, num, a, bb, cc, kids⟩ := n
  obtain ⟨Y1, hY1⟩ : ∃ Y, (W.alloc (.cells #[.int .i64 kd, .int .i64 num, .string a, .string bb, .string cc, .int .i64 kids] 81)).alloc (.cells #[.int .i64 0, .int .i64 0, .int .i64 0, .int .i64 0] 52) = Y := ⟨_, rfl⟩
  have hb := below_two W (.cells #[.int .i64 kd, .int .i64 num, .string a, .string bb, .string cc, .int .i64 kids] 81) (.cells #[.int .i64 0, .int .i64 0, .int .i64 0, .int .i64 0] 52)
  rw [hY1] at hb
  have HPf := hid (fun (X : World) (hx : Below Y1.heap.size Y1 X) => opPlace_calls ae ce es a X (by have := ex.few; omega) (fun hne => ex_effs ex ((h.below hb).below hx) hne))
  obtain ⟨PL, hPL⟩ : ∃ x, effPlace es a 0 = x := ⟨_, rfl⟩
  rw [hPL] at HPf
  obtain ⟨Z, hZ⟩ : ∃ Z, plainZ es ⟨kd, num, a, bb, cc, kids⟩ = Z := ⟨_, rfl⟩
  rw [hZ]
  unfold plainZ lastZ at hZ
  dsimp only at hZ ⊢
  rw [hPL] at hZ
  have HZ := hid hZ
  have hd : W.cell? ⟨Mb, 0, none⟩ = some (.slice ae es.length ce) := by
    obtain ⟨ls, vo, vl, h⟩ := h
    exact cell_of_heap h.blk 0
  have hMb : Mb < W.heap.size := by
    obtain ⟨ls, vo, vl, h⟩ := h
    exact heap_lt h.blk
  have HY := hid hY1
  have HMb := hid hMb
  have HHb := hid hb
  have g0 : Y1.heap[W.heap.size]? = some (.cells #[.int .i64 kd, .int .i64 num, .string a, .string bb, .string cc, .int .i64 kids] 81) := by rw [← hY1]; exact (((Below.refl _ _).alloc (Nat.le_refl _) _).block W.heap.size (by simp)).trans (MapKept.heap_alloc W _).1
  have g1 : Y1.heap[W.heap.size + 1]? = some (.cells #[.int .i64 0, .int .i64 0, .int .i64 0, .int .i64 0] 52) := by
    have e := (MapKept.heap_alloc (W.alloc (.cells #[.int .i64 kd, .int .i64 num, .string a, .string bb, .string cc, .int .i64 kids] 81)) (.cells #[.int .i64 0, .int .i64 0, .int .i64 0, .int .i64 0] 52)).1
    rw [show (W.alloc (.cells #[.int .i64 kd, .int .i64 num, .string a, .string bb, .string cc, .int .i64 kids] 81)).heap.size = W.heap.size + 1 by simp, hY1] at e
    exact e
  have HG := hid (And.intro g0 g1)
  clear hZ ex h hPL g0 g1
  go_enter Tryz.func98, Tryz.ntmps98
  by_cases k1 : kd = 1
  · have HE : Hid (⟨1, num, 0, 0⟩ = Z) := by
      show _ = _
      rw [← HZ.out]
      simp [k1]
    subst k1
    clear HZ HPf hY1 hb HY HHb HG
    go_wp2_with fail
    refine bodyPost_ret (v := insV ⟨1, num, 0, 0⟩) (by simp [results, Tryz.results98, go_sem, insV]) rfl ?_
    exact ⟨by rw [HE.out], by repeat (first | exact Below.refl _ _ | exact below_two _ _ _ | refine Below.setCell ?_ (by first | (simp; done) | (simp; omega)) _)⟩
  have b1 : (kd == 1) = false := by simp [k1]
  by_cases k2 : kd = 2
  · have HE : Hid (⟨2, num, 0, 0⟩ = Z) := by
      show _ = _
      rw [← HZ.out]
      simp [k2]
    subst k2
    clear HZ HPf hY1 hb HY HHb HG
    go_wp2_with fail
    refine bodyPost_ret (v := insV ⟨2, num, 0, 0⟩) (by simp [results, Tryz.results98, go_sem, insV]) rfl ?_
    exact ⟨by rw [HE.out], by repeat (first | exact Below.refl _ _ | exact below_two _ _ _ | refine Below.setCell ?_ (by first | (simp; done) | (simp; omega)) _)⟩
  have b2 : (kd == 2) = false := by simp [k2]
  by_cases k3 : kd = 3
  · have HE : Hid (⟨3, 0, 0, 0⟩ = Z) := by
      show _ = _
      rw [← HZ.out]
      simp [k3]
    subst k3
    clear HZ HPf hY1 hb HY HHb HG
    go_wp2_with fail
    refine bodyPost_ret (v := insV ⟨3, 0, 0, 0⟩) (by simp [results, Tryz.results98, go_sem, insV]) rfl ?_
    exact ⟨by rw [HE.out], by repeat (first | exact Below.refl _ _ | exact below_two _ _ _ | refine Below.setCell ?_ (by first | (simp; done) | (simp; omega)) _)⟩
  have b3 : (kd == 3) = false := by simp [k3]
  by_cases k4 : kd = 4
  · have HE : Hid (⟨4, 0, 0, 0⟩ = Z) := by
      show _ = _
      rw [← HZ.out]
      simp [k4]
    subst k4
    clear HZ HPf hY1 hb HY HHb HG
    go_wp2_with fail
    refine bodyPost_ret (v := insV ⟨4, 0, 0, 0⟩) (by simp [results, Tryz.results98, go_sem, insV]) rfl ?_
    exact ⟨by rw [HE.out], by repeat (first | exact Below.refl _ _ | exact below_two _ _ _ | refine Below.setCell ?_ (by first | (simp; done) | (simp; omega)) _)⟩
  have b4 : (kd == 4) = false := by simp [k4]
  by_cases k7 : kd = 7
  · have HE : Hid (⟨8, 0, 0, 0⟩ = Z) := by
      show _ = _
      rw [← HZ.out]
      simp [k7]
    subst k7
    clear HZ HPf hY1 hb HY HHb HG
    go_wp2_with fail
    refine bodyPost_ret (v := insV ⟨8, 0, 0, 0⟩) (by simp [results, Tryz.results98, go_sem, insV]) rfl ?_
    exact ⟨by rw [HE.out], by repeat (first | exact Below.refl _ _ | exact below_two _ _ _ | refine Below.setCell ?_ (by first | (simp; done) | (simp; omega)) _)⟩
  have b7 : (kd == 7) = false := by simp [k7]
  by_cases k16 : kd = 16
  · have HE : Hid (⟨15, 0, 0, 0⟩ = Z) := by
      show _ = _
      rw [← HZ.out]
      simp [k16]
    subst k16
    clear HZ HPf hY1 hb HY HHb HG
    go_wp2_with fail
    refine bodyPost_ret (v := insV ⟨15, 0, 0, 0⟩) (by simp [results, Tryz.results98, go_sem, insV]) rfl ?_
    exact ⟨by rw [HE.out], by repeat (first | exact Below.refl _ _ | exact below_two _ _ _ | refine Below.setCell ?_ (by first | (simp; done) | (simp; omega)) _)⟩
  have b16 : (kd == 16) = false := by simp [k16]
  by_cases k17 : kd = 17
  · have HE : Hid (⟨16, 0, 0, 0⟩ = Z) := by
      show _ = _
      rw [← HZ.out]
      simp [k17]
    subst k17
    clear HZ HPf hY1 hb HY HHb HG
    go_wp2_with fail
    refine bodyPost_ret (v := insV ⟨16, 0, 0, 0⟩) (by simp [results, Tryz.results98, go_sem, insV]) rfl ?_
    exact ⟨by rw [HE.out], by repeat (first | exact Below.refl _ _ | exact below_two _ _ _ | refine Below.setCell ?_ (by first | (simp; done) | (simp; omega)) _)⟩
  have b17 : (kd == 17) = false := by simp [k17]
  by_cases k18 : kd = 18
  · have HE : Hid (⟨17, 0, 0, 0⟩ = Z) := by
      show _ = _
      rw [← HZ.out]
      simp [k18]
    subst k18
    clear HZ HPf hY1 hb HY HHb HG
    go_wp2_with fail
    refine bodyPost_ret (v := insV ⟨17, 0, 0, 0⟩) (by simp [results, Tryz.results98, go_sem, insV]) rfl ?_
    exact ⟨by rw [HE.out], by repeat (first | exact Below.refl _ _ | exact below_two _ _ _ | refine Below.setCell ?_ (by first | (simp; done) | (simp; omega)) _)⟩
  have b18 : (kd == 18) = false := by simp [k18]
  by_cases k19 : kd = 19
  · have HE : Hid (⟨18, 0, 0, 0⟩ = Z) := by
      show _ = _
      rw [← HZ.out]
      simp [k19]
    subst k19
    clear HZ HPf hY1 hb HY HHb HG
    go_wp2_with fail
    refine bodyPost_ret (v := insV ⟨18, 0, 0, 0⟩) (by simp [results, Tryz.results98, go_sem, insV]) rfl ?_
    exact ⟨by rw [HE.out], by repeat (first | exact Below.refl _ _ | exact below_two _ _ _ | refine Below.setCell ?_ (by first | (simp; done) | (simp; omega)) _)⟩
  have b19 : (kd == 19) = false := by simp [k19]
  by_cases k21 : kd = 21
  · have HE : Hid (⟨20, 0, 0, 0⟩ = Z) := by
      show _ = _
      rw [← HZ.out]
      simp [k21]
    subst k21
    clear HZ HPf hY1 hb HY HHb HG
    go_wp2_with fail
    refine bodyPost_ret (v := insV ⟨20, 0, 0, 0⟩) (by simp [results, Tryz.results98, go_sem, insV]) rfl ?_
    exact ⟨by rw [HE.out], by repeat (first | exact Below.refl _ _ | exact below_two _ _ _ | refine Below.setCell ?_ (by first | (simp; done) | (simp; omega)) _)⟩
  have b21 : (kd == 21) = false := by simp [k21]
  by_cases k22 : kd = 22
  · have HE : Hid (⟨22, PL, 0, 0⟩ = Z) := by
      show _ = _
      rw [← HZ.out]
      simp [k22]
    subst k22
    have e0 := cell_of_heap HG.out.1 0
    have e2 := cell_of_heap HG.out.1 2
    have eM := (hb.cell (p := ⟨Mb, 0, none⟩) hMb).trans hd
    simp at e0 e2
    clear HZ hY1 hb hd hMb
    go_upto_region 1 with fail
    rw [HY.out]
    clear HY
    go_upto_region 23 with fail
    clear e0 e2
    have hbd : Below Y1.heap.size Y1 Y1.drew := (Below.refl _ _).drew
    have HGd := hid (show Y1.drew.heap[W.heap.size]? = _ ∧ Y1.drew.heap[W.heap.size + 1]? = _ from HG.out)
    have HBd := hid (HHb.out.trans (hbd.mono HHb.out.size))
    have hS : Y1.drew.cell? ⟨Mb, 0, none⟩ = some (.slice ae es.length ce) ∧ Y1.drew.cell? ⟨W.heap.size, 2, none⟩ = some (.string a) := ⟨eM, by have := cell_of_heap HGd.out.1 2; simpa using this⟩
    have HPd := hid (HPf.out Y1.drew hbd)
    refine pick_begin (S := fun w => w.cell? ⟨Mb, 0, none⟩ = some (.slice ae es.length ce) ∧ w.cell? ⟨W.heap.size, 2, none⟩ = some (.string a)) (n := 9) (ls := #[false, false, false, false, false, false, false, false, false]) (by kernel_rfl) rfl (by kernel_rfl) ?_
    clear hbd eM HG HHb HPf
    generalize Y1.drew = X1 at *
    refine pick_op (i := 0) (v := .pointer (some ⟨Mb, 0, none⟩)) (by kernel_rfl) rfl (by kernel_rfl) (by kernel_rfl) rfl rfl (fun w' hw => by simp [go_sem]) hS (by simp [go_sem]; exact rfl) ?_
    refine pick_op (i := 1) (v := .pointer (some ⟨Mb, 0, none⟩)) (by kernel_rfl) rfl (by kernel_rfl) (by kernel_rfl) rfl rfl (fun w' hw => by simp [go_sem]) hS (by simp [go_sem]; exact rfl) ?_
    refine pick_op (i := 2) (v := .pointer (some ⟨Mb, 0, none⟩)) (by kernel_rfl) rfl (by kernel_rfl) (by kernel_rfl) rfl rfl (fun w' hw => by simp [go_sem]) hS (by simp [go_sem]; exact rfl) ?_
    refine pick_op (i := 3) (v := .slice ae es.length ce) (by kernel_rfl) rfl (by kernel_rfl) (by kernel_rfl) rfl rfl (fun w' hw => by simp [go_sem, hw.1]) hS (by simp [go_sem]; exact rfl) ?_
    refine pick_op (i := 4) (v := .pointer (some ⟨W.heap.size, 2, none⟩)) (by kernel_rfl) rfl (by kernel_rfl) (by kernel_rfl) rfl rfl (fun w' hw => by simp [go_sem]) hS (by simp [go_sem]; exact rfl) ?_
    refine pick_op (i := 5) (v := .string a) (by kernel_rfl) rfl (by kernel_rfl) (by kernel_rfl) rfl rfl (fun w' hw => by simp [go_sem, hw.2]) hS (by simp [go_sem]; exact rfl) ?_
    refine pick_enter (i := 6) (f := 122) (args := #[.slice ae es.length ce, .string a]) rfl (by kernel_rfl) rfl rfl (by simp [go_sem]) ?_
    refine HPd.out.mono ?_
    rintro e X2 ⟨rfl, hb2⟩
    have hlM : Mb < X1.heap.size := Nat.lt_of_lt_of_le HMb.out HBd.out.size
    have hS2 : X2.cell? ⟨Mb, 0, none⟩ = some (.slice ae es.length ce) ∧ X2.cell? ⟨W.heap.size, 2, none⟩ = some (.string a) := ⟨(hb2.cell (p := ⟨Mb, 0, none⟩) hlM).trans hS.1, (hb2.cell (p := ⟨W.heap.size, 2, none⟩) (heap_lt HGd.out.1)).trans hS.2⟩
    have hg := (hb2.block _ (heap_lt HGd.out.2)).trans HGd.out.2
    have HB2 := hid (HBd.out.trans (hb2.mono HBd.out.size))
    clear hb2 hS HPd HBd HGd hlM
    refine ⟨_, rfl, hS2, ?_⟩
    refine pick_frame (by simp [go_sem]; exact rfl) ?_
    refine pick_op (i := 7) (v := .agg #[.int .i64 22, .int .i64 PL, .int .i64 0, .int .i64 0]) (by kernel_rfl) rfl (by kernel_rfl) (by kernel_rfl) rfl rfl (fun w' hw => by simp [go_sem]) hS2 (by simp [go_sem]; exact rfl) ?_
    have q0 := cell_of_heap hg 0
    have q1 := cell_of_heap hg 1
    have q2 := cell_of_heap hg 2
    have q3 := cell_of_heap hg 3
    have z0 := frozen_of_heap hg 0
    have z1 := frozen_of_heap hg 1
    have z2 := frozen_of_heap hg 2
    have z3 := frozen_of_heap hg 3
    simp at q0 q1 q2 q3
    obtain ⟨q, hq⟩ : ∃ q, W.heap.size + 1 = q := ⟨_, rfl⟩
    rw [hq] at hg q0 q1 q2 q3 z0 z1 z2 z3 ⊢
    obtain ⟨Z2, hZ2⟩ : ∃ Z, (((X2.setCell ⟨q, 0, none⟩ (.int .i64 22)).setCell ⟨q, 1, none⟩ (.int .i64 PL)).setCell ⟨q, 2, none⟩ (.int .i64 0)).setCell ⟨q, 3, none⟩ (.int .i64 0) = Z := ⟨_, rfl⟩
    have ho : ∀ k, k ≠ q → Z2.heap[k]? = X2.heap[k]? := fun k hne => by
      rw [← hZ2, Below.heap_setCell _ ⟨q, 3, none⟩ _ k hne, Below.heap_setCell _ ⟨q, 2, none⟩ _ k hne, Below.heap_setCell _ ⟨q, 1, none⟩ _ k hne, Below.heap_setCell _ ⟨q, 0, none⟩ _ k hne]
    have hgz : Z2.heap[q]? = some (.cells #[.int .i64 22, .int .i64 PL, .int .i64 0, .int .i64 0] 52) := by
      rw [← hZ2]
      simp [World.setCell, Array.getElem?_modify, hg]
    have hbz : Below W.heap.size W Z2 := by
      have h9 := HB2.out
      refine ⟨by rw [← hZ2]; exact h9.os, by rw [← hZ2]; exact h9.tape, by rw [← hZ2]; exact h9.output, by rw [← hZ2]; simp [World.setCell]; exact h9.size, fun k hk => (ho k (by omega)).trans (h9.block k hk)⟩
    have hS3 : Z2.cell? ⟨Mb, 0, none⟩ = some (.slice ae es.length ce) ∧ Z2.cell? ⟨W.heap.size, 2, none⟩ = some (.string a) := ⟨(World.cell?_of_block (a := ⟨Mb, 0, none⟩) (ho Mb (by have := HMb.out; omega))).trans hS2.1, (World.cell?_of_block (a := ⟨W.heap.size, 2, none⟩) (ho W.heap.size (by omega))).trans hS2.2⟩
    have HZ2 := hid hZ2
    refine pick_skip (i := 8) (w1 := Z2) rfl rfl (by kernel_rfl) rfl rfl (by rw [← HZ2.out]; simp [go_sem, q0, q1, q2, q3, z0, z1, z2, z3]) hS3 ?_
    refine pick_end (by kernel_rfl) ?_
    have r0 := cell_of_heap hgz 0
    have r1 := cell_of_heap hgz 1
    have r2 := cell_of_heap hgz 2
    have r3 := cell_of_heap hgz 3
    simp at r0 r1 r2 r3
    have HBz := hid hbz
    clear q0 q1 q2 q3 z0 z1 z2 z3 hg hgz hbz ho hZ2 HZ2 hS2 hS3 HB2 hq
    go_wp2_with fail
    refine bodyPost_ret (v := insV ⟨22, PL, 0, 0⟩) (by simp [results, Tryz.results98, go_sem, insV, r0, r1, r2, r3]) rfl ?_
    exact ⟨by rw [HE.out], HBz.out⟩
  · have b22 : (kd == 22) = false := by simp [k22]
    have HE : Hid (⟨14, kd, 0, 0⟩ = Z) := by
      show _ = _
      rw [← HZ.out]
      simp [k1, k2, k3, k4, k7, k16, k17, k18, k19, k21, k22]
    clear HZ HPf hY1 hb HY HHb HG
    go_wp2_with fail
    refine bodyPost_ret (v := insV ⟨14, kd, 0, 0⟩) (by simp [results, Tryz.results98, go_sem, insV]) rfl ?_
    exact ⟨by rw [HE.out], by repeat (first | exact Below.refl _ _ | exact below_two _ _ _ | refine Below.setCell ?_ (by first | (simp; done) | (simp; omega)) _)⟩

end Go.Proofs.YtgiejnmphfgmgaaGreatDoor

/- The instruction behind a node's kids. -/
namespace Go.Proofs.YtgiejnmphfgmgaaGreatDoor
open Go.RowKit Go.Deep

theorem box_in {W0 : World} {Mb : Nat} {ve vt : Value} {s : Cs} {W Y : World} (h : CmE W0 Mb ve vt s W) (hb : Below W.heap.size W Y) : CmE W0 Mb ve vt s Y ∧ Cf W Y := ⟨h.below hb, Cf.of_below hb⟩

section
variable {W0 : World} {Mb : Nat} {ae : Option Addr} {ce b off cap : Nat} {es : List Ef} {ns : List Nd}

set_option maxHeartbeats 4000000 in
set_option maxRecDepth 100000 in
theorem last_calls (cx : Cx W0 Mb ae b off es ns) (n : Nd) {s : Cs} {W : World} (hB : s.out.length ≤ 950000) (h : CmE W0 Mb (.slice ae es.length ce) (.slice (some ⟨b, off, none⟩) ns.length cap) s W) :
    Calls Tryz.prog 44 #[.pointer (some ⟨Mb, 0, none⟩), .agg #[.int .i64 n.kind, .int .i64 n.num, .string n.a, .string n.b, .string n.c, .int .i64 n.kids]] W (LeadPost W0 Mb (.slice ae es.length ce) (.slice (some ⟨b, off, none⟩) ns.length cap) (s.put (lastZ es n)) W) := by
  obtain ⟨kd, num, a, bb, cc, kids⟩ := n
  dsimp only
  have hA := (MapKept.heap_alloc W (.cells #[.int .i64 kd, .int .i64 num, .string a, .string bb, .string cc, .int .i64 kids] 81)).1
  have hB1 := (Below.refl W.heap.size W).alloc (Nat.le_refl _) (.cells #[.int .i64 kd, .int .i64 num, .string a, .string bb, .string cc, .int .i64 kids] 81)
  obtain ⟨Y, hY⟩ : ∃ Y, W.alloc (.cells #[.int .i64 kd, .int .i64 num, .string a, .string bb, .string cc, .int .i64 kids] 81) = Y := ⟨_, rfl⟩
  rw [hY] at hA hB1
  have HY := hid hY
  have HA := hid hA
  have S0 := hid (h.below hB1)
  have F0 := hid (Cf.of_below hB1)
  have HX := hid cx
  have HB := hid hB
  have e0 := cell_of_heap HA.out 0
  have e2 := cell_of_heap HA.out 2
  simp at e0 e2
  have d0 := S0.out.effs
  obtain ⟨LZ, hLZ⟩ : ∃ LZ, lastZ es ⟨kd, num, a, bb, cc, kids⟩ = LZ := ⟨_, rfl⟩
  rw [hLZ]
  unfold lastZ at hLZ
  dsimp only at hLZ
  clear hA hB1 hY h cx hB
  go_enter Tryz.func44, Tryz.ntmps44
  go_upto_region 1 with fail
  rw [HY.out]
  clear HY
  by_cases k7 : kd = 7
  · rw [if_pos k7] at hLZ
    subst hLZ
    subst k7
    go_wp2_with fail
    refine (putM_calls ⟨8, 0, 0, 0⟩ S0.out (by have := HB.out; omega)).mono ?_
    rintro e X1 ⟨rfl, h1, g1⟩
    obtain ⟨n1, hn1⟩ : ∃ n, s.out.length = n := ⟨_, rfl⟩
    rw [hn1]
    have S1 := hid h1
    have G1 := hid g1
    clear h1 g1 hn1
    go_wp2_with fail
    go_end0
    exact ⟨⟨_, rfl⟩, S1.out, F0.out.trans G1.out⟩
  rw [if_neg k7] at hLZ
  have z7 : (kd == 7) = false := by simp [k7]
  by_cases k16 : kd = 16
  · rw [if_pos k16] at hLZ
    subst hLZ
    subst k16
    go_wp2_with fail
    refine (putM_calls ⟨15, 0, 0, 0⟩ S0.out (by have := HB.out; omega)).mono ?_
    rintro e X1 ⟨rfl, h1, g1⟩
    obtain ⟨n1, hn1⟩ : ∃ n, s.out.length = n := ⟨_, rfl⟩
    rw [hn1]
    have S1 := hid h1
    have G1 := hid g1
    clear h1 g1 hn1
    go_wp2_with fail
    go_end0
    exact ⟨⟨_, rfl⟩, S1.out, F0.out.trans G1.out⟩
  rw [if_neg k16] at hLZ
  have z16 : (kd == 16) = false := by simp [k16]
  by_cases k17 : kd = 17
  · rw [if_pos k17] at hLZ
    subst hLZ
    subst k17
    go_wp2_with fail
    refine (putM_calls ⟨16, 0, 0, 0⟩ S0.out (by have := HB.out; omega)).mono ?_
    rintro e X1 ⟨rfl, h1, g1⟩
    obtain ⟨n1, hn1⟩ : ∃ n, s.out.length = n := ⟨_, rfl⟩
    rw [hn1]
    have S1 := hid h1
    have G1 := hid g1
    clear h1 g1 hn1
    go_wp2_with fail
    go_end0
    exact ⟨⟨_, rfl⟩, S1.out, F0.out.trans G1.out⟩
  rw [if_neg k17] at hLZ
  have z17 : (kd == 17) = false := by simp [k17]
  by_cases k18 : kd = 18
  · rw [if_pos k18] at hLZ
    subst hLZ
    subst k18
    go_wp2_with fail
    refine (putM_calls ⟨17, 0, 0, 0⟩ S0.out (by have := HB.out; omega)).mono ?_
    rintro e X1 ⟨rfl, h1, g1⟩
    obtain ⟨n1, hn1⟩ : ∃ n, s.out.length = n := ⟨_, rfl⟩
    rw [hn1]
    have S1 := hid h1
    have G1 := hid g1
    clear h1 g1 hn1
    go_wp2_with fail
    go_end0
    exact ⟨⟨_, rfl⟩, S1.out, F0.out.trans G1.out⟩
  rw [if_neg k18] at hLZ
  have z18 : (kd == 18) = false := by simp [k18]
  by_cases k19 : kd = 19
  · rw [if_pos k19] at hLZ
    subst hLZ
    subst k19
    go_wp2_with fail
    refine (putM_calls ⟨18, 0, 0, 0⟩ S0.out (by have := HB.out; omega)).mono ?_
    rintro e X1 ⟨rfl, h1, g1⟩
    obtain ⟨n1, hn1⟩ : ∃ n, s.out.length = n := ⟨_, rfl⟩
    rw [hn1]
    have S1 := hid h1
    have G1 := hid g1
    clear h1 g1 hn1
    go_wp2_with fail
    go_end0
    exact ⟨⟨_, rfl⟩, S1.out, F0.out.trans G1.out⟩
  rw [if_neg k19] at hLZ
  have z19 : (kd == 19) = false := by simp [k19]
  by_cases k21 : kd = 21
  · rw [if_pos k21] at hLZ
    subst hLZ
    subst k21
    go_wp2_with fail
    refine (putM_calls ⟨20, 0, 0, 0⟩ S0.out (by have := HB.out; omega)).mono ?_
    rintro e X1 ⟨rfl, h1, g1⟩
    obtain ⟨n1, hn1⟩ : ∃ n, s.out.length = n := ⟨_, rfl⟩
    rw [hn1]
    have S1 := hid h1
    have G1 := hid g1
    clear h1 g1 hn1
    go_wp2_with fail
    go_end0
    exact ⟨⟨_, rfl⟩, S1.out, F0.out.trans G1.out⟩
  rw [if_neg k21] at hLZ
  have z21 : (kd == 21) = false := by simp [k21]
  by_cases k22 : kd = 22
  · rw [if_pos k22] at hLZ
    subst hLZ
    subst k22
    go_upto_region 16 with fail
    have hD : Below Y.heap.size Y Y.drew := (Below.refl _ _).drew
    obtain ⟨D, hDe⟩ : ∃ D, Y.drew = D := ⟨_, rfl⟩
    rw [hDe] at hD
    have S1 := hid (S0.out.below hD)
    have G1 := hid (Cf.of_below hD)
    have hS : (fun w' : World => w'.cell? ⟨Mb, 0, none⟩ = some (.slice ae es.length ce) ∧ w'.cell? ⟨W.heap.size, 2, none⟩ = some (.string a)) D := ⟨S1.out.effs, by rw [← hDe]; exact e2⟩
    refine pick_begin (S := fun w' => w'.cell? ⟨Mb, 0, none⟩ = some (.slice ae es.length ce) ∧ w'.cell? ⟨W.heap.size, 2, none⟩ = some (.string a)) (by kernel_rfl) rfl rfl ?_
    rw [hDe]
    clear hDe hD e0 e2 d0
    refine pick_op (i := 0) (v := .pointer (some ⟨Mb, 0, none⟩)) (by kernel_rfl) rfl (by kernel_rfl) (by kernel_rfl) rfl rfl (fun w' _ => by simp [go_sem]) hS (by simp [go_sem]; exact rfl) ?_
    refine pick_op (i := 1) (v := .pointer (some ⟨Mb, 0, none⟩)) (by kernel_rfl) rfl (by kernel_rfl) (by kernel_rfl) rfl rfl (fun w' _ => by simp [go_sem]) hS (by simp [go_sem]; exact rfl) ?_
    refine pick_op (i := 2) (v := .pointer (some ⟨Mb, 0, none⟩)) (by kernel_rfl) rfl (by kernel_rfl) (by kernel_rfl) rfl rfl (fun w' _ => by simp [go_sem]) hS (by simp [go_sem]; exact rfl) ?_
    refine pick_op (i := 3) (v := .pointer (some ⟨Mb, 0, none⟩)) (by kernel_rfl) rfl (by kernel_rfl) (by kernel_rfl) rfl rfl (fun w' _ => by simp [go_sem]) hS (by simp [go_sem]; exact rfl) ?_
    refine pick_op (i := 4) (v := .pointer (some ⟨Mb, 0, none⟩)) (by kernel_rfl) rfl (by kernel_rfl) (by kernel_rfl) rfl rfl (fun w' _ => by simp [go_sem]) hS (by simp [go_sem]; exact rfl) ?_
    refine pick_op (i := 5) (v := .slice ae es.length ce) (by kernel_rfl) rfl (by kernel_rfl) (by kernel_rfl) rfl rfl (fun w' h => by simp [go_sem, h.1]) hS (by simp [go_sem]; exact rfl) ?_
    refine pick_op (i := 6) (v := .pointer (some ⟨W.heap.size, 2, none⟩)) (by kernel_rfl) rfl (by kernel_rfl) (by kernel_rfl) rfl rfl (fun w' _ => by simp [go_sem]) hS (by simp [go_sem]; exact rfl) ?_
    refine pick_op (i := 7) (v := .string a) (by kernel_rfl) rfl (by kernel_rfl) (by kernel_rfl) rfl rfl (fun w' h => by simp [go_sem, h.2]) hS (by simp [go_sem]; exact rfl) ?_
    refine pick_enter (i := 8) (f := 36) (args := #[.slice ae es.length ce, .string a]) rfl (by kernel_rfl) rfl rfl (by simp [go_sem]) ?_
    refine (l2Eff_calls ae ce es a D (by have := HX.out.el; omega) (cx_effs HX.out S1.out)).mono ?_
    rintro e Xk ⟨rfl, rfl⟩
    refine ⟨_, rfl, hS, ?_⟩
    refine pick_frame (by simp [go_sem]; exact rfl) ?_
    refine pick_op (i := 9) (v := .agg #[.int .i64 22, .int .i64 (effPlace es a 0), .int .i64 0, .int .i64 0]) (by kernel_rfl) rfl (by kernel_rfl) (by kernel_rfl) rfl rfl (fun w' _ => by simp [go_sem]) hS (by simp [go_sem]; exact rfl) ?_
    refine pick_enter (i := 10) (f := 18) (args := #[.pointer (some ⟨Mb, 0, none⟩), .agg #[.int .i64 22, .int .i64 (effPlace es a 0), .int .i64 0, .int .i64 0]]) rfl (by kernel_rfl) rfl rfl (by simp [go_sem]) ?_
    refine (putM_calls ⟨22, effPlace es a 0, 0, 0⟩ S1.out (by have := HB.out; omega)).mono ?_
    rintro e X1 ⟨rfl, h1, g1⟩
    obtain ⟨n1, hn1⟩ : ∃ n, s.out.length = n := ⟨_, rfl⟩
    rw [hn1]
    have S2 := hid h1
    have G2 := hid (G1.out.trans g1)
    clear h1 g1 hn1
    have hbx := (G2.out.block W.heap.size _ _ HA.out (by decide) (by decide) (by decide)).trans HA.out
    refine ⟨_, rfl, ⟨S2.out.effs, cell_of_heap hbx 2⟩, ?_⟩
    clear hbx hS
    refine pick_frame (by simp [go_sem]; exact rfl) ?_
    refine pick_end (by kernel_rfl) ?_
    go_wp2_with fail
    go_end0
    exact ⟨⟨_, rfl⟩, S2.out, F0.out.trans G2.out⟩
  rw [if_neg k22] at hLZ
  have z22 : (kd == 22) = false := by simp [k22]
  subst hLZ
  go_wp2_with fail
  refine (putM_calls ⟨14, kd, 0, 0⟩ S0.out (by have := HB.out; omega)).mono ?_
  rintro e X1 ⟨rfl, h1, g1⟩
  obtain ⟨n1, hn1⟩ : ∃ n, s.out.length = n := ⟨_, rfl⟩
  rw [hn1]
  have S1 := hid h1
  have G1 := hid g1
  clear h1 g1 hn1
  go_wp2_with fail
  go_end0
  exact ⟨⟨_, rfl⟩, S1.out, F0.out.trans G1.out⟩
end
end Go.Proofs.YtgiejnmphfgmgaaGreatDoor

/- A handler's code; a part whose kids are made one behind the other; every part. -/
namespace Go.Proofs.YtgiejnmphfgmgaaGreatDoor
open Go.RowKit Go.Deep

set_option maxRecDepth 100000 in
theorem one_calls (x : Bool) (W : World) : Calls Tryz.prog 78 #[.bool x] W fun e W' => e = .returned (.int .i64 (if x = true then 1 else 0)) ∧ W = W' := by
  cases x with
  | true =>
    go_enter Tryz.func78, Tryz.ntmps78
    go_wp2_with fail
    go_ret
    exact ⟨rfl, rfl⟩
  | false =>
    go_enter Tryz.func78, Tryz.ntmps78
    go_wp2_with fail
    go_ret
    exact ⟨rfl, rfl⟩

theorem take_next {l : List Tp} {j : Nat} (h : j < l.length) : l.take (j + 1) = l.take j ++ [l.getD j default] := by
  rw [List.take_add_one]
  simp [List.getD, h]

theorem sum_take (l : List Tp) (j : Nat) : ((l.take j).map Tp.size).sum ≤ (l.map Tp.size).sum := by
  have := congrArg (fun l => (List.map Tp.size l).sum) (List.take_append_drop j l)
  simp only [List.map_append, List.sum_append] at this
  omega

theorem sum_next {l : List Tp} {j : Nat} (h : j < l.length) : ((l.take j).map Tp.size).sum + (l.getD j default).size ≤ (l.map Tp.size).sum := by
  have h1 := sum_take l (j + 1)
  rw [take_next h] at h1
  simp only [List.map_append, List.sum_append, List.map_cons, List.map_nil, List.sum_cons, List.sum_nil] at h1
  omega

section
variable {W0 : World} {Mb : Nat} {ae : Option Addr} {ce b off cap : Nat} {es : List Ef} {ns : List Nd} {K F : Nat}

set_option maxHeartbeats 4000000 in
set_option maxRecDepth 100000 in
theorem part_k (cx : Cx W0 Mb ae b off es ns) (hk1 : K ≤ 1000) (ih : PartC W0 Mb ae ce b off cap es ns K F) {t : Tp} {ss : List ByteArray} {s : Cs} {v : Value} {W : World} (hF : t.size ≤ F + 1) (hs : Stands ns t) (hK : ss.length + 2 * t.size ≤ K) (hB : s.out.length + 10 * s.rest + 10 * t.size ≤ 950000) (h : CmE W0 Mb (.slice ae es.length ce) (.slice (some ⟨b, off, none⟩) ns.length cap) s W) (hv : NmT W v ss) (ek : t.n.kind ≠ 1 ∧ t.n.kind ≠ 2 ∧ t.n.kind ≠ 3 ∧ t.n.kind ≠ 4 ∧ t.n.kind ≠ 5 ∧ t.n.kind ≠ 6 ∧ t.n.kind ≠ 8 ∧ t.n.kind ≠ 9 ∧ t.n.kind ≠ 10 ∧ t.n.kind ≠ 20 ∧ t.n.kind ≠ 23 ∧ t.n.kind ≠ 24) :
    Calls Tryz.prog 17 #[.pointer (some ⟨Mb, 0, none⟩), .int .i64 (t.at_ : Int), v] W (LeadPost W0 Mb (.slice ae es.length ce) (.slice (some ⟨b, off, none⟩) ns.length cap) ((t.kids.foldl (fun s c => partZ es F c ss s) s).put (lastZ es t.n)) W) := by
  obtain ⟨adn, cpn, rfl⟩ := hv.is
  have hnc := cx_nodes cx h
  obtain ⟨hlt, hat, hsz⟩ := hs.lt
  have c0 := hnc t.at_ hlt 0 (by omega)
  have c1 := hnc t.at_ hlt 1 (by omega)
  have c2 := hnc t.at_ hlt 2 (by omega)
  have c3 := hnc t.at_ hlt 3 (by omega)
  have c4 := hnc t.at_ hlt 4 (by omega)
  have c5 := hnc t.at_ hlt 5 (by omega)
  rw [hat] at c0 c1 c2 c3 c4 c5
  simp only [Nd.cell, Nat.add_zero] at c0 c1 c2 c3 c4 c5
  have d1 := h.tree
  have hA := (MapKept.heap_alloc W (.cells #[.int .i64 t.n.kind, .int .i64 t.n.num, .string t.n.a, .string t.n.b, .string t.n.c, .int .i64 t.n.kids] 81)).1
  have hB1 := (Below.refl W.heap.size W).alloc (Nat.le_refl _) (.cells #[.int .i64 t.n.kind, .int .i64 t.n.num, .string t.n.a, .string t.n.b, .string t.n.c, .int .i64 t.n.kids] 81)
  obtain ⟨Y, hY⟩ : ∃ Y, W.alloc (.cells #[.int .i64 t.n.kind, .int .i64 t.n.num, .string t.n.a, .string t.n.b, .string t.n.c, .int .i64 t.n.kids] 81) = Y := ⟨_, rfl⟩
  rw [hY] at hA hB1
  have HY := hid hY
  have HA := hid hA
  have S0 := hid (h.below hB1)
  have F0 := hid (Cf.of_below hB1)
  have N0 := hid (hv.frame (Cf.of_below hB1))
  have G0 := hid (Cf.refl Y)
  have R0 := hid (Rs.refl ns K s)
  have hgood := hs.toGood
  have HC : Hid ((t.n.kids = (t.k.count : Int)) ∧ t.k.count ≤ 1000) := ⟨hs.kids, by have h1 := Fo.count_le t.k; have h2 := cx.tl; unfold Tp.size at hsz; omega⟩
  have HZ : Hid ((t.kids.map Tp.size).sum + 1 = t.size) := t.kids_sum
  have hp0 : (0 : Int) ≤ (t.at_ : Int) := by omega
  have hpl : (t.at_ : Int) < (ns.length : Int) := by omega
  have HP1 : Hid (0 < t.k.count → wrap64 ((t.at_ : Int) + 1) = ((t.kid 0).at_ : Int)) := fun h0 => by rw [hs.first h0]; have := cx.tl; unfold wrap64; omega
  have HX := hid cx
  have HIH := hid ih
  have HS := hid hs
  have HK := hid (And.intro hK (And.intro hF hk1))
  have HB := hid hB
  clear hA hB1 hY h hv hnc hlt hat hsz hgood cx ih hs hK hF hB hk1
  go_enter Tryz.func17, Tryz.ntmps17
  go_upto_region 1 with fail
  rw [HY.out]
  clear HY c0 c1 c2 c3 c4 c5 d1
  obtain ⟨kd, hkd⟩ : ∃ kd, t.n.kind = kd := ⟨_, rfl⟩
  obtain ⟨kc, hkc⟩ : ∃ kc : Nat, t.k.count = kc := ⟨_, rfl⟩
  have hkk : t.n.kids = (kc : Int) := by rw [← hkc]; exact HC.out.1
  have HKc := hid hkc
  have HKd := hid hkd
  rw [hkd] at ek HA
  rw [hkk] at HA
  obtain ⟨k1, k2, k3, k4, k5, k6, k8, k9, k10, k20, k23, k24⟩ := ek
  have z1 : (kd == 1) = false := by simp [k1]
  have z2 : (kd == 2) = false := by simp [k2]
  have z3 : (kd == 3) = false := by simp [k3]
  have z4 : (kd == 4) = false := by simp [k4]
  have z5 : (kd == 5) = false := by simp [k5]
  have z6 : (kd == 6) = false := by simp [k6]
  have z8 : (kd == 8) = false := by simp [k8]
  have z9 : (kd == 9) = false := by simp [k9]
  have z10 : (kd == 10) = false := by simp [k10]
  have z20 : (kd == 20) = false := by simp [k20]
  have z23 : (kd == 23) = false := by simp [k23]
  have z24 : (kd == 24) = false := by simp [k24]
  clear hkd hkc k1 k2 k3 k4 k5 k6 k8 k9 k10 k20 k23 k24
  have hbx := (G0.out.block W.heap.size _ _ HA.out (by decide) (by decide) (by decide)).trans HA.out
  have e0 := cell_of_heap hbx 0
  have e1 := cell_of_heap hbx 1
  have e2 := cell_of_heap hbx 2
  have e3 := cell_of_heap hbx 3
  have e4 := cell_of_heap hbx 4
  have e5 := cell_of_heap hbx 5
  have d0 := S0.out.effs
  have d1 := S0.out.tree
  simp at e0 e1 e2 e3 e4 e5
  clear hbx
  try rw [HKd.out]
  try rw [hkk]
  go_wp2_with fail
  clear e0 e1 e2 e3 e4 e5 d0 d1
  go_loopw [11] (fun i wr => ∃ j : Nat, i = .int .i64 (j : Int) ∧ j ≤ kc ∧ Hid (CmE W0 Mb (.slice ae es.length ce) (.slice (some ⟨b, off, none⟩) ns.length cap) ((t.kids.take j).foldl (fun s c => partZ es F c ss s) s) wr ∧ Cf Y wr ∧ Rs ns K (10 * ((t.kids.take j).map Tp.size).sum) (((t.kids.take j).map Tp.size).sum) s ((t.kids.take j).foldl (fun s c => partZ es F c ss s) s))) (fun i _ => kc - (intOf i).toNat)
  case atStart => exact ⟨0, rfl, Nat.zero_le _, S0.out, G0.out, Rs.refl ns K s⟩
  case round =>
    obtain ⟨j, rfl, hj, HI⟩ := hrel
    have hbx := (HI.out.2.1.block W.heap.size _ _ HA.out (by decide) (by decide) (by decide)).trans HA.out
    have e0 := cell_of_heap hbx 0
    have e1 := cell_of_heap hbx 1
    have e2 := cell_of_heap hbx 2
    have e3 := cell_of_heap hbx 3
    have e4 := cell_of_heap hbx 4
    have e5 := cell_of_heap hbx 5
    have d1 := HI.out.1.tree
    simp at e0 e1 e2 e3 e4 e5
    clear hbx
    by_cases hjc : (j : Int) < (kc : Int)
    · have hjl : j < t.kids.length := by rw [t.kids_len, HKc.out]; omega
      have HN := hid (And.intro (sum_next hjl) (And.intro (take_next hjl) hjl))
      have hstep : kc - (intOf (.int .i64 ((j + 1 : Nat) : Int))).toNat < kc - (intOf (.int .i64 (j : Int))).toNat := by simp only [intOf, Int.toNat_natCast]; omega
      clear hjl
      go_wp2_with fail
      refine (kid_calls (cap := cap) j wr (cx_nodes HX.out HI.out.1) HX.out.tl HS.out (by have := HKc.out; omega)).mono ?_
      rintro e Xk ⟨rfl, rfl⟩
      clear e0 e1 e2 e3 e4 e5
      go_wp2_with fail
      have HG : Hid (t.kids.getD j default = t.kid j) := rfl
      refine (HIH.out (t.kid j) ss _ _ _ (by have := HN.out.1; have := HZ.out; have := HK.out; rw [HG.out] at *; omega) (HS.out.kid (by have := HKc.out; omega)) (by have := HN.out.1; have := HZ.out; have := HK.out; rw [HG.out] at *; omega) (by have h1 := HN.out.1; have := HZ.out; have := HB.out; have := HI.out.2.2.cost; rw [HG.out] at h1; omega) HI.out.1 (N0.out.frame HI.out.2.1)).mono ?_
      rintro e X2 ⟨⟨x2, rfl⟩, h2, g2⟩
      have HI2 : Hid (CmE W0 Mb (.slice ae es.length ce) (.slice (some ⟨b, off, none⟩) ns.length cap) ((t.kids.take (j + 1)).foldl (fun s c => partZ es F c ss s) s) X2 ∧ Cf Y X2 ∧ Rs ns K (10 * ((t.kids.take (j + 1)).map Tp.size).sum) (((t.kids.take (j + 1)).map Tp.size).sum) s ((t.kids.take (j + 1)).foldl (fun s c => partZ es F c ss s) s)) := by
        have hr := part_r (ns := ns) (K := K) (es := es) F (t.kid j) ss ((t.kids.take j).foldl (fun s c => partZ es F c ss s) s) (by have := HN.out.1; have := HZ.out; have := HK.out; rw [HG.out] at *; omega) (HS.out.kid (by have := HKc.out; omega)) (by have := HN.out.1; have := HZ.out; have := HK.out; rw [HG.out] at *; omega)
        rw [HN.out.2.1, List.foldl_append]
        refine ⟨h2, HI.out.2.1.trans g2, (HI.out.2.2.trans hr).mono ?_ ?_⟩
        · simp only [List.map_append, List.sum_append, List.map_cons, List.map_nil, List.sum_cons, List.sum_nil, HG.out]
          omega
        · simp only [List.map_append, List.sum_append, List.map_cons, List.map_nil, List.sum_cons, List.sum_nil, HG.out]
          omega
      clear h2 g2
      have hj9 : Hid (j ≤ 1000) := by show _ ≤ _; have := HC.out.2; have := HKc.out; omega
      go_wp2_with fail
      try rw [wrap_succ (by have := hj9.out; omega)]
      exact ⟨⟨j + 1, rfl, by omega, HI2⟩, hstep⟩
    · have ej : j = kc := by omega
      subst ej
      have HT : Hid (t.kids.take j = t.kids) := List.take_of_length_le (by rw [t.kids_len, HKc.out]; exact Nat.le_refl _)
      rw [HT.out] at HI
      go_wp2_with fail
      have HL := hid (last_calls (ce := ce) (cap := cap) HX.out t.n (by have := HI.out.2.2.cost; have := HB.out; have := HZ.out; omega) HI.out.1)
      rw [hkk, HKd.out] at HL
      refine HL.out.mono ?_
      rintro e X3 ⟨⟨x3, rfl⟩, h3, g3⟩
      have S3 := hid h3
      have G3 := hid (HI.out.2.1.trans g3)
      clear h3 g3 e0 e1 e2 e3 e4 e5 d1 HL
      go_wp2_with fail
      go_end0
      exact ⟨⟨_, rfl⟩, S3.out, F0.out.trans G3.out⟩

set_option maxHeartbeats 4000000 in
set_option maxRecDepth 100000 in
theorem hand_calls (cx : Cx W0 Mb ae b off es ns) (hk1 : K ≤ 1000) (ih : PartC W0 Mb ae ce b off cap es ns K F) {t : Tp} {ss : List ByteArray} {s : Cs} {v : Value} {W : World} (hF : t.size ≤ F + 1) (hs : Stands ns t) (hK : ss.length + 2 * t.size ≤ K) (hB : s.out.length + 10 * s.rest + 10 * t.size ≤ 950000) (h : CmE W0 Mb (.slice ae es.length ce) (.slice (some ⟨b, off, none⟩) ns.length cap) s W) (hv : NmT W v ss) (ek : t.n.kind = 23 ∨ t.n.kind = 24) :
    Calls Tryz.prog 43 #[.pointer (some ⟨Mb, 0, none⟩), .int .i64 (t.at_ : Int), v] W (LeadPost W0 Mb (.slice ae es.length ce) (.slice (some ⟨b, off, none⟩) ns.length cap) (handZ es (partZ es F) t ss s) W) := by
  obtain ⟨adn, cpn, rfl⟩ := hv.is
  have hnc := cx_nodes cx h
  obtain ⟨hlt, hat, hsz⟩ := hs.lt
  have c0 := hnc t.at_ hlt 0 (by omega)
  have c1 := hnc t.at_ hlt 1 (by omega)
  have c2 := hnc t.at_ hlt 2 (by omega)
  have c3 := hnc t.at_ hlt 3 (by omega)
  have c4 := hnc t.at_ hlt 4 (by omega)
  have c5 := hnc t.at_ hlt 5 (by omega)
  rw [hat] at c0 c1 c2 c3 c4 c5
  simp only [Nd.cell, Nat.add_zero] at c0 c1 c2 c3 c4 c5
  have d1 := h.tree
  have hA := (MapKept.heap_alloc W (.cells #[.int .i64 t.n.kind, .int .i64 t.n.num, .string t.n.a, .string t.n.b, .string t.n.c, .int .i64 t.n.kids] 81)).1
  have hB1 := (Below.refl W.heap.size W).alloc (Nat.le_refl _) (.cells #[.int .i64 t.n.kind, .int .i64 t.n.num, .string t.n.a, .string t.n.b, .string t.n.c, .int .i64 t.n.kids] 81)
  obtain ⟨Y, hY⟩ : ∃ Y, W.alloc (.cells #[.int .i64 t.n.kind, .int .i64 t.n.num, .string t.n.a, .string t.n.b, .string t.n.c, .int .i64 t.n.kids] 81) = Y := ⟨_, rfl⟩
  rw [hY] at hA hB1
  have HY := hid hY
  have HA := hid hA
  have S0 := hid (h.below hB1)
  have F0 := hid (Cf.of_below hB1)
  have N0 := hid (hv.frame (Cf.of_below hB1))
  have G0 := hid (Cf.refl Y)
  have R0 := hid (Rs.refl ns K s)
  have hgood := hs.toGood
  have HC : Hid (2 ≤ t.k.count ∧ t.k.count ≤ 6 ∧ t.n.kids = (t.k.count : Int) ∧ ∀ c ∈ t.kids.drop 1, c.n.kids = 1 ∧ c.k.count = 1) := ⟨((arity_at hgood).2.1 (by rcases ek with e | e <;> rw [e] <;> rfl)).1, ((arity_at hgood).2.1 (by rcases ek with e | e <;> rw [e] <;> rfl)).2, hs.kids, hs.head ek⟩
  have HZ : Hid ((t.kid 0).size + (t.kid 1).size + ((t.kids.drop 2).map Tp.size).sum + 1 = t.size ∧ 1 ≤ (t.kid 0).size ∧ 1 ≤ (t.kid 1).size ∧ (t.kid 1).k.count = 1 ∧ ((t.kid 1).kid 0).size + 1 = (t.kid 1).size) := by have e0 := kidsM HC.out.1; have e1 := (HC.out.2.2.2 (t.kid 1) (by rw [e0.1]; simp)).2; exact ⟨e0.2, (t.kid 0).size_pos, (t.kid 1).size_pos, e1, (kids1 e1).2⟩
  have hp0 : (0 : Int) ≤ (t.at_ : Int) := by omega
  have hpl : (t.at_ : Int) < (ns.length : Int) := by omega
  have HP1 : Hid (0 < t.k.count → wrap64 ((t.at_ : Int) + 1) = ((t.kid 0).at_ : Int)) := fun h0 => by rw [hs.first h0]; have := cx.tl; unfold wrap64; omega
  have HX := hid cx
  have HIH := hid ih
  have HS := hid hs
  have HK := hid (And.intro hK (And.intro hF hk1))
  have HB := hid hB
  clear hA hB1 hY h hv hnc hlt hat hsz hgood cx ih hs hK hF hB hk1
  go_enter Tryz.func43, Tryz.ntmps43
  go_upto_region 1 with fail
  rw [HY.out]
  clear HY c0 c1 c2 c3 c4 c5 d1
  obtain ⟨kd, hkd⟩ : ∃ kd, t.n.kind = kd := ⟨_, rfl⟩
  obtain ⟨kc, hkc⟩ : ∃ kc : Nat, t.k.count = kc := ⟨_, rfl⟩
  have hkk : t.n.kids = (kc : Int) := by rw [← hkc]; exact HC.out.2.2.1
  have HKc := hid hkc
  have HKd := hid hkd
  obtain ⟨z, hz⟩ : ∃ z : Int, (if t.n.kind = 23 then 1 else 0) = z := ⟨_, rfl⟩
  have HZz : Hid ((if (kd == 23) = true then (1 : Int) else 0) = z) := by show _ = _; rw [← hz, hkd]; simp
  have HZq := hid hz
  have HW2 : Hid (wrap64 ((kc : Int) - 2) = t.n.kids - 2) := by show _ = _; have := HC.out; rw [hkk]; unfold wrap64; omega
  have HP2 : Hid (wrap64 (((t.kid 1).at_ : Int) + 1) = (((t.kid 1).kid 0).at_ : Int)) := by show _ = _; have h1 := HS.out.kid (i := 1) (by have := HC.out; omega); rw [h1.first (by have := HZ.out; omega)]; have := h1.lt; have := HX.out.tl; unfold wrap64; omega
  have hr0 : (0 : Int) ≤ ((t.kid 1).at_ : Int) := by omega
  have hrl : ((t.kid 1).at_ : Int) < (ns.length : Int) := by have := (HS.out.kid (i := 1) (by have := HC.out; omega)).lt; omega
  have HCr : Hid (∀ X, NodesAt X b off ns → X.cell? ⟨b, off + (t.kid 1).at_ * 6 + 2, none⟩ = some (.string (t.kid 1).n.a)) := fun X hX => by have h1 := (HS.out.kid (i := 1) (by have := HC.out; omega)).lt; rw [hX _ h1.1 2 (by omega), h1.2.1]; rfl
  rw [hkd] at HA
  rw [hkk] at HA
  clear hkd hkc hz ek
  have hbx := (G0.out.block W.heap.size _ _ HA.out (by decide) (by decide) (by decide)).trans HA.out
  have e0 := cell_of_heap hbx 0
  have e1 := cell_of_heap hbx 1
  have e2 := cell_of_heap hbx 2
  have e3 := cell_of_heap hbx 3
  have e4 := cell_of_heap hbx 4
  have e5 := cell_of_heap hbx 5
  have d0 := S0.out.effs
  have d1 := S0.out.tree
  simp at e0 e1 e2 e3 e4 e5
  clear hbx
  try rw [HKd.out]
  try rw [hkk]
  go_wp2_with fail
  clear e0 e1 e2 e3 e4 e5 d0 d1
  refine (one_calls (kd == 23) Y).mono ?_
  rintro e Xo ⟨rfl, rfl⟩
  rw [HZz.out]
  have hbx := (G0.out.block W.heap.size _ _ HA.out (by decide) (by decide) (by decide)).trans HA.out
  have e0 := cell_of_heap hbx 0
  have e1 := cell_of_heap hbx 1
  have e2 := cell_of_heap hbx 2
  have e3 := cell_of_heap hbx 3
  have e4 := cell_of_heap hbx 4
  have e5 := cell_of_heap hbx 5
  have d0 := S0.out.effs
  have d1 := S0.out.tree
  simp at e0 e1 e2 e3 e4 e5
  clear hbx
  go_wp2_with fail
  clear e0 e1 e2 e3 e4 e5 d0 d1
  refine (putM_calls ⟨21, 0, z, 0⟩ S0.out (by have r := R0.out.cost; have hb := HB.out; have hz := HZ.out; omega)).mono ?_
  rintro e X1 ⟨rfl, h1, g1⟩
  obtain ⟨n1, hn1⟩ : ∃ n, (s).out.length = n := ⟨_, rfl⟩
  rw [hn1]
  have H1 := hid hn1
  have tn : n1 < (Cs.put (s) ⟨21, 0, z, 0⟩).out.length := by rw [← hn1]; simp [Cs.put]
  have S1 := hid h1
  have G1 : Hid (Cf Y X1) := G0.out.trans g1
  have Q1 := hid (Rs.put ns K (s) ⟨21, 0, z, 0⟩)
  have R1 := hid (R0.out.trans Q1.out)
  have Tn1_1 := hid tn
  clear h1 g1 hn1 tn
  have hbx := (G1.out.block W.heap.size _ _ HA.out (by decide) (by decide) (by decide)).trans HA.out
  have e0 := cell_of_heap hbx 0
  have e1 := cell_of_heap hbx 1
  have e2 := cell_of_heap hbx 2
  have e3 := cell_of_heap hbx 3
  have e4 := cell_of_heap hbx 4
  have e5 := cell_of_heap hbx 5
  have d0 := S1.out.effs
  have d1 := S1.out.tree
  simp at e0 e1 e2 e3 e4 e5
  clear hbx
  go_wp2_with fail
  clear e0 e1 e2 e3 e4 e5 d0 d1
  rw [HP1.out (by have := HC.out; omega)]
  refine (HIH.out (t.kid 0) (ss) ((Cs.put (s) ⟨21, 0, z, 0⟩)) _ _ (by have := HZ.out; have := HK.out; omega) (HS.out.kid (by have := HC.out; omega)) (by have := HK.out; have := HZ.out; (try simp only [List.length_append, List.length_cons, List.length_nil]); omega) (by have r := R1.out.cost; have hb := HB.out; have hz := HZ.out; omega) S1.out (N0.out.frame G1.out)).mono ?_
  rintro e X2 ⟨⟨x2, rfl⟩, h1, g1⟩
  have S2 := hid h1
  have G2 : Hid (Cf Y X2) := G1.out.trans g1
  have Q2 := hid (part_r (ns := ns) (K := K) (es := es) F (t.kid 0) (ss) ((Cs.put (s) ⟨21, 0, z, 0⟩)) (by have := HZ.out; have := HK.out; omega) (HS.out.kid (by have := HC.out; omega)) (by have := HK.out; have := HZ.out; (try simp only [List.length_append, List.length_cons, List.length_nil]); omega))
  have R2 := hid (R1.out.trans Q2.out)
  have Tn1_2 := hid (Nat.lt_of_lt_of_le Tn1_1.out Q2.out.out)
  clear h1 g1
  have hbx := (G2.out.block W.heap.size _ _ HA.out (by decide) (by decide) (by decide)).trans HA.out
  have e0 := cell_of_heap hbx 0
  have e1 := cell_of_heap hbx 1
  have e2 := cell_of_heap hbx 2
  have e3 := cell_of_heap hbx 3
  have e4 := cell_of_heap hbx 4
  have e5 := cell_of_heap hbx 5
  have d0 := S2.out.effs
  have d1 := S2.out.tree
  simp at e0 e1 e2 e3 e4 e5
  clear hbx
  go_wp2_with fail
  clear e0 e1 e2 e3 e4 e5 d0 d1
  refine (putM_calls ⟨23, 0, 0, 0⟩ S2.out (by have r := R2.out.cost; have hb := HB.out; have hz := HZ.out; omega)).mono ?_
  rintro e X3 ⟨rfl, h1, g1⟩
  obtain ⟨n3, hn3⟩ : ∃ n, ((partZ es F (t.kid 0) (ss) ((Cs.put (s) ⟨21, 0, z, 0⟩)))).out.length = n := ⟨_, rfl⟩
  rw [hn3]
  have H3 := hid hn3
  have tn : n3 < (Cs.put ((partZ es F (t.kid 0) (ss) ((Cs.put (s) ⟨21, 0, z, 0⟩)))) ⟨23, 0, 0, 0⟩).out.length := by rw [← hn3]; simp [Cs.put]
  have S3 := hid h1
  have G3 : Hid (Cf Y X3) := G2.out.trans g1
  have Q3 := hid (Rs.put ns K ((partZ es F (t.kid 0) (ss) ((Cs.put (s) ⟨21, 0, z, 0⟩)))) ⟨23, 0, 0, 0⟩)
  have R3 := hid (R2.out.trans Q3.out)
  have Tn1_3 := hid (Nat.lt_of_lt_of_le Tn1_2.out Q3.out.out)
  have Tn3_3 := hid tn
  clear h1 g1 hn3 tn
  have hbx := (G3.out.block W.heap.size _ _ HA.out (by decide) (by decide) (by decide)).trans HA.out
  have e0 := cell_of_heap hbx 0
  have e1 := cell_of_heap hbx 1
  have e2 := cell_of_heap hbx 2
  have e3 := cell_of_heap hbx 3
  have e4 := cell_of_heap hbx 4
  have e5 := cell_of_heap hbx 5
  have d0 := S3.out.effs
  have d1 := S3.out.tree
  simp at e0 e1 e2 e3 e4 e5
  clear hbx
  go_wp2_with fail
  clear e0 e1 e2 e3 e4 e5 d0 d1
  refine (lead_calls n1 0 S3.out (by have r := R3.out.cost; have hb := HB.out; have hz := HZ.out; omega) Tn1_3.out (by decide)).mono ?_
  rintro e X4 ⟨⟨x4, rfl⟩, h1, g1⟩
  have S4 := hid h1
  have G4 : Hid (Cf Y X4) := G3.out.trans g1
  have Q4 := hid (Rs.lead ns K ((Cs.put ((partZ es F (t.kid 0) (ss) ((Cs.put (s) ⟨21, 0, z, 0⟩)))) ⟨23, 0, 0, 0⟩)) n1 0)
  have R4 := hid (R3.out.trans Q4.out)
  have Tn1_4 := hid (Nat.lt_of_lt_of_le Tn1_3.out Q4.out.out)
  have Tn3_4 := hid (Nat.lt_of_lt_of_le Tn3_3.out Q4.out.out)
  clear h1 g1
  have hbx := (G4.out.block W.heap.size _ _ HA.out (by decide) (by decide) (by decide)).trans HA.out
  have e0 := cell_of_heap hbx 0
  have e1 := cell_of_heap hbx 1
  have e2 := cell_of_heap hbx 2
  have e3 := cell_of_heap hbx 3
  have e4 := cell_of_heap hbx 4
  have e5 := cell_of_heap hbx 5
  have d0 := S4.out.effs
  have d1 := S4.out.tree
  simp at e0 e1 e2 e3 e4 e5
  clear hbx
  go_wp2_with fail
  clear e0 e1 e2 e3 e4 e5 d0 d1
  rw [HW2.out]
  refine (putM_calls ⟨24, 0, t.n.kids - 2, 0⟩ S4.out (by have r := R4.out.cost; have hb := HB.out; have hz := HZ.out; omega)).mono ?_
  rintro e X5 ⟨rfl, h1, g1⟩
  obtain ⟨n5, hn5⟩ : ∃ n, ((Cs.lead ((Cs.put ((partZ es F (t.kid 0) (ss) ((Cs.put (s) ⟨21, 0, z, 0⟩)))) ⟨23, 0, 0, 0⟩)) n1 0)).out.length = n := ⟨_, rfl⟩
  rw [hn5]
  have H5 := hid hn5
  have tn : n5 < (Cs.put ((Cs.lead ((Cs.put ((partZ es F (t.kid 0) (ss) ((Cs.put (s) ⟨21, 0, z, 0⟩)))) ⟨23, 0, 0, 0⟩)) n1 0)) ⟨24, 0, t.n.kids - 2, 0⟩).out.length := by rw [← hn5]; simp [Cs.put]
  have S5 := hid h1
  have G5 : Hid (Cf Y X5) := G4.out.trans g1
  have Q5 := hid (Rs.put ns K ((Cs.lead ((Cs.put ((partZ es F (t.kid 0) (ss) ((Cs.put (s) ⟨21, 0, z, 0⟩)))) ⟨23, 0, 0, 0⟩)) n1 0)) ⟨24, 0, t.n.kids - 2, 0⟩)
  have R5 := hid (R4.out.trans Q5.out)
  have Tn1_5 := hid (Nat.lt_of_lt_of_le Tn1_4.out Q5.out.out)
  have Tn3_5 := hid (Nat.lt_of_lt_of_le Tn3_4.out Q5.out.out)
  have Tn5_5 := hid tn
  clear h1 g1 hn5 tn
  have hbx := (G5.out.block W.heap.size _ _ HA.out (by decide) (by decide) (by decide)).trans HA.out
  have e0 := cell_of_heap hbx 0
  have e1 := cell_of_heap hbx 1
  have e2 := cell_of_heap hbx 2
  have e3 := cell_of_heap hbx 3
  have e4 := cell_of_heap hbx 4
  have e5 := cell_of_heap hbx 5
  have d0 := S5.out.effs
  have d1 := S5.out.tree
  simp at e0 e1 e2 e3 e4 e5
  clear hbx
  go_wp2_with fail
  clear e0 e1 e2 e3 e4 e5 d0 d1
  refine (kid_calls (cap := cap) 1 X5 (cx_nodes HX.out S5.out) HX.out.tl HS.out (by have := HC.out; omega)).mono ?_
  rintro e Xk ⟨rfl, rfl⟩
  have hbx := (G5.out.block W.heap.size _ _ HA.out (by decide) (by decide) (by decide)).trans HA.out
  have e0 := cell_of_heap hbx 0
  have e1 := cell_of_heap hbx 1
  have e2 := cell_of_heap hbx 2
  have e3 := cell_of_heap hbx 3
  have e4 := cell_of_heap hbx 4
  have e5 := cell_of_heap hbx 5
  have d0 := S5.out.effs
  have d1 := S5.out.tree
  simp at e0 e1 e2 e3 e4 e5
  clear hbx
  have cr := HCr.out X5 (cx_nodes HX.out S5.out)
  go_wp2_with fail
  clear e0 e1 e2 e3 e4 e5 d0 d1
  clear cr
  refine (withN_calls (ss := ss) (ms := [(t.kid 1).n.a]) _ ((N0.out.frame G5.out).names.below ((Below.refl _ _).alloc (Nat.le_refl _) _)) (lit_names X5 [(t.kid 1).n.a]) (by have := HK.out; have := HZ.out; simp only [List.length_cons, List.length_nil]; omega)).mono ?_
  rintro e X6 ⟨u6, rfl, hu6, hb6⟩
  have B6 : Below X5.heap.size X5 X6 := ((Below.refl _ _).alloc (Nat.le_refl _) _).trans (hb6.mono (by simp))
  have U6 := hid hu6
  have S6 := hid (S5.out.below B6)
  have G6 : Hid (Cf Y X6) := G5.out.trans (Cf.of_below B6)
  have R6 := R5
  have Tn1_6 := Tn1_5
  have Tn3_6 := Tn3_5
  have Tn5_6 := Tn5_5
  clear hu6 hb6 B6
  have hbx := (G6.out.block W.heap.size _ _ HA.out (by decide) (by decide) (by decide)).trans HA.out
  have e0 := cell_of_heap hbx 0
  have e1 := cell_of_heap hbx 1
  have e2 := cell_of_heap hbx 2
  have e3 := cell_of_heap hbx 3
  have e4 := cell_of_heap hbx 4
  have e5 := cell_of_heap hbx 5
  have d0 := S6.out.effs
  have d1 := S6.out.tree
  simp at e0 e1 e2 e3 e4 e5
  clear hbx
  go_wp2_with fail
  clear e0 e1 e2 e3 e4 e5 d0 d1
  rw [HP2.out]
  refine (wait_calls ⟨(t.kid 1).kid 0, ss ++ [(t.kid 1).n.a], n5, 0⟩ S6.out (by have hl := later_le ((Cs.put ((Cs.lead ((Cs.put ((partZ es F (t.kid 0) (ss) ((Cs.put (s) ⟨21, 0, z, 0⟩)))) ⟨23, 0, 0, 0⟩)) n1 0)) ⟨24, 0, t.n.kids - 2, 0⟩)); have r := R6.out.cost; have hb := HB.out; have hz := HZ.out; omega) (U6.out.frame (Cf.refl _))).mono ?_
  rintro e X7 ⟨⟨x7, rfl⟩, h1, g1⟩
  have S7 := hid h1
  have G7 : Hid (Cf Y X7) := G6.out.trans g1
  have Q7 := hid (Rs.wait (ns := ns) (K := K) (s := (Cs.put ((Cs.lead ((Cs.put ((partZ es F (t.kid 0) (ss) ((Cs.put (s) ⟨21, 0, z, 0⟩)))) ⟨23, 0, 0, 0⟩)) n1 0)) ⟨24, 0, t.n.kids - 2, 0⟩)) (l := ⟨(t.kid 1).kid 0, ss ++ [(t.kid 1).n.a], n5, 0⟩) ((HS.out.kid (i := 1) (by have := HC.out; omega)).kid (by have := HZ.out; omega)) (by have := HK.out; have := HZ.out; simp only [List.length_append, List.length_cons, List.length_nil]; omega) Tn5_6.out)
  have R7 := hid (R6.out.trans Q7.out)
  have Tn1_7 := hid (Nat.lt_of_lt_of_le Tn1_6.out Q7.out.out)
  have Tn3_7 := hid (Nat.lt_of_lt_of_le Tn3_6.out Q7.out.out)
  have Tn5_7 := hid (Nat.lt_of_lt_of_le Tn5_6.out Q7.out.out)
  have D6_7 : Hid (Cf X6 X7) := g1
  clear h1 g1
  obtain ⟨sB, hsB⟩ : ∃ x, (Cs.wait ((Cs.put ((Cs.lead ((Cs.put ((partZ es F (t.kid 0) (ss) ((Cs.put (s) ⟨21, 0, z, 0⟩)))) ⟨23, 0, 0, 0⟩)) n1 0)) ⟨24, 0, t.n.kids - 2, 0⟩)) ⟨(t.kid 1).kid 0, ss ++ [(t.kid 1).n.a], n5, 0⟩) = x := ⟨_, rfl⟩
  rw [hsB] at S7 R7 Tn1_7
  have HsB := hid hsB
  clear hsB
  have hbx := (G7.out.block W.heap.size _ _ HA.out (by decide) (by decide) (by decide)).trans HA.out
  have e0 := cell_of_heap hbx 0
  have e1 := cell_of_heap hbx 1
  have e2 := cell_of_heap hbx 2
  have e3 := cell_of_heap hbx 3
  have e4 := cell_of_heap hbx 4
  have e5 := cell_of_heap hbx 5
  have d0 := S7.out.effs
  have d1 := S7.out.tree
  simp at e0 e1 e2 e3 e4 e5
  clear hbx
  go_wp2_with fail
  clear e0 e1 e2 e3 e4 e5 d0 d1
  go_loopw [10] (fun i wr => ∃ (j : Nat) (z : Int), i = .int .i64 z ∧ z = 2 + (j : Int) ∧ 2 + j ≤ kc ∧ Hid (CmE W0 Mb (.slice ae es.length ce) (.slice (some ⟨b, off, none⟩) ns.length cap) (((t.kids.drop 2).take j).foldl (opZ es ss) sB) wr ∧ Cf Y wr ∧ Rs ns K (10 * (((t.kids.drop 2).take j).map Tp.size).sum) ((((t.kids.drop 2).take j).map Tp.size).sum) sB (((t.kids.drop 2).take j).foldl (opZ es ss) sB))) (fun i _ => (kc - (intOf i).toNat))
  case atStart => exact ⟨0, _, rfl, rfl, by have := HC.out; have := HKc.out; omega, S7.out, G7.out, Rs.refl ns K sB⟩
  case round =>
    obtain ⟨j, z, rfl, hzj, hj, HI⟩ := hrel
    have hbx := (HI.out.2.1.block W.heap.size _ _ HA.out (by decide) (by decide) (by decide)).trans HA.out
    have e0 := cell_of_heap hbx 0
    have e1 := cell_of_heap hbx 1
    have e2 := cell_of_heap hbx 2
    have e3 := cell_of_heap hbx 3
    have e4 := cell_of_heap hbx 4
    have e5 := cell_of_heap hbx 5
    have d0 := HI.out.1.effs
    have d1 := HI.out.1.tree
    simp at e0 e1 e2 e3 e4 e5
    clear hbx
    by_cases hjc : z < (kc : Int)
    · have hjl : j < (t.kids.drop 2).length := by rw [List.length_drop, t.kids_len, HKc.out]; omega
      have HN := hid (And.intro (sum_next hjl) (And.intro (take_next hjl) hjl))
      have hgd : (t.kids.drop 2).getD j default = t.kid (2 + j) := by unfold Tp.kid; simp [List.getD, List.getElem?_drop]
      obtain ⟨c, hc⟩ : ∃ c, t.kid (2 + j) = c := ⟨_, rfl⟩
      have HCs : Hid (Stands ns c ∧ c.k.count = 1) := by
        rw [← hc]
        refine ⟨HS.out.kid (by have := HKc.out; omega), (HC.out.2.2.2 _ ?_).2⟩
        have h1 : t.kid (2 + j) ∈ t.kids.drop 2 := by rw [← hgd]; exact getD_mem hjl
        rw [show (2 : Nat) = 1 + 1 from rfl, ← List.drop_drop] at h1
        exact List.mem_of_mem_drop h1
      have HKd2 := hid (kid_calls (cap := cap) (2 + j) wr (cx_nodes HX.out HI.out.1) HX.out.tl HS.out (by have := HKc.out; omega))
      rw [hc, show ((2 + j : Nat) : Int) = z by omega] at HKd2
      rw [hgd, hc] at HN
      have hzs : wrap64 (z + 1) = z + 1 := by have := HC.out; have := HKc.out; unfold wrap64; omega
      have HZs := hid hzs
      have HJ := hid (And.intro hzj (And.intro hj hc))
      have hstep : kc - (intOf (.int .i64 (z + 1))).toNat < kc - (intOf (.int .i64 z)).toNat := by simp only [intOf]; omega
      obtain ⟨hl0, hl1, -⟩ := HCs.out.1.lt
      have hnc := cx_nodes HX.out HI.out.1
      have b0 := hnc c.at_ hl0 0 (by omega)
      have b1 := hnc c.at_ hl0 1 (by omega)
      have b2 := hnc c.at_ hl0 2 (by omega)
      have b3 := hnc c.at_ hl0 3 (by omega)
      have b4 := hnc c.at_ hl0 4 (by omega)
      have b5 := hnc c.at_ hl0 5 (by omega)
      rw [hl1] at b0 b1 b2 b3 b4 b5
      simp only [Nd.cell, Nat.add_zero] at b0 b1 b2 b3 b4 b5
      have hc0 : (0 : Int) ≤ (c.at_ : Int) := by omega
      have hcl : (c.at_ : Int) < (ns.length : Int) := by omega
      have HP3 : Hid (wrap64 ((c.at_ : Int) + 1) = ((c.kid 0).at_ : Int)) := by show _ = _; rw [HCs.out.1.first (by have := HCs.out.2; omega)]; have := HX.out.tl; unfold wrap64; omega
      have hA2 := (MapKept.heap_alloc wr (.cells #[.int .i64 c.n.kind, .int .i64 c.n.num, .string c.n.a, .string c.n.b, .string c.n.c, .int .i64 c.n.kids] 81)).1
      have hB2 := (Below.refl wr.heap.size wr).alloc (Nat.le_refl _) (.cells #[.int .i64 c.n.kind, .int .i64 c.n.num, .string c.n.a, .string c.n.b, .string c.n.c, .int .i64 c.n.kids] 81)
      obtain ⟨V, hV⟩ : ∃ V, wr.alloc (.cells #[.int .i64 c.n.kind, .int .i64 c.n.num, .string c.n.a, .string c.n.b, .string c.n.c, .int .i64 c.n.kids] 81) = V := ⟨_, rfl⟩
      rw [hV] at hA2 hB2
      have HV := hid hV
      have HA2 := hid hA2
      have HB2 := hid hB2
      have V0 := hid (HI.out.1.below hB2)
      have Vf := hid (HI.out.2.1.trans (Cf.of_below hB2))
      clear hA2 hB2 hV hzs hc hjl hgd hl0 hl1 hnc hzj hj
      go_wp2_with fail
      refine HKd2.out.mono ?_
      rintro e Xk ⟨rfl, rfl⟩
      clear e0 e1 e2 e3 e4 e5
      go_upto_region 13 with fail
      rw [HV.out]
      clear HV b0 b1 b2 b3 b4 b5 d0 d1
      have g2 := cell_of_heap HA2.out 2
      have g3 := cell_of_heap HA2.out 3
      have g4 := cell_of_heap HA2.out 4
      simp at g2 g3 g4
      have hD : Below V.heap.size V V.drew := (Below.refl _ _).drew
      obtain ⟨D, hDe⟩ : ∃ D, V.drew = D := ⟨_, rfl⟩
      rw [hDe] at hD
      have D0 := hid (V0.out.below hD)
      have Df := hid (Vf.out.trans (Cf.of_below hD))
      have DA := hid ((hD.block wr.heap.size (heap_lt HA2.out)).trans HA2.out)
      have hS : (fun w' : World => w'.cell? ⟨Mb, 0, none⟩ = some (.slice ae es.length ce) ∧ w'.cell? ⟨wr.heap.size, 2, none⟩ = some (.string c.n.a) ∧ w'.cell? ⟨wr.heap.size, 3, none⟩ = some (.string c.n.b) ∧ w'.cell? ⟨wr.heap.size, 4, none⟩ = some (.string c.n.c)) D := ⟨D0.out.effs, cell_of_heap DA.out 2, cell_of_heap DA.out 3, cell_of_heap DA.out 4⟩
      refine pick_begin (S := fun w' => w'.cell? ⟨Mb, 0, none⟩ = some (.slice ae es.length ce) ∧ w'.cell? ⟨wr.heap.size, 2, none⟩ = some (.string c.n.a) ∧ w'.cell? ⟨wr.heap.size, 3, none⟩ = some (.string c.n.b) ∧ w'.cell? ⟨wr.heap.size, 4, none⟩ = some (.string c.n.c)) (by kernel_rfl) rfl rfl ?_
      rw [hDe]
      clear hDe hD g2 g3 g4
      refine pick_op (i := 0) (v := .pointer (some ⟨Mb, 0, none⟩)) (by kernel_rfl) rfl (by kernel_rfl) (by kernel_rfl) rfl rfl (fun w' _ => by simp [go_sem]) hS (by simp [go_sem]; exact rfl) ?_
      refine pick_op (i := 1) (v := .int .i64 (c.at_ : Int)) (by kernel_rfl) rfl (by kernel_rfl) (by kernel_rfl) rfl rfl (fun w' _ => by simp [go_sem]) hS (by simp [go_sem]; exact rfl) ?_
      refine pick_op (i := 2) (v := .int .i64 (wrap64 ((c.at_ : Int) + 1))) (by kernel_rfl) rfl (by kernel_rfl) (by kernel_rfl) rfl rfl (fun w' _ => by simp [go_sem]; exact IntWalk.i64_left _) hS (by simp [go_sem]; exact rfl) ?_
      refine pick_op (i := 3) (v := .slice adn ss.length cpn) (by kernel_rfl) rfl (by kernel_rfl) (by kernel_rfl) rfl rfl (fun w' _ => by simp [go_sem]) hS (by simp [go_sem]; exact rfl) ?_
      refine pick_op (i := 4) (v := .pointer (some ⟨wr.heap.size, 3, none⟩)) (by kernel_rfl) rfl (by kernel_rfl) (by kernel_rfl) rfl rfl (fun w' _ => by simp [go_sem]) hS (by simp [go_sem]; exact rfl) ?_
      refine pick_op (i := 5) (v := .string c.n.b) (by kernel_rfl) rfl (by kernel_rfl) (by kernel_rfl) rfl rfl (fun w' h => by simp [go_sem, h.2.2.1]) hS (by simp [go_sem]; exact rfl) ?_
      refine pick_op (i := 6) (v := .pointer (some ⟨wr.heap.size, 4, none⟩)) (by kernel_rfl) rfl (by kernel_rfl) (by kernel_rfl) rfl rfl (fun w' _ => by simp [go_sem]) hS (by simp [go_sem]; exact rfl) ?_
      refine pick_op (i := 7) (v := .string c.n.c) (by kernel_rfl) rfl (by kernel_rfl) (by kernel_rfl) rfl rfl (fun w' h => by simp [go_sem, h.2.2.2]) hS (by simp [go_sem]; exact rfl) ?_
      refine pick_op (i := 10) (v := .pointer (some ⟨Mb, 0, none⟩)) (by kernel_rfl) rfl (by kernel_rfl) (by kernel_rfl) rfl rfl (fun w' _ => by simp [go_sem]) hS (by simp [go_sem]; exact rfl) ?_
      refine pick_op (i := 11) (v := .pointer (some ⟨Mb, 0, none⟩)) (by kernel_rfl) rfl (by kernel_rfl) (by kernel_rfl) rfl rfl (fun w' _ => by simp [go_sem]) hS (by simp [go_sem]; exact rfl) ?_
      refine pick_op (i := 12) (v := .pointer (some ⟨Mb, 0, none⟩)) (by kernel_rfl) rfl (by kernel_rfl) (by kernel_rfl) rfl rfl (fun w' _ => by simp [go_sem]) hS (by simp [go_sem]; exact rfl) ?_
      refine pick_op (i := 13) (v := .pointer (some ⟨Mb, 0, none⟩)) (by kernel_rfl) rfl (by kernel_rfl) (by kernel_rfl) rfl rfl (fun w' _ => by simp [go_sem]) hS (by simp [go_sem]; exact rfl) ?_
      refine pick_op (i := 14) (v := .pointer (some ⟨Mb, 0, none⟩)) (by kernel_rfl) rfl (by kernel_rfl) (by kernel_rfl) rfl rfl (fun w' _ => by simp [go_sem]) hS (by simp [go_sem]; exact rfl) ?_
      refine pick_op (i := 15) (v := .slice ae es.length ce) (by kernel_rfl) rfl (by kernel_rfl) (by kernel_rfl) rfl rfl (fun w' h => by simp [go_sem, h.1]) hS (by simp [go_sem]; exact rfl) ?_
      refine pick_op (i := 16) (v := .pointer (some ⟨wr.heap.size, 2, none⟩)) (by kernel_rfl) rfl (by kernel_rfl) (by kernel_rfl) rfl rfl (fun w' _ => by simp [go_sem]) hS (by simp [go_sem]; exact rfl) ?_
      refine pick_op (i := 17) (v := .string c.n.a) (by kernel_rfl) rfl (by kernel_rfl) (by kernel_rfl) rfl rfl (fun w' h => by simp [go_sem, h.2.1]) hS (by simp [go_sem]; exact rfl) ?_
      rw [HP3.out]
      have hA1 : Below D.heap.size D (D.alloc (.cells #[.string c.n.b, .string c.n.c] 9)) := (Below.refl _ _).alloc (Nat.le_refl _) _
      have hq := heap_lt DA.out
      have hS1 : (fun w' : World => w'.cell? ⟨Mb, 0, none⟩ = some (.slice ae es.length ce) ∧ w'.cell? ⟨wr.heap.size, 2, none⟩ = some (.string c.n.a) ∧ w'.cell? ⟨wr.heap.size, 3, none⟩ = some (.string c.n.b) ∧ w'.cell? ⟨wr.heap.size, 4, none⟩ = some (.string c.n.c)) (D.alloc (.cells #[.string c.n.b, .string c.n.c] 9)) := ⟨(hA1.cell (heap_at D0.out)).trans hS.1, (hA1.cell hq).trans hS.2.1, (hA1.cell hq).trans hS.2.2.1, (hA1.cell hq).trans hS.2.2.2⟩
      refine pick_make (i := 8) (v := .slice (some ⟨D.heap.size, 0, none⟩) 2 2) (w1 := D.alloc (.cells #[.string c.n.b, .string c.n.c] 9)) rfl (by kernel_rfl) rfl rfl (by simp [go_sem]) hS1 (by simp [go_sem]; exact rfl) ?_
      refine pick_enter (i := 9) (f := 40) (args := #[.slice adn ss.length cpn, .slice (some ⟨D.heap.size, 0, none⟩) 2 2]) rfl (by kernel_rfl) rfl rfl (by simp [go_sem]) ?_
      refine (withN_calls (ss := ss) (ms := [c.n.b, c.n.c]) _ ((N0.out.frame Df.out).names.below hA1) (lit_names D [c.n.b, c.n.c]) (by have := HK.out; simp only [List.length_cons, List.length_nil]; omega)).mono ?_
      rintro e E1 ⟨u1, rfl, hu1, hb1⟩
      have B1 : Below D.heap.size D E1 := hA1.trans (hb1.mono (by simp))
      have hS2 : (fun w' : World => w'.cell? ⟨Mb, 0, none⟩ = some (.slice ae es.length ce) ∧ w'.cell? ⟨wr.heap.size, 2, none⟩ = some (.string c.n.a) ∧ w'.cell? ⟨wr.heap.size, 3, none⟩ = some (.string c.n.b) ∧ w'.cell? ⟨wr.heap.size, 4, none⟩ = some (.string c.n.c)) E1 := ⟨(B1.cell (heap_at D0.out)).trans hS.1, (B1.cell hq).trans hS.2.1, (B1.cell hq).trans hS.2.2.1, (B1.cell hq).trans hS.2.2.2⟩
      have U1 := hid hu1
      have E0 := hid (D0.out.below B1)
      have Ef := hid (Df.out.trans (Cf.of_below B1))
      have EA := hid ((B1.block wr.heap.size hq).trans DA.out)
      clear hu1 hb1 B1 hS hS1 hA1 hq
      refine ⟨u1, rfl, hS2, ?_⟩
      refine pick_frame (by simp [go_sem]; exact rfl) ?_
      refine pick_enter (i := 18) (f := 36) (args := #[.slice ae es.length ce, .string c.n.a]) rfl (by kernel_rfl) rfl rfl (by simp [go_sem]) ?_
      refine (l2Eff_calls ae ce es c.n.a E1 (by have := HX.out.el; omega) (cx_effs HX.out E0.out)).mono ?_
      rintro e Xk ⟨rfl, rfl⟩
      refine ⟨_, rfl, hS2, ?_⟩
      refine pick_frame (by simp [go_sem]; exact rfl) ?_
      refine pick_op (i := 19) (v := .agg #[.int .i64 25, .int .i64 (effPlace es c.n.a 0), .int .i64 0, .int .i64 0]) (by kernel_rfl) rfl (by kernel_rfl) (by kernel_rfl) rfl rfl (fun w' _ => by simp [go_sem]) hS2 (by simp [go_sem]; exact rfl) ?_
      refine pick_enter (i := 20) (f := 18) (args := #[.pointer (some ⟨Mb, 0, none⟩), .agg #[.int .i64 25, .int .i64 (effPlace es c.n.a 0), .int .i64 0, .int .i64 0]]) rfl (by kernel_rfl) rfl rfl (by simp [go_sem]) ?_
      obtain ⟨s1, hs1⟩ : ∃ x, ((t.kids.drop 2).take j).foldl (opZ es ss) sB = x := ⟨_, rfl⟩
      have HS1 := hid hs1
      have R1 := hid HI.out.2.2
      rw [hs1] at E0 R1
      have Rc := R7
      have HL : Hid (s1.out.length + 10 * s1.rest + 10 * c.size ≤ 950000) := by show _ ≤ _; have h1 := R1.out.cost; have h2 := Rc.out.cost; have h3 := HN.out.1; have h4 := HZ.out; have h5 := HB.out; omega
      refine (putM_calls ⟨25, effPlace es c.n.a 0, 0, 0⟩ E0.out (by have := HL.out; omega)).mono ?_
      rintro e E2 ⟨rfl, h2, g2⟩
      obtain ⟨m1, hm1⟩ : ∃ m, s1.out.length = m := ⟨_, rfl⟩
      rw [hm1]
      have HM1 := hid hm1
      have P0 := hid h2
      have Pf := hid (Ef.out.trans g2)
      have PU := hid (U1.out.frame g2)
      have PA := hid ((g2.block wr.heap.size _ _ EA.out (by decide) (by decide) (by decide)).trans EA.out)
      clear h2 g2 hS2 hm1 hs1
      refine ⟨_, rfl, ⟨P0.out.effs, cell_of_heap PA.out 2, cell_of_heap PA.out 3, cell_of_heap PA.out 4⟩, ?_⟩
      refine pick_frame (by simp [go_sem]; exact rfl) ?_
      refine pick_enter (i := 21) (f := 39) (args := #[.pointer (some ⟨Mb, 0, none⟩), .int .i64 ((c.kid 0).at_ : Int), u1, .int .i64 (m1 : Int), .int .i64 (1 : Int)]) rfl (by kernel_rfl) rfl rfl (by simp [go_sem]) ?_
      refine (wait_calls ⟨c.kid 0, ss ++ [c.n.b, c.n.c], m1, 1⟩ P0.out (by have h1 := later_le (s1.put ⟨25, effPlace es c.n.a 0, 0, 0⟩); have h2 := HL.out; have h3 : (s1.put ⟨25, effPlace es c.n.a 0, 0, 0⟩).rest = s1.rest := rfl; omega) PU.out).mono ?_
      rintro e E3 ⟨⟨x3, rfl⟩, h3, g3⟩
      have Q0 := hid h3
      have Qf := hid (Pf.out.trans g3)
      have QA := hid ((g3.block wr.heap.size _ _ PA.out (by decide) (by decide) (by decide)).trans PA.out)
      clear h3 g3
      refine ⟨x3, rfl, ⟨Q0.out.effs, cell_of_heap QA.out 2, cell_of_heap QA.out 3, cell_of_heap QA.out 4⟩, ?_⟩
      refine pick_frame (by simp [go_sem]; exact rfl) ?_
      refine pick_end (by kernel_rfl) ?_
      have HI2 : Hid (CmE W0 Mb (.slice ae es.length ce) (.slice (some ⟨b, off, none⟩) ns.length cap) (((t.kids.drop 2).take (j + 1)).foldl (opZ es ss) sB) E3 ∧ Cf Y E3 ∧ Rs ns K (10 * (((t.kids.drop 2).take (j + 1)).map Tp.size).sum) ((((t.kids.drop 2).take (j + 1)).map Tp.size).sum) sB (((t.kids.drop 2).take (j + 1)).foldl (opZ es ss) sB)) := by
        have hr := op_r (ns := ns) (K := K) (es := es) (ss := ss) s1 c HCs.out.2 HCs.out.1 (by have h1 := HN.out.1; have := HZ.out; have := HK.out; omega)
        have hm := HM1.out
        have hq := HS1.out
        subst hm
        subst hq
        rw [HN.out.2.1, List.foldl_append]
        refine ⟨Q0.out, Qf.out, (R1.out.trans hr).mono ?_ ?_⟩
        · simp only [List.map_append, List.sum_append, List.map_cons, List.map_nil, List.sum_cons, List.sum_nil]
          omega
        · simp only [List.map_append, List.sum_append, List.map_cons, List.map_nil, List.sum_cons, List.sum_nil]
          omega
      clear Q0 Qf QA P0 Pf PU PA E0 Ef EA U1 D0 Df DA V0 Vf HA2 HB2
      go_wp2_with fail
      try rw [HZs.out]
      exact ⟨⟨j + 1, _, rfl, by have := HJ.out.1; omega, by have := HJ.out.1; omega, HI2⟩, hstep⟩
    · have HT : Hid ((t.kids.drop 2).take j = t.kids.drop 2) := List.take_of_length_le (by rw [List.length_drop, t.kids_len, HKc.out]; omega)
      rw [HT.out] at HI
      clear hzj hj HT
      go_wp2_with fail
      refine (lead_calls n1 2 HI.out.1 (by have h1 := HI.out.2.2.cost; have h2 := R7.out.cost; have h4 := HZ.out; have h5 := HB.out; omega) (Nat.lt_of_lt_of_le Tn1_7.out HI.out.2.2.out) (by decide)).mono ?_
      rintro e X9 ⟨⟨x9, rfl⟩, h9, g9⟩
      have S9 := hid h9
      have G9 := hid (HI.out.2.1.trans g9)
      clear h9 g9 e0 e1 e2 e3 e4 e5 d0 d1
      go_wp2_with fail
      go_end0
      have qz := HZq.out
      have q1 := H1.out
      have q2 := H5.out
      have q3 := HsB.out
      subst q3
      subst q2
      subst q1
      subst qz
      exact ⟨⟨_, rfl⟩, S9.out, F0.out.trans G9.out⟩

set_option maxHeartbeats 4000000 in
set_option maxRecDepth 100000 in
theorem part_h (cx : Cx W0 Mb ae b off es ns) (hk1 : K ≤ 1000) (ih : PartC W0 Mb ae ce b off cap es ns K F) {t : Tp} {ss : List ByteArray} {s : Cs} {v : Value} {W : World} (hF : t.size ≤ F + 1) (hs : Stands ns t) (hK : ss.length + 2 * t.size ≤ K) (hB : s.out.length + 10 * s.rest + 10 * t.size ≤ 950000) (h : CmE W0 Mb (.slice ae es.length ce) (.slice (some ⟨b, off, none⟩) ns.length cap) s W) (hv : NmT W v ss) (ek : t.n.kind = 23 ∨ t.n.kind = 24) :
    Calls Tryz.prog 17 #[.pointer (some ⟨Mb, 0, none⟩), .int .i64 (t.at_ : Int), v] W (LeadPost W0 Mb (.slice ae es.length ce) (.slice (some ⟨b, off, none⟩) ns.length cap) (handZ es (partZ es F) t ss s) W) := by
  obtain ⟨adn, cpn, rfl⟩ := hv.is
  have hnc := cx_nodes cx h
  obtain ⟨hlt, hat, hsz⟩ := hs.lt
  have c0 := hnc t.at_ hlt 0 (by omega)
  have c1 := hnc t.at_ hlt 1 (by omega)
  have c2 := hnc t.at_ hlt 2 (by omega)
  have c3 := hnc t.at_ hlt 3 (by omega)
  have c4 := hnc t.at_ hlt 4 (by omega)
  have c5 := hnc t.at_ hlt 5 (by omega)
  rw [hat] at c0 c1 c2 c3 c4 c5
  simp only [Nd.cell, Nat.add_zero] at c0 c1 c2 c3 c4 c5
  have d1 := h.tree
  have hA := (MapKept.heap_alloc W (.cells #[.int .i64 t.n.kind, .int .i64 t.n.num, .string t.n.a, .string t.n.b, .string t.n.c, .int .i64 t.n.kids] 81)).1
  have hB1 := (Below.refl W.heap.size W).alloc (Nat.le_refl _) (.cells #[.int .i64 t.n.kind, .int .i64 t.n.num, .string t.n.a, .string t.n.b, .string t.n.c, .int .i64 t.n.kids] 81)
  obtain ⟨Y, hY⟩ : ∃ Y, W.alloc (.cells #[.int .i64 t.n.kind, .int .i64 t.n.num, .string t.n.a, .string t.n.b, .string t.n.c, .int .i64 t.n.kids] 81) = Y := ⟨_, rfl⟩
  rw [hY] at hA hB1
  have HY := hid hY
  have HA := hid hA
  have S0 := hid (h.below hB1)
  have F0 := hid (Cf.of_below hB1)
  have N0 := hid (hv.frame (Cf.of_below hB1))
  have G0 := hid (Cf.refl Y)
  have R0 := hid (Rs.refl ns K s)
  have hgood := hs.toGood
  have HC : Hid (True) := trivial
  have HZ : Hid (1 ≤ t.size) := t.size_pos
  have hp0 : (0 : Int) ≤ (t.at_ : Int) := by omega
  have hpl : (t.at_ : Int) < (ns.length : Int) := by omega
  have HP1 : Hid (0 < t.k.count → wrap64 ((t.at_ : Int) + 1) = ((t.kid 0).at_ : Int)) := fun h0 => by rw [hs.first h0]; have := cx.tl; unfold wrap64; omega
  have HH := hid (hand_calls cx hk1 ih hF hs hK hB (h.below hB1) (hv.frame (Cf.of_below hB1)) ek)
  have HX := hid cx
  have HIH := hid ih
  have HS := hid hs
  have HK := hid (And.intro hK (And.intro hF hk1))
  have HB := hid hB
  clear hA hB1 hY h hv hnc hlt hat hsz hgood cx ih hs hK hF hB hk1
  go_enter Tryz.func17, Tryz.ntmps17
  go_upto_region 1 with fail
  rw [HY.out]
  clear HY c0 c1 c2 c3 c4 c5 d1
  obtain ⟨kd, hkd⟩ : ∃ kd, t.n.kind = kd := ⟨_, rfl⟩
  rw [hkd] at ek HA
  clear hkd
  rcases ek with rfl | rfl
  · have e0 := cell_of_heap HA.out 0
    simp at e0
    go_wp2_with fail
    refine HH.out.mono ?_
    rintro e X1 ⟨⟨x1, rfl⟩, h1, g1⟩
    have S1 := hid h1
    have G1 := hid g1
    clear h1 g1 e0
    go_wp2_with fail
    go_end0
    exact ⟨⟨_, rfl⟩, S1.out, F0.out.trans G1.out⟩
  · have e0 := cell_of_heap HA.out 0
    simp at e0
    go_wp2_with fail
    refine HH.out.mono ?_
    rintro e X1 ⟨⟨x1, rfl⟩, h1, g1⟩
    have S1 := hid h1
    have G1 := hid g1
    clear h1 g1 e0
    go_wp2_with fail
    go_end0
    exact ⟨⟨_, rfl⟩, S1.out, F0.out.trans G1.out⟩

end
end Go.Proofs.YtgiejnmphfgmgaaGreatDoor

/- The program's maker of code: the kids' code in order, and an instruction. -/
namespace Go.Proofs.YtgiejnmphfgmgaaGreatDoor
open Go.RowKit Go.Deep

theorem TRow.frame {W W' : World} {sv : Value} {us : List Value} (h : TRow W sv us) (hf : Kf W W') : TRow W' sv us := by
  rcases h with h | ⟨g, e, hg⟩
  · exact Or.inl h
  · exact Or.inr ⟨g, e, hf.keep hg (by decide) (by decide) (by decide)⟩

theorem TRow.at {W : World} {sv : Value} {us : List Value} (h : TRow W sv us) : ∃ ad cp, sv = .slice ad us.length cp ∧ ∀ j, j < us.length → ∃ g, ad = some ⟨g, 0, none⟩ ∧ W.cell? ⟨g, j, none⟩ = some (us.getD j default) := by
  rcases h with ⟨rfl, a, c, rfl⟩ | ⟨g, rfl, hg⟩
  · exact ⟨a, c, rfl, fun j hj => by simp at hj⟩
  · refine ⟨_, _, rfl, fun j hj => ⟨g, rfl, ?_⟩⟩
    rw [cell_of_heap hg j]
    simp [List.getD, hj]

theorem plain_bare (es : List Ef) (n : Nd) : plainZ es (bareZ n) = plainZ es n := by
  unfold plainZ lastZ bareZ
  dsimp only
  by_cases h1 : n.kind = 1
  · simp [h1]
  by_cases h2 : n.kind = 2
  · simp [h2]
  by_cases h22 : n.kind = 22
  · have hn : (1 : Int) ≤ namesZ 22 := by decide
    simp [h22, hn]
  · simp [h1, h2, h22]

section
variable {B : Nat} {W0 : World} {Mb : Nat} {ae : Option Addr} {ce : Nat} {es : List Ef} {ns : List Nd} {K F : Nat}

set_option maxHeartbeats 8000000 in
set_option maxRecDepth 100000 in
theorem putPlain_calls (ex : Ex W0 Mb ae es) (ih : PutC B W0 Mb (.slice ae es.length ce) es ns K F) {t : Tp} {fv : Value} {us : List Value} {kn : Option Addr} {ss : List ByteArray} {s : Cs} {W : World} (hF : t.size ≤ F + 1) (hs : Stands ns t) (hb : BdT t ss) (hK : ss.length + 2 * t.size ≤ K) (hB : s.out.length + 10 * s.rest + 10 * t.size ≤ 950000) (hP : PlainV t.n us fv) (hul : us.length = t.k.count) (hif : ∀ u ∈ us, ∃ T p, u = .iface T p) (hfk : ∀ i, i < t.k.count → FormK B W0 (t.kid i) (us.getD i default)) (hpl : ¬ (t.n.kind = 23 ∨ t.n.kind = 24)) (hkz : ∀ i, knownZ t.n i = []) (h : KmE B W0 Mb (.slice ae es.length ce) s W) (hk : KnAt W kn ss.reverse) :
    Calls Tryz.prog 63 #[.pointer (some ⟨Mb, 0, none⟩), fv, .pointer kn] W (SetP B W0 Mb (.slice ae es.length ce) ((t.kids.foldl (fun s c => partZ es F c ss s) s).put (plainZ es t.n)) W) := by
  obtain ⟨T, pv, rfl, -, ⟨g, rv, hm, hc, hKd⟩, hNd⟩ := hP
  have HZ := hid t.kids_sum
  have H0 := hid (And.intro hF (And.intro hs (And.intro hb hK)))
  have HB := hid hB
  have HK := hid hk
  have HSt := hid h
  have HIH := hid ih
  have HFk := hid hfk
  have HIf := hid hif
  have HKz := hid (And.intro hkz hpl)
  have HX := hid ex
  have HN := hid hNd
  have HKd := hid (hKd W)
  obtain ⟨kc, hkc⟩ : ∃ kc : Nat, us.length = kc := ⟨_, rfl⟩
  have HKc := hid (show kc = t.k.count by omega)
  have HUl := hid hkc
  have HSm : Hid (kc ≤ 1000000) := by
    show kc ≤ _
    have h1 := Fo.count_le t.k
    have h2 : t.size = t.k.flat.length + 1 := rfl
    have := HKc.out
    omega
  clear hF hs hb hK hB h hk hfk hif hkz hpl hKd hNd ih ex hul hkc
  go_enter Tryz.func63, Tryz.ntmps63
  go_wp2_with fail
  refine HKd.out.mono ?_
  rintro e X1 ⟨sv, rfl, htr, hb1⟩
  have S1 := hid (HSt.out.below hb1)
  have F1 := hid (Kf.of_below hb1)
  have K1 := hid (KnAt.frame (Kf.of_below hb1) _ _ HK.out)
  obtain ⟨ad, cp, rfl, -⟩ := htr.at
  have HTr := hid htr
  rw [HUl.out] at HTr ⊢
  clear htr hb1 HSt HK HKd hm hc
  go_wp2_with fail
  go_loopw [11] (fun i wr => ∃ j : Nat, i = .int .i64 (j : Int) ∧ j ≤ kc ∧ Hid (KmE B W0 Mb (.slice ae es.length ce) ((t.kids.take j).foldl (fun s c => partZ es F c ss s) s) wr ∧ Kf X1 wr ∧ Rs ns K (10 * ((t.kids.take j).map Tp.size).sum) (((t.kids.take j).map Tp.size).sum) s ((t.kids.take j).foldl (fun s c => partZ es F c ss s) s))) (fun i _ => kc - (intOf i).toNat)
  case atStart => exact ⟨0, rfl, Nat.zero_le _, S1.out, Kf.refl _, Rs.refl ns K s⟩
  case round =>
    obtain ⟨j, rfl, hj, HI⟩ := hrel
    by_cases hjl : (j : Int) < (kc : Int)
    · have hjk : j < kc := by omega
      have htr := HTr.out.frame HI.out.2.1
      obtain ⟨ad', cp', e', hcell⟩ := htr.at
      rw [HUl.out] at e' hcell
      cases e'
      obtain ⟨gr, rfl, hcj⟩ := hcell j hjk
      obtain ⟨Tj, pj, hj'⟩ := HIf.out (us.getD j default) (by rw [show us.getD j default = us[j]'(by rw [HUl.out]; exact hjk) by simp [List.getD, show j < us.length by rw [HUl.out]; exact hjk]]; exact List.getElem_mem _)
      rw [hj'] at hcj
      have hlk : j < t.kids.length := by rw [t.kids_len, ← HKc.out]; exact hjk
      have hfj := HFk.out j (by rw [← HKc.out]; exact hjk)
      rw [hj'] at hfj
      have hsj := H0.out.2.1.kid (i := j) (by rw [← HKc.out]; exact hjk)
      have hbj := H0.out.2.2.1.kid0 (i := j) (by rw [← HKc.out]; exact hjk) (HKz.out.1 j) (by have := HKz.out.2; omega)
      have hse := sum_next hlk
      have hske : t.kids.getD j default = t.kid j := rfl
      rw [hske] at hse
      have HC := hid (show (t.kid j).size ≤ F ∧ ss.length + 2 * (t.kid j).size ≤ K by have := HZ.out; have := H0.out; omega)
      have HIP := hid (HIH.out (t.kid j) _ kn ss _ wr HC.out.1 hsj hbj HC.out.2 (by have := HI.out.2.2.cost; have := HZ.out; have := HB.out; omega) hfj HI.out.1 (KnAt.frame HI.out.2.1 _ _ K1.out))
      have HR := hid (HI.out.2.2.trans (part_r (es := es) (K := K) F (t.kid j) ss ((t.kids.take j).foldl (fun s c => partZ es F c ss s) s) HC.out.1 hsj HC.out.2))
      have HNx : Hid ((t.kids.take (j + 1)).foldl (fun s c => partZ es F c ss s) s = partZ es F (t.kid j) ss ((t.kids.take j).foldl (fun s c => partZ es F c ss s) s)) := by
        show _ = _
        rw [take_next hlk, List.foldl_append]
        rfl
      have HSum : Hid (((t.kids.take (j + 1)).map Tp.size).sum = ((t.kids.take j).map Tp.size).sum + (t.kid j).size) := by
        show _ = _
        rw [take_next hlk, List.map_append, List.sum_append]
        rw [hske]
        simp
      have hi0 : (0 : Int) ≤ (j : Int) := by omega
      have HstP := hid (lt_step hjl)
      have HW1 := hid (wrap_succ (x := j) (by have := HSm.out; omega))
      clear htr hcell hj' hlk hfj hsj hbj hse hske hjk
      go_wp2_with fail
      refine HIP.out.mono ?_
      rintro e X2 ⟨⟨x2, rfl⟩, h2, f2⟩
      have HS2 := hid (And.intro h2 (HI.out.2.1.trans f2))
      clear h2 f2 HIP hcj
      go_wp2_with fail
      try rw [HW1.out]
      refine ⟨⟨j + 1, rfl, by omega, ?_⟩, HstP.out⟩
      show _ ∧ _ ∧ _
      rw [HNx.out, HSum.out]
      exact ⟨HS2.out.1, HS2.out.2, HR.out.mono (by have := (t.kid j).size_pos; omega) (by omega)⟩
    · have hjk : j = kc := by omega
      have hall : t.kids.take j = t.kids := List.take_of_length_le (by rw [t.kids_len, ← HKc.out]; omega)
      have HI2 := hid HI.out
      rw [hall] at HI2
      clear HI hall
      obtain ⟨s2, hs2⟩ : ∃ x, t.kids.foldl (fun s c => partZ es F c ss s) s = x := ⟨_, rfl⟩
      rw [hs2] at HI2
      have HS2 := hid hs2
      obtain ⟨T', pv', gn, rn, e', hm, hc, hNo⟩ := HN.out wr
      cases e'
      have HNo := hid hNo
      clear hs2 hNo hjk
      go_wp2_with fail
      refine HNo.out.mono ?_
      rintro e X3 ⟨rfl, hb3⟩
      have S3 := hid (HI2.out.1.below hb3)
      have F3 := hid ((F1.out.trans HI2.out.2.1).trans (Kf.of_below hb3))
      have HPl := hid (plainIns_calls HX.out S3.out (bareZ t.n))
      rw [plain_bare] at HPl
      clear hb3 HNo hm hc
      unfold ndV
      go_wp2_with fail
      refine HPl.out.mono ?_
      rintro e X4 ⟨rfl, hb4⟩
      have S4 := hid (S3.out.below hb4)
      have F4 := hid (F3.out.trans (Kf.of_below hb4))
      clear hb4 HPl S3 F3
      unfold insV
      go_wp2_with fail
      refine (addI_calls (plainZ es t.n) S4.out (by have := HI2.out.2.2.cost; have := HB.out; have := HZ.out; omega)).mono ?_
      rintro e X5 ⟨rfl, h5, f5⟩
      have S5 := hid (And.intro h5 (F4.out.trans f5))
      obtain ⟨m5, hm5⟩ : ∃ m : Int, (s2.out.length : Int) = m := ⟨_, rfl⟩
      rw [hm5]
      clear h5 f5 hm5
      go_wp2_with fail
      go_end0
      exact ⟨⟨_, rfl⟩, by rw [HS2.out]; exact S5.out.1, S5.out.2⟩
end
end Go.Proofs.YtgiejnmphfgmgaaGreatDoor

/- The program's maker of code: a line of a handler's table. -/
namespace Go.Proofs.YtgiejnmphfgmgaaGreatDoor
open Go.RowKit Go.Deep

section
variable {B : Nat} {W0 : World} {Mb : Nat} {ve : Value} {s : Cs} {ls : List (Lt × Value)} {vo vl : Value} {W W' : World}

theorem km_put2 (h : Km B W0 Mb ve s ls vo vl W) (i : In) {vo' : Value} (ho : W'.ownsRow W0.heap.size 52 4 vo' (s.out.length + 1) (rowZ In.cell 4 s.out ++ [.int .i64 i.op, .int .i64 i.a, .int .i64 i.b, .int .i64 i.c])) (hg : W.grownBy W' vo.ownBlock) :
    (∃ vo2, Km B W0 Mb ve (s.put i) ls vo2 vl (W'.setCell ⟨Mb, 1, none⟩ vo')) ∧ Kf W (W'.setCell ⟨Mb, 1, none⟩ vo') := by
  have e : ∀ q, q ≠ Mb → (W'.setCell ⟨Mb, 1, none⟩ vo').heap[q]? = W'.heap[q]? := fun q hq => Below.heap_setCell W' ⟨Mb, 1, none⟩ _ q hq
  have hs : (W'.setCell ⟨Mb, 1, none⟩ vo').heap.size = W'.heap.size := by simp [World.setCell]
  have hb' := (hg.block Mb (heap_lt h.blk) (row_ne h.orow h.blk (by decide))).trans h.blk
  have hf : Kf W (W'.setCell ⟨Mb, 1, none⟩ vo') := ⟨hg.os, hg.tape, hg.output, by rw [hs]; exact hg.size, fun q c t hq h1 _ h3 => (e q (fun e2 => by subst e2; rw [h.blk] at hq; cases hq; exact h3 rfl)).trans (hg.block q (heap_lt hq) (row_ne h.orow hq h1))⟩
  refine ⟨⟨vo', comp_set1 hb' _, ?_, ?_, fun x hx => (h.late x hx).frame hf, h.lfst, hg.os.trans h.os, hg.tape.trans h.tape, hg.output.trans h.output, by rw [hs]; exact Nat.le_trans h.size hg.size, fun q hq hn => ?_, h.nb⟩, hf⟩
  · have e3 : rowZ In.cell 4 (s.out ++ [i]) = rowZ In.cell 4 s.out ++ [.int .i64 i.op, .int .i64 i.a, .int .i64 i.b, .int .i64 i.c] := by rw [rowZ_app]; rfl
    show (W'.setCell ⟨Mb, 1, none⟩ vo').ownsRow _ _ _ _ (s.out ++ [i]).length (rowZ In.cell 4 (s.out ++ [i]))
    rw [e3, List.length_append]
    exact row_keeps ho (fun g c hc _ => e g (fun e2 => by subst e2; rw [hb'] at hc; cases hc))
  · exact row_keeps h.lrow (fun g c hc _ => (e g (fun e2 => by subst e2; rw [h.blk] at hc; cases hc)).trans (hg.block g (heap_lt hc) (row_ne h.orow hc (by decide))))
  · refine (e q hn).trans ((hg.block q (Nat.lt_of_lt_of_le hq h.size) (fun e2 => ?_)).trans (h.kept q hq hn))
    have := (own_type h.orow e2.symm).1
    omega


end

def AddPost2 (B : Nat) (W0 : World) (Mb : Nat) (ve : Value) (s : Cs) (i : In) (ls : List (Lt × Value)) (vl : Value) (W : World) (e : Ending) (W' : World) : Prop :=
  e = .returned (.int .i64 (s.out.length : Int)) ∧ (∃ vo2, Km B W0 Mb ve (s.put i) ls vo2 vl W') ∧ Kf W W'

set_option maxHeartbeats 2000000 in
set_option maxRecDepth 100000 in
theorem add2_calls {B : Nat} {W0 : World} {Mb : Nat} {ve : Value} {s : Cs} {ls : List (Lt × Value)} {vo vl : Value} (i : In) {W : World} (h : Km B W0 Mb ve s ls vo vl W) (hl : s.out.length ≤ 960000) :
    Calls Tryz.prog 26 #[.pointer (some ⟨Mb, 0, none⟩), .agg #[.int .i64 i.op, .int .i64 i.a, .int .i64 i.b, .int .i64 i.c]] W (AddPost2 B W0 Mb ve s i ls vl W) := by
  obtain ⟨op, a, b, c⟩ := i
  obtain ⟨adp, cpp, hvp⟩ := own_slice h.orow
  subst hvp
  have hbx := (MapKept.heap_alloc W (.cells #[.int .i64 op, .int .i64 a, .int .i64 b, .int .i64 c] 52)).1
  have hb0 : Below W.heap.size W (W.alloc (.cells #[.int .i64 op, .int .i64 a, .int .i64 b, .int .i64 c] 52)) := (Below.refl _ _).alloc (Nat.le_refl _) _
  obtain ⟨Y, hY⟩ : ∃ Y, W.alloc (.cells #[.int .i64 op, .int .i64 a, .int .i64 b, .int .i64 c] 52) = Y := ⟨_, rfl⟩
  have HY := hid hY
  rw [hY] at hbx hb0
  have St0 := hid (h.below hb0)
  have HB0 := hid hb0
  have HBx := hid hbx
  have HL := hid hl
  have hsz : W.heap.size + 1 = Y.heap.size := by rw [← hY]; simp
  have d1 := cell_of_heap St0.out.blk 1
  simp at d1
  have hPl : Mb < Y.heap.size := heap_lt St0.out.blk
  have hxl : W.heap.size < Y.heap.size := by omega
  have e0 := cell_of_heap HBx.out 0
  have e1 := cell_of_heap HBx.out 1
  have e2 := cell_of_heap HBx.out 2
  have e3 := cell_of_heap HBx.out 3
  simp at e0 e1 e2 e3
  clear h hl hY hb0 hbx
  go_enter Tryz.func26, Tryz.ntmps26
  go_upto_region 1 with fail
  rw [HY.out]
  clear HY
  have q0 : ∀ y : Later Y.heap.size Y, y.w.cell? ⟨Mb, 1, none⟩ = _ := fun y => y.cell hPl d1
  have p0 : ∀ y : Later Y.heap.size Y, y.w.cell? ⟨W.heap.size, 0, none⟩ = _ := fun y => y.cell hxl e0
  have p1 : ∀ y : Later Y.heap.size Y, y.w.cell? ⟨W.heap.size, 1, none⟩ = _ := fun y => y.cell hxl e1
  have p2 : ∀ y : Later Y.heap.size Y, y.w.cell? ⟨W.heap.size, 2, none⟩ = _ := fun y => y.cell hxl e2
  have p3 : ∀ y : Later Y.heap.size Y, y.w.cell? ⟨W.heap.size, 3, none⟩ = _ := fun y => y.cell hxl e3
  clear d1 e0 e1 e2 e3
  refine till_begin (c := 7) (S := fun w' => ∃ x : Later Y.heap.size Y, w' = x.w) (by kernel_rfl) ?_
  refine till_walk (by kernel_rfl) 6 0 _ _ (by kernel_rfl) (by kernel_rfl) ⟨⟨Y.drew, (Below.refl _ _).drew⟩, rfl⟩ ?_
  simp only [List.drop_zero, List.take_succ_cons, List.take_zero]
  repeat (go_big_quiet_step (fail))
  refine wpQuiet_nil ?_
  rintro w7 ⟨x1, rfl⟩
  have hL1 := x1.h
  clear q0 p0 p1 p2 p3
  generalize x1.w = X1 at *
  refine till_make (k := 6) (v := .slice (some ⟨X1.heap.size, 0, none⟩) 1 1) (w1 := X1.alloc (.cells #[.int .i64 op, .int .i64 a, .int .i64 b, .int .i64 c] 52)) (by decide) rfl (by kernel_rfl) rfl (by simp [go_sem]) ⟨⟨_, hL1.alloc (by have := hL1.size; omega) _⟩, rfl⟩ (by simp [go_sem]; exact rfl) ?_
  have hE := (MapKept.heap_alloc X1 (.cells #[.int .i64 op, .int .i64 a, .int .i64 b, .int .i64 c] 52)).1
  have hKx := hL1.trans (((Below.refl X1.heap.size X1).alloc (Nat.le_refl _) (.cells #[.int .i64 op, .int .i64 a, .int .i64 b, .int .i64 c] 52)).mono hL1.size)
  generalize X1.alloc (.cells #[.int .i64 op, .int .i64 a, .int .i64 b, .int .i64 c] 52) = X2 at *
  have St2 := hid (St0.out.below hKx)
  obtain ⟨i0, hi, hz0, hz1, hz2⟩ := info_parts info_insC
  obtain ⟨vp2, X3, hrun, hown, hgrow, -, hat⟩ := run_append_own_at (P := Tryz.prog) X2 W0.heap.size 27 27 52 i0 _ 4 32 Tryz.underlying27 hi hz0 hz1 hz2 rfl (by decide) (.slice adp s.out.length cpp) s.out.length (rowZ In.cell 4 s.out) St2.out.orow ⟨X1.heap.size, 0, none⟩ 1 1 [.int .i64 op, .int .i64 a, .int .i64 b, .int .i64 c] rfl (fun j u hu => by
    rw [Addr.add_lit]
    match j, hu with
    | 0, hu => simp at hu; subst hu; exact cell_of_heap hE 0
    | 1, hu => simp at hu; subst hu; exact cell_of_heap hE 1
    | 2, hu => simp at hu; subst hu; exact cell_of_heap hE 2
    | 3, hu => simp at hu; subst hu; exact cell_of_heap hE 3) (fun u hu => by
    simp at hu
    rcases hu with rfl | rfl | rfl | rfl <;> rfl) (by have := HL.out; unfold maxLen; omega) (by have := HL.out; omega) St2.out.size
  have hnx := km_put2 St2.out ⟨op, a, b, c⟩ hown hgrow
  refine till_cut (v := vp2) (w1 := X3) rfl (by kernel_rfl) rfl (append_runN (s := .tmp 9) (x := .tmp 11) (t := 27) rfl rfl rfl hrun) (by simp [go_sem]; exact rfl) ?_
  refine any_stage (fun _ => True) ?_
  have hb3 := (hgrow.block Mb (heap_lt St2.out.blk) (row_ne St2.out.orow St2.out.blk (by decide))).trans St2.out.blk
  have d1 := cell_of_heap hb3 1
  have w1 := frozen_of_heap hb3 1
  simp at d1
  obtain ⟨ad2, cp2, hv2⟩ := own_slice hown
  subst hv2
  refine stage_make (k := 8) (v := .pointer (some ⟨Mb, 0, none⟩)) (w1 := X3) rfl (by kernel_rfl) rfl (by simp [go_sem]) trivial (by simp [go_sem]; exact rfl) ?_
  refine stage_make (k := 9) (v := .pointer (some ⟨Mb, 1, none⟩)) (w1 := X3) rfl (by kernel_rfl) rfl (by simp [go_sem]) trivial (by simp [go_sem]; exact rfl) ?_
  refine stage_skip (k := 10) rfl (w1 := X3.setCell ⟨Mb, 1, none⟩ (.slice ad2 (s.out.length + 1) cp2)) rfl (by kernel_rfl) rfl (by simp [go_sem, d1, w1]) trivial ?_
  refine stage_end (by kernel_rfl) ?_
  have HNx := hid hnx.1
  have HFr := hid (((Kf.of_below HB0.out).trans (Kf.of_below hKx)).trans hnx.2)
  have hfin := cell_of_heap (comp_set1 hb3 (.slice ad2 (s.out.length + 1) cp2)) 1
  simp at hfin
  clear hnx hrun hown hgrow hat hE hKx hi hz0 hz1 hz2 hb3 d1 w1 St2 St0 HBx HB0 hL1 hPl hxl hsz
  generalize X3.setCell ⟨Mb, 1, none⟩ (.slice ad2 (s.out.length + 1) cp2) = Z at *
  go_wp2_with fail
  rw [show wrap64 (s.out.length : Int) = (s.out.length : Int) by have := HL.out; unfold wrap64; omega]
  go_ret
  exact ⟨rfl, HNx.out, HFr.out⟩

theorem km_box {B : Nat} {W0 : World} {Mb : Nat} {ve : Value} {s0 s : Cs} {ls : List (Lt × Value)} {vo0 vo vl0 vl : Value} {Xb X : World} {q : Nat} {c : Array Value} (h0 : Km B W0 Mb ve s0 ls vo0 vl0 Xb) (h : Km B W0 Mb ve s ls vo vl X) (hf : Kf Xb X) (hq : Xb.heap.size ≤ q) (ht : X.heap[q]? = some (.cells c 3)) (v : Value) : Km B W0 Mb ve s ls vo vl (X.setCell ⟨q, 0, none⟩ v) ∧ Kf Xb (X.setCell ⟨q, 0, none⟩ v) := by
  have e : ∀ k, k ≠ q → (X.setCell ⟨q, 0, none⟩ v).heap[k]? = X.heap[k]? := fun k hk => Below.heap_setCell X ⟨q, 0, none⟩ v k hk
  have hs : (X.setCell ⟨q, 0, none⟩ v).heap.size = X.heap.size := by simp [World.setCell]
  have hf2 : Kf Xb (X.setCell ⟨q, 0, none⟩ v) := ⟨hf.os, hf.tape, hf.output, by rw [hs]; exact hf.size, fun k cc t hk h1 h2 h3 => (e k (by have := heap_lt hk; omega)).trans (hf.block k cc t hk h1 h2 h3)⟩
  refine ⟨⟨(e Mb (fun e2 => by subst e2; rw [h.blk] at ht; cases ht)).trans h.blk, row_keeps h.orow (fun g cc hc _ => e g (fun e2 => by subst e2; rw [ht] at hc; cases hc)), row_keeps h.lrow (fun g cc hc _ => e g (fun e2 => by subst e2; rw [ht] at hc; cases hc)), fun x hx => (h0.late x hx).frame hf2, h.lfst, h.os, h.tape, h.output, by rw [hs]; exact h.size, fun k hk hn => (e k (by have := h0.size; omega)).trans (h.kept k hk hn), h.nb⟩, hf2⟩

theorem shape25 {B : Nat} {w : World} {n : Nd} {us : List Value} {v : Value} (h : Shape B w n us v) (e : n.kind = 25) : ∃ u, us = [u] ∧ v = .iface 186 (.agg #[.string n.a, u]) := by
  cases h <;> first | exact ⟨_, rfl, rfl⟩ | (exfalso; simp at e; done) | (exfalso; dsimp only at e; omega)

theorem shape26 {B : Nat} {w : World} {n : Nd} {us : List Value} {v : Value} (h : Shape B w n us v) (e : n.kind = 26) : ∃ u, us = [u] ∧ v = .iface 188 (.agg #[.string n.a, .string n.b, .string n.c, u]) := by
  cases h <;> first | exact ⟨_, rfl, rfl⟩ | (exfalso; simp at e; done) | (exfalso; dsimp only at e; omega)

section
variable {B : Nat} {W0 : World} {Mb : Nat} {ae : Option Addr} {ce : Nat} {es : List Ef} {ns : List Nd} {K F : Nat}

set_option maxHeartbeats 4000000 in
set_option maxRecDepth 100000 in
theorem clause_ret {c : Tp} {fv : Value} {kn : Option Addr} {ss : List ByteArray} {s : Cs} {W : World} {m : Int} (hk1 : ss.length ≤ 1000) (hB : s.out.length + 10 * s.rest ≤ 950000) (hc : c.k.count = 1) (hbd : BdT (c.kid 0) (ss ++ [c.n.a])) (hf : FormK B W0 c fv) (h : KmE B W0 Mb (.slice ae es.length ce) s W) (hk : KnAt W kn ss.reverse) (ek : c.n.kind = 25) :
    Calls Tryz.prog 97 #[.pointer (some ⟨Mb, 0, none⟩), fv, .pointer kn, .int .i64 m] W (SetP B W0 Mb (.slice ae es.length ce) ((s.put ⟨24, 0, m, 0⟩).wait ⟨c.kid 0, ss ++ [c.n.a], s.out.length, 0⟩) W) := by
  obtain ⟨us, hsh, -, hif, hfk⟩ := hf.open
  obtain ⟨u, rfl, rfl⟩ := shape25 hsh ek
  have f0 := hfk 0 (by omega)
  simp only [List.getD_cons_zero] at f0
  obtain ⟨Tu, pu, rfl⟩ := hif u (by simp)
  obtain ⟨a, ha⟩ : ∃ a, c.n.a = a := ⟨_, rfl⟩
  rw [ha] at hbd ⊢
  have bl := below_two W (.cells #[.pointer (some ⟨Mb, 0, none⟩)] 58) (.cells #[.string a, .iface Tu pu] 186)
  have hA := (MapKept.heap_alloc W (.cells #[.pointer (some ⟨Mb, 0, none⟩)] 58)).1
  have hA2 := (((Below.refl _ _).alloc (Nat.le_refl _) (.cells #[.string a, .iface Tu pu] 186)).block W.heap.size (heap_lt hA)).trans hA
  have hC := (MapKept.heap_alloc (W.alloc (.cells #[.pointer (some ⟨Mb, 0, none⟩)] 58)) (.cells #[.string a, .iface Tu pu] 186)).1
  rw [show (W.alloc (.cells #[.pointer (some ⟨Mb, 0, none⟩)] 58)).heap.size = W.heap.size + 1 by simp] at hC
  obtain ⟨Y, hY⟩ : ∃ Y, (W.alloc (.cells #[.pointer (some ⟨Mb, 0, none⟩)] 58)).alloc (.cells #[.string a, .iface Tu pu] 186) = Y := ⟨_, rfl⟩
  rw [hY] at bl hA2 hC
  have HY := hid hY
  have PA1 := hid hA2
  have HA1 := hid hC
  have S1 := hid (h.below bl)
  have F1 := hid (Kf.of_below bl)
  have KA1 := hid (KnAt.frame (Kf.of_below bl) _ _ hk)
  have G0 := hid (And.intro f0 hbd)
  have HB := hid (And.intro hB hk1)
  have t1 := hit_ret (.agg #[.string a, .iface Tu pu])
  clear hk1 hB hc h hk hsh hif hfk ha ek bl hA hA2 hC hY f0 hbd
  go_enter Tryz.func97, Tryz.ntmps97
  go_upto_region 4 with fail
  rw [HY.out]
  clear HY t1
  generalize W.heap.size + 1 = b9 at HA1 ⊢
  obtain ⟨p4, hp4⟩ : ∃ b, W.heap.size = b := ⟨_, rfl⟩
  rw [hp4] at PA1 ⊢
  clear hp4
  have hb : Below Y.heap.size Y Y.drew := (Below.refl _ _).drew
  have PA2 := hid ((hb.block _ (heap_lt PA1.out)).trans PA1.out)
  have HA2 := hid ((hb.block _ (heap_lt HA1.out)).trans HA1.out)
  have S2 := hid (S1.out.below hb)
  have F2 := hid (F1.out.trans (Kf.of_below hb))
  have KA2 := hid (KnAt.frame (Kf.of_below hb) _ _ KA1.out)
  clear S1 F1 PA1 HA1 KA1
  clear hb
  refine pick_begin (S := fun w => w.cell? ⟨p4, 0, none⟩ = some (.pointer (some ⟨Mb, 0, none⟩)) ∧ w.cell? ⟨b9, 0, none⟩ = some (.string a) ∧ w.cell? ⟨b9, 1, none⟩ = some (.iface Tu pu)) (n := 14) (ls := #[false, false, false, false, false, false, false, false, false, false, false, false, false, false]) (by kernel_rfl) rfl (by kernel_rfl) ?_
  generalize Y.drew = X2 at *
  have hS : X2.cell? ⟨p4, 0, none⟩ = some (.pointer (some ⟨Mb, 0, none⟩)) ∧ X2.cell? ⟨b9, 0, none⟩ = some (.string a) ∧ X2.cell? ⟨b9, 1, none⟩ = some (.iface Tu pu) := ⟨cell_of_heap PA2.out 0, cell_of_heap HA2.out 0, cell_of_heap HA2.out 1⟩
  refine pick_op (i := 0) (v := .pointer (some ⟨Mb, 0, none⟩)) (by kernel_rfl) rfl (by kernel_rfl) (by kernel_rfl) rfl rfl (fun w' hw => by simp [go_sem, hw.1]) hS (by simp [go_sem]; exact rfl) ?_
  refine pick_op (i := 1) (v := .pointer (some ⟨b9, 1, none⟩)) (by kernel_rfl) rfl (by kernel_rfl) (by kernel_rfl) rfl rfl (fun w' hw => by simp [go_sem]) hS (by simp [go_sem]; exact rfl) ?_
  refine pick_op (i := 2) (v := .iface Tu pu) (by kernel_rfl) rfl (by kernel_rfl) (by kernel_rfl) rfl rfl (fun w' hw => by simp [go_sem, hw.2.2]) hS (by simp [go_sem]; exact rfl) ?_
  refine pick_op (i := 3) (v := .pointer kn) (by kernel_rfl) rfl (by kernel_rfl) (by kernel_rfl) rfl rfl (fun w' hw => by simp [go_sem]) hS (by simp [go_sem]; exact rfl) ?_
  refine pick_op (i := 4) (v := .pointer (some ⟨b9, 0, none⟩)) (by kernel_rfl) rfl (by kernel_rfl) (by kernel_rfl) rfl rfl (fun w' hw => by simp [go_sem]) hS (by simp [go_sem]; exact rfl) ?_
  refine pick_op (i := 5) (v := .string a) (by kernel_rfl) rfl (by kernel_rfl) (by kernel_rfl) rfl rfl (fun w' hw => by simp [go_sem, hw.2.1]) hS (by simp [go_sem]; exact rfl) ?_
  refine pick_op (i := 7) (v := .pointer (some ⟨Mb, 0, none⟩)) (by kernel_rfl) rfl (by kernel_rfl) (by kernel_rfl) rfl rfl (fun w' hw => by simp [go_sem, hw.1]) hS (by simp [go_sem]; exact rfl) ?_
  refine pick_op (i := 8) (v := .pointer (some ⟨Mb, 0, none⟩)) (by kernel_rfl) rfl (by kernel_rfl) (by kernel_rfl) rfl rfl (fun w' hw => by simp [go_sem, hw.1]) hS (by simp [go_sem]; exact rfl) ?_
  refine pick_op (i := 9) (v := .int .i64 m) (by kernel_rfl) rfl (by kernel_rfl) (by kernel_rfl) rfl rfl (fun w' hw => by simp [go_sem]) hS (by simp [go_sem]; exact rfl) ?_
  refine pick_op (i := 10) (v := .agg #[.int .i64 24, .int .i64 0, .int .i64 m, .int .i64 0]) (by kernel_rfl) rfl (by kernel_rfl) (by kernel_rfl) rfl rfl (fun w' hw => by simp [go_sem]) hS (by simp [go_sem]; exact rfl) ?_
  refine pick_enter (i := 6) (f := 57) (args := #[.pointer kn, .string a]) rfl (by kernel_rfl) rfl rfl (by simp [go_sem]) ?_
  refine (knowing_calls a KA2.out (by rw [List.length_reverse]; have := HB.out; omega)).mono ?_
  rintro e X3 ⟨p2, rfl, hk2, hb⟩
  have PA3 := hid ((hb.block _ (heap_lt PA2.out)).trans PA2.out)
  have HA3 := hid ((hb.block _ (heap_lt HA2.out)).trans HA2.out)
  have S3 := hid (S2.out.below hb)
  have F3 := hid (F2.out.trans (Kf.of_below hb))
  have KA3 := hid (KnAt.frame (Kf.of_below hb) _ _ KA2.out)
  clear S2 F2 PA2 HA2 KA2
  have KB3 := hid hk2
  clear hb hk2
  clear hS
  have hS : X3.cell? ⟨p4, 0, none⟩ = some (.pointer (some ⟨Mb, 0, none⟩)) ∧ X3.cell? ⟨b9, 0, none⟩ = some (.string a) ∧ X3.cell? ⟨b9, 1, none⟩ = some (.iface Tu pu) := ⟨cell_of_heap PA3.out 0, cell_of_heap HA3.out 0, cell_of_heap HA3.out 1⟩
  refine ⟨_, rfl, hS, ?_⟩
  refine pick_frame (by simp [go_sem]; exact rfl) ?_
  refine pick_enter (i := 11) (f := 26) (args := #[.pointer (some ⟨Mb, 0, none⟩), .agg #[.int .i64 24, .int .i64 0, .int .i64 m, .int .i64 0]]) rfl (by kernel_rfl) rfl rfl (by simp [go_sem]) ?_
  refine (addI_calls ⟨24, 0, m, 0⟩ S3.out (by have := HB.out; omega)).mono ?_
  rintro e X4 ⟨rfl, hst, fr⟩
  have PA4 := hid (fr.keep PA3.out (by decide) (by decide) (by decide))
  have HA4 := hid (fr.keep HA3.out (by decide) (by decide) (by decide))
  have S4 := hid hst
  have F4 := hid (F3.out.trans fr)
  have KA4 := hid (KnAt.frame fr _ _ KA3.out)
  have KB4 := hid (KnAt.frame fr _ _ KB3.out)
  clear S3 F3 PA3 HA3 KA3 KB3
  clear hst fr
  clear hS
  have hS : X4.cell? ⟨p4, 0, none⟩ = some (.pointer (some ⟨Mb, 0, none⟩)) ∧ X4.cell? ⟨b9, 0, none⟩ = some (.string a) ∧ X4.cell? ⟨b9, 1, none⟩ = some (.iface Tu pu) := ⟨cell_of_heap PA4.out 0, cell_of_heap HA4.out 0, cell_of_heap HA4.out 1⟩
  refine ⟨_, rfl, hS, ?_⟩
  refine pick_frame (by simp [go_sem]; exact rfl) ?_
  refine pick_enter (i := 12) (f := 58) (args := #[.pointer (some ⟨Mb, 0, none⟩), .int .i64 (s.out.length : Int)]) rfl (by kernel_rfl) rfl rfl (by simp [go_sem]) ?_
  refine (leadTo_calls Mb s.out.length X4).mono ?_
  rintro e X5 ⟨tv, rfl, ht, ⟨ta, tb, rfl⟩, hb⟩
  have PA5 := hid ((hb.block _ (heap_lt PA4.out)).trans PA4.out)
  have HA5 := hid ((hb.block _ (heap_lt HA4.out)).trans HA4.out)
  have S5 := hid (S4.out.below hb)
  have F5 := hid (F4.out.trans (Kf.of_below hb))
  have KA5 := hid (KnAt.frame (Kf.of_below hb) _ _ KA4.out)
  have KB5 := hid (KnAt.frame (Kf.of_below hb) _ _ KB4.out)
  clear S4 F4 PA4 HA4 KA4 KB4
  have TT5 := hid ht
  clear hb ht
  clear hS
  have hS : X5.cell? ⟨p4, 0, none⟩ = some (.pointer (some ⟨Mb, 0, none⟩)) ∧ X5.cell? ⟨b9, 0, none⟩ = some (.string a) ∧ X5.cell? ⟨b9, 1, none⟩ = some (.iface Tu pu) := ⟨cell_of_heap PA5.out 0, cell_of_heap HA5.out 0, cell_of_heap HA5.out 1⟩
  refine ⟨_, rfl, hS, ?_⟩
  refine pick_frame (by simp [go_sem]; exact rfl) ?_
  refine pick_enter (i := 13) (f := 56) (args := #[.pointer (some ⟨Mb, 0, none⟩), .iface Tu pu, .pointer p2, .func (.func 96) #[] #[.pointer (some ⟨ta, 0, none⟩), .pointer (some ⟨tb, 0, none⟩)]]) rfl (by kernel_rfl) rfl rfl (by simp [go_sem]) ?_
  refine (putOff_calls ⟨c.kid 0, ss ++ [a], s.out.length, 0⟩ S5.out (by have := HB.out; have := later_le s; show s.later.length ≤ _; omega) G0.out.1 G0.out.2 (by show KnAt X5 p2 (ss ++ [a]).reverse; rw [List.reverse_append]; exact KB5.out) TT5.out).mono ?_
  rintro e X6 ⟨⟨x7, rfl⟩, hst, fr⟩
  have PA6 := hid (fr.keep PA5.out (by decide) (by decide) (by decide))
  have HA6 := hid (fr.keep HA5.out (by decide) (by decide) (by decide))
  have S6 := hid hst
  have F6 := hid (F5.out.trans fr)
  have KA6 := hid (KnAt.frame fr _ _ KA5.out)
  have KB6 := hid (KnAt.frame fr _ _ KB5.out)
  have TT6 := hid (TT5.out.frame fr)
  clear S5 F5 PA5 HA5 KA5 KB5 TT5
  clear hst fr
  clear hS
  have hS : X6.cell? ⟨p4, 0, none⟩ = some (.pointer (some ⟨Mb, 0, none⟩)) ∧ X6.cell? ⟨b9, 0, none⟩ = some (.string a) ∧ X6.cell? ⟨b9, 1, none⟩ = some (.iface Tu pu) := ⟨cell_of_heap PA6.out 0, cell_of_heap HA6.out 0, cell_of_heap HA6.out 1⟩
  refine ⟨_, rfl, hS, ?_⟩
  refine pick_frame (by simp [go_sem]; exact rfl) ?_
  refine pick_end (by kernel_rfl) ?_
  clear hS
  go_wp2_with fail
  go_end0
  exact ⟨⟨_, rfl⟩, S6.out, F6.out⟩

theorem km_effs {ve : Value} {s : Cs} {W : World} (h : KmE B W0 Mb ve s W) : W.cell? ⟨Mb, 0, none⟩ = some ve := by
  obtain ⟨ls, vo, vl, h⟩ := h
  exact cell_of_heap h.blk 0

theorem box_set1 {X : World} {q : Nat} {t : TypeId} {v0 : Value} (h : X.heap[q]? = some (.cells #[v0] t)) (v : Value) : (X.setCell ⟨q, 0, none⟩ v).heap[q]? = some (.cells #[v] t) := by
  simp [World.setCell, Array.getElem?_modify, h]

theorem box_new (X : World) (v0 v : Value) (t : TypeId) : Below X.heap.size X ((X.alloc (.cells #[v0] t)).setCell ⟨X.heap.size, 0, none⟩ v) ∧ ((X.alloc (.cells #[v0] t)).setCell ⟨X.heap.size, 0, none⟩ v).heap[X.heap.size]? = some (.cells #[v] t) := by
  refine ⟨((Below.refl _ _).alloc (Nat.le_refl _) _).setCell (Nat.le_refl _) _, ?_⟩
  have h := (MapKept.heap_alloc X (.cells #[v0] t)).1
  exact box_set1 h v

set_option maxHeartbeats 4000000 in
set_option maxRecDepth 100000 in
theorem clause_op (ex : Ex W0 Mb ae es) {c : Tp} {fv : Value} {kn : Option Addr} {ss : List ByteArray} {s : Cs} {W : World} {m : Int} (hk1 : ss.length ≤ 1000) (hB : s.out.length + 10 * s.rest ≤ 950000) (hc : c.k.count = 1) (hbd : BdT (c.kid 0) (ss ++ [c.n.b, c.n.c])) (hf : FormK B W0 c fv) (h : KmE B W0 Mb (.slice ae es.length ce) s W) (hk : KnAt W kn ss.reverse) (ek : c.n.kind = 26) :
    Calls Tryz.prog 97 #[.pointer (some ⟨Mb, 0, none⟩), fv, .pointer kn, .int .i64 m] W (SetP B W0 Mb (.slice ae es.length ce) (opZ es ss s c) W) := by
  obtain ⟨us, hsh, -, hif, hfk⟩ := hf.open
  obtain ⟨u, rfl, rfl⟩ := shape26 hsh ek
  have f0 := hfk 0 (by omega)
  simp only [List.getD_cons_zero] at f0
  obtain ⟨Tu, pu, rfl⟩ := hif u (by simp)
  obtain ⟨a, ha⟩ : ∃ a, c.n.a = a := ⟨_, rfl⟩
  obtain ⟨b, hb'⟩ : ∃ a, c.n.b = a := ⟨_, rfl⟩
  obtain ⟨d, hd⟩ : ∃ a, c.n.c = a := ⟨_, rfl⟩
  unfold opZ
  rw [hb', hd] at hbd
  rw [ha, hb', hd]
  have bl := below_two W (.cells #[.pointer (some ⟨Mb, 0, none⟩)] 58) (.cells #[.string a, .string b, .string d, .iface Tu pu] 188)
  have hA := (MapKept.heap_alloc W (.cells #[.pointer (some ⟨Mb, 0, none⟩)] 58)).1
  have hA2 := (((Below.refl _ _).alloc (Nat.le_refl _) (.cells #[.string a, .string b, .string d, .iface Tu pu] 188)).block W.heap.size (heap_lt hA)).trans hA
  have hC := (MapKept.heap_alloc (W.alloc (.cells #[.pointer (some ⟨Mb, 0, none⟩)] 58)) (.cells #[.string a, .string b, .string d, .iface Tu pu] 188)).1
  rw [show (W.alloc (.cells #[.pointer (some ⟨Mb, 0, none⟩)] 58)).heap.size = W.heap.size + 1 by simp] at hC
  obtain ⟨Y, hY⟩ : ∃ Y, (W.alloc (.cells #[.pointer (some ⟨Mb, 0, none⟩)] 58)).alloc (.cells #[.string a, .string b, .string d, .iface Tu pu] 188) = Y := ⟨_, rfl⟩
  rw [hY] at bl hA2 hC
  have HY := hid hY
  have PA1 := hid hA2
  have HA1 := hid hC
  have S1 := hid (h.below bl)
  have F1 := hid (Kf.of_below bl)
  have KA1 := hid (KnAt.frame (Kf.of_below bl) _ _ hk)
  have G0 := hid (And.intro f0 hbd)
  have HB := hid (And.intro hB hk1)
  have HX := hid ex
  have HPl := hid (fun (X : World) (hx : KmE B W0 Mb (.slice ae es.length ce) s X) => opPlace_calls ae ce es a X (by have := HX.out.few; omega) (ex_effs HX.out hx))
  obtain ⟨PL, hPL⟩ : ∃ x, effPlace es a 0 = x := ⟨_, rfl⟩
  rw [hPL] at HPl ⊢
  have t1 := miss_ret (T := 188) (by decide) (.agg #[.string a, .string b, .string d, .iface Tu pu])
  have t2 := hit_op (.agg #[.string a, .string b, .string d, .iface Tu pu])
  clear hk1 hB hc h hk hsh hif hfk ha hb' hd ek bl hA hA2 hC hY f0 hPL ex hbd
  go_enter Tryz.func97, Tryz.ntmps97
  go_upto_region 7 with fail
  rw [HY.out]
  clear HY t1 t2
  generalize W.heap.size + 1 = b9 at HA1 ⊢
  obtain ⟨p4, hp4⟩ : ∃ b, W.heap.size = b := ⟨_, rfl⟩
  rw [hp4] at PA1 ⊢
  clear hp4
  have hb : Below Y.heap.size Y Y.drew := (Below.refl _ _).drew
  have PA2 := hid ((hb.block _ (heap_lt PA1.out)).trans PA1.out)
  have HA2 := hid ((hb.block _ (heap_lt HA1.out)).trans HA1.out)
  have S2 := hid (S1.out.below hb)
  have F2 := hid (F1.out.trans (Kf.of_below hb))
  have KA2 := hid (KnAt.frame (Kf.of_below hb) _ _ KA1.out)
  clear S1 F1 PA1 HA1 KA1
  clear hb
  refine pick_begin (S := fun w => w.cell? ⟨p4, 0, none⟩ = some (.pointer (some ⟨Mb, 0, none⟩)) ∧ w.cell? ⟨b9, 0, none⟩ = some (.string a) ∧ w.cell? ⟨Mb, 0, none⟩ = some (.slice ae es.length ce)) (n := 12) (ls := #[false, false, false, false, false, false, false, false, false, false, false, false]) (by kernel_rfl) rfl (by kernel_rfl) ?_
  generalize Y.drew = X2 at *
  have hS : X2.cell? ⟨p4, 0, none⟩ = some (.pointer (some ⟨Mb, 0, none⟩)) ∧ X2.cell? ⟨b9, 0, none⟩ = some (.string a) ∧ X2.cell? ⟨Mb, 0, none⟩ = some (.slice ae es.length ce) := ⟨cell_of_heap PA2.out 0, cell_of_heap HA2.out 0, km_effs S2.out⟩
  refine pick_op (i := 0) (v := .pointer (some ⟨Mb, 0, none⟩)) (by kernel_rfl) rfl (by kernel_rfl) (by kernel_rfl) rfl rfl (fun w' hw => by simp [go_sem, hw.1]) hS (by simp [go_sem]; exact rfl) ?_
  refine pick_op (i := 1) (v := .pointer (some ⟨Mb, 0, none⟩)) (by kernel_rfl) rfl (by kernel_rfl) (by kernel_rfl) rfl rfl (fun w' hw => by simp [go_sem, hw.1]) hS (by simp [go_sem]; exact rfl) ?_
  refine pick_op (i := 2) (v := .pointer (some ⟨Mb, 0, none⟩)) (by kernel_rfl) rfl (by kernel_rfl) (by kernel_rfl) rfl rfl (fun w' hw => by simp [go_sem]) hS (by simp [go_sem]; exact rfl) ?_
  refine pick_op (i := 3) (v := .pointer (some ⟨Mb, 0, none⟩)) (by kernel_rfl) rfl (by kernel_rfl) (by kernel_rfl) rfl rfl (fun w' hw => by simp [go_sem]) hS (by simp [go_sem]; exact rfl) ?_
  refine pick_op (i := 4) (v := .slice ae es.length ce) (by kernel_rfl) rfl (by kernel_rfl) (by kernel_rfl) rfl rfl (fun w' hw => by simp [go_sem, hw.2.2]) hS (by simp [go_sem]; exact rfl) ?_
  refine pick_op (i := 5) (v := .pointer (some ⟨b9, 0, none⟩)) (by kernel_rfl) rfl (by kernel_rfl) (by kernel_rfl) rfl rfl (fun w' hw => by simp [go_sem]) hS (by simp [go_sem]; exact rfl) ?_
  refine pick_op (i := 6) (v := .string a) (by kernel_rfl) rfl (by kernel_rfl) (by kernel_rfl) rfl rfl (fun w' hw => by simp [go_sem, hw.2.1]) hS (by simp [go_sem]; exact rfl) ?_
  refine pick_other (i := 7) (j := 10) (by kernel_rfl) ?_ ?_
  case' refine_1 =>
    refine ⟨_, 122, #[.slice ae es.length ce, .string a], rfl, rfl, by simp [go_sem], ?_⟩
    refine (HPl.out X2 S2.out).mono ?_
    rintro e X3 ⟨rfl, hb⟩
    have PA3 := hid ((hb.block _ (heap_lt PA2.out)).trans PA2.out)
    have HA3 := hid ((hb.block _ (heap_lt HA2.out)).trans HA2.out)
    have S3 := hid (S2.out.below hb)
    have F3 := hid (F2.out.trans (Kf.of_below hb))
    have KA3 := hid (KnAt.frame (Kf.of_below hb) _ _ KA2.out)
    clear S2 F2 PA2 HA2 KA2
    clear hb hS
    have hS : X3.cell? ⟨p4, 0, none⟩ = some (.pointer (some ⟨Mb, 0, none⟩)) ∧ X3.cell? ⟨b9, 0, none⟩ = some (.string a) ∧ X3.cell? ⟨Mb, 0, none⟩ = some (.slice ae es.length ce) := ⟨cell_of_heap PA3.out 0, cell_of_heap HA3.out 0, km_effs S3.out⟩
    refine ⟨_, rfl, hS, ?_⟩
    refine pick_frame (by simp [go_sem]; exact rfl) ?_
    refine pick_op (i := 8) (v := .agg #[.int .i64 25, .int .i64 PL, .int .i64 0, .int .i64 0]) (by kernel_rfl) rfl (by kernel_rfl) (by kernel_rfl) rfl rfl (fun w' hw => by simp [go_sem]) hS (by simp [go_sem]; exact rfl) ?_
    refine pick_other (i := 9) (j := 10) (by kernel_rfl) ?_ ?_
    case' refine_1 =>
      refine ⟨_, 26, #[.pointer (some ⟨Mb, 0, none⟩), .agg #[.int .i64 25, .int .i64 PL, .int .i64 0, .int .i64 0]], rfl, rfl, by simp [go_sem], ?_⟩
      refine (addI_calls ⟨25, PL, 0, 0⟩ S3.out (by have := HB.out; omega)).mono ?_
      rintro e X4 ⟨rfl, hst, fr⟩
      have PA4 := hid (fr.keep PA3.out (by decide) (by decide) (by decide))
      have HA4 := hid (fr.keep HA3.out (by decide) (by decide) (by decide))
      have S4 := hid hst
      have F4 := hid (F3.out.trans fr)
      have KA4 := hid (KnAt.frame fr _ _ KA3.out)
      clear S3 F3 PA3 HA3 KA3
      clear hst fr hS
      have hS : X4.cell? ⟨p4, 0, none⟩ = some (.pointer (some ⟨Mb, 0, none⟩)) ∧ X4.cell? ⟨b9, 0, none⟩ = some (.string a) ∧ X4.cell? ⟨Mb, 0, none⟩ = some (.slice ae es.length ce) := ⟨cell_of_heap PA4.out 0, cell_of_heap HA4.out 0, km_effs S4.out⟩
      refine ⟨_, rfl, hS, ?_⟩
      refine pick_frame (by simp [go_sem]; exact rfl) ?_
      obtain ⟨hbn, hqn⟩ := box_new X4 (.int .i64 0) (.int .i64 (s.out.length : Int)) 3
      have hb0 := (Below.refl X4.heap.size X4).alloc (Nat.le_refl _) (.cells #[.int .i64 0] 3)
      have hq0 := (MapKept.heap_alloc X4 (.cells #[.int .i64 0] 3)).1
      have hSa : (X4.alloc (.cells #[.int .i64 0] 3)).cell? ⟨p4, 0, none⟩ = some (.pointer (some ⟨Mb, 0, none⟩)) ∧ (X4.alloc (.cells #[.int .i64 0] 3)).cell? ⟨b9, 0, none⟩ = some (.string a) ∧ (X4.alloc (.cells #[.int .i64 0] 3)).cell? ⟨Mb, 0, none⟩ = some (.slice ae es.length ce) := ⟨cell_of_heap ((hb0.block _ (heap_lt PA4.out)).trans PA4.out) 0, cell_of_heap ((hb0.block _ (heap_lt HA4.out)).trans HA4.out) 0, km_effs (S4.out.below hb0)⟩
      refine pick_make (i := 10) (v := .pointer (some ⟨X4.heap.size, 0, none⟩)) (w1 := X4.alloc (.cells #[.int .i64 0] 3)) rfl (by kernel_rfl) rfl rfl (by simp [go_sem]) hSa (by simp [go_sem]; exact rfl) ?_
      have z0 := cell_of_heap hq0 0
      have z1 := frozen_of_heap hq0 0
      simp at z0
      have PA5 := hid ((hbn.block _ (heap_lt PA4.out)).trans PA4.out)
      have HA5 := hid ((hbn.block _ (heap_lt HA4.out)).trans HA4.out)
      have S5 := hid (S4.out.below hbn)
      have F5 := hid (F4.out.trans (Kf.of_below hbn))
      have KA5 := hid (KnAt.frame (Kf.of_below hbn) _ _ KA4.out)
      have PT5 := hid hqn
      have hSz : ((X4.alloc (.cells #[.int .i64 0] 3)).setCell ⟨X4.heap.size, 0, none⟩ (.int .i64 (s.out.length : Int))).cell? ⟨p4, 0, none⟩ = some (.pointer (some ⟨Mb, 0, none⟩)) ∧ ((X4.alloc (.cells #[.int .i64 0] 3)).setCell ⟨X4.heap.size, 0, none⟩ (.int .i64 (s.out.length : Int))).cell? ⟨b9, 0, none⟩ = some (.string a) ∧ ((X4.alloc (.cells #[.int .i64 0] 3)).setCell ⟨X4.heap.size, 0, none⟩ (.int .i64 (s.out.length : Int))).cell? ⟨Mb, 0, none⟩ = some (.slice ae es.length ce) := ⟨cell_of_heap PA5.out 0, cell_of_heap HA5.out 0, km_effs S5.out⟩
      refine pick_skip (i := 11) (w1 := (X4.alloc (.cells #[.int .i64 0] 3)).setCell ⟨X4.heap.size, 0, none⟩ (.int .i64 (s.out.length : Int))) rfl rfl (by kernel_rfl) rfl rfl (by simp [go_sem]) hSz ?_
      refine pick_end (by kernel_rfl) ?_
      clear hSz hSa z0 z1 hb0 hq0 hbn hqn hS PA4 HA4 S4 F4 KA4
      generalize (X4.alloc (.cells #[.int .i64 0] 3)).setCell ⟨X4.heap.size, 0, none⟩ (.int .i64 (s.out.length : Int)) = X5 at *
      generalize X4.heap.size = q at *
      clear X4 X3
    case' refine_2 =>
      obtain ⟨ls, vo, vl, hkm⟩ := S3.out
      have hb0 := (Below.refl X3.heap.size X3).alloc (Nat.le_refl _) (.cells #[.int .i64 0] 3)
      have hq0 := (MapKept.heap_alloc X3 (.cells #[.int .i64 0] 3)).1
      have hkm0 := hkm.below hb0
      have hSa : (X3.alloc (.cells #[.int .i64 0] 3)).cell? ⟨p4, 0, none⟩ = some (.pointer (some ⟨Mb, 0, none⟩)) ∧ (X3.alloc (.cells #[.int .i64 0] 3)).cell? ⟨b9, 0, none⟩ = some (.string a) ∧ (X3.alloc (.cells #[.int .i64 0] 3)).cell? ⟨Mb, 0, none⟩ = some (.slice ae es.length ce) := ⟨cell_of_heap ((hb0.block _ (heap_lt PA3.out)).trans PA3.out) 0, cell_of_heap ((hb0.block _ (heap_lt HA3.out)).trans HA3.out) 0, km_effs ⟨ls, vo, vl, hkm0⟩⟩
      refine ⟨_, .pointer (some ⟨X3.heap.size, 0, none⟩), X3.alloc (.cells #[.int .i64 0] 3), rfl, rfl, by simp [go_sem], hSa, ?_⟩
      refine pick_frame (by simp [go_sem]; exact rfl) ?_
      obtain ⟨q, hq⟩ : ∃ q, X3.heap.size = q := ⟨_, rfl⟩
      have hqle : X3.heap.size ≤ q := by omega
      obtain ⟨Xa, hXa⟩ : ∃ X, X3.alloc (.cells #[.int .i64 0] 3) = X := ⟨_, rfl⟩
      rw [hXa] at hb0 hq0 hkm0 hSa ⊢
      rw [hq] at hq0 ⊢
      have hPa := (hb0.block _ (heap_lt PA3.out)).trans PA3.out
      have hHa := (hb0.block _ (heap_lt HA3.out)).trans HA3.out
      have hfa := Kf.of_below hb0
      clear hb0 hXa hq
      refine pick_enter (i := 9) (f := 26) (args := #[.pointer (some ⟨Mb, 0, none⟩), .agg #[.int .i64 25, .int .i64 PL, .int .i64 0, .int .i64 0]]) rfl (by kernel_rfl) rfl rfl (by simp [go_sem]) ?_
      refine (add2_calls ⟨25, PL, 0, 0⟩ hkm0 (by have := HB.out; omega)).mono ?_
      rintro e Xd ⟨rfl, ⟨vo2, hkd⟩, fr⟩
      have hqd := fr.keep hq0 (by decide) (by decide) (by decide)
      have hPd := fr.keep hPa (by decide) (by decide) (by decide)
      have hHd := fr.keep hHa (by decide) (by decide) (by decide)
      have hfd := hfa.trans fr
      have hSd : Xd.cell? ⟨p4, 0, none⟩ = some (.pointer (some ⟨Mb, 0, none⟩)) ∧ Xd.cell? ⟨b9, 0, none⟩ = some (.string a) ∧ Xd.cell? ⟨Mb, 0, none⟩ = some (.slice ae es.length ce) := ⟨cell_of_heap hPd 0, cell_of_heap hHd 0, km_effs ⟨ls, vo2, vl, hkd⟩⟩
      refine ⟨_, rfl, hSd, ?_⟩
      refine pick_frame (by simp [go_sem]; exact rfl) ?_
      obtain ⟨hkz, hfz⟩ := km_box hkm hkd hfd hqle hqd (.int .i64 (s.out.length : Int))
      have hqz := box_set1 hqd (.int .i64 (s.out.length : Int))
      have z0 := cell_of_heap hqd 0
      have z1 := frozen_of_heap hqd 0
      simp at z0
      have PA5 := hid (hfz.keep PA3.out (by decide) (by decide) (by decide))
      have HA5 := hid (hfz.keep HA3.out (by decide) (by decide) (by decide))
      have S5 := hid (show KmE B W0 Mb (.slice ae es.length ce) (s.put ⟨25, PL, 0, 0⟩) _ from ⟨ls, vo2, vl, hkz⟩)
      have F5 := hid (F3.out.trans hfz)
      have KA5 := hid (KnAt.frame hfz _ _ KA3.out)
      have PT5 := hid hqz
      have hSz : (Xd.setCell ⟨q, 0, none⟩ (.int .i64 (s.out.length : Int))).cell? ⟨p4, 0, none⟩ = some (.pointer (some ⟨Mb, 0, none⟩)) ∧ (Xd.setCell ⟨q, 0, none⟩ (.int .i64 (s.out.length : Int))).cell? ⟨b9, 0, none⟩ = some (.string a) ∧ (Xd.setCell ⟨q, 0, none⟩ (.int .i64 (s.out.length : Int))).cell? ⟨Mb, 0, none⟩ = some (.slice ae es.length ce) := ⟨cell_of_heap PA5.out 0, cell_of_heap HA5.out 0, km_effs S5.out⟩
      refine pick_skip (i := 11) (w1 := Xd.setCell ⟨q, 0, none⟩ (.int .i64 (s.out.length : Int))) rfl rfl (by kernel_rfl) rfl rfl (by simp [go_sem, z0, z1]) hSz ?_
      refine pick_end (by kernel_rfl) ?_
      clear hSz hSd hSa z0 z1 hqz hkz hfz hfd hHd hPd hqd hkd fr hfa hHa hPa hqle hkm0 hq0 hkm PA3 HA3 S3 F3 KA3 hS
      generalize Xd.setCell ⟨q, 0, none⟩ (.int .i64 (s.out.length : Int)) = X5 at *
      clear Xd Xa
      clear X3
  case' refine_2 =>
    obtain ⟨ls, vo, vl, hkm⟩ := S2.out
    have hb0 := (Below.refl X2.heap.size X2).alloc (Nat.le_refl _) (.cells #[.int .i64 0] 3)
    have hq0 := (MapKept.heap_alloc X2 (.cells #[.int .i64 0] 3)).1
    have hkm0 := hkm.below hb0
    have hSa : (X2.alloc (.cells #[.int .i64 0] 3)).cell? ⟨p4, 0, none⟩ = some (.pointer (some ⟨Mb, 0, none⟩)) ∧ (X2.alloc (.cells #[.int .i64 0] 3)).cell? ⟨b9, 0, none⟩ = some (.string a) ∧ (X2.alloc (.cells #[.int .i64 0] 3)).cell? ⟨Mb, 0, none⟩ = some (.slice ae es.length ce) := ⟨cell_of_heap ((hb0.block _ (heap_lt PA2.out)).trans PA2.out) 0, cell_of_heap ((hb0.block _ (heap_lt HA2.out)).trans HA2.out) 0, km_effs ⟨ls, vo, vl, hkm0⟩⟩
    refine ⟨_, .pointer (some ⟨X2.heap.size, 0, none⟩), X2.alloc (.cells #[.int .i64 0] 3), rfl, rfl, by simp [go_sem], hSa, ?_⟩
    refine pick_frame (by simp [go_sem]; exact rfl) ?_
    obtain ⟨q, hq⟩ : ∃ q, X2.heap.size = q := ⟨_, rfl⟩
    have hqle : X2.heap.size ≤ q := by omega
    obtain ⟨Xa, hXa⟩ : ∃ X, X2.alloc (.cells #[.int .i64 0] 3) = X := ⟨_, rfl⟩
    rw [hXa] at hb0 hq0 hkm0 hSa ⊢
    rw [hq] at hq0 ⊢
    have hPa := (hb0.block _ (heap_lt PA2.out)).trans PA2.out
    have hHa := (hb0.block _ (heap_lt HA2.out)).trans HA2.out
    have hfa := Kf.of_below hb0
    clear hb0 hXa hq
    refine pick_enter (i := 7) (f := 122) (args := #[.slice ae es.length ce, .string a]) rfl (by kernel_rfl) rfl rfl (by simp [go_sem]) ?_
    refine (HPl.out Xa ⟨ls, vo, vl, hkm0⟩).mono ?_
    rintro e Xc ⟨rfl, hb⟩
    replace hq0 := (hb.block _ (heap_lt hq0)).trans hq0
    replace hPa := (hb.block _ (heap_lt hPa)).trans hPa
    replace hHa := (hb.block _ (heap_lt hHa)).trans hHa
    replace hkm0 := hkm0.below hb
    replace hfa := hfa.trans (Kf.of_below hb)
    have hSc : Xc.cell? ⟨p4, 0, none⟩ = some (.pointer (some ⟨Mb, 0, none⟩)) ∧ Xc.cell? ⟨b9, 0, none⟩ = some (.string a) ∧ Xc.cell? ⟨Mb, 0, none⟩ = some (.slice ae es.length ce) := ⟨cell_of_heap hPa 0, cell_of_heap hHa 0, km_effs ⟨ls, vo, vl, hkm0⟩⟩
    clear hSa hb
    refine ⟨_, rfl, hSc, ?_⟩
    refine pick_frame (by simp [go_sem]; exact rfl) ?_
    refine pick_op (i := 8) (v := .agg #[.int .i64 25, .int .i64 PL, .int .i64 0, .int .i64 0]) (by kernel_rfl) rfl (by kernel_rfl) (by kernel_rfl) rfl rfl (fun w' hw => by simp [go_sem]) hSc (by simp [go_sem]; exact rfl) ?_
    refine pick_enter (i := 9) (f := 26) (args := #[.pointer (some ⟨Mb, 0, none⟩), .agg #[.int .i64 25, .int .i64 PL, .int .i64 0, .int .i64 0]]) rfl (by kernel_rfl) rfl rfl (by simp [go_sem]) ?_
    refine (add2_calls ⟨25, PL, 0, 0⟩ hkm0 (by have := HB.out; omega)).mono ?_
    rintro e Xd ⟨rfl, ⟨vo2, hkd⟩, fr⟩
    have hqd := fr.keep hq0 (by decide) (by decide) (by decide)
    have hPd := fr.keep hPa (by decide) (by decide) (by decide)
    have hHd := fr.keep hHa (by decide) (by decide) (by decide)
    have hfd := hfa.trans fr
    have hSd : Xd.cell? ⟨p4, 0, none⟩ = some (.pointer (some ⟨Mb, 0, none⟩)) ∧ Xd.cell? ⟨b9, 0, none⟩ = some (.string a) ∧ Xd.cell? ⟨Mb, 0, none⟩ = some (.slice ae es.length ce) := ⟨cell_of_heap hPd 0, cell_of_heap hHd 0, km_effs ⟨ls, vo2, vl, hkd⟩⟩
    refine ⟨_, rfl, hSd, ?_⟩
    refine pick_frame (by simp [go_sem]; exact rfl) ?_
    obtain ⟨hkz, hfz⟩ := km_box hkm hkd hfd hqle hqd (.int .i64 (s.out.length : Int))
    have hqz := box_set1 hqd (.int .i64 (s.out.length : Int))
    have z0 := cell_of_heap hqd 0
    have z1 := frozen_of_heap hqd 0
    simp at z0
    have PA5 := hid (hfz.keep PA2.out (by decide) (by decide) (by decide))
    have HA5 := hid (hfz.keep HA2.out (by decide) (by decide) (by decide))
    have S5 := hid (show KmE B W0 Mb (.slice ae es.length ce) (s.put ⟨25, PL, 0, 0⟩) _ from ⟨ls, vo2, vl, hkz⟩)
    have F5 := hid (F2.out.trans hfz)
    have KA5 := hid (KnAt.frame hfz _ _ KA2.out)
    have PT5 := hid hqz
    have hSz : (Xd.setCell ⟨q, 0, none⟩ (.int .i64 (s.out.length : Int))).cell? ⟨p4, 0, none⟩ = some (.pointer (some ⟨Mb, 0, none⟩)) ∧ (Xd.setCell ⟨q, 0, none⟩ (.int .i64 (s.out.length : Int))).cell? ⟨b9, 0, none⟩ = some (.string a) ∧ (Xd.setCell ⟨q, 0, none⟩ (.int .i64 (s.out.length : Int))).cell? ⟨Mb, 0, none⟩ = some (.slice ae es.length ce) := ⟨cell_of_heap PA5.out 0, cell_of_heap HA5.out 0, km_effs S5.out⟩
    refine pick_skip (i := 11) (w1 := Xd.setCell ⟨q, 0, none⟩ (.int .i64 (s.out.length : Int))) rfl rfl (by kernel_rfl) rfl rfl (by simp [go_sem, z0, z1]) hSz ?_
    refine pick_end (by kernel_rfl) ?_
    clear hSz hSd hSc z0 z1 hqz hkz hfz hfd hHd hPd hqd hkd fr hfa hHa hPa hqle hkm0 hq0 hkm PA2 HA2 S2 F2 KA2 hS
    generalize Xd.setCell ⟨q, 0, none⟩ (.int .i64 (s.out.length : Int)) = X5 at *
    clear Xd Xa
    clear Xc
  all_goals
    go_upto_region 8 with fail
    have hb : Below X5.heap.size X5 X5.drew := (Below.refl _ _).drew
    have PA6 := hid ((hb.block _ (heap_lt PA5.out)).trans PA5.out)
    have HA6 := hid ((hb.block _ (heap_lt HA5.out)).trans HA5.out)
    have PT6 := hid ((hb.block _ (heap_lt PT5.out)).trans PT5.out)
    have S6 := hid (S5.out.below hb)
    have F6 := hid (F5.out.trans (Kf.of_below hb))
    have KA6 := hid (KnAt.frame (Kf.of_below hb) _ _ KA5.out)
    clear S5 F5 PA5 HA5 PT5 KA5
    clear hb
    refine pick_begin (S := fun w => w.cell? ⟨p4, 0, none⟩ = some (.pointer (some ⟨Mb, 0, none⟩)) ∧ w.cell? ⟨b9, 1, none⟩ = some (.string b) ∧ w.cell? ⟨b9, 2, none⟩ = some (.string d) ∧ w.cell? ⟨b9, 3, none⟩ = some (.iface Tu pu)) (n := 12) (ls := #[false, false, false, false, false, false, false, false, false, false, false, false]) (by kernel_rfl) rfl (by kernel_rfl) ?_
    generalize X5.drew = X6 at *
    have hS : X6.cell? ⟨p4, 0, none⟩ = some (.pointer (some ⟨Mb, 0, none⟩)) ∧ X6.cell? ⟨b9, 1, none⟩ = some (.string b) ∧ X6.cell? ⟨b9, 2, none⟩ = some (.string d) ∧ X6.cell? ⟨b9, 3, none⟩ = some (.iface Tu pu) := ⟨cell_of_heap PA6.out 0, cell_of_heap HA6.out 1, cell_of_heap HA6.out 2, cell_of_heap HA6.out 3⟩
    refine pick_op (i := 0) (v := .pointer (some ⟨Mb, 0, none⟩)) (by kernel_rfl) rfl (by kernel_rfl) (by kernel_rfl) rfl rfl (fun w' hw => by simp [go_sem, hw.1]) hS (by simp [go_sem]; exact rfl) ?_
    refine pick_op (i := 1) (v := .pointer (some ⟨b9, 3, none⟩)) (by kernel_rfl) rfl (by kernel_rfl) (by kernel_rfl) rfl rfl (fun w' hw => by simp [go_sem]) hS (by simp [go_sem]; exact rfl) ?_
    refine pick_op (i := 2) (v := .iface Tu pu) (by kernel_rfl) rfl (by kernel_rfl) (by kernel_rfl) rfl rfl (fun w' hw => by simp [go_sem, hw.2.2.2]) hS (by simp [go_sem]; exact rfl) ?_
    refine pick_op (i := 3) (v := .pointer kn) (by kernel_rfl) rfl (by kernel_rfl) (by kernel_rfl) rfl rfl (fun w' hw => by simp [go_sem]) hS (by simp [go_sem]; exact rfl) ?_
    refine pick_op (i := 4) (v := .pointer (some ⟨b9, 1, none⟩)) (by kernel_rfl) rfl (by kernel_rfl) (by kernel_rfl) rfl rfl (fun w' hw => by simp [go_sem]) hS (by simp [go_sem]; exact rfl) ?_
    refine pick_op (i := 5) (v := .string b) (by kernel_rfl) rfl (by kernel_rfl) (by kernel_rfl) rfl rfl (fun w' hw => by simp [go_sem, hw.2.1]) hS (by simp [go_sem]; exact rfl) ?_
    refine pick_op (i := 7) (v := .pointer (some ⟨b9, 2, none⟩)) (by kernel_rfl) rfl (by kernel_rfl) (by kernel_rfl) rfl rfl (fun w' hw => by simp [go_sem]) hS (by simp [go_sem]; exact rfl) ?_
    refine pick_op (i := 8) (v := .string d) (by kernel_rfl) rfl (by kernel_rfl) (by kernel_rfl) rfl rfl (fun w' hw => by simp [go_sem, hw.2.2.1]) hS (by simp [go_sem]; exact rfl) ?_
    refine pick_op (i := 10) (v := .func (.func 123) #[] #[.pointer (some ⟨p4, 0, none⟩), .pointer (some ⟨q, 0, none⟩)]) (by kernel_rfl) rfl (by kernel_rfl) (by kernel_rfl) rfl rfl (fun w' hw => by simp [go_sem]) hS (by simp [go_sem]; exact rfl) ?_
    refine pick_enter (i := 6) (f := 57) (args := #[.pointer kn, .string b]) rfl (by kernel_rfl) rfl rfl (by simp [go_sem]) ?_
    refine (knowing_calls b KA6.out (by rw [List.length_reverse]; have := HB.out; omega)).mono ?_
    rintro e X7 ⟨p2, rfl, hk2, hb⟩
    have PA7 := hid ((hb.block _ (heap_lt PA6.out)).trans PA6.out)
    have HA7 := hid ((hb.block _ (heap_lt HA6.out)).trans HA6.out)
    have PT7 := hid ((hb.block _ (heap_lt PT6.out)).trans PT6.out)
    have S7 := hid (S6.out.below hb)
    have F7 := hid (F6.out.trans (Kf.of_below hb))
    have KA7 := hid (KnAt.frame (Kf.of_below hb) _ _ KA6.out)
    clear S6 F6 PA6 HA6 PT6 KA6
    have KB7 := hid hk2
    clear hb hk2
    clear hS
    have hS : X7.cell? ⟨p4, 0, none⟩ = some (.pointer (some ⟨Mb, 0, none⟩)) ∧ X7.cell? ⟨b9, 1, none⟩ = some (.string b) ∧ X7.cell? ⟨b9, 2, none⟩ = some (.string d) ∧ X7.cell? ⟨b9, 3, none⟩ = some (.iface Tu pu) := ⟨cell_of_heap PA7.out 0, cell_of_heap HA7.out 1, cell_of_heap HA7.out 2, cell_of_heap HA7.out 3⟩
    refine ⟨_, rfl, hS, ?_⟩
    refine pick_frame (by simp [go_sem]; exact rfl) ?_
    refine pick_enter (i := 9) (f := 57) (args := #[.pointer p2, .string d]) rfl (by kernel_rfl) rfl rfl (by simp [go_sem]) ?_
    refine (knowing_calls d KB7.out (by rw [List.length_cons, List.length_reverse]; have := HB.out; omega)).mono ?_
    rintro e X8 ⟨p3, rfl, hk2, hb⟩
    have PA8 := hid ((hb.block _ (heap_lt PA7.out)).trans PA7.out)
    have HA8 := hid ((hb.block _ (heap_lt HA7.out)).trans HA7.out)
    have PT8 := hid ((hb.block _ (heap_lt PT7.out)).trans PT7.out)
    have S8 := hid (S7.out.below hb)
    have F8 := hid (F7.out.trans (Kf.of_below hb))
    have KA8 := hid (KnAt.frame (Kf.of_below hb) _ _ KA7.out)
    have KB8 := hid (KnAt.frame (Kf.of_below hb) _ _ KB7.out)
    clear S7 F7 PA7 HA7 PT7 KA7 KB7
    have KC8 := hid hk2
    clear hb hk2
    clear hS
    have hS : X8.cell? ⟨p4, 0, none⟩ = some (.pointer (some ⟨Mb, 0, none⟩)) ∧ X8.cell? ⟨b9, 1, none⟩ = some (.string b) ∧ X8.cell? ⟨b9, 2, none⟩ = some (.string d) ∧ X8.cell? ⟨b9, 3, none⟩ = some (.iface Tu pu) := ⟨cell_of_heap PA8.out 0, cell_of_heap HA8.out 1, cell_of_heap HA8.out 2, cell_of_heap HA8.out 3⟩
    refine ⟨_, rfl, hS, ?_⟩
    refine pick_frame (by simp [go_sem]; exact rfl) ?_
    refine pick_enter (i := 11) (f := 56) (args := #[.pointer (some ⟨Mb, 0, none⟩), .iface Tu pu, .pointer p3, .func (.func 123) #[] #[.pointer (some ⟨p4, 0, none⟩), .pointer (some ⟨q, 0, none⟩)]]) rfl (by kernel_rfl) rfl rfl (by simp [go_sem]) ?_
    refine (putOff_calls ⟨c.kid 0, ss ++ [b, d], s.out.length, 1⟩ S8.out (by have := HB.out; have := later_le s; show s.later.length ≤ _; omega) G0.out.1 G0.out.2 (by show KnAt X8 p3 (ss ++ [b, d]).reverse; rw [List.reverse_append]; exact KC8.out) ⟨p4, q, _, rfl, PA8.out, PT8.out, Or.inr ⟨rfl, rfl⟩⟩).mono ?_
    rintro e X9 ⟨⟨x9, rfl⟩, hst, fr⟩
    have PA9 := hid (fr.keep PA8.out (by decide) (by decide) (by decide))
    have HA9 := hid (fr.keep HA8.out (by decide) (by decide) (by decide))
    have PT9 := hid (fr.keep PT8.out (by decide) (by decide) (by decide))
    have S9 := hid hst
    have F9 := hid (F8.out.trans fr)
    have KA9 := hid (KnAt.frame fr _ _ KA8.out)
    have KB9 := hid (KnAt.frame fr _ _ KB8.out)
    have KC9 := hid (KnAt.frame fr _ _ KC8.out)
    clear S8 F8 PA8 HA8 PT8 KA8 KB8 KC8
    clear hst fr
    clear hS
    have hS : X9.cell? ⟨p4, 0, none⟩ = some (.pointer (some ⟨Mb, 0, none⟩)) ∧ X9.cell? ⟨b9, 1, none⟩ = some (.string b) ∧ X9.cell? ⟨b9, 2, none⟩ = some (.string d) ∧ X9.cell? ⟨b9, 3, none⟩ = some (.iface Tu pu) := ⟨cell_of_heap PA9.out 0, cell_of_heap HA9.out 1, cell_of_heap HA9.out 2, cell_of_heap HA9.out 3⟩
    refine ⟨_, rfl, hS, ?_⟩
    refine pick_frame (by simp [go_sem]; exact rfl) ?_
    refine pick_end (by kernel_rfl) ?_
    clear hS
    go_wp2_with fail
    go_end0
    exact ⟨⟨_, rfl⟩, S9.out, F9.out⟩

end
end Go.Proofs.YtgiejnmphfgmgaaGreatDoor

/- The program's maker of code: handlers. -/
namespace Go.Proofs.YtgiejnmphfgmgaaGreatDoor
open Go.RowKit Go.Deep

/-- What is made behind so many clauses. -/
def clZ (es : List Ef) (t : Tp) (ss : List ByteArray) (sA : Cs) : Nat → Cs
  | 0 => sA
  | 1 => handB t ss sA
  | j + 2 => opZ es ss (clZ es t ss sA (j + 1)) (t.kid (j + 2))

theorem clZ_fold (es : List Ef) (t : Tp) (ss : List ByteArray) (sA : Cs) : ∀ j, j + 2 ≤ t.k.count → clZ es t ss sA (j + 1) = ((t.kids.drop 2).take j).foldl (opZ es ss) (handB t ss sA)
  | 0, _ => by simp [clZ]
  | j + 1, h => by
    have hl : j < (t.kids.drop 2).length := by rw [List.length_drop, t.kids_len]; omega
    rw [take_next hl, List.foldl_append, ← clZ_fold es t ss sA j (by omega)]
    have e : (t.kids.drop 2).getD j default = t.kid (j + 2) := by
      unfold Tp.kid
      simp [List.getD, List.getElem?_drop, Nat.add_comm]
    rw [e]
    rfl

theorem clZ_cost (es : List Ef) (t : Tp) (ss : List ByteArray) (sA : Cs) (hc : ∀ i, 1 ≤ i → i < t.k.count → (t.kid i).k.count = 1) : ∀ j, j + 1 ≤ t.k.count → (clZ es t ss sA j).out.length + 10 * (clZ es t ss sA j).rest ≤ sA.out.length + 10 * sA.rest + 10 * (((t.kids.drop 1).take j).map Tp.size).sum
  | 0, _ => by simp [clZ]
  | j + 1, h => by
    have hl : j < (t.kids.drop 1).length := by rw [List.length_drop, t.kids_len]; omega
    have ih := clZ_cost es t ss sA hc j (by omega)
    have e : (t.kids.drop 1).getD j default = t.kid (j + 1) := by
      unfold Tp.kid
      simp [List.getD]
    have hsz := (kids1 (hc (j + 1) (by omega) (by omega))).2
    rw [take_next hl, List.map_append, List.sum_append, e]
    simp only [List.map_cons, List.map_nil, List.sum_cons, List.sum_nil, Nat.add_zero]
    have g1 : (clZ es t ss sA (j + 1)).out.length = (clZ es t ss sA j).out.length + 1 ∧ (clZ es t ss sA (j + 1)).rest = (clZ es t ss sA j).rest + ((t.kid (j + 1)).kid 0).size := by
      cases j with
      | zero => simp [clZ, handB, Cs.wait, Cs.put, Cs.rest]
      | succ j => simp [clZ, opZ, Cs.wait, Cs.put, Cs.rest]
    omega

theorem clZ_out (es : List Ef) (t : Tp) (ss : List ByteArray) (sA : Cs) : ∀ j, sA.out.length ≤ (clZ es t ss sA j).out.length
  | 0 => Nat.le_refl _
  | 1 => by simp [clZ, handB, Cs.wait, Cs.put]
  | j + 2 => by
    have := clZ_out es t ss sA (j + 1)
    simp only [clZ, opZ, Cs.wait, Cs.put, List.length_append, List.length_cons, List.length_nil]
    omega

theorem sum_takes (l : List Tp) (j : Nat) : ((l.take j).map Tp.size).sum ≤ (l.map Tp.size).sum := sum_take l j

theorem shapeH {B : Nat} {w : World} {n : Nd} {us : List Value} {v : Value} (h : Shape B w n us v) (e : n.kind = 23 ∨ n.kind = 24) : ∃ u us' sl, us = u :: us' ∧ v = .iface 124 (.agg #[.int .i64 n.kind, u, sl]) ∧ RowAt B w sl us' ∧ us'.length ≤ 5 := by
  cases h <;> first | exact ⟨_, _, _, rfl, rfl, by assumption, by assumption⟩ | (exfalso; simp at e; done) | (exfalso; dsimp only at e; omega)

/-- An instruction's number is stored. -/
theorem km_store {B : Nat} {W0 : World} {Mb : Nat} {ve : Value} {s : Cs} {W : World} (h : KmE B W0 Mb ve s W) {fr : Nat} (hfr : fr < s.out.length) {wh : Nat} (hw : wh ≤ 2) : ∃ g cap, W.cell? ⟨Mb, 1, none⟩ = some (.slice (some ⟨g, 0, none⟩) s.out.length cap) ∧ Mb ≠ g ∧ (∃ x, W.cell? ⟨g, fr * 4 + (wh + 1), none⟩ = some x) ∧ W.frozen? ⟨g, fr * 4 + (wh + 1), none⟩ = false ∧ (∀ v : Int, KmE B W0 Mb ve (s.setAt fr wh v) (W.setCell ⟨g, fr * 4 + (wh + 1), none⟩ (.int .i64 v)) ∧ Kf W (W.setCell ⟨g, fr * 4 + (wh + 1), none⟩ (.int .i64 v))) := by
  obtain ⟨ls, vo, vl, h⟩ := h
  obtain ⟨g, cap, rfl⟩ := km_code h (by omega)
  obtain ⟨-, cur, hc⟩ := own_type h.orow (g := g) rfl
  refine ⟨g, cap, cell_of_heap h.blk 1, (fun e => by subst e; have := h.blk; rw [hc] at this; cases this), ⟨(s.out.getD fr default).cell (wh + 1), by rw [h.orow.cellAt (fr * 4 + (wh + 1)) (by omega), rowZ_get In.cell 4 (by decide) s.out _ (by omega), show (fr * 4 + (wh + 1)) / 4 = fr by omega, show (fr * 4 + (wh + 1)) % 4 = wh + 1 by omega]⟩, frozen_of_heap hc _, fun v => km_set h hfr hw v⟩

theorem put_set (s : Cs) : (s.put ⟨21, 0, 0, 0⟩).setAt s.out.length 1 1 = s.put ⟨21, 0, 1, 0⟩ := by
  simp [Cs.put, Cs.setAt, In.lead]

theorem row_in {B : Nat} {W0 : World} {Mb : Nat} {ve : Value} {s : Cs} {W : World} (h : KmE B W0 Mb ve s W) {g o : Nat} (h1 : g < W0.heap.size) (h2 : g ≠ Mb) : W.cell? ⟨g, o, none⟩ = W0.cell? ⟨g, o, none⟩ := by
  obtain ⟨ls, vo, vl, h⟩ := h
  exact World.cell?_of_block (a := ⟨g, o, none⟩) (h.kept g h1 h2)

section
variable {B : Nat} {W0 : World} {Mb : Nat} {ae : Option Addr} {ce : Nat} {es : List Ef} {ns : List Nd} {K F : Nat}

set_option maxHeartbeats 8000000 in
set_option maxRecDepth 100000 in
theorem putHandler_calls (ex : Ex W0 Mb ae es) (ih : PutC B W0 Mb (.slice ae es.length ce) es ns K F) (hk1 : K ≤ 1000) (hMB : Mb < B) {t : Tp} {Tu : TypeId} {pu sl : Value} {us : List Value} {kn : Option Addr} {ss : List ByteArray} {s : Cs} {W : World} (hkd : t.n.kind = 23 ∨ t.n.kind = 24) (hF : t.size ≤ F + 1) (hs : Stands ns t) (hb : BdT t ss) (hK : ss.length + 2 * t.size ≤ K) (hB : s.out.length + 10 * s.rest + 10 * t.size ≤ 950000) (f0 : FormK B W0 (t.kid 0) (.iface Tu pu)) (hrow : RowAt B W0 sl us) (hul : us.length + 1 = t.k.count) (h2 : 2 ≤ t.k.count) (hif : ∀ u ∈ us, ∃ T p, u = .iface T p) (hfk : ∀ i, i < us.length → FormK B W0 (t.kid (i + 1)) (us.getD i default)) (h : KmE B W0 Mb (.slice ae es.length ce) s W) (hk : KnAt W kn ss.reverse) :
    Calls Tryz.prog 62 #[.pointer (some ⟨Mb, 0, none⟩), .agg #[.int .i64 t.n.kind, .iface Tu pu, sl], .pointer kn] W (SetP B W0 Mb (.slice ae es.length ce) (handZ es (partZ es F) t ss s) W) := by
  obtain ⟨g, ro, cap, rfl, hgB, hgl, hcells⟩ := hrow
  obtain ⟨L, hL⟩ : ∃ L, us.length = L := ⟨_, rfl⟩
  obtain ⟨kd, hkd'⟩ : ∃ k, t.n.kind = k := ⟨_, rfl⟩
  obtain ⟨hh, hhh⟩ : ∃ x, s.out.length = x := ⟨_, rfl⟩
  have Hhh := hid hhh
  have HKd := hid (And.intro hkd hkd')
  rw [hL] at hul
  have HRow := hid (And.intro hgB (And.intro hgl (And.intro hcells hL)))
  have hall := kidsM h2
  have s0 := hs.kid (i := 0) (by omega)
  have b0 := hb.kid0 (i := 0) (by omega) (by unfold knownZ; rcases hkd with e | e <;> simp [e])
  have HCl : Hid (∀ i, 1 ≤ i → i < t.k.count → (t.kid i).k.count = 1 ∧ ((t.kid i).n.kind = if i = 1 then 25 else 26) ∧ BdT ((t.kid i).kid 0) (ss ++ knownZ (t.kid i).n 0)) := fun i h1 hi => (fun (h7 : (t.kid i).k.count = 1) => ⟨h7, (hb.clause hi).1 hkd (by omega), by
    have h9 := hb.inner hi h7
    rw [show knownZ t.n i = [] by unfold knownZ; rcases hkd with e | e <;> simp [e], List.append_nil] at h9
    exact h9⟩) (hs.head hkd (t.kid i) (by
    have e : (t.kids.drop 1)[i - 1]? = some (t.kid i) := by
      rw [List.getElem?_drop, show 1 + (i - 1) = i by omega]
      unfold Tp.kid
      simp [List.getD, show i < t.kids.length by rw [t.kids_len]; exact hi]
    exact List.mem_of_getElem? e)).2
  have HSz : Hid ((t.kid 0).size + ((t.kids.drop 1).map Tp.size).sum + 1 = t.size) := by
    show _ = _
    have e := t.kids_sum
    rw [hall.1] at e ⊢
    simp only [List.map_cons, List.sum_cons, List.drop_succ_cons, List.drop_zero] at e ⊢
    omega
  have G0 := hid (And.intro f0 (And.intro s0 b0))
  have HB := hid (show s.out.length + 10 * s.rest + 10 * t.size ≤ 950000 ∧ (t.kid 0).size ≤ F ∧ ss.length + 2 * (t.kid 0).size ≤ K ∧ ss.length ≤ 1000 ∧ L + 1 = t.k.count ∧ 1 ≤ L ∧ Mb < B ∧ t.n.kids = (t.k.count : Int) by have := HSz.out; have := hs.kids; omega)
  have HOne : Hid (1 ≤ ((t.kids.drop 1).map Tp.size).sum) := by
    show _ ≤ _
    rw [hall.1]
    simp only [List.drop_succ_cons, List.drop_zero, List.map_cons, List.sum_cons]
    have := (t.kid 1).size_pos
    omega
  have HL5 := hid (show L ≤ 1000 by have := (arity_at hs.toGood).2.1 (by rcases hkd with e | e <;> rw [e] <;> rfl); omega)
  have HFk := hid hfk
  have HIf := hid hif
  have HI := hid ih
  have HX := hid ex
  rw [hkd', hL]
  have bl := (Below.refl W.heap.size W).alloc (Nat.le_refl _) (.cells #[.int .i64 kd, .iface Tu pu, .slice (some ⟨g, ro, none⟩) L cap] 124)
  have hA := (MapKept.heap_alloc W (.cells #[.int .i64 kd, .iface Tu pu, .slice (some ⟨g, ro, none⟩) L cap] 124)).1
  obtain ⟨Y, hY⟩ : ∃ Y, W.alloc (.cells #[.int .i64 kd, .iface Tu pu, .slice (some ⟨g, ro, none⟩) L cap] 124) = Y := ⟨_, rfl⟩
  rw [hY] at bl hA
  have HY := hid hY
  have HA1 := hid hA
  have S1 := hid (h.below bl)
  have F1 := hid (Kf.of_below bl)
  have KA1 := hid (KnAt.frame (Kf.of_below bl) _ _ hk)
  have hkk : kd = 23 ∨ kd = 24 := by rw [← hkd']; exact hkd
  clear hkd hF hs hb hK hB f0 hul h2 hif hfk h hk hcells hgB hgl hL hkd' hhh hall s0 b0 bl hA hY ih ex hk1 hMB
  go_enter Tryz.func62, Tryz.ntmps62
  go_upto_region 1 with fail
  rw [HY.out]
  clear HY
  obtain ⟨b9, hb9⟩ : ∃ b, W.heap.size = b := ⟨_, rfl⟩
  rw [hb9] at HA1 ⊢
  clear hb9
  go_wp2_with fail
  refine (addI_calls ⟨21, 0, 0, 0⟩ S1.out (by have := HB.out; omega)).mono ?_
  rintro e X2 ⟨rfl, hst, fr⟩
  have HA2 := hid (fr.keep HA1.out (by decide) (by decide) (by decide))
  have S2 := hid hst
  have F2 := hid (F1.out.trans fr)
  have KA2 := hid (KnAt.frame fr _ _ KA1.out)
  clear S1 F1 HA1 KA1
  clear hst fr
  rw [Hhh.out]
  obtain ⟨xk, hxk⟩ : ∃ x : Int, (if t.n.kind = 23 then 1 else 0) = x := ⟨_, rfl⟩
  have Hxk := hid hxk
  clear hxk
  have c0 := cell_of_heap HA2.out 0
  simp at c0
  rcases hkk with rfl | rfl
  case' inl =>
    obtain ⟨gc, cpc, hm1, hne, ⟨xo, hxo⟩, hfz, hset⟩ := km_store (fr := s.out.length) (wh := 1) S2.out (by rw [put_len]; omega) (by omega)
    have hset2 := hset 1
    rw [put_set] at hset2
    rw [put_len, Hhh.out] at hm1
    rw [Hhh.out] at hxo hfz hset2
    have hi0 : (0 : Int) ≤ (hh : Int) := by omega
    have hi1 : (hh : Int) < ((hh + 1 : Nat) : Int) := by omega
    obtain ⟨Z, hZ⟩ : ∃ Z, X2.setCell ⟨gc, hh * 4 + (1 + 1), none⟩ (.int .i64 1) = Z := ⟨_, rfl⟩
    rw [hZ] at hset2
    have HZ := hid hZ
    clear hset hZ
    go_upto_region 4 with fail
    rw [HZ.out]
    clear HZ c0 hm1 hne hxo hfz hi0 hi1
    have HA3 := hid (hset2.2.keep HA2.out (by decide) (by decide) (by decide))
    have S3 : Hid (KmE B W0 Mb (.slice ae es.length ce) (s.put ⟨21, 0, xk, 0⟩) Z) := by rw [← Hxk.out, if_pos HKd.out.2]; exact hset2.1
    have F3 := hid (F2.out.trans hset2.2)
    have KA3 := hid (KnAt.frame hset2.2 _ _ KA2.out)
    clear hset2 HA2 S2 F2 KA2 X2
    rename World => X3
  case' inr =>
    go_upto_region 4 with fail
    clear c0
    have HA3 := hid HA2.out
    have S3 : Hid (KmE B W0 Mb (.slice ae es.length ce) (s.put ⟨21, 0, xk, 0⟩) X2) := by rw [← Hxk.out, if_neg (by rw [HKd.out.2]; decide)]; exact S2.out
    have F3 := hid F2.out
    have KA3 := hid KA2.out
    clear HA2 S2 F2 KA2
    rename World => X3
  all_goals
    have c := cell_of_heap HA3.out 1
    simp at c
    go_wp2_with fail
    clear c
    refine (HI.out (t.kid 0) _ kn ss _ _ HB.out.2.1 G0.out.2.1 G0.out.2.2 HB.out.2.2.1 (by have := put_len s ⟨21, 0, xk, 0⟩; have := put_rest s ⟨21, 0, xk, 0⟩; have := HSz.out; have := HB.out; have := (t.kid 0).size_pos; have hp : 1 ≤ ((t.kids.drop 1).map Tp.size).sum := HOne.out; omega) G0.out.1 S3.out KA3.out).mono ?_
    rintro e X4 ⟨⟨xp, rfl⟩, hst, fr⟩
    have HA4 := hid (fr.keep HA3.out (by decide) (by decide) (by decide))
    have S4 := hid hst
    have F4 := hid (F3.out.trans fr)
    have KA4 := hid (KnAt.frame fr _ _ KA3.out)
    clear S3 F3 HA3 KA3
    clear hst fr
    have R0 := hid (part_r (es := es) (K := K) F (t.kid 0) ss (s.put ⟨21, 0, xk, 0⟩) HB.out.2.1 G0.out.2.1 HB.out.2.2.1)
    obtain ⟨r1, hr1⟩ : ∃ x, partZ es F (t.kid 0) ss (s.put ⟨21, 0, xk, 0⟩) = x := ⟨_, rfl⟩
    rw [hr1] at S4 R0
    have Er1 := hid hr1
    clear hr1
    have HC1 := hid (show r1.out.length + 10 * r1.rest + 10 * ((t.kids.drop 1).map Tp.size).sum + 8 ≤ 950000 ∧ s.out.length < r1.out.length by have := R0.out.cost; have := R0.out.out; have := put_len s ⟨21, 0, xk, 0⟩; have := put_rest s ⟨21, 0, xk, 0⟩; have := HSz.out; have := HB.out; have := (t.kid 0).size_pos; omega)
    go_wp2_with fail
    refine (addI_calls ⟨23, 0, 0, 0⟩ S4.out (by have := HC1.out; omega)).mono ?_
    rintro e X5 ⟨rfl, hst, fr⟩
    have HA5 := hid (fr.keep HA4.out (by decide) (by decide) (by decide))
    have S5 := hid hst
    have F5 := hid (F4.out.trans fr)
    have KA5 := hid (KnAt.frame fr _ _ KA4.out)
    clear S4 F4 HA4 KA4
    clear hst fr
    go_upto_region 6 with fail
    have hb : Below X5.heap.size X5 X5.drew := (Below.refl _ _).drew
    have HA6 := hid ((hb.block _ (heap_lt HA5.out)).trans HA5.out)
    have S6 := hid (S5.out.below hb)
    have F6 := hid (F5.out.trans (Kf.of_below hb))
    have KA6 := hid (KnAt.frame (Kf.of_below hb) _ _ KA5.out)
    clear S5 F5 HA5 KA5
    clear hb
    obtain ⟨gc, cpc, hm1, hne, ⟨xo, hxo⟩, hfz, hset⟩ := km_store (fr := s.out.length) (wh := 0) S6.out (by rw [put_len]; have := HC1.out; omega) (by omega)
    obtain ⟨L2, hL2⟩ : ∃ x : Nat, (r1.put ⟨23, 0, 0, 0⟩).out.length = x := ⟨_, rfl⟩
    rw [hL2] at hm1
    have hset2 := hset ((r1.put ⟨23, 0, 0, 0⟩).out.length : Int)
    rw [setAt_lead, hL2] at hset2
    have hi0 : (0 : Int) ≤ (hh : Int) := by omega
    have hi1 : (hh : Int) < (L2 : Int) := by have h0 : s.out.length < (r1.put ⟨23, 0, 0, 0⟩).out.length := (by rw [put_len]; have := HC1.out; omega); have := Hhh.out; omega
    rw [Hhh.out] at hxo hfz hset2
    refine pick_begin (S := fun w => w.cell? ⟨Mb, 1, none⟩ = some (.slice (some ⟨gc, 0, none⟩) L2 cpc)) (n := 13) (ls := #[false, false, false, false, false, false, false, false, false, false, false, false, false]) (by kernel_rfl) rfl (by kernel_rfl) ?_
    generalize X5.drew = X6 at *
    refine pick_op (i := 0) (v := .pointer (some ⟨Mb, 0, none⟩)) (by kernel_rfl) rfl (by kernel_rfl) (by kernel_rfl) rfl rfl (fun w' hw => by simp [go_sem]) hm1 (by simp [go_sem]; exact rfl) ?_
    refine pick_op (i := 1) (v := .pointer (some ⟨Mb, 0, none⟩)) (by kernel_rfl) rfl (by kernel_rfl) (by kernel_rfl) rfl rfl (fun w' hw => by simp [go_sem]) hm1 (by simp [go_sem]; exact rfl) ?_
    refine pick_op (i := 2) (v := .pointer (some ⟨Mb, 1, none⟩)) (by kernel_rfl) rfl (by kernel_rfl) (by kernel_rfl) rfl rfl (fun w' hw => by simp [go_sem]) hm1 (by simp [go_sem]; exact rfl) ?_
    refine pick_op (i := 3) (v := .slice (some ⟨gc, 0, none⟩) L2 cpc) (by kernel_rfl) rfl (by kernel_rfl) (by kernel_rfl) rfl rfl (fun w' hw => by simp [go_sem, hw]) hm1 (by simp [go_sem]; exact rfl) ?_
    refine pick_op (i := 4) (v := .int .i64 (hh : Int)) (by kernel_rfl) rfl (by kernel_rfl) (by kernel_rfl) rfl rfl (fun w' hw => by simp [go_sem]) hm1 (by simp [go_sem]; exact rfl) ?_
    refine pick_op (i := 5) (v := .pointer (some ⟨Mb, 0, none⟩)) (by kernel_rfl) rfl (by kernel_rfl) (by kernel_rfl) rfl rfl (fun w' hw => by simp [go_sem]) hm1 (by simp [go_sem]; exact rfl) ?_
    refine pick_op (i := 6) (v := .pointer (some ⟨Mb, 0, none⟩)) (by kernel_rfl) rfl (by kernel_rfl) (by kernel_rfl) rfl rfl (fun w' hw => by simp [go_sem]) hm1 (by simp [go_sem]; exact rfl) ?_
    refine pick_op (i := 7) (v := .pointer (some ⟨Mb, 1, none⟩)) (by kernel_rfl) rfl (by kernel_rfl) (by kernel_rfl) rfl rfl (fun w' hw => by simp [go_sem]) hm1 (by simp [go_sem]; exact rfl) ?_
    refine pick_op (i := 8) (v := .slice (some ⟨gc, 0, none⟩) L2 cpc) (by kernel_rfl) rfl (by kernel_rfl) (by kernel_rfl) rfl rfl (fun w' hw => by simp [go_sem, hw]) hm1 (by simp [go_sem]; exact rfl) ?_
    refine pick_op (i := 9) (v := .int .i64 (L2 : Int)) (by kernel_rfl) rfl (by kernel_rfl) (by kernel_rfl) rfl rfl (fun w' hw => by simp [go_sem]) hm1 (by simp [go_sem]; exact rfl) ?_
    refine pick_op (i := 10) (v := .pointer (some ⟨gc, hh * 4, none⟩)) (by kernel_rfl) rfl (by kernel_rfl) (by kernel_rfl) rfl rfl (fun w' hw => by simp [go_sem, hi0, hi1]) hm1 (by simp [go_sem]; exact rfl) ?_
    refine pick_op (i := 11) (v := .pointer (some ⟨gc, hh * 4 + 1, none⟩)) (by kernel_rfl) rfl (by kernel_rfl) (by kernel_rfl) rfl rfl (fun w' hw => by simp [go_sem]) hm1 (by simp [go_sem]; exact rfl) ?_
    have hS2 : (X6.setCell ⟨gc, hh * 4 + (0 + 1), none⟩ (.int .i64 (L2 : Int))).cell? ⟨Mb, 1, none⟩ = some (.slice (some ⟨gc, 0, none⟩) L2 cpc) := (World.cell?_of_block (Below.heap_setCell X6 ⟨gc, hh * 4 + (0 + 1), none⟩ _ Mb hne)).trans hm1
    refine pick_skip (i := 12) (w1 := X6.setCell ⟨gc, hh * 4 + (0 + 1), none⟩ (.int .i64 (L2 : Int))) rfl rfl (by kernel_rfl) rfl rfl (by simp [go_sem, hxo, hfz]) hS2 ?_
    refine pick_end (by kernel_rfl) ?_
    have hst := hset2.1
    have fr := hset2.2
    have HA7 := hid (fr.keep HA6.out (by decide) (by decide) (by decide))
    have S7 := hid hst
    have F7 := hid (F6.out.trans fr)
    have KA7 := hid (KnAt.frame fr _ _ KA6.out)
    clear S6 F6 HA6 KA6
    clear hst fr hset2 hset hS2 hm1 hne hxo hfz hi0 hi1 hL2
    generalize X6.setCell ⟨gc, hh * 4 + (0 + 1), none⟩ (.int .i64 (L2 : Int)) = X7 at *
    have HsA : Hid ((r1.put ⟨23, 0, 0, 0⟩).lead s.out.length 0 = handA (partZ es F) t ss s) := by
      show _ = _
      unfold handA
      rw [Hxk.out, Er1.out]
    rw [← Hhh.out] at S7
    obtain ⟨sA, hsA⟩ : ∃ x, (r1.put ⟨23, 0, 0, 0⟩).lead s.out.length 0 = x := ⟨_, rfl⟩
    have HC2 := hid (show sA.out.length + 10 * sA.rest + 10 * ((t.kids.drop 1).map Tp.size).sum + 7 ≤ 950000 ∧ s.out.length < sA.out.length by rw [← hsA, lead_len, put_len, show ((r1.put ⟨23, 0, 0, 0⟩).lead s.out.length 0).rest = r1.rest from rfl]; have := HC1.out; omega)
    rw [hsA] at S7 HsA
    clear hsA
    have c := cell_of_heap HA7.out 2
    simp at c
    go_wp2_with fail
    clear c
    go_loopw [45] (fun i wr => ∃ j : Nat, i = .int .i64 (j : Int) ∧ j ≤ L ∧ Hid (KmE B W0 Mb (.slice ae es.length ce) (clZ es t ss sA j) wr ∧ Kf X7 wr)) (fun i _ => L - (intOf i).toNat)
    case atStart => exact ⟨0, rfl, Nat.zero_le _, S7.out, Kf.refl _⟩
    case round =>
      obtain ⟨j, rfl, hj, HJ⟩ := hrel
      by_cases hjl : (j : Int) < (L : Int)
      · have hjL : j < L := by omega
        have hcell := (row_in (o := ro + j) HJ.out.1 HRow.out.2.1 (by have := HRow.out.1; have := HB.out; omega)).trans (HRow.out.2.2.1 j (by rw [HRow.out.2.2.2]; exact hjL))
        have hju : j < us.length := by rw [HRow.out.2.2.2]; exact hjL
        rw [List.getElem?_eq_getElem hju] at hcell
        obtain ⟨Tj, pj, hj'⟩ := HIf.out us[j] (List.getElem_mem hju)
        have hfj := HFk.out j hju
        rw [show us.getD j default = us[j] by simp [List.getD, hju], hj'] at hfj
        rw [hj'] at hcell
        have hKj := KnAt.frame HJ.out.2 _ _ KA7.out
        have hcl := HCl.out (j + 1) (by omega) (by have := HB.out; omega)
        have hcost := clZ_cost es t ss sA (fun i h1 hi => (HCl.out i h1 hi).1) j (by have := HB.out; omega)
        have hsum := sum_takes (t.kids.drop 1) j
        have HPC : Hid (∀ m : Int, m = t.n.kids - 2 → Calls Tryz.prog 97 #[.pointer (some ⟨Mb, 0, none⟩), .iface Tj pj, .pointer kn, .int .i64 m] wr (SetP B W0 Mb (.slice ae es.length ce) (clZ es t ss sA (j + 1)) wr)) := fun m hm => by
          cases j with
          | zero =>
            have := clause_ret (m := m) HB.out.2.2.2.1 (by have := HC2.out; omega) hcl.1 (by have h := hcl.2.2; rwa [show knownZ (t.kid 1).n 0 = [(t.kid 1).n.a] by unfold knownZ; rw [if_pos (Or.inr (by rw [hcl.2.1]; rfl))]] at h) hfj HJ.out.1 hKj (by rw [hcl.2.1]; rfl)
            rw [hm] at this ⊢
            exact this
          | succ j => exact clause_op (m := m) HX.out HB.out.2.2.2.1 (by have := HC2.out; omega) hcl.1 (by have h := hcl.2.2; have e6 : (t.kid (j + 1 + 1)).n.kind = 26 := (by rw [hcl.2.1, if_neg (by omega)]); rwa [show knownZ (t.kid (j + 1 + 1)).n 0 = [(t.kid (j + 1 + 1)).n.b, (t.kid (j + 1 + 1)).n.c] by unfold knownZ; simp [e6]] at h) hfj HJ.out.1 hKj (by rw [hcl.2.1, if_neg (by omega)])
        have HM : Hid (wrap64 ((L : Int) - 1) = t.n.kids - 2) := by
          show _ = _
          have := HB.out
          have h5 := HL5.out
          unfold wrap64
          omega
        have c2 := cell_of_heap (HJ.out.2.keep HA7.out (by decide) (by decide) (by decide)) 2
        simp at c2
        have hi0 : (0 : Int) ≤ (j : Int) := by omega
        have HstP := hid (lt_step hjl)
        have HW1 := hid (wrap_succ (x := j) (by have := HL5.out; omega))
        clear hjL hju hj' hfj hKj hcl hcost hsum
        go_wp2_with fail
        refine (HPC.out _ HM.out).mono ?_
        rintro e Xn ⟨⟨xn, rfl⟩, hn, fn⟩
        have HJ2 := hid (And.intro hn (HJ.out.2.trans fn))
        clear hn fn HPC c2 hcell
        go_wp2_with fail
        try rw [HW1.out]
        exact ⟨⟨j + 1, rfl, by omega, HJ2⟩, HstP.out⟩
      · have hjL : j = L := by omega
        subst hjL
        have HA20 := hid (HJ.out.2.keep HA7.out (by decide) (by decide) (by decide))
        have S20 := hid HJ.out.1
        have F20 := hid (F7.out.trans HJ.out.2)
        have KA20 := hid (KnAt.frame HJ.out.2 _ _ KA7.out)
        have HOut := hid (clZ_out es t ss sA j)
        clear HJ hj
        go_upto_region 12 with fail
        have hb : Below wr.heap.size wr wr.drew := (Below.refl _ _).drew
        have HA21 := hid ((hb.block _ (heap_lt HA20.out)).trans HA20.out)
        have S21 := hid (S20.out.below hb)
        have F21 := hid (F20.out.trans (Kf.of_below hb))
        have KA21 := hid (KnAt.frame (Kf.of_below hb) _ _ KA20.out)
        clear S20 F20 HA20 KA20
        clear hb
        obtain ⟨gc, cpc, hm1, hne, ⟨xo, hxo⟩, hfz, hset⟩ := km_store (fr := s.out.length) (wh := 2) S21.out (by have := HOut.out; have := HC2.out; omega) (by omega)
        obtain ⟨L2, hL2⟩ : ∃ x : Nat, (clZ es t ss sA j).out.length = x := ⟨_, rfl⟩
        rw [hL2] at hm1
        have hset2 := hset ((clZ es t ss sA j).out.length : Int)
        rw [setAt_lead, hL2] at hset2
        have hi0 : (0 : Int) ≤ (hh : Int) := by omega
        have hi1 : (hh : Int) < (L2 : Int) := by have h0 : s.out.length < (clZ es t ss sA j).out.length := (by have := HOut.out; have := HC2.out; omega); have := Hhh.out; omega
        rw [Hhh.out] at hxo hfz hset2
        refine pick_begin (S := fun w => w.cell? ⟨Mb, 1, none⟩ = some (.slice (some ⟨gc, 0, none⟩) L2 cpc)) (n := 13) (ls := #[false, false, false, false, false, false, false, false, false, false, false, false, false]) (by kernel_rfl) rfl (by kernel_rfl) ?_
        generalize wr.drew = X21 at *
        refine pick_op (i := 0) (v := .pointer (some ⟨Mb, 0, none⟩)) (by kernel_rfl) rfl (by kernel_rfl) (by kernel_rfl) rfl rfl (fun w' hw => by simp [go_sem]) hm1 (by simp [go_sem]; exact rfl) ?_
        refine pick_op (i := 1) (v := .pointer (some ⟨Mb, 0, none⟩)) (by kernel_rfl) rfl (by kernel_rfl) (by kernel_rfl) rfl rfl (fun w' hw => by simp [go_sem]) hm1 (by simp [go_sem]; exact rfl) ?_
        refine pick_op (i := 2) (v := .pointer (some ⟨Mb, 1, none⟩)) (by kernel_rfl) rfl (by kernel_rfl) (by kernel_rfl) rfl rfl (fun w' hw => by simp [go_sem]) hm1 (by simp [go_sem]; exact rfl) ?_
        refine pick_op (i := 3) (v := .slice (some ⟨gc, 0, none⟩) L2 cpc) (by kernel_rfl) rfl (by kernel_rfl) (by kernel_rfl) rfl rfl (fun w' hw => by simp [go_sem, hw]) hm1 (by simp [go_sem]; exact rfl) ?_
        refine pick_op (i := 4) (v := .int .i64 (hh : Int)) (by kernel_rfl) rfl (by kernel_rfl) (by kernel_rfl) rfl rfl (fun w' hw => by simp [go_sem]) hm1 (by simp [go_sem]; exact rfl) ?_
        refine pick_op (i := 5) (v := .pointer (some ⟨Mb, 0, none⟩)) (by kernel_rfl) rfl (by kernel_rfl) (by kernel_rfl) rfl rfl (fun w' hw => by simp [go_sem]) hm1 (by simp [go_sem]; exact rfl) ?_
        refine pick_op (i := 6) (v := .pointer (some ⟨Mb, 0, none⟩)) (by kernel_rfl) rfl (by kernel_rfl) (by kernel_rfl) rfl rfl (fun w' hw => by simp [go_sem]) hm1 (by simp [go_sem]; exact rfl) ?_
        refine pick_op (i := 7) (v := .pointer (some ⟨Mb, 1, none⟩)) (by kernel_rfl) rfl (by kernel_rfl) (by kernel_rfl) rfl rfl (fun w' hw => by simp [go_sem]) hm1 (by simp [go_sem]; exact rfl) ?_
        refine pick_op (i := 8) (v := .slice (some ⟨gc, 0, none⟩) L2 cpc) (by kernel_rfl) rfl (by kernel_rfl) (by kernel_rfl) rfl rfl (fun w' hw => by simp [go_sem, hw]) hm1 (by simp [go_sem]; exact rfl) ?_
        refine pick_op (i := 9) (v := .int .i64 (L2 : Int)) (by kernel_rfl) rfl (by kernel_rfl) (by kernel_rfl) rfl rfl (fun w' hw => by simp [go_sem]) hm1 (by simp [go_sem]; exact rfl) ?_
        refine pick_op (i := 10) (v := .pointer (some ⟨gc, hh * 4, none⟩)) (by kernel_rfl) rfl (by kernel_rfl) (by kernel_rfl) rfl rfl (fun w' hw => by simp [go_sem, hi0, hi1]) hm1 (by simp [go_sem]; exact rfl) ?_
        refine pick_op (i := 11) (v := .pointer (some ⟨gc, hh * 4 + 3, none⟩)) (by kernel_rfl) rfl (by kernel_rfl) (by kernel_rfl) rfl rfl (fun w' hw => by simp [go_sem]) hm1 (by simp [go_sem]; exact rfl) ?_
        have hS2 : (X21.setCell ⟨gc, hh * 4 + (2 + 1), none⟩ (.int .i64 (L2 : Int))).cell? ⟨Mb, 1, none⟩ = some (.slice (some ⟨gc, 0, none⟩) L2 cpc) := (World.cell?_of_block (Below.heap_setCell X21 ⟨gc, hh * 4 + (2 + 1), none⟩ _ Mb hne)).trans hm1
        refine pick_skip (i := 12) (w1 := X21.setCell ⟨gc, hh * 4 + (2 + 1), none⟩ (.int .i64 (L2 : Int))) rfl rfl (by kernel_rfl) rfl rfl (by simp [go_sem, hxo, hfz]) hS2 ?_
        refine pick_end (by kernel_rfl) ?_
        have hst := hset2.1
        have fr := hset2.2
        have HA22 := hid (fr.keep HA21.out (by decide) (by decide) (by decide))
        have S22 := hid hst
        have F22 := hid (F21.out.trans fr)
        have KA22 := hid (KnAt.frame fr _ _ KA21.out)
        clear S21 F21 HA21 KA21
        clear hst fr hset2 hset hS2 hm1 hne hxo hfz hi0 hi1 hL2
        generalize X21.setCell ⟨gc, hh * 4 + (2 + 1), none⟩ (.int .i64 (L2 : Int)) = X22 at *
        go_wp2_with fail
        go_end0
        refine ⟨⟨_, rfl⟩, ?_, F22.out⟩
        unfold handZ
        rw [← HsA.out]
        have hj1 : 1 ≤ j ∧ j + 1 = t.k.count := by have := HB.out; omega
        have hfo := clZ_fold es t ss sA (j - 1) (by omega)
        rw [show j - 1 + 1 = j by omega, List.take_of_length_le (by rw [List.length_drop, t.kids_len]; omega)] at hfo
        rw [← hfo]
        have hS := S22.out
        rw [← Hhh.out] at hS
        exact hS

end
end Go.Proofs.YtgiejnmphfgmgaaGreatDoor

/- What a program must be: its operations, and that its tree has no others. -/
namespace Go.Proofs.YtgiejnmphfgmgaaGreatDoor
open Go.RowKit Go.Deep

/-- An operation that may stand at its place. -/
def effOk (es : List Ef) (i : Nat) : Bool :=
  nameOk (es.getD i default).name && (!effIn (es.take i) (es.getD i default).name && (decide (1 ≤ (es.getD i default).arg ∧ (es.getD i default).arg ≤ 4) && decide (1 ≤ (es.getD i default).res ∧ (es.getD i default).res ≤ 4)))

/-- A node that names an operation names one of these. -/
def nodeHas (es : List Ef) (n : Nd) : Bool := !((n.kind == 22 || n.kind == 26) && !effIn es n.a)

def progZ (es : List Ef) (ns : List Nd) (T : Bool) : Bool := decide (es.length ≤ 8) && (T && ((List.range es.length).all (effOk es) && ns.all (nodeHas es)))

theorem range_step {es : List Ef} {i : Nat} (h : (List.range i).all (effOk es) = true) (h' : effOk es i = true) : (List.range (i + 1)).all (effOk es) = true := by
  rw [List.range_succ, List.all_append, h]
  simpa using h'

theorem range_false {es : List Ef} {i : Nat} (hi : i < es.length) (h : effOk es i = false) : (List.range es.length).all (effOk es) = false := by
  rw [List.all_eq_false]
  exact ⟨i, List.mem_range.2 hi, by simpa using h⟩

theorem has_step {es : List Ef} {ns : List Nd} {i : Nat} (hi : i < ns.length) (h : (ns.take i).all (nodeHas es) = true) (hn : nodeHas es (ns.getD i default) = true) : (ns.take (i + 1)).all (nodeHas es) = true := by
  rw [List.take_succ_eq_append_getElem hi, List.all_append, h]
  simp only [List.getD, List.getElem?_eq_getElem hi] at hn
  simpa using hn

theorem has_false {es : List Ef} {ns : List Nd} {i : Nat} (hi : i < ns.length) (hn : nodeHas es (ns.getD i default) = false) : ns.all (nodeHas es) = false := by
  rw [List.all_eq_false]
  simp only [List.getD, List.getElem?_eq_getElem hi] at hn
  exact ⟨ns[i], List.getElem_mem _, by simpa using hn⟩

theorem effsTake {w : World} {b off : Nat} {es : List Ef} {i : Nat} (h : EffsAt w b off es) : EffsAt w b off (es.take i) := fun k hk c hc => by
  have hk' : k < es.length := by simp at hk; omega
  have hki : k < i := by simp at hk; omega
  rw [h k hk' c hc]
  simp [List.getD, hki]
end Go.Proofs.YtgiejnmphfgmgaaGreatDoor

/- Whether a program may be, as the specification asks it. -/
namespace Go.Proofs.YtgiejnmphfgmgaaGreatDoor
open Go.RowKit Go.Deep

set_option maxHeartbeats 8000000 in
set_option maxRecDepth 100000 in
theorem specProgC_calls (be bt ce cn : Nat) (es : List Ef) (ns : List Nd) (T : Bool) (w : World) (hce : es.length ≤ ce) (hbe : be < w.heap.size) (hbt : bt < w.heap.size) (hE : EffsAt w be 0 es) (hN : NodesAt w bt 0 ns) (me : es.length ≤ 1048576) (mn : ns.length ≤ 1048576) (hTT : ∀ w' : World, bt < w'.heap.size → NodesAt w' bt 0 ns → Calls Tryz.prog 34 #[.slice (some ⟨bt, 0, none⟩) ns.length cn] w' fun e w'' => e = .returned (.bool T) ∧ Below w'.heap.size w' w'') :
    Calls Tryz.prog 15 #[.agg #[.slice (some ⟨be, 0, none⟩) es.length ce, .slice (some ⟨bt, 0, none⟩) ns.length cn]] w fun e w' => e = .returned (.bool (progZ es ns T)) ∧ Below w.heap.size w w' := by
  have hb1 : Below w.heap.size w (w.alloc (.cells #[.slice (some ⟨be, 0, none⟩) es.length ce, .slice (some ⟨bt, 0, none⟩) ns.length cn] 33)) := (Below.refl _ _).alloc (Nat.le_refl _) _
  have HT : Hid (Calls _ _ _ _ _) := hTT (w.alloc (.cells #[.slice (some ⟨be, 0, none⟩) es.length ce, .slice (some ⟨bt, 0, none⟩) ns.length cn] 33)) (Nat.lt_of_lt_of_le hbt hb1.size) (hN.below hb1 hbt)
  have HB1 : Hid (Below w.heap.size w (w.alloc (.cells #[.slice (some ⟨be, 0, none⟩) es.length ce, .slice (some ⟨bt, 0, none⟩) ns.length cn] 33))) := hb1
  have HK1 : Hid ((w.alloc (.cells #[.slice (some ⟨be, 0, none⟩) es.length ce, .slice (some ⟨bt, 0, none⟩) ns.length cn] 33)).heap[w.heap.size]? = some (.cells #[.slice (some ⟨be, 0, none⟩) es.length ce, .slice (some ⟨bt, 0, none⟩) ns.length cn] 33)) := (MapKept.heap_alloc w _).1
  obtain ⟨R, hR⟩ : ∃ R, progZ es ns T = R := ⟨_, rfl⟩
  have HR : Hid (progZ es ns T = R) := hR
  have HE : Hid (EffsAt w be 0 es) := hE
  have HN : Hid (NodesAt w bt 0 ns) := hN
  have HMN : Hid (ns.length ≤ 1048576) := mn
  rw [hR]
  obtain ⟨len, hlen⟩ : ∃ len, es.length = len := ⟨_, rfl⟩
  obtain ⟨ln, hln⟩ : ∃ ln, ns.length = ln := ⟨_, rfl⟩
  have Hlen : Hid (es.length = len ∧ ns.length = ln) := ⟨hlen, hln⟩
  rw [hlen, hln] at HT HB1 HK1 ⊢
  have HCe : Hid (len ≤ ce) := by show _ ≤ _; omega
  clear hce
  have HM : Hid (len ≤ 1048576 ∧ ln ≤ 1048576) := by show _ ∧ _; omega
  clear hb1 hR hE hN me mn hTT hlen hln
  by_cases h8 : (8 : Int) < (len : Int)
  · have HF : Hid (R = false) := by
      show R = false
      rw [← HR.out, progZ, Hlen.out.1, decide_eq_false (by omega), Bool.false_and]
    clear HT HE HN HK1
    go_enter Tryz.func15, Tryz.ntmps15
    go_wp2_with fail
    go_ret
    exact ⟨by rw [HF.out]; rfl, HB1.out⟩
  have h8' : (len : Int) ≤ 8 := by omega
  have HR8 : Hid ((T && ((List.range len).all (effOk es) && ns.all (nodeHas es))) = R) := by
    show _ = R
    rw [← HR.out, progZ, Hlen.out.1, decide_eq_true (by omega), Bool.true_and]
  clear h8
  go_enter Tryz.func15, Tryz.ntmps15
  go_wp2_with fail
  refine HT.out.mono ?_
  rintro e w2 ⟨rfl, hb2⟩
  have hbw2 := HB1.out.trans (hb2.mono HB1.out.size)
  have kp2 := (hb2.block w.heap.size (by simp)).trans HK1.out
  clear HT HB1 HK1 hb2
  cases T with
  | false =>
    go_wp2_with fail
    go_ret
    exact ⟨by rw [← HR8.out]; rfl, hbw2⟩
  | true =>
    have HRR : Hid (((List.range len).all (effOk es) && ns.all (nodeHas es)) = R) := HR8.out
    clear HR8 HR
    go_wp2_with fail
    go_loopw [3] (fun i wr => ∃ i' : Nat, i = .int .i64 i' ∧ i' ≤ len ∧ Hid ((List.range i').all (effOk es) = true) ∧ wr.heap[w.heap.size]? = some (.cells #[.slice (some ⟨be, 0, none⟩) len ce, .slice (some ⟨bt, 0, none⟩) ln cn] 33) ∧ Below w.heap.size w wr) (fun i _ => len - (intOf i).toNat)
    case atStart => exact ⟨0, rfl, Nat.zero_le _, rfl, kp2, hbw2⟩
    case round =>
      obtain ⟨i', rfl, hle, HI, kp, hbx⟩ := hrel
      have hAlt := heap_lt kp
      have pA := cell_of_heap kp 0
      have pB := cell_of_heap kp 1
      simp at pA pB
      have hEx := HE.out.below hbx hbe
      by_cases hlt : (i' : Int) < (len : Int)
      · have hic : (i' : Int) ≤ (ce : Int) := by have := HCe.out; omega
        have hil : i' < es.length := by rw [Hlen.out.1]; omega
        have c0 := hEx i' hil 0 (by omega)
        have c1 := hEx i' hil 1 (by omega)
        have c2 := hEx i' hil 2 (by omega)
        obtain ⟨ef, hef⟩ : ∃ ef, es.getD i' default = ef := ⟨_, rfl⟩
        have hF : effOk es i' = false → Hid (R = false) := fun h => by
          show R = false
          have := range_false hil h
          rw [Hlen.out.1] at this
          rw [← HRR.out, this, Bool.false_and]
        have hS : effOk es i' = true → Hid ((List.range (i' + 1)).all (effOk es) = true) := fun h => range_step HI.out h
        have hdef : effOk es i' = (nameOk ef.name && (!effIn (es.take i') ef.name && (decide (1 ≤ ef.arg ∧ ef.arg ≤ 4) && decide (1 ≤ ef.res ∧ ef.res ≤ 4)))) := by rw [effOk, hef]
        rw [hdef] at hF hS
        rw [hef] at c0 c1 c2
        simp only [Ef.cell, Nat.add_zero, Nat.zero_add] at c0 c1 c2
        have hpl := effPlace_lt (es.take i') ef.name 0
        have htl : (es.take i').length = i' := by simp; omega
        have HP : Hid (∀ w, EffsAt w be 0 es → _) := fun w h => l2Eff_calls (some ⟨be, 0, none⟩) ce (es.take i') ef.name w (by rw [htl]; have := HM.out; omega) (fun _ => ⟨be, 0, rfl, effsTake h⟩)
        rw [htl] at HP
        have hLn : ∀ w, _ := fun w => specName_calls ef.name w
        have hbW : Below w.heap.size w (wr.alloc (.cells #[.string ef.name, .int .i64 ef.arg, .int .i64 ef.res] 78)) := hbx.alloc (by have := hbx.size; omega) _
        have HEW : Hid (EffsAt (wr.alloc (.cells #[.string ef.name, .int .i64 ef.arg, .int .i64 ef.res] 78)) be 0 es) := HE.out.below hbW hbe
        obtain ⟨nm, ar, rs⟩ := ef
        dsimp only at *
        clear hEx hil hdef hef HI HE htl
        generalize effPlace (es.take i') nm 0 = pl at *
        generalize effIn (es.take i') nm = ein at *
        go_wp2_with fail
        have u0 : (wr.alloc (.cells #[.string nm, .int .i64 ar, .int .i64 rs] 78)).cell? ⟨wr.heap.size, 0, none⟩ = some (.string nm) := by simp [go_sem]
        have u1 : (wr.alloc (.cells #[.string nm, .int .i64 ar, .int .i64 rs] 78)).cell? ⟨wr.heap.size, 1, none⟩ = some (.int .i64 ar) := by simp [go_sem]
        have u2 : (wr.alloc (.cells #[.string nm, .int .i64 ar, .int .i64 rs] 78)).cell? ⟨wr.heap.size, 2, none⟩ = some (.int .i64 rs) := by simp [go_sem]
        have kpW := (Below.heap_alloc wr (.cells #[.string nm, .int .i64 ar, .int .i64 rs] 78) _ hAlt).trans kp
        have uA := cell_of_heap kpW 0
        simp at uA
        have hEW : wr.heap.size < (wr.alloc (.cells #[.string nm, .int .i64 ar, .int .i64 rs] 78)).heap.size := by simp
        have hAW : w.heap.size < (wr.alloc (.cells #[.string nm, .int .i64 ar, .int .i64 rs] 78)).heap.size := by simp; omega
        have hbeW : be < (wr.alloc (.cells #[.string nm, .int .i64 ar, .int .i64 rs] 78)).heap.size := by simp; omega
        generalize (wr.alloc (.cells #[.string nm, .int .i64 ar, .int .i64 rs] 78)) = W at *
        have HED : Hid (EffsAt W be 0 es) := HEW.out
        have v0 : ∀ x : Later W.heap.size W, x.w.cell? ⟨wr.heap.size, 0, none⟩ = some (.string nm) := fun x => x.cell hEW u0
        have v1 : ∀ x : Later W.heap.size W, x.w.cell? ⟨wr.heap.size, 1, none⟩ = some (.int .i64 ar) := fun x => x.cell hEW u1
        have v2 : ∀ x : Later W.heap.size W, x.w.cell? ⟨wr.heap.size, 2, none⟩ = some (.int .i64 rs) := fun x => x.cell hEW u2
        have vA : ∀ x : Later W.heap.size W, x.w.cell? ⟨w.heap.size, 0, none⟩ = some (.slice (some ⟨be, 0, none⟩) len ce) := fun x => x.cell hAW uA
        clear c0 c1 c2 pA pB kp HEW
        cases hno : nameOk nm with
        | false =>
          have HF := hF (by rw [hno]; rfl)
          rw [hno] at hLn
          have HL : Hid (∀ w, _) := hLn
          clear hF hS hLn hpl
          refine wp_region_calm W.heap.size (by kernel_rfl) (by kernel_rfl) ?_
          repeat (go_big_quiet_step (first
            | (rename_i x; go_at_call 35; refine (HL.out _).mono ?_; rintro e w5 ⟨rfl, hb5⟩; exact ⟨rfl, ⟨w5, x.h.trans (hb5.mono x.h.size)⟩, rfl⟩)
            | (rename_i x; go_at_call 36; refine (HP.out _ (HED.out.below x.h hbeW)).mono ?_; rintro e w6 ⟨rfl, rfl⟩; exact ⟨rfl, x, rfl⟩)))
          refine wpQuiet_nil ?_
          rintro w5 ⟨x, rfl⟩
          all_goals
            have hx := hbW.trans (x.h.mono hbW.size)
            clear u0 u1 u2 uA v0 v1 v2 vA
            go_wp2_with fail
            go_ret
            exact ⟨by rw [HF.out]; rfl, hx⟩
        | true =>
          rw [hno] at hLn
          have HL : Hid (∀ w, _) := hLn
          rw [hno] at hF hS
          clear hLn
          by_cases hp0 : 0 ≤ pl
          · have hei : ein = true := by
              cases hx : ein with
              | true => rfl
              | false => have := hpl.2 hx; omega
            have HF := hF (by rw [hei]; rfl)
            clear hF hS hpl hei
            refine wp_region_calm W.heap.size (by kernel_rfl) (by kernel_rfl) ?_
            repeat (go_big_quiet_step (first
              | (rename_i x; go_at_call 35; refine (HL.out _).mono ?_; rintro e w5 ⟨rfl, hb5⟩; exact ⟨rfl, ⟨w5, x.h.trans (hb5.mono x.h.size)⟩, rfl⟩)
              | (rename_i x; go_at_call 36; refine (HP.out _ (HED.out.below x.h hbeW)).mono ?_; rintro e w6 ⟨rfl, rfl⟩; exact ⟨rfl, x, rfl⟩)))
            refine wpQuiet_nil ?_
            rintro w5 ⟨x, rfl⟩
            all_goals
              have hx := hbW.trans (x.h.mono hbW.size)
              clear u0 u1 u2 uA v0 v1 v2 vA
              go_wp2_with fail
              go_ret
              exact ⟨by rw [HF.out]; rfl, hx⟩
          · have hei : ein = false := hpl.1 (by omega)
            have hp0 : pl < 0 := by omega
            rw [hei] at hF hS
            clear hpl hei
            by_cases g1 : ar < 1
            · have HF := hF (by rw [decide_eq_false (show ¬ (1 ≤ ar ∧ ar ≤ 4) by omega)]; rfl)
              clear hF hS
              refine wp_region_calm W.heap.size (by kernel_rfl) (by kernel_rfl) ?_
              repeat (go_big_quiet_step (first
                | (rename_i x; go_at_call 35; refine (HL.out _).mono ?_; rintro e w5 ⟨rfl, hb5⟩; exact ⟨rfl, ⟨w5, x.h.trans (hb5.mono x.h.size)⟩, rfl⟩)
                | (rename_i x; go_at_call 36; refine (HP.out _ (HED.out.below x.h hbeW)).mono ?_; rintro e w6 ⟨rfl, rfl⟩; exact ⟨rfl, x, rfl⟩)))
              refine wpQuiet_nil ?_
              rintro w5 ⟨x, rfl⟩
              all_goals
                have hx := hbW.trans (x.h.mono hbW.size)
                clear u0 u1 u2 uA v0 v1 v2 vA
                go_wp2_with fail
                go_ret
                exact ⟨by rw [HF.out]; rfl, hx⟩
            · have g1 : 1 ≤ ar := by omega
              by_cases g2 : 4 < ar
              · have HF := hF (by rw [decide_eq_false (show ¬ (1 ≤ ar ∧ ar ≤ 4) by omega)]; rfl)
                clear hF hS
                refine wp_region_calm W.heap.size (by kernel_rfl) (by kernel_rfl) ?_
                repeat (go_big_quiet_step (first
                  | (rename_i x; go_at_call 35; refine (HL.out _).mono ?_; rintro e w5 ⟨rfl, hb5⟩; exact ⟨rfl, ⟨w5, x.h.trans (hb5.mono x.h.size)⟩, rfl⟩)
                  | (rename_i x; go_at_call 36; refine (HP.out _ (HED.out.below x.h hbeW)).mono ?_; rintro e w6 ⟨rfl, rfl⟩; exact ⟨rfl, x, rfl⟩)))
                refine wpQuiet_nil ?_
                rintro w5 ⟨x, rfl⟩
                all_goals
                  have hx := hbW.trans (x.h.mono hbW.size)
                  clear u0 u1 u2 uA v0 v1 v2 vA
                  go_wp2_with fail
                  go_ret
                  exact ⟨by rw [HF.out]; rfl, hx⟩
              · have g2 : ar ≤ 4 := by omega
                by_cases g3 : rs < 1
                · have HF := hF (by rw [decide_eq_false (show ¬ (1 ≤ rs ∧ rs ≤ 4) by omega), Bool.and_false]; rfl)
                  clear hF hS
                  refine wp_region_calm W.heap.size (by kernel_rfl) (by kernel_rfl) ?_
                  repeat (go_big_quiet_step (first
                    | (rename_i x; go_at_call 35; refine (HL.out _).mono ?_; rintro e w5 ⟨rfl, hb5⟩; exact ⟨rfl, ⟨w5, x.h.trans (hb5.mono x.h.size)⟩, rfl⟩)
                    | (rename_i x; go_at_call 36; refine (HP.out _ (HED.out.below x.h hbeW)).mono ?_; rintro e w6 ⟨rfl, rfl⟩; exact ⟨rfl, x, rfl⟩)))
                  refine wpQuiet_nil ?_
                  rintro w5 ⟨x, rfl⟩
                  all_goals
                    have hx := hbW.trans (x.h.mono hbW.size)
                    clear u0 u1 u2 uA v0 v1 v2 vA
                    go_wp2_with fail
                    go_ret
                    exact ⟨by rw [HF.out]; rfl, hx⟩
                · have g3 : 1 ≤ rs := by omega
                  by_cases g4 : 4 < rs
                  · have HF := hF (by rw [decide_eq_false (show ¬ (1 ≤ rs ∧ rs ≤ 4) by omega), Bool.and_false]; rfl)
                    clear hF hS
                    refine wp_region_calm W.heap.size (by kernel_rfl) (by kernel_rfl) ?_
                    repeat (go_big_quiet_step (first
                      | (rename_i x; go_at_call 35; refine (HL.out _).mono ?_; rintro e w5 ⟨rfl, hb5⟩; exact ⟨rfl, ⟨w5, x.h.trans (hb5.mono x.h.size)⟩, rfl⟩)
                      | (rename_i x; go_at_call 36; refine (HP.out _ (HED.out.below x.h hbeW)).mono ?_; rintro e w6 ⟨rfl, rfl⟩; exact ⟨rfl, x, rfl⟩)))
                    refine wpQuiet_nil ?_
                    rintro w5 ⟨x, rfl⟩
                    all_goals
                      have hx := hbW.trans (x.h.mono hbW.size)
                      clear u0 u1 u2 uA v0 v1 v2 vA
                      go_wp2_with fail
                      go_ret
                      exact ⟨by rw [HF.out]; rfl, hx⟩
                  · have g4 : rs ≤ 4 := by omega
                    have HS := hS (by rw [decide_eq_true (show 1 ≤ ar ∧ ar ≤ 4 from ⟨g1, g2⟩), decide_eq_true (show 1 ≤ rs ∧ rs ≤ 4 from ⟨g3, g4⟩)]; rfl)
                    clear hF hS
                    refine wp_region_calm W.heap.size (by kernel_rfl) (by kernel_rfl) ?_
                    repeat (go_big_quiet_step (first
                      | (rename_i x; go_at_call 35; refine (HL.out _).mono ?_; rintro e w5 ⟨rfl, hb5⟩; exact ⟨rfl, ⟨w5, x.h.trans (hb5.mono x.h.size)⟩, rfl⟩)
                      | (rename_i x; go_at_call 36; refine (HP.out _ (HED.out.below x.h hbeW)).mono ?_; rintro e w6 ⟨rfl, rfl⟩; exact ⟨rfl, x, rfl⟩)))
                    refine wpQuiet_nil ?_
                    rintro w5 ⟨x, rfl⟩
                    all_goals
                      have hx := hbW.trans (x.h.mono hbW.size)
                      have kp5 := (x.h.block w.heap.size hAW).trans kpW
                      clear u0 u1 u2 uA v0 v1 v2 vA
                      go_wp2_with fail
                      have hs : len - (intOf (.int .i64 ((i' + 1 : Nat) : Int))).toNat < len - (intOf (.int .i64 (i' : Int))).toNat := by simp only [intOf, Int.toNat_natCast]; omega
                      try rw [show wrap64 ((i' : Int) + 1) = ((i' + 1 : Nat) : Int) by have := HM.out; unfold wrap64; omega]
                      exact ⟨⟨i' + 1, rfl, by omega, HS, kp5, hx⟩, hs⟩
      · have e : i' = len := by omega
        subst e
        have HR2 : Hid (ns.all (nodeHas es) = R) := by
          show _ = R
          rw [← HRR.out, HI.out, Bool.true_and]
        clear HRR HI hEx
        go_wp2_with fail
        clear pA pB
        go_loopw [5] (fun j wr => ∃ k : Nat, j = .int .i64 k ∧ k ≤ ln ∧ Hid ((ns.take k).all (nodeHas es) = true) ∧ wr.heap[w.heap.size]? = some (.cells #[.slice (some ⟨be, 0, none⟩) i' ce, .slice (some ⟨bt, 0, none⟩) ln cn] 33) ∧ Below w.heap.size w wr) (fun j _ => ln - (intOf j).toNat)
        case atStart => exact ⟨0, rfl, Nat.zero_le _, rfl, kp, hbx⟩
        case round =>
          clear kp hbx hAlt
          obtain ⟨k, rfl, hk, HI, kp, hbx⟩ := hrel
          have hAlt := heap_lt kp
          have pA := cell_of_heap kp 0
          have pB := cell_of_heap kp 1
          simp at pA pB
          by_cases hlt : (k : Int) < (ln : Int)
          · have hil : k < ns.length := by rw [Hlen.out.2]; omega
            have hNx := HN.out.below hbx hbt
            have c0 := hNx k hil 0 (by omega)
            have c1 := hNx k hil 1 (by omega)
            have c2 := hNx k hil 2 (by omega)
            have c3 := hNx k hil 3 (by omega)
            have c4 := hNx k hil 4 (by omega)
            have c5 := hNx k hil 5 (by omega)
            obtain ⟨nd, hnd⟩ : ∃ nd, ns.getD k default = nd := ⟨_, rfl⟩
            have hF : nodeHas es nd = false → Hid (R = false) := fun h => by
              show R = false
              rw [← HR2.out]
              exact has_false hil (by rw [hnd]; exact h)
            have hS : nodeHas es nd = true → Hid ((ns.take (k + 1)).all (nodeHas es) = true) := fun h => has_step hil HI.out (by rw [hnd]; exact h)
            rw [hnd] at c0 c1 c2 c3 c4 c5
            simp only [Nd.cell, Nat.add_zero, Nat.zero_add] at c0 c1 c2 c3 c4 c5
            obtain ⟨kd, num, a, bb, cc, kids⟩ := nd
            dsimp only at *
            have hpl := effPlace_lt es a 0
            have hszx := hbx.size
            have HP : Hid (∀ w', EffsAt w' be 0 es → _) := fun w' h => l2Eff_calls (some ⟨be, 0, none⟩) ce es a w' (by rw [Hlen.out.1]; have := HM.out; omega) (fun _ => ⟨be, 0, rfl, h⟩)
            rw [Hlen.out.1] at HP
            have HEx : Hid (EffsAt wr be 0 es) := HE.out.below hbx hbe
            have hbeR : be < wr.heap.size := by omega
            simp only [nodeHas] at hF hS
            clear hNx hil hnd HI
            generalize effPlace es a 0 = pl at *
            generalize effIn es a = ein at *
            have hq : (kd == 22) = true ∨ ((kd == 22) = false ∧ (kd == 26) = true) ∨ ((kd == 22) = false ∧ (kd == 26) = false) := by
              cases (kd == 22) <;> cases (kd == 26) <;> simp
            rcases hq with k22 | ⟨k22, k26⟩ | ⟨k22, k26⟩
            · by_cases hp : pl < 0
              · have hei : ein = false := hpl.1 hp
                have HF := hF (by rw [hei, k22]; rfl)
                clear hF hS hpl
                go_wp2_with fail
                refine (HP.out _ (HEx.out.below ((Below.refl _ _).alloc (Nat.le_refl _) _) hbeR)).mono ?_
                rintro e w6 ⟨rfl, rfl⟩
                go_wp2_with fail
                go_ret
                exact ⟨by rw [HF.out]; rfl, hbx.alloc hszx _⟩
              · have hei : ein = true := by
                  cases hx : ein with
                  | true => rfl
                  | false => exact absurd (hpl.2 hx) hp
                have HS := hS (by rw [hei]; simp)
                clear hF hS hpl
                go_wp2_with fail
                refine (HP.out _ (HEx.out.below ((Below.refl _ _).alloc (Nat.le_refl _) _) hbeR)).mono ?_
                rintro e w6 ⟨rfl, rfl⟩
                go_wp2_with fail
                have hs : ln - (intOf (.int .i64 ((k + 1 : Nat) : Int))).toNat < ln - (intOf (.int .i64 (k : Int))).toNat := by simp only [intOf, Int.toNat_natCast]; omega
                try rw [show wrap64 ((k : Int) + 1) = ((k + 1 : Nat) : Int) by have := HM.out; unfold wrap64; omega]
                exact ⟨⟨k + 1, rfl, by omega, HS, (Below.heap_alloc _ _ _ hAlt).trans kp, hbx.alloc hszx _⟩, hs⟩
            · by_cases hp : pl < 0
              · have hei : ein = false := hpl.1 hp
                have HF := hF (by rw [hei, k26]; simp)
                clear hF hS hpl
                go_wp2_with fail
                refine (HP.out _ (HEx.out.below ((Below.refl _ _).alloc (Nat.le_refl _) _) hbeR)).mono ?_
                rintro e w6 ⟨rfl, rfl⟩
                go_wp2_with fail
                go_ret
                exact ⟨by rw [HF.out]; rfl, hbx.alloc hszx _⟩
              · have hei : ein = true := by
                  cases hx : ein with
                  | true => rfl
                  | false => exact absurd (hpl.2 hx) hp
                have HS := hS (by rw [hei]; simp)
                clear hF hS hpl
                go_wp2_with fail
                refine (HP.out _ (HEx.out.below ((Below.refl _ _).alloc (Nat.le_refl _) _) hbeR)).mono ?_
                rintro e w6 ⟨rfl, rfl⟩
                go_wp2_with fail
                have hs : ln - (intOf (.int .i64 ((k + 1 : Nat) : Int))).toNat < ln - (intOf (.int .i64 (k : Int))).toNat := by simp only [intOf, Int.toNat_natCast]; omega
                try rw [show wrap64 ((k : Int) + 1) = ((k + 1 : Nat) : Int) by have := HM.out; unfold wrap64; omega]
                exact ⟨⟨k + 1, rfl, by omega, HS, (Below.heap_alloc _ _ _ hAlt).trans kp, hbx.alloc hszx _⟩, hs⟩
            · have HS := hS (by rw [k22, k26]; rfl)
              clear hF hS hpl HP
              go_wp2_with fail
              have hs : ln - (intOf (.int .i64 ((k + 1 : Nat) : Int))).toNat < ln - (intOf (.int .i64 (k : Int))).toNat := by simp only [intOf, Int.toNat_natCast]; omega
              try rw [show wrap64 ((k : Int) + 1) = ((k + 1 : Nat) : Int) by have := HM.out; unfold wrap64; omega]
              exact ⟨⟨k + 1, rfl, by omega, HS, (Below.heap_alloc _ _ _ hAlt).trans kp, hbx.alloc hszx _⟩, hs⟩
          · have e : k = ln := by omega
            have HT : Hid (R = true) := by
              show R = true
              rw [← HR2.out]
              have := HI.out
              rwa [List.take_of_length_le (by rw [Hlen.out.2]; omega)] at this
            clear HI
            go_wp2_with fail
            go_ret
            exact ⟨by rw [HT.out]; rfl, hbx⟩
end Go.Proofs.YtgiejnmphfgmgaaGreatDoor
