/- The drawer's small parts: rows of nodes and of names that are known, grown one by one. -/
import Derived.Test.YtkdipppeljpgmaaGreatDoorGenKit
import Derived.Maps.AppendAt
import Derived.OwnWalk
import Derived.Test.YtkdipppeljpgmaaGreatDoorSpecDeep
namespace Go.Proofs.YtkdipppeljpgmaaGreatDoor
open Go.RowKit Go.Deep

/-- The cells of a list of things of sz cells each. -/
def rowZ {α : Type} (f : α → Nat → Value) (sz : Nat) (l : List α) : List Value := l.flatMap fun x => (List.range sz).map (f x)

theorem rowZ_len {α : Type} (f : α → Nat → Value) (sz : Nat) : ∀ l : List α, (rowZ f sz l).length = l.length * sz
  | [] => by simp [rowZ]
  | x :: l => by
    have := rowZ_len f sz l
    simp only [rowZ, List.flatMap_cons, List.length_append, List.length_map, List.length_range, List.length_cons] at this ⊢
    rw [this, Nat.succ_mul]
    omega

theorem rowZ_app {α : Type} (f : α → Nat → Value) (sz : Nat) (l m : List α) : rowZ f sz (l ++ m) = rowZ f sz l ++ rowZ f sz m := by
  simp [rowZ, List.flatMap_append]

theorem rowZ_get {α : Type} [Inhabited α] (f : α → Nat → Value) (sz : Nat) (hz : 0 < sz) : ∀ (l : List α) (i : Nat), i < l.length * sz → (rowZ f sz l)[i]? = some (f (l.getD (i / sz) default) (i % sz))
  | [], i, h => by simp at h
  | x :: l, i, h => by
    have e : rowZ f sz (x :: l) = (List.range sz).map (f x) ++ rowZ f sz l := by simp [rowZ]
    rw [e]
    by_cases hi : i < sz
    · rw [List.getElem?_append_left (by simpa using hi), Nat.div_eq_of_lt hi, Nat.mod_eq_of_lt hi]
      simp [hi]
    · have hi' : sz ≤ i := by omega
      rw [List.length_cons, Nat.succ_mul] at h
      rw [List.getElem?_append_right (by simpa using hi')]
      simp only [List.length_map, List.length_range]
      rw [rowZ_get f sz hz l (i - sz) (by omega)]
      have e1 : i / sz = (i - sz) / sz + 1 := Nat.div_eq_sub_div hz hi'
      have e2 : i % sz = (i - sz) % sz := by rw [Nat.mod_eq_sub_mod hi']
      rw [e1, e2]
      simp [List.getD]

theorem wpList_append_by {P : Program} {ops : Array Oper} {rest : List Oper} {o : Oper} {a : Act} {w : World} {Q : Exit → Act → World → Prop} (hgd : o.guard = none) (s x : Operand) (t : TypeId)
    (ho : o.op = .call { callee := .builtin .append, args := #[s, x], argTypes := #[t, t] }) (v xv : Value) (hs : a.eval s = v) (hx : a.eval x = xv) {R : Value → World → Prop}
    (hr : ∀ ty, ∃ v' w', (Builtin.append_ #[t, t] ty #[v, xv]).run P w = .ok v' w' ∧ R v' w') (h : ∀ v' w', R v' w' → wpList P ops Q rest (a.put o.dst v') w') :
    wpList P ops Q (o :: rest) a w := by
  refine wpList_plain hgd fun K hK => ?_
  obtain ⟨v', w', hr, h2⟩ := hr o.type
  unfold Oper.wp execOp
  simp only [ho, resolve, invoke, builtin, Sem.run_bind, Sem.run_pure, Result.andThen_ok, List.map_toArray, List.map_cons, List.map_nil, hs, hx, hr]
  exact hK _ _ (h v' w' h2)

section
variable {d : Dr}

/-- Things that lie in a row of one's own, from a block on that is none of the drawer's. -/
theorem lies_owns {α : Type} [Inhabited α] {f : α → Nat → Value} {sz : Nat} (hz : 0 < sz) {W : World} {B : Nat} {t : TypeId} {v : Value} {l : List α} (h : W.ownsRow B t sz v l.length (rowZ f sz l)) (h1 : d.B < B) (h2 : d.G < B) : Lies d W v l.length sz (fun i => f (l.getD (i / sz) default) (i % sz)) := by
  have h' := h
  obtain ⟨-, ⟨rfl, h0⟩ | ⟨g, cap, cur, rfl, hB, hc, hnc, -⟩⟩ := h
  · exact Or.inl ⟨rfl, h0⟩
  · refine Or.inr ⟨g, 0, cap, rfl, hnc, rfl, ⟨heap_lt hc, by omega, by omega⟩, fun i hi => ?_⟩
    rw [Nat.zero_add, h'.cellAt i hi, rowZ_get f sz hz l i hi]

/-- A row that was just written out. -/
theorem lies_lit {α : Type} [Inhabited α] {f : α → Nat → Value} {sz : Nat} (hz : 0 < sz) (W : World) (t : TypeId) (l : List α) (c : Array Value) (hc : c = (rowZ f sz l).toArray) (h1 : d.B < W.heap.size) (h2 : d.G < W.heap.size) : Lies d (W.alloc (.cells c t)) (.slice (some ⟨W.heap.size, 0, none⟩) l.length l.length) l.length sz (fun i => f (l.getD (i / sz) default) (i % sz)) := by
  subst hc
  have hh := (MapKept.heap_alloc W (.cells (rowZ f sz l).toArray t)).1
  refine Or.inr ⟨_, 0, _, rfl, Nat.le_refl _, rfl, ⟨heap_lt hh, by omega, by omega⟩, fun i hi => ?_⟩
  rw [Nat.zero_add, cell_of_heap hh i, List.getElem?_toArray, rowZ_get f sz hz l i hi]

/-- Things appended to a row of one's own. -/
theorem app_row {α : Type} [Inhabited α] {f : α → Nat → Value} (h1 : ∀ x i, (f x i).oneCell' = true) {sz : Nat} {W : World} {B : Nat} {t e : TypeId} {i0 : TypeInfo} {z : Value} {by_ : Nat} (ht : Tryz.prog.underlying t = some (.slice e)) (hi : Tryz.prog.info? e = some i0) (hz0 : i0.zero = some z) (hz1 : i0.size = sz) (hz2 : i0.bytes = by_) (hzs : z.cells.size = sz) (hsz : 0 < sz) (hby : by_ ≤ 100) {v xv : Value} {l m : List α}
    (hown : W.ownsRow B e sz v l.length (rowZ f sz l)) (hx : Lies d W xv m.length sz (fun i => f (m.getD (i / sz) default) (i % sz))) (hm : l.length + m.length ≤ 1000000) (hB : B ≤ W.heap.size) (ty : TypeId) :
    ∃ v' W', (Builtin.append_ #[t, t] ty #[v, xv]).run Tryz.prog W = .ok v' W' ∧ W'.ownsRow B e sz v' (l ++ m).length (rowZ f sz (l ++ m)) ∧ W.grownBy W' v.ownBlock := by
  rcases hx with ⟨rfl, hl⟩ | ⟨b, off, cap, rfl, -, -, hq, hc⟩
  · have : m = [] := List.eq_nil_of_length_eq_zero hl
    subst this
    refine ⟨v, W, run_append_owned_none W B t ty e i0 sz ht hi v _ _ hown, ?_, ⟨rfl, rfl, rfl, Nat.le_refl _, fun _ _ _ => rfl⟩⟩
    rw [List.append_nil]
    exact hown
  · obtain ⟨v', W', hr, h2, h3, -, -⟩ := run_append_own_at (P := Tryz.prog) W B t ty e i0 z sz by_ ht hi hz0 hz1 hz2 hzs hsz v l.length (rowZ f sz l) hown ⟨b, off, none⟩ m.length cap (rowZ f sz m) (rowZ_len f sz m)
      (fun j u hu => by
        have hj : j < m.length * sz := by
          have := (List.getElem?_eq_some_iff.1 hu).1
          rwa [rowZ_len] at this
        rw [rowZ_get f sz hsz m j hj] at hu
        cases hu
        rw [Addr.add_lit]
        exact hc j hj)
      (fun u hu => by
        unfold rowZ at hu
        rw [List.mem_flatMap] at hu
        obtain ⟨x, -, hu⟩ := hu
        rw [List.mem_map] at hu
        obtain ⟨i, -, rfl⟩ := hu
        exact h1 x i) (by unfold maxLen; omega) (by
          have := Nat.mul_le_mul hm hby
          omega) hB
    refine ⟨v', W', hr, ?_, h3⟩
    rw [List.length_append, rowZ_app]
    exact h2
end

theorem nd_one (n : Nd) (i : Nat) : (n.cell i).oneCell' = true := by
  match i with
  | 0 => rfl
  | 1 => rfl
  | 2 => rfl
  | 3 => rfl
  | 4 => rfl
  | _ + 5 => rfl

theorem kn_one (k : Kn) (i : Nat) : (k.cell i).oneCell' = true := by
  match i with
  | 0 => rfl
  | 1 => rfl
  | _ + 2 => rfl

theorem brief_none : Brief ByteArray.empty := by unfold Brief; decide

/-- Lists of nodes, in a list. -/
def KidsV (d : Dr) (W : World) (v : Value) (ls : List (Value × List Nd)) : Prop :=
  Lies d W v ls.length 1 (fun i => (ls.getD i (.slice none 0 0, [])).1) ∧ ∀ x ∈ ls, NodesD d W x.1 x.2

def flatL (ls : List (Value × List Nd)) : List Nd := ls.flatMap Prod.snd

theorem flatL_take (ls : List (Value × List Nd)) (i : Nat) (h : i < ls.length) : flatL (ls.take (i + 1)) = flatL (ls.take i) ++ (ls.getD i (.slice none 0 0, [])).2 := by
  unfold flatL
  rw [List.take_add_one, List.flatMap_append]
  simp [List.getD, h]

theorem flatL_le (ls : List (Value × List Nd)) (i : Nat) : (flatL (ls.take i)).length ≤ (flatL ls).length := by
  conv => rhs; rw [← List.take_append_drop i ls]
  unfold flatL
  rw [List.flatMap_append, List.length_append]
  omega

theorem flatL_mem {ls : List (Value × List Nd)} {n : Nd} (h : n ∈ flatL ls) : ∃ x ∈ ls, n ∈ x.2 := by
  unfold flatL at h
  rw [List.mem_flatMap] at h
  exact h

theorem put_step {W wr W' : World} {acc ns : List Nd} {out v' : Value} (h : wr.ownsRow W.heap.size 64 6 out acc.length (rowZ Nd.cell 6 acc) ∧ Below W.heap.size W wr) (h' : W'.ownsRow W.heap.size 64 6 v' (acc ++ ns).length (rowZ Nd.cell 6 (acc ++ ns)) ∧ wr.grownBy W' out.ownBlock) :
    W'.ownsRow W.heap.size 64 6 v' (acc ++ ns).length (rowZ Nd.cell 6 (acc ++ ns)) ∧ Below W.heap.size W W' :=
  ⟨h'.1, h.2.grown h'.2 h.2.size (fun k hk => (h.1.lt k hk).1)⟩

set_option maxHeartbeats 4000000 in
set_option maxRecDepth 100000 in
theorem gput_calls {d : Dr} (k nm kd : Int) (a b c : ByteArray) (W : World) (vk : Value) (ls : List (Value × List Nd)) (h1 : d.B < W.heap.size) (h2 : d.G < W.heap.size) (hk : KidsV d W vk ls) (hb : Brief a ∧ Brief b ∧ Brief c) (hl : ls.length ≤ 1000) (hm : (flatL ls).length ≤ 800000) :
    Calls Tryz.prog 32 #[.agg #[.int .i64 k, .int .i64 nm, .string a, .string b, .string c, .int .i64 kd], vk] W fun e W' => ∃ v, e = .returned v ∧ NodesD d W' v (⟨k, nm, a, b, c, (ls.length : Int)⟩ :: flatL ls) ∧ Below W.heap.size W W' := by
  obtain ⟨L, hL⟩ : ∃ L, ls.length = L := ⟨_, rfl⟩
  have HK := hid hk
  have HL := hid (And.intro hL (And.intro hl (And.intro hm (And.intro hb (And.intro h1 h2)))))
  obtain ⟨ad, cp, rfl⟩ := hk.1.is
  rw [hL] at HK ⊢
  clear hk hb hm hl h1 h2 hL
  obtain ⟨i0, hinf, hz0, hz1, hz2⟩ := info_parts info_node
  go_enter Tryz.func32, Tryz.ntmps32
  go_wp2_with fail
  go_loopw [5, 6] (fun out i wr => ∃ (i' : Nat) (acc : List Nd), i = .int .i64 i' ∧ i' ≤ L ∧ Hid (wr.ownsRow W.heap.size 64 6 out acc.length (rowZ Nd.cell 6 acc) ∧ Below W.heap.size W wr) ∧ Hid (acc = ⟨k, nm, a, b, c, (L : Int)⟩ :: flatL (ls.take i'))) (fun _ i _ => L - (intOf i).toNat)
  case atStart =>
    have hw : (W.alloc (.cells #[.int .i64 k, .int .i64 nm, .string a, .string b, .string c, .int .i64 (L : Int)] 64)).heap.size = W.heap.size + 1 := by simp
    have ho := World.ownsRow_lit (base := W.heap.size) (e := 64) (size := 6) (W.alloc (.cells #[.int .i64 k, .int .i64 nm, .string a, .string b, .string c, .int .i64 (L : Int)] 64)) #[.int .i64 k, .int .i64 nm, .string a, .string b, .string c, .int .i64 (L : Int)] 1 (by rw [hw]; omega) (by unfold maxLen; omega) rfl
    rw [hw] at ho
    exact ⟨0, [⟨k, nm, a, b, c, (L : Int)⟩], rfl, Nat.zero_le _, ⟨ho, ((Below.refl _ _).alloc (Nat.le_refl _) _).alloc (by rw [hw]; omega) _⟩, by show _ = _; simp [flatL]⟩
  case round =>
    obtain ⟨i', acc, rfl, hle, HO, HA⟩ := hrel
    by_cases hi : (i' : Int) < (L : Int)
    · have hil : i' < ls.length := by have := HL.out.1; omega
      obtain ⟨-, -, g, o, rfl, hq, hc⟩ := HK.out.1.at (by omega : 0 < L)
      have hcell := (HO.out.2.cell (p := ⟨g, o + i', none⟩) hq.1).trans (hc i' (by omega))
      have hnd := HK.out.2 _ (List.mem_of_getElem? (l := ls) (i := i') (a := ls.getD i' (.slice none 0 0, [])) (by simp [List.getD, hil]))
      have hft := flatL_take ls i' hil
      have hfl := flatL_le ls (i' + 1)
      generalize ls.getD i' (.slice none 0 0, []) = kx at hcell hnd hft
      obtain ⟨kv, kns⟩ := kx
      dsimp only at hcell hnd hft
      have HN := hid (hnd.grew (Grew.of_below HO.out.2))
      have HF := hid (And.intro hft hfl)
      obtain ⟨kad, kcp, rfl⟩ := hnd.is
      clear hnd hft hfl hc hil
      have hi0 : (0 : Int) ≤ (i' : Int) := by omega
      have hstep : L - (intOf (.int .i64 ((i' + 1 : Nat) : Int))).toNat < L - (intOf (.int .i64 (i' : Int))).toNat := lt_step hi
      have HS : Hid (acc ++ kns = ⟨k, nm, a, b, c, (L : Int)⟩ :: flatL (ls.take (i' + 1)) ∧ acc.length + kns.length ≤ 900000) := by
        have e : acc ++ kns = ⟨k, nm, a, b, c, (L : Int)⟩ :: flatL (ls.take (i' + 1)) := by rw [HA.out, HF.out.1]; rfl
        refine ⟨e, ?_⟩
        rw [← List.length_append, e, List.length_cons]
        have := HF.out.2
        have := HL.out.2.2.1
        omega
      clear HA HF
      go_wp2_with (at_builtin; refine wpList_append_by rfl _ _ 23 rfl _ _ rfl rfl (fun ty => app_row nd_one Tryz.underlying23 hinf hz0 hz1 hz2 rfl (by decide) (by decide) HO.out.1 HN.out.1 (by have := HS.out.2; omega) HO.out.2.size ty) ?_; intro v5 w5 hv5; have HO5 := hid (put_step HO.out hv5); clear hv5)
      try rw [wrap_succ (by have := HL.out.2.1; have := HL.out.1; omega)]
      exact ⟨⟨i' + 1, acc ++ kns, rfl, by omega, HO5, HS.out.1⟩, hstep⟩
    · have e : i' = L := by omega
      subst e
      have HE : Hid (acc = ⟨k, nm, a, b, c, (i' : Int)⟩ :: flatL ls) := by
        show _ = _
        rw [HA.out, List.take_of_length_le (by have := HL.out.1; omega)]
      clear HA
      go_wp2_with fail
      go_ret
      refine ⟨_, rfl, ⟨?_, fun n hn => ?_⟩, HO.out.2⟩
      · rw [← HE.out]
        exact lies_owns (f := Nd.cell) (by decide) HO.out.1 HL.out.2.2.2.2.1 HL.out.2.2.2.2.2
      · rw [List.mem_cons] at hn
        rcases hn with rfl | hn
        · exact HL.out.2.2.2.1
        · obtain ⟨x, hx, hnx⟩ := flatL_mem hn
          exact (HK.out.2 x hx).2 n hnx
end Go.Proofs.YtkdipppeljpgmaaGreatDoor
