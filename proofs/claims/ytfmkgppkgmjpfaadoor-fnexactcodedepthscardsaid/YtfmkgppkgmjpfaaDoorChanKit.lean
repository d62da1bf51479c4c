/- Codes that communicate with nobody beside them: laws for frames that are no early ones. -/
import Derived.Test.YtfmkgppkgmjpfaaDoorRows
import Derived.Conc.LoneCalls
import Derived.WalkKit
namespace Go.Proofs.YtfmkgppkgmjpfaaDoor
open Go.RowKit Go.Conc

/-- A code runs so in every frame that is no early one. -/
def wpN (P : Program) (c : Code) (Q : Exit → Act → World → Prop) (a : Act) (w : World) : Prop :=
  ∀ (b : Frame), b.kind ≠ .early → ∀ (k : List Item) (cs : List Frame), ∃ e a' w', Q e a' w' ∧ Arrives P (lone (b.at a (.code c :: k)) cs w) b k cs e a' w'

/-- The same of what is left of a region. -/
def InR (P : Program) (ops : Array Oper) (l : List Nat) (Q : Exit → Act → World → Prop) (a : Act) (w : World) : Prop :=
  ∀ (b : Frame), b.kind ≠ .early → ∀ (k : List Item) (cs : List Frame), ∃ e a' w', Q e a' w' ∧ Arrives P (lone (b.at a (.inRegion ops l :: k)) cs w) b k cs e a' w'

section
variable {P : Program} {Q : Exit → Act → World → Prop} {a : Act} {w : World}

theorem wpN_of {c : Code} (h : c.wp P Q a w) : wpN P c Q a w := fun b _ => h b

theorem wpN_seq {x y : Code} (h : wpN P x (Exit.then (wpN P y Q) Q) a w) : wpN P (.seq x y) Q a w := fun b hb k cs => by
  obtain ⟨e, a1, w1, hq, ha⟩ := h b hb (.code y :: k) cs
  cases e with
  | normal =>
    obtain ⟨e2, a2, w2, hq2, ha2⟩ := hq b hb k cs
    exact ⟨e2, a2, w2, hq2, .of_steps (.head step_seq ha) ha2⟩
  | _ => exact ⟨_, a1, w1, hq, .of_steps (.one step_seq) (.pass (x := .code y) rfl (fun _ _ => .inl (by simp)) ha)⟩

theorem wpN_seq_wp {x y : Code} (h : x.wp P (Exit.then (wpN P y Q) Q) a w) : wpN P (.seq x y) Q a w := wpN_seq (wpN_of h)

theorem wpN_cond {c : Operand} {x y : Code} {t : Bool} (hc : a.eval c = .bool t) (h : wpN P (if t then x else y) Q a w) : wpN P (.cond c x y) Q a w := fun b hb k cs => by
  obtain ⟨e, a', w', q, r⟩ := h b hb k cs
  exact ⟨e, a', w', q, .of_steps (.one (step_cond hc)) r⟩

theorem wpN_block {id : Nat} {c : Code} (h : wpN P c (Exit.inBlock id Q) a w) : wpN P (.block id c) Q a w := fun b hb k cs => by
  obtain ⟨e, a1, w1, hq, ha⟩ := h b hb (.inBlock id :: k) cs
  cases e with
  | normal => exact ⟨.normal, a1, w1, hq, .head step_block (Steps.trans ha (.one step_inBlock))⟩
  | exit id' =>
    by_cases hid : id' = id
    · simp only [Exit.inBlock, hid, if_true] at hq
      exact ⟨.normal, a1, w1, hq, .head step_block (ha k (by simp [exitTo, hid]))⟩
    · simp only [Exit.inBlock, hid, if_false] at hq
      refine ⟨.exit id', a1, w1, hq, fun k' hk => .head step_block (ha k' ?_)⟩
      have hne : (id == id') = false := by simp; exact fun h => hid h.symm
      simp [exitTo, hne, hk]
  | goto l => exact ⟨_, a1, w1, hq, fun k' hk => .head step_block (ha k' (by simp [gotoIn, hk]))⟩
  | ret => exact ⟨_, a1, w1, hq, .of_steps (.one step_block) ha⟩
  | panic ch => exact ⟨_, a1, w1, hq, .of_steps (.one step_block) ha⟩
  | outgrown => exact ⟨_, a1, w1, hq, .of_steps (b := b) (k := k) (cs := cs) (e := .outgrown) (.one step_block) ha⟩

/-- A loop; n: so many rounds at most are to come. -/
theorem wpN_loop {c : Code} (I : Nat → Act → World → Prop) (n : Nat) (h0 : I n a w)
    (round : ∀ n a w, I n a w → wpN P c (Exit.then (fun a' w' => ∃ m, m < n ∧ I m a' w') Q) a w) : wpN P (.loop c) Q a w := fun b hb k cs => by
  have key : ∀ n a w, I n a w → ∃ e a' w', Q e a' w' ∧ Arrives P (lone (b.at a (.code c :: .inLoop c :: k)) cs w) b k cs e a' w' := by
    intro n
    induction n using Nat.strongRecOn with
    | _ n ih =>
      intro a w hI
      obtain ⟨e, a1, w1, hq, ha⟩ := round n a w hI b hb (.inLoop c :: k) cs
      cases e with
      | normal =>
        obtain ⟨m, hm, hI1⟩ := hq
        obtain ⟨e2, a2, w2, hq2, ha2⟩ := ih m hm a1 w1 hI1
        exact ⟨e2, a2, w2, hq2, .of_steps (Steps.trans ha (.one step_inLoop)) ha2⟩
      | _ => exact ⟨_, a1, w1, hq, .pass (x := .inLoop c) rfl (fun _ _ => .inl (by simp)) ha⟩
  obtain ⟨e, a', w', hq, ha⟩ := key n a w h0
  exact ⟨e, a', w', hq, .of_steps (.one step_loop) ha⟩

theorem calls_of_wpN {f : FuncId} {fn : Func} {c : Code} {args : Array Value} {R : Ending → World → Prop} (hf : P.funcs[f]? = some fn) (hc : fn.body = some c)
    (h : wpN P c (bodyPost P fn R) { tmps := args ++ Array.replicate (fn.ntmps - args.size) undef, defers := [] } w) : Calls P f args w R := fun cs => by
  have he : Frame.enter P f args .normal = ({ (default : Frame) with fn := f, kind := .normal }).at { tmps := args ++ Array.replicate (fn.ntmps - args.size) undef, defers := [] } [.code c] := by
    simp [Frame.enter, Frame.at, hf, hc]
  obtain ⟨e, a', w', hq, ha⟩ := h { (default : Frame) with fn := f, kind := .normal } (by simp) [] cs
  rw [← he] at ha
  cases e with
  | normal =>
    obtain ⟨hd, v, hr, hR⟩ := hq
    exact ⟨.returned v, w', _, hR, Steps.trans ha (.one step_end), rfl, rfl, hd, rfl, fn, hf, hr⟩
  | ret =>
    obtain ⟨hd, v, hr, hR⟩ := hq
    obtain ⟨todo, hs⟩ := ha
    exact ⟨.returned v, w', _, hR, hs, rfl, rfl, hd, rfl, fn, hf, hr⟩
  | panic chain =>
    obtain ⟨hd, hR⟩ := hq
    obtain ⟨todo, hs⟩ := ha
    exact ⟨.panicked chain, w', _, hR, hs, rfl, rfl, hd, fn, hf⟩
  | exit id => exact hq.elim
  | goto l => exact hq.elim
  | outgrown => exact ⟨.outgrown, w', { (default : Frame) with fn := f, kind := .normal }, hq, ha.resolve_left (by simp), rfl, trivial⟩

theorem inR_of {ops : Array Oper} {l : List Nat} (h : wpOps P ops Q l a w) : InR P ops l Q a w := fun b _ k cs => wp_ops l a w h b k cs

theorem wpN_region {id : Nat} {ops : Array Oper} (h : InR P ops (List.range ops.size) Q a w) : wpN P (.region id ops false) Q a w := fun b hb k cs => by
  obtain ⟨e, a', w', q, r⟩ := h b hb k cs
  exact ⟨e, a', w', q, .of_steps (.one step_region) r⟩

theorem wpN_region_draw {id : Nat} {ops : Array Oper} (h : ∀ t, InR P ops (Region.schedule (P.follows .mixedOrders) ops t) Q a w.drew) : wpN P (.region id ops true) Q a w := fun b hb k cs => by
  obtain ⟨e, a', w', q, r⟩ := h (w.tape w.drawn (.order b.fn id)) b hb k cs
  exact ⟨e, a', w', q, .of_steps (.one step_region_draw) r⟩

/-- What of a region is left, in whatever order. -/
def AnyN (P : Program) (ops : Array Oper) (Q : Exit → Act → World → Prop) (fuel : Nat) (listed : Array Bool) (a : Act) (w : World) : Prop :=
  ∀ t, InR P ops (Region.linearise.go .any ops fuel t listed []) Q a w

theorem wpN_region_any {id : Nat} {ops : Array Oper} (hm : P.follows .mixedOrders = true) (h : AnyN P ops Q ops.size (Array.replicate ops.size false) a w.drew) : wpN P (.region id ops true) Q a w :=
  wpN_region_draw fun t => by
    simp only [Region.schedule, hm, Bool.true_or, if_true]
    exact h t

/-- One of what is ready is next. -/
theorem anyN_next {ops : Array Oper} {fuel : Nat} {listed : Array Bool} {rs : List Nat} (hr : Region.ready .any ops listed = rs) (hne : rs ≠ [])
    (h : ∀ i ∈ rs, ∀ t, InR P ops (i :: Region.linearise.go .any ops fuel t (listed.setIfInBounds i true) []) Q a w) : AnyN P ops Q (fuel + 1) listed a w := fun t => by
  simp only [Region.linearise.go]
  change InR P ops (match (Region.ready .any ops listed)[t % (Region.ready .any ops listed).length]? with
      | some i => Region.linearise.go .any ops fuel (t / (Region.ready .any ops listed).length) (listed.setIfInBounds i true) [i]
      | none => [].reverse) Q a w
  rw [hr]
  cases hi : rs[t % rs.length]? with
  | none =>
    have hlt : t % rs.length < rs.length := Nat.mod_lt _ (List.length_pos_iff.2 hne)
    rw [List.getElem?_eq_none_iff] at hi
    omega
  | some i =>
    dsimp only
    rw [linearise_go_acc, List.reverse_singleton, List.singleton_append]
    exact h i (List.mem_of_getElem? hi) _

theorem anyN_end {ops : Array Oper} {fuel : Nat} {listed : Array Bool} (hr : Region.ready .any ops listed = []) (h : Q .normal a w) : AnyN P ops Q fuel listed a w := fun t => by
  have e : Region.linearise.go .any ops fuel t listed [] = [] := by
    cases fuel with
    | zero => simp [Region.linearise.go]
    | succ n =>
      simp only [Region.linearise.go]
      change (match (Region.ready .any ops listed)[t % (Region.ready .any ops listed).length]? with
        | some i => Region.linearise.go .any ops n (t / (Region.ready .any ops listed).length) (listed.setIfInBounds i true) [i]
        | none => [].reverse) = []
      rw [hr]
      rfl
  rw [e]
  exact inR_of (by simpa [wpOps] using h)

/-- An operation that yields a value. -/
theorem inR_value {ops : Array Oper} {i : Nat} {rest : List Nat} {o : Oper} {v : Value} {w' : World} (ho : ops[i]? = some o) (hw : Region.wanted o (yielded ops a.tmps) = true) (hr : (execOp a.eval o).run P w = .ok (.value v) w')
    (h : InR P ops rest Q (a.put o.dst v) w') : InR P ops (i :: rest) Q a w := fun b hb k cs => by
  obtain ⟨e, a', w2, q, r⟩ := h b hb k cs
  refine ⟨e, a', w2, q, .of_steps (.one ?_) r⟩
  have hd : (ops[i]?).bind (·.dst) = o.dst := by rw [ho]; rfl
  rw [← hd, ← Frame.finish_at]
  refine step_lone_go ?_
  rw [stepG_op ho hw]
  simp [stepG.apply, hr]

/-- A send into a buffer with room. -/
theorem inR_send {ops : Array Oper} {i : Nat} {rest : List Nat} {o : Oper} {c cap s r : Nat} {buf : Array Value} {v z : Value} {tm : Bool} {w' : World} (ho : ops[i]? = some o) (hw : Region.wanted o (yielded ops a.tmps) = true) (hr : (execOp a.eval o).run P w = .ok (.comm #[scase c v z] true .send) w')
    (hc : w'.heap[c]? = some (.chan cap buf false s r tm)) (hroom : buf.size < cap) (h : InR P ops rest Q (a.put o.dst undef) (w'.setChan c cap (buf.push v) false (s + 1) r tm)) : InR P ops (i :: rest) Q a w := fun b hb k cs => by
  obtain ⟨e, a', w2, q, ar⟩ := h b hb k cs
  refine ⟨e, a', w2, q, .of_steps (.one ?_) ar⟩
  have hd : (ops[i]?).bind (·.dst) = o.dst := by rw [ho]; rfl
  have hs := step_lone_send_room (stepG_comm (k := k) (cs := cs) (rest := rest) ho hw hb hr) hc hroom
  rw [Frame.finish_at, hd] at hs
  exact hs

/-- A receive from a buffer that holds something. -/
theorem inR_recv {ops : Array Oper} {i : Nat} {rest : List Nat} {o : Oper} {c cap s r : Nat} {buf : Array Value} {z : Value} {tm closed : Bool} {w' : World} (ho : ops[i]? = some o) (hw : Region.wanted o (yielded ops a.tmps) = true) (hr : (execOp a.eval o).run P w = .ok (.comm #[rcase c z] true (.recv true)) w')
    (hc : w'.heap[c]? = some (.chan cap buf closed s r tm)) (hsome : 0 < buf.size) (h : InR P ops rest Q (a.put o.dst (.tuple #[buf.getD 0 undef, .bool true])) (w'.setChan c cap (buf.extract 1 buf.size) closed s (r + 1) tm)) : InR P ops (i :: rest) Q a w := fun b hb k cs => by
  obtain ⟨e, a', w2, q, ar⟩ := h b hb k cs
  refine ⟨e, a', w2, q, .of_steps (.one ?_) ar⟩
  have hd : (ops[i]?).bind (·.dst) = o.dst := by rw [ho]; rfl
  have hs := step_lone_recv_buf true (stepG_comm (k := k) (cs := cs) (rest := rest) ho hw hb hr) hc hsome
  rw [Frame.finish_at, hd] at hs
  exact hs

/-- A receive from a closed channel whose buffer is empty. -/
theorem inR_shut {ops : Array Oper} {i : Nat} {rest : List Nat} {o : Oper} {c cap s r : Nat} {z : Value} {tm : Bool} {w' : World} (ho : ops[i]? = some o) (hw : Region.wanted o (yielded ops a.tmps) = true) (hr : (execOp a.eval o).run P w = .ok (.comm #[rcase c z] true (.recv true)) w')
    (hc : w'.heap[c]? = some (.chan cap #[] true s r tm)) (h : InR P ops rest Q (a.put o.dst (.tuple #[z, .bool false])) w') : InR P ops (i :: rest) Q a w := fun b hb k cs => by
  obtain ⟨e, a', w2, q, ar⟩ := h b hb k cs
  refine ⟨e, a', w2, q, .of_steps (.one ?_) ar⟩
  have hd : (ops[i]?).bind (·.dst) = o.dst := by rw [ho]; rfl
  have hs := step_lone_recv_shut true (stepG_comm (k := k) (cs := cs) (rest := rest) ho hw hb hr) hc
  rw [Frame.finish_at, hd] at hs
  exact hs
end
end Go.Proofs.YtfmkgppkgmjpfaaDoor
