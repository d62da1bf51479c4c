/- The program reads code from bytes as the plain reading has it. -/
import Derived.Test.YtmjcifaihmecmaaImplReadB
import Derived.Test.YtmjcifaihmecmaaCutHead
import Derived.Test.YtmjcifaihmecmaaImplList
import Derived.Lib.SmallJoins
namespace Go.Proofs.Ytmjcifaihmecmaa
open Go.RowKit

attribute [local go_sem] Oper.semAt_some

theorem results_two {fn : Func} {p q : Tmp} {t u : TypeId} (h : fn.results = #[.cell p t, .cell q u]) (tmps : Array Value) (P : Program) (w : World) {a b : Addr} {x y : Value} (hp : tmps.getD p undef = .pointer (some a)) (hq : tmps.getD q undef = .pointer (some b))
    (ha : (loadVar t a).run P w = .ok x w) (hb : (loadVar u b).run P w = .ok y w) : (results fn tmps).run P w = .ok (.tuple #[x, y]) w := by
  rw [Array.getD_eq_getD_getElem?] at hp hq
  simp only [results, h]
  simp [Sem.run_bind, Result.andThen, hp, hq, asAddr, ha, hb]

theorem load_ins {X : World} {g : Nat} {v : Value} (h : X.heap[g]? = some (.cells #[v] 33)) : (loadVar 33 ⟨g, 0, none⟩).run Try.prog X = .ok v X := by
  have c := cell_of_heap h 0
  simp at c
  simp [loadVar, go_sem, c]

theorem load_ok {X : World} {g : Nat} {v : Value} (h : X.heap[g]? = some (.cells #[v] 4)) : (loadVar 4 ⟨g, 0, none⟩).run Try.prog X = .ok v X := by
  have c := cell_of_heap h 0
  simp at c
  simp [loadVar, go_sem, c]

/-- The three blocks that are made first. -/
theorem three_new (w : World) (o1 o2 o3 : Obj) : ∃ W3, ((w.alloc o1).alloc o2).alloc o3 = W3 ∧ W3.heap[w.heap.size]? = some o1 ∧ W3.heap[w.heap.size + 1]? = some o2 ∧ W3.heap[w.heap.size + 1 + 1]? = some o3 ∧ Below w.heap.size w W3 := by
  refine ⟨_, rfl, ?_, ?_, ?_, (((Below.refl _ w).alloc (Nat.le_refl _) _).alloc (by simp) _).alloc (by simp; omega) _⟩
  · rw [Below.heap_alloc _ _ _ (by simp; omega), Below.heap_alloc _ _ _ (by simp)]
    exact (MapKept.heap_alloc w o1).1
  · rw [Below.heap_alloc _ _ _ (by simp)]
    have e := (MapKept.heap_alloc (w.alloc o1) o2).1
    rwa [World.size_alloc] at e
  · have e := (MapKept.heap_alloc ((w.alloc o1).alloc o2) o3).1
    rwa [World.size_alloc, World.size_alloc] at e

theorem set_two {w X : World} {t u : TypeId} {x y : Value} (h2 : X.heap[w.heap.size]? = some (.cells #[x] t)) (h3 : X.heap[w.heap.size + 1]? = some (.cells #[y] u)) (hb : Below w.heap.size w X) (a b : Value) :
    ((X.setCell ⟨w.heap.size, 0, none⟩ a).setCell ⟨w.heap.size + 1, 0, none⟩ b).heap[w.heap.size]? = some (.cells #[a] t) ∧ ((X.setCell ⟨w.heap.size, 0, none⟩ a).setCell ⟨w.heap.size + 1, 0, none⟩ b).heap[w.heap.size + 1]? = some (.cells #[b] u) ∧ Below w.heap.size w ((X.setCell ⟨w.heap.size, 0, none⟩ a).setCell ⟨w.heap.size + 1, 0, none⟩ b) := by
  refine ⟨?_, ?_, (hb.setCell (p := ⟨w.heap.size, 0, none⟩) (Nat.le_refl _) _).setCell (p := ⟨w.heap.size + 1, 0, none⟩) (Nat.le_succ _) _⟩
  · rw [Below.heap_setCell _ _ _ _ (by dsimp only; omega)]
    exact box1_set h2 a
  · exact box1_set ((Below.heap_setCell X ⟨w.heap.size, 0, none⟩ a _ (by dsimp only; omega)).trans h3) b

theorem below_put {w X : World} (h : Below w.heap.size w X) {l : Nat} (hl : w.heap.size ≤ l) (o : Obj) : Below w.heap.size w (X.putObj l o) :=
  ⟨h.os, h.tape, h.output, by simpa using h.size, fun q hq => (World.putObj_heap_other (by omega)).trans (h.block q hq)⟩

/-- What is told where nothing is read. -/
theorem none_told {w X : World} {tmps : Array Value} {d : Nat} (hp : tmps.getD 2 undef = .pointer (some ⟨w.heap.size, 0, none⟩)) (hq : tmps.getD 3 undef = .pointer (some ⟨w.heap.size + 1, 0, none⟩))
    (h2 : X.heap[w.heap.size]? = some (.cells #[.slice none 0 0] 33)) (h3 : X.heap[w.heap.size + 1]? = some (.cells #[.bool false] 4)) (hb : Below w.heap.size w X) :
    LeavesInM Fence.wide d Try.prog Try.f20 tmps (fun e w' => (∃ v, e = .returned (.tuple #[v, .bool false]) ∧ OwnsI w.heap.size w' v []) ∧ Below w.heap.size w w') [] .returning X :=
  ⟨_, results_two rfl tmps _ _ hp hq (load_ins h2) (load_ok h3), ⟨_, rfl, World.ownsRow_nil _ _ _ _⟩, hb⟩

theorem tells_len : ∀ (n : Nat) (l : List Int), l.length ≤ n → (tells l).length ≤ l.length
  | _, [], _ => Nat.le_refl _
  | 0, _ :: _, h => by simp at h
  | n + 1, op :: r, h => by
    simp only [List.length_cons] at h
    rw [tells_cons]
    split
    · have h1 := tells_len n (r.drop (4 * insMany op)) (by simp; omega)
      rw [List.length_drop] at h1
      simp only [List.length_cons]
      omega
    · simp

theorem owns_slice {B : Nat} {X : World} {v : Value} {cs : List In} (h : OwnsI B X v cs) : (∀ g, v.ownBlock = some g → B ≤ g ∧ g < X.heap.size) ∧ ∃ ad c, v = .slice ad cs.length c := by
  obtain ⟨-, ⟨rfl, h0⟩ | ⟨g, cap, cur, rfl, hB, hc, -⟩⟩ := h
  · exact ⟨fun g e => by simp [Value.ownBlock] at e, none, 0, by rw [h0]⟩
  · refine ⟨fun g' e => ?_, _, cap, rfl⟩
    simp [Value.ownBlock] at e
    subst e
    exact ⟨hB, heap_lt hc⟩

set_option maxRecDepth 100000 in
theorem indexNone_calls (ad : Option Addr) (cap : Nat) (w : World) :
    Calls Try.prog 38 #[.slice ad 0 cap, .func (.func 34) #[] #[]] w fun e w' => e = .returned (.int .i64 (-1)) ∧ w = w' := by
  go_enter Try.func38, Try.ntmps38
  go_wp2
  refine wp_loop_rounds 1 ?_
  rw [rounds_succ]
  go_wp2
  go_ret
  exact ⟨rfl, rfl⟩

set_option maxRecDepth 100000 in
theorem listNone_calls (ad : Option Addr) (cap : Nat) (w : World) :
    Calls Try.prog 25 #[.slice ad 0 cap] w fun e w' => e = .returned (.bool true) ∧ Below w.heap.size w w' := by
  have HY : Hid (∀ X, Calls Try.prog 33 #[.slice ad 0 cap, .func (.func 34) #[] #[]] X fun e w' => e = .returned (.bool false) ∧ X = w') := by
    show ∀ X, _
    intro X
    go_enter Try.func33, Try.ntmps33
    go_wp2_with fail
    refine (indexNone_calls ad cap _).mono ?_
    rintro e w2 ⟨rfl, rfl⟩
    go_wp2_with fail
    go_ret
    exact ⟨rfl, rfl⟩
  go_enter Try.func25, Try.ntmps25
  go_wp2_with fail
  refine (HY.out _).mono ?_
  rintro e w2 ⟨rfl, rfl⟩
  go_wp2_with fail
  go_ret
  exact ⟨rfl, Below.refl _ _⟩

theorem insListOk_any {B : Nat} (X : World) {v : Value} {cs : List In} (h : OwnsI B X v cs) : Calls Try.prog 25 #[v] X fun e w' => e = .returned (.bool (codeOkZ cs)) ∧ Below X.heap.size X w' := by
  have hs := sliceR_of_owns h
  obtain ⟨ad, cap, rfl, hh⟩ := hs
  by_cases h0 : cs.length = 0
  · have hc : cs = [] := List.length_eq_zero_iff.1 h0
    subst hc
    exact listNone_calls ad cap X
  · obtain ⟨g, rfl, -, hr⟩ := hh.resolve_left h0
    exact listOk_calls g 0 cap cs X hr.lt (CellRow.insAt (hr.congr (fun i hi => insRow_at cs i hi)))

/-- What the rounds keep: the result's cells, the list that grows. -/
structure Rd (w : World) (C : Nat) (pre : List (In × Bool)) (X : World) : Prop where
  r2 : X.heap[w.heap.size]? = some (.cells #[.slice none 0 0] 33)
  r3 : X.heap[w.heap.size + 1]? = some (.cells #[.bool false] 4)
  cb : ∃ vc, X.heap[C]? = some (.cells #[vc] 33) ∧ OwnsI (C + 4) X vc (pre.map Prod.fst)
  all : ∀ x ∈ pre, x.2 = true
  below : Below w.heap.size w X
  len : C + 4 ≤ X.heap.size
  first : w.heap.size + 1 < C

theorem owns_same {B : Nat} {X Y : World} {v : Value} {cs : List In} (h : OwnsI B X v cs) (he : ∀ q, B ≤ q → q < X.heap.size → Y.heap[q]? = X.heap[q]?) : OwnsI B Y v cs := by
  obtain ⟨h0, ⟨rfl, h1⟩ | ⟨g, cap, cur, rfl, hB, hc, hr⟩⟩ := h
  · exact ⟨h0, Or.inl ⟨rfl, h1⟩⟩
  · exact ⟨h0, Or.inr ⟨g, cap, cur, rfl, hB, (he g hB (heap_lt hc)).trans hc, hr⟩⟩

theorem owns_low {B B' : Nat} {X : World} {v : Value} {cs : List In} (hB : B' ≤ B) (h : OwnsI B X v cs) : OwnsI B' X v cs := by
  obtain ⟨h0, ⟨rfl, h1⟩ | ⟨g, cap, cur, rfl, hg, hc, hr⟩⟩ := h
  · exact ⟨h0, Or.inl ⟨rfl, h1⟩⟩
  · exact ⟨h0, Or.inr ⟨g, cap, cur, rfl, Nat.le_trans hB hg, hc, hr⟩⟩

/-- Blocks beside may be changed. -/
theorem Rd.beside {w : World} {C : Nat} {pre : List (In × Bool)} {X Y : World} (h : Rd w C pre X) (h1 : Y.os = X.os) (h2 : Y.tape = X.tape) (h3 : Y.output = X.output) (hs : X.heap.size ≤ Y.heap.size) (he : ∀ q, q < X.heap.size → q ≤ C ∨ C + 4 ≤ q → Y.heap[q]? = X.heap[q]?) : Rd w C pre Y := by
  have hf := h.first
  have hl := h.len
  obtain ⟨vc, hc, ho⟩ := h.cb
  exact ⟨(he _ (by omega) (Or.inl (by omega))).trans h.r2, (he _ (by omega) (Or.inl (by omega))).trans h.r3, ⟨vc, (he _ (by omega) (Or.inl (Nat.le_refl _))).trans hc, owns_same ho (fun q hq hq' => he q hq' (Or.inr hq))⟩, h.all, ⟨h1.trans h.below.os, h2.trans h.below.tape, h3.trans h.below.output, Nat.le_trans h.below.size hs, fun q hq => (he q (by omega) (Or.inl (by omega))).trans (h.below.block q hq)⟩, by omega, hf⟩

theorem Rd.keep {w : World} {C : Nat} {pre : List (In × Bool)} {X Y : World} (h : Rd w C pre X) (hb : Below X.heap.size X Y) : Rd w C pre Y := h.beside hb.os hb.tape hb.output hb.size (fun q hq _ => hb.block q hq)

theorem Rd.set {w : World} {C : Nat} {pre : List (In × Bool)} {X : World} (h : Rd w C pre X) (v : Value) : Rd w C pre (X.setCell ⟨C + 1, 0, none⟩ v) := h.beside rfl rfl rfl (by simp [World.setCell]) (fun q _ hq => Below.heap_setCell X ⟨C + 1, 0, none⟩ v q (by dsimp only; omega))

theorem Rd.put {w : World} {C : Nat} {pre : List (In × Bool)} {X : World} (h : Rd w C pre X) {l : Nat} (h1 : C < l) (h2 : l < C + 4) (o : Obj) : Rd w C pre (X.putObj l o) := h.beside rfl rfl rfl (by simp) (fun q _ hq => World.putObj_heap_other (by omega))

/-- A round has found an instruction that is not there to its end. -/
structure RdX (w : World) (C : Nat) (pre : List (In × Bool)) (X : World) : Prop where
  r2 : X.heap[w.heap.size]? = some (.cells #[.slice none 0 0] 33)
  r3 : X.heap[w.heap.size + 1]? = some (.cells #[.bool false] 4)
  one : ∃ x ∈ pre, x.2 = false
  below : Below w.heap.size w X
  len : C + 4 ≤ X.heap.size
  first : w.heap.size + 1 < C

theorem RdX.put {w : World} {C : Nat} {pre : List (In × Bool)} {X : World} (h : RdX w C pre X) {l : Nat} (h1 : C < l) (o : Obj) : RdX w C pre (X.putObj l o) := by
  have hf := h.first
  have hl := h.len
  exact ⟨(World.putObj_heap_other (by omega)).trans h.r2, (World.putObj_heap_other (by omega)).trans h.r3, h.one, ⟨h.below.os, h.below.tape, h.below.output, by simpa using h.below.size, fun q hq => (World.putObj_heap_other (by omega)).trans (h.below.block q hq)⟩, by simpa using hl, hf⟩

/-- The program's iterator. -/
theorem insOfBytes_calls (a : Option Addr) (n c : Nat) (w : World) : Calls Try.prog 31 #[.slice a n c] w fun e w' => e = .returned (.func (.func 36) #[] #[.pointer (some ⟨w.heap.size, 0, none⟩)]) ∧ w' = w.alloc (.cells #[.slice a n c] 30) := by
  go_enter Try.func31, Try.ntmps31
  go_wp2_with fail
  go_ret
  exact ⟨rfl, rfl⟩

set_option maxRecDepth 100000 in
set_option maxHeartbeats 2000000 in
theorem implRead_rows (b off : Nat) (bs : List Int) (w : World) (hb : b < w.heap.size) (hn : BytesAt w b off bs) (hB : ∀ x ∈ bs, IsB x) :
    Calls Try.prog 20 #[.slice (some ⟨b, off, none⟩) bs.length bs.length] w fun e w' => (∃ v, e = .returned (.tuple #[v, .bool (readZ bs).isSome]) ∧ OwnsI w.heap.size w' v ((readZ bs).getD [])) ∧ Below w.heap.size w w' := by
  have HN := hid hn
  have HB := hid hB
  obtain ⟨Z, hZ⟩ : ∃ Z, readZ bs = Z := ⟨_, rfl⟩
  have HZ := hid hZ
  rw [hZ]
  clear hn hB hZ
  refine (callsIn_wide (n := 0)).1 ?_
  refine callsIn_of_wp_marks Try.func20 rfl trivial ?_ rfl
  simp only [Try.ntmps20, List.size_toArray, List.length_cons, List.length_nil, Nat.reduceAdd, Nat.reduceSub, Array.replicate_succ, Array.replicate_zero, List.push_toArray, List.append_toArray, List.nil_append, List.cons_append]
  have hcv := Joins.run_convert_bytes_const_at (P := Try.prog) ((w.alloc (.cells #[.slice none 0 0] 33)).alloc (.cells #[.bool false] 4)) 30 5 #[.int .u8 104, .int .u8 114, .int .u8 49] 3 3 (w.heap.size + 1 + 1) (by simp) Try.underlying30 Try.underlying5
  gi_wp2_with fail
  obtain ⟨W3, hW3, k2, k3, k4, hb3⟩ := three_new w (.cells #[.slice none 0 0] 33) (.cells #[.bool false] 4) (.cells #[.int .u8 104, .int .u8 114, .int .u8 49] 5 (3, 4))
  rw [hW3]
  clear hW3 hcv
  have hhd : BytesAt W3 (w.heap.size + 1 + 1) 0 headBytes := by
    intro k hk
    unfold headBytes at hk ⊢
    simp at hk
    have h3 : k = 0 ∨ k = 1 ∨ k = 2 := by omega
    rcases h3 with rfl | rfl | rfl <;> simp [World.cell?, k4, List.getD]
  have HHd := hid hhd
  have HN3 := hid (HN.out.below hb3 hb)
  clear hhd k4
  by_cases hh : bs.take 3 = headBytes
  case neg =>
    refine ⟨trivial, rfl, (callsIn_wide.2 (cutHead_no b off (w.heap.size + 1 + 1) 3 bs W3 HB.out HN3.out HHd.out hh)).mono ?_⟩
    rintro e W4 ⟨rfl, hb4⟩
    have j2 := (hb4.block _ (heap_lt k2)).trans k2
    have j3 := (hb4.block _ (heap_lt k3)).trans k3
    have hbw := hb3.trans (hb4.mono hb3.size)
    have hZn : Z = none := by
      rw [← HZ.out]
      unfold readZ
      rw [if_pos (Or.inr hh)]
    subst hZn
    clear k2 k3 hb3 hb4 hh
    have c2 := cell_of_heap j2 0
    have c3 := cell_of_heap j3 0
    have z2 := frozen_of_heap j2 0
    have z3 := frozen_of_heap j3 0
    simp at c2 c3
    have HJ2 := hid j2
    have HJ3 := hid j3
    have HBw := hid hbw
    clear j2 j3 hbw
    gi_wp2_with fail
    obtain ⟨s2, s3, sb⟩ := set_two HJ2.out HJ3.out HBw.out (.slice none 0 0) (.bool false)
    exact none_told rfl rfl s2 s3 sb
  refine ⟨trivial, rfl, (callsIn_wide.2 (cutHead_yes b off (w.heap.size + 1 + 1) 3 bs W3 HB.out HN3.out HHd.out hh)).mono ?_⟩
  rintro e W4 ⟨⟨o, rfl, ho⟩, hb4⟩
  have HO := hid ho
  have j2 := (hb4.block _ (heap_lt k2)).trans k2
  have j3 := (hb4.block _ (heap_lt k3)).trans k3
  have hbw := hb3.trans (hb4.mono hb3.size)
  have HN4 := hid (HN.out.below hbw hb)
  have HH := hid hh
  clear k2 k3 hb3 hb4 hh ho HHd HN3
  by_cases hbig : (20000 : Int) < (bs.length : Int)
  · have hZn : Z = none := by
      rw [← HZ.out]
      unfold readZ
      rw [if_pos (Or.inl (by omega))]
    subst hZn
    have c2 := cell_of_heap j2 0
    have c3 := cell_of_heap j3 0
    have z2 := frozen_of_heap j2 0
    have z3 := frozen_of_heap j3 0
    simp at c2 c3
    have HJ2 := hid j2
    have HJ3 := hid j3
    have HBw := hid hbw
    clear j2 j3 hbw
    gi_wp2_with fail
    obtain ⟨s2, s3, sb⟩ := set_two HJ2.out HJ3.out HBw.out (.slice none 0 0) (.bool false)
    exact none_told rfl rfl s2 s3 sb
  have HLn : Hid (bs.length ≤ 20000) := by show _ ≤ _; omega
  have HJ2 := hid j2
  have HJ3 := hid j3
  have HBw := hid hbw
  clear j2 j3 hbw
  generalize hln : bs.length - 3 = ln at *
  have HLe := hid hln
  clear hln
  gi_wp2_with fail
  refine ⟨trivial, rfl, (callsIn_wide.2 (insOfBytes_calls _ _ _ _)).mono ?_⟩
  rintro e W6 ⟨rfl, hW6⟩
  have hC6 := (MapKept.heap_alloc W4 (.cells #[.slice none 0 0] 33)).1
  have hB6 := (MapKept.heap_alloc (W4.alloc (.cells #[.slice none 0 0] 33)) (.cells #[.slice (some ⟨b, o, none⟩) ln ln] 30)).1
  rw [World.size_alloc] at hB6
  have hC6' := (Below.heap_alloc (W4.alloc (.cells #[.slice none 0 0] 33)) (.cells #[.slice (some ⟨b, o, none⟩) ln ln] 30) W4.heap.size (by simp)).trans hC6
  have hb46 : Below W4.heap.size W4 W6 := by rw [hW6]; exact ((Below.refl _ W4).alloc (Nat.le_refl _) _).alloc (by simp) _
  have hs6 : W6.heap.size = W4.heap.size + 2 := by rw [hW6]; simp
  rw [← hW6] at hB6 hC6'
  rw [World.size_alloc]
  clear hC6 hW6
  gi_wp2_with fail
  obtain ⟨rest, hrest⟩ : ∃ rest, bs.drop 3 = rest := ⟨_, rfl⟩
  have HRs := hid hrest
  have hrl : rest.length = ln := by rw [← hrest, List.length_drop]; exact HLe.out
  have HRB : Hid (∀ x ∈ rest, IsB x) := fun x hx => HB.out x (by rw [← hrest] at hx; exact List.mem_of_mem_drop hx)
  have hbC : b < W4.heap.size := by have := HBw.out.size; omega
  have HBt : Hid (BytesAt W6 b o rest) := by
    intro k hk
    have h3 := HO.out.resolve_left (by have := HLe.out; omega)
    have e := (HN4.out.below hb46 hbC) (k + 3) (by have := HLe.out; omega)
    rw [h3, show off + 3 + k = off + (k + 3) by omega, e, ← hrest]
    simp [List.getD, Nat.add_comm]
  have hr2 := (hb46.block _ (heap_lt HJ2.out)).trans HJ2.out
  have hr3 := (hb46.block _ (heap_lt HJ3.out)).trans HJ3.out
  have hf1 : w.heap.size + 1 < W4.heap.size := heap_lt HJ3.out
  have hbw6 := HBw.out.trans (hb46.mono HBw.out.size)
  clear HJ2 HJ3 HBw hb46 HN4 HO
  generalize W4.heap.size = C at *
  have HF1 := hid hf1
  refine range_in (C := C) (b := b) (o := o) (rest := rest) rfl rfl hs6 (by rw [hrl]; exact hB6) hbC HBt.out HRB.out (by have := HLn.out; have := HLe.out; omega) (Rd w C) (RdX w C) ?h0 (fun s A B h _ hb => h.keep hb) (fun s A v h => h.set v) (fun s A l o h h1 h2 => h.put h1 h2 o) (fun s A l o h h1 _ => h.put h1 o) ?hround ?hdone ?hstop
  case h0 =>
    intro o1 o2
    have hbb : Below W6.heap.size W6 ((W6.alloc o1).alloc o2) := ((Below.refl _ W6).alloc (Nat.le_refl _) _).alloc (by simp) _
    exact ⟨(hbb.block _ (by omega)).trans hr2, (hbb.block _ (by omega)).trans hr3, ⟨_, (hbb.block _ (by omega)).trans hC6', World.ownsRow_nil _ _ _ _⟩, (fun x hx => by cases hx), hbw6.trans (hbb.mono hbw6.size), by simp; omega, HF1.out⟩
  case hround =>
    rintro l pre ⟨⟨i1, i2, i3, i4⟩, ok⟩ X hR hX hpost
    unfold inV
    dsimp only
    have HR := hid hR
    have HP := hid hpost
    clear hr2 hr3 hC6' hB6 hbw6 hR hpost
    gi_wp2_with fail
    have hbx := (Below.refl X.heap.size X).alloc (Nat.le_refl _) (.cells #[.int .i64 i1, .int .i64 i2, .int .i64 i3, .int .i64 i4] 25)
    refine ⟨Left.of_below hbx (by omega) hbC, fun r => ?_⟩
    have hA := (MapKept.heap_alloc X (.cells #[.int .i64 i1, .int .i64 i2, .int .i64 i3, .int .i64 i4] 25)).1
    have hsA : (X.alloc (.cells #[.int .i64 i1, .int .i64 i2, .int .i64 i3, .int .i64 i4] 25)).heap.size = X.heap.size + 1 := by simp
    obtain ⟨Y, hY, HRY, hbxY, hsY⟩ : ∃ Y, (X.alloc (.cells #[.int .i64 i1, .int .i64 i2, .int .i64 i3, .int .i64 i4] 25)).putObj (C + 3) r = Y ∧ Hid (Rd w C pre Y) ∧ Y.heap[X.heap.size]? = some (.cells #[.int .i64 i1, .int .i64 i2, .int .i64 i3, .int .i64 i4] 25) ∧ Y.heap.size = X.heap.size + 1 := ⟨_, rfl, (HR.out.keep hbx).put (by omega) (by omega) r, (World.putObj_heap_other (by omega)).trans hA, by simp⟩
    rw [hY]
    clear hY hA hsA hbx HR
    generalize X.heap.size = B7 at *
    have c0 := cell_of_heap hbxY 0
    have c1 := cell_of_heap hbxY 1
    have c2 := cell_of_heap hbxY 2
    have c3 := cell_of_heap hbxY 3
    simp at c0 c1 c2 c3
    clear hbxY
    have hf1 := HF1.out
    cases ok with
    | false =>
      have d2 := cell_of_heap HRY.out.r2 0
      have d3 := cell_of_heap HRY.out.r3 0
      have z2 := frozen_of_heap HRY.out.r2 0
      have z3 := frozen_of_heap HRY.out.r3 0
      simp at d2 d3
      gi_wp2_with fail
      obtain ⟨s2, s3, sb⟩ := set_two HRY.out.r2 HRY.out.r3 HRY.out.below (.slice none 0 0) (.bool false)
      refine ⟨(Left.set Y (p := ⟨w.heap.size, 0, none⟩) (by dsimp only; omega) (by dsimp only; omega) (by dsimp only; omega) (by dsimp only; omega) _).trans (Left.set _ (p := ⟨w.heap.size + 1, 0, none⟩) (by dsimp only; omega) (by dsimp only; omega) (by dsimp only; omega) (by dsimp only; omega) _), ⟨s2, s3, ⟨_, List.mem_append_right _ List.mem_cons_self, rfl⟩, sb, by simp [World.setCell]; omega, hf1⟩⟩
    | true =>
      obtain ⟨vc, hvc, how⟩ := HRY.out.cb
      have e2 := cell_of_heap hvc 0
      have z2 := frozen_of_heap hvc 0
      simp at e2
      have HVc := hid hvc
      have HOw := hid how
      obtain ⟨i0, hi, hz0, hz1, hz2⟩ := info_parts info_ins
      have HPl : Hid (pre.length ≤ 20000) := by
        obtain ⟨post, hp⟩ := HP.out
        have h1 := tells_len rest.length rest (Nat.le_refl _)
        have h2 := congrArg List.length hp
        rw [List.length_append, List.length_cons] at h2
        show _ ≤ _
        have := HLn.out
        have := HLe.out
        omega
      have hov := (owns_slice how).2
      obtain ⟨ad, cc, rfl⟩ := hov
      have HOw2 : Hid (Y.ownsRow (C + 4) 25 4 (.slice ad pre.length cc) pre.length (insRow (pre.map Prod.fst))) := by
        have h1 := how
        unfold OwnsI at h1
        rw [List.length_map] at h1
        exact h1
      rw [List.length_map] at e2
      have hdw := (owns_slice how).1
      have HDw := hid hdw
      clear hvc how hdw HOw
      gi_wp2_with (first
        | (gi_at_builtin; refine wpListIn_append_own _ rfl _ _ 33 rfl (C + 4) 25 i0 (.agg #[.int .i64 0, .int .i64 0, .int .i64 0, .int .i64 0]) 4 32 Try.underlying33 hi hz0 hz1 hz2 rfl (by decide) _ _ _ rfl (World.ownsRow.alloc HOw2.out _) ⟨_, 0, none⟩ 1 1 [.int .i64 i1, .int .i64 i2, .int .i64 i3, .int .i64 i4] rfl rfl (cell_four_new _ _ hsY.symm _ _ _ _ _) (fun u hu => by simp at hu; rcases hu with rfl | rfl | rfl | rfl <;> rfl) (by have := HPl.out; unfold maxLen; omega) (by have := HPl.out; omega) (by simp; omega) ?_
           intro v' w3 hown' hg3 _
           have HO3 := hid hown'
           have hcut : w3.heap[C]? = some (.cells #[.slice ad pre.length cc] 33) := by
             have h1 := HVc.out
             rw [List.length_map] at h1
             refine ((hg3.block C (by simp; omega) (fun e => ?_)).trans (Below.heap_alloc _ _ _ (by omega))).trans h1
             have := (HDw.out C (by rw [List.length_map]; exact e.symm)).1
             omega
           have e4 := cell_of_heap hcut 0
           have z4 := frozen_of_heap hcut 0
           simp at e4
           have HG3 := hid hg3
           have HCt := hid hcut
           clear hown' hg3 hcut
           obtain ⟨ad2, cc2, rfl⟩ : ∃ ad2 cc2, v' = .slice ad2 (pre.length + 1) cc2 := by
             obtain ⟨-, ⟨rfl, h0⟩ | ⟨g, cap, cur, rfl, -⟩⟩ := HO3.out
             · omega
             · exact ⟨_, _, rfl⟩))
      have kq : ∀ q, q < C + 4 → w3.heap[q]? = Y.heap[q]? := fun q hq => (HG3.out.block q (by simp; omega) (fun e => by
        have := (HDw.out q (by rw [List.length_map]; exact e.symm)).1
        omega)).trans (Below.heap_alloc _ _ _ (by omega))
      have hs3 : Y.heap.size ≤ w3.heap.size := by
        have := HG3.out.size
        simp at this
        omega
      have ks : ∀ q, q < C + 4 → q ≠ C → (w3.setCell ⟨C, 0, none⟩ (.slice ad2 (pre.length + 1) cc2)).heap[q]? = Y.heap[q]? := fun q hq hne => (Below.heap_setCell w3 ⟨C, 0, none⟩ _ q hne).trans (kq q hq)
      have hzz : (w3.setCell ⟨C, 0, none⟩ (.slice ad2 (pre.length + 1) cc2)).heap.size = w3.heap.size := by simp [World.setCell]
      have hfirst := HRY.out.first
      refine ⟨⟨ks _ (by omega) (by omega), ks _ (by omega) (by omega), ks _ (by omega) (by omega), ks _ (by omega) (by omega), by omega⟩, ⟨(ks _ (by omega) (by omega)).trans HRY.out.r2, (ks _ (by omega) (by omega)).trans HRY.out.r3, ⟨_, box1_set HCt.out _, ?_⟩, fun x hx => ?_, ⟨?_, ?_, ?_, by have := HRY.out.below.size; omega, fun q hq => (ks q (by omega) (by omega)).trans (HRY.out.below.block q hq)⟩, by omega, hfirst⟩⟩
      · refine owns_same (X := w3) ?_ (fun q hq _ => Below.heap_setCell w3 ⟨C, 0, none⟩ _ q (by dsimp only; omega))
        unfold OwnsI
        rw [List.map_append, List.length_append, List.length_map]
        have e : insRow (pre.map Prod.fst ++ [(⟨i1, i2, i3, i4⟩, true)].map Prod.fst) = insRow (pre.map Prod.fst) ++ [.int .i64 i1, .int .i64 i2, .int .i64 i3, .int .i64 i4] := by
          unfold insRow
          rw [List.flatMap_append]
          rfl
        rw [e]
        exact HO3.out
      · rcases List.mem_append.1 hx with hx | hx
        · exact HRY.out.all x hx
        · rw [List.mem_singleton] at hx
          rw [hx]
      · exact HG3.out.os.trans HRY.out.below.os
      · exact HG3.out.tape.trans HRY.out.below.tape
      · exact HG3.out.output.trans HRY.out.below.output
  case hdone =>
    intro X hR hD hX
    obtain ⟨c, hpc, htl⟩ : ∃ c, parse rest = some c ∧ tells rest = c.map (fun i => (i, true)) := by
      rcases tells_parse rest.length rest (Nat.le_refl _) with h | ⟨-, c, i, h⟩
      · exact h
      · have h1 := hR.all (i, false) (by rw [h]; exact List.mem_append_right _ List.mem_cons_self)
        cases h1
    obtain ⟨vc, hvc, how⟩ := hR.cb
    rw [htl, List.map_map, show (Prod.fst ∘ fun i : In => (i, true)) = id from rfl, List.map_id] at how
    have hZc : Z = if codeOkZ c then some c else none := by
      rw [← HZ.out]
      unfold readZ
      rw [if_neg (by have := HLn.out; have := HH.out; simp only [not_or, Nat.not_lt]; exact ⟨by omega, fun h => h this⟩), hrest, hpc]
    have HZc := hid hZc
    obtain ⟨ad, cc, rfl⟩ := (owns_slice how).2
    have HLo := hid (insListOk_any X how)
    have HR2 := hid hR.r2
    have HR3 := hid hR.r3
    have HRb := hid hR.below
    have HD := hid hD
    have HVc := hid hvc
    have HOw := hid how
    have hf1 := HF1.out
    have e2 := cell_of_heap hvc 0
    have z2 := frozen_of_heap hvc 0
    simp at e2
    clear hR hD hvc how hr2 hr3 hC6' hB6 hbw6 hZc htl
    generalize c.length = cl at *
    gi_wp2_with fail
    refine ⟨trivial, rfl, (callsIn_wide.2 HLo.out).mono ?_⟩
    rintro e X2 ⟨rfl, hb2⟩
    have hD2 := (hb2.block _ (heap_lt HD.out)).trans HD.out
    have h2 := (hb2.block _ (heap_lt HR2.out)).trans HR2.out
    have h3 := (hb2.block _ (heap_lt HR3.out)).trans HR3.out
    have hc2 := (hb2.block _ (heap_lt HVc.out)).trans HVc.out
    have how2 := owns_same HOw.out (fun q _ hq => hb2.block q hq)
    have hbb := HRb.out.trans (hb2.mono HRb.out.size)
    have d2 := cell_of_heap h2 0
    have d3 := cell_of_heap h3 0
    have d4 := cell_of_heap hc2 0
    have z3 := frozen_of_heap h2 0
    have z4 := frozen_of_heap h3 0
    simp at d2 d3 d4
    have H2 := hid h2
    have H3 := hid h3
    have HD2 := hid hD2
    have HO2 := hid how2
    have HB2 := hid hbb
    clear h2 h3 hD2 how2 hbb hc2 hb2 HR2 HR3 HD HVc HOw HRb HLo e2 z2
    cases hok : codeOkZ c with
    | false =>
      have hZn : Z = none := by rw [HZc.out, hok]; rfl
      subst hZn
      gi_wp2_with fail
      obtain ⟨s2, s3, sb⟩ := set_two H2.out H3.out HB2.out (.slice none 0 0) (.bool false)
      refine ⟨by simp, .inl ⟨_, _, rfl, run_takeDeferred (by rw [Below.heap_setCell _ _ _ _ (by dsimp only; omega), Below.heap_setCell _ _ _ _ (by dsimp only; omega)]; exact HD2.out), none_told rfl rfl ((World.putObj_heap_other (by omega)).trans s2) ((World.putObj_heap_other (by omega)).trans s3) ?_⟩⟩
      exact below_put sb (by omega) _
    | true =>
      have hZn : Z = some c := by rw [HZc.out, hok]; rfl
      subst hZn
      gi_wp2_with fail
      obtain ⟨s2, s3, sb⟩ := set_two H2.out H3.out HB2.out (.slice ad cl cc) (.bool true)
      refine ⟨by simp, .inl ⟨_, _, rfl, run_takeDeferred (by rw [Below.heap_setCell _ _ _ _ (by dsimp only; omega), Below.heap_setCell _ _ _ _ (by dsimp only; omega)]; exact HD2.out), ⟨_, results_two rfl _ _ _ rfl rfl (load_ins ((World.putObj_heap_other (by omega)).trans s2)) (load_ok ((World.putObj_heap_other (by omega)).trans s3)), ⟨_, rfl, ?_⟩, below_put sb (by omega) _⟩⟩⟩
      exact owns_low (by omega) (owns_same HO2.out (fun q hq _ => (World.putObj_heap_other (by omega)).trans ((Below.heap_setCell _ _ _ _ (by dsimp only; omega)).trans (Below.heap_setCell _ _ _ _ (by dsimp only; omega)))))
  case hstop =>
    intro pre X hpost hR hD hX
    have hZn : Z = none := by
      rw [← HZ.out]
      apply read_none
      rw [hrest]
      rcases tells_parse rest.length rest (Nat.le_refl _) with ⟨c, -, h⟩ | ⟨h, -⟩
      · obtain ⟨x, hx, hx2⟩ := hR.one
        obtain ⟨post, hp⟩ := hpost
        have h1 : x ∈ tells rest := by rw [hp]; exact List.mem_append_left _ hx
        rw [h] at h1
        obtain ⟨i, -, rfl⟩ := List.mem_map.1 h1
        cases hx2
      · exact h
    subst hZn
    clear hr2 hr3 hC6' hB6 hbw6
    gi_wp2_with fail
    refine ⟨by simp, .inl ⟨_, _, rfl, run_takeDeferred hD, none_told rfl rfl ((World.putObj_heap_other (by omega)).trans hR.r2) ((World.putObj_heap_other (by omega)).trans hR.r3) ?_⟩⟩
    exact below_put hR.below (by omega) _
end Go.Proofs.Ytmjcifaihmecmaa
