/- The program tells what roots lead to: words, lists of words. -/
import Derived.Test.YtnoobonlmfgfhaaGraphPure
import Derived.Test.YtnoobonlmfgfhaaImplHeapF
import Derived.Test.YtnoobonlmfgfhaaHeapArgs
import Derived.Test.YtnoobonlmfgfhaaStagesC
import Derived.Maps.AppendAt
import Derived.BigQuiet
namespace Go.Proofs.Ytnoobonlmfgfhaa
open Go.RowKit

/-- Words that are read wherever. -/
structure Wds (b off N : Nat) (ws : List Int) (W : World) : Prop where
  len : ws.length = N
  lt : b < W.heap.size
  cells : ∀ k, k < N → W.cell? ⟨b, off + k, none⟩ = some (.int .i64 (ws.getD k 0))

theorem Wds.below {b off N : Nat} {ws : List Int} {W W' : World} (d : Wds b off N ws W) (h : Below W.heap.size W W') : Wds b off N ws W' :=
  ⟨d.len, Nat.lt_of_lt_of_le d.lt h.size, fun k hk => (h.cell (p := ⟨b, off + k, none⟩) d.lt).trans (d.cells k hk)⟩

set_option maxHeartbeats 1000000 in
set_option maxRecDepth 100000 in
theorem settled_calls {b off N cap a : Nat} {ws S : List Int} {h : HpN} (ok : OkHeap ws S h) (w : World) (d : Wds b off N ws w) (hN : N ≤ 8000) (hS : S.getD a 0 ≠ 0) :
    Calls Try.prog 92 #[.slice (some ⟨b, off, none⟩) N cap, .int .i64 (a : Int)] w fun e w' => e = .returned (.int .i64 (nowZ ws a : Nat)) ∧ Below w.heap.size w w' := by
  have hn := ok.noted.2 a hS
  have haN : a < N := by rw [← d.len]; exact hn.1
  have hsz : sizeZ (ws.getD a 0) ≠ 0 := by rw [← hn.2.1]; exact hS
  have HO := hid (objectAt_calls b off N cap a (ws.getD a 0) w haN d.lt (d.cells a haN))
  have hd := (heads_noted ok.noted).2 a hS
  have ha1 : a + 1 < N := by rw [← d.len]; have := hn.2.2; have := hn.2.1; unfold sizeN at *; omega
  have HC := hid (fun (W' : World) (hb : Below w.heap.size w W') => (d.below hb).cells (a + 1) ha1)
  have hko : kindOr (ws.getD a 0) = ws.getD a 0 % 16 := by unfold kindOr; rw [if_neg hsz]
  rw [hko] at HO
  obtain ⟨sz, hszl⟩ : ∃ sz, sizeZ (ws.getD a 0) = sz := ⟨_, rfl⟩
  rw [hszl] at HO
  obtain ⟨ai, hai⟩ : ∃ ai : Int, (a : Int) = ai := ⟨_, rfl⟩
  rw [hai] at HO ⊢
  by_cases hk : ws.getD a 0 % 16 = 15
  · have e := at_ok ok hS
    unfold specAt at e
    rw [if_pos hk] at e
    unfold specMoved at e
    rw [Bool.and_eq_true, Bool.and_eq_true, Bool.and_eq_true, decide_eq_true_eq, decide_eq_true_eq] at e
    obtain ⟨⟨⟨-, e1⟩, e2⟩, -⟩ := e
    obtain ⟨a1, a2, a3, a4⟩ := specLeads_at e2 e1
    have hnow : ((nowZ ws a : Nat) : Int) = ws.getD (a + 1) 0 / 8 := by
      unfold nowZ
      rw [if_pos hk]
      omega
    rw [hnow]
    rw [hk] at HO
    obtain ⟨y, hy⟩ : ∃ y, ws.getD (a + 1) 0 = y := ⟨_, rfl⟩
    rw [hy] at HC ⊢
    have HNu := hid (fun W => implNum_calls y W)
    unfold numZ at HNu
    have hw : wrap64 (ai + 1) = ai + 1 := by unfold wrap64; omega
    have hti : (ai + 1).toNat = a + 1 := by omega
    have hlt : ai + 1 < (N : Int) := by omega
    have h0 : 0 ≤ ai + 1 := by omega
    have HB := hid d.lt
    clear hn haN hsz hd ha1 hko hszl hai hk e1 e2 a1 a2 a3 a4 hnow hy d hN hS ok
    go_enter Try.func92, Try.ntmps92
    go_wp2_with fail
    refine HO.out.mono ?_
    rintro e W1 ⟨rfl, hb1⟩
    have q0 := HC.out W1 hb1
    have HB1 := hid hb1
    clear hb1 HO HC
    go_wp2_with fail
    refine (HNu.out _).mono ?_
    rintro e W2 ⟨rfl, rfl⟩
    go_wp2_with fail
    go_ret
    exact ⟨rfl, HB1.out⟩
  · have hnow : nowZ ws a = a := by
      unfold nowZ
      rw [if_neg hk]
    rw [hnow, hai]
    obtain ⟨kd, hkd⟩ : ∃ kd, ws.getD a 0 % 16 = kd := ⟨_, rfl⟩
    rw [hkd] at HO hk
    have hkb : (kd == 15) = false := by simpa using hk
    clear hn haN hsz hd ha1 hko hszl hai hkd hnow d hN hS ok HC
    go_enter Try.func92, Try.ntmps92
    go_wp2_with fail
    refine HO.out.mono ?_
    rintro e W1 ⟨rfl, hb1⟩
    have HB1 := hid hb1
    clear hb1 HO
    go_wp2_with fail
    go_ret
    exact ⟨rfl, HB1.out⟩

/-- The cells of addresses met. -/
def metCells (met : List Nat) : List Value := met.map (fun a : Nat => Value.int .i64 (a : Int))

/-- One who tells what is met: a copy of the heap, the places of addresses, the addresses. -/
structure Gph (B bg bp N : Nat) (vw : Value) (h : HpN) (met : List Nat) (vm : Value) (W : World) : Prop where
  blk : W.heap[bg]? = some (.cells #[vw, .int .i64 h.size, .int .i64 h.to, .int .i64 h.bottom, .int .i64 h.top, .int .i64 h.scan, .int .i64 h.fb, .int .i64 h.ft, .int .i64 h.flips, .int .i64 h.touched, .slice (some ⟨bp, 0, none⟩) N N, vm] 83)
  places : CellRow 3 W bp N (fun a => .int .i64 (placeZ met a + 1))
  row : W.ownsRow B 3 1 vm met.length (metCells met)
  ne : bp ≠ bg
  n1 : vm.ownBlock ≠ some bg
  n2 : vm.ownBlock ≠ some bp
  b1 : B ≤ bg
  b2 : B ≤ bp

/-- All that was there is as it was, but for what one who tells has of his own. -/
structure FrmG (W : World) (bg bp : Nat) (vm : Value) (W' : World) : Prop where
  os : W'.os = W.os
  tape : W'.tape = W.tape
  output : W'.output = W.output
  size : W.heap.size ≤ W'.heap.size
  block : ∀ g, g < W.heap.size → g ≠ bg → g ≠ bp → vm.ownBlock ≠ some g → W'.heap[g]? = W.heap[g]?

theorem FrmG.refl (W : World) (bg bp : Nat) (vm : Value) : FrmG W bg bp vm W := ⟨rfl, rfl, rfl, Nat.le_refl _, fun _ _ _ _ _ => rfl⟩

theorem FrmG.of_below {W W' : World} (h : Below W.heap.size W W') (bg bp : Nat) (vm : Value) : FrmG W bg bp vm W' := ⟨h.os, h.tape, h.output, h.size, fun g hg _ _ _ => h.block g hg⟩

/-- Where the addresses lie now: where they lay, or in new memory. -/
def MovedTo (W : World) (vm vm' : Value) : Prop := vm'.ownBlock = vm.ownBlock ∨ ∃ g, vm'.ownBlock = some g ∧ W.heap.size ≤ g

theorem FrmG.trans {W W1 W2 : World} {bg bp : Nat} {vm vm1 : Value} (f : FrmG W bg bp vm W1) (hm : MovedTo W vm vm1) (k : FrmG W1 bg bp vm1 W2) : FrmG W bg bp vm W2 :=
  ⟨k.os.trans f.os, k.tape.trans f.tape, k.output.trans f.output, Nat.le_trans f.size k.size, fun g hg h1 h2 h3 => (k.block g (Nat.lt_of_lt_of_le hg f.size) h1 h2 (fun e => by
    rcases hm with h | ⟨g', h, hl⟩
    · exact h3 (h.symm.trans e)
    · rw [e] at h
      cases h
      omega)).trans (f.block g hg h1 h2 h3)⟩

theorem MovedTo.trans {W W1 : World} {vm vm1 vm2 : Value} (hs : W.heap.size ≤ W1.heap.size) (h : MovedTo W vm vm1) (k : MovedTo W1 vm1 vm2) : MovedTo W vm vm2 := by
  rcases k with k | ⟨g, k, hl⟩
  · rcases h with h | ⟨g, h, hl⟩
    · exact Or.inl (k.trans h)
    · exact Or.inr ⟨g, k.trans h, hl⟩
  · exact Or.inr ⟨g, k, by omega⟩

theorem FrmG.wds {W W' : World} {bg bp b off N B : Nat} {vm : Value} {ws : List Int} (f : FrmG W bg bp vm W') (d : Wds b off N ws W) (hb : b < B) (h1 : B ≤ bg) (h2 : B ≤ bp) (h3 : ∀ g, vm.ownBlock = some g → B ≤ g) : Wds b off N ws W' := by
  have e := f.block b d.lt (by omega) (by omega) (fun e => by have := h3 b e; omega)
  exact ⟨d.len, Nat.lt_of_lt_of_le d.lt f.size, fun k hk => (World.cell?_of_block (w := W) e).trans (d.cells k hk)⟩

theorem Gph.keep {B bg bp N : Nat} {vw vm : Value} {h : HpN} {met : List Nat} {W W' : World} (g : Gph B bg bp N vw h met vm W) (hb : Below W.heap.size W W') : Gph B bg bp N vw h met vm W' :=
  ⟨(hb.block _ (heap_lt g.blk)).trans g.blk, g.places.of_block (hb.block _ g.places.lt), kept_owns g.row hb, g.ne, g.n1, g.n2, g.b1, g.b2⟩

/-- What telling a word comes to. -/
def TellPost (W : World) (B bg bp N : Nat) (vw : Value) (h : HpN) (vm : Value) (r : List Nat × Int) (e : Ending) (w' : World) : Prop :=
  e = .returned (.int .i64 r.2) ∧ ∃ vm', Gph B bg bp N vw h r.1 vm' w' ∧ FrmG W bg bp vm w' ∧ MovedTo W vm vm'

theorem row_set' {t : TypeId} {W : World} {g n : Nat} {F : Nat → Value} (hr : CellRow t W g n F) (i : Nat) (x : Value) : CellRow t (W.setCell ⟨g, i, none⟩ x) g n (fun j => if j = i then x else F j) := by
  obtain ⟨N', f, hrow, hN', hf⟩ := hr
  refine ⟨N', _, hrow.set i x, hN', fun j hj => ?_⟩
  dsimp only
  split
  · rfl
  · exact hf j hj

theorem owns_of_block {B : Nat} {W W' : World} {vm : Value} {n : Nat} {xs : List Value} (h : W.ownsRow B 3 1 vm n xs) (e : ∀ g, vm.ownBlock = some g → W'.heap[g]? = W.heap[g]?) : W'.ownsRow B 3 1 vm n xs := by
  obtain ⟨h0, ⟨rfl, h1⟩ | ⟨g, cap, cur, rfl, hB, hc, hr⟩⟩ := h
  · exact ⟨h0, Or.inl ⟨rfl, h1⟩⟩
  · exact ⟨h0, Or.inr ⟨g, cap, cur, rfl, hB, (e g (by simp [Value.ownBlock])).trans hc, hr⟩⟩

theorem owns_at {B : Nat} {W : World} {vm : Value} {n : Nat} {xs : List Value} (h : W.ownsRow B 3 1 vm n xs) : (∀ g, vm.ownBlock = some g → B ≤ g ∧ g < W.heap.size) ∧ ∃ ad c, vm = .slice ad n c := by
  obtain ⟨-, ⟨rfl, h0⟩ | ⟨g, cap, cur, rfl, hB, hc, -⟩⟩ := h
  · exact ⟨fun g e => by simp [Value.ownBlock] at e, none, 0, by rw [h0]⟩
  · refine ⟨fun g' e => ?_, _, cap, rfl⟩
    simp [Value.ownBlock] at e
    subst e
    exact ⟨hB, heap_lt hc⟩

set_option maxHeartbeats 4000000 in
set_option maxRecDepth 100000 in
theorem tell_calls {B bg bp b off N cap : Nat} {ws S : List Int} {h : HpN} {met : List Nat} {vm : Value} (ok : OkHeap ws S h) (x : Int) (W : World) (g : Gph B bg bp N (.slice (some ⟨b, off, none⟩) N cap) h met vm W) (d : Wds b off N ws W) (hN : N ≤ 8000) (hx : Leads ws S x) (hm : Met ws S met) :
    Calls Try.prog 88 #[.pointer (some ⟨bg, 0, none⟩), .int .i64 x] W (TellPost W B bg bp N (.slice (some ⟨b, off, none⟩) N cap) h vm (tellZ ws met x)) := by
  have HTg := hid (fun w => implTag_calls x w)
  unfold tagZ at HTg
  unfold tellZ
  by_cases hx8 : x % 8 = 0
  case neg =>
    rw [if_neg hx8]
    have hne : (x % 8 != 0) = true := by simpa using hx8
    have HG := hid g
    obtain ⟨t8, ht8⟩ : ∃ t8, x % 8 = t8 := ⟨_, rfl⟩
    rw [ht8] at HTg hne hx8
    clear g d hx hm hN ht8
    go_enter Try.func88, Try.ntmps88
    go_wp2_with fail
    refine (HTg.out _).mono ?_
    rintro e W1 ⟨rfl, rfl⟩
    go_wp2_with fail
    go_ret
    exact ⟨rfl, vm, HG.out, FrmG.refl _ _ _ _, Or.inl rfl⟩
  rw [if_pos hx8]
  rw [hx8] at HTg
  obtain ⟨x0, x1, hS⟩ := hx hx8
  obtain ⟨a, ha⟩ : ∃ a, (x / 8).toNat = a := ⟨_, rfl⟩
  rw [ha] at hS ⊢
  have hxa : x / 8 = (a : Int) := by omega
  have hnode := now_node ok hx hx8
  rw [ha] at hnode
  have hnn := ok.noted.2 _ hnode.here
  have HSe := hid (fun w' (hb : Below W.heap.size W w') => settled_calls (cap := cap) (a := a) ok w' (d.below hb) hN hS)
  obtain ⟨c, hc⟩ : ∃ c, nowZ ws a = c := ⟨_, rfl⟩
  rw [hc] at hnn HSe hnode ⊢
  obtain ⟨r, hr⟩ : ∃ r, (if c ∈ met then (met, 8 * (met.idxOf c : Int)) else (met ++ [c], 8 * (met.length : Int))) = r := ⟨_, rfl⟩
  rw [hr]
  have HRi : Hid (c ∈ met → r = (met, 8 * (met.idxOf c : Int))) := fun h => by rw [← hr, if_pos h]
  have HRo : Hid (¬ c ∈ met → r = (met ++ [c], 8 * (met.length : Int))) := fun h => by rw [← hr, if_neg h]
  clear hr
  have hcN : c < N := by rw [← d.len]; exact hnn.1
  have HNu := hid (fun w => implNum_calls x w)
  unfold numZ at HNu
  rw [hxa] at HNu
  have hsh := hm.short ok
  have HSh : Hid (met.length ≤ 8000) := by rw [d.len] at hsh; show _ ≤ _; omega
  clear hnode hnn hxa ha hS x0 x1 hx hc
  obtain ⟨g1, g2, g3, g4, g5, g6, g7, g8, g9⟩ := h
  have v0 : ∀ y : Later W.heap.size W, y.w.cell? ⟨bg, 0, none⟩ = some (.slice (some ⟨b, off, none⟩) N cap) := fun y => y.cell (heap_lt g.blk) (by rw [cell_of_heap g.blk]; rfl)
  obtain ⟨ci, hci⟩ : ∃ ci : Int, (c : Int) = ci := ⟨_, rfl⟩
  obtain ⟨ai, hai⟩ : ∃ ai : Int, (a : Int) = ai := ⟨_, rfl⟩
  rw [hai] at HNu
  rw [hci, hai] at HSe
  have Hci := hid hci
  have HG := hid g
  have HM := hid hm
  have HD := hid d
  have HHd := hid hsh
  clear g d hm hN hci hai hsh
  go_enter Try.func88, Try.ntmps88
  go_wp2_with fail
  refine (HTg.out _).mono ?_
  rintro e W1 ⟨rfl, rfl⟩
  go_wp2_with fail
  refine wp_region_calm W.heap.size (by kernel_rfl) (by kernel_rfl) ?_
  repeat (go_big_quiet_step (first
    | (rename_i y; go_at_call 54; refine (HNu.out _).mono ?_; rintro e w5 ⟨rfl, rfl⟩; exact ⟨rfl, y, rfl⟩)
    | (rename_i y; go_at_call 92; refine (HSe.out _ y.h).mono ?_; rintro e w5 ⟨rfl, hb5⟩; exact ⟨rfl, ⟨w5, y.h.trans (hb5.mono y.h.size)⟩, rfl⟩)))
  refine wpQuiet_nil ?_
  rintro w6 ⟨y, rfl⟩
  have HG2 := hid (HG.out.keep y.h)
  have HF2 := hid (FrmG.of_below y.h bg bp vm)
  generalize y.w = W2 at *
  clear y v0 HG HSe HNu HTg
  have c10 : W2.cell? ⟨bg, 10, none⟩ = some (.slice (some ⟨bp, 0, none⟩) N N) := by rw [cell_of_heap HG2.out.blk]; rfl
  have c11 : W2.cell? ⟨bg, 11, none⟩ = some vm := by rw [cell_of_heap HG2.out.blk]; rfl
  have f11 := frozen_of_heap HG2.out.blk 11
  have q0 := HG2.out.places.cell (i := c) hcN
  have hct : ci.toNat = c := by have := Hci.out; omega
  have hc0 : 0 ≤ ci := by have := Hci.out; omega
  have hcl : ci < (N : Int) := by have := Hci.out; omega
  have hpr := placeZ_range (met := met) (a := c)
  obtain ⟨p1, hp1⟩ : ∃ p1, placeZ met c + 1 = p1 := ⟨_, rfl⟩
  rw [hp1] at q0
  have Hp1 := hid hp1
  clear hp1
  by_cases hin : c ∈ met
  · have hne : (p1 == 0) = false := by
      have h1 : ¬ placeZ met c < 0 := fun e => (placeZ_neg.1 e) hin
      have := Hp1.out
      simp
      omega
    have hix := List.idxOf_lt_length_of_mem hin
    have hpv : placeZ met c = (met.idxOf c : Int) := by unfold placeZ; rw [if_pos hin]
    have hw : wrap64 (p1 - 1) = p1 - 1 := by have := Hp1.out; have := HSh.out; unfold wrap64; omega
    have HMk := hid (fun w => implMake_calls 0 (p1 - 1) w)
    have HMv : Hid (makeZ 0 (p1 - 1) = 8 * (met.idxOf c : Int)) := by
      have := Hp1.out
      have := HSh.out
      show _ = _
      rw [show p1 - 1 = (met.idxOf c : Int) by omega]
      unfold makeZ wrap64
      simp
      omega
    rw [HMv.out] at HMk
    have HRe := hid (HRi.out hin)
    clear hix hpv hpr HRi HRo HMv
    go_wp2_with fail
    refine (HMk.out _).mono ?_
    rintro e W3 ⟨rfl, rfl⟩
    go_wp2_with fail
    go_ret
    rw [HRe.out]
    exact ⟨rfl, vm, HG2.out, HF2.out, Or.inl rfl⟩
  · have hpz : p1 = 0 := by
      have h1 := placeZ_neg.2 hin
      have := Hp1.out
      omega
    subst hpz
    have HRe := hid (HRo.out hin)
    have HPn := hid (fun a => placeZ_new (met := met) hin a)
    obtain ⟨-, ad, cm, rfl⟩ := owns_at HG2.out.row
    have hL2 : bg < W2.heap.size := heap_lt HG2.out.blk
    have hP2 : bp < W2.heap.size := HG2.out.places.lt
    obtain ⟨i0, hi, hz0, hz1, hz2⟩ := info_parts info_int
    have hK := (Below.refl W2.heap.size W2).alloc (Nat.le_refl _) (.cells #[.int .i64 ci] 3)
    have hE : (W2.alloc (.cells #[.int .i64 ci] 3)).heap[W2.heap.size]? = some (.cells #[.int .i64 ci] 3) := (MapKept.heap_alloc W2 _).1
    have hB2 : B ≤ (W2.alloc (.cells #[.int .i64 ci] 3)).heap.size := by have := HG2.out.b1; simp; omega
    have HK := hid hK
    have HE := hid hE
    have HB2 := hid hB2
    clear hK hE hB2
    have hlen8 := HSh.out
    go_wp2_with (first
      | (at_builtin; refine wpList_append_own_at _ rfl _ _ 22 rfl B 3 i0 (.int .i64 0) 1 8 Try.underlying22 hi hz0 hz1 hz2 rfl (by decide) (.slice ad met.length cm) met.length (metCells met) rfl (kept_owns HG2.out.row HK.out) ⟨W2.heap.size, 0, none⟩ 1 1 [.int .i64 ci] rfl rfl (fun j u hu => ?_) (fun u hu => ?_) (by unfold maxLen; omega) (by omega) HB2.out ?_))
    · cases j with
      | zero =>
        simp at hu
        subst hu
        exact (cell_of_heap HE.out 0)
      | succ j => simp at hu
    · simp at hu
      subst hu
      rfl
    intro v' W3 hown hgrow hnil hat
    obtain ⟨gos, gtape, gout, gsz, gblk⟩ := hgrow
    have hsA : (W2.alloc (.cells #[.int .i64 ci] 3)).heap.size = W2.heap.size + 1 := by simp
    rw [hsA] at gsz gblk
    have e3 := (gblk bg (by omega) HG2.out.n1.symm).trans ((HK.out.block bg hL2).trans HG2.out.blk)
    have eP := (gblk bp (by omega) HG2.out.n2.symm).trans (HK.out.block bp hP2)
    have HP3 := hid (HG2.out.places.of_block eP)
    have HF3 : Hid (FrmG W2 bg bp (.slice ad met.length cm) W3) := ⟨gos.trans HK.out.os, gtape.trans HK.out.tape, gout.trans HK.out.output, by omega, fun g hg _ _ h3 => (gblk g (by omega) (Ne.symm h3)).trans (HK.out.block g hg)⟩
    have HMv : Hid (MovedTo W2 (.slice ad met.length cm) v') := by
      rcases hat with h | h
      · exact Or.inl h
      · exact Or.inr ⟨_, h, by omega⟩
    obtain ⟨hvB, ad', cm', rfl⟩ := owns_at hown
    have HOw := hid hown
    have HN1 : Hid ((Value.slice ad' (met.length + 1) cm').ownBlock ≠ some bg ∧ (Value.slice ad' (met.length + 1) cm').ownBlock ≠ some bp) := by
      constructor
      · intro e
        rcases hat with h | h
        · exact HG2.out.n1 (h.symm.trans e)
        · rw [e] at h
          cases h
          omega
      · intro e
        rcases hat with h | h
        · exact HG2.out.n2 (h.symm.trans e)
        · rw [e] at h
          cases h
          omega
    have d11 : W3.cell? ⟨bg, 11, none⟩ = some (.slice ad met.length cm) := by rw [cell_of_heap e3]; rfl
    have f11' := frozen_of_heap e3 11
    have e4 := set_cells e3 11 (.slice ad' (met.length + 1) cm')
    have HE4 : Hid ((W3.setCell ⟨bg, 11, none⟩ (.slice ad' (met.length + 1) cm')).heap[bg]? = some (.cells #[.slice (some ⟨b, off, none⟩) N cap, .int .i64 g1, .int .i64 g2, .int .i64 g3, .int .i64 g4, .int .i64 g5, .int .i64 g6, .int .i64 g7, .int .i64 g8, .int .i64 g9, .slice (some ⟨bp, 0, none⟩) N N, .slice ad' (met.length + 1) cm'] 83)) := by simpa [Hid] using e4
    have HO4 : Hid (∀ g, g ≠ bg → (W3.setCell ⟨bg, 11, none⟩ (.slice ad' (met.length + 1) cm')).heap[g]? = W3.heap[g]?) := fun g hg => Below.heap_setCell W3 ⟨bg, 11, none⟩ _ g hg
    have HSz : Hid (W3.heap.size = (W3.setCell ⟨bg, 11, none⟩ (.slice ad' (met.length + 1) cm')).heap.size) := by show _ = _; simp [World.setCell]
    have HW4 : Hid ((W3.setCell ⟨bg, 11, none⟩ (.slice ad' (met.length + 1) cm')).os = W3.os ∧ (W3.setCell ⟨bg, 11, none⟩ (.slice ad' (met.length + 1) cm')).tape = W3.tape ∧ (W3.setCell ⟨bg, 11, none⟩ (.slice ad' (met.length + 1) cm')).output = W3.output) := ⟨rfl, rfl, rfl⟩
    clear hown hat gos gtape gout gsz gblk hnil hsA e3 eP e4 hvB HK HE HB2 c10 c11 f11 q0 hi hz0 hz1 hz2
    go_wp2_with fail
    generalize W3.setCell ⟨bg, 11, none⟩ (.slice ad' (met.length + 1) cm') = W4 at *
    have hne := HG2.out.ne
    have HP4 := hid (HP3.out.of_block (HO4.out bp hne))
    have c10 : W4.cell? ⟨bg, 10, none⟩ = some (.slice (some ⟨bp, 0, none⟩) N N) := by rw [cell_of_heap HE4.out]; rfl
    have c11 : W4.cell? ⟨bg, 11, none⟩ = some (.slice ad' (met.length + 1) cm') := by rw [cell_of_heap HE4.out]; rfl
    have q4 := HP4.out.cell (i := c) hcN
    obtain ⟨_, _, hrow, _, _⟩ := HP4.out
    have fq := hrow.frozen c hcN
    clear hrow d11 f11'
    obtain ⟨ml, hml⟩ : ∃ ml : Int, ((met.length + 1 : Nat) : Int) = ml := ⟨_, rfl⟩
    have Hml := hid hml
    have oth : ∀ (X : World) (j : Nat) (u : Value), (X.setCell ⟨bp, c, none⟩ u).cell? ⟨bg, j, none⟩ = X.cell? ⟨bg, j, none⟩ := fun X j u => World.cell?_setCell_other _ _ _ _ (fun e => hne (by cases e; rfl))
    go_region_held3 (fun w' => w'.cell? ⟨bg, 10, none⟩ = some (.slice (some ⟨bp, 0, none⟩) N N) ∧ w'.cell? ⟨bg, 11, none⟩ = some (.slice ad' (met.length + 1) cm')) (first | (exact ⟨c10, c11⟩) | (exact ⟨(oth _ _ _).trans c10, (oth _ _ _).trans c11⟩) | (simp [*]; done)) (fail)
    have q5 := row_set' HP4.out c (.int .i64 ml)
    have HP5 : Hid (CellRow 3 (W4.setCell ⟨bp, c, none⟩ (.int .i64 ml)).drew bp N (fun a => .int .i64 (placeZ (met ++ [c]) a + 1))) := by
      refine (q5.congr (fun j hj => ?_)).of_block rfl
      rw [HPn.out]
      by_cases h : j = c
      · rw [if_pos h, if_pos h, ← Hml.out]
        rfl
      · rw [if_neg h, if_neg h]
    have HB5 : Hid ((W4.setCell ⟨bp, c, none⟩ (.int .i64 ml)).drew.heap[bg]? = some (.cells #[.slice (some ⟨b, off, none⟩) N cap, .int .i64 g1, .int .i64 g2, .int .i64 g3, .int .i64 g4, .int .i64 g5, .int .i64 g6, .int .i64 g7, .int .i64 g8, .int .i64 g9, .slice (some ⟨bp, 0, none⟩) N N, .slice ad' (met.length + 1) cm'] 83)) := (Below.heap_setCell W4 ⟨bp, c, none⟩ _ bg (Ne.symm hne)).trans HE4.out
    have HO5 : Hid (∀ g, g ≠ bp → (W4.setCell ⟨bp, c, none⟩ (.int .i64 ml)).drew.heap[g]? = W4.heap[g]?) := fun g hg => Below.heap_setCell W4 ⟨bp, c, none⟩ _ g hg
    have HS5 : Hid (W4.heap.size = (W4.setCell ⟨bp, c, none⟩ (.int .i64 ml)).drew.heap.size) := by show _ = _; simp [World.setCell, World.drew]
    have HW5 : Hid ((W4.setCell ⟨bp, c, none⟩ (.int .i64 ml)).drew.os = W4.os ∧ (W4.setCell ⟨bp, c, none⟩ (.int .i64 ml)).drew.tape = W4.tape ∧ (W4.setCell ⟨bp, c, none⟩ (.int .i64 ml)).drew.output = W4.output) := ⟨rfl, rfl, rfl⟩
    clear q5 q4 fq c10 c11 oth
    generalize (W4.setCell ⟨bp, c, none⟩ (.int .i64 ml)).drew = W5 at *
    have c10 : W5.cell? ⟨bg, 10, none⟩ = some (.slice (some ⟨bp, 0, none⟩) N N) := by rw [cell_of_heap HB5.out]; rfl
    have q5 := HP5.out.cell (i := c) hcN
    have hpl : placeZ (met ++ [c]) c + 1 = ml := by rw [HPn.out, if_pos rfl, ← Hml.out]; rfl
    rw [hpl] at q5
    have hw : wrap64 (ml - 1) = ml - 1 := by have := Hml.out; have := HSh.out; unfold wrap64; omega
    have HMk := hid (fun w => implMake_calls 0 (ml - 1) w)
    have HMv2 : Hid (makeZ 0 (ml - 1) = 8 * (met.length : Int)) := by
      have := Hml.out
      have := HSh.out
      show _ = _
      rw [show ml - 1 = (met.length : Int) by omega]
      unfold makeZ wrap64
      simp
      omega
    rw [HMv2.out] at HMk
    have HFin : Hid (TellPost W B bg bp N (.slice (some ⟨b, off, none⟩) N cap) ⟨g1, g2, g3, g4, g5, g6, g7, g8, g9⟩ (.slice ad met.length cm) (met ++ [c], 8 * (met.length : Int)) (.returned (.int .i64 (8 * (met.length : Int)))) W5) := by
      refine ⟨rfl, .slice ad' (met.length + 1) cm', ⟨HB5.out, HP5.out, ?_, hne, HN1.out.1, HN1.out.2, HG2.out.b1, HG2.out.b2⟩, ?_, ?_⟩
      · refine owns_of_block (W := W3) ?_ (fun g hg => ?_)
        · have e := HOw.out
          unfold metCells at e ⊢
          rw [List.length_append, List.map_append]
          rw [← Hci.out] at e
          exact e
        · have h1 : g ≠ bg := fun e => HN1.out.1 (e ▸ hg)
          have h2 : g ≠ bp := fun e => HN1.out.2 (e ▸ hg)
          exact (HO5.out g h2).trans (HO4.out g h1)
      · refine HF2.out.trans (Or.inl rfl) ⟨HW5.out.1.trans (HW4.out.1.trans HF3.out.os), HW5.out.2.1.trans (HW4.out.2.1.trans HF3.out.tape), HW5.out.2.2.trans (HW4.out.2.2.trans HF3.out.output), ?_, fun g hg h1 h2 h3 => (HO5.out g h2).trans ((HO4.out g h1).trans (HF3.out.block g hg h1 h2 h3))⟩
        have e1 := HF3.out.size
        have e2 := HSz.out
        have e3 := HS5.out
        omega
      · exact MovedTo.trans HF2.out.size (Or.inl rfl) HMv.out
    clear hpl hml
    go_wp2_with fail
    refine (HMk.out _).mono ?_
    rintro e W6 ⟨rfl, rfl⟩
    go_wp2_with fail
    go_ret
    rw [HRe.out]
    exact HFin.out

theorem Gph.beside {B bg bp N : Nat} {vw vm : Value} {h : HpN} {met : List Nat} {W : World} (g : Gph B bg bp N vw h met vm W) {k : Nat} (h1 : k ≠ bg) (h2 : k ≠ bp) (h3 : vm.ownBlock ≠ some k) (i : Nat) (x : Value) : Gph B bg bp N vw h met vm (W.setCell ⟨k, i, none⟩ x) := by
  have e : ∀ j, j ≠ k → (W.setCell ⟨k, i, none⟩ x).heap[j]? = W.heap[j]? := fun j hj => Below.heap_setCell W ⟨k, i, none⟩ x j hj
  exact ⟨(e bg (Ne.symm h1)).trans g.blk, g.places.of_block (e bp (Ne.symm h2)), owns_of_block g.row (fun j hj => e j (fun e => h3 (e ▸ hj))), g.ne, g.n1, g.n2, g.b1, g.b2⟩

/-- Words of a list that are read wherever. -/
def ListAt (lb lo : Nat) (xs : List Int) (W : World) : Prop := (0 < xs.length → lb < W.heap.size) ∧ ∀ k, k < xs.length → W.cell? ⟨lb, lo + k, none⟩ = some (.int .i64 (xs.getD k 0))

/-- What telling a list comes to. -/
def TellsPost (W : World) (B bg bp N : Nat) (vw : Value) (h : HpN) (vm : Value) (m : Nat) (r : List Nat × List Int) (e : Ending) (w' : World) : Prop :=
  ∃ gt, e = .returned (.slice (some ⟨gt, 0, none⟩) m m) ∧ CellRow 3 w' gt m (intCells r.2) ∧ W.heap.size ≤ gt ∧ gt ≠ bg ∧ gt ≠ bp ∧ ∃ vm', Gph B bg bp N vw h r.1 vm' w' ∧ FrmG W bg bp vm w' ∧ MovedTo W vm vm' ∧ vm'.ownBlock ≠ some gt

theorem Gph.own_lt {B bg bp N : Nat} {vw vm : Value} {h : HpN} {met : List Nat} {W : World} (g : Gph B bg bp N vw h met vm W) {k : Nat} (e : vm.ownBlock = some k) : B ≤ k ∧ k < W.heap.size := (owns_at g.row).1 k e

set_option maxHeartbeats 4000000 in
set_option maxRecDepth 100000 in
theorem tellAll_calls {B bg bp b off N cap lb lo lc m : Nat} {ws S xs : List Int} {h : HpN} {met : List Nat} {vm : Value} (ok : OkHeap ws S h) (W : World) (g : Gph B bg bp N (.slice (some ⟨b, off, none⟩) N cap) h met vm W) (d : Wds b off N ws W) (hbB : b < B) (hN : N ≤ 8000) (hm : Met ws S met) (hml : xs.length = m) (hm20 : m ≤ 20) (hl : ListAt lb lo xs W) (hlB : 0 < xs.length → lb < B) (hx : ∀ i, i < xs.length → Leads ws S (xs.getD i 0)) :
    Calls Try.prog 62 #[.pointer (some ⟨bg, 0, none⟩), .slice (some ⟨lb, lo, none⟩) m lc] W (TellsPost W B bg bp N (.slice (some ⟨b, off, none⟩) N cap) h vm m (tellsRun ws xs m met)) := by
  obtain ⟨R, hR⟩ : ∃ R, tellsRun ws xs m met = R := ⟨_, rfl⟩
  rw [hR]
  have HR := hid hR
  have HTl := hid (fun (x : Int) (mt : List Nat) (v : Value) (X : World) (g : Gph B bg bp N (.slice (some ⟨b, off, none⟩) N cap) h mt v X) (d : Wds b off N ws X) (hx : Leads ws S x) (hm : Met ws S mt) => tell_calls ok x X g d hN hx hm)
  have HMt := hid (fun k (hk : k ≤ xs.length) => hm.tells ok hx k hk)
  have HX := hid hx
  have HG := hid g
  have HD := hid d
  have HL := hid hl
  have HML := hid hml
  have HM2 := hid hm20
  have hgb := heap_lt g.blk
  have hgp := g.places.lt
  have hb1 := g.b1
  have hb2 := g.b2
  obtain ⟨c, hcs, hmk⟩ := made_ints m (by omega) W
  have hrow := World.rowIs_alloc W c 3 (fun i => c.getD i undef) (fun i hi => by simp [hi])
  rw [hcs] at hrow
  have hK := (Below.refl W.heap.size W).alloc (Nat.le_refl _) (.cells c 3)
  have hsz : (W.alloc (.cells c 3)).heap.size = W.heap.size + 1 := by simp
  have HK := hid hK
  have HSz := hid hsz
  have HG1 := hid (g.keep hK)
  clear hR hN hx hm g d hl hml hm20 hK hsz ok
  go_enter Try.func62, Try.ntmps62
  go_wp2_with fail
  clear hmk
  generalize W.alloc (.cells c 3) = W1 at *
  have HRw := hid (rw_of_row hrow m)
  clear hrow hcs
  go_loopw [13] (fun i wr => ∃ (ii : Int) (k : Nat) (f : Nat → Value) (vk : Value), i = .int .i64 ii ∧ Hid (ii = (k : Int) ∧ k ≤ m) ∧ Hid (Rw wr W.heap.size 3 m f m) ∧ Hid (∀ j, j < k → f j = .int .i64 ((tellsRun ws xs k met).2.getD j 0)) ∧ Hid (Gph B bg bp N (.slice (some ⟨b, off, none⟩) N cap) h (tellsRun ws xs k met).1 vk wr) ∧ Hid (MovedTo W1 vm vk) ∧ Hid (∀ q, q < W1.heap.size → q ≠ W.heap.size → q ≠ bg → q ≠ bp → vm.ownBlock ≠ some q → wr.heap[q]? = W1.heap[q]?) ∧ Hid (wr.os = W1.os ∧ wr.tape = W1.tape ∧ wr.output = W1.output ∧ W1.heap.size ≤ wr.heap.size)) (fun i _ => m - (intOf i).toNat)
  case atStart => exact ⟨0, 0, _, vm, rfl, ⟨rfl, by omega⟩, HRw.out, fun j hj => by omega, HG1.out, Or.inl rfl, fun _ _ _ _ _ _ => rfl, ⟨rfl, rfl, rfl, Nat.le_refl _⟩⟩
  case round =>
    obtain ⟨ii, k, f, vk, rfl, HQ, HRo, HF, HGk, HMv, HBl, HOs⟩ := hrel
    clear HRw HG1
    have hi0 : 0 ≤ ii := by have := HQ.out; omega
    have HVg : Hid (vk.ownBlock ≠ some W.heap.size) := by
      intro e
      have hs := HSz.out
      rcases HMv.out with h | ⟨q, h, hq⟩
      · have := (HG.out.own_lt (h.symm.trans e)).2
        omega
      · rw [e] at h
        cases h
        omega
    have HVl : Hid (∀ q, q < B → vm.ownBlock ≠ some q) := fun q hq e => by
      have := (HG.out.own_lt e).1
      omega
    have HOld : Hid (∀ q, q < B → q < W.heap.size → wr.heap[q]? = W.heap[q]?) := fun q hq hqW => by
      have hs := HSz.out
      exact (HBl.out q (by omega) (by omega) (by omega) (by omega) (HVl.out q hq)).trans (HK.out.block q hqW)
    by_cases hlt : ii < (m : Int)
    · have hkm : k < m := by have := HQ.out; omega
      have hik : ii.toNat = k := by have := HQ.out; omega
      have hkx : k < xs.length := by have := HML.out; omega
      have q0 : wr.cell? ⟨lb, lo + k, none⟩ = some (.int .i64 (xs.getD k 0)) := (World.cell?_of_block (w := W) (HOld.out lb (hlB (Nat.lt_of_le_of_lt (Nat.zero_le _) hkx)) (HL.out.1 (by omega)))).trans (HL.out.2 k hkx)
      have hdk : Wds b off N ws wr := ⟨HD.out.len, by have := HOs.out.2.2.2; have := HSz.out; have := HD.out.lt; omega, fun j hj => (World.cell?_of_block (w := W) (HOld.out b hbB HD.out.lt)).trans (HD.out.cells j hj)⟩
      have HTk := hid (HTl.out (xs.getD k 0) _ _ wr HGk.out hdk (HX.out k hkx) (HMt.out k (by omega)).1)
      have HNx : Hid (tellsRun ws xs (k + 1) met = ((tellZ ws (tellsRun ws xs k met).1 (xs.getD k 0)).1, (tellsRun ws xs k met).2 ++ [(tellZ ws (tellsRun ws xs k met).1 (xs.getD k 0)).2])) := rfl
      have HLk := hid (HMt.out k (by omega)).2.2
      obtain ⟨x, hxk⟩ : ∃ x, xs.getD k 0 = x := ⟨_, rfl⟩
      rw [hxk] at q0 HTk HNx
      obtain ⟨mt, hmt⟩ : ∃ mt, (tellsRun ws xs k met).1 = mt := ⟨_, rfl⟩
      obtain ⟨ot, hot⟩ : ∃ ot, (tellsRun ws xs k met).2 = ot := ⟨_, rfl⟩
      rw [hmt, hot] at HNx
      rw [hmt] at HTk HGk
      rw [hot] at HF HLk
      obtain ⟨r, hr⟩ : ∃ r, tellZ ws mt x = r := ⟨_, rfl⟩
      rw [hr] at HNx HTk
      clear hxk hmt hot hr hdk
      have hs : Hid (m - (intOf (.int .i64 (ii + 1))).toNat < m - (intOf (.int .i64 ii)).toNat) := by show _ < _; simp only [intOf]; omega
      have hw : Hid (wrap64 (ii + 1) = ii + 1) := by show _ = _; have := HM2.out; unfold wrap64; omega
      go_wp2_with fail
      refine HTk.out.mono ?_
      rintro e W3 ⟨rfl, v2, hG2, hF2, hM2⟩
      have eR := hF2.block W.heap.size (by have := HOs.out.2.2.2; have := HSz.out; omega) (by omega) (by omega) HVg.out
      have HRo3 : Hid (Rw W3 W.heap.size 3 m f m) := HRo.out.of_block eR
      have q1 := HRo3.out.cell (i := k) hkm
      have z1 := HRo3.out.frozen k hkm
      have HG3 := hid hG2
      have HF3 := hid hF2
      have HM3 : Hid (MovedTo W1 vm v2) := MovedTo.trans HOs.out.2.2.2 HMv.out hM2
      have HV3 : Hid (v2.ownBlock ≠ some W.heap.size) := by
        intro e
        rcases hM2 with h | ⟨q, h, hq⟩
        · exact HVg.out (h.symm.trans e)
        · rw [e] at h
          cases h
          have := HOs.out.2.2.2
          have := HSz.out
          omega
      clear hG2 hF2 hM2 eR q0 HTk
      go_wp2_with fail
      try rw [hw.out]
      refine ⟨⟨ii + 1, k + 1, _, v2, rfl, ⟨by have := HQ.out; push_cast; omega, by omega⟩, HRo3.out.set k _, ?_, ?_, HM3.out, ?_, ?_⟩, hs.out⟩
      · intro j hj
        rw [HNx.out]
        dsimp only
        have hlk := HLk.out
        by_cases hjk : j = k
        · rw [if_pos hjk, hjk]
          rw [show (ot ++ [r.2]).getD k 0 = r.2 by rw [← hlk]; simp [List.getD]]
        · rw [if_neg hjk, HF.out j (by omega)]
          rw [show (ot ++ [r.2]).getD j 0 = ot.getD j 0 by simp [List.getD, List.getElem?_append_left (show j < ot.length by omega)]]
      · rw [HNx.out]
        exact HG3.out.beside (by omega) (by omega) HV3.out k _
      · intro q h1 h2 h3 h4 h5
        have e1 : (W3.setCell ⟨W.heap.size, k, none⟩ (.int .i64 r.2)).heap[q]? = W3.heap[q]? := Below.heap_setCell W3 ⟨W.heap.size, k, none⟩ _ q h2
        refine e1.trans ((HF3.out.block q (by have := HOs.out.2.2.2; omega) h3 h4 ?_).trans (HBl.out q h1 h2 h3 h4 h5))
        intro e
        rcases HMv.out with h | ⟨q', h, hq⟩
        · exact h5 (h.symm.trans e)
        · rw [e] at h
          cases h
          omega
      · exact ⟨HF3.out.os.trans HOs.out.1, HF3.out.tape.trans HOs.out.2.1, HF3.out.output.trans HOs.out.2.2.1, by have h1 := HF3.out.size; have h2 := HOs.out.2.2.2; simp [World.setCell]; omega⟩
    · have hkm : k = m := by have := HQ.out; omega
      have HRe : Hid (tellsRun ws xs k met = R) := by rw [hkm]; exact HR.out
      have HLk := hid (HMt.out k (by have := HML.out; omega)).2.2
      go_wp2_with fail
      go_ret
      refine ⟨W.heap.size, rfl, ?_, Nat.le_refl _, by omega, by omega, vk, ?_, ?_, ?_, HVg.out⟩
      · refine ⟨m, f, HRo.out, Nat.le_refl _, fun j hj => ?_⟩
        rw [HF.out j (by omega), HRe.out]
        rfl
      · have e := HGk.out
        rw [HRe.out] at e
        exact e
      · have hs := HSz.out
        exact ⟨HOs.out.1.trans HK.out.os, HOs.out.2.1.trans HK.out.tape, HOs.out.2.2.1.trans HK.out.output, by have := HOs.out.2.2.2; omega, fun q h1 h2 h3 h4 => (HBl.out q (by omega) (by omega) h2 h3 h4).trans (HK.out.block q h1)⟩
      · rcases HMv.out with h | ⟨q, h, hq⟩
        · exact Or.inl h
        · exact Or.inr ⟨q, h, by have := HSz.out; omega⟩
end Go.Proofs.Ytnoobonlmfgfhaa
