/- The program goes through code: all places that are come to. -/
import Derived.Test.YtfmkgppkgmjpfaaDoorImplFollow
import Derived.Test.YtfmkgppkgmjpfaaDoorImplList
namespace Go.Proofs.YtfmkgppkgmjpfaaDoor
open Go.RowKit Go.Conc

theorem info_spot : (Tryd.prog.info? 51).map (fun i => (i.zero, i.size, i.bytes)) = some (some (.agg #[.int .i64 0, .int .i64 0, .int .i64 0]), 3, 24) := by kernel_rfl

theorem made_spots (n : Nat) (hn : n ≤ 1500) (w : World) : ∃ c : Array Value, c.size = 3 * n ∧ (∀ i, i < 3 * n → c[i]? = some (.int .i64 0)) ∧
    (Instr.makeSlice 43 (.int .i64 (n : Int)) (.int .i64 (n : Int))).run Tryd.prog w = .ok (.slice (some ⟨w.heap.size, 0, none⟩) n n) (w.alloc (.cells c 51)) := by
  obtain ⟨i0, hi, hz0, hz1, hz2⟩ := info_parts info_spot
  have h := run_make (P := Tryd.prog) w 43 51 i0 _ Tryd.underlying43 hi hz0 .i64 .i64 n n (by omega) (Int.le_refl _) (by rw [hz2]; omega) (by omega)
  rw [hz1] at h
  simp only [Int.toNat_natCast] at h
  refine ⟨_, ?_, fun i hi => ?_, h⟩
  · rw [size_madeCells]
    exact Nat.mul_comm _ _
  · have h3 : i % 3 = 0 ∨ i % 3 = 1 ∨ i % 3 = 2 := by omega
    rcases h3 with h3 | h3 | h3 <;> simp [madeCells, h3, Value.cells, show i < n * 3 by omega]

theorem bytes_int : ∃ i, Tryd.prog.info? 3 = some i ∧ i.bytes = 8 := by
  have h : (Tryd.prog.info? 3).map (·.bytes) = some 8 := by kernel_rfl
  obtain ⟨i, hi, hb⟩ := Option.map_eq_some_iff.1 h
  exact ⟨i, hi, hb⟩

theorem made_chan (n : Nat) (hn : n ≤ 1500) (w : World) : (Instr.makeChan 59 (.int .i64 (n : Int))).run Tryd.prog w = .ok (.chan (some w.heap.size)) (w.alloc (.chan n #[] false 0 0 false)) := by
  obtain ⟨i, hi, hb⟩ := bytes_int
  exact run_makeChan (P := Tryd.prog) (w := w) Tryd.underlying59 hi .i64 n (by omega) (by rw [hb]; omega)

def SpotsP (is : List In) (w : World) (e : Ending) (w' : World) : Prop :=
  Below w.heap.size w w' ∧ ((validZ is = false ∧ ∃ pb, e = .returned (.tuple #[.slice none 0 0, .iface 55 (.pointer (some ⟨pb, 0, none⟩))])) ∨
    (validZ is = true ∧ ∃ T g, Whole is T ∧ e = .returned (.tuple #[.slice (some ⟨g, 0, none⟩) is.length is.length, .nilIface]) ∧ w'.rowIs g 51 (3 * is.length) (spF T)))

theorem Fl.recv {W0 : World} {Fb : Nat} {vc : Value} {gs ch N : Nat} {T : List Sq} {k : Nat} {wk : List Nat} {W : World} (h : Fl W0 Fb vc gs ch N T (k :: wk) 0 false W) {s r : Nat} (hc : W.heap[ch]? = some (.chan N (wkA (k :: wk)) false s r false)) : Fl W0 Fb vc gs ch N T wk 1 false (W.setChan ch N (wkA wk) false s (r + 1) false) := by
  obtain ⟨n1, n2, n3⟩ := h.ne
  have hr := h.room
  rw [List.length_cons] at hr
  have hb := h.blk
  rw [show (0 : Int) + ((k :: wk).length : Int) = 1 + (wk.length : Int) by rw [List.length_cons]; omega] at hb
  exact ⟨(setChan_same W ch _ _ _ _ _ _ n2).trans hb, h.row.of_block (setChan_same W ch _ _ _ _ _ _ n3), ⟨s, r + 1, heap_setChan W ch _ _ _ _ _ _ (heap_lt hc)⟩, h.lo, below_setChan h.bel h.lo.2.2 _ _ _ _ _ _, h.len, h.nl, h.sane, by omega, ⟨by omega, by omega⟩⟩

theorem Fl.paid {W0 : World} {Fb : Nat} {vc : Value} {gs ch N : Nat} {T : List Sq} {wk : List Nat} {W : World} (h : Fl W0 Fb vc gs ch N T wk 1 false W) : Fl W0 Fb vc gs ch N T wk 0 false (W.setCell ⟨Fb, 3, none⟩ (.int .i64 (wk.length : Int))) := by
  obtain ⟨n1, n2, n3⟩ := h.ne
  obtain ⟨s, r, hc⟩ := h.chb
  have ho : ∀ q, q ≠ Fb → (W.setCell ⟨Fb, 3, none⟩ (.int .i64 (wk.length : Int))).heap[q]? = W.heap[q]? := fun q hq => Below.heap_setCell W ⟨Fb, 3, none⟩ _ q hq
  have hl := h.lo
  refine ⟨?_, h.row.of_block (ho gs (Ne.symm n1)), ⟨s, r, (ho ch (Ne.symm n2)).trans hc⟩, h.lo, ⟨h.bel.os, h.bel.tape, h.bel.output, by simpa [World.setCell] using h.bel.size, fun q hq => (ho q (by omega)).trans (h.bel.block q hq)⟩, h.len, h.nl, h.sane, h.room, ⟨by omega, by omega⟩⟩
  rw [show (0 : Int) + (wk.length : Int) = (wk.length : Int) by omega]
  simp [World.setCell, Array.getElem?_modify, h.blk]

theorem Fl.shut {W0 : World} {Fb : Nat} {vc : Value} {gs ch N : Nat} {T : List Sq} {W : World} (h : Fl W0 Fb vc gs ch N T [] 0 false W) {s r : Nat} (hc : W.heap[ch]? = some (.chan N #[] false s r false)) : Fl W0 Fb vc gs ch N T [] 0 true (W.setChan ch N #[] true s r false) := by
  obtain ⟨n1, n2, n3⟩ := h.ne
  exact ⟨(setChan_same W ch _ _ _ _ _ _ n2).trans h.blk, h.row.of_block (setChan_same W ch _ _ _ _ _ _ n3), ⟨s, r, heap_setChan W ch _ _ _ _ _ _ (heap_lt hc)⟩, h.lo, below_setChan h.bel h.lo.2.2 _ _ _ _ _ _, h.len, h.nl, h.sane, h.room, h.dl⟩

theorem fl_start {w X : World} {Fb gs ch N cc : Nat} {ac : Option Addr} {cS : Array Value} (hb : Below w.heap.size w X) (h1 : X.heap[Fb]? = some (.cells #[.slice ac N cc, .slice (some ⟨gs, 0, none⟩) N N, .chan (some ch), .int .i64 0] 61)) (h2 : X.heap[gs]? = some (.cells cS 51)) (h3 : X.heap[ch]? = some (.chan N #[] false 0 0 false)) (l1 : w.heap.size ≤ Fb) (l2 : w.heap.size ≤ gs) (l3 : w.heap.size ≤ ch) (hs : cS.size = 3 * N) (hz : ∀ i, i < 3 * N → cS[i]? = some (.int .i64 0)) (hN : N ≤ 1500) : Fl w Fb (.slice ac N cc) gs ch N (List.replicate N ⟨0, 0, 0⟩) [] 0 false X := by
  have fr := free_le (List.replicate N (⟨0, 0, 0⟩ : Sq))
  rw [List.length_replicate] at fr
  have z : ∀ k, tg (List.replicate N (⟨0, 0, 0⟩ : Sq)) k = ⟨0, 0, 0⟩ := fun k => by
    by_cases hk : k < N
    · unfold tg
      rw [List.getD_eq_getElem?_getD, List.getElem?_replicate, if_pos hk]
      rfl
    · exact tg_out (by rw [List.length_replicate]; exact hk)
  refine ⟨h1, ⟨cS, h2, hs, fun i hi => ?_⟩, ⟨0, 0, h3⟩, ⟨l1, l2, l3⟩, hb, List.length_replicate, hN, fun s hs' => ?_, by simpa using fr, ⟨by omega, by omega⟩⟩
  · rw [hz i hi]
    unfold spF
    rw [z]
    have h3 : i % 3 = 0 ∨ i % 3 = 1 ∨ i % 3 = 2 := by omega
    rcases h3 with h3 | h3 | h3 <;> rw [h3] <;> rfl
  · rw [List.eq_of_mem_replicate hs']
    exact Or.inl ⟨rfl, rfl, rfl⟩

theorem wkA_cons (k : Nat) (wk : List Nat) : (wkA (k :: wk)).getD 0 undef = .int .i64 (k : Int) ∧ (wkA (k :: wk)).extract 1 (wkA (k :: wk)).size = wkA wk ∧ 0 < (wkA (k :: wk)).size := by
  refine ⟨rfl, ?_, by simp [wkA]⟩
  simp [wkA]
  exact List.take_of_length_le (by simp)

/-- What is left of the function behind the making of its blocks. -/
noncomputable def restC : Code := match Tryd.f18.body with
  | some (.seq _ (.seq _ (.seq _ r))) => r
  | _ => .skip

set_option maxRecDepth 100000 in
set_option maxHeartbeats 16000000 in
theorem spots_rest {ac : Option Addr} {cc : Nat} {is : List In} {w X : World} {N Fb gs ch : Nat} (hN : is.length = N) (hF : Fl w Fb (.slice ac N cc) gs ch N (List.replicate N ⟨0, 0, 0⟩) [] 0 false X) (hok : codeOkZ is = true) (hcc : is.length ≤ cc) (hin : is = [] ∨ ∃ bc oc, ac = some ⟨bc, oc, none⟩ ∧ bc < w.heap.size ∧ InsAt w bc oc is) :
    wpN Tryd.prog restC (bodyPost Tryd.prog Tryd.f18 (SpotsP is w)) (⟨#[.slice ac N cc, undef, .slice none 0 0, .nilIface, .pointer (some ⟨Fb, 0, none⟩), undef, undef, undef, .slice ac N cc, .bool true, .bool false, undef, undef, undef, .slice ac N cc, .slice ac N cc, .int .i64 (N : Int), .slice (some ⟨gs, 0, none⟩) N N, .slice ac N cc, .int .i64 (N : Int), .chan (some ch), .agg #[.slice ac N cc, .slice (some ⟨gs, 0, none⟩) N N, .chan (some ch), .int .i64 0], .pointer (some ⟨Fb, 0, none⟩), undef, undef, undef, undef, undef, undef, undef, undef, undef, undef, undef, undef, undef, undef, undef, undef, undef, undef, undef, undef, undef, undef, undef, undef, undef, undef, undef, undef, undef, undef, undef, undef, undef, undef, undef, undef, undef, undef, undef, undef], []⟩ : Act) X := by
  have HN := hid hN
  have HF := hid hF
  have HOk := hid hok
  have HIn := hid (And.intro hcc hin)
  have HCm := hid (comeI_calls hF 0 0 0 1 (by decide) (by decide) (by decide) (by decide) (by decide))
  clear hN hF hok hcc hin
  conv => arg 2; whnf
  refine wpN_seq_k fun K hK => ?_
  go_wp2_with fail
  refine HCm.out.mono ?_
  rintro e X2 ⟨hbl, -, hnone, hsome⟩
  have HBl := hid hbl
  clear hbl HCm
  by_cases hN0 : 0 < N
  case neg =>
    have hz : comeZ N (List.replicate N ⟨0, 0, 0⟩) [] (0, ⟨0, 0, 1⟩) = none := by
      unfold comeZ
      rw [if_pos (Or.inr (Or.inl (by dsimp only; omega)))]
    obtain ⟨pb, rfl⟩ := hnone hz
    have HNb : Hid (¬ Good is) := none_bad (by have := HN.out; omega)
    clear hnone hsome hz hN0
    go_wp2_with fail
    go_ret2
    exact ⟨HBl.out, Or.inl ⟨valid_bad (Or.inr HNb.out), pb, rfl⟩⟩
  have hz := first_some (cs := is) (by have := HN.out; omega)
  rw [HN.out] at hz
  obtain ⟨rfl, hfl⟩ := hsome _ hz
  have HFl := hid hfl
  have HGo := hid (going_start (cs := is) (by have := HN.out; omega))
  rw [HN.out] at HGo
  have HN0 := hid hN0
  obtain ⟨bc, oc, hac, hbc, hia⟩ := HIn.out.2.resolve_left (fun e => by have := HN.out; rw [e] at this; simp at this; omega)
  subst hac
  have hall : ∀ i ∈ is, i.ok = true := by
    have := HOk.out
    unfold codeOkZ at this
    rw [Bool.and_eq_true, List.all_eq_true] at this
    exact this.2
  have HAl := hid hall
  have HC : Hid (CodeAt w bc oc cc is) := ⟨hbc, hia, HIn.out.1, by have h1 := HF.out.nl; have := HN.out; omega, hall⟩
  clear hnone hsome hz hfl hbc hia hall HF hN0
  go_wp2_with fail
  have e2 := cell_of_heap HFl.out.blk 2
  simp at e2
  refine wpN_seq ?_
  refine wpN_seq_k fun K hK => ?_
  go_wp2_with fail
  clear e2
  refine wpN_block ?_
  refine wpN_loop (fun n a w' => ∃ (u6 u7 u34 u35 u36 u37 u38 u39 u40 u41 u42 u43 u44 u45 u46 u47 u48 u49 u50 u51 u52 u53 u54 u55 u56 u57 u58 : Value) (T : List Sq) (wk : List Nat) (closed : Bool), a = (⟨#[.slice (some ⟨bc, oc, none⟩) N cc, undef, .slice none 0 0, .nilIface, .pointer (some ⟨Fb, 0, none⟩), .nilIface, u6, u7, .slice (some ⟨bc, oc, none⟩) N cc, .bool true, .bool false, undef, undef, undef, .slice (some ⟨bc, oc, none⟩) N cc, .slice (some ⟨bc, oc, none⟩) N cc, .int .i64 (N : Int), .slice (some ⟨gs, 0, none⟩) N N, .slice (some ⟨bc, oc, none⟩) N cc, .int .i64 (N : Int), .chan (some ch), .agg #[.slice (some ⟨bc, oc, none⟩) N cc, .slice (some ⟨gs, 0, none⟩) N N, .chan (some ch), .int .i64 0], .pointer (some ⟨Fb, 0, none⟩), .pointer (some ⟨Fb, 0, none⟩), .agg #[.int .i64 0, .int .i64 0, .int .i64 1], .agg #[.int .i64 0, .int .i64 0, .int .i64 0, .int .i64 1], .nilIface, .nilIface, .bool false, undef, .pointer (some ⟨Fb, 0, none⟩), .pointer (some ⟨Fb, 0, none⟩), .pointer (some ⟨Fb, 2, none⟩), .chan (some ch), u34, u35, u36, u37, u38, u39, u40, u41, u42, u43, u44, u45, u46, u47, u48, u49, u50, u51, u52, u53, u54, u55, u56, u57, u58, undef, undef, undef, undef], []⟩ : Act) ∧ Fl w Fb (.slice (some ⟨bc, oc, none⟩) N cc) gs ch N T wk 0 closed w' ∧ Going is T wk ∧ (closed = true ↔ wk = []) ∧ 2 * free T + wk.length ≤ n) (2 * N) ?_ ?_
  · refine ⟨undef, undef, undef, undef, undef, undef, undef, undef, undef, undef, undef, undef, undef, undef, undef, undef, undef, undef, undef, undef, undef, undef, undef, undef, undef, undef, undef, _, _, false, rfl, HFl.out, HGo.out, ⟨fun e => (by cases e), fun e => (by cases e)⟩, ?_⟩
    have h1 := HGo.out.tab.room
    have h2 := free_le ((List.replicate N (⟨0, 0, 0⟩ : Sq)).set 0 ⟨0, 0, 1⟩)
    rw [List.length_set, List.length_replicate] at h2
    have := HN.out
    have := HN0.out
    simp only [List.length_singleton] at h1 ⊢
    omega
  rintro n a Wn ⟨u6, u7, u34, u35, u36, u37, u38, u39, u40, u41, u42, u43, u44, u45, u46, u47, u48, u49, u50, u51, u52, u53, u54, u55, u56, u57, u58, T, wk, closed, rfl, hfl, hgo, hcl, hms⟩
  have HFn := hid hfl
  have HGn := hid hgo
  have HMs := hid hms
  obtain ⟨s0, r0, hch⟩ := hfl.chb
  clear HFl HGo hfl hgo hms
  cases wk with
  | nil =>
    have hc1 : closed = true := hcl.2 rfl
    subst hc1
    have hch' : Wn.heap[ch]? = some (.chan N #[] true s0 r0 false) := hch
    clear hch hcl
    refine wpN_seq ?_
    refine wpN_region ?_
    change InR _ _ [0, 1] _ _ _
    refine inR_shut (c := ch) (z := .int .i64 0) (w' := Wn) rfl (wanted_none rfl) (by simp [go_sem, rcase]) hch' ?_
    refine inR_value (v := .bool false) (w' := Wn) rfl (wanted_none rfl) (by simp [go_sem, Act.put]) ?_
    refine inR_of ?_
    show wpN _ _ _ _ _
    refine wpN_of (wp_at (by simp [go_sem]; exact rfl) ?_)
    have HW := hid (going_end HAl.out HGn.out)
    clear hch'
    go_wp2_with fail
    have e1 := cell_of_heap HFn.out.blk 1
    simp at e1
    refine wpN_of ?_
    go_wp2_with fail
    go_ret2
    refine ⟨HFn.out.bel, Or.inr ⟨valid_good HOk.out HW.out.good, T, gs, HW.out, ?_, ?_⟩⟩
    · rw [HN.out]
      rfl
    · rw [HN.out]
      exact HFn.out.row
  | cons k wk =>
    have hc1 : closed = false := by
      cases closed with
      | false => rfl
      | true => cases hcl.1 rfl
    subst hc1
    obtain ⟨g1, g2, g3⟩ := wkA_cons k wk
    refine wpN_seq ?_
    refine wpN_region ?_
    change InR _ _ [0, 1] _ _ _
    refine inR_recv (c := ch) (z := .int .i64 0) (w' := Wn) rfl (wanted_none rfl) (by simp [go_sem, rcase]) hch g3 ?_
    rw [g1, g2]
    have HF1 := hid (HFn.out.recv hch)
    obtain ⟨Z, hZ⟩ : ∃ Z, Wn.setChan ch N (wkA wk) false s0 (r0 + 1) false = Z := ⟨_, rfl⟩
    rw [hZ] at HF1 ⊢
    refine inR_value (v := .bool true) (w' := Z) rfl (wanted_none rfl) (by simp [go_sem, Act.put]) ?_
    refine inR_of ?_
    show wpN _ _ _ _ _
    refine wpN_of (wp_at (by simp [go_sem]; exact rfl) ?_)
    clear hZ hch hcl g1 g2 g3
    have HAt := hid (going_at HAl.out HGn.out (List.mem_cons_self ..))
    have HGs := hid (going_step HAl.out HGn.out (k := k) (w := wk) (List.mem_cons_self ..) (fun q hq => by
      rcases List.mem_cons.1 hq with h | h
      · exact Or.inl h
      · exact Or.inr h) (fun q hq => List.mem_cons_of_mem _ hq) (by rw [List.length_cons]))
    have HFo : Hid (Calls Tryd.prog 26 #[.pointer (some ⟨Fb, 0, none⟩), .int .i64 (k : Int)] Z (FollowP w Fb (.slice (some ⟨bc, oc, none⟩) N cc) gs ch N 1 (stepI is T wk k))) := by
      show Calls _ _ _ _ _
      have h1 := HF1.out
      rw [← HN.out] at h1 ⊢
      exact follow_calls h1 HC.out k HAt.out.1 HAt.out.2.2.2.2.2.2.1
    clear HFn HF1
    go_wp2_with fail
    refine HFo.out.mono ?_
    rintro e Z2 ⟨hb2, hnone, hsome⟩
    have HB2 := hid hb2
    clear hb2 HFo
    have HR : Hid ((stepI is T wk k = none ∧ ¬ Good is) ∨ ∃ x, stepI is T wk k = some x ∧ Going is x.1 x.2 ∧ 2 * free x.1 + x.2.length < n) := by
      show _ ∨ _
      have hgs := HGs.out
      have hms := HMs.out
      unfold stepI
      by_cases hn : needsZ is (is.getD k default) (tg T k) = true
      · rw [if_pos hn]
        cases hc : comesZ is.length T wk (exitsZ is k (is.getD k default) (tg T k)) with
        | none => exact Or.inl ⟨rfl, hgs.2.1 hn hc⟩
        | some x =>
          have h3 := hgs.2.2 x.1 x.2 hn hc
          exact Or.inr ⟨x, rfl, h3.1, by have := h3.2; omega⟩
      · rw [if_neg hn]
        exact Or.inl ⟨rfl, hgs.1 (by simpa using hn)⟩
    clear HGs HGn HMs HAt
    rcases HR.out with ⟨hz, hng⟩ | ⟨⟨T2, w2⟩, hz, hg2, hm2⟩
    · obtain ⟨pb, rfl⟩ := hnone hz
      have HNg := hid hng
      clear hnone hsome hz hng HR
      go_wp2_with fail
      go_ret2
      exact ⟨HB2.out, Or.inl ⟨valid_bad (Or.inr HNg.out), pb, rfl⟩⟩
    · obtain ⟨rfl, hf2⟩ := hsome _ hz
      dsimp only at hf2 hg2 hm2
      have HF2 := hid hf2
      have HG2 := hid (And.intro hg2 hm2)
      have HP := hid hf2.paid
      have f3 := cell_of_heap hf2.blk 3
      have z3 := frozen_of_heap hf2.blk 3
      have f2 := cell_of_heap hf2.blk 2
      simp at f3 f2
      have hw3 : wrap64 (1 + (w2.length : Int) - 1) = (w2.length : Int) := by
        rw [wrap64]
        have := hf2.room
        have := hf2.nl
        omega
      clear hnone hsome hz hg2 hm2 HR hf2
      have hw4 : (1 + (w2.length : Int) - 1) = (w2.length : Int) := by omega
      obtain ⟨lw, hlw⟩ : ∃ lw : Int, (w2.length : Int) = lw := ⟨_, rfl⟩
      have HLw := hid hlw
      rw [hlw] at f3 hw3 HP
      clear hw4 hlw
      cases w2 with
      | nil =>
        have hl0 : lw = 0 := by rw [← HLw.out]; rfl
        subst hl0
        obtain ⟨s1, r1, hc1⟩ := HP.out.chb
        have hc1' : (Z2.setCell ⟨Fb, 3, none⟩ (.int .i64 0)).heap[ch]? = some (.chan N #[] false s1 r1 false) := hc1
        have HSh := hid (HP.out.shut hc1')
        have hcl := fun ats ty => run_close_open (P := Tryd.prog) (w := Z2.setCell ⟨Fb, 3, none⟩ (.int .i64 0)) ats ty hc1'
        clear hc1
        go_wp2_with fail
        exact ⟨2 * free T2 + ([] : List Nat).length, HG2.out.2, _, _, _, _, _, _, _, _, _, _, _, _, _, _, _, _, _, _, _, _, _, _, _, _, _, _, _, T2, [], true, rfl, HSh.out, HG2.out.1, ⟨fun _ => rfl, fun _ => rfl⟩, Nat.le_refl _⟩
      | cons q w3 =>
        have hl0 : (lw == 0) = false := by
          have := HLw.out
          rw [List.length_cons] at this
          simp
          omega
        go_wp2_with fail
        exact ⟨2 * free T2 + (q :: w3).length, HG2.out.2, _, _, _, _, _, _, _, _, _, _, _, _, _, _, _, _, _, _, _, _, _, _, _, _, _, _, _, T2, q :: w3, false, rfl, HP.out, HG2.out.1, ⟨fun e => (by cases e), fun e => (by cases e)⟩, Nat.le_refl _⟩

set_option maxRecDepth 100000 in
set_option maxHeartbeats 8000000 in
theorem codeSpots_calls (ac : Option Addr) (cc : Nat) (is : List In) (w : World) (hcc : is.length ≤ cc) (hin : is = [] ∨ ∃ bc oc, ac = some ⟨bc, oc, none⟩ ∧ bc < w.heap.size ∧ InsAt w bc oc is) (HLs : Hid (Calls Tryd.prog 24 #[.slice ac is.length cc] w fun e w' => e = .returned (.bool (codeOkZ is)) ∧ Below w.heap.size w w')) :
    Calls Tryd.prog 18 #[.slice ac is.length cc] w (SpotsP is w) := by
  obtain ⟨N, hN⟩ : ∃ N, is.length = N := ⟨_, rfl⟩
  have HN := hid hN
  have HIn := hid (And.intro hcc hin)
  obtain ⟨ok, hok⟩ : ∃ ok, codeOkZ is = ok := ⟨_, rfl⟩
  have HOk := hid hok
  rw [hN, hok] at HLs
  rw [hN]
  clear hN hcc hin hok
  refine calls_of_wpN Tryd.func18 rfl ?_
  simp only [Tryd.ntmps18, List.size_toArray, List.length_cons, List.length_nil, Nat.reduceAdd, Nat.reduceSub, Array.replicate_succ, Array.replicate_zero, List.push_toArray, List.append_toArray, List.nil_append, List.cons_append]
  refine wpN_seq_k fun K hK => ?_
  go_wp2_with fail
  refine wpN_seq_k fun K hK => ?_
  go_wp2_with fail
  refine HLs.out.mono ?_
  rintro e W1 ⟨rfl, hb1⟩
  have HB1 := hid hb1
  clear hb1 HLs
  cases ok with
  | false =>
    go_wp2_with fail
    go_ret2
    exact ⟨HB1.out.alloc HB1.out.size _, Or.inl ⟨valid_bad (Or.inl HOk.out), W1.heap.size, rfl⟩⟩
  | true =>
    have hN15 : N ≤ 1500 := by
      have h := HOk.out
      unfold codeOkZ at h
      rw [Bool.and_eq_true] at h
      have := of_decide_eq_true h.1
      have := HN.out
      omega
    have HN15 := hid hN15
    clear hN15
    go_wp2_with fail
    refine wpN_seq_k fun K hK => ?_
    have hD : Below W1.heap.size W1 W1.drew := (Below.refl _ _).drew
    refine pick_begin (S := fun _ => True) (by kernel_rfl) rfl rfl ?_
    refine pick_op (i := 0) (v := .slice ac N cc) (by kernel_rfl) rfl (by kernel_rfl) (by kernel_rfl) rfl rfl (fun w' _ => by simp [go_sem]) trivial (by simp [go_sem]; exact rfl) ?_
    refine pick_op (i := 1) (v := .slice ac N cc) (by kernel_rfl) rfl (by kernel_rfl) (by kernel_rfl) rfl rfl (fun w' _ => by simp [go_sem]) trivial (by simp [go_sem]; exact rfl) ?_
    refine pick_op (i := 2) (v := .int .i64 (N : Int)) (by kernel_rfl) rfl (by kernel_rfl) (by kernel_rfl) rfl rfl (fun w' _ => by simp [go_sem]) trivial (by simp [go_sem]; exact rfl) ?_
    refine pick_op (i := 4) (v := .slice ac N cc) (by kernel_rfl) rfl (by kernel_rfl) (by kernel_rfl) rfl rfl (fun w' _ => by simp [go_sem]) trivial (by simp [go_sem]; exact rfl) ?_
    refine pick_op (i := 5) (v := .int .i64 (N : Int)) (by kernel_rfl) rfl (by kernel_rfl) (by kernel_rfl) rfl rfl (fun w' _ => by simp [go_sem]) trivial (by simp [go_sem]; exact rfl) ?_
    refine pick_fork (i := 3) (j := 6) (by kernel_rfl) ?_ ?_
    · obtain ⟨cS, hcs, hcz, hmk⟩ := made_spots N HN15.out W1.drew
      have hmc := made_chan N HN15.out ((W1.alloc (.cells cS 51)).drew)
      refine ⟨_, .slice (some ⟨W1.heap.size, 0, none⟩) N N, (W1.drew.alloc (.cells cS 51)), rfl, rfl, by simp [go_sem]; rw [hmk]; rfl, trivial, ?_⟩
      refine pick_frame (by simp [go_sem]; exact rfl) ?_
      refine pick_make (i := 6) (v := .chan (some (W1.heap.size + 1))) (w1 := ((W1.drew.alloc (.cells cS 51)).alloc (.chan N #[] false 0 0 false))) rfl (by kernel_rfl) rfl rfl (by simp [go_sem]; rw [hmc]; simp; rfl) trivial (by simp [go_sem]; exact rfl) ?_
      refine pick_make (i := 7) (v := .agg #[.slice ac N cc, .slice (some ⟨W1.heap.size, 0, none⟩) N N, .chan (some (W1.heap.size + 1)), .int .i64 0]) (w1 := ((W1.drew.alloc (.cells cS 51)).alloc (.chan N #[] false 0 0 false))) rfl (by kernel_rfl) rfl rfl (by simp [go_sem]) trivial (by simp [go_sem]; exact rfl) ?_
      refine pick_make (i := 8) (v := .pointer (some ⟨W1.heap.size + 2, 0, none⟩)) (w1 := ((W1.drew.alloc (.cells cS 51)).alloc (.chan N #[] false 0 0 false)).alloc (.cells #[.slice ac N cc, .slice (some ⟨W1.heap.size, 0, none⟩) N N, .chan (some (W1.heap.size + 1)), .int .i64 0] 61)) rfl (by kernel_rfl) rfl rfl (by simp [go_sem]) trivial (by simp [go_sem]; exact rfl) ?_
      refine pick_make (i := 9) (v := .pointer (some ⟨W1.heap.size + 2, 0, none⟩)) (w1 := ((W1.drew.alloc (.cells cS 51)).alloc (.chan N #[] false 0 0 false)).alloc (.cells #[.slice ac N cc, .slice (some ⟨W1.heap.size, 0, none⟩) N N, .chan (some (W1.heap.size + 1)), .int .i64 0] 61)) rfl (by kernel_rfl) rfl rfl (by simp [go_sem]) trivial (by simp [go_sem]; exact rfl) ?_
      refine pick_end (by kernel_rfl) ?_
      have t2 := two_new W1.drew (.cells cS 51) (.chan N #[] false 0 0 false)
      have t3 := MapKept.heap_alloc ((W1.drew.alloc (.cells cS 51)).alloc (.chan N #[] false 0 0 false)) (.cells #[.slice ac N cc, .slice (some ⟨W1.heap.size, 0, none⟩) N N, .chan (some (W1.heap.size + 1)), .int .i64 0] 61)
      have hs2 : ((W1.drew.alloc (.cells cS 51)).alloc (.chan N #[] false 0 0 false)).heap.size = W1.heap.size + 2 := by simp
      have hs0 : W1.drew.heap.size = W1.heap.size := rfl
      rw [hs0] at t2
      have g3 := t3.1
      rw [hs2] at g3
      have hb : Below w.heap.size w (((W1.drew.alloc (.cells cS 51)).alloc (.chan N #[] false 0 0 false)).alloc (.cells #[.slice ac N cc, .slice (some ⟨W1.heap.size, 0, none⟩) N N, .chan (some (W1.heap.size + 1)), .int .i64 0] 61)) := by
        have hb1 := HB1.out.trans (hD.mono HB1.out.size)
        have hb2 := hb1.alloc hb1.size (.cells cS 51)
        have hb3 := hb2.alloc hb2.size (.chan N #[] false 0 0 false)
        exact hb3.alloc hb3.size _
      have hFl := fl_start (Fb := W1.heap.size + 2) (gs := W1.heap.size) (ch := (W1.heap.size + 1)) hb g3 ((t3.2 _ (by omega)).trans t2.1) ((t3.2 _ (by omega)).trans t2.2) (by have := HB1.out.size; omega) (by have := HB1.out.size; omega) (by have := HB1.out.size; omega) hcs hcz HN15.out
      clear hmk hmc t2 t3 g3 hs2 hs0 hcs hcz hb
      obtain ⟨X, hX⟩ : ∃ X, ((W1.drew.alloc (.cells cS 51)).alloc (.chan N #[] false 0 0 false)).alloc (.cells #[.slice ac N cc, .slice (some ⟨W1.heap.size, 0, none⟩) N N, .chan (some (W1.heap.size + 1)), .int .i64 0] 61) = X := ⟨_, rfl⟩
      rw [hX] at hFl ⊢
      clear hX
      have hrest := spots_rest HN.out hFl HOk.out HIn.out.1 HIn.out.2
      go_wp2_with fail
      exact hrest
    · obtain ⟨cS, hcs, hcz, hmk⟩ := made_spots N HN15.out ((W1.alloc (.chan N #[] false 0 0 false)).drew)
      have hmc := made_chan N HN15.out W1.drew
      refine ⟨_, .chan (some W1.heap.size), (W1.drew.alloc (.chan N #[] false 0 0 false)), rfl, rfl, by simp [go_sem]; rw [hmc]; rfl, trivial, ?_⟩
      refine pick_frame (by simp [go_sem]; exact rfl) ?_
      refine pick_make (i := 3) (v := .slice (some ⟨W1.heap.size + 1, 0, none⟩) N N) (w1 := ((W1.drew.alloc (.chan N #[] false 0 0 false)).alloc (.cells cS 51))) rfl (by kernel_rfl) rfl rfl (by simp [go_sem]; rw [hmk]; simp; rfl) trivial (by simp [go_sem]; exact rfl) ?_
      refine pick_make (i := 7) (v := .agg #[.slice ac N cc, .slice (some ⟨(W1.heap.size + 1), 0, none⟩) N N, .chan (some W1.heap.size), .int .i64 0]) (w1 := ((W1.drew.alloc (.chan N #[] false 0 0 false)).alloc (.cells cS 51))) rfl (by kernel_rfl) rfl rfl (by simp [go_sem]) trivial (by simp [go_sem]; exact rfl) ?_
      refine pick_make (i := 8) (v := .pointer (some ⟨W1.heap.size + 2, 0, none⟩)) (w1 := ((W1.drew.alloc (.chan N #[] false 0 0 false)).alloc (.cells cS 51)).alloc (.cells #[.slice ac N cc, .slice (some ⟨(W1.heap.size + 1), 0, none⟩) N N, .chan (some W1.heap.size), .int .i64 0] 61)) rfl (by kernel_rfl) rfl rfl (by simp [go_sem]) trivial (by simp [go_sem]; exact rfl) ?_
      refine pick_make (i := 9) (v := .pointer (some ⟨W1.heap.size + 2, 0, none⟩)) (w1 := ((W1.drew.alloc (.chan N #[] false 0 0 false)).alloc (.cells cS 51)).alloc (.cells #[.slice ac N cc, .slice (some ⟨(W1.heap.size + 1), 0, none⟩) N N, .chan (some W1.heap.size), .int .i64 0] 61)) rfl (by kernel_rfl) rfl rfl (by simp [go_sem]) trivial (by simp [go_sem]; exact rfl) ?_
      refine pick_end (by kernel_rfl) ?_
      have t2 := two_new W1.drew (.chan N #[] false 0 0 false) (.cells cS 51)
      have t3 := MapKept.heap_alloc ((W1.drew.alloc (.chan N #[] false 0 0 false)).alloc (.cells cS 51)) (.cells #[.slice ac N cc, .slice (some ⟨(W1.heap.size + 1), 0, none⟩) N N, .chan (some W1.heap.size), .int .i64 0] 61)
      have hs2 : ((W1.drew.alloc (.chan N #[] false 0 0 false)).alloc (.cells cS 51)).heap.size = W1.heap.size + 2 := by simp
      have hs0 : W1.drew.heap.size = W1.heap.size := rfl
      rw [hs0] at t2
      have g3 := t3.1
      rw [hs2] at g3
      have hb : Below w.heap.size w (((W1.drew.alloc (.chan N #[] false 0 0 false)).alloc (.cells cS 51)).alloc (.cells #[.slice ac N cc, .slice (some ⟨(W1.heap.size + 1), 0, none⟩) N N, .chan (some W1.heap.size), .int .i64 0] 61)) := by
        have hb1 := HB1.out.trans (hD.mono HB1.out.size)
        have hb2 := hb1.alloc hb1.size (.chan N #[] false 0 0 false)
        have hb3 := hb2.alloc hb2.size (.cells cS 51)
        exact hb3.alloc hb3.size _
      have hFl := fl_start (Fb := W1.heap.size + 2) (gs := (W1.heap.size + 1)) (ch := W1.heap.size) hb g3 ((t3.2 _ (by omega)).trans t2.2) ((t3.2 _ (by omega)).trans t2.1) (by have := HB1.out.size; omega) (by have := HB1.out.size; omega) (by have := HB1.out.size; omega) hcs hcz HN15.out
      clear hmk hmc t2 t3 g3 hs2 hs0 hcs hcz hb
      obtain ⟨X, hX⟩ : ∃ X, ((W1.drew.alloc (.chan N #[] false 0 0 false)).alloc (.cells cS 51)).alloc (.cells #[.slice ac N cc, .slice (some ⟨(W1.heap.size + 1), 0, none⟩) N N, .chan (some W1.heap.size), .int .i64 0] 61) = X := ⟨_, rfl⟩
      rw [hX] at hFl ⊢
      clear hX
      have hrest := spots_rest HN.out hFl HOk.out HIn.out.1 HIn.out.2
      go_wp2_with fail
      exact hrest
end Go.Proofs.YtfmkgppkgmjpfaaDoor
