/- The form of the tree at a place. -/
import Derived.Test.YtgiejnmphfgmgaaGreatDoorFormOf
import Derived.Test.YtgiejnmphfgmgaaGreatDoorSpecDeep
import Derived.Deep.OwnRows
namespace Go.Proofs.YtgiejnmphfgmgaaGreatDoor
open Go.RowKit Go.Deep

theorem Shape.iface {B : Nat} {w : World} {n : Nd} {us : List Value} {v : Value} (h : Shape B w n us v) : ∃ T p, v = .iface T p := by
  cases h <;> exact ⟨_, _, rfl⟩

theorem Forms.ifaces {B : Nat} {w : World} : ∀ {f : Fo} {vs : List Value}, Forms B w f vs → ∀ u ∈ vs, ∃ T p, u = .iface T p
  | .none, _, h, u, hu => by rw [show _ = [] from h] at hu; cases hu
  | .tree _ _ _, _, ⟨v, _, rest, e, _, h2, h3⟩, u, hu => by
    rw [e] at hu
    rcases List.mem_cons.1 hu with rfl | hu
    · exact h2.iface
    · exact Forms.ifaces h3 u hu

theorem Forms.app {B : Nat} {w : World} {g : Fo} {vs : List Value} (hg : Forms B w g vs) : ∀ {f : Fo} {us : List Value}, Forms B w f us → Forms B w (f.app g) (us ++ vs)
  | .none, _, h => by rw [show _ = [] from h]; exact hg
  | .tree _ _ _, _, ⟨v, us, rest, e, h1, h2, h3⟩ => ⟨v, us, rest ++ vs, by rw [e]; rfl, h1, h2, Forms.app hg h3⟩

theorem Fo.app_snoc (n : Nd) (k r : Fo) : ∀ g : Fo, g.app (.tree n k r) = (g.app (.tree n k .none)).app r
  | .none => rfl
  | .tree n' k' r' => by simp only [Fo.app, app_snoc n k r r']

theorem Fo.app_none : ∀ g : Fo, g.app .none = g
  | .none => rfl
  | .tree n' k' r' => by simp only [Fo.app, app_none r']

theorem info_form : (Tryz.prog.info? 64).map (fun i => (i.zero, i.size, i.bytes)) = some (some .nilIface, 1, 16) := by kernel_rfl

set_option maxHeartbeats 4000000 in
set_option maxRecDepth 100000 in
theorem formAt_calls (b off cap : Nat) (ns : List Nd) (hm : ns.length ≤ 300) (hfit : ∀ m ∈ ns, Fits m m.kids.toNat) : ∀ (N : Nat) (n : Nd) (k : Fo) (suf : List Nd) (p : Nat) (w : World), b < w.heap.size → NodesAt w b off ns → ns.drop p = n :: (k.flat ++ suf) → n.kids = k.count → k.wf → k.flat.length < N →
    Calls Tryz.prog 64 #[.slice (some ⟨b, off, none⟩) ns.length cap, .int .i64 p] w fun e w' => ∃ v us, e = .returned (.tuple #[v, .int .i64 ((p + 1 + k.flat.length : Nat) : Int)]) ∧ Forms w.heap.size w' k us ∧ Shape w.heap.size w' n us v ∧ Below w.heap.size w w' := by
  intro N
  induction N with
  | zero => intro n k suf p w _ _ _ _ _ h; omega
  | succ N ih =>
    intro n k suf p w hbw hn hp hkc hk hN
    obtain ⟨hpl, hnd, hp1⟩ := at_drop hp
    have c0 := hn p hpl 0 (by omega)
    have c1 := hn p hpl 1 (by omega)
    have c2 := hn p hpl 2 (by omega)
    have c3 := hn p hpl 3 (by omega)
    have c4 := hn p hpl 4 (by omega)
    have c5 := hn p hpl 5 (by omega)
    rw [hnd] at c0 c1 c2 c3 c4 c5
    simp only [Nd.cell, Nat.add_zero] at c0 c1 c2 c3 c4 c5
    have hFit : Fits n k.count := by
      have := hfit n (by rw [← hnd, List.getD, List.getElem?_eq_getElem hpl]; exact List.getElem_mem _)
      rw [hkc] at this
      simpa using this
    have hkl : k.flat.length ≤ ns.length := by
      have : (ns.drop (p + 1)).length = k.flat.length + suf.length := by rw [hp1, List.length_append]
      rw [List.length_drop] at this
      omega
    have hkk := Fo.count_le k
    rw [hkc] at c5
    have HI : Hid (∀ (n : Nd) (k : Fo) (suf : List Nd) (p : Nat) (w : World), _) := ih
    have HN : Hid (NodesAt w b off ns) := hn
    have H1 : Hid (ns.drop (p + 1) = k.flat ++ suf) := hp1
    have Hk : Hid k.wf := hk
    obtain ⟨len, hlen⟩ : ∃ len, ns.length = len := ⟨_, rfl⟩
    have Hlen : Hid (ns.length = len) := hlen
    rw [hlen] at hm hpl hkl ⊢
    obtain ⟨kc, hkcc⟩ : ∃ kc, k.count = kc := ⟨_, rfl⟩
    have Hkc : Hid (k.count = kc) := hkcc
    rw [hkcc] at c5 hkk hFit hkc
    have HFit : Hid (Fits n kc) := hFit
    have HP : Hid (len ≤ 300 ∧ p < len ∧ k.flat.length ≤ len ∧ kc ≤ k.flat.length ∧ k.flat.length < N + 1) := ⟨hm, hpl, hkl, hkk, hN⟩
    have hkb : kc ≤ 6 := by rcases fits_cases hFit with h | h | h | h | h <;> omega
    clear ih hn hp hp1 hk hnd hlen hkcc hm hkl hkk hN hFit hfit
    obtain ⟨kd, num, a, bb, cc, kids⟩ := n
    dsimp only at *
    subst hkc
    have hmk := run_make_row' (P := Tryz.prog) 122 64 .nilIface 16 Tryz.underlying122 info_form rfl .i64 .i64 kc (by omega) (by omega)
    go_enter Tryz.func64, Tryz.ntmps64
    go_wp2_with fail
    rw [wrap_succ (by have := HP.out; omega)]
    clear c0 c1 c2 c3 c4 c5 hmk
    generalize hp1 : p + 1 = p1
    have HP1 : Hid (p + 1 = p1) := hp1
    clear hp1
    go_loopw [1, 20] (fun q i wr => ∃ (q' i' : Nat) (r g : Fo) (us : List Value) (f : Nat → Value), q = .int .i64 q' ∧ i = .int .i64 i' ∧ Hid (ns.drop q' = r.flat ++ suf ∧ r.wf ∧ i' + r.count = kc ∧ r.flat.length < N + 1 ∧ q' + r.flat.length = p1 + k.flat.length ∧ k = g.app r ∧ Forms (w.heap.size + 2) wr g us ∧ us.length = i' ∧ ∀ j, j < i' → us[j]? = some (f j)) ∧ wr.rowIs (w.heap.size + 1) 64 kc f ∧ wr.heap[w.heap.size]? = some (.cells #[.int .i64 kd, .int .i64 num, .string a, .string bb, .string cc, .int .i64 kc] 81) ∧ Below w.heap.size w wr) (fun _ i _ => kc - (intOf i).toNat)
    case atStart =>
      refine ⟨p1, 0, k, .none, [], fun _ => .nilIface, rfl, rfl, ⟨by rw [← HP1.out]; exact H1.out, Hk.out, by rw [Hkc.out]; omega, HP.out.2.2.2.2, rfl, rfl, rfl, rfl, fun j hj => absurd hj (Nat.not_lt_zero _)⟩, ?_, ?_, ?_⟩
      · have := World.rowIs_made (w.alloc (.cells #[.int .i64 kd, .int .i64 num, .string a, .string bb, .string cc, .int .i64 kc] 81)) .nilIface kc 64
        simpa using this
      · rw [Below.heap_alloc _ _ _ (by simp)]
        exact (MapKept.heap_alloc w _).1
      · exact ((Below.refl _ _).alloc (Nat.le_refl _) _).alloc (by simp) _
    case round =>
      obtain ⟨q', i', r, g, us, f, rfl, rfl, HR, hrow, eA, hnx⟩ := hrel
      have hltA := heap_lt eA
      cases r with
      | none =>
        obtain ⟨_, _, h1, _, h5, h6, h7, h8, h9⟩ := HR.out
        simp only [Fo.count, Fo.flat, List.length_nil, Nat.add_zero] at h1 h5
        rw [Fo.app_none] at h6
        subst h6 h1
        have a0 := cell_of_heap eA 0
        have a1 := cell_of_heap eA 1
        have a2 := cell_of_heap eA 2
        have a3 := cell_of_heap eA 3
        have a4 := cell_of_heap eA 4
        have a5 := cell_of_heap eA 5
        simp at a0 a1 a2 a3 a4 a5
        have HH : Hid (Forms (w.heap.size + 2) wr k us ∧ us.length = i' ∧ (∀ j, j < i' → us[j]? = some (f j)) ∧ q' = p1 + k.flat.length) := ⟨h7, h8, h9, h5⟩
        clear HR h5 h7 h8 h9
        go_wp2_with fail
        obtain ⟨h7, h8, h9, h5⟩ := HH.out
        have hS := formOf_calls ⟨kd, num, a, bb, cc, (i' : Int)⟩ (w.heap.size + 1) i' us (.slice (some ⟨w.heap.size + 1, 0, none⟩) i' i') wr (fun _ => by rw [h8]) (fun _ => hrow.lt)
          (fun j hj => by rw [hrow.cell (by omega), h9 j (by omega)]) h7.ifaces (by rw [h8]; exact HFit.out) (by omega)
        have HS : Hid (Calls _ _ _ _ _) := hS
        clear hS h5 h7 h8 h9
        refine HS.out.mono ?_
        rintro e w4 ⟨v, rfl, hv, hb4⟩
        have hb5 := hnx.trans (hb4.mono hnx.size)
        have HV : Hid (Shape (w.heap.size + 1) w4 ⟨kd, num, a, bb, cc, (i' : Int)⟩ us v ∧ Below wr.heap.size wr w4) := ⟨hv, hb4⟩
        clear hv hb4 a0 a1 a2 a3 a4 a5 HS
        go_wp2_with fail
        refine bodyPost_ret (results_tmp2 (fn := Tryz.f64) rfl _ _ _) rfl ⟨v, us, ?_, ?_, ?_, hb5⟩
        · have e : p + 1 + k.flat.length = q' := by rw [HP1.out, HH.out.2.2.2]
          rw [e]
          rfl
        · exact Forms.kept (by omega) HV.out.2.size (fun _ _ h => HV.out.2.cell h) HH.out.1
        · exact HV.out.1.kept (by omega) (Nat.le_refl _) (fun _ _ _ => rfl)
      | tree n' k' r' =>
        obtain ⟨h0, hw, h1, h3, h5, h6, h7, h8, h9⟩ := HR.out
        obtain ⟨hw0, hw1, hw2⟩ := hw
        simp only [Fo.count, Fo.flat, List.length_cons, List.length_append] at h1 h3 h5
        simp only [Fo.flat, List.cons_append, List.append_assoc] at h0
        obtain ⟨hql, hqn, hq1⟩ := at_drop h0
        have hnw : NodesAt wr b off ns := HN.out.below hnx hbw
        have hnew := drop_past hq1
        have hIH := HI.out n' k' (r'.flat ++ suf) q' wr (by have := hnx.size; omega) hnw h0 hw0 hw1 (by omega)
        rw [Hlen.out] at hIH
        have HC : Hid (Calls _ _ _ _ _) := hIH
        have hi : (i' : Int) < (kc : Int) := by omega
        have HX : Hid (ns.drop (q' + 1 + k'.flat.length) = r'.flat ++ suf ∧ r'.wf ∧ i' + 1 + r'.count = kc ∧ r'.flat.length < N + 1 ∧ q' + 1 + k'.flat.length + r'.flat.length = p1 + k.flat.length ∧ k = (g.app (.tree n' k' .none)).app r' ∧ Forms (w.heap.size + 2) wr g us ∧ us.length = i' ∧ ∀ j, j < i' → us[j]? = some (f j)) :=
          ⟨hnew, hw2, by omega, by omega, by omega, by rw [h6]; exact Fo.app_snoc _ _ _ _, h7, h8, h9⟩
        clear HR h0 hw0 hw1 hw2 hql hqn hq1 hnw hnew hIH h1 h3 h5 h6 h7 h8 h9
        generalize q' + 1 + k'.flat.length = ee at *
        go_wp2_with fail
        refine HC.out.mono ?_
        rintro e w3 ⟨v, us', rfl, hF3, hS3, hb3⟩
        obtain ⟨T, pv, rfl⟩ := hS3.iface
        have hrow3 : w3.rowIs (w.heap.size + 1) 64 kc f := hrow.of_block (hb3.block _ hrow.lt)
        have hc3 := hrow3.cell (i := i') (by omega)
        have hz3 := hrow3.frozen i'
        have eA3 := (hb3.block w.heap.size hltA).trans eA
        have hnx3 := hnx.trans (hb3.mono hnx.size)
        have HF3 : Hid (Forms wr.heap.size w3 k' us' ∧ Shape wr.heap.size w3 n' us' (.iface T pv)) := ⟨hF3, hS3⟩
        have HB3 : Hid (Below wr.heap.size wr w3) := hb3
        clear hF3 hS3 hb3
        go_wp2_with fail
        obtain ⟨x1, x2, x3, x4, x5, x6, x7, x8, x9⟩ := HX.out
        have hbig : w.heap.size + 2 ≤ wr.heap.size := hrow.lt
        have hsz : w3.heap.size ≤ (w3.setCell ⟨w.heap.size + 1, i', none⟩ (.iface T pv)).heap.size := ((Below.refl 0 w3).setCell (Nat.zero_le _) _).size
        have hcell : ∀ ad : Addr, ad.block ≠ w.heap.size + 1 → (w3.setCell ⟨w.heap.size + 1, i', none⟩ (.iface T pv)).cell? ad = w3.cell? ad := fun ad h => World.cell?_of_block (w := w3) (Below.heap_setCell w3 _ _ ad.block h)
        have y1 : Forms (w.heap.size + 2) (w3.setCell ⟨w.heap.size + 1, i', none⟩ (.iface T pv)) g us := Forms.kept (Nat.le_refl _) (Nat.le_trans HB3.out.size hsz) (fun ad h1 h2 => by rw [hcell ad (by omega)]; exact HB3.out.cell h2) x7
        have y2 : Forms (w.heap.size + 2) (w3.setCell ⟨w.heap.size + 1, i', none⟩ (.iface T pv)) k' us' := Forms.kept hbig hsz (fun ad h1 h2 => hcell ad (by omega)) HF3.out.1
        have y3 : Shape (w.heap.size + 2) (w3.setCell ⟨w.heap.size + 1, i', none⟩ (.iface T pv)) n' us' (.iface T pv) := Shape.kept HF3.out.2 hbig hsz (fun ad h1 h2 => hcell ad (by omega))
        refine ⟨⟨ee, i' + 1, r', g.app (.tree n' k' .none), us ++ [.iface T pv], _, rfl, rfl, ⟨x1, x2, x3, x4, x5, x6, Forms.app (g := .tree n' k' .none) ⟨_, us', [], rfl, y2, y3, rfl⟩ y1, by rw [List.length_append, x8]; rfl, ?_⟩, hrow3.set i' _, ?_, hnx3.setCell (by simp) _⟩, lt_step hi⟩
        · intro j hj
          by_cases hji : j = i'
          · rw [if_pos hji, hji, List.getElem?_append_right (by omega), x8, Nat.sub_self]
            rfl
          · rw [if_neg hji, List.getElem?_append_left (by omega)]
            exact x9 j (by omega)
        · rw [Below.heap_setCell _ _ _ _ (by simp)]
          exact eA3
end Go.Proofs.YtgiejnmphfgmgaaGreatDoor
