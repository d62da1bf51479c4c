/- HeapMake: both sides answer the same, whatever they are given. -/
import Derived.Test.YtnoobonlmfgfhaaSpecMakeBM
import Derived.Test.YtnoobonlmfgfhaaBothKitM
namespace Go.Proofs.Ytnoobonlmfgfhaa
open Go.RowKit

/-- A heap, a list, a number and a bool are told; the heap's words and the list are new, and apart. -/
def ToldM (W : World) (ans : List Int) (H : HpN) (ys : List Int) (wd : Int) (ok : Bool) (e : Ending) (w' : World) : Prop :=
  (∃ v u, e = .returned (.tuple #[heapV v H, u, .int .i64 wd, .bool ok]) ∧ SliceR 3 1 W.heap.size w' v ans.length (intCells ans) ∧ SliceR 3 1 W.heap.size w' u ys.length (intCells ys) ∧ (ans.length ≠ 0 → ys.length ≠ 0 → u.ownBlock ≠ v.ownBlock)) ∧ Below W.heap.size W w'

theorem toldM_none {W w' : World} {e : Ending} (h : e = .returned (.tuple #[noHeap, .slice none 0 0, .int .i64 0, .bool false]) ∧ Below W.heap.size W w') : ToldM W [] ⟨0, 0, 0, 0, 0, 0, 0, 0, 0⟩ [] 0 false e w' :=
  ⟨⟨_, _, h.1, ⟨none, 0, rfl, Or.inl rfl⟩, ⟨none, 0, rfl, Or.inl rfl⟩, fun h => absurd rfl h⟩, h.2⟩

theorem toldM_some {N n : Nat} {W w' : World} {ys : List Int} {s : CN} {e : Ending} (hl : s.ws.length = N) (hn : ys.length = n) (h : MakeTold N n W (some (ys, s)) e w') : ToldM W s.ws { s.h with touched := touchZ s } ys (makeZ 0 s.h.top) true e w' := by
  obtain ⟨bw, cap, g, c, rfl, hr, hr2, hne, hlow, hlow2, hb⟩ := h
  subst hl
  subst hn
  exact ⟨⟨_, _, rfl, ⟨some ⟨bw, 0, none⟩, cap, rfl, Or.inr ⟨bw, rfl, hlow, by rw [Nat.mul_one]; exact hr⟩⟩, ⟨some ⟨g, 0, none⟩, c, rfl, Or.inr ⟨g, rfl, hlow2, by rw [Nat.mul_one]; exact hr2⟩⟩, fun _ _ => by simp [Value.ownBlock]; exact hne⟩, hb⟩

theorem kind_fields (k : Int) (h : ¬ fieldsZ k = 0) : (fieldsZ k = 2 ∨ fieldsZ k = 5) ∧ 0 ≤ k ∧ k ≤ 15 := by
  unfold fieldsZ at *
  split at h
  · rename_i hk
    rw [if_pos hk]
    omega
  · rename_i hk
    rw [if_neg hk]
    split at h
    · rename_i hk2
      rw [if_pos hk2]
      omega
    · exact absurd rfl h

theorem putZ_len {kind : Int} {fs : List Int} {s : CN} : (putZ kind fs s).ws.length = s.ws.length := by
  unfold putZ
  rw [(writesRun_keeps _ _ _ _).1]
  unfold headZ
  dsimp only
  rw [List.length_set]

theorem makeRun_len {S : List Int} {N n nf m : Nat} {s0 : CN} {rs fs : List Int} {kind : Int} (ok : MakeOk S N n nf m s0 rs fs kind) {ys : List Int} {s : CN} (h : makeRun rs fs kind m s0 = some (ys, s)) : s.ws.length = N ∧ ys.length = n := by
  unfold makeRun at h
  rw [ok.flen, ok.rlen] at h
  cases h1 : scanRun m s0 with
  | none => rw [h1] at h; cases h
  | some s1 =>
    rw [h1] at h
    have c1 := scanRun_scn ok.scn m s1 h1
    dsimp only at h
    split at h
    · split at h
      · have hmv := ok.flip s1 h1
        cases h2 : movesRun rs n { s1 with h := flipH s1.h } with
        | none => rw [h2] at h; cases h
        | some p =>
          obtain ⟨rs', s2⟩ := p
          rw [h2] at h
          obtain ⟨m2, l2, -⟩ := movesRun_mvs hmv (ok.raim _) n (by rw [ok.rlen]; exact Nat.le_refl _) rs' s2 h2
          dsimp only at h
          cases h3 : movesRun fs nf s2 with
          | none => rw [h3] at h; cases h
          | some p =>
            obtain ⟨fs', s3⟩ := p
            rw [h3] at h
            obtain ⟨m3, l3, -⟩ := movesRun_mvs m2 (ok.faim _) nf (by rw [ok.flen]; exact Nat.le_refl _) fs' s3 h3
            dsimp only at h
            split at h
            · cases h
            · cases h
              exact ⟨by rw [putZ_len, m3.len], by rw [l2, ok.rlen]⟩
      · cases h
    · cases h
      exact ⟨by rw [putZ_len, c1.len], ok.rlen⟩

set_option maxHeartbeats 1000000 in
theorem make_both (bs xs fs : List Int) (h : HpN) (kind mi : Int) (ht : h.touched < 9223372036854775808) (hm : bs.length ≤ 1048576) (hx : xs.length ≤ 1048576) : ∃ ans H ys wd ok, ans.length ≤ 1048576 ∧ ys.length ≤ 1048576 ∧
    (∀ B g B2 rg B3 fg W, SliceR 3 1 B W (.slice (some ⟨g, 0, none⟩) bs.length bs.length) bs.length (intCells bs) → SliceR 3 1 B2 W (.slice (some ⟨rg, 0, none⟩) xs.length xs.length) xs.length (intCells xs) → SliceR 3 1 B3 W (.slice (some ⟨fg, 0, none⟩) fs.length fs.length) fs.length (intCells fs) → Calls Try.prog 14 #[heapV (.slice (some ⟨g, 0, none⟩) bs.length bs.length) h, .slice (some ⟨rg, 0, none⟩) xs.length xs.length, .int .i64 kind, .slice (some ⟨fg, 0, none⟩) fs.length fs.length, .int .i64 mi] W (ToldM W ans H ys wd ok)) ∧
    (∀ B g B2 rg B3 fg W, SliceR 3 1 B W (.slice (some ⟨g, 0, none⟩) bs.length bs.length) bs.length (intCells bs) → SliceR 3 1 B2 W (.slice (some ⟨rg, 0, none⟩) xs.length xs.length) xs.length (intCells xs) → SliceR 3 1 B3 W (.slice (some ⟨fg, 0, none⟩) fs.length fs.length) fs.length (intCells fs) → Calls Try.prog 16 #[heapV (.slice (some ⟨g, 0, none⟩) bs.length bs.length) h, .slice (some ⟨rg, 0, none⟩) xs.length xs.length, .int .i64 kind, .slice (some ⟨fg, 0, none⟩) fs.length fs.length, .int .i64 mi] W (ToldM W ans H ys wd ok)) := by
  by_cases ho : Ordered h bs.length
  case neg =>
    exact ⟨[], _, [], _, _, by simp, by simp, fun B g B2 rg B3 fg W _ _ _ => (sMake_notOk g 0 bs.length bs.length h rg xs.length xs.length fg fs.length fs.length kind mi 0 W (fun X _ => specOk_bad _ _ _ h X hm ho)).mono (fun _ _ => toldM_none), fun B g B2 rg B3 fg W _ _ _ => (iMake_notOk g 0 bs.length bs.length h rg xs.length xs.length fg fs.length fs.length kind mi 0 W (fun X _ => layOut_bad _ _ _ h X ho)).mono (fun _ _ => toldM_none)⟩
  obtain ⟨o1, o2, o3, o4, o5, o6, o7, o8, o9, o10, o11, o12, o13⟩ := id ho
  have hN0 : bs.length ≠ 0 := by omega
  have hN8 : bs.length ≤ 8000 := by omega
  have SOk : ∀ B g W, SliceR 3 1 B W (.slice (some ⟨g, 0, none⟩) bs.length bs.length) bs.length (intCells bs) → ∀ X, Below W.heap.size W X → Calls Try.prog 10 #[heapV (.slice (some ⟨g, 0, none⟩) bs.length bs.length) h] X fun e w' => e = .returned (.bool (specOk bs h)) ∧ Below X.heap.size X w' := fun B g W hs X hX =>
    specOk_calls g 0 bs.length bs.length bs h X rfl ho (row_kept hN0 hs hX).1 (row_kept hN0 hs hX).2
  have ILy : ∀ B g W, SliceR 3 1 B W (.slice (some ⟨g, 0, none⟩) bs.length bs.length) bs.length (intCells bs) → ∀ X, Below W.heap.size W X → Calls Try.prog 40 #[heapV (.slice (some ⟨g, 0, none⟩) bs.length bs.length) h] X (LayTold g 0 bs.length bs.length bs h X) := fun B g W hs X hX =>
    layOut_calls g 0 bs.length bs.length bs h X rfl ho (Nat.le_refl _) (row_kept hN0 hs hX).1 (row_kept hN0 hs hX).2
  cases hk : specOk bs h with
  | false =>
    have hki : implOk bs h = false := by rw [← ok_same ho]; exact hk
    rw [hk] at SOk
    refine ⟨[], _, [], _, _, by simp, by simp, fun B g B2 rg B3 fg W hs _ _ => (sMake_notOk g 0 bs.length bs.length h rg xs.length xs.length fg fs.length fs.length kind mi 0 W (SOk B g W hs)).mono (fun _ _ => toldM_none), fun B g B2 rg B3 fg W hs _ _ => (iMake_notOk g 0 bs.length bs.length h rg xs.length xs.length fg fs.length fs.length kind mi 0 W (fun X hX => (ILy B g W hs X hX).mono ?_)).mono (fun _ _ => toldM_none)⟩
    rintro e w' ⟨hres, hb'⟩
    rcases hres with ⟨_, e1⟩ | ⟨S, gb, _, e2, _⟩
    · exact ⟨e1, hb'⟩
    · rw [hki] at e2
      cases e2
  | true =>
    have hki : implOk bs h = true := by rw [← ok_same ho]; exact hk
    rw [hk] at SOk
    obtain ⟨S, ok⟩ := ok_facts ho hk
    have ILg : ∀ B g W, SliceR 3 1 B W (.slice (some ⟨g, 0, none⟩) bs.length bs.length) bs.length (intCells bs) → ∀ X, Below W.heap.size W X → Calls Try.prog 40 #[heapV (.slice (some ⟨g, 0, none⟩) bs.length bs.length) h] X fun e w' => ∃ gb, e = .returned (.tuple #[layV (.slice (some ⟨g, 0, none⟩) bs.length bs.length) h (.slice (some ⟨gb, 0, none⟩) bs.length bs.length), .bool true]) ∧ Hid (ISt g 0 gb bs.length bs S w') ∧ Below X.heap.size X w' := fun B g W hs X hX => (ILy B g W hs X hX).mono (by
      rintro e w' ⟨hres, hb'⟩
      rcases hres with ⟨e1, _⟩ | ⟨S', gb, e1, _, e2, _, e3⟩
      · rw [hki] at e1
        cases e1
      · rw [ok.impl] at e1
        cases e1
        exact ⟨gb, e2, e3, hb'⟩)
    have SFd := fun X => specFields_calls kind X
    have IFd := fun X => implFields_calls kind X
    by_cases hz2 : fieldsZ kind = 0
    · have hz : (fieldsZ kind == 0) = true := by simpa using hz2
      exact ⟨[], _, [], _, _, by simp, by simp, fun B g B2 rg B3 fg W hs _ _ => (sMake_kind g 0 bs.length bs.length h rg xs.length xs.length fg fs.length fs.length kind mi _ W hz hz2 (SOk B g W hs) SFd).mono (fun _ _ => toldM_none), fun B g B2 rg B3 fg W hs _ _ => (iMake_kind g 0 bs.length bs.length h rg xs.length xs.length fg fs.length fs.length kind mi _ W bs S hz hz2 (ILg B g W hs) IFd).mono (fun _ _ => toldM_none)⟩
    have hz : (fieldsZ kind == 0) = false := by simpa using hz2
    obtain ⟨hkf, hk0, hk15⟩ := kind_fields kind hz2
    by_cases hl2 : (fs.length : Int) = fieldsZ kind
    case neg =>
      have hl : ((fs.length : Int) != fieldsZ kind) = true := by simpa using hl2
      exact ⟨[], _, [], _, _, by simp, by simp, fun B g B2 rg B3 fg W hs _ _ => (sMake_len g 0 bs.length bs.length h rg xs.length xs.length fg fs.length fs.length kind mi _ W hz hz2 hl hl2 (SOk B g W hs) SFd).mono (fun _ _ => toldM_none), fun B g B2 rg B3 fg W hs _ _ => (iMake_len g 0 bs.length bs.length h rg xs.length xs.length fg fs.length fs.length kind mi _ W bs S hz hz2 hl hl2 (ILg B g W hs) IFd).mono (fun _ _ => toldM_none)⟩
    have hl : ((fs.length : Int) != fieldsZ kind) = false := by simpa using hl2
    have hnf : fs.length = 2 ∨ fs.length = 5 := by omega
    by_cases hmn : mi < 0
    · exact ⟨[], _, [], _, _, by simp, by simp, fun B g B2 rg B3 fg W hs _ _ => (sMake_neg g 0 bs.length bs.length h rg xs.length xs.length fg fs.length fs.length kind mi _ W hz hz2 hl hl2 hmn (SOk B g W hs) SFd).mono (fun _ _ => toldM_none), fun B g B2 rg B3 fg W hs _ _ => (iMake_neg g 0 bs.length bs.length h rg xs.length xs.length fg fs.length fs.length kind mi _ W bs S hz hz2 hl hl2 hmn (ILg B g W hs) IFd).mono (fun _ _ => toldM_none)⟩
    by_cases hmb : 20 < mi
    · exact ⟨[], _, [], _, _, by simp, by simp, fun B g B2 rg B3 fg W hs _ _ => (sMake_big g 0 bs.length bs.length h rg xs.length xs.length fg fs.length fs.length kind mi _ W hz hz2 hl hl2 hmn hmb (SOk B g W hs) SFd).mono (fun _ _ => toldM_none), fun B g B2 rg B3 fg W hs _ _ => (iMake_big g 0 bs.length bs.length h rg xs.length xs.length fg fs.length fs.length kind mi _ W bs S hz hz2 hl hl2 hmn hmb (ILg B g W hs) IFd).mono (fun _ _ => toldM_none)⟩
    have IRt : ∀ g B2 rg W, SliceR 3 1 B2 W (.slice (some ⟨rg, 0, none⟩) xs.length xs.length) xs.length (intCells xs) → ∀ (X : World) (gb : Nat), Below W.heap.size W X → ISt g 0 gb bs.length bs S X → Calls Try.prog 46 #[layV (.slice (some ⟨g, 0, none⟩) bs.length bs.length) h (.slice (some ⟨gb, 0, none⟩) bs.length bs.length), .slice (some ⟨rg, 0, none⟩) xs.length xs.length] X fun e w' => e = .returned (.bool (decide (xs.length ≤ 20) && implRoots S h xs)) ∧ Below X.heap.size X w' := fun g B2 rg W hr X gb hX hI => rootsOk_calls (some ⟨rg, 0, none⟩) xs.length g 0 bs.length gb bs.length bs S h xs X ho hI (hr.below hX).intSlice hx
    by_cases hn : xs.length ≤ 20
    case neg =>
      rw [decide_eq_false hn, Bool.false_and] at IRt
      exact ⟨[], _, [], _, _, by simp, by simp, fun B g B2 rg B3 fg W hs _ _ => (sMake_many g 0 bs.length bs.length h rg xs.length xs.length fg fs.length fs.length kind mi _ W hz hz2 hl hl2 hmn hmb (by omega) (SOk B g W hs) SFd).mono (fun _ _ => toldM_none), fun B g B2 rg B3 fg W hs hr _ => (iMake_roots g 0 bs.length bs.length h rg xs.length xs.length fg fs.length fs.length kind mi _ W bs S hz hz2 hl hl2 hmn hmb (ILg B g W hs) IFd (IRt g B2 rg W hr)).mono (fun _ _ => toldM_none)⟩
    have hn2 : ¬ (20 : Int) < (xs.length : Int) := by omega
    rw [decide_eq_true hn, Bool.true_and] at IRt
    have SRt : ∀ (zs : List Int), zs.length ≤ 20 → ∀ B g B2 rg W, SliceR 3 1 B W (.slice (some ⟨g, 0, none⟩) bs.length bs.length) bs.length (intCells bs) → SliceR 3 1 B2 W (.slice (some ⟨rg, 0, none⟩) zs.length zs.length) zs.length (intCells zs) → ∀ X, Below W.heap.size W X → Calls Try.prog 42 #[heapV (.slice (some ⟨g, 0, none⟩) bs.length bs.length) h, .slice (some ⟨rg, 0, none⟩) zs.length zs.length] X fun e w' => e = .returned (.bool (implRoots S h zs)) ∧ Below X.heap.size X w' := fun zs hz20 B g B2 rg W hs hr X hX => by
      have hsame : specRoots bs S h zs = implRoots S h zs := (roots_same ok zs).symm
      rw [← hsame]
      exact specRoots_calls g 0 bs.length bs.length bs S h _ zs X rfl ho ok.spec (row_kept hN0 hs hX).1 (row_kept hN0 hs hX).2 (hr.below hX).intSlice hz20
    have SR1 := SRt xs hn
    have SR2 := SRt fs (by omega)
    have IFa : ∀ g B2 rg W, SliceR 3 1 B2 W (.slice (some ⟨rg, 0, none⟩) fs.length fs.length) fs.length (intCells fs) → ∀ (X : World) (gb : Nat), Below W.heap.size W X → ISt g 0 gb bs.length bs S X → Calls Try.prog 47 #[layV (.slice (some ⟨g, 0, none⟩) bs.length bs.length) h (.slice (some ⟨gb, 0, none⟩) bs.length bs.length), .slice (some ⟨rg, 0, none⟩) fs.length fs.length] X fun e w' => e = .returned (.bool (implRoots S h fs)) ∧ Below X.heap.size X w' := fun g B2 rg W hr X gb hX hI => allOk_calls (some ⟨rg, 0, none⟩) fs.length g 0 bs.length gb bs.length bs S h fs X ho hI (hr.below hX).intSlice (by omega)
    cases hro : implRoots S h xs with
    | false =>
      rw [hro] at SR1 IRt
      exact ⟨[], _, [], _, _, by simp, by simp, fun B g B2 rg B3 fg W hs hr _ => (sMake_roots g 0 bs.length bs.length h rg xs.length xs.length fg fs.length fs.length kind mi _ W hz hz2 hl hl2 hmn hmb hn2 (SOk B g W hs) SFd (SR1 B g B2 rg W hs hr)).mono (fun _ _ => toldM_none), fun B g B2 rg B3 fg W hs hr _ => (iMake_roots g 0 bs.length bs.length h rg xs.length xs.length fg fs.length fs.length kind mi _ W bs S hz hz2 hl hl2 hmn hmb (ILg B g W hs) IFd (IRt g B2 rg W hr)).mono (fun _ _ => toldM_none)⟩
    | true =>
      rw [hro] at SR1 IRt
      cases hfo : implRoots S h fs with
      | false =>
        rw [hfo] at SR2 IFa
        exact ⟨[], _, [], _, _, by simp, by simp, fun B g B2 rg B3 fg W hs hr hf => (sMake_fields g 0 bs.length bs.length h rg xs.length xs.length fg fs.length fs.length kind mi _ W hz hz2 hl hl2 hmn hmb hn2 (SOk B g W hs) SFd (SR1 B g B2 rg W hs hr) (SR2 B g B3 fg W hs hf)).mono (fun _ _ => toldM_none), fun B g B2 rg B3 fg W hs hr hf => (iMake_fields g 0 bs.length bs.length h rg xs.length xs.length fg fs.length fs.length kind mi _ W bs S hz hz2 hl hl2 hmn hmb (ILg B g W hs) IFd (IRt g B2 rg W hr) (IFa g B3 fg W hf)).mono (fun _ _ => toldM_none)⟩
      | true =>
        rw [hfo] at SR2 IFa
        have hmi : ((mi.toNat : Nat) : Int) = mi := by omega
        have mok : MakeOk S bs.length xs.length fs.length mi.toNat ⟨bs, h, 0, 0⟩ xs fs kind := by
          refine ⟨scn_start ok, fun s1 h1 => mvs_scanned ok h1, by omega, rfl, rfl, hn, hnf, hk0, hk15, fun h' i hi => ?_, fun h' i hi => ?_⟩
          · unfold implRoots at hro
            rw [List.all_eq_true] at hro
            exact used_aim_any ok (hro i (List.mem_range.2 hi)) h'
          · unfold implRoots at hfo
            rw [List.all_eq_true] at hfo
            exact used_aim_any ok (hfo i (List.mem_range.2 hi)) h'
        have SOp : ∀ B g W, SliceR 3 1 B W (.slice (some ⟨g, 0, none⟩) bs.length bs.length) bs.length (intCells bs) → ∀ X, Below W.heap.size W X → Calls Try.prog 43 #[heapV (.slice (some ⟨g, 0, none⟩) bs.length bs.length) h] X fun e w' => ∃ bm bw cap' : Nat, e = .returned (.pointer (some ⟨bm, 0, none⟩)) ∧ Wk X bm bw bs.length cap' ⟨bs, h, 0, 0⟩ false w' ∧ X.heap.size ≤ bm ∧ X.heap.size ≤ bw := fun B g W hs X hX => open_calls g 0 bs.length bs.length bs h X (by omega) rfl hN8 (row_kept hN0 hs hX).1 (row_kept hN0 hs hX).2 o6 ht
        have IOp : ∀ B g W, SliceR 3 1 B W (.slice (some ⟨g, 0, none⟩) bs.length bs.length) bs.length (intCells bs) → ∀ X, Below W.heap.size W X → Calls Try.prog 48 #[heapV (.slice (some ⟨g, 0, none⟩) bs.length bs.length) h] X fun e w' => ∃ bc bw cap' : Nat, e = .returned (.pointer (some ⟨bc, 0, none⟩)) ∧ ColAt X bc bw bs.length cap' ⟨bs, h, 0, 0⟩ w' ∧ X.heap.size ≤ bc ∧ X.heap.size ≤ bw := fun B g W hs X hX => collectorOf_calls g 0 bs.length bs.length bs h X (by omega) rfl hN8 (row_kept hN0 hs hX).1 (row_kept hN0 hs hX).2
        have HCs : ∀ (zs : List Int) B2 rg W, SliceR 3 1 B2 W (.slice (some ⟨rg, 0, none⟩) zs.length zs.length) zs.length (intCells zs) → ∀ X, Below W.heap.size W X → ∀ k, k < zs.length → rg < X.heap.size ∧ X.cell? ⟨rg, 0 + k, none⟩ = some (.int .i64 (zs.getD k 0)) := fun zs B2 rg W hr X hX k hk => ⟨(row_kept (by omega) hr hX).1, (row_kept (by omega) hr hX).2 k hk⟩
        have SNw : ∀ (X : World) (bm bw cap' g c gf c2 : Nat), Wk X bm bw bs.length cap' ⟨bs, h, 0, 0⟩ false X → gf ≠ bm → gf ≠ bw → g ≠ bm → g ≠ bw → gf ≠ g → CellRow 3 X gf fs.length (intCells fs) → CellRow 3 X g xs.length (intCells xs) → Calls Try.prog 44 #[.pointer (some ⟨bm, 0, none⟩), .slice (some ⟨g, 0, none⟩) xs.length c, .int .i64 kind, .slice (some ⟨gf, 0, none⟩) fs.length c2, .int .i64 mi] X (SNewPost X bm bw bs.length cap' g xs.length gf (makeRun xs fs kind mi.toNat ⟨bs, h, 0, 0⟩)) := fun X bm bw cap' g c gf c2 hX h1 h2 h3 h4 h5 h6 h7 => by
          have e := snew_calls mok hX h1 h2 h3 h4 h5 h6 h7 (gc := c) (fc := c2)
          rw [hmi] at e
          exact e
        have INw : ∀ (X : World) (bc bw cap' g c gf c2 : Nat), ColAt X bc bw bs.length cap' ⟨bs, h, 0, 0⟩ X → gf ≠ bc → gf ≠ bw → g ≠ bc → g ≠ bw → gf ≠ g → CellRow 3 X gf fs.length (intCells fs) → CellRow 3 X g xs.length (intCells xs) → Calls Try.prog 50 #[.pointer (some ⟨bc, 0, none⟩), .slice (some ⟨g, 0, none⟩) xs.length c, .int .i64 kind, .slice (some ⟨gf, 0, none⟩) fs.length c2, .int .i64 mi] X (NewPost X bc bw bs.length cap' g xs.length gf (makeRun xs fs kind mi.toNat ⟨bs, h, 0, 0⟩)) := fun X bc bw cap' g c gf c2 hX h1 h2 h3 h4 h5 h6 h7 => by
          have e := inew_calls mok hX h1 h2 h3 h4 h5 h6 h7 (gc := c) (fc := c2)
          rw [hmi] at e
          exact e
        have sS := fun B g B2 rg B3 fg W hs hr hf => sMake_good g 0 bs.length bs.length h rg xs.length xs.length fg fs.length fs.length kind mi _ W hz hz2 hl hl2 hmn hmb hn2 xs fs rfl rfl (by omega) (fun h0 => (HCs xs B2 rg W hr W (Below.refl _ _) 0 h0).1) (fun h0 => (HCs fs B3 fg W hf W (Below.refl _ _) 0 h0).1) (fun k hk => by have e := (HCs xs B2 rg W hr W (Below.refl _ _) k hk).2; rw [Nat.zero_add] at e; exact e) (fun k hk => by have e := (HCs fs B3 fg W hf W (Below.refl _ _) k hk).2; rw [Nat.zero_add] at e; exact e) ⟨bs, h, 0, 0⟩ _ (SOk B g W hs) SFd (SR1 B g B2 rg W hs hr) (SR2 B g B3 fg W hs hf) (SOp B g W hs) SNw
        have sI := fun B g B2 rg B3 fg W hs hr hf => iMake_good g 0 bs.length bs.length h rg xs.length xs.length fg fs.length fs.length kind mi _ W bs S hz hz2 hl hl2 hmn hmb xs fs ⟨bs, h, 0, 0⟩ _ (ILg B g W hs) IFd (IRt g B2 rg W hr) (IFa g B3 fg W hf) (IOp B g W hs) (fun X hX => clone_row rg xs.length xs.length xs X rfl hn (fun k hk => (HCs xs B2 rg W hr X hX k hk).2)) (fun X hX => clone_row fg fs.length fs.length fs X rfl (by omega) (fun k hk => (HCs fs B3 fg W hf X hX k hk).2)) INw (fun ys s1 X w0 bc bw cap' _ hX => by
          have e := told_calls hX
          rw [touch_same] at e
          exact e)
        cases hr : makeRun xs fs kind mi.toNat ⟨bs, h, 0, 0⟩ with
        | none =>
          rw [hr] at sS sI
          exact ⟨[], _, [], _, _, by simp, by simp, fun B g B2 rg B3 fg W hs hr hf => (sS B g B2 rg B3 fg W hs hr hf).mono (fun _ _ => toldM_none), fun B g B2 rg B3 fg W hs hr hf => (sI B g B2 rg B3 fg W hs hr hf).mono (fun _ _ => toldM_none)⟩
        | some p =>
          obtain ⟨ys, s1⟩ := p
          obtain ⟨hl1, hly⟩ := makeRun_len mok hr
          rw [hr] at sS sI
          exact ⟨s1.ws, _, ys, _, _, by omega, by omega, fun B g B2 rg B3 fg W hs hr hf => (sS B g B2 rg B3 fg W hs hr hf).mono (fun _ _ h => toldM_some hl1 hly h), fun B g B2 rg B3 fg W hs hr hf => (sI B g B2 rg B3 fg W hs hr hf).mono (fun _ _ h => toldM_some hl1 hly h)⟩
end Go.Proofs.Ytnoobonlmfgfhaa
