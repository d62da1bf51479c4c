/- The specification's cutting of a text into words is the plain one; its list of words lies in memory of its own. -/
import Derived.Test.YtkdipppeljpgmaaGreatDoorSpecLex
namespace Go.Proofs.YtkdipppeljpgmaaGreatDoor
open Go.RowKit

theorem info_word : (Tryz.prog.info? 43).map (fun i => (i.zero, i.size, i.bytes)) = some (some (.agg #[.int .i64 0, .string ⟨#[]⟩, .int .i64 0]), 3, 32) := by kernel_rfl

theorem cell_three_new (w : World) (n : Nat) (hn : n = w.heap.size) (a b c : Value) (t : TypeId) : ∀ j u, [a, b, c][j]? = some u → (w.alloc (.cells #[a, b, c] t)).cell? ((⟨n, 0, none⟩ : Addr).add j) = some u := by
  subst hn
  intro j u hj
  match j, hj with
  | 0, hj => simp at hj; subst hj; simp [Addr.add]
  | 1, hj => simp at hj; subst hj; simp [Addr.add]
  | 2, hj => simp at hj; subst hj; simp [Addr.add]
  | j + 3, hj => simp at hj

theorem owns_setCell {w : World} {base : Nat} {e : TypeId} {size : Nat} {v : Value} {n : Nat} {xs : List Value} (h : w.ownsRow base e size v n xs) {a : Addr} (ha : a.block < base) (u : Value) : (w.setCell a u).ownsRow base e size v n xs := by
  refine h.kept (row := some a.block) ⟨rfl, rfl, rfl, by simp [World.setCell], fun k _ hk => Below.heap_setCell _ _ _ _ (fun e => hk (by rw [e]))⟩ (Or.inr (fun e => ?_))
  have := (h.lt _ e).1
  omega

theorem wordAt_code {s : ByteArray} {p : Nat} {c : Int} (h : wordAt s p = .error c) : c = 2 ∨ c = 3 ∨ c = 4 := by
  unfold wordAt at h
  split at h
  · dsimp only at h
    split at h
    · cases h; simp
    · cases h
  · split at h
    · dsimp only at h
      split at h
      · cases h; simp
      · cases h
    · dsimp only at h
      split at h
      · cases h; simp
      · cases h

/-- How a text's words and its fault are told, the words in memory from that block on. -/
def Told (B : Nat) (r : List Wd × Int × Nat) (v : Value) (e : Ending) (w' : World) : Prop :=
  e = .returned (.tuple #[v, .agg #[.int .i64 r.2.1, .int .i64 r.2.2]]) ∧ w'.ownsRow B 43 3 v r.1.length (flatW r.1)

set_option maxHeartbeats 1000000 in
set_option maxRecDepth 100000 in
theorem specWords_calls (s : ByteArray) (w : World) :
    Calls Tryz.prog 10 #[.string s] w fun e w' => (∃ v, Told (w.heap.size + 1) (lexAll s) v e w') ∧ Below w.heap.size w w' := by
  obtain ⟨R, hR⟩ : ∃ R, lexAll s = R := ⟨_, rfl⟩
  rw [hR]
  unfold lexAll at hR
  by_cases hbig : (1500 : Int) < s.size
  · rw [if_pos (by omega)] at hR
    subst hR
    go_enter Tryz.func10, Tryz.ntmps10
    go_wp2_with fail
    refine bodyPost_ret (v := .tuple #[.slice none 0 0, .agg #[.int .i64 1, .int .i64 0]]) (by simp [results, Tryz.results10, go_sem]) rfl ⟨⟨.slice none 0 0, rfl, World.ownsRow_nil _ _ _ _⟩, ?_⟩
    repeat (first | exact Below.refl _ _ | refine Below.alloc ?_ (by first | (simp; done) | (simp; omega)) _)
  rw [if_neg (by omega)] at hR
  have HR : Hid (lexGo s s.size 0 [] = R) := hR
  clear hR
  obtain ⟨i0, hi, hz0, hz1, hz2⟩ := info_parts info_word
  go_enter Tryz.func10, Tryz.ntmps10
  go_wp2_with fail
  go_loopw [4, 5] (fun o a wr => ∃ (p f : Nat) (ws : List Wd), a = .int .i64 p ∧ p ≤ 1509 ∧ s.size ≤ p + f ∧ ws.length ≤ p ∧ Hid (lexGo s f p ws = R) ∧ wr.ownsRow (w.heap.size + 1) 43 3 o ws.length (flatW ws) ∧
      wr.heap[w.heap.size]? = some (.cells #[.int .i64 0, .int .i64 0] 27) ∧ Below w.heap.size w wr) (fun _ a _ => s.size - (intOf a).toNat)
  case atStart => exact ⟨0, s.size, [], rfl, by omega, by omega, by simp, HR, World.ownsRow_nil _ _ _ _, (MapKept.heap_alloc w _).1, (Below.refl _ _).alloc (Nat.le_refl _) _⟩
  case round =>
    obtain ⟨p, f, ws, rfl, hp9, hfu, hwl, HE, hown, hfault, hnx⟩ := hrel
    clear HR
    have hBlt : w.heap.size < wr.heap.size := (Array.getElem?_eq_some_iff.1 hfault).1
    by_cases hp : p < s.size
    · obtain ⟨f, rfl⟩ : ∃ f', f = f' + 1 := ⟨f - 1, by omega⟩
      have hb := bz_at s hp
      cases hbl : blankZ ((s[p]'hp).toNat : Int) with
      | true =>
        have hE := HE.out
        rw [lexGo_blank hp (by rw [hb]; exact hbl)] at hE
        have HE' : Hid (lexGo s f (p + 1) ws = R) := hE
        clear HE hE hb
        cases h32 : (((s[p]'hp).toNat : Int) == 32) with
        | true =>
          clear hbl
          go_wp2_with fail
          exact ⟨⟨p + 1, f, ws, by simp, by omega, by omega, by omega, HE', hown, hfault, hnx⟩, by simp [intOf]; omega⟩
        | false =>
          have h10 : (((s[p]'hp).toNat : Int) == 10) = true := by simpa [blankZ, h32] using hbl
          clear hbl
          go_wp2_with fail
          exact ⟨⟨p + 1, f, ws, by simp, by omega, by omega, by omega, HE', hown, hfault, hnx⟩, by simp [intOf]; omega⟩
      | false =>
        have h32 : (((s[p]'hp).toNat : Int) == 32) = false := by
          cases h : (((s[p]'hp).toNat : Int) == 32) with
          | false => rfl
          | true => simp [blankZ, h] at hbl
        have h10 : (((s[p]'hp).toNat : Int) == 10) = false := by
          cases h : (((s[p]'hp).toNat : Int) == 10) with
          | false => rfl
          | true => simp [blankZ, h] at hbl
        have hnb : ¬ blankZ (bz s p) = true := by rw [hb, hbl]; simp
        have hword := word_calls s p hp (by omega)
        clear hbl hb
        cases hw : wordAt s p with
        | error c =>
          have hE := HE.out
          rw [lexGo_bad hp hnb hw] at hE
          rw [hw] at hword
          have HW : Hid (∀ w, _) := hword
          have hc := wordAt_code hw
          clear HE hw hnb hword hown
          subst hE
          go_wp2_with fail
          refine (HW.out _).mono ?_
          rintro e W1 ⟨rfl, hb1⟩
          have hf1 := (hb1.block w.heap.size hBlt).trans hfault
          have q0 := cell_of_heap hf1 0
          have q1 := cell_of_heap hf1 1
          have z0 := frozen_of_heap hf1 0
          have z1 := frozen_of_heap hf1 1
          simp at q0 q1
          have hnx1 := hnx.trans (hb1.mono hnx.size)
          clear HW hb1 hfault hnx hf1
          simp only [wordVal]
          have hBlt1 : w.heap.size < W1.heap.size := by
            have := World.block_lt_of_cell? W1 _ q0
            exact this
          have hcc : (c != 0) = true := by rcases hc with rfl | rfl | rfl <;> rfl
          go_wp2_with fail
          refine bodyPost_ret (v := .tuple #[.slice none 0 0, .agg #[.int .i64 c, .int .i64 p]]) (by simp [results, Tryz.results10, go_sem, q0, q1, hBlt1]) rfl ⟨⟨.slice none 0 0, rfl, World.ownsRow_nil _ _ _ _⟩, ?_⟩
          exact ((hnx1.setCell (by simp) _).setCell (by simp) _).alloc (by simp; omega) _
        | ok de =>
          obtain ⟨d, e⟩ := de
          have hE := HE.out
          rw [lexGo_word hp hnb hw] at hE
          have HE' : Hid (lexGo s f e (ws ++ [d]) = R) := hE
          rw [hw] at hword
          have HW : Hid (∀ w, _) := hword
          have hend := wordAt_end hp hw
          clear HE hw hnb hword hE
          go_wp2_with fail
          refine (HW.out _).mono ?_
          rintro e' W1 ⟨rfl, hb1⟩
          have hf1 := (hb1.block w.heap.size hBlt).trans hfault
          have hown1 := owns_below hown hb1
          have hnx1 := hnx.trans (hb1.mono hnx.size)
          have hBlt1 : w.heap.size < W1.heap.size := (Array.getElem?_eq_some_iff.1 hf1).1
          have Hf1 : Hid (W1.heap[w.heap.size]? = some (.cells #[.int .i64 0, .int .i64 0] 27)) := hf1
          clear HW hb1 hfault hnx hown hf1
          simp only [wordVal]
          go_wp2_with (first
            | (at_builtin; refine wpList_append_own _ rfl _ _ 34 rfl (w.heap.size + 1) 43 i0 (.agg #[.int .i64 0, .string ⟨#[]⟩, .int .i64 0]) 3 32 Tryz.underlying34 hi hz0 hz1 hz2 rfl (by decide) _ _ _ rfl ((hown1.alloc _).alloc _) ⟨W1.heap.size + 1, 0, none⟩ 1 1 [.int .i64 d.kind, .string d.text, .int .i64 d.at_] rfl rfl (cell_three_new _ _ (by simp) _ _ _ _) (fun x hx => by simp at hx; rcases hx with rfl | rfl | rfl <;> rfl) (by unfold maxLen; omega) (by omega) (by simp; omega) ?_
               intro v' w3 hown' hgrow3 hnil3
               have hit3 : Hid (w3.heap[w.heap.size]? = some (.cells #[.int .i64 0, .int .i64 0] 27)) := by
                 show w3.heap[w.heap.size]? = _
                 rw [hgrow3.block w.heap.size (by simp; omega) (fun h => by have := (hown1.lt _ h.symm).1; omega), Below.heap_alloc _ _ _ (by simp; omega), Below.heap_alloc _ _ _ hBlt1]
                 exact Hf1.out
               have hbw3 : Below w.heap.size w w3 := Below.grown ((hnx1.alloc (by omega) _).alloc (by simp; omega) _) hgrow3 (by simp; omega) (fun j hj => by have := (hown1.lt _ hj).1; omega)
               clear hgrow3 hnil3 Hf1 hown1 hnx1))
          refine ⟨⟨e, f, ws ++ [d], rfl, by omega, by omega, by simp; omega, HE', ?_, hit3.out, hbw3⟩, by simp [intOf]; omega⟩
          rw [flatW_append, List.length_append]
          exact hown'
    · have hE := HE.out
      rw [lexGo_end hp] at hE
      have q0 := cell_of_heap hfault 0
      have q1 := cell_of_heap hfault 1
      have z0 := frozen_of_heap hfault 0
      have z1 := frozen_of_heap hfault 1
      simp at q0 q1
      subst hE
      clear HE hfault
      go_wp2_with fail
      refine bodyPost_ret (v := .tuple #[_, .agg #[.int .i64 0, .int .i64 0]]) (by simp [results, Tryz.results10, go_sem, q0, q1]; rfl) rfl ⟨⟨_, rfl, ?_⟩, (hnx.setCell (by simp) _).setCell (by simp) _⟩
      exact owns_setCell (owns_setCell hown (by simp) _) (by simp) _
end Go.Proofs.YtkdipppeljpgmaaGreatDoor
