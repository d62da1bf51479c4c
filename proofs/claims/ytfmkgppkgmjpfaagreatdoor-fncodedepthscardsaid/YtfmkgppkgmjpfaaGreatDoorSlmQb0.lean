import Derived.Test.YtfmkgppkgmjpfaaGreatDoorRows
import Derived.WalkKit
import Derived.ProofKit
import Derived.Deep.OwnRows
import Derived.Deep.Slices
import Derived.Maps.OwnOps
import Derived.Maps.Views
import Derived.Lib.OthersKept
import Derived.Deep.LoopGhost
import Derived.Laws.AppendOwn
import Derived.Deep.QuietTactic
import Derived.BigQuiet
import Derived.Laws.OwnMore
namespace Go.Proofs.YtfmkgppkgmjpfaaGreatDoor
section
open Go.RowKit

structure Nd where
 kind : Int
 num : Int
 a : ByteArray
 b : ByteArray
 c : ByteArray
 kids : Int

instance : Inhabited Nd := ⟨⟨0, 0, ByteArray.empty, ByteArray.empty, ByteArray.empty, 0⟩⟩
def Nd.cell (n : Nd) : Nat → Value
 | 0 => .int .i64 n.kind
 | 1 => .int .i64 n.num
 | 2 => .string n.a
 | 3 => .string n.b
 | 4 => .string n.c
 | _ => .int .i64 n.kids
def NodesAt (w : World) (b off : Nat) (ns : List Nd) : Prop :=
 ∀ k, k < ns.length → ∀ c, c < 6 → w.cell? ⟨b, off + k * 6 + c, none⟩ = some ((ns.getD k default).cell c)
theorem NodesAt.below {w w' : World} {b off B : Nat} {ns : List Nd} (h : NodesAt w b off ns) (hb : Below B w w') (hB : b < B) : NodesAt w' b off ns :=
 fun k hk c hc => (hb.cell hB).trans (h k hk c hc)

end
section
open Go.RowKit
def endGo (L : Nat) : List Nd → Nat → Nat → Int
 | _, 0, pos => pos
 | [], _ + 1, _ => -1
 | n :: r, owed + 1, pos => if n.kids < 0 ∨ (L : Int) < n.kids then -1 else endGo L r (owed + n.kids.toNat) (pos + 1)
def treeEnd (ns : List Nd) (at_ : Int) : Int := if at_ < 0 ∨ (ns.length : Int) ≤ at_ then -1 else endGo ns.length (ns.drop at_.toNat) 1 at_.toNat
theorem endGo_zero (L : Nat) (r : List Nd) (pos : Nat) : endGo L r 0 pos = pos := by cases r <;> rfl
theorem endGo_short (L : Nat) : ∀ (r : List Nd) (owed pos : Nat), r.length < owed → endGo L r owed pos = -1
 | r, 0, pos, h => by omega
 | [], o + 1, pos, _ => rfl
 | n :: r, o + 1, pos, h => by
   unfold endGo
   split
   · rfl
   · exact endGo_short L r _ _ (by simp at h; omega)
theorem drop_at {ns : List Nd} {p : Nat} (hp : p < ns.length) : ns.drop p = ns.getD p default :: ns.drop (p + 1) := by
 rw [List.drop_eq_getElem_cons hp]
 simp [List.getD, List.getElem?_eq_getElem hp]
theorem endGo_bad {L : Nat} {ns : List Nd} {o p : Nat} (ho : 0 < o) (hp : p < ns.length) (hk : (ns.getD p default).kids < 0 ∨ (L : Int) < (ns.getD p default).kids) : endGo L (ns.drop p) o p = -1 := by
 obtain ⟨o', rfl⟩ : ∃ o', o = o' + 1 := ⟨o - 1, by omega⟩
 rw [drop_at hp]
 unfold endGo
 rw [if_pos hk]
theorem endGo_step {L : Nat} {ns : List Nd} {o p : Nat} (ho : 0 < o) (hp : p < ns.length) (hk : ¬ ((ns.getD p default).kids < 0 ∨ (L : Int) < (ns.getD p default).kids)) :
   endGo L (ns.drop (p + 1)) (o - 1 + (ns.getD p default).kids.toNat) (p + 1) = endGo L (ns.drop p) o p := by
 obtain ⟨o', rfl⟩ : ∃ o', o = o' + 1 := ⟨o - 1, by omega⟩
 rw [drop_at hp]
 show _ = endGo L (_ :: _) (o' + 1) p
 rw [endGo, if_neg hk]
 rfl
set_option maxRecDepth 100000 in
theorem z57 (b off cap : Nat) (ns : List Nd) (at_ : Int) (w : World) (hn : NodesAt w b off ns) (hm : ns.length ≤ 1048576) :
   Calls Tryz.prog 73 #[.slice (some ⟨b, off, none⟩) ns.length cap, .int .i64 at_] w fun e w' => e = .returned (.int .i64 (treeEnd ns at_)) ∧ w = w' := by
 obtain ⟨R, hR⟩ : ∃ R, treeEnd ns at_ = R := ⟨_, rfl⟩
 rw [hR]
 obtain ⟨len, hlen⟩ : ∃ len, ns.length = len := ⟨_, rfl⟩
 rw [hlen] at hm ⊢
 unfold treeEnd at hR
 rw [hlen] at hR
 by_cases h0 : at_ < 0
 · rw [if_pos (Or.inl h0)] at hR
   subst hR
   go_enter Tryz.func73, Tryz.ntmps73
   go_wp2_with fail
   go_ret
   exact ⟨rfl, rfl⟩
 obtain ⟨p0, rfl⟩ := Int.eq_ofNat_of_zero_le (show 0 ≤ at_ by omega)
 by_cases h1 : (len : Int) ≤ (p0 : Int)
 · rw [if_pos (Or.inr h1)] at hR
   subst hR
   go_enter Tryz.func73, Tryz.ntmps73
   go_wp2_with fail
   go_ret
   exact ⟨rfl, rfl⟩
 rw [if_neg (by omega), Int.toNat_natCast] at hR
 have HR : Hid (endGo len (ns.drop p0) 1 p0 = R) := hR
 have Hlen : Hid (ns.length = len) := hlen
 clear hR hlen
 go_enter Tryz.func73, Tryz.ntmps73
 go_wp2_with fail
 go_loop [1, 5] (fun a o => ∃ p q : Nat, a = .int .i64 p ∧ o = .int .i64 q ∧ p ≤ len ∧ q ≤ 1 + p * 1048576 ∧ Hid (endGo len (ns.drop p) q p = R)) (fun a _ => len - (intOf a).toNat)
 case atStart => exact ⟨p0, 1, rfl, rfl, by omega, by omega, HR⟩
 case round =>
   obtain ⟨p, q, rfl, rfl, hp, hq, HE⟩ := hrel
   clear HR
   by_cases hq0 : q = 0
   · subst hq0
     have hE := HE.out
     rw [endGo_zero] at hE
     subst hE
     clear HE
     go_wp2_with fail
     go_ret
     exact ⟨rfl, rfl⟩
   have hqp : (0 : Int) < (q : Int) := by omega
   by_cases hpl : p < len
   · have c5 := hn p (by rw [Hlen.out]; exact hpl) 5 (by omega)
     obtain ⟨n, hnd⟩ : ∃ n, ns.getD p default = n := ⟨_, rfl⟩
     rw [hnd] at c5
     have hpl' : p < ns.length := by rw [Hlen.out]; exact hpl
     have hbad : (n.kids < 0 ∨ (len : Int) < n.kids) → Hid (R = -1) := fun h => by
       rw [← HE.out]
       exact endGo_bad (by omega) hpl' (by rw [hnd]; exact h)
     have hstep : ¬ (n.kids < 0 ∨ (len : Int) < n.kids) → Hid (endGo len (ns.drop (p + 1)) (q - 1 + n.kids.toNat) (p + 1) = R) := fun h => by
       rw [← HE.out, ← hnd]
       exact endGo_step (by omega) hpl' (by rw [hnd]; exact h)
     simp only [Nd.cell] at c5
     clear hn HE hnd hq0
     by_cases hk0 : n.kids < 0
     · have HB := hbad (Or.inl hk0)
       clear hbad hstep
       go_wp2_with fail
       go_ret
       exact ⟨by rw [HB.out]; rfl, rfl⟩
     by_cases hk1 : (len : Int) < n.kids
     · have HB := hbad (Or.inr hk1)
       clear hbad hstep
       go_wp2_with fail
       go_ret
       exact ⟨by rw [HB.out]; rfl, rfl⟩
     have HS := hstep (by omega)
     clear hbad hstep
     go_wp2_with fail
     refine ⟨⟨p + 1, q - 1 + n.kids.toNat, by simp, ?_, by omega, by omega, HS⟩, by simp [intOf]; omega⟩
     congr 1
     omega
   · have HB : Hid (R = -1) := by
       have hE := HE.out
       rw [endGo_short len _ q p (by rw [List.length_drop, Hlen.out]; omega)] at hE
       exact hE.symm
     clear HE
     go_wp2_with fail
     go_ret
     exact ⟨by rw [HB.out]; rfl, rfl⟩

end
section
open Go.RowKit

inductive Fo where
 | none : Fo
 | tree (n : Nd) (kids rest : Fo) : Fo

namespace Fo
def flat : Fo → List Nd
 | .none => []
 | .tree n k r => n :: (k.flat ++ r.flat)
def count : Fo → Nat
 | .none => 0
 | .tree _ _ r => r.count + 1
def deep : Fo → Nat
 | .none => 0
 | .tree _ k r => max (k.deep + 1) r.deep
def wf : Fo → Prop
 | .none => True
 | .tree n k r => n.kids = k.count ∧ k.wf ∧ r.wf
def app : Fo → Fo → Fo
 | .none, g => g
 | .tree n k r, g => .tree n k (r.app g)
theorem app_flat : ∀ (f g : Fo), (f.app g).flat = f.flat ++ g.flat
 | .none, _ => rfl
 | .tree n k r, g => by simp [app, flat, app_flat r g]
theorem app_count : ∀ (f g : Fo), (f.app g).count = f.count + g.count
 | .none, g => by simp [app, count]
 | .tree n k r, g => by simp only [app, count, app_count r g]; omega
theorem app_wf : ∀ (f g : Fo), (f.app g).wf ↔ f.wf ∧ g.wf
 | .none, g => by simp [app, wf]
 | .tree n k r, g => by simp only [app, wf, app_wf r g]; constructor <;> (intro h; simp_all)
theorem split : ∀ (f : Fo) (i : Nat), i ≤ f.count → ∃ g h : Fo, f = g.app h ∧ g.count = i
 | f, 0, _ => ⟨.none, f, rfl, rfl⟩
 | .none, i + 1, h => by simp [count] at h
 | .tree n k r, i + 1, h => by
   obtain ⟨g, h', e, hc⟩ := split r i (by simp [count] at h; omega)
   exact ⟨.tree n k g, h', by rw [e]; rfl, by simp [count, hc]⟩
theorem count_le : ∀ (f : Fo), f.count ≤ f.flat.length
 | .none => Nat.le_refl _
 | .tree n k r => by
   have := count_le r
   simp only [count, flat, List.length_cons, List.length_append]
   omega
theorem deep_le : ∀ (f : Fo), f.deep ≤ f.flat.length
 | .none => Nat.le_refl _
 | .tree n k r => by
   have := deep_le k
   have := deep_le r
   simp only [deep, flat, List.length_cons, List.length_append]
   omega
theorem end_of : ∀ (f : Fo) (L o pos : Nat) (suf : List Nd), f.wf → f.flat.length ≤ L → endGo L (f.flat ++ suf) (f.count + o) pos = endGo L suf o (pos + f.flat.length)
 | .none, L, o, pos, suf, _, _ => by simp [flat, count]
 | .tree n k r, L, o, pos, suf, h, hL => by
   obtain ⟨hn, hk, hr⟩ := h
   have hc := count_le k
   simp only [flat, List.length_cons, List.length_append] at hL
   have e : (Fo.tree n k r).count + o = r.count + o + 1 := by simp only [count]; omega
   rw [e]
   show endGo L (n :: (k.flat ++ r.flat) ++ suf) (r.count + o + 1) pos = _
   rw [List.cons_append, endGo, if_neg (by rw [hn]; omega), hn, Int.toNat_natCast, List.append_assoc, Nat.add_comm (r.count + o), end_of k L _ _ _ hk (by omega), end_of r L _ _ _ hr (by omega)]
   congr 1
   simp only [flat, List.length_cons, List.length_append]
   omega
theorem of_end : ∀ (r : List Nd) (L o pos : Nat), endGo L r o pos = pos + r.length → ∃ f : Fo, f.wf ∧ f.count = o ∧ f.flat = r
 | r, L, 0, pos, h => by
   rw [endGo_zero] at h
   have : r = [] := List.eq_nil_of_length_eq_zero (by omega)
   exact ⟨.none, trivial, rfl, this.symm⟩
 | [], L, o + 1, pos, h => by
   simp [endGo] at h
 | n :: r, L, o + 1, pos, h => by
   rw [endGo] at h
   split at h
   · simp only [List.length_cons] at h
     omega
   · rename_i hk
     obtain ⟨f, hf, hc, he⟩ := of_end r L _ _ (by rw [h]; simp only [List.length_cons]; omega)
     obtain ⟨g, g', hs, hg⟩ := split f n.kids.toNat (by omega)
     rw [hs] at hf hc he
     rw [app_count] at hc
     obtain ⟨hw, hw'⟩ := (app_wf _ _).1 hf
     refine ⟨.tree n g g', ⟨by omega, hw, hw'⟩, by simp only [count]; omega, ?_⟩
     rw [flat, ← app_flat, he]
end Fo
theorem treeEnd_at {ns : List Nd} {p : Nat} {n : Nd} {k : Fo} {suf : List Nd} (hp : ns.drop p = n :: (k.flat ++ suf)) (hn : n.kids = k.count) (hk : k.wf) : treeEnd ns p = ((p + 1 + k.flat.length : Nat) : Int) := by
 have hl : (ns.drop p).length = 1 + k.flat.length + suf.length := by rw [hp]; simp only [List.length_cons, List.length_append]; omega
 rw [List.length_drop] at hl
 have e := Fo.end_of (.tree n k .none) ns.length 0 p suf ⟨hn, hk, trivial⟩ (by simp only [Fo.flat, List.length_cons, List.length_append, List.length_nil]; omega)
 rw [endGo_zero] at e
 simp only [Fo.flat, Fo.count, List.append_nil, List.cons_append, Nat.zero_add, Nat.add_zero, List.length_cons] at e
 rw [treeEnd, if_neg (by omega), Int.toNat_natCast, hp, e]
 omega
theorem tree_of {ns : List Nd} (h : treeEnd ns 0 = ns.length) : ∃ (n : Nd) (k : Fo), ns = n :: k.flat ∧ n.kids = k.count ∧ k.wf := by
 rw [treeEnd] at h
 split at h
 · omega
 · obtain ⟨f, hf, hc, he⟩ := Fo.of_end ns ns.length 1 0 (by simpa using h)
   match f, hf, hc, he with
   | .none, _, hc, _ => simp [Fo.count] at hc
   | .tree n k r, hf, hc, he =>
     have : r = .none := by
       cases r with
       | none => rfl
       | tree => simp [Fo.count] at hc
     subst this
     exact ⟨n, k, by rw [← he]; simp [Fo.flat], hf.1, hf.2.1⟩
end
section
open Go.RowKit Go.Maps Go.WideMaps
def keyBytes : List (List UInt8) :=
 [[98, 111, 111, 108], [99, 97, 115, 101], [100, 111], [101, 102, 102, 101, 99, 116], [101, 108, 115, 101], [101, 110, 100],
  [102, 97, 108, 115, 101], [102, 110], [102, 115, 116], [104, 97, 110, 100, 108, 101], [105, 102], [105, 110], [105, 110, 116],
  [108, 101, 116], [108, 105, 115, 116], [110, 105, 108], [111, 102], [112, 114, 105, 110, 116], [114, 101, 99], [114, 101, 116],
  [115, 104, 97, 108, 108, 111, 119], [115, 110, 100], [116, 104, 101, 110], [116, 114, 117, 101], [117, 110, 105, 116], [119, 105, 116, 104]]
def keyStrs : List ByteArray := keyBytes.map fun l => ⟨l.toArray⟩
def isKey (s : ByteArray) : Bool := keyBytes.any (fun l => l == s.toList)
theorem isKey_strs (s : ByteArray) : keyStrs.any (fun x => x.toList == s.toList) = isKey s := by
 unfold keyStrs isKey
 rw [List.any_map]
 congr 1
 funext l
 simp
theorem any_take_of {α : Type} (p : α → Bool) (ss : List α) (d : α) {k n : Nat} (hk : k < n) (hn : n ≤ ss.length) (h : p (ss.getD k d) = true) : (ss.take n).any p = true := by
 have e : ss.getD k d = ss[k]'(by omega) := by simp [List.getD, List.getElem?_eq_getElem (show k < ss.length by omega)]
 rw [List.any_eq_true]
 refine ⟨ss[k]'(by omega), ?_, e ▸ h⟩
 rw [List.mem_take_iff_getElem]
 exact ⟨k, by omega, rfl⟩
theorem any_take_none {α : Type} (p : α → Bool) (ss : List α) (d : α) {n : Nat} (hn : n ≤ ss.length) (h : ∀ j, j < n → p (ss.getD j d) = false) : (ss.take n).any p = false := by
 rw [List.any_eq_false]
 intro x hx
 rw [List.mem_take_iff_getElem] at hx
 obtain ⟨j, hj, rfl⟩ := hx
 have e : ss.getD j d = ss[j]'(by omega) := by simp [List.getD, List.getElem?_eq_getElem (show j < ss.length by omega)]
 have := h j (by omega)
 rw [e] at this
 simp [this]
set_option maxRecDepth 100000 in
theorem in_calls (b off n cap : Nat) (ss : List ByteArray) (s : ByteArray) (w : World) (hn : n ≤ ss.length) (hn2 : n ≤ 1000000)
   (hc : ∀ j, j < ss.length → w.cell? ⟨b, off + j, none⟩ = some (.string (ss.getD j ByteArray.empty))) :
   Calls Tryz.prog 79 #[.slice (some ⟨b, off, none⟩) n cap, .string s] w fun e w' => e = .returned (.bool ((ss.take n).any (fun x => x.toList == s.toList))) ∧ w' = w := by
 go_enter Tryz.func79, Tryz.ntmps79
 go_wp2
 go_loop [5] (fun i => ∃ k : Nat, k ≤ n ∧ i = .int .i64 k ∧ ∀ j, j < k → ((ss.getD j ByteArray.empty).toList == s.toList) = false) (fun i => n - (intOf i).toNat)
 case atStart => exact ⟨0, Nat.zero_le _, rfl, fun j hj => by omega⟩
 case round =>
   obtain ⟨k, hk, rfl, hno⟩ := hrel
   have hcx : k < n → w.cell? ⟨b, off + k, none⟩ = some (.string (ss.getD k ByteArray.empty)) := fun _ => hc k (by omega)
   have hno' : Hid (∀ j, j < k → ((ss.getD j ByteArray.empty).toList == s.toList) = false) := hno
   clear hno
   go_wp2
   · have hlt : k < n := by assumption
     have hyes : ((ss.getD k ByteArray.empty).toList == s.toList) = true := by assumption
     go_ret
     refine ⟨?_, rfl⟩
     rw [any_take_of (fun x : ByteArray => x.toList == s.toList) ss ByteArray.empty hlt hn hyes]
     rfl
   · rename_i hlt hnot
     refine ⟨⟨k + 1, by omega, by simp, fun j hj => ?_⟩, by simp [intOf]; omega⟩
     by_cases hjk : j < k
     · exact hno'.out j hjk
     · have : j = k := by omega
       subst this
       exact hnot
   · have hkn : k = n := by omega
     go_ret
     refine ⟨?_, rfl⟩
     rw [any_take_none (fun x : ByteArray => x.toList == s.toList) ss ByteArray.empty hn (hkn ▸ hno'.out)]
     rfl
set_option maxRecDepth 100000 in
theorem keys_calls (w : World) :
   Calls Tryz.prog 91 #[] w fun e w' => e = .returned (.slice (some ⟨w.heap.size, 0, none⟩) 26 26) ∧ w' = w.alloc (.cells (keyStrs.map Value.string).toArray 9) := by
 go_enter Tryz.func91, Tryz.ntmps91
 go_wp2
 go_ret
 exact ⟨rfl, rfl⟩
theorem keyCells (w : World) (j : Nat) (hj : j < keyStrs.length) : (w.alloc (.cells (keyStrs.map Value.string).toArray 9)).cell? ⟨w.heap.size, 0 + j, none⟩ = some (.string (keyStrs.getD j ByteArray.empty)) := by
 have h1 : (w.alloc (.cells (keyStrs.map Value.string).toArray 9)).heap[w.heap.size]? = some (.cells (keyStrs.map Value.string).toArray 9) := (MapKept.heap_alloc w _).1
 have e : keyStrs.getD j ByteArray.empty = keyStrs[j] := by simp [List.getD, List.getElem?_eq_getElem hj]
 rw [e]
 unfold World.cell?
 dsimp only
 rw [h1]
 simp [hj]
set_option maxRecDepth 100000 in
theorem specKey_calls (s : ByteArray) (w : World) :
   Calls Tryz.prog 77 #[.string s] w fun e w' => e = .returned (.bool (isKey s)) ∧ Below w.heap.size w w' := by
 go_enter Tryz.func77, Tryz.ntmps77
 go_wp2_with fail
 refine (keys_calls _).mono ?_
 rintro e w1 ⟨rfl, rfl⟩
 go_wp2_with fail
 refine (in_calls w.heap.size 0 26 26 keyStrs s _ (by decide) (by decide) (keyCells w)).mono ?_
 rintro e w1 ⟨rfl, rfl⟩
 go_wp2_with fail
 go_ret
 refine ⟨?_, (Below.refl _ _).alloc (Nat.le_refl _) _⟩
 rw [← isKey_strs s, show keyStrs.take 26 = keyStrs from rfl]
 rfl
end
section
open Go.RowKit
def letterZ (x : Int) : Bool := decide (97 ≤ x) && decide (x ≤ 122)
def digitZ (x : Int) : Bool := decide (48 ≤ x) && decide (x ≤ 57)
set_option maxRecDepth 100000 in
theorem letter17 (x : Int) (w : World) : Calls Tryz.prog 76 #[.int .u8 x] w fun e w' => e = .returned (.bool (letterZ x)) ∧ w = w' := by
 go_enter Tryz.func76, Tryz.ntmps76
 go_wp2
 · go_ret
   exact ⟨by simp [letterZ, *], rfl⟩
 · go_ret
   exact ⟨by have : ¬ 97 ≤ x := by omega
             simp [letterZ, this], rfl⟩
set_option maxRecDepth 100000 in
theorem digit18 (x : Int) (w : World) : Calls Tryz.prog 78 #[.int .u8 x] w fun e w' => e = .returned (.bool (digitZ x)) ∧ w = w' := by
 go_enter Tryz.func78, Tryz.ntmps78
 go_wp2
 · go_ret
   exact ⟨by simp [digitZ, *], rfl⟩
 · go_ret
   exact ⟨by have : ¬ 48 ≤ x := by omega
             simp [digitZ, this], rfl⟩
def bz (s : ByteArray) (j : Nat) : Int := if h : j < s.size then ((s[j]'h).toNat : Int) else 0
theorem bz_at (s : ByteArray) {j : Nat} (h : j < s.size) : bz s j = ((s[j]'h).toNat : Int) := by simp [bz, h]

end
section
open Go.RowKit Go.Maps Go.WideMaps
def nameAt (s : ByteArray) (j : Nat) : Bool := letterZ (bz s j) || (j != 0 && digitZ (bz s j))
def nameOk (s : ByteArray) : Bool := decide (1 ≤ s.size) && decide (s.size ≤ 8) && (List.range s.size).all (nameAt s) && !isKey s
theorem nameOk_size {s : ByteArray} (h : ¬ (1 ≤ s.size ∧ s.size ≤ 8)) : nameOk s = false := by
 by_cases h1 : 1 ≤ s.size
 · have h8 : ¬ s.size ≤ 8 := fun x => h ⟨h1, x⟩
   simp [nameOk, h8]
 · simp [nameOk, h1]
theorem nameOk_part {s : ByteArray} {j : Nat} (hj : j < s.size) (h : nameAt s j = false) : nameOk s = false := by
 have : (List.range s.size).all (nameAt s) = false := by
   rw [List.all_eq_false]
   exact ⟨j, List.mem_range.2 hj, by simp [h]⟩
 simp [nameOk, this]
theorem nameOk_key {s : ByteArray} (h : isKey s = true) : nameOk s = false := by simp [nameOk, h]
theorem nameOk_all {s : ByteArray} (h1 : 1 ≤ s.size) (h8 : s.size ≤ 8) (h : ∀ j, j < s.size → nameAt s j = true) : nameOk s = !isKey s := by
 have : (List.range s.size).all (nameAt s) = true := by
   rw [List.all_eq_true]
   exact fun j hj => h j (List.mem_range.1 hj)
 simp [nameOk, this, h1, h8]
set_option maxRecDepth 100000 in
theorem specName_calls (s : ByteArray) (w : World) :
   Calls Tryz.prog 45 #[.string s] w fun e w' => e = .returned (.bool (nameOk s)) ∧ Below w.heap.size w w' := by
 by_cases h1 : (s.size : Int) < 1
 · have hno : Hid (nameOk s = false) := nameOk_size (by omega)
   go_enter Tryz.func45, Tryz.ntmps45
   go_wp2_with fail
   go_ret
   exact ⟨by rw [hno.out]; rfl, Below.refl _ _⟩
 by_cases h8 : (8 : Int) < s.size
 · have hno : Hid (nameOk s = false) := nameOk_size (by omega)
   go_enter Tryz.func45, Tryz.ntmps45
   go_wp2_with fail
   go_ret
   exact ⟨by rw [hno.out]; rfl, Below.refl _ _⟩
 have hpos : 0 < s.size := by omega
 cases hL : letterZ ((s[0]'hpos).toNat : Int) with
 | false =>
   have hno : Hid (nameOk s = false) := nameOk_part hpos (by simp [nameAt, bz_at s hpos, hL])
   go_enter Tryz.func45, Tryz.ntmps45
   go_wp2_with (first | (go_at_call 76; refine (letter17 _ _).mono ?_; rintro e w1 ⟨rfl, rfl⟩))
   go_ret
   exact ⟨by rw [hno.out]; rfl, Below.refl _ _⟩
 | true =>
   cases hK : isKey s with
   | true =>
     have hno : Hid (nameOk s = false) := nameOk_key hK
     go_enter Tryz.func45, Tryz.ntmps45
     go_wp2_with (first | (go_at_call 76; refine (letter17 _ _).mono ?_; rintro e w1 ⟨rfl, rfl⟩) | (go_at_call 77; refine (specKey_calls s _).mono ?_; rintro e w1 ⟨rfl, hb1⟩))
     go_ret
     exact ⟨by rw [hno.out]; rfl, hb1⟩
   | false =>
     go_enter Tryz.func45, Tryz.ntmps45
     go_wp2_with (first | (go_at_call 76; refine (letter17 _ _).mono ?_; rintro e w1 ⟨rfl, rfl⟩) | (go_at_call 77; refine (specKey_calls s _).mono ?_; rintro e w1 ⟨rfl, hb1⟩))
     go_loop [3] (fun i => ∃ k : Nat, k ≤ s.size ∧ i = .int .i64 k ∧ ∀ j, j < k → (letterZ (bz s j) || digitZ (bz s j)) = true) (fun i => s.size - (intOf i).toNat)
     case atStart => exact ⟨0, Nat.zero_le _, rfl, fun j hj => by omega⟩
     case round =>
       obtain ⟨k, hk, rfl, hno⟩ := hrel
       have hno' : Hid (∀ j, j < k → (letterZ (bz s j) || digitZ (bz s j)) = true) := hno
       clear hno
       go_wp2_with (first | (go_at_call 76; refine (letter17 _ _).mono ?_; rintro e w2 ⟨rfl, rfl⟩) | (go_at_call 78; refine (digit18 _ _).mono ?_; rintro e w2 ⟨rfl, rfl⟩))
       · have hlt : k < s.size := by assumption
         have hyes : letterZ ((s[k]'hlt).toNat : Int) = true := by assumption
         refine ⟨⟨k + 1, by omega, by simp, fun j hj => ?_⟩, by simp [intOf]; omega⟩
         by_cases hjk : j < k
         · exact hno'.out j hjk
         · have e : j = k := by omega
           rw [e, bz_at s hlt, hyes]
           rfl
       · have hlt : k < s.size := by assumption
         have hnl : ¬ letterZ ((s[k]'hlt).toNat : Int) = true := by assumption
         have hnd : (!digitZ ((s[k]'hlt).toNat : Int)) = true := by assumption
         have hno : nameOk s = false := nameOk_part hlt (by rw [nameAt, bz_at s hlt]; simp at hnl hnd; simp [hnl, hnd])
         go_ret
         exact ⟨by rw [hno]; rfl, hb1⟩
       · have hlt : k < s.size := by assumption
         have hd : (!digitZ ((s[k]'hlt).toNat : Int)) = false := by assumption
         refine ⟨⟨k + 1, by omega, by simp, fun j hj => ?_⟩, by simp [intOf]; omega⟩
         by_cases hjk : j < k
         · exact hno'.out j hjk
         · have e : j = k := by omega
           rw [e, bz_at s hlt]
           simp at hd
           simp [hd]
       · have hge : ¬ k < s.size := by assumption
         have hyes : nameOk s = true := by
           rw [nameOk_all (by omega) (by omega) (fun j hj => ?_), hK]
           · rfl
           · have h := hno'.out j (by omega)
             unfold nameAt
             by_cases hj0 : j = 0
             · subst hj0
               rw [bz_at s hpos, hL]
               rfl
             · simp at h
               rcases h with h | h
               · simp [h]
               · simp [h, hj0]
         go_ret
         exact ⟨by rw [hyes]; rfl, hb1⟩

end
section
open Go.RowKit
def tab (l : List Int) (k : Int) (other : Int) : Int := if k < 1 ∨ 26 < k then other else l.getD k.toNat 0
def arityZ (k : Int) : Int := tab [0, 0, 0, 0, 0, 0, 1, 2, 2, 2, 3, 2, 2, 2, 2, 2, 2, 1, 1, 2, 3, 1, 1, -2, -2, 1, 1] k (-1)
def namesZ (k : Int) : Int := tab [0, 0, 0, 0, 0, 1, 1, 0, 1, 2, 0, 0, 0, 0, 0, 0, 0, 0, 0, 0, 2, 0, 1, 0, 0, 1, 3] k 0
def mostZ (k : Int) : Int := tab [0, 999999999, 1, 0, 0, 0, 0, 0, 0, 0, 0, 0, 0, 0, 0, 0, 0, 0, 0, 0, 0, 0, 0, 0, 0, 0, 0] k 0
theorem kinds (k : Int) : k = 1 ∨ k = 2 ∨ k = 3 ∨ k = 4 ∨ k = 5 ∨ k = 6 ∨ k = 7 ∨ k = 8 ∨ k = 9 ∨ k = 10 ∨ k = 11 ∨ k = 12 ∨ k = 13 ∨ k = 14 ∨ k = 15 ∨ k = 16 ∨ k = 17 ∨ k = 18 ∨ k = 19 ∨ k = 20 ∨ k = 21 ∨ k = 22 ∨ k = 23 ∨ k = 24 ∨ k = 25 ∨ k = 26 ∨ (k < 1 ∨ 26 < k) := by omega
theorem tab_other {l : List Int} {k o : Int} (h : k < 1 ∨ 26 < k) : tab l k o = o := by rw [tab, if_pos h]
set_option maxRecDepth 100000 in
theorem arity_calls (k : Int) (w : World) : Calls Tryz.prog 89 #[.int .i64 k] w fun e w' => e = .returned (.int .i64 (arityZ k)) ∧ w = w' := by
 rcases kinds k with rfl | rfl | rfl | rfl | rfl | rfl | rfl | rfl | rfl | rfl | rfl | rfl | rfl | rfl | rfl | rfl | rfl | rfl | rfl | rfl | rfl | rfl | rfl | rfl | rfl | rfl | h
 all_goals try (
   go_enter Tryz.func89, Tryz.ntmps89
   go_wp2
   go_ret
   exact ⟨rfl, rfl⟩)
 have e : arityZ k = -1 := tab_other h
 rw [e]
 go_enter Tryz.func89, Tryz.ntmps89
 go_wp2
 go_ret
 exact ⟨rfl, rfl⟩
set_option maxRecDepth 100000 in
theorem names_calls (k : Int) (w : World) : Calls Tryz.prog 90 #[.int .i64 k] w fun e w' => e = .returned (.int .i64 (namesZ k)) ∧ w = w' := by
 rcases kinds k with rfl | rfl | rfl | rfl | rfl | rfl | rfl | rfl | rfl | rfl | rfl | rfl | rfl | rfl | rfl | rfl | rfl | rfl | rfl | rfl | rfl | rfl | rfl | rfl | rfl | rfl | h
 all_goals try (
   go_enter Tryz.func90, Tryz.ntmps90
   go_wp2
   go_ret
   exact ⟨rfl, rfl⟩)
 have e : namesZ k = 0 := tab_other h
 rw [e]
 go_enter Tryz.func90, Tryz.ntmps90
 go_wp2
 go_ret
 exact ⟨rfl, rfl⟩

end
section
open Go.RowKit
theorem z62 {B : Nat} {a w : World} (h : Below B a w) (n : Nat) : Below B a (w.drewN n) := h.trans ⟨rfl, rfl, rfl, Nat.le_refl _, fun _ _ => rfl⟩
theorem z11 {w : World} {b : Nat} {a : Array Value} {t : TypeId} (h : w.heap[b]? = some (.cells a t)) (i : Nat) : w.cell? ⟨b, i, none⟩ = a[i]? := by
 simp [World.cell?, h]
theorem z13 {w : World} {b : Nat} {a : Array Value} {t : TypeId} (h : w.heap[b]? = some (.cells a t)) (i : Nat) : w.frozen? ⟨b, i, none⟩ = false := by
 simp [World.frozen?, h]
theorem z26 {w : World} {b : Nat} {o : Obj} (h : w.heap[b]? = some o) : b < w.heap.size := (Array.getElem?_eq_some_iff.1 h).1
theorem one_kept {w w2 : World} {o : Obj} (h : Below (w.alloc o).heap.size (w.alloc o) w2) : w2.heap[w.heap.size]? = some o ∧ Below w.heap.size w w2 := by
 have s1 : (w.alloc o).heap.size = w.heap.size + 1 := by simp
 exact ⟨(h.block _ (by rw [s1]; omega)).trans (MapKept.heap_alloc w _).1, ((Below.refl _ _).alloc (Nat.le_refl _) _).trans (h.mono (by rw [s1]; omega))⟩
theorem grown_of_below {w w' : World} (h : Below w.heap.size w w') (row : Option Nat) : w.grownBy w' row := ⟨h.os, h.tape, h.output, h.size, fun k hk _ => h.block k hk⟩
theorem owns_below {w w' : World} {base : Nat} {e : TypeId} {size : Nat} {v : Value} {n : Nat} {xs : List Value} (h : w.ownsRow base e size v n xs) (hb : Below w.heap.size w w') : w'.ownsRow base e size v n xs :=
 h.kept (grown_of_below hb none) (by cases hv : v.ownBlock <;> simp)
end
section
open Go.RowKit
theorem at_drop {ns : List Nd} {p : Nat} {n : Nd} {r : List Nd} (h : ns.drop p = n :: r) : p < ns.length ∧ ns.getD p default = n ∧ ns.drop (p + 1) = r := by
 have hp : p < ns.length := by
   have : (ns.drop p).length = r.length + 1 := by rw [h]; rfl
   rw [List.length_drop] at this
   omega
 rw [drop_at hp] at h
 exact ⟨hp, (List.cons.inj h).1, (List.cons.inj h).2⟩
theorem drop_past {ns : List Nd} {p : Nat} {a r : List Nd} (h : ns.drop p = a ++ r) : ns.drop (p + a.length) = r := by
 rw [← List.drop_drop, h, List.drop_left']
 rfl
theorem z31 {x : Nat} (h : x ≤ 1048576) : wrap64 ((x : Int) + 1) = ((x + 1 : Nat) : Int) := by
 unfold wrap64
 omega
theorem z60 {i kc : Nat} (h : (i : Int) < (kc : Int)) : kc - (intOf (.int .i64 ((i + 1 : Nat) : Int))).toNat < kc - (intOf (.int .i64 (i : Int))).toNat := by
 simp only [intOf, Int.toNat_natCast]
 omega
set_option maxHeartbeats 1000000 in
set_option maxRecDepth 100000 in
theorem deep_calls (b off cap : Nat) (ns : List Nd) (hm : ns.length ≤ 1048576) : ∀ (N : Nat) (n : Nd) (k : Fo) (suf : List Nd) (p : Nat) (w : World), NodesAt w b off ns → ns.drop p = n :: (k.flat ++ suf) → n.kids = k.count → k.wf → k.flat.length < N →
   Calls Tryz.prog 74 #[.slice (some ⟨b, off, none⟩) ns.length cap, .int .i64 p] w fun e w' => e = .returned (.int .i64 ((k.deep + 1 : Nat) : Int)) ∧ w = w' := by
 intro N
 induction N with
 | zero => intro n k suf p w _ _ _ _ h; omega
 | succ N ih =>
   intro n k suf p w hn hp hkc hk hN
   obtain ⟨hpl, hnd, hp1⟩ := at_drop hp
   have hkl : k.flat.length ≤ ns.length := by
     have : (ns.drop (p + 1)).length = k.flat.length + suf.length := by rw [hp1, List.length_append]
     rw [List.length_drop] at this
     omega
   have hkd := Fo.deep_le k
   have hkk := Fo.count_le k
   have c5 := hn p hpl 5 (by omega)
   rw [hnd] at c5
   simp only [Nd.cell] at c5
   rw [hkc] at c5
   have HI : Hid (∀ (n : Nd) (k : Fo) (suf : List Nd) (p : Nat) (w : World), _) := ih
   have HN : Hid (NodesAt w b off ns) := hn
   have HE : Hid (∀ at_ : Int, _) := fun at_ => z57 b off cap ns at_ w hn hm
   have H1 : Hid (ns.drop (p + 1) = k.flat ++ suf) := hp1
   have Hk : Hid k.wf := hk
   obtain ⟨len, hlen⟩ : ∃ len, ns.length = len := ⟨_, rfl⟩
   have Hlen : Hid (ns.length = len) := hlen
   rw [hlen] at hm hpl hkl ⊢
   clear ih hn hp hp1 hk hnd hlen hkc
   obtain ⟨kc, hkc⟩ : ∃ kc, k.count = kc := ⟨_, rfl⟩
   obtain ⟨kd, hkd'⟩ : ∃ kd, k.deep = kd := ⟨_, rfl⟩
   have Hkc : Hid (k.count = kc) := hkc
   have Hkd : Hid (k.deep = kd) := hkd'
   rw [hkc] at c5 hkk
   rw [hkd'] at hkd ⊢
   have HP : Hid (len ≤ 1048576 ∧ p < len ∧ k.flat.length ≤ len ∧ kc ≤ k.flat.length ∧ kd ≤ k.flat.length ∧ k.flat.length < N + 1) := ⟨hm, hpl, hkl, hkk, hkd, hN⟩
   clear hkc hkd' hm hkl hkk hkd hN
   go_enter Tryz.func74, Tryz.ntmps74
   go_wp2_with fail
   go_loop [5, 6, 7] (fun m q i => ∃ (m' q' i' : Nat) (r : Fo), m = .int .i64 m' ∧ q = .int .i64 q' ∧ i = .int .i64 i' ∧ Hid (ns.drop q' = r.flat ++ suf ∧ r.wf ∧ i' + r.count = kc ∧ max m' r.deep = kd ∧ r.flat.length < N + 1)) (fun _ _ i => kc - (intOf i).toNat)
   case atStart => exact ⟨0, p + 1, 0, k, rfl, by rw [z31 (by have := HP.out; omega)], rfl, H1.out, Hk.out, by rw [Hkc.out]; omega, by rw [Hkd.out]; omega, HP.out.2.2.2.2.2⟩
   case round =>
     obtain ⟨m', q', i', r, rfl, rfl, rfl, HR⟩ := hrel
     cases r with
     | none =>
       obtain ⟨_, _, h1, h2, _⟩ := HR.out
       simp only [Fo.count, Fo.deep] at h1 h2
       have h1' : i' = kc := by omega
       have h2' : m' = kd := by omega
       subst h1' h2'
       clear HR h1 h2
       go_wp2_with fail
       go_ret
       exact ⟨by rw [z31 (by have := HP.out; omega)]; rfl, rfl⟩
     | tree n' k' r' =>
       obtain ⟨h0, hw, h1, h2, h3⟩ := HR.out
       obtain ⟨hw0, hw1, hw2⟩ := hw
       simp only [Fo.count, Fo.deep, Fo.flat, List.length_cons, List.length_append] at h1 h2 h3
       simp only [Fo.flat, List.cons_append, List.append_assoc] at h0
       obtain ⟨hql, hqn, hq1⟩ := at_drop h0
       have hend : Hid (treeEnd ns q' = _) := treeEnd_at h0 hw0 hw1
       have hIH := HI.out n' k' (r'.flat ++ suf) q' w HN.out h0 hw0 hw1 (by omega)
       have hEn := HE.out q'
       rw [hend.out] at hEn
       rw [Hlen.out] at hEn hIH hql
       have hnew := drop_past hq1
       have hkd2 := Fo.deep_le k'
       have HC : Hid (Calls _ _ _ _ _) := hIH
       have HT : Hid (Calls _ _ _ _ _) := hEn
       have Hnew : Hid (ns.drop (q' + 1 + k'.flat.length) = r'.flat ++ suf ∧ r'.wf ∧ i' + 1 + r'.count = kc ∧ r'.flat.length < N + 1) := ⟨hnew, hw2, by omega, by omega⟩
       have hi : (i' : Int) < (kc : Int) := by omega
       have H2 : Hid (max m' (max (k'.deep + 1) r'.deep) = kd) := h2
       clear h1 h2 h3 hqn hkd2 hIH hEn HR hnew h0 hw0 hw1 hw2 hq1 hend HI HE HN Hkc Hkd H1 Hk Hlen
       clear hql
       generalize k'.deep + 1 = dd at *
       generalize q' + 1 + k'.flat.length = ee at *
       by_cases hgt : (m' : Int) < (dd : Int)
       · go_wp2_with (first | (go_at_call 74; refine HC.out.mono ?_; rintro e w2 ⟨rfl, rfl⟩) | (go_at_call 73; refine HT.out.mono ?_; rintro e w2 ⟨rfl, rfl⟩))
         have hi9 : i' ≤ 1048576 := by have := HP.out; omega
         rw [z31 hi9]
         exact ⟨⟨dd, ee, i' + 1, r', rfl, rfl, rfl, Hnew.out.1, Hnew.out.2.1, Hnew.out.2.2.1, by have := H2.out; omega, Hnew.out.2.2.2⟩, z60 hi⟩
       · go_wp2_with (first | (go_at_call 74; refine HC.out.mono ?_; rintro e w2 ⟨rfl, rfl⟩) | (go_at_call 73; refine HT.out.mono ?_; rintro e w2 ⟨rfl, rfl⟩))
         have hi9 : i' ≤ 1048576 := by have := HP.out; omega
         rw [z31 hi9]
         exact ⟨⟨m', ee, i' + 1, r', rfl, rfl, rfl, Hnew.out.1, Hnew.out.2.1, Hnew.out.2.2.1, by have := H2.out; omega, Hnew.out.2.2.2⟩, z60 hi⟩
end
section
open Go.RowKit
def role (pk : Int) (i : Nat) : Nat := if pk = 23 ∨ pk = 24 then (if 2 < i then 2 else i) else 0
def ok26 (n : Nd) : Bool := !(n.kind == 26 && n.b.toList == n.c.toList)
def headOk (n : Nd) (c : Nat) : Bool := ((n.kind == 25) == (c == 1)) && ((n.kind == 26) == (c == 2)) && ok26 n
def isIn (ops : List ByteArray) (s : ByteArray) : Bool := ops.any (fun x => x.toList == s.toList)
def specKids : Fo → Int → Nat → List ByteArray → Bool
 | .none, _, _, _ => true
 | .tree n k r, pk, i, ops => headOk n (role pk i) && (specKids k n.kind 0 [] && (if role pk i = 2 then !isIn ops n.a && specKids r pk (i + 1) (ops ++ [n.a]) else specKids r pk (i + 1) ops))
def clauseZ (k : Int) : Int := if k = 25 ∨ k = 26 then k else 0
def wantedZ (pk : Int) (i : Nat) : Int := if ¬ (pk = 23 ∨ pk = 24) ∨ i = 0 then 0 else if i = 1 then 25 else 26
def implKids : Fo → Int → Nat → List ByteArray → Bool
 | .none, _, _, _ => true
 | .tree n _ r, pk, i, ops => (clauseZ n.kind == wantedZ pk i) && (!isIn ops n.a && implKids r pk (i + 1) (if n.kind = 26 then ops ++ [n.a] else ops))
def implAll : Fo → Bool
 | .none => true
 | .tree n k r => implKids k n.kind 0 [] && (implAll k && implAll r)
theorem role_le (pk : Int) (i : Nat) : role pk i ≤ 2 := by
 unfold role
 split <;> (try split) <;> omega
theorem role_next {pk : Int} {i : Nat} (h : role pk i = 2) : role pk (i + 1) = 2 := by
 unfold role at *
 split at h
 · rename_i hp
   rw [if_pos hp]
   split at h <;> split <;> omega
 · omega
theorem wanted_role (pk : Int) (i : Nat) : wantedZ pk i = if role pk i = 1 then 25 else if role pk i = 2 then 26 else 0 := by
 unfold wantedZ role
 by_cases hp : pk = 23 ∨ pk = 24
 · simp only [hp, not_true_eq_false, false_or, if_true]
   by_cases h0 : i = 0
   · simp [h0]
   · by_cases h1 : i = 1
     · simp [h1]
     · have h2 : (if 2 < i then 2 else i) = 2 := by split <;> omega
       simp [h0, h1, h2]
 · simp [hp]
theorem head_eq (n : Nd) (pk : Int) (i : Nat) (h : ok26 n = true) : headOk n (role pk i) = (clauseZ n.kind == wantedZ pk i) := by
 have hr := role_le pk i
 rw [wanted_role, headOk, h, Bool.and_true]
 unfold clauseZ
 generalize role pk i = c at *
 have hc : c = 0 ∨ c = 1 ∨ c = 2 := by omega
 by_cases h5 : n.kind = 25
 · rw [h5]
   rcases hc with rfl | rfl | rfl <;> rfl
 · by_cases h6 : n.kind = 26
   · rw [h6]
     rcases hc with rfl | rfl | rfl <;> rfl
   · have e5 : (n.kind == 25) = false := by rw [beq_eq_false_iff_ne]; exact h5
     have e6 : (n.kind == 26) = false := by rw [beq_eq_false_iff_ne]; exact h6
     rw [e5, e6, if_neg (by omega)]
     rcases hc with rfl | rfl | rfl <;> rfl
theorem head_op {n : Nd} {c : Nat} (h : headOk n c = true) : n.kind = 26 ↔ c = 2 := by
 simp only [headOk, Bool.and_eq_true, beq_iff_eq] at h
 have := h.1.2
 constructor
 · intro hk
   rw [hk] at this
   simpa using this
 · intro hc
   rw [hc] at this
   simpa using this
theorem clauses_eq : ∀ (f : Fo) (pk : Int) (i : Nat) (ops : List ByteArray), f.flat.all ok26 = true → (ops = [] ∨ role pk i = 2) → specKids f pk i ops = (implKids f pk i ops && implAll f)
 | .none, _, _, _, _, _ => rfl
 | .tree n k r, pk, i, ops, ha, ho => by
   simp only [Fo.flat, List.all_cons, List.all_append, Bool.and_eq_true] at ha
   obtain ⟨hn, hk, hr⟩ := ha
   simp only [specKids, implKids, implAll]
   rw [clauses_eq k n.kind 0 [] hk (Or.inl rfl), ← head_eq n pk i hn]
   cases hh : headOk n (role pk i) with
   | false => simp
   | true =>
     have hop := head_op hh
     by_cases hc : role pk i = 2
     · rw [if_pos hc, if_pos (hop.2 hc), clauses_eq r pk (i + 1) _ hr (Or.inr (role_next hc))]
       cases isIn ops n.a <;> cases implKids k n.kind 0 [] <;> cases implAll k <;> cases implAll r <;> cases implKids r pk (i + 1) (ops ++ [n.a]) <;> rfl
     · have he : ops = [] := ho.resolve_right hc
       subst he
       rw [if_neg hc, if_neg (fun x => hc (hop.1 x)), clauses_eq r pk (i + 1) _ hr (Or.inl rfl)]
       have : isIn [] n.a = false := rfl
       rw [this]
       cases implKids k n.kind 0 [] <;> cases implAll k <;> cases implAll r <;> cases implKids r pk (i + 1) [] <;> rfl
theorem spec_unlike : ∀ (f : Fo) (pk : Int) (i : Nat) (ops : List ByteArray), specKids f pk i ops = true → f.flat.all ok26 = true
 | .none, _, _, _, _ => rfl
 | .tree n k r, pk, i, ops, h => by
   simp only [specKids, Bool.and_eq_true] at h
   obtain ⟨h1, h2, h3⟩ := h
   have e1 : ok26 n = true := by
     simp only [headOk, Bool.and_eq_true] at h1
     exact h1.2
   have e2 := spec_unlike k _ _ _ h2
   have e3 : r.flat.all ok26 = true := by
     split at h3
     · simp only [Bool.and_eq_true] at h3
       exact spec_unlike r _ _ _ h3.2
     · exact spec_unlike r _ _ _ h3
   simp only [Fo.flat, List.all_cons, List.all_append, e1, e2, e3, Bool.and_self]
def specTree (n : Nd) (k : Fo) (c : Nat) : Bool := headOk n c && specKids k n.kind 0 []
def implTree (n : Nd) (k : Fo) : Bool := (clauseZ n.kind == 0) && (implKids k n.kind 0 [] && implAll k)
theorem trees_eq (n : Nd) (k : Fo) : specTree n k 0 = (implTree n k && (n :: k.flat).all ok26) := by
 unfold specTree implTree
 rw [List.all_cons]
 cases hn : ok26 n with
 | false => simp [headOk, hn]
 | true =>
   have e : headOk n 0 = (clauseZ n.kind == 0) := head_eq n 0 0 hn
   rw [e]
   cases hk : k.flat.all ok26 with
   | true =>
     rw [clauses_eq k n.kind 0 [] hk (Or.inl rfl)]
     simp
   | false =>
     have : specKids k n.kind 0 [] = false := by
       cases hs : specKids k n.kind 0 [] with
       | false => rfl
       | true => rw [spec_unlike k _ _ _ hs] at hk; cases hk
     rw [this]
     simp
end
section
open Go.RowKit
def strs (ops : List ByteArray) : List Value := ops.map Value.string
set_option maxRecDepth 100000 in
theorem isIn_calls (B : Nat) (v : Value) (ops : List ByteArray) (s : ByteArray) (w : World) (hl : ops.length ≤ 1000000) (hown : w.ownsRow B 9 1 v ops.length (strs ops)) :
   Calls Tryz.prog 79 #[v, .string s] w fun e w' => e = .returned (.bool (isIn ops s)) ∧ w = w' := by
 cases ops with
 | nil =>
   obtain ⟨a, c, rfl⟩ : ∃ a c, v = .slice a 0 c := by
     rcases hown.2 with ⟨h, _⟩ | ⟨g, c, cur, h, _⟩
     · exact ⟨none, 0, h⟩
     · exact ⟨_, _, h⟩
   clear hown
   go_enter Tryz.func79, Tryz.ntmps79
   go_wp2_with fail
   go_loop [5] (fun i => i = .int .i64 0) (fun _ => 0)
   case atStart => rfl
   case round =>
     subst hrel
     go_wp2_with fail
     go_ret
     exact ⟨rfl, rfl⟩
 | cons x r =>
   obtain ⟨g, c, rfl⟩ : ∃ g c, v = .slice (some ⟨g, 0, none⟩) (x :: r).length c := by
     rcases hown.2 with ⟨_, h⟩ | ⟨g, c, cur, h, _⟩
     · simp at h
     · exact ⟨_, _, h⟩
   refine (in_calls g 0 (x :: r).length c (x :: r) s w (Nat.le_refl _) hl (fun j hj => ?_)).mono ?_
   · rw [Nat.zero_add, hown.cellAt j (by omega)]
     rw [strs, List.getElem?_map, List.getElem?_eq_getElem hj, List.getD, List.getElem?_eq_getElem hj]
     rfl
   · rintro e w' ⟨rfl, rfl⟩
     exact ⟨by rw [List.take_length]; rfl, rfl⟩
set_option maxHeartbeats 1000000 in
set_option maxRecDepth 100000 in
theorem clauses_bad (b off len cap : Nat) (n : Nd) (k : Fo) (p c : Nat) (w : World) (hpl : p < len)
   (c0 : w.cell? ⟨b, off + p * 6, none⟩ = some (.int .i64 n.kind)) (c1 : w.cell? ⟨b, off + p * 6 + 1, none⟩ = some (.int .i64 n.num)) (c2 : w.cell? ⟨b, off + p * 6 + 2, none⟩ = some (.string n.a))
   (c3 : w.cell? ⟨b, off + p * 6 + 3, none⟩ = some (.string n.b)) (c4 : w.cell? ⟨b, off + p * 6 + 4, none⟩ = some (.string n.c)) (c5 : w.cell? ⟨b, off + p * 6 + 5, none⟩ = some (.int .i64 n.kids)) (hc : c ≤ 2) (hh : headOk n c = false) :
   Calls Tryz.prog 75 #[.slice (some ⟨b, off, none⟩) len cap, .int .i64 p, .int .i64 c] w fun e w' => e = .returned (.bool (specTree n k c)) ∧ Below w.heap.size w w' := by
 have HO : Hid (specTree n k c = false) := by show _ = _; rw [specTree, hh]; rfl
 obtain ⟨kd, num, a, bb, cc, kids⟩ := n
 dsimp only at *
 have hc3 : c = 0 ∨ c = 1 ∨ c = 2 := by omega
 by_cases h5 : kd = 25
 · subst h5
   rcases hc3 with rfl | rfl | rfl
   all_goals first
     | (exfalso; simp [headOk, ok26] at hh; done)
     | (clear hh hc
        go_enter Tryz.func75, Tryz.ntmps75
        go_wp2_with fail
        go_ret
        exact ⟨by rw [HO.out]; rfl, (Below.refl _ _).alloc (Nat.le_refl _) _⟩)
 · by_cases h6 : kd = 26
   · subst h6
     clear h5
     rcases hc3 with rfl | rfl | rfl
     · clear hh hc
       go_enter Tryz.func75, Tryz.ntmps75
       go_wp2_with fail
       go_ret
       exact ⟨by rw [HO.out]; rfl, (Below.refl _ _).alloc (Nat.le_refl _) _⟩
     · clear hh hc
       go_enter Tryz.func75, Tryz.ntmps75
       go_wp2_with fail
       go_ret
       exact ⟨by rw [HO.out]; rfl, (Below.refl _ _).alloc (Nat.le_refl _) _⟩
     · have h4 : (bb.toList == cc.toList) = true := by
         simp [headOk, ok26] at hh
         simpa using hh
       clear hh hc
       go_enter Tryz.func75, Tryz.ntmps75
       go_wp2_with fail
       go_ret
       exact ⟨by rw [HO.out]; rfl, (Below.refl _ _).alloc (Nat.le_refl _) _⟩
   · have k5 : (kd == 25) = false := by rw [beq_eq_false_iff_ne]; exact h5
     have k6 : (kd == 26) = false := by rw [beq_eq_false_iff_ne]; exact h6
     rcases hc3 with rfl | rfl | rfl
     · exfalso
       simp [headOk, ok26, k5, k6] at hh
     all_goals
       clear hh hc h5 h6
       go_enter Tryz.func75, Tryz.ntmps75
       go_wp2_with fail
       go_ret
       exact ⟨by rw [HO.out]; rfl, (Below.refl _ _).alloc (Nat.le_refl _) _⟩
end
section
open Go.RowKit
theorem info_str : (Tryz.prog.info? 9).map (fun i => (i.zero, i.size, i.bytes)) = some (some (.string ⟨#[]⟩), 1, 16) := by kernel_rfl
theorem z64 (w : World) (n : Nat) (hn : n = w.heap.size) (a : Value) (t : TypeId) : ∀ j u, [a][j]? = some u → (w.alloc (.cells #[a] t)).cell? ((⟨n, 0, none⟩ : Addr).add j) = some u := by
 subst hn
 intro j u hj
 match j, hj with
 | 0, hj => simp at hj; subst hj; simp [Addr.add]
 | j + 1, hj => simp at hj
theorem kids_false {n : Nd} {k r : Fo} {pk : Int} {i : Nat} {ops : List ByteArray} (h : specTree n k (role pk i) = false) : specKids (.tree n k r) pk i ops = false := by
 simp only [specKids]
 unfold specTree at h
 rw [← Bool.and_assoc, h, Bool.false_and]
theorem kids_next {n : Nd} {k r : Fo} {pk : Int} {i : Nat} {ops : List ByteArray} (h : specTree n k (role pk i) = true) (hc : role pk i ≠ 2) : specKids (.tree n k r) pk i ops = specKids r pk (i + 1) ops := by
 simp only [specKids]
 unfold specTree at h
 rw [← Bool.and_assoc, h, Bool.true_and, if_neg hc]
theorem kids_in_false {n : Nd} {k r : Fo} {pk : Int} {i : Nat} {ops : List ByteArray} (hc : role pk i = 2) (hi : isIn ops n.a = true) : specKids (.tree n k r) pk i ops = false := by
 simp only [specKids]
 rw [if_pos hc, hi, Bool.not_true, Bool.false_and, Bool.and_false, Bool.and_false]
theorem kids_in_next {n : Nd} {k r : Fo} {pk : Int} {i : Nat} {ops : List ByteArray} (h : specTree n k (role pk i) = true) (hc : role pk i = 2) (hi : isIn ops n.a = false) : specKids (.tree n k r) pk i ops = specKids r pk (i + 1) (ops ++ [n.a]) := by
 simp only [specKids]
 unfold specTree at h
 rw [← Bool.and_assoc, h, Bool.true_and, if_pos hc, hi, Bool.not_false, Bool.true_and]
theorem role_cases (pk : Int) (i : Nat) (h : role pk i ≠ 2) : ((pk == 23) = false ∧ (pk == 24) = false ∧ role pk i = 0) ∨ ((pk == 23) = true ∧ (i : Int) ≤ 2 ∧ ((i : Int) == 2) = false ∧ role pk i = i) ∨ ((pk == 23) = false ∧ (pk == 24) = true ∧ (i : Int) ≤ 2 ∧ ((i : Int) == 2) = false ∧ role pk i = i) := by
 simp only [beq_iff_eq, beq_eq_false_iff_ne]
 unfold role at *
 split at h
 · rename_i hp
   rw [if_pos hp]
   split at h
   · exact absurd rfl h
   · rename_i h2
     rw [if_neg h2]
     omega
 · rename_i hp
   rw [if_neg hp]
   omega
theorem role_cases2 (pk : Int) (i : Nat) (h : role pk i = 2) : ((pk == 23) = true ∧ (i : Int) ≤ 2 ∧ ((i : Int) == 2) = true ∧ role pk i = i) ∨ ((pk == 23) = true ∧ (2 : Int) < (i : Int)) ∨ ((pk == 23) = false ∧ (pk == 24) = true ∧ (i : Int) ≤ 2 ∧ ((i : Int) == 2) = true ∧ role pk i = i) ∨ ((pk == 23) = false ∧ (pk == 24) = true ∧ (2 : Int) < (i : Int)) := by
 rw [h]
 simp only [beq_iff_eq, beq_eq_false_iff_ne]
 unfold role at h
 split at h
 · split at h <;> omega
 · omega
set_option maxHeartbeats 4000000 in
set_option maxRecDepth 100000 in
theorem clauses_calls (b off cap : Nat) (ns : List Nd) (hm : ns.length ≤ 1000000) : ∀ (N : Nat) (n : Nd) (k : Fo) (suf : List Nd) (p c : Nat) (w : World), c ≤ 2 → b < w.heap.size → NodesAt w b off ns → ns.drop p = n :: (k.flat ++ suf) → n.kids = k.count → k.wf → k.flat.length < N →
   Calls Tryz.prog 75 #[.slice (some ⟨b, off, none⟩) ns.length cap, .int .i64 p, .int .i64 c] w fun e w' => e = .returned (.bool (specTree n k c)) ∧ Below w.heap.size w w' := by
 intro N
 induction N with
 | zero => intro n k suf p c w _ _ _ _ _ _ h; omega
 | succ N ih =>
   intro n k suf p c w hc hbw hn hp hkc hk hN
   obtain ⟨hpl, hnd, hp1⟩ := at_drop hp
   have c0 := hn p hpl 0 (by omega)
   have c1 := hn p hpl 1 (by omega)
   have c2 := hn p hpl 2 (by omega)
   have c3 := hn p hpl 3 (by omega)
   have c4 := hn p hpl 4 (by omega)
   have c5 := hn p hpl 5 (by omega)
   rw [hnd] at c0 c1 c2 c3 c4 c5
   simp only [Nd.cell, Nat.add_zero] at c0 c1 c2 c3 c4 c5
   cases hh : headOk n c with
   | false => exact clauses_bad b off ns.length cap n k p c w hpl c0 c1 c2 c3 c4 c5 hc hh
   | true =>
     have hR : specTree n k c = specKids k n.kind 0 [] := by rw [specTree, hh]; rfl
     rw [hR]
     obtain ⟨R, hRd⟩ : ∃ R, specKids k n.kind 0 [] = R := ⟨_, rfl⟩
     rw [hRd]
     have hkl : k.flat.length ≤ ns.length := by
       have : (ns.drop (p + 1)).length = k.flat.length + suf.length := by rw [hp1, List.length_append]
       rw [List.length_drop] at this
       omega
     have hkk := Fo.count_le k
     rw [hkc] at c5
     have HS : Hid (specKids k n.kind 0 [] = R) := hRd
     have HI : Hid (∀ (n : Nd) (k : Fo) (suf : List Nd) (p c : Nat) (w : World), _) := ih
     have HN : Hid (NodesAt w b off ns) := hn
     have HM : Hid (ns.length ≤ 1048576) := by show _ ≤ _; omega
     have H1 : Hid (ns.drop (p + 1) = k.flat ++ suf) := hp1
     have Hk : Hid k.wf := hk
     obtain ⟨len, hlen⟩ : ∃ len, ns.length = len := ⟨_, rfl⟩
     have Hlen : Hid (ns.length = len) := hlen
     rw [hlen] at hm hpl hkl ⊢
     clear ih hn hp hp1 hk hnd hlen hkc hR hRd
     obtain ⟨kc, hkc⟩ : ∃ kc, k.count = kc := ⟨_, rfl⟩
     have Hkc : Hid (k.count = kc) := hkc
     rw [hkc] at c5 hkk
     have HP : Hid (len ≤ 1000000 ∧ p < len ∧ k.flat.length ≤ len ∧ kc ≤ k.flat.length ∧ k.flat.length < N + 1) := ⟨hm, hpl, hkl, hkk, hN⟩
     clear hkc hm hkl hkk hN
     have cases3 : (n.kind == 25) = true ∧ (n.kind == 26) = false ∧ c = 1 ∨ (n.kind == 25) = false ∧ (n.kind == 26) = true ∧ c = 2 ∧ (n.b.toList == n.c.toList) = false ∨ (n.kind == 25) = false ∧ (n.kind == 26) = false ∧ c = 0 := by
       have hc3 : c = 0 ∨ c = 1 ∨ c = 2 := by omega
       have hx : ¬ ((n.kind == 25) = true ∧ (n.kind == 26) = true) := by
         simp only [beq_iff_eq]
         omega
       simp only [headOk, ok26] at hh
       revert hh hx
       rcases hc3 with rfl | rfl | rfl <;> cases (n.kind == 25) <;> cases (n.kind == 26) <;> cases (n.b.toList == n.c.toList) <;> decide
     have cases4 : (n.kind == 25) = true ∧ (n.kind == 26) = false ∧ (c : Int) = 1 ∨ (n.kind == 25) = false ∧ (n.kind == 26) = true ∧ (c : Int) = 2 ∧ (n.b.toList == n.c.toList) = false ∨ (n.kind == 25) = false ∧ (n.kind == 26) = false ∧ (c : Int) = 0 := by
       rcases cases3 with ⟨k5, k6, rfl⟩ | ⟨k5, k6, rfl, h4⟩ | ⟨k5, k6, rfl⟩
       · exact Or.inl ⟨k5, k6, rfl⟩
       · exact Or.inr (Or.inl ⟨k5, k6, rfl, h4⟩)
       · exact Or.inr (Or.inr ⟨k5, k6, rfl⟩)
     clear hh hc cases3
     generalize (c : Int) = ci at cases4 ⊢
     clear c
     obtain ⟨kd, num, a, bb, cc, kids⟩ := n
     dsimp only at *
     have htt : (true != true) = false := rfl
     have hff : (false != false) = false := rfl
     rcases cases4 with ⟨k5, k6, rfl⟩ | ⟨k5, k6, rfl, h4⟩ | ⟨k5, k6, rfl⟩
     all_goals
       go_enter Tryz.func75, Tryz.ntmps75
       go_wp2_with fail
     all_goals
       clear c0 c1 c2 c3 c4 c5 htt hff
       go_loopw [8, 9, 10] (fun q o i wr => ∃ (q' i' : Nat) (r : Fo) (ops : List ByteArray), q = .int .i64 q' ∧ i = .int .i64 i' ∧ Hid (ns.drop q' = r.flat ++ suf ∧ r.wf ∧ i' + r.count = kc ∧ r.flat.length < N + 1 ∧ specKids r kd i' ops = R ∧ ops.length ≤ i') ∧ wr.ownsRow (w.heap.size + 1) 9 1 o ops.length (strs ops) ∧ wr.heap[w.heap.size]? = some (.cells #[.int .i64 kd, .int .i64 num, .string a, .string bb, .string cc, .int .i64 kc] 116) ∧ Below w.heap.size w wr) (fun _ _ i _ => kc - (intOf i).toNat)
       case atStart =>
         rw [z31 (by have := HP.out; omega)]
         exact ⟨p + 1, 0, k, [], rfl, rfl, ⟨H1.out, Hk.out, by rw [Hkc.out]; omega, HP.out.2.2.2.2, HS.out, Nat.le_refl _⟩, World.ownsRow_nil _ _ _ _, (MapKept.heap_alloc w _).1, (Below.refl _ _).alloc (Nat.le_refl _) _⟩
       case round =>
         obtain ⟨q', i', r, ops, rfl, rfl, HR, hown, eA, hnx⟩ := hrel
         have a0 := z11 eA 0
         have a5 := z11 eA 5
         simp at a0 a5
         have hltA := z26 eA
         cases r with
         | none =>
           obtain ⟨_, _, h1, _, h2, _⟩ := HR.out
           simp only [Fo.count, specKids] at h1 h2
           have h1' : i' = kc := by omega
           subst h1' h2
           clear HR h1 HI HN HM H1 Hk Hlen Hkc HS eA hown
           go_wp2_with fail
           go_ret
           exact ⟨rfl, hnx⟩
         | tree n' k' r' =>
           obtain ⟨h0, hw, h1, h3, h4', h5'⟩ := HR.out
           obtain ⟨hw0, hw1, hw2⟩ := hw
           simp only [Fo.count, Fo.flat, List.length_cons, List.length_append] at h1 h3
           simp only [Fo.flat, List.cons_append, List.append_assoc] at h0
           obtain ⟨hql, hqn, hq1⟩ := at_drop h0
           have hnw : NodesAt wr b off ns := HN.out.below hnx hbw
           have hend : treeEnd ns q' = _ := treeEnd_at h0 hw0 hw1
           have hnew := drop_past hq1
           have hrl := role_le kd i'
           have hIH := fun w (hb : b < w.heap.size) (hn : NodesAt w b off ns) => HI.out n' k' (r'.flat ++ suf) q' (role kd i') w hrl hb hn h0 hw0 hw1 (by omega)
           have hi : (i' : Int) < (kc : Int) := by omega
           have HX : Hid (ns.drop (q' + 1 + k'.flat.length) = r'.flat ++ suf ∧ r'.wf ∧ i' + 1 + r'.count = kc ∧ r'.flat.length < N + 1 ∧ ops.length ≤ i') := ⟨hnew, hw2, by omega, by omega, h5'⟩
           have HC : Hid (∀ w, _) := hIH
           have HQ : Hid (q' < ns.length ∧ ns.getD q' default = n' ∧ treeEnd ns q' = ((q' + 1 + k'.flat.length : Nat) : Int)) := ⟨hql, hqn, hend⟩
           have HV : Hid (specKids (.tree n' k' r') kd i' ops = R) := h4'
           have HW : Hid (NodesAt wr b off ns) := hnw
           clear HR h0 hw0 hw1 hw2 hql hqn hq1 hnw hend hnew hIH h4' h5' h1 h3 HI
           rw [Hlen.out] at HC
           by_cases hc2 : role kd i' = 2
           · have hf : specTree n' k' (role kd i') = false → Hid (R = false) := fun h => by rw [← HV.out]; exact kids_false h
             have ht : specTree n' k' (role kd i') = true → isIn ops n'.a = false → Hid (specKids r' kd (i' + 1) (ops ++ [n'.a]) = R) := fun h h' => by rw [← HV.out]; exact (kids_in_next h hc2 h').symm
             have hin : isIn ops n'.a = true → Hid (R = false) := fun h => by rw [← HV.out]; exact kids_in_false hc2 h
             rcases role_cases2 kd i' hc2 with ⟨k23, hi2, heq, hr⟩ | ⟨k23, hgt⟩ | ⟨k23, k24, hi2, heq, hr⟩ | ⟨k23, k24, hgt⟩
             all_goals
               try (exfalso; have e := eq_of_beq k23; subst e; revert k5 k6; decide)
               try (exfalso; have e := eq_of_beq k24; subst e; revert k5 k6; decide)
             all_goals
               first
                 | rw [hr] at HC hf ht
                 | rw [hc2] at HC hf ht
               try clear hr
               clear hc2 hrl HV
               go_wp2_with fail
               refine (HC.out wr (by have := hnx.size; omega) HW.out).mono ?_
               rintro e w3 ⟨rfl, hb3⟩
               have eA3 := (hb3.block w.heap.size hltA).trans eA
               have hltA3 := z26 eA3
               have hown3 := owns_below hown hb3
               have hnx3 := hnx.trans (hb3.mono hnx.size)
               have HT : Hid (∀ w, NodesAt w b off ns → _) := fun w h => z57 b off cap ns q' w h HM.out
               rw [HQ.out.2.2, Hlen.out] at HT
               have hqi : q' < len := by have := HQ.out.1; rw [Hlen.out] at this; exact this
               have q2 := HN.out.below hnx3 hbw q' HQ.out.1 2 (by omega)
               rw [HQ.out.2.1] at q2
               simp only [Nd.cell] at q2
               have hA := isIn_calls _ _ ops n'.a w3 (by have := HP.out; have := HX.out; omega) hown3
               clear HC HW hb3 eA hown hnx a0 a5 hltA
               generalize q' + 1 + k'.flat.length = ee at *
               cases hst : specTree n' k' _ with
               | false =>
                 have HF := hf hst
                 clear hf ht hin hA
                 go_wp2_with fail
                 go_ret
                 exact ⟨by rw [HF.out]; rfl, hnx3⟩
               | true =>
                 cases hii : isIn ops n'.a with
                 | true =>
                   have HF := hin hii
                   rw [hii] at hA
                   have HA : Hid (Calls _ _ _ _ _) := hA
                   clear hf ht hin hA
                   go_wp2_with fail
                   refine HA.out.mono ?_
                   rintro e w4 ⟨rfl, rfl⟩
                   go_wp2_with fail
                   go_ret
                   exact ⟨by rw [HF.out]; rfl, hnx3⟩
                 | false =>
                   have HG := ht hst hii
                   rw [hii] at hA
                   have HA : Hid (Calls _ _ _ _ _) := hA
                   clear hf ht hin hA
                   go_wp2_with fail
                   refine HA.out.mono ?_
                   rintro e w4 ⟨rfl, rfl⟩
                   have hol : Hid (ops.length ≤ 1048576) := by show _ ≤ _; have := HP.out; have := HX.out; omega
                   obtain ⟨i0, hinf, hz0, hz1, hz2⟩ := info_parts info_str
                   go_wp2_with (first
                     | (at_builtin; refine wpList_append_own _ rfl _ _ 75 rfl (w.heap.size + 1) 9 i0 (.string ⟨#[]⟩) 1 16 Tryz.underlying75 hinf hz0 hz1 hz2 rfl (by decide) _ _ _ rfl (hown3.alloc _) ⟨w3.heap.size, 0, none⟩ 1 1 [.string n'.a] rfl rfl (z64 _ _ rfl _ _) (fun x hx => by simp at hx; subst hx; rfl) (by have := hol.out; unfold maxLen; omega) (by have := hol.out; omega) (by simp; omega) ?_
                        intro v' w5 hown' hgrow hnil
                        have eA5 : Hid (w5.heap[w.heap.size]? = some (.cells #[.int .i64 kd, .int .i64 num, .string a, .string bb, .string cc, .int .i64 kc] 116)) := by
                          show w5.heap[w.heap.size]? = _
                          rw [hgrow.block w.heap.size (by simp; omega) (fun h => by have := (hown3.lt _ h.symm).1; omega), Below.heap_alloc _ _ _ hltA3]
                          exact eA3
                        have hnx5 : Below w.heap.size w w5 := Below.grown (hnx3.alloc (by omega) _) hgrow (by simp; omega) (fun j hj => by have := (hown3.lt _ hj).1; omega)
                        clear hgrow hnil eA3 hown3 hnx3 q2))
                   refine (HT.out w5 (HN.out.below hnx5 hbw)).mono ?_
                   rintro e w6 ⟨rfl, rfl⟩
                   go_wp2_with fail
                   have hi9 : i' ≤ 1048576 := by have := HP.out; omega
                   try rw [z31 hi9]
                   refine ⟨⟨ee, i' + 1, r', ops ++ [n'.a], rfl, rfl, ⟨HX.out.1, HX.out.2.1, HX.out.2.2.1, HX.out.2.2.2.1, HG.out, ?_⟩, ?_, eA5.out, hnx5⟩, z60 hi⟩
                   · rw [List.length_append]
                     exact Nat.succ_le_succ HX.out.2.2.2.2
                   · rw [List.length_append, strs, List.map_append]
                     exact hown'
           · have hf : specTree n' k' (role kd i') = false → Hid (R = false) := fun h => by rw [← HV.out]; exact kids_false h
             have ht : specTree n' k' (role kd i') = true → Hid (specKids r' kd (i' + 1) ops = R) := fun h => by rw [← HV.out]; exact (kids_next h hc2).symm
             rcases role_cases kd i' hc2 with ⟨k23, k24, hr⟩ | ⟨k23, hi2, hne, hr⟩ | ⟨k23, k24, hi2, hne, hr⟩
             all_goals
               try (exfalso; have e := eq_of_beq k23; subst e; revert k5 k6; decide)
               try (exfalso; have e := eq_of_beq k24; subst e; revert k5 k6; decide)
             all_goals
               rw [hr] at HC hf ht
               clear hc2 hrl hr HV
               go_wp2_with fail
               refine (HC.out wr (by have := hnx.size; omega) HW.out).mono ?_
               rintro e w3 ⟨rfl, hb3⟩
               have eA3 := (hb3.block w.heap.size hltA).trans eA
               have hown3 := owns_below hown hb3
               have hnx3 := hnx.trans (hb3.mono hnx.size)
               have hE := z57 b off cap ns q' w3 (HN.out.below hnx3 hbw) HM.out
               rw [HQ.out.2.2, Hlen.out] at hE
               have HT : Hid (Calls _ _ _ _ _) := hE
               clear HC HW hb3 eA hown hnx hE a0 a5 hltA
               generalize q' + 1 + k'.flat.length = ee at *
               cases hst : specTree n' k' _ with
               | false =>
                 have HF := hf hst
                 clear hf ht
                 go_wp2_with fail
                 go_ret
                 exact ⟨by rw [HF.out]; rfl, hnx3⟩
               | true =>
                 have HG := ht hst
                 clear hf ht
                 go_wp2_with fail
                 refine HT.out.mono ?_
                 rintro e w4 ⟨rfl, rfl⟩
                 go_wp2_with fail
                 have hi9 : i' ≤ 1048576 := by have := HP.out; omega
                 try rw [z31 hi9]
                 exact ⟨⟨ee, i' + 1, r', ops, rfl, rfl, ⟨HX.out.1, HX.out.2.1, HX.out.2.2.1, HX.out.2.2.2.1, HG.out, Nat.le_succ_of_le HX.out.2.2.2.2⟩, hown3, eA3, hnx3⟩, z60 hi⟩
end
section
open Go.RowKit Go.Deep
theorem below_two (w : World) (o1 o2 : Obj) : Below w.heap.size w ((w.alloc o1).alloc o2) := ((Below.refl _ _).alloc (Nat.le_refl _) o1).alloc (by simp) o2

end
end Go.Proofs.YtfmkgppkgmjpfaaGreatDoor
