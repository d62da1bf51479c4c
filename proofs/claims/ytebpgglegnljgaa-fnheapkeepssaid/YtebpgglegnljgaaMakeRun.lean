/- An object is made, in plain words. -/
import Derived.Test.YtebpgglegnljgaaMakePure
namespace Go.Proofs.Ytebpgglegnljgaa
open Go.RowKit

/-- Words are written one behind the other, k of them. -/
def writesRun (fs : List Int) (a : Nat) : Nat → CN → CN
  | 0, s => s
  | k + 1, s => ⟨(writesRun fs a k s).ws.set (a + 1 + k) (fs.getD k 0), (writesRun fs a k s).h, (writesRun fs a k s).r, (writesRun fs a k s).t + 1⟩

/-- The first word is written, Top is there. -/
def headZ (kind : Int) (n a : Nat) (s : CN) : CN := ⟨s.ws.set a ((n : Int) * 16 + kind), { s.h with top := a }, s.r, s.t + 1⟩

/-- An object of n words, its fields with it, is written from Top down. -/
def putZ (kind : Int) (fs : List Int) (s : CN) : CN := writesRun fs (s.h.top - (1 + fs.length : Nat)).toNat fs.length (headZ kind (1 + fs.length) (s.h.top - (1 + fs.length : Nat)).toNat s)

/-- An object is made: roots, and the heap with it. -/
def makeRun (rs fs : List Int) (kind : Int) (m : Nat) (s0 : CN) : Option (List Int × CN) :=
  match scanRun m s0 with
  | none => none
  | some s =>
    if s.h.top - s.h.bottom < (1 + fs.length : Nat) then
      if s.h.scan = s.h.bottom then
        match movesRun rs rs.length { s with h := flipH s.h } with
        | none => none
        | some (rs', s1) => match movesRun fs fs.length s1 with
          | none => none
          | some (fs', s2) => if s2.h.top - s2.h.bottom < (1 + fs.length : Nat) then none else some (rs', putZ kind fs' s2)
      else none
    else some (rs, putZ kind fs s)

/-- What writing an object asks. -/
structure PutOk (N n : Nat) (s : CN) : Prop where
  len : s.ws.length = N
  t0 : 0 ≤ s.t
  t1 : s.t ≤ 70000
  b0 : 0 ≤ s.h.bottom
  room : s.h.bottom + n ≤ s.h.top
  top : s.h.top ≤ N
  N1 : N ≤ 8000

theorem Scn.put {S : List Int} {N n : Nat} {s : CN} (c : Scn S N s) (hr : ¬ s.h.top - s.h.bottom < n) : PutOk N n s := by
  have o1 := c.nums.s0
  have o2 := c.nums.s1
  have o3 := c.nums.len
  have o4 := c.nums.to
  have o5 := c.nums.b0
  have o6 := c.nums.bt
  have o7 := c.nums.te
  have e2 := c.t1
  have e3 := c.row.le
  have e4 := c.sc0
  exact ⟨c.len, c.t0, by omega, by omega, by omega, by omega, by omega⟩

theorem Mvs.put {S : List Int} {N n j : Nat} {s : CN} (c : Mvs S N j s) (hr : ¬ s.h.top - s.h.bottom < n) : PutOk N n s := by
  have o1 := c.nums.s0
  have o2 := c.nums.s1
  have o3 := c.nums.len
  have o4 := c.nums.to
  have o5 := c.nums.b0
  have o6 := c.nums.bt
  have o7 := c.nums.te
  have e2 := c.t1
  exact ⟨c.len, c.t0, by omega, by omega, by omega, by omega, by omega⟩

theorem writesRun_keeps (fs : List Int) (a : Nat) (s : CN) : ∀ k, (writesRun fs a k s).ws.length = s.ws.length ∧ (writesRun fs a k s).h = s.h ∧ (writesRun fs a k s).r = s.r ∧ (writesRun fs a k s).t = s.t + k
  | 0 => ⟨rfl, rfl, rfl, by simp [writesRun]⟩
  | k + 1 => by
    obtain ⟨h1, h2, h3, h4⟩ := writesRun_keeps fs a s k
    unfold writesRun
    refine ⟨by rw [List.length_set, h1], h2, h3, ?_⟩
    dsimp only
    rw [h4]
    push_cast
    omega

/-- A word that leads to an object in use may be moved, whatever the spaces are. -/
theorem used_aim_any {ws S : List Int} {h : HpN} {x : Int} (ok : OkHeap ws S h) (hx : wordOkZ S h x = true) (h' : HpN) : Aim S h' ws.length x := by
  rw [used_same ok] at hx
  intro hx8
  obtain ⟨a1, a2, a3, a4⟩ := specLeads_at hx8 hx
  exact ⟨a1, a2, fun _ => a3⟩
end Go.Proofs.Ytebpgglegnljgaa
