/- Coming to several places, one behind the other, in the specification. -/
import Derived.Test.YtfmkgppkgmjpfaaDoorCheckCome
namespace Go.Proofs.YtfmkgppkgmjpfaaDoor
open Go.RowKit

/-- Places come to, one behind the other. -/
def rz (N : Nat) (r : Option (List Sq × List Nat)) (es : List (Int × Sq)) : Option (List Sq × List Nat) := es.foldl (fun r e => r.bind fun x => comeZ N x.1 x.2 e) r

theorem rz_none (N : Nat) : ∀ es, rz N none es = none
  | [] => rfl
  | _ :: r => rz_none N r

theorem rz_comes (N : Nat) : ∀ (es : List (Int × Sq)) (T : List Sq) (w : List Nat), rz N (some (T, w)) es = comesZ N T w es
  | [], _, _ => rfl
  | e :: r, T, w => by
    show rz N ((some (T, w)).bind fun x => comeZ N x.1 x.2 e) r = _
    rw [Option.bind_some, comesZ]
    cases h : comeZ N T w e with
    | none => exact rz_none N r
    | some x => exact rz_comes N r x.1 x.2

/-- The check where this has come of it so far. -/
def StC (W0 : World) (Mb : Nat) (vc : Value) (ge gs gp ce cs cp N : Nat) (r : Option (List Sq × List Nat)) (W : World) : Prop :=
  ∃ vw T w bad, Ck W0 Mb vc ge gs gp ce cs cp N T w vw bad W ∧ (r = none → bad = true) ∧ ∀ x, r = some x → bad = false ∧ T = x.1 ∧ w = x.2

theorem StC.of {W0 : World} {Mb : Nat} {vc : Value} {ge gs gp ce cs cp N : Nat} {T : List Sq} {w : List Nat} {vw : Value} {W : World} (h : Ck W0 Mb vc ge gs gp ce cs cp N T w vw false W) : StC W0 Mb vc ge gs gp ce cs cp N (some (T, w)) W :=
  ⟨vw, T, w, false, h, fun e => (by cases e), fun x e => (by cases e; exact ⟨rfl, rfl, rfl⟩)⟩

theorem StC.flagged {W0 : World} {Mb : Nat} {vc : Value} {ge gs gp ce cs cp N : Nat} {r : Option (List Sq × List Nat)} {W : World} (h : StC W0 Mb vc ge gs gp ce cs cp N r W) : StC W0 Mb vc ge gs gp ce cs cp N none (W.setCell ⟨Mb, 5, none⟩ (.bool true)) := by
  obtain ⟨vw, T, w, bad, hc, -, -⟩ := h
  exact ⟨vw, T, w, true, hc.flag true, fun _ => rfl, fun x e => (by cases e)⟩

theorem StC.blk {W0 : World} {Mb : Nat} {vc : Value} {ge gs gp ce cs cp N : Nat} {r : Option (List Sq × List Nat)} {W : World} (h : StC W0 Mb vc ge gs gp ce cs cp N r W) : ∃ v1 v2 v3 v4 b, W.heap[Mb]? = some (.cells #[vc, v1, v2, v3, v4, .bool b] 38) := by
  obtain ⟨vw, T, w, bad, hc, -, -⟩ := h
  exact ⟨_, _, _, _, _, hc.blk⟩

theorem StC.bel {W0 : World} {Mb : Nat} {vc : Value} {ge gs gp ce cs cp N : Nat} {r : Option (List Sq × List Nat)} {W : World} (h : StC W0 Mb vc ge gs gp ce cs cp N r W) : Below W0.heap.size W0 W := by
  obtain ⟨vw, T, w, bad, hc, -, -⟩ := h
  exact hc.bel

theorem come_st {W0 : World} {Mb : Nat} {ac : Option Addr} {cc ge gs gp ce cs cp N : Nat} {r : Option (List Sq × List Nat)} {W : World} (h : StC W0 Mb (.slice ac N cc) ge gs gp ce cs cp N r W) (a en st pa : Int) (h0 : 0 ≤ pa) (h1 : pa ≤ 2) :
    Calls Tryd.prog 22 #[.pointer (some ⟨Mb, 0, none⟩), .int .i64 a, .int .i64 en, .int .i64 st, .int .i64 pa] W fun e W' => e = .returned (.tuple #[]) ∧ StC W0 Mb (.slice ac N cc) ge gs gp ce cs cp N (r.bind fun x => comeZ N x.1 x.2 (a, ⟨en, st, pa + 1⟩)) W' ∧ Cz W W' := by
  obtain ⟨vw, T, w, bad, hc, k1, k2⟩ := h
  refine (come_calls hc a en st pa ⟨h0, h1⟩).mono ?_
  rintro e W' ⟨rfl, vw', T', w', bad', hc', hz, r1, r2, r3⟩
  refine ⟨rfl, ⟨vw', T', w', bad', hc', fun hn => ?_, fun x hx => ?_⟩, hz⟩
  · cases r with
    | none => exact r1 (k1 rfl)
    | some x =>
      obtain ⟨g1, g2, g3⟩ := k2 x rfl
      rw [Option.bind_some, ← g2, ← g3] at hn
      exact r2 g1 hn
  · cases r with
    | none => cases hx
    | some y =>
      obtain ⟨g1, g2, g3⟩ := k2 y rfl
      rw [Option.bind_some, ← g2, ← g3] at hx
      exact r3 g1 x hx

/-- What comes of going through a table. -/
def tabZ (cs : List In) (r : Option (List Sq × List Nat)) (a x : Int) : Option (List Sq × List Nat) :=
  if tableZ cs a = true then rz cs.length r (((cs.getD a.toNat default).a, ⟨x + 1, 0, 2⟩) :: (clausesZ cs a).map (fun c => (c.b, (⟨x + 2, 0, 2⟩ : Sq)))) else none
end Go.Proofs.YtfmkgppkgmjpfaaDoor
