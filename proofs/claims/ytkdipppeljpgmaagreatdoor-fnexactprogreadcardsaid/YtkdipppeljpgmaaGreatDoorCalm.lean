/- A region that draws its order and whose operations and calls turn nothing of what lay there: one walk in the order of the text serves every order. -/
import Derived.Test.YtkdipppeljpgmaaGreatDoorKept
import Derived.BigQuiet
namespace Go.Proofs.YtkdipppeljpgmaaGreatDoor
open Go.RowKit

/-- A world in which all that lay below B in W lies as it lay. -/
structure Later (B : Nat) (W : World) where
  w : World
  h : Below B W w

instance (B : Nat) (W : World) : Nonempty (Later B W) := ⟨⟨W, Below.refl _ _⟩⟩

theorem Later.cell {B : Nat} {W : World} (x : Later B W) {p : Addr} {v : Value} (hp : p.block < B) (h : W.cell? p = some v) : x.w.cell? p = some v := (x.h.cell hp).trans h

theorem wp_region_calm {P : Program} {id : Nat} {Q : Exit → Act → World → Prop} {a : Act} {w : World} {l : List Oper} (B : Nat) (hm : P.follows .mixedOrders = true) (hB : Region.lexB .any l.toArray = true)
    (h : wpQuiet P l.toArray (fun w' => ∃ x : Later B w, w' = x.w) (fun a' => ∀ w', (∃ x : Later B w, w' = x.w) → Q .normal a' w') l a) : (Code.region id l.toArray true).wp P Q a w :=
  wp_region_quiet (C := fun w' => ∃ x : Later B w, w' = x.w) hm hB ⟨⟨w.drew, (Below.refl B w).drew⟩, rfl⟩ (by simpa using h)
end Go.Proofs.YtkdipppeljpgmaaGreatDoor
