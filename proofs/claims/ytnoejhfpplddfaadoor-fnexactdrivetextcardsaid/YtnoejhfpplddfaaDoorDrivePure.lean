/- The text of a report, as plain bytes. -/
import Derived.Test.YtnoejhfpplddfaaDoorRepKit
namespace Go.Proofs.YtnoejhfpplddfaaDoor
open Go.RowKit

def numsText (ns : List Int) : List UInt8 := ns.flatMap (fun n => 32 :: Lib.itoa n)

def bytesOf (s : ByteArray) : List UInt8 := s.data.toList

theorem tx_of (s : ByteArray) : tx (bytesOf s) = s := by
  unfold tx bytesOf
  simp

theorem bytesOf_len (s : ByteArray) : (bytesOf s).length = s.size := by
  unfold bytesOf
  simp

/-- What stands behind the last stroke. -/
def endB (r : RpN) : List UInt8 := if r.en = 0 then bytesOf r.va else [101, 110, 100, 32] ++ Lib.itoa r.en

def driveZ (r : RpN) (tr : List Int) : List UInt8 :=
  if r.fc ≠ 0 then [102, 97, 117, 108, 116, 32] ++ (Lib.itoa r.fc ++ ([32, 97, 116, 32] ++ Lib.itoa r.fa))
  else if r.cd ≠ 0 then [116, 121, 112, 101, 32] ++ Lib.itoa r.cd
  else bytesOf r.ty ++ ([32, 124] ++ (numsText (tr.take 200) ++ ([32, 124, 32] ++ endB r)))

theorem itoa_long {n : Int} (h : Long n) : (Lib.itoa n).length ≤ 21 := by
  unfold Long at h
  have := Lib.itoa_length_le n (by omega) (by omega)
  omega

theorem numsText_len : ∀ ns : List Int, (∀ n ∈ ns, Long n) → (numsText ns).length ≤ ns.length * 22
  | [], _ => by simp [numsText]
  | n :: r, h => by
    have h1 := itoa_long (h n List.mem_cons_self)
    have h2 := numsText_len r (fun m hm => h m (List.mem_cons_of_mem _ hm))
    unfold numsText at *
    rw [List.flatMap_cons, List.length_append, List.length_cons, List.length_cons]
    omega

theorem numsText_next (tr : List Int) {k : Nat} (h : k < tr.length) : numsText (tr.take (k + 1)) = numsText (tr.take k) ++ (32 :: Lib.itoa (tr.getD k 0)) := by
  unfold numsText
  rw [List.take_succ_eq_append_getElem h, List.flatMap_append]
  simp [List.getD, h]
end Go.Proofs.YtnoejhfpplddfaaDoor
