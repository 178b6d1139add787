/- The reference's Out and Padded of layer 2. -/
import Derived.Test.YtebkkkjedkpgbaaRefS1
import Derived.Test.YtebkkkjedkpgbaaRef1
import Derived.Test.YtebkkkjedkpgbaaSha8
import Derived.Lib.SmallJoins
namespace Go.Proofs.Ytebkkkjedkpgbaa
open Go.RowKit
set_option linter.unusedVariables false
set_option linter.unusedSimpArgs false
theorem outL_snoc (h : List W32) (i : Nat) (hi : i < h.length) : outL (h.take (i + 1)) = outL (h.take i) ++ putBig (h.getD i 0).toNat 4 := by
  rw [List.take_succ_eq_append_getElem hi, outL, List.flatMap_append]
  simp [outL, List.getD, hi]
theorem own_ge {w : World} {base : Nat} {e : TypeId} {s : Nat} {v : Value} {n : Nat} {xs : List Value} (h : w.ownsRow base e s v n xs) {B : Nat} (hB : B ≤ base) : ∀ g, v.ownBlock = some g → B ≤ g := fun g hq => Nat.le_trans hB (h.lt g hq).1
theorem own_ne {w : World} {base : Nat} {e : TypeId} {s : Nat} {v : Value} {n : Nat} {xs : List Value} (h : w.ownsRow base e s v n xs) {g : Nat} (hB : g < base) : some g ≠ v.ownBlock := fun hq => by have := (h.lt g hq.symm).1; omega
theorem padTail (n : Nat) : padL n = 128 :: (List.replicate (padK n - 1) 0 ++ putBig (8 * n % 18446744073709551616) 8) := rfl
theorem rep_snoc (k : Nat) : List.replicate (k + 1) (0 : UInt8) = List.replicate k 0 ++ [0] := by rw [List.replicate_succ']
theorem one_row (w : World) (b : UInt8) : RowAt (w.alloc (.cells #[.int .u8 (b.toNat : Int)] 5)) (w.heap.size + 1) (some ⟨w.heap.size, 0, none⟩) ([b].map bv) :=
  row_of_heap (t := 5) (fr := (0, 0)) (heap_alloc_new' w _) (Nat.lt_succ_self _)
end Go.Proofs.Ytebkkkjedkpgbaa
