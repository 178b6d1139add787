/- The walk of the law GhashPowers. -/
import Derived.Test.YtjlljifllnmdoaaGha3
namespace Go.Proofs.Ytjlljifllnmdoaa
open Go.RowKit
set_option maxRecDepth 100000
set_option linter.unusedVariables false
set_option linter.unusedSimpArgs false
def powB (n : Nat) : List UInt8 := (List.replicate 16 (0 : UInt8)).set (n / 8) (UInt8.ofNat (128 / 2 ^ (n % 8)))
theorem powB_eq (n : Nat) (h : n < 128) : powB n = blkL (pw n) := by
  have : ∀ n : Fin 128, powB n.1 = blkL (pw n.1) := by decide +kernel
  exact this ⟨n, h⟩
theorem shr128 (k : Nat) (hk : k < 8) : (128 : Int) / 2 ^ k = ((UInt8.ofNat (128 / 2 ^ k)).toNat : Int) := by
  have : ∀ k : Fin 8, (128 : Int) / 2 ^ k.1 = ((UInt8.ofNat (128 / 2 ^ k.1)).toNat : Int) := by decide +kernel
  exact this ⟨k, hk⟩
theorem gmul_pow (n m : Nat) : gmulL (blkL (pw n)) (blkL (pw m)) = blkL (pw (n + m)) := by
  rw [gmulL, bigN_blk _ (pw_lt n), bigN_blk _ (pw_lt m), pw_mul]
end Go.Proofs.Ytjlljifllnmdoaa
