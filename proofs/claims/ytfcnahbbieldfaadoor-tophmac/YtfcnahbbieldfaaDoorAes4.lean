/- The contract of aes.columns. -/
import Derived.Test.YtfcnahbbieldfaaDoorAes3
import Derived.StillTailTactics
namespace Go.Proofs.YtfcnahbbieldfaaDoor
open Go.RowKit
set_option linter.unusedVariables false
set_option maxRecDepth 100000
set_option linter.unusedSimpArgs false
/-- a block as its four columns -/
def colsL (b : List UInt8) : List W32 := (List.range 4).map (wordAt b)
def colN (b : List UInt8) (i : Nat) : List W32 := (List.range i).map (wordAt b) ++ List.replicate (4 - i) 0
theorem colN_step (b : List UInt8) (i : Nat) (hi : i < 4) : (colN b i).set i (wordAt b i) = colN b (i + 1) := by
  unfold colN
  rw [List.range_succ, List.map_append, List.append_assoc, show 4 - i = (4 - (i + 1)) + 1 by omega, List.replicate_succ]
  rw [List.set_append_right _ _ (by simp)]
  simp
theorem colN_len (b : List UInt8) (i : Nat) (hi : i ≤ 4) : (colN b i).length = 4 := by simp [colN]; omega
theorem colN_zero (b : List UInt8) : ((colN b 0).map wv) = List.replicate 4 (Value.int .u32 0) := by simp [colN, wv]
theorem colN_end (b : List UInt8) : colN b 4 = colsL b := by simp [colN, colsL]
theorem colsL_len (b : List UInt8) : (colsL b).length = 4 := by simp [colsL]
end Go.Proofs.YtfcnahbbieldfaaDoor
