/- The contract of sha.Sum. -/
import Derived.Test.YtfcnahbbieldfaaSha8
namespace Go.Proofs.Ytfcnahbbieldfaa
open Go.RowKit
set_option maxRecDepth 100000
set_option linter.unusedVariables false
set_option linter.unusedSimpArgs false
def sumL (bs : List UInt8) : List UInt8 := finishL (wholeN startL bs (bs.length / 64)) (bs.drop (64 * (bs.length / 64))) bs.length
theorem sumL_len (bs : List UInt8) : (sumL bs).length = 32 := by
  rw [sumL, finishL, outL_len, wholeN_len _ _ _ (wholeN_len _ _ _ rfl)]
end Go.Proofs.Ytfcnahbbieldfaa
