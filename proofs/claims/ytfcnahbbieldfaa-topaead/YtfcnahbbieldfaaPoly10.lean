/- poly: Sum; the law's example. -/
import Derived.Test.YtfcnahbbieldfaaPoly9
import Derived.Test.YtfcnahbbieldfaaReg4
namespace Go.Proofs.Ytfcnahbbieldfaa
open Go.RowKit
set_option maxRecDepth 100000
set_option linter.unusedVariables false
set_option linter.unusedSimpArgs false
theorem PAt.ext {w w' : World} {g r s : Nat} {m : List UInt8} (h : PAt w g r s m) (hb : Ext w w') : PAt w' g r s m := (hb.block _ (lt_of_heap h)).trans h
/-- the sum of bytes by a key -/
def polyL (key b : List UInt8) : List UInt8 := psumL (rOf key) (sOf key) b
theorem polyL_len (key b : List UInt8) : (polyL key b).length = 16 := psumL_len _ _ _
def keyEx : List UInt8 := [2, 0, 0, 0, 0, 0, 0, 0, 0, 0, 0, 0, 0, 0, 0, 0, 7, 0, 0, 0, 0, 0, 0, 0, 0, 0, 0, 0, 0, 0, 0, 0]
def sumEx1 : List UInt8 := [7, 0, 0, 0, 0, 0, 0, 0, 0, 0, 0, 0, 0, 0, 0, 0]
def sumEx2 : List UInt8 := [13, 2, 0, 0, 0, 0, 0, 0, 0, 0, 0, 0, 0, 0, 0, 0]
theorem polyEx1 : polyL keyEx [] = sumEx1 := by decide +kernel
theorem polyEx2 : polyL keyEx [3] = sumEx2 := by decide +kernel
end Go.Proofs.Ytfcnahbbieldfaa
