/- The contract of (*Keys).Encrypt. -/
import Derived.Test.YtfcnahbbieldfaaDoorAes9
import Derived.Test.YtfcnahbbieldfaaDoorAes4
import Derived.Test.YtfcnahbbieldfaaDoorAes6
namespace Go.Proofs.YtfcnahbbieldfaaDoor
open Go.RowKit
set_option linter.unusedVariables false
set_option maxRecDepth 100000
set_option linter.unusedSimpArgs false
/-- a block behind i rounds -/
def encN (T : List UInt8) (ws : List W32) (b : List UInt8) : Nat → List W32
  | 0 => addW ws 0 (colsL b)
  | i + 1 => addW ws (i + 1) ((shiftW 1 ((encN T ws b i).map (subW T))).map mixW)
def encT (T : List UInt8) (ws : List W32) (n : Nat) (b : List UInt8) : List UInt8 := outL (addW ws n (shiftW 1 ((encN T ws b (n - 1)).map (subW T))))
def encL (ws : List W32) (n : Nat) (b : List UInt8) : List UInt8 := encT sboxL ws n b
theorem encN_len (T : List UInt8) (ws : List W32) (b : List UInt8) (i : Nat) (hw : ws.length = 60) (hi : i ≤ 14) : (encN T ws b i).length = 4 := by
  cases i with
  | zero => exact addW_len _ _ _ (colsL_len b) (by omega)
  | succ i => exact addW_len _ _ _ (by rw [List.length_map]; exact shiftW_len _ _) (by omega)
def zeros16 : List Value := (List.replicate 16 (0 : UInt8)).map bv
theorem zeros16_len : zeros16.length = 16 := rfl
end Go.Proofs.YtfcnahbbieldfaaDoor
