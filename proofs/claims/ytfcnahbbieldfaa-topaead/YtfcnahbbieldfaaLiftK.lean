/- A key, a nonce and a counter that come in (layer 4). -/
import Derived.Test.YtfcnahbbieldfaaLift
import Derived.Test.YtfcnahbbieldfaaLiftC
import Derived.Deep.Strs
namespace Go.Proofs.Ytfcnahbbieldfaa
open Go.RowKit Go.ChangeShapes Go.WideShapes Go.ChangeAt
set_option maxRecDepth 100000
set_option linter.unusedVariables false
set_option linter.unusedSimpArgs false
def zCells (k n : List UInt8) (c : BitVec 32) : List Value := k.map bv ++ (n.map bv ++ [.int .u32 (c.toNat : Int)])
theorem split45 (L : List Value) (h : L.length = 45) : L = L.take 32 ++ ((L.drop 32).take 12 ++ (L.drop 44).take 1) := by
  have h1 := List.take_append_drop 32 L
  have h2 := List.take_append_drop 12 (L.drop 32)
  rw [List.drop_drop] at h2
  have h4 : (L.drop 44).take 1 = L.drop 44 := List.take_of_length_le (by simp; omega)
  rw [h4, show L.drop 44 = L.drop (32 + 12) from rfl, h2, h1]
end Go.Proofs.Ytfcnahbbieldfaa
