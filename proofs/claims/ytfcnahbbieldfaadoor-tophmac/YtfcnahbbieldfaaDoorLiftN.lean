/- A key, whether it is long, and an IV, that come in (layer 8). -/
import Derived.Test.YtfcnahbbieldfaaDoorLift
import Derived.Test.YtfcnahbbieldfaaDoorLiftC
import Derived.Deep.Strs
namespace Go.Proofs.YtfcnahbbieldfaaDoor
open Go.RowKit Go.ChangeShapes Go.WideShapes Go.ChangeAt
set_option maxRecDepth 100000
set_option linter.unusedVariables false
set_option linter.unusedSimpArgs false
def kCells (k : List UInt8) (b : Bool) (n : List UInt8) : List Value := k.map bv ++ ([.bool b] ++ n.map bv)
theorem split49 (L : List Value) (h : L.length = 49) : L = L.take 32 ++ ((L.drop 32).take 1 ++ (L.drop 33).take 16) := by
  have h1 := List.take_append_drop 32 L
  have h2 := List.take_append_drop 1 (L.drop 32)
  rw [List.drop_drop] at h2
  have h4 : (L.drop 33).take 16 = L.drop 33 := List.take_of_length_le (by simp; omega)
  rw [h4, show L.drop 33 = L.drop (32 + 1) from rfl, h2, h1]
end Go.Proofs.YtfcnahbbieldfaaDoor
