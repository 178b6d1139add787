/- The document's columns at a word of one byte (by the kernel). -/
import Derived.Test.YtjmpbcfbfbjenaaRefAM1
namespace Go.Proofs.Ytjmpbcfbfbjenaa
open Go.RowKit
set_option linter.unusedVariables false
set_option linter.unusedSimpArgs false
def placed (y i : Nat) : W32 := BitVec.ofNat 32 (y * 256 ^ i)
def unitB (y : UInt8) (i : Nat) : List UInt8 := (List.replicate 4 (0 : UInt8)).set (3 - i) y
theorem placed_wb : ∀ y : Fin 256, ∀ i : Fin 4, wb (placed y.1 i.1) = unitB (UInt8.ofNat y.1) i.1 := by decide +kernel
set_option maxRecDepth 100000 in
theorem mix_bytes8 : ∀ y : Fin 256, ∀ i : Fin 4, wb (mixW (placed y.1 i.1)) = col1 [2, 3, 1, 1] (wb (placed y.1 i.1)) := by decide +kernel
set_option maxRecDepth 100000 in
theorem unmix_bytes8 : ∀ y : Fin 256, ∀ i : Fin 4, wb (unmixW (placed y.1 i.1)) = col1 [14, 11, 13, 9] (wb (placed y.1 i.1)) := by decide +kernel
end Go.Proofs.Ytjmpbcfbfbjenaa
