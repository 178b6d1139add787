/- The chapter's example, by evaluation; the S-box at every byte. -/
import Derived.Test.YtjmpbcfbfbjenaaAes11
namespace Go.Proofs.Ytjmpbcfbfbjenaa
set_option maxRecDepth 100000
def exKey : List UInt8 := [0, 1, 2, 3, 4, 5, 6, 7, 8, 9, 10, 11, 12, 13, 14, 15]
def exText : List UInt8 := [0, 17, 34, 51, 68, 85, 102, 119, 136, 153, 170, 187, 204, 221, 238, 255]
def exBlock : List UInt8 := [105, 196, 224, 216, 106, 123, 4, 48, 216, 205, 183, 128, 112, 180, 197, 90]
theorem ex_enc : encL (expandL exKey) 10 exText = exBlock := by decide +kernel
theorem ex_dec : decL (expandL exKey) 10 exBlock = exText := by decide +kernel
theorem sub_inj : ∀ x y : Fin 256, sboxL.getD x.1 0 = sboxL.getD y.1 0 → x = y := by decide +kernel
theorem sub_ne : ∀ x : Fin 256, (sboxL.getD x.1 0).toNat ≠ x.1 ∧ (sboxL.getD x.1 0).toNat ≠ 255 - x.1 := by decide +kernel
end Go.Proofs.Ytjmpbcfbfbjenaa
