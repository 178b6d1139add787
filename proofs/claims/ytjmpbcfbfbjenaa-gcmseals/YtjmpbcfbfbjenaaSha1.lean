/- SHA-256 in Lean, and the contracts of the small functions of package sha. -/
import Derived.Test.YtjmpbcfbfbjenaaBits1
import Derived.Test.YtjmpbcfbfbjenaaReg
namespace Go.Proofs.Ytjmpbcfbfbjenaa
open Go.RowKit
set_option maxRecDepth 100000
set_option linter.unusedVariables false
set_option linter.unusedSimpArgs false

abbrev W32 := BitVec 32
def wv (x : W32) : Value := .int .u32 (x.toNat : Int)
def turnL (x : W32) (i j k : Int) : W32 := rotl x (-i) ^^^ rotl x (-j) ^^^ rotl x (-k)
def shiftL (x : W32) (i j : Int) (k : Nat) : W32 := rotl x (-i) ^^^ rotl x (-j) ^^^ (x >>> k)
def chL (x y z : W32) : W32 := (x &&& y) ^^^ (~~~x &&& z)
def majL (x y z : W32) : W32 := (x &&& y) ^^^ (x &&& z) ^^^ (y &&& z)

theorem xor32 (x y : W32) : bits .xor .u32 (x.toNat : Int) (y.toNat : Int) = ((x ^^^ y).toNat : Int) := by
  rw [u32_xor_nat _ _ x.isLt y.isLt, BitVec.toNat_xor]
theorem and32 (x y : W32) : bits .and .u32 (x.toNat : Int) (y.toNat : Int) = ((x &&& y).toNat : Int) := by
  rw [u32_and_nat _ _ x.isLt y.isLt, BitVec.toNat_and]
theorem or32 (x y : W32) : bits .or .u32 (x.toNat : Int) (y.toNat : Int) = ((x ||| y).toNat : Int) := by
  rw [u32_or_nat _ _ x.isLt y.isLt, BitVec.toNat_or]

theorem shr32 (x : W32) (k : Nat) : ((x >>> k).toNat : Int) = (x.toNat : Int) / 2 ^ k := by
  rw [BitVec.toNat_ushiftRight, Nat.shiftRight_eq_div_pow]; simp
theorem not32 (x : W32) : bits .xor .u32 IntKind.u32.max (x.toNat : Int) = ((~~~x).toNat : Int) := by
  have : IntKind.u32.max = (((BitVec.allOnes 32).toNat : Nat) : Int) := by decide
  rw [this, xor32, BitVec.allOnes_xor]
theorem ch32 (x y z : W32) : bits .xor .u32 (bits .and .u32 (x.toNat : Int) (y.toNat : Int)) (bits .and .u32 (bits .xor .u32 IntKind.u32.max (x.toNat : Int)) (z.toNat : Int)) = ((chL x y z).toNat : Int) := by
  rw [and32, not32, and32, xor32]; rfl
theorem maj32 (x y z : W32) : bits .xor .u32 (bits .xor .u32 (bits .and .u32 (x.toNat : Int) (y.toNat : Int)) (bits .and .u32 (x.toNat : Int) (z.toNat : Int))) (bits .and .u32 (y.toNat : Int) (z.toNat : Int)) = ((majL x y z).toNat : Int) := by
  rw [and32, and32, and32, xor32, xor32]; rfl
end Go.Proofs.Ytjmpbcfbfbjenaa
