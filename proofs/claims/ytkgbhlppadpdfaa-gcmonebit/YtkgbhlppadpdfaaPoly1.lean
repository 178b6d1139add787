/- Words of 64 bits: sums and products with what is carried (math/bits.Add64, Mul64; poly.onto). -/
import Derived.Test.YtkgbhlppadpdfaaSha4
import Derived.Test.YtkgbhlppadpdfaaReg3
import Derived.Laws.Externs
namespace Go.Proofs.Ytkgbhlppadpdfaa
open Go.RowKit
set_option maxRecDepth 100000
set_option linter.unusedVariables false
set_option linter.unusedSimpArgs false
theorem mul_math (x y x0 x1 y0 y1 : Nat) (hx : x = x0 + 4294967296 * x1) (hy : y = y0 + 4294967296 * y1) (h0 : x0 < 4294967296) (h1 : x1 < 4294967296) (h2 : y0 < 4294967296) (h3 : y1 < 4294967296) :
    let t := x1 * y0 + x0 * y0 / 4294967296
    let u := t % 4294967296 + x0 * y1
    t < 18446744073709551616 ∧ u < 18446744073709551616 ∧ x1 * y1 + t / 4294967296 + u / 4294967296 = x * y / 18446744073709551616 ∧ x0 * y0 < 18446744073709551616 ∧ x * y / 18446744073709551616 < 18446744073709551616 ∧ x1 * y1 + t / 4294967296 < 18446744073709551616 ∧ x1 * y0 < 18446744073709551616 ∧ x0 * y1 < 18446744073709551616 ∧ x1 * y1 < 18446744073709551616 := by
  have e : x * y = x0 * y0 + 4294967296 * (x1 * y0 + x0 * y1) + 18446744073709551616 * (x1 * y1) := by
    rw [hx, hy, Nat.add_mul, Nat.mul_add, Nat.mul_add]
    have e1 : x0 * (4294967296 * y1) = 4294967296 * (x0 * y1) := by rw [Nat.mul_left_comm]
    have e2 : 4294967296 * x1 * y0 = 4294967296 * (x1 * y0) := Nat.mul_assoc _ _ _
    have e3 : 4294967296 * x1 * (4294967296 * y1) = 18446744073709551616 * (x1 * y1) := by rw [Nat.mul_assoc, Nat.mul_left_comm x1, ← Nat.mul_assoc]
    rw [e1, e2, e3]; omega
  have b : ∀ a c, a < 4294967296 → c < 4294967296 → a * c ≤ 18446744065119617025 := by
    intro a c ha hc
    calc a * c ≤ 4294967295 * 4294967295 := Nat.mul_le_mul (by omega) (by omega)
      _ = 18446744065119617025 := by decide
  have b0 := b x0 y0 h0 h2
  have b1 := b x1 y0 h1 h2
  have b2 := b x0 y1 h0 h3
  have b3 := b x1 y1 h1 h3
  rw [e]
  generalize x0 * y0 = p0 at *
  generalize x1 * y0 = p1 at *
  generalize x0 * y1 = p2 at *
  generalize x1 * y1 = p3 at *
  simp only
  omega
theorem mask32 (x : Nat) (hx : x < 18446744073709551616) : bits .and .u64 (x : Int) 4294967295 = ((x % 4294967296 : Nat) : Int) := by
  rw [u64_and _ _ (by omega) (by omega) (by decide) (by decide)]
  have : (4294967295 : Int).toNat = 2 ^ 32 - 1 := by decide
  rw [this, Int.toNat_natCast, Nat.and_two_pow_sub_one_eq_mod]
theorem onto_math (a x y b : Nat) (ha : a < 18446744073709551616) (hb : b < 18446744073709551616) (hx : x < 18446744073709551616) (hy : y < 18446744073709551616) : a + x * y + b < 340282366920938463463374607431768211456 := by
  have : x * y ≤ 18446744073709551615 * 18446744073709551615 := Nat.mul_le_mul (by omega) (by omega)
  omega
end Go.Proofs.Ytkgbhlppadpdfaa
