/- palfreyref01.Left. -/
import Derived.Test.YteboeeijgpghoaaRef1
namespace Go.Proofs.Yteboeeijgpghoaa
open Go.RowKit
set_option linter.unusedVariables false
set_option linter.unusedSimpArgs false
theorem rot_one (x : BitVec 32) : (x.toNat * 2 + x.toNat / 2147483648) % 4294967296 = (x.rotateLeft 1).toNat := by
  rw [BitVec.rotateLeft_def]
  have h1 : (x <<< (1 % 32)) &&& (x >>> (32 - 1 % 32)) = 0#32 := by
    apply BitVec.eq_of_getLsbD_eq; intro i hi
    simp only [BitVec.getLsbD_and, BitVec.getLsbD_shiftLeft, BitVec.getLsbD_ushiftRight, BitVec.getLsbD_zero]
    by_cases h0 : i = 0
    · simp [h0]
    · have : x.getLsbD (32 - 1 % 32 + i) = false := BitVec.getLsbD_of_ge _ _ (by omega)
      simp [this]
  rw [← BitVec.add_eq_or_of_and_eq_zero _ _ h1, BitVec.toNat_add, BitVec.toNat_shiftLeft, BitVec.toNat_ushiftRight, Nat.shiftLeft_eq, Nat.shiftRight_eq_div_pow]
  simp only [Nat.reduceMod, Nat.reduceSub, Nat.reducePow, Nat.pow_one]
  omega
theorem rotl_succ (x : BitVec 32) (i : Nat) : rotl x ((i + 1 : Nat) : Int) = (rotl x (i : Int)).rotateLeft 1 := by
  have h := turns_math x (i : Int) 1
  rw [show ((i + 1 : Nat) : Int) = (i : Int) + 1 by omega, ← h]
  rfl
theorem rotl_mod (x : BitVec 32) (n : Int) (k : Nat) (hk : (n % 32) = (k : Int)) : rotl x (k : Int) = rotl x n := by
  unfold rotl; rw [← hk, Int.emod_emod_of_dvd n (by decide)]

theorem tmod32 (n : Int) : (wrap64 (n.tmod 32 + 32)).tmod 32 = (((n % 32).toNat : Nat) : Int) := by
  have h1 : -32 < n.tmod 32 ∧ n.tmod 32 < 32 ∧ (n.tmod 32) % 32 = n % 32 := by
    rw [Int.tmod_eq_emod]
    split <;> omega
  have h2 : wrap64 (n.tmod 32 + 32) = n.tmod 32 + 32 := by unfold wrap64; omega
  rw [h2, Int.tmod_eq_emod_of_nonneg (by omega)]
  omega
theorem mul2_div (x : BitVec 32) : (x.toNat : Int) * 2 % 4294967296 + (x.toNat : Int) / 2147483648 = ((x.rotateLeft 1).toNat : Int) := by
  rw [← rot_one]; have := x.isLt; omega

theorem refLeft_any (x : BitVec 32) (n : Int) (w : World) :
    Calls Try.prog 28 #[.int .u32 (x.toNat : Int), .int .i64 n] w fun e w' => e = .returned (.int .u32 ((rotl x n).toNat : Int)) ∧ w = w' := by
  have hk := tmod32 n
  have HR : Hid (rotl x (((n % 32).toNat : Nat) : Int) = rotl x n) := rotl_mod x n _ (by omega)
  have hk32 : (n % 32).toNat < 32 := by omega
  generalize (n % 32).toNat = k at hk HR hk32
  go_enter Try.func28, Try.ntmps28
  go_wp2_with fail
  go_loop [0, 6] (fun xv iv => ∃ i : Nat, i ≤ k ∧ iv = .int .i64 i ∧ ∃ y : BitVec 32, xv = .int .u32 (y.toNat : Int) ∧ Hid (y = rotl x (i : Int))) (fun _ i => k - (intOf i).toNat)
  case atStart => exact ⟨0, by omega, rfl, x, rfl, (rotl_zero x).symm⟩
  case round =>
    obtain ⟨i, hi, rfl, y, rfl, HY⟩ := hrel
    by_cases hlt : i < k
    · have hm := Lib.hid (mul2_div y)
      go_wp2
      go_round
      case rel => exact ⟨i + 1, by omega, by go_num, y.rotateLeft 1, congrArg _ hm.out, by show _ = _; rw [rotl_succ, HY.out]⟩
      case measure => simp [intOf]; omega
    · go_wp2
      go_ret
      have : i = k := by omega
      subst this
      exact ⟨ret_int (by rw [HY.out, HR.out]), rfl⟩

/-! ### Count -/
def cnt (c d : List UInt8) (j : Nat) : Nat := bigN (lastL c j) + bigN (lastL d j)
def cntRow (c d : List UInt8) (j : Nat) : List UInt8 := c.take (16 - j) ++ putBig (cnt c d j) j
end Go.Proofs.Yteboeeijgpghoaa
