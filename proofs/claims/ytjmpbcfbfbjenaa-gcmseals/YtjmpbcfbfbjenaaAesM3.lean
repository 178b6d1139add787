/- A column that is mixed four times is what it was. -/
import Derived.Test.YtjmpbcfbfbjenaaAes11
namespace Go.Proofs.Ytjmpbcfbfbjenaa
open Go.RowKit
set_option maxRecDepth 100000
set_option linter.unusedVariables false
theorem rot_xor (x y : W32) (k : Nat) (hk : k < 32) : (x ^^^ y).rotateLeft k = x.rotateLeft k ^^^ y.rotateLeft k := by
  apply BitVec.eq_of_getLsbD_eq
  intro i hi
  rw [BitVec.getLsbD_xor, rot_get _ _ _ hk hi, rot_get _ _ _ hk hi, rot_get _ _ _ hk hi, BitVec.getLsbD_xor]
theorem rotl_xor (x y : W32) (n : Int) : rotl (x ^^^ y) n = rotl x n ^^^ rotl y n := rot_xor _ _ _ (by omega)
/-- four bits, apart -/
def four (a b c d : Bool) : W32 := (if a then 1#32 else 0#32) ||| (if b then 256#32 else 0#32) ||| (if c then 65536#32 else 0#32) ||| (if d then 16777216#32 else 0#32)
theorem and_one (x : W32) (k : Nat) (hk : k < 32) : x &&& BitVec.twoPow 32 k = if x.getLsbD k then BitVec.twoPow 32 k else 0#32 := by
  rw [BitVec.and_twoPow]
theorem four_of (x : W32) : x &&& 16843009#32 = four (x.getLsbD 0) (x.getLsbD 8) (x.getLsbD 16) (x.getLsbD 24) := by
  have e : (16843009#32 : W32) = BitVec.twoPow 32 0 ||| BitVec.twoPow 32 8 ||| BitVec.twoPow 32 16 ||| BitVec.twoPow 32 24 := by decide
  rw [e, BitVec.and_or_distrib_left, BitVec.and_or_distrib_left, BitVec.and_or_distrib_left, and_one x 0 (by omega), and_one x 8 (by omega), and_one x 16 (by omega), and_one x 24 (by omega)]
  have t0 : BitVec.twoPow 32 0 = 1#32 := by decide
  have t8 : BitVec.twoPow 32 8 = 256#32 := by decide
  have t16 : BitVec.twoPow 32 16 = 65536#32 := by decide
  have t24 : BitVec.twoPow 32 24 = 16777216#32 := by decide
  rw [t0, t8, t16, t24]; rfl
theorem four_mul : ∀ a b c d a' b' c' d' : Bool, four (a ^^ a') (b ^^ b') (c ^^ c') (d ^^ d') * 27#32 = four a b c d * 27#32 ^^^ four a' b' c' d' * 27#32 := by decide +kernel
theorem and_xor_r (x y m : W32) : (x ^^^ y) &&& m = (x &&& m) ^^^ (y &&& m) := by
  apply BitVec.eq_of_getLsbD_eq
  intro i hi
  rw [BitVec.getLsbD_and, BitVec.getLsbD_xor, BitVec.getLsbD_xor, BitVec.getLsbD_and, BitVec.getLsbD_and]
  cases x.getLsbD i <;> cases y.getLsbD i <;> cases m.getLsbD i <;> rfl
theorem dbl_xor (x y : W32) : dblW (x ^^^ y) = dblW x ^^^ dblW y := by
  unfold dblW
  have h1 : (x ^^^ y) >>> 7 = x >>> 7 ^^^ y >>> 7 := by rw [BitVec.ushiftRight_xor_distrib]
  have h2 : ((x ^^^ y) &&& 2139062143#32) <<< 1 = ((x &&& 2139062143#32) <<< 1) ^^^ ((y &&& 2139062143#32) <<< 1) := by
    rw [and_xor_r, BitVec.shiftLeft_xor_distrib]
  rw [h1, h2, four_of, four_of, four_of]
  simp only [BitVec.getLsbD_xor]
  rw [four_mul]
  generalize four _ _ _ _ * 27#32 = p
  generalize four _ _ _ _ * 27#32 = q
  ac_rfl
theorem mix_xor (x y : W32) : mixW (x ^^^ y) = mixW x ^^^ mixW y := by
  unfold mixW
  rw [rotl_xor, rotl_xor, rotl_xor, dbl_xor, dbl_xor]
  ac_rfl
def mix4 (x : W32) : W32 := mixW (mixW (mixW (mixW x)))
theorem mix4_xor (x y : W32) : mix4 (x ^^^ y) = mix4 x ^^^ mix4 y := by
  unfold mix4; rw [mix_xor, mix_xor, mix_xor, mix_xor]
theorem mix4_zero : mix4 0#32 = 0#32 := by decide +kernel
theorem mix4_bit : ∀ k : Fin 32, mix4 (BitVec.twoPow 32 k.1) = BitVec.twoPow 32 k.1 := by decide +kernel
def lowN (x : W32) : Nat → W32
  | 0 => 0#32
  | k + 1 => lowN x k ^^^ (x &&& BitVec.twoPow 32 k)
theorem mix4_low (x : W32) (k : Nat) (hk : k ≤ 32) : mix4 (lowN x k) = lowN x k := by
  induction k with
  | zero => exact mix4_zero
  | succ k ih =>
    rw [lowN, mix4_xor, ih (by omega), and_one x k (by omega)]
    split
    · rw [mix4_bit ⟨k, by omega⟩]
    · rw [mix4_zero]
theorem lowN_get (x : W32) (k i : Nat) (hi : i < 32) : (lowN x k).getLsbD i = (decide (i < k) && x.getLsbD i) := by
  induction k with
  | zero => simp [lowN]
  | succ k ih =>
    rw [lowN, BitVec.getLsbD_xor, ih, BitVec.getLsbD_and, BitVec.getLsbD_twoPow]
    by_cases h1 : i < k
    · simp [h1, show i < k + 1 by omega, show ¬ k = i by omega]
    · by_cases h2 : k = i
      · subst h2; simp [hi]
      · simp [h1, h2, show ¬ i < k + 1 by omega]
theorem lowN_all (x : W32) : lowN x 32 = x := by
  apply BitVec.eq_of_getLsbD_eq
  intro i hi
  rw [lowN_get x 32 i hi]; simp [hi]
theorem mix4_id (x : W32) : mixW (mixW (mixW (mixW x))) = x := by
  have := mix4_low x 32 (Nat.le_refl _)
  rw [lowN_all] at this; exact this
theorem unmix_mix (x : W32) : unmixW (mixW x) = x := mix4_id x
theorem mix_unmix (x : W32) : mixW (unmixW x) = x := mix4_id x
end Go.Proofs.Ytjmpbcfbfbjenaa
