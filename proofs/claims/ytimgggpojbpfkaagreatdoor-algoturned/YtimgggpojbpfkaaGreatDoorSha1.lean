/- SHA-256 in Lean, and the contracts of the small functions of package sha. -/
import Derived.Test.YtimgggpojbpfkaaGreatDoorBits1
import Derived.Test.YtimgggpojbpfkaaGreatDoorReg
namespace Go.Proofs.YtimgggpojbpfkaaGreatDoor
open Go.RowKit
set_option maxRecDepth 100000
set_option linter.unusedVariables false
set_option linter.unusedSimpArgs false

abbrev W32 := BitVec 32
def wv (x : W32) : Value := .int .u32 (x.toNat : Int)
def turnL (x : W32) (i j k : Int) : W32 := rotl x (-i) ^^^ rotl x (-j) ^^^ rotl x (-k)
def shiftL (x : W32) (i j : Int) (k : Nat) : W32 := rotl x (-i) ^^^ rotl x (-j) ^^^ (x >>> k)
def chL (x y z : W32) : W32 := (x &&& y) ^^^ (~~~x &&& z)
def majL (x y z : W32) : W32 := (x &&& y) ^^^ (x &&& z) ^^^ (y &&& z)

theorem xor32 (x y : W32) : bits .xor .u32 (x.toNat : Int) (y.toNat : Int) = ((x ^^^ y).toNat : Int) := by
  rw [u32_xor_nat _ _ x.isLt y.isLt, BitVec.toNat_xor]
theorem and32 (x y : W32) : bits .and .u32 (x.toNat : Int) (y.toNat : Int) = ((x &&& y).toNat : Int) := by
  rw [u32_and_nat _ _ x.isLt y.isLt, BitVec.toNat_and]
theorem or32 (x y : W32) : bits .or .u32 (x.toNat : Int) (y.toNat : Int) = ((x ||| y).toNat : Int) := by
  rw [u32_or_nat _ _ x.isLt y.isLt, BitVec.toNat_or]

theorem shr32 (x : W32) (k : Nat) : ((x >>> k).toNat : Int) = (x.toNat : Int) / 2 ^ k := by
  rw [BitVec.toNat_ushiftRight, Nat.shiftRight_eq_div_pow]; simp
theorem not32 (x : W32) : bits .xor .u32 IntKind.u32.max (x.toNat : Int) = ((~~~x).toNat : Int) := by
  have : IntKind.u32.max = (((BitVec.allOnes 32).toNat : Nat) : Int) := by decide
  rw [this, xor32, BitVec.allOnes_xor]
theorem ch32 (x y z : W32) : bits .xor .u32 (bits .and .u32 (x.toNat : Int) (y.toNat : Int)) (bits .and .u32 (bits .xor .u32 IntKind.u32.max (x.toNat : Int)) (z.toNat : Int)) = ((chL x y z).toNat : Int) := by
  rw [and32, not32, and32, xor32]; rfl
theorem maj32 (x y z : W32) : bits .xor .u32 (bits .xor .u32 (bits .and .u32 (x.toNat : Int) (y.toNat : Int)) (bits .and .u32 (x.toNat : Int) (z.toNat : Int))) (bits .and .u32 (y.toNat : Int) (z.toNat : Int)) = ((majL x y z).toNat : Int) := by
  rw [and32, and32, and32, xor32, xor32]; rfl
theorem turn_any (x : W32) (i j k : Int) (w : World) (hi : 0 ≤ i ∧ i ≤ 64) (hj : 0 ≤ j ∧ j ≤ 64) (hk : 0 ≤ k ∧ k ≤ 64) :
    Calls Tryz.prog 138 #[wv x, .int .i64 i, .int .i64 j, .int .i64 k] w fun e w' => e = .returned (wv (turnL x i j k)) ∧ w = w' := by
  unfold wv turnL
  have h1 := xor32 (rotl x (-i)) (rotl x (-j))
  have h2 := xor32 (rotl x (-i) ^^^ rotl x (-j)) (rotl x (-k))
  have H1 := Lib.hid h1
  have H2 := Lib.hid h2
  clear h1 h2
  go_enter Tryz.func138, Tryz.ntmps138
  go_wp2_with fail
  refine (left_any x (-i) _).mono ?_
  rintro e w1 ⟨rfl, rfl⟩
  go_wp2_with fail
  refine (left_any x (-j) _).mono ?_
  rintro e w1 ⟨rfl, rfl⟩
  go_wp2_with fail
  refine (left_any x (-k) _).mono ?_
  rintro e w1 ⟨rfl, rfl⟩
  go_wp2
  go_ret
  exact ⟨ret_int (by rw [H1.out, H2.out]), rfl⟩

theorem shift_any (x : W32) (i j k : Int) (w : World) (hi : 0 ≤ i ∧ i ≤ 64) (hj : 0 ≤ j ∧ j ≤ 64) (hk : 0 ≤ k ∧ k ≤ 31) :
    Calls Tryz.prog 141 #[wv x, .int .i64 i, .int .i64 j, .int .i64 k] w fun e w' => e = .returned (wv (shiftL x i j k.toNat)) ∧ w = w' := by
  unfold wv shiftL
  have h1 := xor32 (rotl x (-i)) (rotl x (-j))
  have h2 := xor32 (rotl x (-i) ^^^ rotl x (-j)) (x >>> k.toNat)
  have H1 := Lib.hid h1
  have H2 := Lib.hid h2
  clear h1 h2
  go_enter Tryz.func141, Tryz.ntmps141
  go_wp2_with fail
  refine (left_any x (-i) _).mono ?_
  rintro e w1 ⟨rfl, rfl⟩
  go_wp2_with fail
  refine (left_any x (-j) _).mono ?_
  rintro e w1 ⟨rfl, rfl⟩
  go_wp2
  go_ret
  exact ⟨ret_int (by rw [H1.out, ← H2.out, shr32]), rfl⟩

theorem choose_any (x y z : W32) (w : World) :
    Calls Tryz.prog 139 #[wv x, wv y, wv z] w fun e w' => e = .returned (wv (chL x y z)) ∧ w = w' := by
  unfold wv
  have H := Lib.hid (ch32 x y z)
  generalize chL x y z = r at H ⊢
  go_enter Tryz.func139, Tryz.ntmps139
  go_wp2
  go_ret
  exact ⟨ret_int H.out, rfl⟩
theorem majority_any (x y z : W32) (w : World) :
    Calls Tryz.prog 140 #[wv x, wv y, wv z] w fun e w' => e = .returned (wv (majL x y z)) ∧ w = w' := by
  unfold wv
  have H := Lib.hid (maj32 x y z)
  generalize majL x y z = r at H ⊢
  go_enter Tryz.func140, Tryz.ntmps140
  go_wp2
  go_ret
  exact ⟨ret_int H.out, rfl⟩
end Go.Proofs.YtimgggpojbpfkaaGreatDoor
