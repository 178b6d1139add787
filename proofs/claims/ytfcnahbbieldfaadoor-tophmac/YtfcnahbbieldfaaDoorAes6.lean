/- The contract of aes.shifted. -/
import Derived.Test.YtfcnahbbieldfaaDoorAes2
import Derived.StillTailTactics
namespace Go.Proofs.YtfcnahbbieldfaaDoor
open Go.RowKit
set_option linter.unusedVariables false
set_option maxRecDepth 100000
set_option linter.unusedSimpArgs false
/-- column c of the block s, each row turned round by n columns, the first r rows of it -/
def shCol (n : Nat) (s : List W32) (c : Nat) : Nat → W32
  | 0 => 0
  | r + 1 => shCol n s c r ||| (s.getD ((c + n * r) % 4) 0 &&& (4278190080#32 >>> (8 * r)))
def shiftW (n : Nat) (s : List W32) : List W32 := (List.range 4).map fun c => shCol n s c 4
def shN (n : Nat) (s : List W32) (c r : Nat) : List W32 := (List.range c).map (fun j => shCol n s j 4) ++ (shCol n s c r :: List.replicate (3 - c) 0)
def shD (n : Nat) (s : List W32) (c : Nat) : List W32 := (List.range c).map (fun j => shCol n s j 4) ++ List.replicate (4 - c) 0
theorem shD_N (n : Nat) (s : List W32) (c : Nat) (hc : c < 4) : shD n s c = shN n s c 0 := by
  unfold shD shN; rw [show 4 - c = (3 - c) + 1 by omega, List.replicate_succ]; rfl
theorem shN_D (n : Nat) (s : List W32) (c : Nat) (hc : c < 4) : shN n s c 4 = shD n s (c + 1) := by
  unfold shD shN; rw [List.range_succ, List.map_append, List.append_assoc, show 4 - (c + 1) = 3 - c by omega]; rfl
theorem shN_step (n : Nat) (s : List W32) (c r : Nat) : (shN n s c r).set c (shCol n s c (r + 1)) = shN n s c (r + 1) := by
  unfold shN; rw [List.set_append_right _ _ (by simp)]; simp
theorem shN_get (n : Nat) (s : List W32) (c r : Nat) : (shN n s c r).getD c 0 = shCol n s c r := by
  unfold shN; rw [List.getD_eq_getElem?_getD, List.getElem?_append_right (by simp)]; simp
theorem shN_len (n : Nat) (s : List W32) (c r : Nat) (hc : c < 4) : (shN n s c r).length = 4 := by simp [shN]; omega
theorem shD_len (n : Nat) (s : List W32) (c : Nat) (hc : c ≤ 4) : (shD n s c).length = 4 := by simp [shD]; omega
theorem shD_end (n : Nat) (s : List W32) : shD n s 4 = shiftW n s := by simp [shD, shiftW]
theorem shiftW_len (n : Nat) (s : List W32) : (shiftW n s).length = 4 := by simp [shiftW]
theorem shrK (e : Nat) (he : e ≤ 24) : (4278190080 : Int) / 2 ^ e = ((4278190080#32 >>> e).toNat : Int) := by
  rw [shr32]; rfl
end Go.Proofs.YtfcnahbbieldfaaDoor
