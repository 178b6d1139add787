/- The contract of aes.expanded. -/
import Derived.Test.YtfcnahbbieldfaaDoorAes2
namespace Go.Proofs.YtfcnahbbieldfaaDoor
open Go.RowKit
set_option linter.unusedVariables false
set_option maxRecDepth 100000
set_option linter.unusedSimpArgs false
/-- the words of a key, noughts behind, and the first constant; then a word more, i of them told -/
def keyRow (nk : Nat) (key : List UInt8) (i : Nat) : List W32 := (List.range i).map (wordAt key) ++ List.replicate (60 - i) 0
def lastW (T : List UInt8) (nk : Nat) (p : List W32 × W32) (i : Nat) : W32 :=
  if i % nk = 0 then subW T (rotl (p.1.getD (nk + i - 1) 0) 8) ^^^ p.2 else if i % nk = 4 then subW T (p.1.getD (nk + i - 1) 0) else p.1.getD (nk + i - 1) 0
def expStep (T : List UInt8) (nk : Nat) (p : List W32 × W32) (i : Nat) : List W32 × W32 :=
  (p.1.set (nk + i) (p.1.getD i 0 ^^^ lastW T nk p i), if i % nk = 0 then dblW p.2 else p.2)
def expN (T : List UInt8) (nk : Nat) (key : List UInt8) : Nat → List W32 × W32
  | 0 => (keyRow nk key nk, 16777216#32)
  | i + 1 => expStep T nk (expN T nk key i) i
def expandL (key : List UInt8) : List W32 := (expN sboxL (key.length / 4) key (4 * (key.length / 4 + 7) - key.length / 4)).1
theorem keyRow_len (nk : Nat) (key : List UInt8) (i : Nat) (hi : i ≤ 60) : (keyRow nk key i).length = 60 := by simp [keyRow]; omega
theorem keyRow_step (nk : Nat) (key : List UInt8) (i : Nat) (hi : i < 60) : (keyRow nk key i).set i (wordAt key i) = keyRow nk key (i + 1) := by
  unfold keyRow
  rw [List.range_succ, List.map_append, List.append_assoc, show 60 - i = (60 - (i + 1)) + 1 by omega, List.replicate_succ]
  rw [List.set_append_right _ _ (by simp)]
  simp
theorem expN_len (T : List UInt8) (nk : Nat) (key : List UInt8) (i : Nat) (hk : nk ≤ 60) : (expN T nk key i).1.length = 60 := by
  induction i with
  | zero => exact keyRow_len nk key nk hk
  | succ i ih => simp [expN, expStep, ih]
def zeros60 : List Value := List.replicate 60 (Value.int .u32 0)
theorem zeros60_len : zeros60.length = 60 := by unfold zeros60; exact List.length_replicate
theorem zeros_row (nk : Nat) (key : List UInt8) : zeros60 = (keyRow nk key 0).map wv := by unfold zeros60 keyRow; rw [List.map_append, List.map_replicate]; rfl
end Go.Proofs.YtfcnahbbieldfaaDoor
