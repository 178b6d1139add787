/- Rows turned there and back. -/
import Derived.Test.YtjmpbcfbfbjenaaAes11
namespace Go.Proofs.Ytjmpbcfbfbjenaa
open Go.RowKit
set_option maxRecDepth 100000
set_option linter.unusedVariables false
theorem four_masks (x : W32) : (x &&& 4278190080#32) ||| (x &&& 16711680#32) ||| (x &&& 65280#32) ||| (x &&& 255#32) = x := by
  rw [← BitVec.and_or_distrib_left, ← BitVec.and_or_distrib_left, ← BitVec.and_or_distrib_left]
  show x &&& 4294967295#32 = x
  have : (4294967295#32 : W32) = BitVec.allOnes 32 := by decide
  rw [this, BitVec.and_allOnes]
def rowsOf (a b c d : W32) : W32 := (a &&& 4278190080#32) ||| (b &&& 16711680#32) ||| (c &&& 65280#32) ||| (d &&& 255#32)
theorem sh1 (a b c d : W32) : shiftW 1 [a, b, c, d] = [rowsOf a b c d, rowsOf b c d a, rowsOf c d a b, rowsOf d a b c] := by
  simp [shiftW, shCol, rowsOf, List.range, List.range.loop]
theorem sh3 (a b c d : W32) : shiftW 3 [a, b, c, d] = [rowsOf a d c b, rowsOf b a d c, rowsOf c b a d, rowsOf d c b a] := by
  simp [shiftW, shCol, rowsOf, List.range, List.range.loop]
theorem and_mask (x m k r : W32) (h : m &&& k = r) : (x &&& m) &&& k = x &&& r := by rw [BitVec.and_assoc, h]
theorem row0 (a b c d : W32) : rowsOf a b c d &&& 4278190080#32 = a &&& 4278190080#32 := by
  unfold rowsOf
  rw [BitVec.and_or_distrib_right, BitVec.and_or_distrib_right, BitVec.and_or_distrib_right, and_mask a _ _ 4278190080#32 (by decide), and_mask b _ _ 0 (by decide), and_mask c _ _ 0 (by decide), and_mask d _ _ 0 (by decide)]; simp
theorem row1 (a b c d : W32) : rowsOf a b c d &&& 16711680#32 = b &&& 16711680#32 := by
  unfold rowsOf
  rw [BitVec.and_or_distrib_right, BitVec.and_or_distrib_right, BitVec.and_or_distrib_right, and_mask a _ _ 0 (by decide), and_mask b _ _ 16711680#32 (by decide), and_mask c _ _ 0 (by decide), and_mask d _ _ 0 (by decide)]; simp
theorem row2 (a b c d : W32) : rowsOf a b c d &&& 65280#32 = c &&& 65280#32 := by
  unfold rowsOf
  rw [BitVec.and_or_distrib_right, BitVec.and_or_distrib_right, BitVec.and_or_distrib_right, and_mask a _ _ 0 (by decide), and_mask b _ _ 0 (by decide), and_mask c _ _ 65280#32 (by decide), and_mask d _ _ 0 (by decide)]; simp
theorem row3 (a b c d : W32) : rowsOf a b c d &&& 255#32 = d &&& 255#32 := by
  unfold rowsOf
  rw [BitVec.and_or_distrib_right, BitVec.and_or_distrib_right, BitVec.and_or_distrib_right, and_mask a _ _ 0 (by decide), and_mask b _ _ 0 (by decide), and_mask c _ _ 0 (by decide), and_mask d _ _ 255#32 (by decide)]; simp
theorem rows_same (p q r s x : W32) (h0 : p &&& 4278190080#32 = x &&& 4278190080#32) (h1 : q &&& 16711680#32 = x &&& 16711680#32) (h2 : r &&& 65280#32 = x &&& 65280#32) (h3 : s &&& 255#32 = x &&& 255#32) : rowsOf p q r s = x := by
  unfold rowsOf; rw [h0, h1, h2, h3, four_masks]
theorem list4' {α : Type} {l : List α} (h : l.length = 4) : ∃ a b c d, l = [a, b, c, d] := by
  match l, h with
  | [a, b, c, d], _ => exact ⟨a, b, c, d, rfl⟩
theorem shift_31 (s : List W32) (h : s.length = 4) : shiftW 3 (shiftW 1 s) = s := by
  obtain ⟨a, b, c, d, rfl⟩ := list4' h
  rw [sh1, sh3]
  rw [rows_same _ _ _ _ a (row0 _ _ _ _) (row1 _ _ _ _) (row2 _ _ _ _) (row3 _ _ _ _), rows_same _ _ _ _ b (row0 _ _ _ _) (row1 _ _ _ _) (row2 _ _ _ _) (row3 _ _ _ _), rows_same _ _ _ _ c (row0 _ _ _ _) (row1 _ _ _ _) (row2 _ _ _ _) (row3 _ _ _ _), rows_same _ _ _ _ d (row0 _ _ _ _) (row1 _ _ _ _) (row2 _ _ _ _) (row3 _ _ _ _)]
theorem shift_13 (s : List W32) (h : s.length = 4) : shiftW 1 (shiftW 3 s) = s := by
  obtain ⟨a, b, c, d, rfl⟩ := list4' h
  rw [sh3, sh1]
  rw [rows_same _ _ _ _ a (row0 _ _ _ _) (row1 _ _ _ _) (row2 _ _ _ _) (row3 _ _ _ _), rows_same _ _ _ _ b (row0 _ _ _ _) (row1 _ _ _ _) (row2 _ _ _ _) (row3 _ _ _ _), rows_same _ _ _ _ c (row0 _ _ _ _) (row1 _ _ _ _) (row2 _ _ _ _) (row3 _ _ _ _), rows_same _ _ _ _ d (row0 _ _ _ _) (row1 _ _ _ _) (row2 _ _ _ _) (row3 _ _ _ _)]
end Go.Proofs.Ytjmpbcfbfbjenaa
