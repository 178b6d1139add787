/- The contract of sha.Out. -/
import Derived.Test.YtjmpbcfbfbjenaaSha5
namespace Go.Proofs.Ytjmpbcfbfbjenaa
open Go.RowKit
set_option maxRecDepth 100000
set_option linter.unusedVariables false
set_option linter.unusedSimpArgs false
def outL (h : List W32) : List UInt8 := h.flatMap fun x => putBig x.toNat 4
def outN (h : List W32) (i : Nat) : List UInt8 := outL (h.take i) ++ List.replicate (32 - 4 * i) 0
theorem outL_len (h : List W32) : (outL h).length = 4 * h.length := by
  induction h with
  | nil => rfl
  | cons x h ih => simp only [outL, List.flatMap_cons, List.length_append, putBig_len, List.length_cons] at ih ⊢; omega
theorem outN_len (h : List W32) (i : Nat) (hh : h.length = 8) (hi : i ≤ 8) : (outN h i).length = 32 := by
  simp [outN, outL_len, hh]; omega
theorem outN_step (h : List W32) (i : Nat) (hh : h.length = 8) (hi : i < 8) : splice ((outN h i).map bv) (4 * i) ((putBig (h.getD i 0).toNat 4).map bv) = (outN h (i + 1)).map bv := by
  have e0 : List.replicate (32 - 4 * i) (0 : UInt8) = List.replicate 4 0 ++ List.replicate (32 - 4 * (i + 1)) 0 := by
    rw [List.replicate_append_replicate]; congr 1; omega
  have e1 : (outN h i).map bv = (outL (h.take i)).map bv ++ (List.replicate 4 (0 : UInt8)).map bv ++ (List.replicate (32 - 4 * (i + 1)) (0 : UInt8)).map bv := by
    rw [outN, e0, List.map_append, List.map_append, List.append_assoc]
  have hl : ((outL (h.take i)).map bv).length = 4 * i := by rw [List.length_map, outL_len, List.length_take, hh]; omega
  have e2 : outL (h.take (i + 1)) = outL (h.take i) ++ putBig (h.getD i 0).toNat 4 := by
    have hi' : i < h.length := by omega
    rw [List.take_succ_eq_append_getElem hi', outL, List.flatMap_append]
    simp [outL, List.getD, hi']
  rw [e1, ← hl, splice_split _ _ _ _ (by simp [putBig_len]), outN, e2, List.map_append, List.map_append]
theorem outN_end (h : List W32) (hh : h.length = 8) : outN h 8 = outL h := by
  simp [outN, List.take_of_length_le, hh]
theorem arr32B : Try.prog.underlying 22 = some (.array 32 5) := Try.underlying22
theorem i32B : (Try.prog.info? 22).map (·.size) = some 32 := by kernel_rfl

end Go.Proofs.Ytjmpbcfbfbjenaa
