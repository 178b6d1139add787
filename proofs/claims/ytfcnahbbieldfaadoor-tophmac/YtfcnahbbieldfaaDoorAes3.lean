/- The contract of aes.flat. -/
import Derived.Test.YtfcnahbbieldfaaDoorAes2
import Derived.StillTailTactics
namespace Go.Proofs.YtfcnahbbieldfaaDoor
open Go.RowKit
set_option linter.unusedVariables false
set_option maxRecDepth 100000
set_option linter.unusedSimpArgs false
def flatN (h : List W32) (i : Nat) : List UInt8 := outL (h.take i) ++ List.replicate (16 - 4 * i) 0
theorem flatN_len (h : List W32) (i : Nat) (hh : h.length = 4) (hi : i ≤ 4) : (flatN h i).length = 16 := by
  simp [flatN, outL_len, hh]; omega
theorem flatN_step (h : List W32) (i : Nat) (hh : h.length = 4) (hi : i < 4) : splice ((flatN h i).map bv) (4 * i) ((putBig (h.getD i 0).toNat 4).map bv) = (flatN h (i + 1)).map bv := by
  have e0 : List.replicate (16 - 4 * i) (0 : UInt8) = List.replicate 4 0 ++ List.replicate (16 - 4 * (i + 1)) 0 := by
    rw [List.replicate_append_replicate]; congr 1; omega
  have e1 : (flatN h i).map bv = (outL (h.take i)).map bv ++ (List.replicate 4 (0 : UInt8)).map bv ++ (List.replicate (16 - 4 * (i + 1)) (0 : UInt8)).map bv := by
    rw [flatN, e0, List.map_append, List.map_append, List.append_assoc]
  have hl : ((outL (h.take i)).map bv).length = 4 * i := by rw [List.length_map, outL_len, List.length_take, hh]; omega
  have e2 : outL (h.take (i + 1)) = outL (h.take i) ++ putBig (h.getD i 0).toNat 4 := by
    have hi' : i < h.length := by omega
    rw [List.take_succ_eq_append_getElem hi', outL, List.flatMap_append]
    simp [outL, List.getD, hi']
  rw [e1, ← hl, splice_split _ _ _ _ (by simp [putBig_len]), flatN, e2, List.map_append, List.map_append]
theorem flatN_end (h : List W32) (hh : h.length = 4) : flatN h 4 = outL h := by
  simp [flatN, List.take_of_length_le, hh]
end Go.Proofs.YtfcnahbbieldfaaDoor
