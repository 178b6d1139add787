/- The contracts of sha.Start, sha.Pad. -/
import Derived.Test.YtjmpbcfbfbjenaaSha4
namespace Go.Proofs.Ytjmpbcfbfbjenaa
open Go.RowKit
set_option maxRecDepth 100000
set_option linter.unusedVariables false
set_option linter.unusedSimpArgs false

def startL : List W32 := [1779033703, 3144134277, 1013904242, 2773480762, 1359893119, 2600822924, 528734635, 1541459225]
/-- how many bytes stand ahead of the length in what is put behind n bytes -/
def padK (n : Nat) : Nat := 64 - (n % 64 + 8) % 64
def padL (n : Nat) : List UInt8 := 128 :: List.replicate (padK n - 1) 0 ++ putBig (8 * n % 18446744073709551616) 8
theorem padK_pos (n : Nat) : 1 ≤ padK n ∧ padK n ≤ 64 := by unfold padK; omega
theorem padL_len (n : Nat) : (padL n).length = padK n + 8 := by have := padK_pos n; simp [padL, putBig_len]; omega
theorem own_heap {w : World} {base g n : Nat} {bs : List UInt8} (h : w.heap[g]? = some (.cells (bs.map bv).toArray 5 (0, 0))) (hb : base ≤ g) (hl : bs.length = n) (hn : n ≤ maxLen) : w.ownsRow base 5 1 (.slice (some ⟨g, 0, none⟩) n n) n (bs.map bv) := by
  refine ⟨by simp [hl], .inr ⟨g, n, _, rfl, hb, h, Nat.le_refl _, hn, by simp [hl], ?_⟩⟩
  simp [hl, List.take_of_length_le]
theorem pad_first (k : Nat) (hk : 1 ≤ k) : (List.replicate k (Value.int .u8 0)).set 0 (.int .u8 128) = ((128 :: List.replicate (k - 1) 0 : List UInt8)).map bv := by
  obtain ⟨j, rfl⟩ : ∃ j, k = j + 1 := ⟨k - 1, by omega⟩
  simp [List.replicate_succ, bv]

end Go.Proofs.Ytjmpbcfbfbjenaa
