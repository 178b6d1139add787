/- The contract of the law file's own 'awake' (the chapter's example). -/
import Derived.Test.YtimgggpojbpfkaaGreatDoorSha10
import Derived.Test.YtimgggpojbpfkaaGreatDoorBits3
import Derived.Lib.SlBytesConst
namespace Go.Proofs.YtimgggpojbpfkaaGreatDoor
open Go.RowKit
set_option maxRecDepth 100000
set_option linter.unusedVariables false
set_option linter.unusedSimpArgs false
theorem abc4 : ∃ r : List UInt8, sumL [97, 98, 99] = 186 :: 120 :: 22 :: 191 :: r ∧ r.length = 28 := by
  have h := sum_abc
  have hl := sumL_len [97, 98, 99]
  generalize sumL [97, 98, 99] = Z at h hl
  match Z, h, hl with
  | a :: b :: c :: d :: r, h, hl =>
    simp at h hl
    obtain ⟨rfl, rfl, rfl, rfl⟩ := h
    exact ⟨r, rfl, hl⟩
theorem abc_row (w : World) : Sl (w.alloc (.cells #[.int .u8 97, .int .u8 98, .int .u8 99] 5 (3, 4))) (some ⟨w.heap.size, 0, none⟩) 3 [97, 98, 99] :=
  sl_row (g := w.heap.size) (fr := (3, 4)) (t := 5) rfl (by omega) (heap_alloc_new' w _)
end Go.Proofs.YtimgggpojbpfkaaGreatDoor
