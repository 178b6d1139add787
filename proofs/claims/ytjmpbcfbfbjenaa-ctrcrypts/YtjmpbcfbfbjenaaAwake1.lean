/- Contract of the law file's own 'awake' (the chapter's examples), and the law BitsTurns' walk. -/
import Derived.Test.YtjmpbcfbfbjenaaBits2
import Derived.OpenShut
namespace Go.Proofs.Ytjmpbcfbfbjenaa
open Go.RowKit
set_option maxRecDepth 100000
set_option linter.unusedVariables false

theorem row_two (w : World) (b1 b2 : UInt8) : RowAt (w.alloc (.cells #[.int .u8 (b1.toNat : Int), .int .u8 (b2.toNat : Int)] 5)) (w.heap.size + 1) (some ⟨w.heap.size, 0, none⟩) ([b1, b2].map bv) := by
  refine .inr ⟨w.heap.size, 0, rfl, by omega, fun j u hu => ?_⟩
  have := cell_of_heap (w := w.alloc (.cells ([b1, b2].map bv).toArray 5)) (heap_alloc_new' w _) (0 + j)
  exact this.trans (by simpa using hu)

theorem int_i16 {a : Int} (h : (Lit.int .i16 a).wf = true) : -32768 ≤ a ∧ a ≤ 32767 := by
  have := bounds_i16 h; omega
end Go.Proofs.Ytjmpbcfbfbjenaa