/- The key of the laws through the layers: what comes in, its bytes; awake. -/
import Derived.Test.YtfcnahbbieldfaaDoorKeyZ
namespace Go.Proofs.YtfcnahbbieldfaaDoor
open Go.RowKit Go.ChangeShapes Go.WideShapes Go.ChangeAt
set_option maxRecDepth 100000
set_option linter.unusedVariables false
set_option linter.unusedSimpArgs false
set_option maxHeartbeats 1000000 in
theorem tawake_any (w : World) : Calls Tryd.prog 8 #[] w fun e w' => e = .returned (.bool true) ∧ Below w.heap.size w w' := by
  have BG := Lib.hid (fun W (hS : Sl W (some ⟨w.heap.size, 0, none⟩) 2 [1, 2]) => big_n (some ⟨w.heap.size, 0, none⟩) 2 2 [1, 2] W rfl hS.1 hS.2.1 hS.2.2)
  have hb : Hid (big [1, 2] = 258) := by show _ = _; decide
  rw [hb.out] at BG
  have N0 := Lib.hid (heap_alloc_new' w (.cells (([1, 2] : List UInt8).map bv).toArray 5))
  have B0 : Hid (Below w.heap.size w (w.alloc (.cells (([1, 2] : List UInt8).map bv).toArray 5))) := (Below.refl _ _).alloc (Nat.le_refl _) _
  have e1 : (([1, 2] : List UInt8).map bv).toArray = #[.int .u8 1, .int .u8 2] := rfl
  rw [e1] at N0 B0
  go_enter Tryd.func8, Tryd.ntmps8
  go_wp2_with fail
  generalize w.alloc _ = W0 at N0 B0 ⊢
  refine (BG.out W0 (sl_row (bs := [1, 2]) rfl (by omega) N0.out)).mono ?_
  rintro e w1 ⟨rfl, hb1⟩
  have B1 : Hid (Below w.heap.size w w1) := B0.out.step hb1
  clear hb1
  go_wp2
  go_ret
  exact ⟨rfl, B1.out⟩
end Go.Proofs.YtfcnahbbieldfaaDoor
