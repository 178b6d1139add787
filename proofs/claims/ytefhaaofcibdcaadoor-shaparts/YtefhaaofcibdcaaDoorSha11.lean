/- The contract of the law file's own 'awake' (the chapter's example). -/
import Derived.Test.YtefhaaofcibdcaaDoorSha10
import Derived.Test.YtefhaaofcibdcaaDoorBits3
import Derived.Lib.SlBytesConst
namespace Go.Proofs.YtefhaaofcibdcaaDoor
open Go.RowKit
set_option linter.unusedVariables false
set_option linter.unusedSimpArgs false
theorem abc4 : ∃ r : List UInt8, sumL [97, 98, 99] = 186 :: 120 :: 22 :: 191 :: r ∧ r.length = 28 := by
  have h := sum_abc
  have hl := sumL_len [97, 98, 99]
  generalize sumL [97, 98, 99] = Z at h hl
  match Z, h, hl with
  | a :: b :: c :: d :: r, h, hl =>
    simp at h hl
    obtain ⟨rfl, rfl, rfl, rfl⟩ := h
    exact ⟨r, rfl, hl⟩
theorem abc_row (w : World) : Sl (w.alloc (.cells #[.int .u8 97, .int .u8 98, .int .u8 99] 5 (3, 4))) (some ⟨w.heap.size, 0, none⟩) 3 [97, 98, 99] :=
  sl_row (g := w.heap.size) (fr := (3, 4)) (t := 5) rfl (by omega) (heap_alloc_new' w _)
set_option maxHeartbeats 1000000 in
theorem awake2_any (w : World) (hR : Rnd w) : Calls Tryd.prog 12 #[] w fun e w' => e = .returned (.bool true) ∧ Below w.heap.size w w' := by
  have HR := Lib.hid hR
  clear hR
  have HB0 := Lib.hid ((Below.refl w.heap.size w).alloc (Nat.le_refl _) (.cells #[.int .u8 97, .int .u8 98, .int .u8 99] 5 (3, 4)))
  have HR0 : Hid (Rnd _) := HR.out.ext HB0.out
  obtain ⟨r, hr, hrl⟩ := abc4
  have H4 := Lib.hid hr
  have HRL := Lib.hid hrl
  clear hr hrl
  have hcv := Lib.run_convert_bytes_const (P := Tryd.prog) w 22 5 #[.int .u8 97, .int .u8 98, .int .u8 99] 3 3 uT Tryd.underlying5
  go_enter Tryd.func12, Tryd.ntmps12
  go_wp2_with fail
  refine (sum_any _ 3 3 [97, 98, 99] _ rfl (abc_row w) HR0.out).mono ?_
  rw [H4.out]
  rintro e w1 ⟨rfl, hB1⟩
  have HB1 := Lib.hid (HB0.out.trans (hB1.mono (by simp)))
  clear hB1 HB0 HR0
  have hi32 : Hid ((Tryd.prog.info? 24).map (·.size) = some ((186 :: 120 :: 22 :: 191 :: r : List UInt8).map bv).length) := by show _ = _; rw [List.length_map]; simp only [List.length_cons, HRL.out]; exact i32B
  have hle : Hid ((List.replicate 32 (Value.int .u8 0)).length = ((186 :: 120 :: 22 :: 191 :: r : List UInt8).map bv).length) := by show _ = _; rw [List.length_map]; simp only [List.length_cons, HRL.out]; rfl
  go_wp2_with (first
    | (refine wpList_st rfl 24 (.tmp 1) (.tmp 4) rfl (store_arr (cs := (186 :: 120 :: 22 :: 191 :: r : List UInt8).map bv) (old := List.replicate 32 (Value.int .u8 0)) hi32.out (bv_one _) (heap_alloc_new' w1 _) hle.out) ?_
       generalize hV : World.setRow _ _ _ = W5
       have M0 := Lib.hid (heap_of_setRow hV (heap_alloc_new' w1 _))
       have MB := Lib.hid (HB1.out.trans (((Below.refl _ w1).alloc (Nat.le_refl _) _).trans (below_of_setRow hV (Nat.le_refl w1.heap.size) (by simp)) |>.mono HB1.out.size))
       have c0 : W5.cell? ⟨w1.heap.size, 0, none⟩ = some (.int .u8 186) := cell_of_heap M0.out 0
       have c1 : W5.cell? ⟨w1.heap.size, 1, none⟩ = some (.int .u8 120) := cell_of_heap M0.out 1
       have c2 : W5.cell? ⟨w1.heap.size, 2, none⟩ = some (.int .u8 22) := cell_of_heap M0.out 2
       have c3 : W5.cell? ⟨w1.heap.size, 3, none⟩ = some (.int .u8 191) := cell_of_heap M0.out 3
       clear hV)
    | fail)
  go_ret
  exact ⟨rfl, MB.out⟩
end Go.Proofs.YtefhaaofcibdcaaDoor
