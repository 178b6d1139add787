/- Laws of layer 6: the product of any two blocks. -/
import Derived.Test.YtdogfopnjojliaaRefG2
namespace Go.Proofs.Ytdogfopnjojliaa
open Go.RowKit
set_option linter.unusedVariables false
set_option linter.unusedSimpArgs false
set_option maxHeartbeats 1000000 in
theorem ghashMuls_walk (w : World) (a : List UInt8) (ha : a.length = 16) (b : List UInt8) (hb : b.length = 16) :
    Calls Try.prog 3 #[.agg (a.map bv).toArray, .agg (b.map bv).toArray] w fun e w' => e = .returned (.bool true) ∧ Below w.heap.size w w' := by
  have HA := Lib.hid (i16l a ha); have HB := Lib.hid (i16l b hb)
  have GM := Lib.hid (fun W => gmul_any a b W ha hb)
  have RM := Lib.hid (fun W => refGmul_any a b W ha hb)
  have hl : (gmulL a b).length = 16 := blkL_len _
  have hq := eql_bytes (P := Try.prog) arr16B Try.underlying5 s8 (gmulL a b) (gmulL a b) hl hl
  rw [show decide (gmulL a b = gmulL a b) = true from by simp] at hq
  generalize gmulL a b = Z at GM RM hq hl
  clear ha hb hl
  go_enter Try.func3, Try.ntmps3
  go_wp2_with fail
  have HX : Hid (Ext ((w.alloc (.cells (a.map bv).toArray 22)).alloc (.cells (b.map bv).toArray 22)) ((w.alloc (.cells (a.map bv).toArray 22)).alloc (.cells (b.map bv).toArray 22)).drew) := (Below.refl _ _).drew
  have F2 := Lib.hid (heap2 w (.cells (a.map bv).toArray 22) (.cells (b.map bv).toArray 22)).1
  have F3 := Lib.hid (heap2 w (.cells (a.map bv).toArray 22) (.cells (b.map bv).toArray 22)).2.1
  have FB := Lib.hid (heap2 w (.cells (a.map bv).toArray 22) (.cells (b.map bv).toArray 22)).2.2
  generalize (w.alloc (.cells (a.map bv).toArray 22)).alloc (.cells (b.map bv).toArray 22) = W0 at HX F2 F3 FB ⊢
  refine reg_start (by kernel_rfl) ?_
  try simp only [Act.put, List.setIfInBounds_toArray, List.set_cons_zero, List.set_cons_succ]
  generalize W0.drew = W1 at HX ⊢
  refine reg_load 0 (some 5) (fun W hW => load_arr arr16B rfl HA.out (((HX.out.trans hW).block _ (lt_of_heap F2.out)).trans F2.out)) rfl rfl rfl rfl (by kernel_rfl) (by kernel_rfl) (by kernel_rfl) (fun _ _ _ h => h) (by rfl) ?_
  simp only [Act.put, List.setIfInBounds_toArray, List.set_cons_zero, List.set_cons_succ]
  refine reg_load 1 (some 6) (fun W hW => load_arr arr16B rfl HB.out (((HX.out.trans hW).block _ (lt_of_heap F3.out)).trans F3.out)) rfl rfl rfl rfl (by kernel_rfl) (by kernel_rfl) (by kernel_rfl) (fun _ _ _ h => h) (by rfl) ?_
  simp only [Act.put, List.setIfInBounds_toArray, List.set_cons_zero, List.set_cons_succ]
  refine reg_load 3 (some 8) (fun W hW => load_arr arr16B rfl HA.out (((HX.out.trans hW).block _ (lt_of_heap F2.out)).trans F2.out)) rfl rfl rfl rfl (by kernel_rfl) (by kernel_rfl) (by kernel_rfl) (fun _ _ _ h => h) (by rfl) ?_
  simp only [Act.put, List.setIfInBounds_toArray, List.set_cons_zero, List.set_cons_succ]
  refine reg_load 4 (some 9) (fun W hW => load_arr arr16B rfl HB.out (((HX.out.trans hW).block _ (lt_of_heap F3.out)).trans F3.out)) rfl rfl rfl rfl (by kernel_rfl) (by kernel_rfl) (by kernel_rfl) (fun _ _ _ h => h) (by rfl) ?_
  simp only [Act.put, List.setIfInBounds_toArray, List.set_cons_zero, List.set_cons_succ]
  refine reg_eff 2 rfl (by kernel_rfl) (fun K hK => ?_)
  go_simp
  refine (GM.out _).mono ?_
  rintro e w2 ⟨rfl, hE⟩
  refine hK.out _ _ hE ?_
  have HX := Lib.hid (Ext.trans HX.out hE)
  clear hE hK K
  try simp only [Act.put, List.setIfInBounds_toArray, List.set_cons_zero, List.set_cons_succ]
  refine reg_eff 5 rfl (by kernel_rfl) (fun K hK => ?_)
  go_simp
  refine (RM.out _).mono ?_
  rintro e w3 ⟨rfl, hE⟩
  refine hK.out _ _ hE ?_
  have HX := Lib.hid (Ext.trans HX.out hE)
  clear hE hK K
  try simp only [Act.put, List.setIfInBounds_toArray, List.set_cons_zero, List.set_cons_succ]
  refine reg_take (v := ?_) 6 (some 11) rfl rfl (by kernel_rfl) (by kernel_rfl) (by kernel_rfl) (fun _ _ _ h => h) (by rfl) (fun W hW => ?_) ?_
  rotate_left
  · (go_simp; try rfl)
  simp only [Act.put, List.setIfInBounds_toArray, List.set_cons_zero, List.set_cons_succ]
  refine reg_take (v := ?_) 7 (some 12) rfl rfl (by kernel_rfl) (by kernel_rfl) (by kernel_rfl) (fun _ _ _ h => h) (by rfl) (fun W hW => ?_) ?_
  rotate_left
  · (go_simp; try rfl)
  simp only [Act.put, List.setIfInBounds_toArray, List.set_cons_zero, List.set_cons_succ]
  refine reg_eff 8 rfl (by kernel_rfl) (fun K hK => ?_)
  go_simp
  refine (gawake_any _).mono ?_
  rintro e w4 ⟨rfl, hE⟩
  refine hK.out _ _ hE ?_
  have HX := Lib.hid (Ext.trans HX.out hE)
  clear hE hK K
  try simp only [Act.put, List.setIfInBounds_toArray, List.set_cons_zero, List.set_cons_succ]
  refine reg_take (v := ?_) 9 (some 14) rfl rfl (by kernel_rfl) (by kernel_rfl) (by kernel_rfl) (fun _ _ _ h => h) (by rfl) (fun W hW => ?_) ?_
  rotate_left
  · (go_simp; try rfl)
  simp only [Act.put, List.setIfInBounds_toArray, List.set_cons_zero, List.set_cons_succ]
  refine reg_take (v := ?_) 10 (some 4) rfl rfl (by kernel_rfl) (by kernel_rfl) (by kernel_rfl) (fun _ _ _ h => h) (by rfl) (fun W hW => ?_) ?_
  rotate_left
  · (go_simp; try rfl)
  simp only [Act.put, List.setIfInBounds_toArray, List.set_cons_zero, List.set_cons_succ]
  refine reg_done (by kernel_rfl) ?_
  go_wp2
  go_ret
  exact ⟨rfl, FB.out.step HX.out⟩
end Go.Proofs.Ytdogfopnjojliaa
