/- The walk of the law GhashApart. -/
import Derived.Test.YtjcanmbpidabeaaGha3
namespace Go.Proofs.Ytjcanmbpidabeaa
open Go.RowKit
set_option linter.unusedVariables false
set_option linter.unusedSimpArgs false
theorem gmul_same (a b c : List UInt8) (ha : a.length = 16) (hb : b.length = 16) (hc : c.length = 16) (h0 : c ≠ zerB) : decide (gmulL a c = gmulL b c) = decide (a = b) := by
  rw [decide_eq_decide]
  exact ⟨fun h => gmul_inj a b c ha hb hc h0 h, fun h => by rw [h]⟩
set_option maxHeartbeats 4000000 in
theorem ghashApart_walk (w : World) (a : List UInt8) (ha : a.length = 16) (b : List UInt8) (hb : b.length = 16) (c : List UInt8) (hc : c.length = 16) :
    Calls Try.prog 6 #[.agg (a.map bv).toArray, .agg (b.map bv).toArray, .agg (c.map bv).toArray] w fun e w' => e = .returned (.bool true) ∧ Below w.heap.size w w' := by
  have qc : ∀ W, (binOp .eql 22 (.agg (c.map bv).toArray) (.agg #[.int .u8 0, .int .u8 0, .int .u8 0, .int .u8 0, .int .u8 0, .int .u8 0, .int .u8 0, .int .u8 0, .int .u8 0, .int .u8 0, .int .u8 0, .int .u8 0, .int .u8 0, .int .u8 0, .int .u8 0, .int .u8 0])).run Try.prog W = .ok (.bool (decide (c = zerB))) W := eql_bytes (P := Try.prog) arr16B Try.underlying5 s8 c zerB hc rfl
  have qab := eql_bytes (P := Try.prog) arr16B Try.underlying5 s8 a b ha hb
  have qm := eql_bytes (P := Try.prog) arr16B Try.underlying5 s8 (gmulL a c) (gmulL b c) (gmulL_len _ _) (gmulL_len _ _)
  have GA := Lib.hid (fun W => gmul_any a c W ha hc)
  have GB := Lib.hid (fun W => gmul_any b c W hb hc)
  have G := Lib.hid (heap3 w (.cells (a.map bv).toArray 22) (.cells (b.map bv).toArray 22) (.cells (c.map bv).toArray 22))
  have HA := Lib.hid (i16l a ha); have HB := Lib.hid (i16l b hb); have HC := Lib.hid (i16l c hc)
  by_cases h0 : c = zerB
  · rw [decide_eq_true h0] at qc
    clear h0 ha hb hc qab qm GA GB
    go_enter Try.func6, Try.ntmps6
    go_upto_region 1 with (fail)
    generalize hV : ((w.alloc _).alloc _).alloc _ = W0 at G ⊢
    clear hV
    go_wp2_with (first
      | (refine wpList_ld rfl 22 (.tmp 5) rfl (load_arr arr16B rfl HC.out G.out.2.2.1) ?_))
    go_ret
    exact ⟨rfl, G.out.2.2.2⟩
  · rw [decide_eq_false h0] at qc
    rw [gmul_same a b c ha hb hc h0] at qm
    clear h0 ha hb hc
    generalize gmulL a c = A at qm GA
    generalize gmulL b c = B at qm GB
    generalize decide (a = b) = t at qab qm
    have htt : (t == t) = true := by simp
    go_enter Try.func6, Try.ntmps6
    go_upto_region 1 with (fail)
    generalize hV : ((w.alloc _).alloc _).alloc _ = W0 at G ⊢
    clear hV
    go_wp2_with (first
      | (refine wpList_ld rfl 22 (.tmp 5) rfl (load_arr arr16B rfl HC.out G.out.2.2.1) ?_)
      | fail)
    have LA : Hid (∀ W, Ext W0 W → (Instr.loadAt 22 (.pointer (some ⟨w.heap.size, 0, none⟩))).run Try.prog W = .ok (.agg (a.map bv).toArray) W) := fun W hW => load_arr arr16B rfl HA.out ((hW.block _ (lt_of_heap G.out.1)).trans G.out.1)
    have LB : Hid (∀ W, Ext W0 W → (Instr.loadAt 22 (.pointer (some ⟨w.heap.size + 1, 0, none⟩))).run Try.prog W = .ok (.agg (b.map bv).toArray) W) := fun W hW => load_arr arr16B rfl HB.out ((hW.block _ (lt_of_heap G.out.2.1)).trans G.out.2.1)
    have LC : Hid (∀ W, Ext W0 W → (Instr.loadAt 22 (.pointer (some ⟨w.heap.size + 2, 0, none⟩))).run Try.prog W = .ok (.agg (c.map bv).toArray) W) := fun W hW => load_arr arr16B rfl HC.out ((hW.block _ (lt_of_heap G.out.2.2.1)).trans G.out.2.2.1)
    have HX : Hid (Ext W0 W0.drew) := (Below.refl _ _).drew
    refine reg_start (by kernel_rfl) ?_
    try simp only [Act.put, List.setIfInBounds_toArray, List.set_cons_zero, List.set_cons_succ]
    generalize W0.drew = W1 at HX ⊢
    refine reg_load 0 (some 10) (fun W hW => LA.out W (Ext.trans HX.out hW)) rfl rfl rfl rfl (by kernel_rfl) (by kernel_rfl) (by kernel_rfl) (fun _ _ _ h => h) (by rfl) ?_
    simp only [Act.put, List.setIfInBounds_toArray, List.set_cons_zero, List.set_cons_succ]
    refine reg_load 1 (some 11) (fun W hW => LC.out W (Ext.trans HX.out hW)) rfl rfl rfl rfl (by kernel_rfl) (by kernel_rfl) (by kernel_rfl) (fun _ _ _ h => h) (by rfl) ?_
    simp only [Act.put, List.setIfInBounds_toArray, List.set_cons_zero, List.set_cons_succ]
    refine reg_load 3 (some 13) (fun W hW => LB.out W (Ext.trans HX.out hW)) rfl rfl rfl rfl (by kernel_rfl) (by kernel_rfl) (by kernel_rfl) (fun _ _ _ h => h) (by rfl) ?_
    simp only [Act.put, List.setIfInBounds_toArray, List.set_cons_zero, List.set_cons_succ]
    refine reg_load 4 (some 14) (fun W hW => LC.out W (Ext.trans HX.out hW)) rfl rfl rfl rfl (by kernel_rfl) (by kernel_rfl) (by kernel_rfl) (fun _ _ _ h => h) (by rfl) ?_
    simp only [Act.put, List.setIfInBounds_toArray, List.set_cons_zero, List.set_cons_succ]
    refine reg_load 7 (some 17) (fun W hW => LA.out W (Ext.trans HX.out hW)) rfl rfl rfl rfl (by kernel_rfl) (by kernel_rfl) (by kernel_rfl) (fun _ _ _ h => h) (by rfl) ?_
    simp only [Act.put, List.setIfInBounds_toArray, List.set_cons_zero, List.set_cons_succ]
    refine reg_load 8 (some 18) (fun W hW => LB.out W (Ext.trans HX.out hW)) rfl rfl rfl rfl (by kernel_rfl) (by kernel_rfl) (by kernel_rfl) (fun _ _ _ h => h) (by rfl) ?_
    simp only [Act.put, List.setIfInBounds_toArray, List.set_cons_zero, List.set_cons_succ]
    refine reg_take (v := ?_) 9 (some 19) rfl rfl (by kernel_rfl) (by kernel_rfl) (by kernel_rfl) (fun _ _ _ h => h) (by rfl) (fun W hW => ?_) ?_
    rotate_left
    · (go_simp; try rfl)
    simp only [Act.put, List.setIfInBounds_toArray, List.set_cons_zero, List.set_cons_succ]
    refine reg_eff 2 rfl (by kernel_rfl) (fun K hK => ?_)
    go_simp
    refine (GA.out _).mono ?_
    rintro e w3 ⟨rfl, hE⟩
    refine hK.out _ _ hE ?_
    have HX := Lib.hid (Ext.trans HX.out hE)
    clear hE hK K
    try simp only [Act.put, List.setIfInBounds_toArray, List.set_cons_zero, List.set_cons_succ]
    refine reg_eff 5 rfl (by kernel_rfl) (fun K hK => ?_)
    go_simp
    refine (GB.out _).mono ?_
    rintro e w4 ⟨rfl, hE⟩
    refine hK.out _ _ hE ?_
    have HX := Lib.hid (Ext.trans HX.out hE)
    clear hE hK K
    try simp only [Act.put, List.setIfInBounds_toArray, List.set_cons_zero, List.set_cons_succ]
    refine reg_take (v := ?_) 6 (some 16) rfl rfl (by kernel_rfl) (by kernel_rfl) (by kernel_rfl) (fun _ _ _ h => h) (by rfl) (fun W hW => ?_) ?_
    rotate_left
    · (go_simp; try rfl)
    simp only [Act.put, List.setIfInBounds_toArray, List.set_cons_zero, List.set_cons_succ]
    refine reg_take (v := ?_) 10 (some 20) rfl rfl (by kernel_rfl) (by kernel_rfl) (by kernel_rfl) (fun _ _ _ h => h) (by rfl) (fun W hW => ?_) ?_
    rotate_left
    · (go_simp; try rfl)
    simp only [Act.put, List.setIfInBounds_toArray, List.set_cons_zero, List.set_cons_succ]
    refine reg_take (v := ?_) 11 (some 21) rfl rfl (by kernel_rfl) (by kernel_rfl) (by kernel_rfl) (fun _ _ _ h => h) (by rfl) (fun W hW => ?_) ?_
    rotate_left
    · (go_simp; try rfl)
    simp only [Act.put, List.setIfInBounds_toArray, List.set_cons_zero, List.set_cons_succ]
    refine reg_eff 12 rfl (by kernel_rfl) (fun K hK => ?_)
    go_simp
    refine (gawake_any _).mono ?_
    rintro e w5 ⟨rfl, hE⟩
    refine hK.out _ _ hE ?_
    have HX := Lib.hid (Ext.trans HX.out hE)
    clear hE hK K
    try simp only [Act.put, List.setIfInBounds_toArray, List.set_cons_zero, List.set_cons_succ]
    refine reg_take (v := ?_) 13 (some 23) rfl rfl (by kernel_rfl) (by kernel_rfl) (by kernel_rfl) (fun _ _ _ h => h) (by rfl) (fun W hW => ?_) ?_
    rotate_left
    · (go_simp; try rfl)
    simp only [Act.put, List.setIfInBounds_toArray, List.set_cons_zero, List.set_cons_succ]
    refine reg_take (v := ?_) 14 (some 6) rfl rfl (by kernel_rfl) (by kernel_rfl) (by kernel_rfl) (fun _ _ _ h => h) (by rfl) (fun W hW => ?_) ?_
    rotate_left
    · (go_simp; try rfl)
    simp only [Act.put, List.setIfInBounds_toArray, List.set_cons_zero, List.set_cons_succ]
    refine reg_done (by kernel_rfl) ?_
    go_wp2
    go_ret
    exact ⟨rfl, G.out.2.2.2.step HX.out⟩
end Go.Proofs.Ytjcanmbpidabeaa
