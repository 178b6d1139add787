/- Laws of layer 7: the sum of any bytes by any key; noughts behind a key. -/
import Derived.Test.YtdmdjgmkhoahmaaDoorRefH1
import Derived.Test.YtdmdjgmkhoahmaaDoorHma5
namespace Go.Proofs.YtdmdjgmkhoahmaaDoor
open Go.RowKit
set_option linter.unusedVariables false
set_option linter.unusedSimpArgs false
set_option maxHeartbeats 1000000 in
theorem hmacSums_walk (w : World) (A : Option Addr) (c : Nat) (key : List UInt8) (hS : Sl w A c key) (A' : Option Addr) (c' : Nat) (b : List UInt8) (hS' : Sl w A' c' b) (hR : Rnd w) :
    Calls Tryd.prog 3 #[.slice A key.length c, .slice A' b.length c'] w fun e w' => e = .returned (.bool true) ∧ Below w.heap.size w w' := by
  obtain ⟨n, hn⟩ : ∃ n, key.length = n := ⟨_, rfl⟩
  obtain ⟨m, hm⟩ : ∃ m, b.length = m := ⟨_, rfl⟩
  rw [hn, hm]
  by_cases hbig : 300 < n ∨ 300 < m
  · clear hS hS' hR hn hm
    by_cases hb1 : 300 < n
    · have e1 : (300 : Int) < (n : Int) := by omega
      clear hbig
      go_enter Tryd.func3, Tryd.ntmps3
      go_wp2
      go_ret
      exact ⟨rfl, Below.refl _ _⟩
    · have e1 : ¬ ((300 : Int) < (n : Int)) := by omega
      have e2 : (300 : Int) < (m : Int) := by omega
      clear hbig
      go_enter Tryd.func3, Tryd.ntmps3
      go_wp2
      go_ret
      exact ⟨rfl, Below.refl _ _⟩
  have e1 : ¬ ((300 : Int) < (n : Int)) := by omega
  have e2 : ¬ ((300 : Int) < (m : Int)) := by omega
  have HL := Lib.hid hn; have HM := Lib.hid hm; have HS := Lib.hid hS; have HS' := Lib.hid hS'; have HR := Lib.hid hR
  have HA := Lib.hid (fun W hS hS' hR => hmac_any A n c key A' m c' b W hn hm (by omega) hS hS' hR)
  have HRF := Lib.hid (fun W hS hS' => refHmac_any A n c key A' m c' b W hn hm (by omega) (by omega) hS hS')
  have HZL := Lib.hid (hmacL_len key b)
  generalize hmacL key b = Z at HA HRF HZL
  clear hn hm hS hS' hR hbig
  have hi32 : Hid ((Tryd.prog.info? 23).map (·.size) = some (Z.map bv).length) := by show _ = _; rw [List.length_map, HZL.out]; exact i32B
  go_enter Tryd.func3, Tryd.ntmps3
  go_wp2_with fail
  refine (HA.out w HS.out HS'.out HR.out).mono ?_
  rintro e w1 ⟨rfl, hb1⟩
  have B1 := Lib.hid hb1
  clear hb1
  go_wp2_with (first
    | (refine wpList_st rfl 23 (.tmp 5) (.tmp 16) rfl (store_arr (cs := Z.map bv) (old := List.replicate 32 (Value.int .u8 0)) hi32.out (bv_one _) (heap_alloc_new' w1 _) (by rw [List.length_map, HZL.out]; simp)) ?_
       generalize hV : World.setRow _ _ _ = W2
       have M2 := Lib.hid (heap_of_setRow hV (heap_alloc_new' w1 _))
       have B2 := Lib.hid (B1.out.step (((Below.refl w1.heap.size w1).alloc (Nat.le_refl _) _).trans (below_of_setRow hV (Nat.le_refl w1.heap.size) (by simp))))
       clear hV)
    | fail)
  generalize w1.heap.size = g5 at M2 ⊢
  have S2 := Lib.hid (sl_row HZL.out (by omega) M2.out)
  have ar := arr_all arr32B s8 ⟨g5, 0, none⟩
  have HX : Hid (Ext W2 W2.drew) := (Below.refl _ _).drew
  have hq : ((strOf Z).toList == (strOf Z).toList) = true := beq_self_eq_true _
  refine reg_start (by kernel_rfl) ?_
  try simp only [Act.put, List.setIfInBounds_toArray, List.set_cons_zero, List.set_cons_succ]
  refine reg_take (v := ?_) 0 (some 17) rfl rfl (by kernel_rfl) (by kernel_rfl) (by kernel_rfl) (fun _ _ _ h => h) (by rfl) (fun W hW => ?_) ?_
  rotate_left
  · (go_simp; try rfl)
  simp only [Act.put, List.setIfInBounds_toArray, List.set_cons_zero, List.set_cons_succ]
  refine reg_conv 1 (some 18) (fun W hW => conv_string W (some ⟨g5, 0, none⟩) 32 32 Z HZL.out (S2.out.extk (HX.out.trans hW))) rfl rfl rfl rfl (by kernel_rfl) (by kernel_rfl) (by kernel_rfl) (fun _ _ _ h => h) (by rfl) ?_
  simp only [Act.put, List.setIfInBounds_toArray, List.set_cons_zero, List.set_cons_succ]
  refine reg_take (v := ?_) 2 (some 19) rfl rfl (by kernel_rfl) (by kernel_rfl) (by kernel_rfl) (fun _ _ _ h => h) (by rfl) (fun W hW => ?_) ?_
  rotate_left
  · (go_simp; try rfl)
  simp only [Act.put, List.setIfInBounds_toArray, List.set_cons_zero, List.set_cons_succ]
  refine reg_take (v := ?_) 3 (some 20) rfl rfl (by kernel_rfl) (by kernel_rfl) (by kernel_rfl) (fun _ _ _ h => h) (by rfl) (fun W hW => ?_) ?_
  rotate_left
  · (go_simp; try rfl)
  simp only [Act.put, List.setIfInBounds_toArray, List.set_cons_zero, List.set_cons_succ]
  refine reg_eff 4 rfl (by kernel_rfl) (fun K hK => ?_)
  go_simp
  refine (HRF.out _ (HS.out.below (B2.out.step HX.out)) (HS'.out.below (B2.out.step HX.out))).mono ?_
  rintro e w3 ⟨v3, rfl, hO3, hE⟩
  obtain ⟨A3, c3, rfl, hl3, h31, h32, hr3⟩ := own_read hO3
  have S3 := Lib.hid (sl_mk hl3 h31 h32 hr3)
  clear hO3 hl3 h31 h32 hr3
  refine hK.out _ _ hE ?_
  have HX := Lib.hid (Ext.trans HX.out hE)
  clear hE hK K
  try simp only [Act.put, List.setIfInBounds_toArray, List.set_cons_zero, List.set_cons_succ]
  refine reg_conv 5 (some 22) (fun W hW => conv_string W A3 32 c3 Z HZL.out (S3.out.extk hW)) rfl rfl rfl rfl (by kernel_rfl) (by kernel_rfl) (by kernel_rfl) (fun _ _ _ h => h) (by rfl) ?_
  simp only [Act.put, List.setIfInBounds_toArray, List.set_cons_zero, List.set_cons_succ]
  refine reg_take (v := ?_) 6 (some 23) rfl rfl (by kernel_rfl) (by kernel_rfl) (by kernel_rfl) (fun _ _ _ h => h) (by rfl) (fun W hW => ?_) ?_
  rotate_left
  · (go_simp; try rfl)
  simp only [Act.put, List.setIfInBounds_toArray, List.set_cons_zero, List.set_cons_succ]
  refine reg_take (v := ?_) 7 (some 24) rfl rfl (by kernel_rfl) (by kernel_rfl) (by kernel_rfl) (fun _ _ _ h => h) (by rfl) (fun W hW => ?_) ?_
  rotate_left
  · (go_simp; try rfl)
  simp only [Act.put, List.setIfInBounds_toArray, List.set_cons_zero, List.set_cons_succ]
  refine reg_eff 8 rfl (by kernel_rfl) (fun K hK => ?_)
  go_simp
  refine (awake7_any _ (HR.out.ext (B2.out.step HX.out))).mono ?_
  rintro e w4 ⟨rfl, hE⟩
  refine hK.out _ _ hE ?_
  have HX := Lib.hid (Ext.trans HX.out hE)
  clear hE hK K
  try simp only [Act.put, List.setIfInBounds_toArray, List.set_cons_zero, List.set_cons_succ]
  refine reg_take (v := ?_) 9 (some 26) rfl rfl (by kernel_rfl) (by kernel_rfl) (by kernel_rfl) (fun _ _ _ h => h) (by rfl) (fun W hW => ?_) ?_
  rotate_left
  · (go_simp; try rfl)
  simp only [Act.put, List.setIfInBounds_toArray, List.set_cons_zero, List.set_cons_succ]
  refine reg_take (v := ?_) 10 (some 4) rfl rfl (by kernel_rfl) (by kernel_rfl) (by kernel_rfl) (fun _ _ _ h => h) (by rfl) (fun W hW => ?_) ?_
  rotate_left
  · (go_simp; try rfl)
  simp only [Act.put, List.setIfInBounds_toArray, List.set_cons_zero, List.set_cons_succ]
  refine reg_done (by kernel_rfl) ?_
  go_wp2
  go_ret
  exact ⟨rfl, B2.out.step HX.out⟩
end Go.Proofs.YtdmdjgmkhoahmaaDoor
