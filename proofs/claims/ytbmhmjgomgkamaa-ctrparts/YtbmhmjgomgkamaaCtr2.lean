/- The law file's own 'awake' (layer 8). -/
import Derived.Test.YtbmhmjgomgkamaaCtr1
import Derived.Test.YtbmhmjgomgkamaaKeyZ
namespace Go.Proofs.Ytbmhmjgomgkamaa
open Go.RowKit
set_option linter.unusedVariables false
set_option linter.unusedSimpArgs false
def nineL : List UInt8 := [0, 0, 0, 0, 0, 0, 0, 0, 0, 0, 0, 0, 0, 0, 0, 9]
def nineV : Array Value := #[.int .u8 0, .int .u8 0, .int .u8 0, .int .u8 0, .int .u8 0, .int .u8 0, .int .u8 0, .int .u8 0, .int .u8 0, .int .u8 0, .int .u8 0, .int .u8 0, .int .u8 0, .int .u8 0, .int .u8 0, .int .u8 9]
theorem nine_lit : (nineL.map bv).toArray = nineV := rfl
theorem xorL_zeros (y : List UInt8) (h : y.length = 16) : xorL (List.replicate 16 0) y = y := by
  apply List.ext_getElem
  · rw [xorL_len, List.length_replicate, h]; rfl
  · intro i h1 h2
    simp only [xorL, List.getElem_zipWith, List.getElem_replicate]
    exact UInt8.zero_xor
theorem ctr_zeros (E : List UInt8 → List UInt8) (x : List UInt8) (hx : x.length = 16) (hE : (E x).length = 16) : ctrL (strmF E x) 0 (List.replicate 16 0) = E x := by
  have h := ctrL_block (fun i => E (countL x i)) 0 (List.replicate 16 0) (by show (E (countL x 0)).length = 16; rw [count_zero x hx]; exact hE)
  simp only [Nat.zero_div, Nat.zero_mod, List.drop_zero, List.length_replicate, Nat.sub_zero, Nat.min_self] at h
  rw [count_zero x hx, xorL_zeros _ hE, List.take_of_length_le (by simp)] at h
  exact h.symm
def zer16c : List UInt8 := List.replicate 16 0
theorem zer16c_len : zer16c.length = 16 := by simp [zer16c]
set_option maxHeartbeats 4000000 in
theorem awake8_any (w : World) : Calls Try.prog 11 #[] w fun e w' => e = .returned (.bool true) ∧ Below w.heap.size w w' := by
  have hz : ∀ W, (zeroValue 23).run Try.prog W = .ok (.agg zeros16.toArray) W := fun W => by kernel_rfl
  have HZL : Hid (zeros16.length = 16) := rfl
  have hmk : ∀ W, (Instr.makeSlice 26 (.int .i64 16) (.int .i64 16)).run Try.prog W = .ok (.slice (some ⟨W.heap.size, 0, none⟩) 16 16) (W.alloc (.cells (zer16c.map bv).toArray 5)) := fun W => by
    rw [zer16c, List.map_replicate]; exact make_run (P := Try.prog) uT made8 rfl .i64 .i64 16 (by omega) (by omega) W
  have hbd : ∀ W, (Instr.build 23 #[(15, .int .u8 9)]).run Try.prog W = .ok (.agg nineV) W := fun W => by kernel_rfl
  have BD := Lib.hid hbd
  have HZC := Lib.hid zer16c_len
  have HX16 := Lib.hid (fun A W (hS : Sl W A 16 zer16c) => expand_any A 16 16 4 zer16c W zer16c_len rfl (.inl rfl) hS)
  have HWS : Hid ((expandL zer16c).length = 60) := expandL_len _ (by rw [zer16c_len]; omega)
  have HXZ := Lib.hid (ctr_zeros (encL (expandL zer16c) 10) nineL rfl)
  generalize expandL zer16c = ws at HX16 HWS HXZ
  have HCZ : Hid (List.replicate 16 0 = zer16c) := rfl
  rw [HCZ.out] at HXZ
  have S0 := Lib.hid (fun (W : World) => sl_row (g := W.heap.size) zer16c_len (by omega) (heap_alloc_new' W (.cells (zer16c.map bv).toArray 5)))
  clear HCZ
  generalize zer16c = Z0 at hmk HX16 HXZ S0 HZC
  generalize zeros16 = Z at hz HZL
  go_enter Try.func11, Try.ntmps11
  go_wp2_with fail
  refine (HX16.out _ _ (S0.out w)).mono ?_
  rintro e w1 ⟨gk, rfl, _, hK1, hb1⟩
  have K1 := Lib.hid (KeyAt.enc hK1 (by omega) (by omega))
  have B1 : Hid (Below w.heap.size w w1) := ((Below.refl w.heap.size w).alloc (Nat.le_refl _) _).step hb1
  clear hK1 hb1 HX16
  have HEL := Lib.hid (K1.out.1 nineL rfl)
  have HEC := Lib.hid (fun W hW => K1.out.2 W hW nineL rfl)
  have HCR := Lib.hid (fun A W hW (hS : Sl W A 16 Z0) => Crypt_any (.pointer (some ⟨gk, 0, none⟩)) (encL ws (4 + 6)) nineL A 16 16 Z0 W rfl (K1.out.ext hW) HZC.out (by omega) hS)
  have HXZ := Lib.hid (HXZ.out HEL.out)
  rw [HXZ.out] at HCR
  rw [nine_lit] at HEC HCR
  generalize encL ws (4 + 6) nineL = EB at HEL HEC HCR
  clear K1 HXZ
  generalize nineV = NV at BD HEC HCR hbd
  go_wp2_with (first
    | (refine wpList_run (o := ⟨some 10, _, _, _, _, _⟩) rfl (v := .agg NV) (w' := w1) (exec_build rfl (by simp only [List.map_toArray, List.map_cons, List.map_nil]; exact BD.out w1)) ?_)
    | fail)
  refine (HEC.out w1 (Below.refl _ _)).mono ?_
  rintro e w2 ⟨rfl, hb2⟩
  have X2 : Hid (Ext w1 w2) := hb2
  clear hb2
  go_wp2_with (first
    | (refine wpList_st rfl 23 (.tmp 3) (.tmp 11) rfl (store_arr (cs := EB.map bv) (old := Z) (i16c EB HEL.out) (bv_one _) (heap_alloc_new' w2 _) (by rw [List.length_map, HEL.out, HZL.out])) ?_
       generalize hV : World.setRow _ _ _ = W3
       have M3 := Lib.hid (heap_of_setRow hV (heap_alloc_new' w2 _))
       have MB := Lib.hid (((Below.refl w2.heap.size w2).alloc (Nat.le_refl _) _).trans (below_of_setRow hV (Nat.le_refl w2.heap.size) (by simp)))
       clear hV)
    | fail)
  generalize w2.heap.size = g3 at M3 ⊢
  have X3 : Hid (Ext w1 W3) := X2.out.step MB.out
  clear X2 MB
  have S3 := Lib.hid (sl_row HEL.out (by omega) M3.out)
  have sl := arr_all arr16B s8 ⟨g3, 0, none⟩
  have HX : Hid (Ext W3 W3.drew) := (Below.refl _ _).drew
  have hq : ((strOf EB).toList == (strOf EB).toList) = true := beq_self_eq_true _
  refine reg_start (by kernel_rfl) ?_
  try simp only [Act.put, List.setIfInBounds_toArray, List.set_cons_zero, List.set_cons_succ]
  generalize W3.drew = W4 at HX ⊢
  refine reg_take (v := ?_) 0 (some 12) rfl rfl (by kernel_rfl) (by kernel_rfl) (by kernel_rfl) (fun _ _ _ h => h) (by rfl) (fun W hW => ?_) ?_
  rotate_left
  · (go_simp; try rfl)
  simp only [Act.put, List.setIfInBounds_toArray, List.set_cons_zero, List.set_cons_succ]
  refine reg_take (v := ?_) 1 (some 13) rfl rfl (by kernel_rfl) (by kernel_rfl) (by kernel_rfl) (fun _ _ _ h => h) (by rfl) (fun W hW => ?_) ?_
  rotate_left
  · (go_simp; try rfl)
  simp only [Act.put, List.setIfInBounds_toArray, List.set_cons_zero, List.set_cons_succ]
  refine reg_take (v := ?_) 2 (some 14) rfl rfl (by kernel_rfl) (by kernel_rfl) (by kernel_rfl) (fun _ _ _ h => h) (by rfl) (fun W hW => ?_) ?_
  rotate_left
  · (go_simp; try rfl)
  simp only [Act.put, List.setIfInBounds_toArray, List.set_cons_zero, List.set_cons_succ]
  refine reg_take (v := ?_) 3 (some 15) rfl rfl (by kernel_rfl) (by kernel_rfl) (by kernel_rfl) (fun _ _ _ h => h) (by rfl) (fun W hW => ?_) ?_
  rotate_left
  · (go_simp; try rfl)
  simp only [Act.put, List.setIfInBounds_toArray, List.set_cons_zero, List.set_cons_succ]
  refine reg_take (v := ?_) 4 (some 16) rfl rfl (by kernel_rfl) (by kernel_rfl) (by kernel_rfl) (fun _ _ _ h => h) (by rfl) (fun W hW => ?_) ?_
  rotate_left
  · exact exec_build rfl (by simp only [List.map_toArray, List.map_cons, List.map_nil]; exact BD.out W)
  simp only [Act.put, List.setIfInBounds_toArray, List.set_cons_zero, List.set_cons_succ]
  refine reg_take (v := ?_) 8 (some 20) rfl rfl (by kernel_rfl) (by kernel_rfl) (by kernel_rfl) (fun _ _ _ h => h) (by rfl) (fun W hW => ?_) ?_
  rotate_left
  · (go_simp; try rfl)
  simp only [Act.put, List.setIfInBounds_toArray, List.set_cons_zero, List.set_cons_succ]
  refine reg_conv 9 (some 21) (fun W hW => conv_string W (some ⟨g3, 0, none⟩) 16 16 EB HEL.out (S3.out.extk (HX.out.trans hW))) rfl rfl rfl rfl (by kernel_rfl) (by kernel_rfl) (by kernel_rfl) (fun _ _ _ h => h) (by rfl) ?_
  simp only [Act.put, List.setIfInBounds_toArray, List.set_cons_zero, List.set_cons_succ]
  refine reg_eff 5 rfl (by kernel_rfl) (fun K hK => ?_)
  go_simp
  have hE : Ext W4 (W4.alloc (.cells (Z0.map bv).toArray 5)) := (Below.refl _ _).alloc (Nat.le_refl _) _
  have S5 := Lib.hid (S0.out W4)
  refine hK.out _ _ hE ?_
  have HX := Lib.hid (Ext.trans HX.out hE)
  clear hE hK K
  try simp only [Act.put, List.setIfInBounds_toArray, List.set_cons_zero, List.set_cons_succ]
  refine reg_eff 6 rfl (by kernel_rfl) (fun K hK => ?_)
  go_simp
  refine (HCR.out (some ⟨W4.heap.size, 0, none⟩) _ (X3.out.step HX.out) S5.out).mono ?_
  rintro e w5 ⟨v5, rfl, hO5, hE⟩
  obtain ⟨A5, c5, rfl, hl5, hc5, hm5, hr5⟩ := own_read hO5
  have S6 : Hid (Sl w5 A5 c5 EB) := ⟨by omega, hm5, hr5⟩
  clear hO5 hl5 hc5 hm5 hr5
  refine hK.out _ _ hE ?_
  have HX := Lib.hid (Ext.trans HX.out hE)
  clear hE hK K
  try simp only [Act.put, List.setIfInBounds_toArray, List.set_cons_zero, List.set_cons_succ]
  refine reg_conv 7 (some 19) (fun W hW => conv_string W A5 16 c5 EB HEL.out (S6.out.extk hW)) rfl rfl rfl rfl (by kernel_rfl) (by kernel_rfl) (by kernel_rfl) (fun _ _ _ h => h) (by rfl) ?_
  simp only [Act.put, List.setIfInBounds_toArray, List.set_cons_zero, List.set_cons_succ]
  refine reg_take (v := ?_) 10 (some 22) rfl rfl (by kernel_rfl) (by kernel_rfl) (by kernel_rfl) (fun _ _ _ h => h) (by rfl) (fun W hW => ?_) ?_
  rotate_left
  · (go_simp; try rfl)
  simp only [Act.put, List.setIfInBounds_toArray, List.set_cons_zero, List.set_cons_succ]
  refine reg_take (v := ?_) 11 (some 23) rfl rfl (by kernel_rfl) (by kernel_rfl) (by kernel_rfl) (fun _ _ _ h => h) (by rfl) (fun W hW => ?_) ?_
  rotate_left
  · (go_simp; try rfl)
  simp only [Act.put, List.setIfInBounds_toArray, List.set_cons_zero, List.set_cons_succ]
  refine reg_take (v := ?_) 12 (some 0) rfl rfl (by kernel_rfl) (by kernel_rfl) (by kernel_rfl) (fun _ _ _ h => h) (by rfl) (fun W hW => ?_) ?_
  rotate_left
  · (go_simp; try rfl)
  simp only [Act.put, List.setIfInBounds_toArray, List.set_cons_zero, List.set_cons_succ]
  refine reg_done (by kernel_rfl) ?_
  go_wp2
  go_ret
  exact ⟨rfl, B1.out.step (X3.out.step HX.out)⟩
end Go.Proofs.Ytbmhmjgomgkamaa
