/- The walks of the laws ShaSums and ShaBlocks. -/
import Derived.Test.YtefhaaofcibdcaaDoorRefS4
namespace Go.Proofs.YtefhaaofcibdcaaDoor
open Go.RowKit
set_option linter.unusedVariables false
set_option linter.unusedSimpArgs false
theorem wholeStr_any (bs : List UInt8) (w : World) (hl : bs.length = 32) :
    Calls Tryd.prog 9 #[.agg (bs.map bv).toArray] w fun e w' => e = .returned (.string (strOf bs)) ∧ Below w.heap.size w w' := by
  have sl := arr_all arr32B s8 ⟨w.heap.size, 0, none⟩
  have cv := conv_string (w.alloc (.cells (bs.map bv).toArray 24)) (some ⟨w.heap.size, 0, none⟩) 32 32 bs hl (sl_row (fr := (0, 0)) hl (by omega) (heap_alloc_new' w _))
  generalize strOf bs = s at cv ⊢
  have HL := Lib.hid hl
  clear hl
  go_enter Tryd.func9, Tryd.ntmps9
  go_wp2
  go_ret
  exact ⟨rfl, (Below.refl _ _).alloc (Nat.le_refl _) _⟩
set_option maxHeartbeats 1000000 in
theorem shaSums_walk (w : World) (A : Option Addr) (c : Nat) (bs : List UInt8) (hS : Sl w A c bs) (hR : Rnd w) :
    Calls Tryd.prog 3 #[.slice A bs.length c] w fun e w' => e = .returned (.bool true) ∧ Below w.heap.size w w' := by
  obtain ⟨n, hn⟩ : ∃ n, bs.length = n := ⟨_, rfl⟩
  rw [hn]
  by_cases hbig : 1000 < n
  · have e1 : (1000 : Int) < (n : Int) := by omega
    clear hn hS hR
    go_enter Tryd.func3, Tryd.ntmps3
    go_wp2
    go_ret
    exact ⟨rfl, Below.refl _ _⟩
  have e1 : ¬ ((1000 : Int) < (n : Int)) := by omega
  have HL := Lib.hid hn; have HS := Lib.hid hS; have HR := Lib.hid hR
  have HN : Hid (n ≤ 2147000000) := by show n ≤ _; omega
  clear hn hS hR hbig
  go_enter Tryd.func3, Tryd.ntmps3
  go_wp2_with fail
  refine (sum_any A n c bs w HL.out HS.out HR.out).mono ?_
  have hZ := Lib.hid (sumL_len bs)
  have HRS := Lib.hid (fun W hW => refSum_any A n c bs W HL.out HN.out hW)
  generalize sumL bs = Z at hZ HRS ⊢
  rintro e w1 ⟨rfl, hB1⟩
  have HB1 := Lib.hid hB1
  clear hB1
  go_wp2_with fail
  refine (wholeStr_any Z w1 hZ.out).mono ?_
  rintro e w2 ⟨rfl, hB2⟩
  have HB2 := Lib.hid (HB1.out.step hB2)
  clear hB2 HB1
  go_wp2_with fail
  refine (HRS.out w2 (HS.out.below HB2.out)).mono ?_
  rintro e w3 ⟨v3, rfl, hO3, hB3⟩
  obtain ⟨A3, c3, rfl, hl3, h31, h32, hr3⟩ := own_read hO3
  have cv := conv_string w3 A3 32 c3 Z hl3 (sl_mk hl3 h31 h32 hr3)
  have HB3 := Lib.hid (HB2.out.step hB3)
  clear hB3 HB2 hO3 hl3 h31 h32 hr3
  generalize strOf Z = s at cv ⊢
  go_wp2_with fail
  refine (awake2_any w3 (HR.out.ext HB3.out)).mono ?_
  rintro e w4 ⟨rfl, hB4⟩
  have HB4 := Lib.hid (HB3.out.step hB4)
  clear hB4
  go_wp2
  go_ret
  exact ⟨rfl, HB4.out⟩
theorem eql_words {n : Nat} {t : TypeId} (ht : Tryd.prog.underlying t = some (.array n 29)) (xs : List W32) (hx : xs.length = n) (W : World) :
    (binOp .eql t (.agg (xs.map wv).toArray) (.agg (xs.map wv).toArray)).run Tryd.prog W = .ok (.bool true) W := by
  have h := eql_arr (P := Tryd.prog) ht Tryd.underlying29 s32 (xs.map fun x => (x.toNat : Int)) (xs.map fun x => (x.toNat : Int)) (by simpa using hx) (by simpa using hx) W
  rw [show (xs.map fun x => (x.toNat : Int)).map (Value.int .u32) = xs.map wv from by simp [Function.comp_def, wv]] at h
  rw [h]; simp
theorem heap2' (w : World) (o1 o2 : Obj) : ((w.alloc o1).alloc o2).heap[w.heap.size]? = some o1 ∧ ((w.alloc o1).alloc o2).heap[w.heap.size + 1]? = some o2 ∧ Below w.heap.size w ((w.alloc o1).alloc o2) := heap2 w o1 o2
set_option maxHeartbeats 2000000 in
theorem shaBlocks_walk (w : World) (h : List W32) (hh : h.length = 8) (b : List UInt8) (hb : b.length = 64) (hR : Rnd w) :
    Calls Tryd.prog 4 #[.agg (h.map wv).toArray, .agg (b.map bv).toArray] w fun e w' => e = .returned (.bool true) ∧ Below w.heap.size w w' := by
  have HH := Lib.hid hh; have HBL := Lib.hid hb; have HR := Lib.hid hR
  clear hh hb hR
  go_enter Tryd.func4, Tryd.ntmps4
  go_wp2_with fail
  generalize hV : (w.alloc _).alloc _ = W0
  have F0 : Hid (W0.heap[w.heap.size]? = some (.cells (h.map wv).toArray 30 (0, 0))) := by rw [← hV]; exact (heap2 w _ _).1
  have F1 : Hid (W0.heap[w.heap.size + 1]? = some (.cells (b.map bv).toArray 31 (0, 0))) := by rw [← hV]; exact (heap2 w _ _).2.1
  have FB : Hid (Below w.heap.size w W0) := by rw [← hV]; exact (heap2 w _ _).2.2
  clear hV
  generalize hg1 : w.heap.size + 1 = g1 at F1 ⊢
  clear hg1
  have hY := Lib.hid (blockL_len h b HH.out)
  have HBA := Lib.hid (fun W hW => block_any h b W HH.out HBL.out hW)
  have HRB := Lib.hid (fun A c W hW => refBlock_any h A c b W HH.out HBL.out hW)
  have q1 := eql_words arr8W (blockL h b) hY.out
  generalize blockL h b = Y at hY HBA HRB q1
  have hZ : Hid ((outL h).length = 32) := by show _ = _; rw [outL_len, HH.out]
  have HOA := Lib.hid (fun W => out_any h W HH.out)
  have HRO := Lib.hid (fun W => refOut_any h W HH.out)
  generalize outL h = Z at hZ HOA HRO
  have HWS := Lib.hid (fun W => wholeStr_any Z W hZ.out)
  have HCV := Lib.hid (fun W A c hW => conv_string W A 32 c Z hZ.out hW)
  generalize strOf Z = s at HWS HCV
  have q2 := eql_words arr8W startL rfl
  have hi8 : Hid ((Tryd.prog.info? 30).map (·.size) = some (h.map wv).length) := by show _ = _; rw [List.length_map, HH.out]; exact i8W
  have hi64 : Hid ((Tryd.prog.info? 31).map (·.size) = some (b.map bv).length) := by show _ = _; rw [List.length_map, HBL.out]; exact i64B
  have sl := arr_all arr64B s8 ⟨g1, 0, none⟩
  have HX : Hid (Ext W0 W0.drew) := (Below.refl _ _).drew
  have G1 : Hid (∀ W, Ext W0 W → Sl W (some ⟨g1, 0, none⟩) 64 b) := fun W hW => sl_row (fr := (0, 0)) HBL.out (by omega) ((hW.block _ (lt_of_heap F1.out)).trans F1.out)
  have G0 : Hid (∀ W, Ext W0 W → (Instr.loadAt 30 (.pointer (some ⟨w.heap.size, 0, none⟩))).run Tryd.prog W = .ok (.agg (h.map wv).toArray) W) := fun W hW => load_arr arr8W rfl hi8.out ((hW.block _ (lt_of_heap F0.out)).trans F0.out)
  have G2 : Hid (∀ W, Ext W0 W → (Instr.loadAt 31 (.pointer (some ⟨g1, 0, none⟩))).run Tryd.prog W = .ok (.agg (b.map bv).toArray) W) := fun W hW => load_arr arr64B rfl hi64.out ((hW.block _ (lt_of_heap F1.out)).trans F1.out)
  have HRX : Hid (∀ W, Ext W0 W → Rnd W) := fun W hW => (HR.out.ext FB.out).ext hW
  refine reg_start (by kernel_rfl) ?_
  try simp only [Act.put, List.setIfInBounds_toArray, List.set_cons_zero, List.set_cons_succ]
  generalize W0.drew = W1 at HX ⊢
  refine reg_load 0 (some 5) (fun W hW => G0.out W (Ext.trans HX.out hW)) rfl rfl rfl rfl (by kernel_rfl) (by kernel_rfl) (by kernel_rfl) (fun _ _ _ h => h) (by rfl) ?_
  simp only [Act.put, List.setIfInBounds_toArray, List.set_cons_zero, List.set_cons_succ]
  refine reg_load 1 (some 6) (fun W hW => G2.out W (Ext.trans HX.out hW)) rfl rfl rfl rfl (by kernel_rfl) (by kernel_rfl) (by kernel_rfl) (fun _ _ _ h => h) (by rfl) ?_
  simp only [Act.put, List.setIfInBounds_toArray, List.set_cons_zero, List.set_cons_succ]
  refine reg_load 3 (some 8) (fun W hW => G0.out W (Ext.trans HX.out hW)) rfl rfl rfl rfl (by kernel_rfl) (by kernel_rfl) (by kernel_rfl) (fun _ _ _ h => h) (by rfl) ?_
  simp only [Act.put, List.setIfInBounds_toArray, List.set_cons_zero, List.set_cons_succ]
  refine reg_take (v := ?_) 4 (some 9) rfl rfl (by kernel_rfl) (by kernel_rfl) (by kernel_rfl) (fun _ _ _ h => h) (by rfl) (fun W hW => ?_) ?_
  rotate_left
  · (go_simp; try rfl)
  simp only [Act.put, List.setIfInBounds_toArray, List.set_cons_zero, List.set_cons_succ]
  refine reg_eff 2 rfl (by kernel_rfl) (fun K hK => ?_)
  go_simp
  refine (HBA.out _ (HRX.out _ HX.out)).mono ?_
  rintro e w2 ⟨rfl, hE⟩
  refine hK.out _ _ hE ?_
  have HX := Lib.hid (Ext.trans HX.out hE)
  clear hE hK K
  try simp only [Act.put, List.setIfInBounds_toArray, List.set_cons_zero, List.set_cons_succ]
  refine reg_eff 5 rfl (by kernel_rfl) (fun K hK => ?_)
  go_simp
  refine (HRB.out _ _ _ (G1.out _ HX.out)).mono ?_
  rintro e w3 ⟨rfl, hE⟩
  refine hK.out _ _ hE ?_
  have HX := Lib.hid (Ext.trans HX.out hE)
  clear hE hK K
  try simp only [Act.put, List.setIfInBounds_toArray, List.set_cons_zero, List.set_cons_succ]
  refine reg_take (v := ?_) 6 (some 11) rfl rfl (by kernel_rfl) (by kernel_rfl) (by kernel_rfl) (fun _ _ _ h => h) (by rfl) (fun W hW => ?_) ?_
  rotate_left
  · (go_simp; try rfl)
  simp only [Act.put, List.setIfInBounds_toArray, List.set_cons_zero, List.set_cons_succ]
  refine reg_take (v := ?_) 7 (some 12) rfl rfl (by kernel_rfl) (by kernel_rfl) (by kernel_rfl) (fun _ _ _ h => h) (by rfl) (fun W hW => ?_) ?_
  rotate_left
  · (go_simp; try rfl)
  simp only [Act.put, List.setIfInBounds_toArray, List.set_cons_zero, List.set_cons_succ]
  refine reg_load 8 (some 13) (fun W hW => G0.out W (Ext.trans HX.out hW)) rfl rfl rfl rfl (by kernel_rfl) (by kernel_rfl) (by kernel_rfl) (fun _ _ _ h => h) (by rfl) ?_
  simp only [Act.put, List.setIfInBounds_toArray, List.set_cons_zero, List.set_cons_succ]
  refine reg_load 11 (some 16) (fun W hW => G0.out W (Ext.trans HX.out hW)) rfl rfl rfl rfl (by kernel_rfl) (by kernel_rfl) (by kernel_rfl) (fun _ _ _ h => h) (by rfl) ?_
  simp only [Act.put, List.setIfInBounds_toArray, List.set_cons_zero, List.set_cons_succ]
  refine reg_eff 9 rfl (by kernel_rfl) (fun K hK => ?_)
  go_simp
  refine (HOA.out _).mono ?_
  rintro e w4 ⟨rfl, hE⟩
  refine hK.out _ _ hE ?_
  have HX := Lib.hid (Ext.trans HX.out hE)
  clear hE hK K
  try simp only [Act.put, List.setIfInBounds_toArray, List.set_cons_zero, List.set_cons_succ]
  refine reg_eff 10 rfl (by kernel_rfl) (fun K hK => ?_)
  go_simp
  refine (HWS.out _).mono ?_
  rintro e w5 ⟨rfl, hE⟩
  refine hK.out _ _ hE ?_
  have HX := Lib.hid (Ext.trans HX.out hE)
  clear hE hK K
  try simp only [Act.put, List.setIfInBounds_toArray, List.set_cons_zero, List.set_cons_succ]
  refine reg_eff 12 rfl (by kernel_rfl) (fun K hK => ?_)
  go_simp
  refine (HRO.out _).mono ?_
  rintro e w6 ⟨v6, rfl, hO6, hE⟩
  obtain ⟨A6, c6, rfl, hl6, h61, h62, hr6⟩ := own_read hO6
  have HS6 := Lib.hid (sl_mk hl6 h61 h62 hr6)
  clear hO6 hl6 h61 h62 hr6
  refine hK.out _ _ hE ?_
  have HX := Lib.hid (Ext.trans HX.out hE)
  clear hE hK K
  try simp only [Act.put, List.setIfInBounds_toArray, List.set_cons_zero, List.set_cons_succ]
  refine reg_conv 13 (some 18) (fun W hW => HCV.out W A6 c6 (HS6.out.below hW)) rfl rfl rfl rfl (by kernel_rfl) (by kernel_rfl) (by kernel_rfl) (fun _ _ _ h => h) (by rfl) ?_
  simp only [Act.put, List.setIfInBounds_toArray, List.set_cons_zero, List.set_cons_succ]
  refine reg_take (v := ?_) 14 (some 19) rfl rfl (by kernel_rfl) (by kernel_rfl) (by kernel_rfl) (fun _ _ _ h => h) (by rfl) (fun W hW => ?_) ?_
  rotate_left
  · (go_simp; try rfl)
  simp only [Act.put, List.setIfInBounds_toArray, List.set_cons_zero, List.set_cons_succ]
  refine reg_take (v := ?_) 15 (some 20) rfl rfl (by kernel_rfl) (by kernel_rfl) (by kernel_rfl) (fun _ _ _ h => h) (by rfl) (fun W hW => ?_) ?_
  rotate_left
  · (go_simp; try rfl)
  simp only [Act.put, List.setIfInBounds_toArray, List.set_cons_zero, List.set_cons_succ]
  refine reg_take (v := ?_) 16 (some 21) rfl rfl (by kernel_rfl) (by kernel_rfl) (by kernel_rfl) (fun _ _ _ h => h) (by rfl) (fun W hW => ?_) ?_
  rotate_left
  · (go_simp; try rfl)
  simp only [Act.put, List.setIfInBounds_toArray, List.set_cons_zero, List.set_cons_succ]
  refine reg_eff 17 rfl (by kernel_rfl) (fun K hK => ?_)
  go_simp
  refine (start_any _).mono ?_
  rintro e w7 ⟨rfl, hE⟩
  refine hK.out _ _ hE ?_
  have HX := Lib.hid (Ext.trans HX.out hE)
  clear hE hK K
  try simp only [Act.put, List.setIfInBounds_toArray, List.set_cons_zero, List.set_cons_succ]
  refine reg_eff 18 rfl (by kernel_rfl) (fun K hK => ?_)
  go_simp
  refine (refStart_any _).mono ?_
  rintro e w8 ⟨rfl, hE⟩
  refine hK.out _ _ hE ?_
  have HX := Lib.hid (Ext.trans HX.out hE)
  clear hE hK K
  try simp only [Act.put, List.setIfInBounds_toArray, List.set_cons_zero, List.set_cons_succ]
  refine reg_take (v := ?_) 19 (some 24) rfl rfl (by kernel_rfl) (by kernel_rfl) (by kernel_rfl) (fun _ _ _ h => h) (by rfl) (fun W hW => ?_) ?_
  rotate_left
  · (go_simp; try rfl)
  simp only [Act.put, List.setIfInBounds_toArray, List.set_cons_zero, List.set_cons_succ]
  refine reg_take (v := ?_) 20 (some 25) rfl rfl (by kernel_rfl) (by kernel_rfl) (by kernel_rfl) (fun _ _ _ h => h) (by rfl) (fun W hW => ?_) ?_
  rotate_left
  · (go_simp; try rfl)
  simp only [Act.put, List.setIfInBounds_toArray, List.set_cons_zero, List.set_cons_succ]
  refine reg_take (v := ?_) 21 (some 26) rfl rfl (by kernel_rfl) (by kernel_rfl) (by kernel_rfl) (fun _ _ _ h => h) (by rfl) (fun W hW => ?_) ?_
  rotate_left
  · (go_simp; try rfl)
  simp only [Act.put, List.setIfInBounds_toArray, List.set_cons_zero, List.set_cons_succ]
  refine reg_eff 22 rfl (by kernel_rfl) (fun K hK => ?_)
  go_simp
  refine (awake2_any _ (HRX.out _ HX.out)).mono ?_
  rintro e w9 ⟨rfl, hE⟩
  refine hK.out _ _ hE ?_
  have HX := Lib.hid (Ext.trans HX.out hE)
  clear hE hK K
  try simp only [Act.put, List.setIfInBounds_toArray, List.set_cons_zero, List.set_cons_succ]
  refine reg_take (v := ?_) 23 (some 28) rfl rfl (by kernel_rfl) (by kernel_rfl) (by kernel_rfl) (fun _ _ _ h => h) (by rfl) (fun W hW => ?_) ?_
  rotate_left
  · (go_simp; try rfl)
  simp only [Act.put, List.setIfInBounds_toArray, List.set_cons_zero, List.set_cons_succ]
  refine reg_take (v := ?_) 24 (some 4) rfl rfl (by kernel_rfl) (by kernel_rfl) (by kernel_rfl) (fun _ _ _ h => h) (by rfl) (fun W hW => ?_) ?_
  rotate_left
  · (go_simp; try rfl)
  simp only [Act.put, List.setIfInBounds_toArray, List.set_cons_zero, List.set_cons_succ]
  refine reg_done (by kernel_rfl) ?_
  go_wp2
  go_ret
  exact ⟨rfl, FB.out.step HX.out⟩
end Go.Proofs.YtefhaaofcibdcaaDoor
