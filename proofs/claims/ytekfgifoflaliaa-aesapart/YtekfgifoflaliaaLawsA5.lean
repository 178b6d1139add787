/- The walk of the law AesApart. -/
import Derived.Test.YtekfgifoflaliaaLawsA2
import Derived.Test.YtekfgifoflaliaaAesM4
namespace Go.Proofs.Ytekfgifoflaliaa
open Go.RowKit
set_option linter.unusedVariables false
set_option linter.unusedSimpArgs false
theorem enc_same (ws : List W32) (n : Nat) (a b : List UInt8) (hw : ws.length = 60) (h1 : 1 ≤ n) (h2 : n ≤ 14) (ha : a.length = 16) (hb : b.length = 16) : decide (encL ws n a = encL ws n b) = decide (a = b) := by
  rw [decide_eq_decide]
  exact ⟨fun h => by rw [← dec_enc ws n a hw h1 h2 ha, h, dec_enc ws n b hw h1 h2 hb], fun h => by rw [h]⟩
theorem dec_same (ws : List W32) (n : Nat) (a b : List UInt8) (hw : ws.length = 60) (h1 : 1 ≤ n) (h2 : n ≤ 14) (ha : a.length = 16) (hb : b.length = 16) : decide (decL ws n a = decL ws n b) = decide (a = b) := by
  rw [decide_eq_decide]
  exact ⟨fun h => by rw [← enc_dec ws n a hw h1 h2 ha, h, enc_dec ws n b hw h1 h2 hb], fun h => by rw [h]⟩
set_option maxHeartbeats 4000000 in
theorem aesApart_walk (w : World) (key : List UInt8) (hk : key.length = 16) (a : List UInt8) (ha : a.length = 16) (b : List UInt8) (hb : b.length = 16) :
    Calls Try.prog 6 #[.agg (key.map bv).toArray, .agg (a.map bv).toArray, .agg (b.map bv).toArray] w fun e w' => e = .returned (.bool true) ∧ Below w.heap.size w w' := by
  have HK := Lib.hid hk; have HAL := Lib.hid ha; have HBL := Lib.hid hb
  have hia : Hid ((Try.prog.info? 23).map (·.size) = some (a.map bv).length) := by show _ = _; rw [List.length_map, ha]; exact i16B
  have hib : Hid ((Try.prog.info? 23).map (·.size) = some (b.map bv).length) := by show _ = _; rw [List.length_map, hb]; exact i16B
  have qab := eql_bytes (P := Try.prog) arr16B Try.underlying5 s8 a b ha hb
  clear hk ha hb
  go_enter Try.func6, Try.ntmps6
  go_upto_region 1 with (fail)
  generalize hV : ((w.alloc _).alloc _).alloc _ = W0
  have F0 : Hid (W0.heap[w.heap.size]? = some (.cells (key.map bv).toArray 23 (0, 0))) := by rw [← hV]; exact (heap3 w _ _ _).1
  have F1 : Hid (W0.heap[w.heap.size + 1]? = some (.cells (a.map bv).toArray 23 (0, 0))) := by rw [← hV]; exact (heap3 w _ _ _).2.1
  have F2 : Hid (W0.heap[w.heap.size + 1 + 1]? = some (.cells (b.map bv).toArray 23 (0, 0))) := by rw [← hV]; exact (heap3 w _ _ _).2.2.1
  have FB : Hid (Below w.heap.size w W0) := by rw [← hV]; exact (heap3 w _ _ _).2.2.2
  clear hV
  generalize w.heap.size + 1 + 1 = g2 at F2 ⊢
  generalize w.heap.size + 1 = g1 at F1 ⊢
  have sl := arr_all arr16B s8 ⟨w.heap.size, 0, none⟩
  have HS16 : Hid (Sl W0 (some ⟨w.heap.size, 0, none⟩) 16 key) := sl_row HK.out (by omega) F0.out
  have HXK := Lib.hid (expand_any (some ⟨w.heap.size, 0, none⟩) 16 16 4 key W0 HK.out rfl (.inl rfl) HS16.out)
  generalize expandL key = ws at HXK
  go_wp2_with fail
  refine HXK.out.mono ?_
  rintro e w3 ⟨gk, rfl, _, hK3, hB3⟩
  have K3 := Lib.hid hK3; have B3 := Lib.hid hB3
  have hwl : Hid (ws.length = 60) := hK3.1
  clear hK3 hB3 HXK
  have qE := eql_bytes (P := Try.prog) arr16B Try.underlying5 s8 (encL ws 10 a) (encL ws 10 b) (encL_len _ _ _ hwl.out (by omega)) (encL_len _ _ _ hwl.out (by omega))
  have qD := eql_bytes (P := Try.prog) arr16B Try.underlying5 s8 (decL ws 10 a) (decL ws 10 b) (decL_len _ _ _ hwl.out) (decL_len _ _ _ hwl.out)
  rw [enc_same ws 10 a b hwl.out (by omega) (by omega) HAL.out HBL.out] at qE
  rw [dec_same ws 10 a b hwl.out (by omega) (by omega) HAL.out HBL.out] at qD
  have HEA := Lib.hid (fun W hW => enc_any gk 10 ws a W HAL.out (by omega) (by omega) hW)
  have HEB := Lib.hid (fun W hW => enc_any gk 10 ws b W HBL.out (by omega) (by omega) hW)
  have HDA := Lib.hid (fun W hW => dec_any gk 10 ws a W HAL.out (by omega) (by omega) hW)
  have HDB := Lib.hid (fun W hW => dec_any gk 10 ws b W HBL.out (by omega) (by omega) hW)
  generalize decide (a = b) = t at qab qE qD
  generalize encL ws 10 a = Ea at HEA qE
  generalize encL ws 10 b = Eb at HEB qE
  generalize decL ws 10 a = Da at HDA qD
  generalize decL ws 10 b = Db at HDB qD
  have G1 : Hid (∀ W, Ext w3 W → (Instr.loadAt 23 (.pointer (some ⟨g1, 0, none⟩))).run Try.prog W = .ok (.agg (a.map bv).toArray) W) := fun W hW => load_arr arr16B rfl hia.out ((hW.block _ (Nat.lt_of_lt_of_le (lt_of_heap F1.out) B3.out.size)).trans ((B3.out.block _ (lt_of_heap F1.out)).trans F1.out))
  have G2 : Hid (∀ W, Ext w3 W → (Instr.loadAt 23 (.pointer (some ⟨g2, 0, none⟩))).run Try.prog W = .ok (.agg (b.map bv).toArray) W) := fun W hW => load_arr arr16B rfl hib.out ((hW.block _ (Nat.lt_of_lt_of_le (lt_of_heap F2.out) B3.out.size)).trans ((B3.out.block _ (lt_of_heap F2.out)).trans F2.out))
  have HX : Hid (Ext w3 w3.drew) := (Below.refl _ _).drew
  have htt : (t == t) = true := by simp
  go_wp2_with fail
  refine reg_start (by kernel_rfl) ?_
  try simp only [Act.put, List.setIfInBounds_toArray, List.set_cons_zero, List.set_cons_succ]
  generalize w3.drew = W1 at HX ⊢
  refine reg_take (v := ?_) 0 (some 20) rfl rfl (by kernel_rfl) (by kernel_rfl) (by kernel_rfl) (fun _ _ _ h => h) (by rfl) (fun W hW => ?_) ?_
  rotate_left
  · (go_simp; try rfl)
  simp only [Act.put, List.setIfInBounds_toArray, List.set_cons_zero, List.set_cons_succ]
  refine reg_load 1 (some 21) (fun W hW => G1.out W (Ext.trans HX.out hW)) rfl rfl rfl rfl (by kernel_rfl) (by kernel_rfl) (by kernel_rfl) (fun _ _ _ h => h) (by rfl) ?_
  simp only [Act.put, List.setIfInBounds_toArray, List.set_cons_zero, List.set_cons_succ]
  refine reg_take (v := ?_) 3 (some 23) rfl rfl (by kernel_rfl) (by kernel_rfl) (by kernel_rfl) (fun _ _ _ h => h) (by rfl) (fun W hW => ?_) ?_
  rotate_left
  · (go_simp; try rfl)
  simp only [Act.put, List.setIfInBounds_toArray, List.set_cons_zero, List.set_cons_succ]
  refine reg_load 4 (some 24) (fun W hW => G2.out W (Ext.trans HX.out hW)) rfl rfl rfl rfl (by kernel_rfl) (by kernel_rfl) (by kernel_rfl) (fun _ _ _ h => h) (by rfl) ?_
  simp only [Act.put, List.setIfInBounds_toArray, List.set_cons_zero, List.set_cons_succ]
  refine reg_load 7 (some 27) (fun W hW => G1.out W (Ext.trans HX.out hW)) rfl rfl rfl rfl (by kernel_rfl) (by kernel_rfl) (by kernel_rfl) (fun _ _ _ h => h) (by rfl) ?_
  simp only [Act.put, List.setIfInBounds_toArray, List.set_cons_zero, List.set_cons_succ]
  refine reg_load 8 (some 28) (fun W hW => G2.out W (Ext.trans HX.out hW)) rfl rfl rfl rfl (by kernel_rfl) (by kernel_rfl) (by kernel_rfl) (fun _ _ _ h => h) (by rfl) ?_
  simp only [Act.put, List.setIfInBounds_toArray, List.set_cons_zero, List.set_cons_succ]
  refine reg_take (v := ?_) 9 (some 29) rfl rfl (by kernel_rfl) (by kernel_rfl) (by kernel_rfl) (fun _ _ _ h => h) (by rfl) (fun W hW => ?_) ?_
  rotate_left
  · (go_simp; try rfl)
  simp only [Act.put, List.setIfInBounds_toArray, List.set_cons_zero, List.set_cons_succ]
  refine reg_eff 2 rfl (by kernel_rfl) (fun K hK => ?_)
  go_simp
  refine (HEA.out _ (K3.out.ext HX.out)).mono ?_
  rintro e w5 ⟨rfl, hE⟩
  refine hK.out _ _ hE ?_
  have HX := Lib.hid (Ext.trans HX.out hE)
  clear hE hK K
  try simp only [Act.put, List.setIfInBounds_toArray, List.set_cons_zero, List.set_cons_succ]
  refine reg_eff 5 rfl (by kernel_rfl) (fun K hK => ?_)
  go_simp
  refine (HEB.out _ (K3.out.ext HX.out)).mono ?_
  rintro e w6 ⟨rfl, hE⟩
  refine hK.out _ _ hE ?_
  have HX := Lib.hid (Ext.trans HX.out hE)
  clear hE hK K
  try simp only [Act.put, List.setIfInBounds_toArray, List.set_cons_zero, List.set_cons_succ]
  refine reg_take (v := ?_) 6 (some 26) rfl rfl (by kernel_rfl) (by kernel_rfl) (by kernel_rfl) (fun _ _ _ h => h) (by rfl) (fun W hW => ?_) ?_
  rotate_left
  · (go_simp; try rfl)
  simp only [Act.put, List.setIfInBounds_toArray, List.set_cons_zero, List.set_cons_succ]
  refine reg_take (v := ?_) 10 (some 30) rfl rfl (by kernel_rfl) (by kernel_rfl) (by kernel_rfl) (fun _ _ _ h => h) (by rfl) (fun W hW => ?_) ?_
  rotate_left
  · (go_simp; try rfl)
  simp only [Act.put, List.setIfInBounds_toArray, List.set_cons_zero, List.set_cons_succ]
  refine reg_take (v := ?_) 11 (some 31) rfl rfl (by kernel_rfl) (by kernel_rfl) (by kernel_rfl) (fun _ _ _ h => h) (by rfl) (fun W hW => ?_) ?_
  rotate_left
  · (go_simp; try rfl)
  simp only [Act.put, List.setIfInBounds_toArray, List.set_cons_zero, List.set_cons_succ]
  refine reg_take (v := ?_) 12 (some 32) rfl rfl (by kernel_rfl) (by kernel_rfl) (by kernel_rfl) (fun _ _ _ h => h) (by rfl) (fun W hW => ?_) ?_
  rotate_left
  · (go_simp; try rfl)
  simp only [Act.put, List.setIfInBounds_toArray, List.set_cons_zero, List.set_cons_succ]
  refine reg_load 13 (some 33) (fun W hW => G1.out W (Ext.trans HX.out hW)) rfl rfl rfl rfl (by kernel_rfl) (by kernel_rfl) (by kernel_rfl) (fun _ _ _ h => h) (by rfl) ?_
  simp only [Act.put, List.setIfInBounds_toArray, List.set_cons_zero, List.set_cons_succ]
  refine reg_take (v := ?_) 15 (some 35) rfl rfl (by kernel_rfl) (by kernel_rfl) (by kernel_rfl) (fun _ _ _ h => h) (by rfl) (fun W hW => ?_) ?_
  rotate_left
  · (go_simp; try rfl)
  simp only [Act.put, List.setIfInBounds_toArray, List.set_cons_zero, List.set_cons_succ]
  refine reg_load 16 (some 36) (fun W hW => G2.out W (Ext.trans HX.out hW)) rfl rfl rfl rfl (by kernel_rfl) (by kernel_rfl) (by kernel_rfl) (fun _ _ _ h => h) (by rfl) ?_
  simp only [Act.put, List.setIfInBounds_toArray, List.set_cons_zero, List.set_cons_succ]
  refine reg_load 19 (some 39) (fun W hW => G1.out W (Ext.trans HX.out hW)) rfl rfl rfl rfl (by kernel_rfl) (by kernel_rfl) (by kernel_rfl) (fun _ _ _ h => h) (by rfl) ?_
  simp only [Act.put, List.setIfInBounds_toArray, List.set_cons_zero, List.set_cons_succ]
  refine reg_load 20 (some 40) (fun W hW => G2.out W (Ext.trans HX.out hW)) rfl rfl rfl rfl (by kernel_rfl) (by kernel_rfl) (by kernel_rfl) (fun _ _ _ h => h) (by rfl) ?_
  simp only [Act.put, List.setIfInBounds_toArray, List.set_cons_zero, List.set_cons_succ]
  refine reg_take (v := ?_) 21 (some 41) rfl rfl (by kernel_rfl) (by kernel_rfl) (by kernel_rfl) (fun _ _ _ h => h) (by rfl) (fun W hW => ?_) ?_
  rotate_left
  · (go_simp; try rfl)
  simp only [Act.put, List.setIfInBounds_toArray, List.set_cons_zero, List.set_cons_succ]
  refine reg_eff 14 rfl (by kernel_rfl) (fun K hK => ?_)
  go_simp
  refine (HDA.out _ (K3.out.ext HX.out)).mono ?_
  rintro e w7 ⟨rfl, hE⟩
  refine hK.out _ _ hE ?_
  have HX := Lib.hid (Ext.trans HX.out hE)
  clear hE hK K
  try simp only [Act.put, List.setIfInBounds_toArray, List.set_cons_zero, List.set_cons_succ]
  refine reg_eff 17 rfl (by kernel_rfl) (fun K hK => ?_)
  go_simp
  refine (HDB.out _ (K3.out.ext HX.out)).mono ?_
  rintro e w8 ⟨rfl, hE⟩
  refine hK.out _ _ hE ?_
  have HX := Lib.hid (Ext.trans HX.out hE)
  clear hE hK K
  try simp only [Act.put, List.setIfInBounds_toArray, List.set_cons_zero, List.set_cons_succ]
  refine reg_take (v := ?_) 18 (some 38) rfl rfl (by kernel_rfl) (by kernel_rfl) (by kernel_rfl) (fun _ _ _ h => h) (by rfl) (fun W hW => ?_) ?_
  rotate_left
  · (go_simp; try rfl)
  simp only [Act.put, List.setIfInBounds_toArray, List.set_cons_zero, List.set_cons_succ]
  refine reg_take (v := ?_) 22 (some 42) rfl rfl (by kernel_rfl) (by kernel_rfl) (by kernel_rfl) (fun _ _ _ h => h) (by rfl) (fun W hW => ?_) ?_
  rotate_left
  · (go_simp; try rfl)
  simp only [Act.put, List.setIfInBounds_toArray, List.set_cons_zero, List.set_cons_succ]
  refine reg_take (v := ?_) 23 (some 43) rfl rfl (by kernel_rfl) (by kernel_rfl) (by kernel_rfl) (fun _ _ _ h => h) (by rfl) (fun W hW => ?_) ?_
  rotate_left
  · (go_simp; try rfl)
  simp only [Act.put, List.setIfInBounds_toArray, List.set_cons_zero, List.set_cons_succ]
  refine reg_take (v := ?_) 24 (some 44) rfl rfl (by kernel_rfl) (by kernel_rfl) (by kernel_rfl) (fun _ _ _ h => h) (by rfl) (fun W hW => ?_) ?_
  rotate_left
  · (go_simp; try rfl)
  simp only [Act.put, List.setIfInBounds_toArray, List.set_cons_zero, List.set_cons_succ]
  refine reg_eff 25 rfl (by kernel_rfl) (fun K hK => ?_)
  go_simp
  refine (awake3_any _).mono ?_
  rintro e w9 ⟨rfl, hE⟩
  refine hK.out _ _ hE ?_
  have HX := Lib.hid (Ext.trans HX.out hE)
  clear hE hK K
  try simp only [Act.put, List.setIfInBounds_toArray, List.set_cons_zero, List.set_cons_succ]
  refine reg_take (v := ?_) 26 (some 46) rfl rfl (by kernel_rfl) (by kernel_rfl) (by kernel_rfl) (fun _ _ _ h => h) (by rfl) (fun W hW => ?_) ?_
  rotate_left
  · (go_simp; try rfl)
  simp only [Act.put, List.setIfInBounds_toArray, List.set_cons_zero, List.set_cons_succ]
  refine reg_take (v := ?_) 27 (some 6) rfl rfl (by kernel_rfl) (by kernel_rfl) (by kernel_rfl) (fun _ _ _ h => h) (by rfl) (fun W hW => ?_) ?_
  rotate_left
  · (go_simp; try rfl)
  simp only [Act.put, List.setIfInBounds_toArray, List.set_cons_zero, List.set_cons_succ]
  refine reg_done (by kernel_rfl) ?_
  go_wp2
  go_ret
  exact ⟨rfl, (FB.out.step B3.out).step HX.out⟩
end Go.Proofs.Ytekfgifoflaliaa
