/- The walk of the law AesBack. -/
import Derived.Test.YtekfgifoflaliaaLawsA2
import Derived.Test.YtekfgifoflaliaaAesM4
namespace Go.Proofs.Ytekfgifoflaliaa
open Go.RowKit
set_option linter.unusedVariables false
set_option linter.unusedSimpArgs false
set_option maxHeartbeats 4000000 in
theorem aesBack_f (w : World) (key : List UInt8) (hk : key.length = 32) (b : List UInt8) (hb : b.length = 16) :
    Calls Try.prog 5 #[.agg (key.map bv).toArray, .bool false, .agg (b.map bv).toArray] w fun e w' => e = .returned (.bool true) ∧ Below w.heap.size w w' := by
  have HK := Lib.hid hk; have HBL := Lib.hid hb
  have hi16 : Hid ((Try.prog.info? 23).map (·.size) = some (b.map bv).length) := by show _ = _; rw [List.length_map, hb]; exact i16B
  have ht16 : Hid ((key.take 16).length = 16) := by show _ = _; rw [List.length_take, hk]; rfl
  have qb := eql_bytes (P := Try.prog) arr16B Try.underlying5 s8 b b hb hb
  rw [show decide (b = b) = true from by simp] at qb
  clear hk hb
  go_enter Try.func5, Try.ntmps5
  go_upto_region 1 with (fail)
  generalize hV : (w.alloc _).alloc _ = W0
  have F0 : Hid (W0.heap[w.heap.size]? = some (.cells (key.map bv).toArray 39 (0, 0))) := by rw [← hV]; exact (heap2 w _ _).1
  have F1 : Hid (W0.heap[w.heap.size + 1]? = some (.cells (b.map bv).toArray 23 (0, 0))) := by rw [← hV]; exact (heap2 w _ _).2.1
  have FB : Hid (Below w.heap.size w W0) := by rw [← hV]; exact (heap2 w _ _).2.2
  clear hV
  generalize w.heap.size + 1 = g1 at F1 ⊢
  have sl := arr_to arr32A s8 ⟨w.heap.size, 0, none⟩ .i64 16 (by omega) (by omega)
  rw [show (16 : Int).toNat = 16 from rfl] at sl
  have sl2 := arr_to arr32A s8 ⟨w.heap.size, 0, none⟩ .i64 32 (by omega) (by omega)
  rw [show (32 : Int).toNat = 32 from rfl] at sl2
  have HS16 : Hid (Sl W0 (some ⟨w.heap.size, 0, none⟩) 32 (key.take 16)) := sl_take (by omega) HK.out (by omega) F0.out
  have HS32 : Hid (Sl W0 (some ⟨w.heap.size, 0, none⟩) 32 key) := sl_row HK.out (by omega) F0.out
  have HXK := Lib.hid (expand_any (some ⟨w.heap.size, 0, none⟩) 16 32 4 (key.take 16) W0 ht16.out rfl (.inl rfl) HS16.out)
  have HXM := Lib.hid (expand_any (some ⟨w.heap.size, 0, none⟩) 32 32 8 key W0 HK.out rfl (.inr rfl) HS32.out)
  generalize expandL (key.take 16) = wk at HXK
  generalize expandL key = wm at HXM
  go_wp2_with fail
  refine HXK.out.mono ?_
  rintro e w3 ⟨gk, rfl, _, hK3, hB3⟩
  obtain ⟨ws, hws⟩ : ∃ ws, ws = wk := ⟨_, rfl⟩
  obtain ⟨nr, hnr⟩ : ∃ nr, nr = 4 + 6 := ⟨_, rfl⟩
  have hnr2 : 1 ≤ nr ∧ nr ≤ 14 := by omega
  rw [← hws, ← hnr] at hK3
  clear hws hnr
  have K3 := Lib.hid hK3; have B3 := Lib.hid hB3
  have hwl : Hid (ws.length = 60) := hK3.1
  clear hK3 hB3 HXK HXM
  have hEl := encL_len ws nr b hwl.out hnr2.2
  have hDl := decL_len ws nr b hwl.out
  have HEA := Lib.hid (fun W hW => enc_any gk nr ws b W HBL.out hnr2.1 hnr2.2 hW)
  have HDA := Lib.hid (fun W hW => dec_any gk nr ws b W HBL.out hnr2.1 hnr2.2 hW)
  have HED := Lib.hid (fun W hW => dec_any gk nr ws (encL ws nr b) W hEl hnr2.1 hnr2.2 hW)
  have HDE := Lib.hid (fun W hW => enc_any gk nr ws (decL ws nr b) W hDl hnr2.1 hnr2.2 hW)
  rw [dec_enc ws nr b hwl.out hnr2.1 hnr2.2 HBL.out] at HED
  rw [enc_dec ws nr b hwl.out hnr2.1 hnr2.2 HBL.out] at HDE
  clear hEl hDl
  generalize encL ws nr b = E at HEA HED
  generalize decL ws nr b = D at HDA HDE
  have G1 : Hid (∀ W, Ext w3 W → (Instr.loadAt 23 (.pointer (some ⟨g1, 0, none⟩))).run Try.prog W = .ok (.agg (b.map bv).toArray) W) := fun W hW => load_arr arr16B rfl hi16.out ((hW.block _ (Nat.lt_of_lt_of_le (lt_of_heap F1.out) B3.out.size)).trans ((B3.out.block _ (lt_of_heap F1.out)).trans F1.out))
  have HX : Hid (Ext w3 w3.drew) := (Below.refl _ _).drew
  go_wp2_with fail
  refine reg_start (by kernel_rfl) ?_
  try simp only [Act.put, List.setIfInBounds_toArray, List.set_cons_zero, List.set_cons_succ]
  generalize w3.drew = W1 at HX ⊢
  refine reg_take (v := ?_) 0 (some 23) rfl rfl (by kernel_rfl) (by kernel_rfl) (by kernel_rfl) (fun _ _ _ h => h) (by rfl) (fun W hW => ?_) ?_
  rotate_left
  · (go_simp; try rfl)
  simp only [Act.put, List.setIfInBounds_toArray, List.set_cons_zero, List.set_cons_succ]
  refine reg_take (v := ?_) 1 (some 24) rfl rfl (by kernel_rfl) (by kernel_rfl) (by kernel_rfl) (fun _ _ _ h => h) (by rfl) (fun W hW => ?_) ?_
  rotate_left
  · (go_simp; try rfl)
  simp only [Act.put, List.setIfInBounds_toArray, List.set_cons_zero, List.set_cons_succ]
  refine reg_load 2 (some 25) (fun W hW => G1.out W (Ext.trans HX.out hW)) rfl rfl rfl rfl (by kernel_rfl) (by kernel_rfl) (by kernel_rfl) (fun _ _ _ h => h) (by rfl) ?_
  simp only [Act.put, List.setIfInBounds_toArray, List.set_cons_zero, List.set_cons_succ]
  refine reg_load 5 (some 28) (fun W hW => G1.out W (Ext.trans HX.out hW)) rfl rfl rfl rfl (by kernel_rfl) (by kernel_rfl) (by kernel_rfl) (fun _ _ _ h => h) (by rfl) ?_
  simp only [Act.put, List.setIfInBounds_toArray, List.set_cons_zero, List.set_cons_succ]
  refine reg_eff 3 rfl (by kernel_rfl) (fun K hK => ?_)
  go_simp
  refine (HEA.out _ (K3.out.ext HX.out)).mono ?_
  rintro e w5 ⟨rfl, hE⟩
  refine hK.out _ _ hE ?_
  have HX := Lib.hid (Ext.trans HX.out hE)
  clear hE hK K
  try simp only [Act.put, List.setIfInBounds_toArray, List.set_cons_zero, List.set_cons_succ]
  refine reg_eff 4 rfl (by kernel_rfl) (fun K hK => ?_)
  go_simp
  refine (HED.out _ (K3.out.ext HX.out)).mono ?_
  rintro e w6 ⟨rfl, hE⟩
  refine hK.out _ _ hE ?_
  have HX := Lib.hid (Ext.trans HX.out hE)
  clear hE hK K
  try simp only [Act.put, List.setIfInBounds_toArray, List.set_cons_zero, List.set_cons_succ]
  refine reg_take (v := ?_) 6 (some 29) rfl rfl (by kernel_rfl) (by kernel_rfl) (by kernel_rfl) (fun _ _ _ h => h) (by rfl) (fun W hW => ?_) ?_
  rotate_left
  · (go_simp; try rfl)
  simp only [Act.put, List.setIfInBounds_toArray, List.set_cons_zero, List.set_cons_succ]
  refine reg_take (v := ?_) 7 (some 30) rfl rfl (by kernel_rfl) (by kernel_rfl) (by kernel_rfl) (fun _ _ _ h => h) (by rfl) (fun W hW => ?_) ?_
  rotate_left
  · (go_simp; try rfl)
  simp only [Act.put, List.setIfInBounds_toArray, List.set_cons_zero, List.set_cons_succ]
  refine reg_take (v := ?_) 8 (some 31) rfl rfl (by kernel_rfl) (by kernel_rfl) (by kernel_rfl) (fun _ _ _ h => h) (by rfl) (fun W hW => ?_) ?_
  rotate_left
  · (go_simp; try rfl)
  simp only [Act.put, List.setIfInBounds_toArray, List.set_cons_zero, List.set_cons_succ]
  refine reg_take (v := ?_) 9 (some 32) rfl rfl (by kernel_rfl) (by kernel_rfl) (by kernel_rfl) (fun _ _ _ h => h) (by rfl) (fun W hW => ?_) ?_
  rotate_left
  · (go_simp; try rfl)
  simp only [Act.put, List.setIfInBounds_toArray, List.set_cons_zero, List.set_cons_succ]
  refine reg_load 10 (some 33) (fun W hW => G1.out W (Ext.trans HX.out hW)) rfl rfl rfl rfl (by kernel_rfl) (by kernel_rfl) (by kernel_rfl) (fun _ _ _ h => h) (by rfl) ?_
  simp only [Act.put, List.setIfInBounds_toArray, List.set_cons_zero, List.set_cons_succ]
  refine reg_load 13 (some 36) (fun W hW => G1.out W (Ext.trans HX.out hW)) rfl rfl rfl rfl (by kernel_rfl) (by kernel_rfl) (by kernel_rfl) (fun _ _ _ h => h) (by rfl) ?_
  simp only [Act.put, List.setIfInBounds_toArray, List.set_cons_zero, List.set_cons_succ]
  refine reg_eff 11 rfl (by kernel_rfl) (fun K hK => ?_)
  go_simp
  refine (HDA.out _ (K3.out.ext HX.out)).mono ?_
  rintro e w7 ⟨rfl, hE⟩
  refine hK.out _ _ hE ?_
  have HX := Lib.hid (Ext.trans HX.out hE)
  clear hE hK K
  try simp only [Act.put, List.setIfInBounds_toArray, List.set_cons_zero, List.set_cons_succ]
  refine reg_eff 12 rfl (by kernel_rfl) (fun K hK => ?_)
  go_simp
  refine (HDE.out _ (K3.out.ext HX.out)).mono ?_
  rintro e w8 ⟨rfl, hE⟩
  refine hK.out _ _ hE ?_
  have HX := Lib.hid (Ext.trans HX.out hE)
  clear hE hK K
  try simp only [Act.put, List.setIfInBounds_toArray, List.set_cons_zero, List.set_cons_succ]
  refine reg_take (v := ?_) 14 (some 37) rfl rfl (by kernel_rfl) (by kernel_rfl) (by kernel_rfl) (fun _ _ _ h => h) (by rfl) (fun W hW => ?_) ?_
  rotate_left
  · (go_simp; try rfl)
  simp only [Act.put, List.setIfInBounds_toArray, List.set_cons_zero, List.set_cons_succ]
  refine reg_take (v := ?_) 15 (some 38) rfl rfl (by kernel_rfl) (by kernel_rfl) (by kernel_rfl) (fun _ _ _ h => h) (by rfl) (fun W hW => ?_) ?_
  rotate_left
  · (go_simp; try rfl)
  simp only [Act.put, List.setIfInBounds_toArray, List.set_cons_zero, List.set_cons_succ]
  refine reg_take (v := ?_) 16 (some 39) rfl rfl (by kernel_rfl) (by kernel_rfl) (by kernel_rfl) (fun _ _ _ h => h) (by rfl) (fun W hW => ?_) ?_
  rotate_left
  · (go_simp; try rfl)
  simp only [Act.put, List.setIfInBounds_toArray, List.set_cons_zero, List.set_cons_succ]
  refine reg_eff 17 rfl (by kernel_rfl) (fun K hK => ?_)
  go_simp
  refine (awake3_any _).mono ?_
  rintro e w9 ⟨rfl, hE⟩
  refine hK.out _ _ hE ?_
  have HX := Lib.hid (Ext.trans HX.out hE)
  clear hE hK K
  try simp only [Act.put, List.setIfInBounds_toArray, List.set_cons_zero, List.set_cons_succ]
  refine reg_take (v := ?_) 18 (some 41) rfl rfl (by kernel_rfl) (by kernel_rfl) (by kernel_rfl) (fun _ _ _ h => h) (by rfl) (fun W hW => ?_) ?_
  rotate_left
  · (go_simp; try rfl)
  simp only [Act.put, List.setIfInBounds_toArray, List.set_cons_zero, List.set_cons_succ]
  refine reg_take (v := ?_) 19 (some 6) rfl rfl (by kernel_rfl) (by kernel_rfl) (by kernel_rfl) (fun _ _ _ h => h) (by rfl) (fun W hW => ?_) ?_
  rotate_left
  · (go_simp; try rfl)
  simp only [Act.put, List.setIfInBounds_toArray, List.set_cons_zero, List.set_cons_succ]
  refine reg_done (by kernel_rfl) ?_
  go_wp2
  go_ret
  exact ⟨rfl, (FB.out.step B3.out).step HX.out⟩
set_option maxHeartbeats 4000000 in
theorem aesBack_t (w : World) (key : List UInt8) (hk : key.length = 32) (b : List UInt8) (hb : b.length = 16) :
    Calls Try.prog 5 #[.agg (key.map bv).toArray, .bool true, .agg (b.map bv).toArray] w fun e w' => e = .returned (.bool true) ∧ Below w.heap.size w w' := by
  have HK := Lib.hid hk; have HBL := Lib.hid hb
  have hi16 : Hid ((Try.prog.info? 23).map (·.size) = some (b.map bv).length) := by show _ = _; rw [List.length_map, hb]; exact i16B
  have ht16 : Hid ((key.take 16).length = 16) := by show _ = _; rw [List.length_take, hk]; rfl
  have qb := eql_bytes (P := Try.prog) arr16B Try.underlying5 s8 b b hb hb
  rw [show decide (b = b) = true from by simp] at qb
  clear hk hb
  go_enter Try.func5, Try.ntmps5
  go_upto_region 1 with (fail)
  generalize hV : (w.alloc _).alloc _ = W0
  have F0 : Hid (W0.heap[w.heap.size]? = some (.cells (key.map bv).toArray 39 (0, 0))) := by rw [← hV]; exact (heap2 w _ _).1
  have F1 : Hid (W0.heap[w.heap.size + 1]? = some (.cells (b.map bv).toArray 23 (0, 0))) := by rw [← hV]; exact (heap2 w _ _).2.1
  have FB : Hid (Below w.heap.size w W0) := by rw [← hV]; exact (heap2 w _ _).2.2
  clear hV
  generalize w.heap.size + 1 = g1 at F1 ⊢
  have sl := arr_to arr32A s8 ⟨w.heap.size, 0, none⟩ .i64 16 (by omega) (by omega)
  rw [show (16 : Int).toNat = 16 from rfl] at sl
  have sl2 := arr_to arr32A s8 ⟨w.heap.size, 0, none⟩ .i64 32 (by omega) (by omega)
  rw [show (32 : Int).toNat = 32 from rfl] at sl2
  have HS16 : Hid (Sl W0 (some ⟨w.heap.size, 0, none⟩) 32 (key.take 16)) := sl_take (by omega) HK.out (by omega) F0.out
  have HS32 : Hid (Sl W0 (some ⟨w.heap.size, 0, none⟩) 32 key) := sl_row HK.out (by omega) F0.out
  have HXK := Lib.hid (expand_any (some ⟨w.heap.size, 0, none⟩) 16 32 4 (key.take 16) W0 ht16.out rfl (.inl rfl) HS16.out)
  have HXM := Lib.hid (expand_any (some ⟨w.heap.size, 0, none⟩) 32 32 8 key W0 HK.out rfl (.inr rfl) HS32.out)
  generalize expandL (key.take 16) = wk at HXK
  generalize expandL key = wm at HXM
  go_wp2_with fail
  refine HXM.out.mono ?_
  rintro e w3 ⟨gk, rfl, _, hK3, hB3⟩
  obtain ⟨ws, hws⟩ : ∃ ws, ws = wm := ⟨_, rfl⟩
  obtain ⟨nr, hnr⟩ : ∃ nr, nr = 8 + 6 := ⟨_, rfl⟩
  have hnr2 : 1 ≤ nr ∧ nr ≤ 14 := by omega
  rw [← hws, ← hnr] at hK3
  clear hws hnr
  have K3 := Lib.hid hK3; have B3 := Lib.hid hB3
  have hwl : Hid (ws.length = 60) := hK3.1
  clear hK3 hB3 HXK HXM
  have hEl := encL_len ws nr b hwl.out hnr2.2
  have hDl := decL_len ws nr b hwl.out
  have HEA := Lib.hid (fun W hW => enc_any gk nr ws b W HBL.out hnr2.1 hnr2.2 hW)
  have HDA := Lib.hid (fun W hW => dec_any gk nr ws b W HBL.out hnr2.1 hnr2.2 hW)
  have HED := Lib.hid (fun W hW => dec_any gk nr ws (encL ws nr b) W hEl hnr2.1 hnr2.2 hW)
  have HDE := Lib.hid (fun W hW => enc_any gk nr ws (decL ws nr b) W hDl hnr2.1 hnr2.2 hW)
  rw [dec_enc ws nr b hwl.out hnr2.1 hnr2.2 HBL.out] at HED
  rw [enc_dec ws nr b hwl.out hnr2.1 hnr2.2 HBL.out] at HDE
  clear hEl hDl
  generalize encL ws nr b = E at HEA HED
  generalize decL ws nr b = D at HDA HDE
  have G1 : Hid (∀ W, Ext w3 W → (Instr.loadAt 23 (.pointer (some ⟨g1, 0, none⟩))).run Try.prog W = .ok (.agg (b.map bv).toArray) W) := fun W hW => load_arr arr16B rfl hi16.out ((hW.block _ (Nat.lt_of_lt_of_le (lt_of_heap F1.out) B3.out.size)).trans ((B3.out.block _ (lt_of_heap F1.out)).trans F1.out))
  have HX : Hid (Ext w3 w3.drew) := (Below.refl _ _).drew
  go_wp2_with fail
  refine reg_start (by kernel_rfl) ?_
  try simp only [Act.put, List.setIfInBounds_toArray, List.set_cons_zero, List.set_cons_succ]
  generalize w3.drew = W1 at HX ⊢
  refine reg_take (v := ?_) 0 (some 23) rfl rfl (by kernel_rfl) (by kernel_rfl) (by kernel_rfl) (fun _ _ _ h => h) (by rfl) (fun W hW => ?_) ?_
  rotate_left
  · (go_simp; try rfl)
  simp only [Act.put, List.setIfInBounds_toArray, List.set_cons_zero, List.set_cons_succ]
  refine reg_take (v := ?_) 1 (some 24) rfl rfl (by kernel_rfl) (by kernel_rfl) (by kernel_rfl) (fun _ _ _ h => h) (by rfl) (fun W hW => ?_) ?_
  rotate_left
  · (go_simp; try rfl)
  simp only [Act.put, List.setIfInBounds_toArray, List.set_cons_zero, List.set_cons_succ]
  refine reg_load 2 (some 25) (fun W hW => G1.out W (Ext.trans HX.out hW)) rfl rfl rfl rfl (by kernel_rfl) (by kernel_rfl) (by kernel_rfl) (fun _ _ _ h => h) (by rfl) ?_
  simp only [Act.put, List.setIfInBounds_toArray, List.set_cons_zero, List.set_cons_succ]
  refine reg_load 5 (some 28) (fun W hW => G1.out W (Ext.trans HX.out hW)) rfl rfl rfl rfl (by kernel_rfl) (by kernel_rfl) (by kernel_rfl) (fun _ _ _ h => h) (by rfl) ?_
  simp only [Act.put, List.setIfInBounds_toArray, List.set_cons_zero, List.set_cons_succ]
  refine reg_eff 3 rfl (by kernel_rfl) (fun K hK => ?_)
  go_simp
  refine (HEA.out _ (K3.out.ext HX.out)).mono ?_
  rintro e w5 ⟨rfl, hE⟩
  refine hK.out _ _ hE ?_
  have HX := Lib.hid (Ext.trans HX.out hE)
  clear hE hK K
  try simp only [Act.put, List.setIfInBounds_toArray, List.set_cons_zero, List.set_cons_succ]
  refine reg_eff 4 rfl (by kernel_rfl) (fun K hK => ?_)
  go_simp
  refine (HED.out _ (K3.out.ext HX.out)).mono ?_
  rintro e w6 ⟨rfl, hE⟩
  refine hK.out _ _ hE ?_
  have HX := Lib.hid (Ext.trans HX.out hE)
  clear hE hK K
  try simp only [Act.put, List.setIfInBounds_toArray, List.set_cons_zero, List.set_cons_succ]
  refine reg_take (v := ?_) 6 (some 29) rfl rfl (by kernel_rfl) (by kernel_rfl) (by kernel_rfl) (fun _ _ _ h => h) (by rfl) (fun W hW => ?_) ?_
  rotate_left
  · (go_simp; try rfl)
  simp only [Act.put, List.setIfInBounds_toArray, List.set_cons_zero, List.set_cons_succ]
  refine reg_take (v := ?_) 7 (some 30) rfl rfl (by kernel_rfl) (by kernel_rfl) (by kernel_rfl) (fun _ _ _ h => h) (by rfl) (fun W hW => ?_) ?_
  rotate_left
  · (go_simp; try rfl)
  simp only [Act.put, List.setIfInBounds_toArray, List.set_cons_zero, List.set_cons_succ]
  refine reg_take (v := ?_) 8 (some 31) rfl rfl (by kernel_rfl) (by kernel_rfl) (by kernel_rfl) (fun _ _ _ h => h) (by rfl) (fun W hW => ?_) ?_
  rotate_left
  · (go_simp; try rfl)
  simp only [Act.put, List.setIfInBounds_toArray, List.set_cons_zero, List.set_cons_succ]
  refine reg_take (v := ?_) 9 (some 32) rfl rfl (by kernel_rfl) (by kernel_rfl) (by kernel_rfl) (fun _ _ _ h => h) (by rfl) (fun W hW => ?_) ?_
  rotate_left
  · (go_simp; try rfl)
  simp only [Act.put, List.setIfInBounds_toArray, List.set_cons_zero, List.set_cons_succ]
  refine reg_load 10 (some 33) (fun W hW => G1.out W (Ext.trans HX.out hW)) rfl rfl rfl rfl (by kernel_rfl) (by kernel_rfl) (by kernel_rfl) (fun _ _ _ h => h) (by rfl) ?_
  simp only [Act.put, List.setIfInBounds_toArray, List.set_cons_zero, List.set_cons_succ]
  refine reg_load 13 (some 36) (fun W hW => G1.out W (Ext.trans HX.out hW)) rfl rfl rfl rfl (by kernel_rfl) (by kernel_rfl) (by kernel_rfl) (fun _ _ _ h => h) (by rfl) ?_
  simp only [Act.put, List.setIfInBounds_toArray, List.set_cons_zero, List.set_cons_succ]
  refine reg_eff 11 rfl (by kernel_rfl) (fun K hK => ?_)
  go_simp
  refine (HDA.out _ (K3.out.ext HX.out)).mono ?_
  rintro e w7 ⟨rfl, hE⟩
  refine hK.out _ _ hE ?_
  have HX := Lib.hid (Ext.trans HX.out hE)
  clear hE hK K
  try simp only [Act.put, List.setIfInBounds_toArray, List.set_cons_zero, List.set_cons_succ]
  refine reg_eff 12 rfl (by kernel_rfl) (fun K hK => ?_)
  go_simp
  refine (HDE.out _ (K3.out.ext HX.out)).mono ?_
  rintro e w8 ⟨rfl, hE⟩
  refine hK.out _ _ hE ?_
  have HX := Lib.hid (Ext.trans HX.out hE)
  clear hE hK K
  try simp only [Act.put, List.setIfInBounds_toArray, List.set_cons_zero, List.set_cons_succ]
  refine reg_take (v := ?_) 14 (some 37) rfl rfl (by kernel_rfl) (by kernel_rfl) (by kernel_rfl) (fun _ _ _ h => h) (by rfl) (fun W hW => ?_) ?_
  rotate_left
  · (go_simp; try rfl)
  simp only [Act.put, List.setIfInBounds_toArray, List.set_cons_zero, List.set_cons_succ]
  refine reg_take (v := ?_) 15 (some 38) rfl rfl (by kernel_rfl) (by kernel_rfl) (by kernel_rfl) (fun _ _ _ h => h) (by rfl) (fun W hW => ?_) ?_
  rotate_left
  · (go_simp; try rfl)
  simp only [Act.put, List.setIfInBounds_toArray, List.set_cons_zero, List.set_cons_succ]
  refine reg_take (v := ?_) 16 (some 39) rfl rfl (by kernel_rfl) (by kernel_rfl) (by kernel_rfl) (fun _ _ _ h => h) (by rfl) (fun W hW => ?_) ?_
  rotate_left
  · (go_simp; try rfl)
  simp only [Act.put, List.setIfInBounds_toArray, List.set_cons_zero, List.set_cons_succ]
  refine reg_eff 17 rfl (by kernel_rfl) (fun K hK => ?_)
  go_simp
  refine (awake3_any _).mono ?_
  rintro e w9 ⟨rfl, hE⟩
  refine hK.out _ _ hE ?_
  have HX := Lib.hid (Ext.trans HX.out hE)
  clear hE hK K
  try simp only [Act.put, List.setIfInBounds_toArray, List.set_cons_zero, List.set_cons_succ]
  refine reg_take (v := ?_) 18 (some 41) rfl rfl (by kernel_rfl) (by kernel_rfl) (by kernel_rfl) (fun _ _ _ h => h) (by rfl) (fun W hW => ?_) ?_
  rotate_left
  · (go_simp; try rfl)
  simp only [Act.put, List.setIfInBounds_toArray, List.set_cons_zero, List.set_cons_succ]
  refine reg_take (v := ?_) 19 (some 6) rfl rfl (by kernel_rfl) (by kernel_rfl) (by kernel_rfl) (fun _ _ _ h => h) (by rfl) (fun W hW => ?_) ?_
  rotate_left
  · (go_simp; try rfl)
  simp only [Act.put, List.setIfInBounds_toArray, List.set_cons_zero, List.set_cons_succ]
  refine reg_done (by kernel_rfl) ?_
  go_wp2
  go_ret
  exact ⟨rfl, (FB.out.step B3.out).step HX.out⟩
theorem aesBack_walk (w : World) (key : List UInt8) (hk : key.length = 32) (long : Bool) (b : List UInt8) (hb : b.length = 16) :
    Calls Try.prog 5 #[.agg (key.map bv).toArray, .bool long, .agg (b.map bv).toArray] w fun e w' => e = .returned (.bool true) ∧ Below w.heap.size w w' := by
  cases long
  · exact aesBack_f w key hk b hb
  · exact aesBack_t w key hk b hb
end Go.Proofs.Ytekfgifoflaliaa
