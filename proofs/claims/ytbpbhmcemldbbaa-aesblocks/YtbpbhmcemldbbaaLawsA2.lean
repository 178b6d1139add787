/- The walk of the law AesRounds. -/
import Derived.Test.YtbpbhmcemldbbaaAes13
namespace Go.Proofs.Ytbpbhmcemldbbaa
open Go.RowKit
set_option maxRecDepth 100000
set_option linter.unusedVariables false
set_option linter.unusedSimpArgs false
theorem arr32A : Try.prog.underlying 39 = some (.array 32 5) := Try.underlying39
theorem outL16 (s : List W32) (h : s.length = 4) : (outL s).length = 16 := by rw [outL_len, h]
theorem encL_len (ws : List W32) (n : Nat) (b : List UInt8) (hw : ws.length = 60) (hn : n ≤ 14) : (encL ws n b).length = 16 :=
  outL16 _ (addW_len _ _ _ (shiftW_len _ _) (by omega))
theorem decL_len (ws : List W32) (n : Nat) (b : List UInt8) (hw : ws.length = 60) : (decL ws n b).length = 16 :=
  outL16 _ (addW_len _ _ _ (decN_len _ _ _ _ _) (by omega))
theorem sl_take {W : World} {g n m : Nat} {bs : List UInt8} {t : TypeId} {fr : Nat × Nat} (hm : m ≤ n) (hl : bs.length = n) (hn : n ≤ 2147483647) (hk : W.heap[g]? = some (.cells (bs.map bv).toArray t fr)) : Sl W (some ⟨g, 0, none⟩) n (bs.take m) := by
  have h := sl_row hl hn hk
  refine ⟨by rw [List.length_take]; omega, h.2.1, ?_⟩
  have := h.2.2.take m
  rw [← List.map_take] at this; exact this
set_option maxHeartbeats 4000000 in
theorem aesRounds_walk (w : World) (key : List UInt8) (hk : key.length = 32) (b : List UInt8) (hb : b.length = 16) :
    Calls Try.prog 9 #[.agg (key.map bv).toArray, .agg (b.map bv).toArray] w fun e w' => e = .returned (.bool true) ∧ Below w.heap.size w w' := by
  have HK := Lib.hid hk; have HBL := Lib.hid hb
  have hi16 : Hid ((Try.prog.info? 23).map (·.size) = some (b.map bv).length) := by show _ = _; rw [List.length_map, hb]; exact i16B
  have ht16 : Hid ((key.take 16).length = 16) := by show _ = _; rw [List.length_take, hk]; rfl
  clear hk hb
  go_enter Try.func9, Try.ntmps9
  go_upto_region 1 with (fail)
  generalize hV : (w.alloc _).alloc _ = W0
  have F0 : Hid (W0.heap[w.heap.size]? = some (.cells (key.map bv).toArray 39 (0, 0))) := by rw [← hV]; exact (heap2 w _ _).1
  have F1 : Hid (W0.heap[w.heap.size + 1]? = some (.cells (b.map bv).toArray 23 (0, 0))) := by rw [← hV]; exact (heap2 w _ _).2.1
  have FB : Hid (Below w.heap.size w W0) := by rw [← hV]; exact (heap2 w _ _).2.2
  clear hV
  generalize w.heap.size + 1 = g1 at F1 ⊢
  have sl := arr_to arr32A s8 ⟨w.heap.size, 0, none⟩ .i64 16 (by omega) (by omega)
  rw [show (16 : Int).toNat = 16 from rfl] at sl
  have sl2 := arr_all arr32A s8 ⟨w.heap.size, 0, none⟩
  have HS16 : Hid (∀ W, Below W0.heap.size W0 W → Sl W (some ⟨w.heap.size, 0, none⟩) 32 (key.take 16)) := fun W hW => sl_take (by omega) HK.out (by omega) ((hW.block _ (lt_of_heap F0.out)).trans F0.out)
  have HS32 : Hid (∀ W, Below W0.heap.size W0 W → Sl W (some ⟨w.heap.size, 0, none⟩) 32 key) := fun W hW => sl_row HK.out (by omega) ((hW.block _ (lt_of_heap F0.out)).trans F0.out)
  have G1 : Hid (∀ W, Below W0.heap.size W0 W → (Instr.loadAt 23 (.pointer (some ⟨g1, 0, none⟩))).run Try.prog W = .ok (.agg (b.map bv).toArray) W) := fun W hW => load_arr arr16B rfl hi16.out ((hW.block _ (lt_of_heap F1.out)).trans F1.out)
  have HXK := Lib.hid (fun W hW => expand_any (some ⟨w.heap.size, 0, none⟩) 16 32 4 (key.take 16) W ht16.out rfl (.inl rfl) (HS16.out W hW))
  have HXM := Lib.hid (fun W hW => expand_any (some ⟨w.heap.size, 0, none⟩) 32 32 8 key W HK.out rfl (.inr rfl) (HS32.out W hW))
  generalize expandL (key.take 16) = wk at HXK
  generalize expandL key = wm at HXM
  go_wp2_with fail
  refine (HXK.out W0 (Below.refl _ _)).mono ?_
  rintro e w1 ⟨gk, rfl, _, hK1, hB1⟩
  have K1 := Lib.hid hK1; have B1 := Lib.hid hB1
  clear hK1 hB1
  go_wp2_with fail
  refine (HXM.out w1 B1.out).mono ?_
  rintro e w2 ⟨gm, rfl, _, hK2, hB2⟩
  have K1b := Lib.hid (K1.out.ext hB2)
  have K2 := Lib.hid hK2; have B2 := Lib.hid (B1.out.step hB2)
  clear hK2 hB2 K1 B1
  go_wp2_with fail
  refine (HXM.out w2 B2.out).mono ?_
  rintro e w3 ⟨gn, rfl, _, hK3, hB3⟩
  have K1c := Lib.hid (K1b.out.ext hB3)
  have K2c := Lib.hid (K2.out.ext hB3)
  have K3 := Lib.hid hK3; have B3 := Lib.hid (B2.out.step hB3)
  clear hK3 hB3 K1b K2 B2
  have hwm : Hid (wm.length = 60) := K3.out.1
  have HEA := Lib.hid (fun g W hW => enc_any g 14 wm b W HBL.out (by omega) (by omega) hW)
  have HDA := Lib.hid (fun g W hW => dec_any g 14 wm b W HBL.out (by omega) (by omega) hW)
  have q1 := eql_bytes (P := Try.prog) arr16B Try.underlying5 s8 (encL wm 14 b) (encL wm 14 b) (encL_len _ _ _ hwm.out (by omega)) (encL_len _ _ _ hwm.out (by omega))
  have q2 := eql_bytes (P := Try.prog) arr16B Try.underlying5 s8 (decL wm 14 b) (decL wm 14 b) (decL_len _ _ _ hwm.out) (decL_len _ _ _ hwm.out)
  rw [show decide (encL wm 14 b = encL wm 14 b) = true from by simp] at q1
  rw [show decide (decL wm 14 b = decL wm 14 b) = true from by simp] at q2
  generalize encL wm 14 b = E at HEA q1
  generalize decL wm 14 b = D at HDA q2
  have HX : Hid (Ext w3 w3.drew) := (Below.refl _ _).drew
  go_wp2_with fail
  refine reg_start (by kernel_rfl) ?_
  try simp only [Act.put, List.setIfInBounds_toArray, List.set_cons_zero, List.set_cons_succ]
  generalize w3.drew = W1 at HX ⊢
  refine reg_take (v := ?_) 0 (some 36) rfl rfl (by kernel_rfl) (by kernel_rfl) (by kernel_rfl) (fun _ _ _ h => h) (by rfl) (fun W hW => ?_) ?_
  rotate_left
  · (go_simp; try rfl)
  simp only [Act.put, List.setIfInBounds_toArray, List.set_cons_zero, List.set_cons_succ]
  refine reg_eff 1 rfl (by kernel_rfl) (fun K hK => ?_)
  go_simp
  refine (rounds_any gk _ _ _ (K1c.out.ext HX.out)).mono ?_
  rintro e w4 ⟨rfl, rfl⟩
  have hE := (Ext.refl W1)
  refine hK.out _ _ hE ?_
  have HX := Lib.hid (Ext.trans HX.out hE)
  clear hE hK K
  try simp only [Act.put, List.setIfInBounds_toArray, List.set_cons_zero, List.set_cons_succ]
  refine reg_take (v := ?_) 2 (some 38) rfl rfl (by kernel_rfl) (by kernel_rfl) (by kernel_rfl) (fun _ _ _ h => h) (by rfl) (fun W hW => ?_) ?_
  rotate_left
  · (go_simp; try rfl)
  simp only [Act.put, List.setIfInBounds_toArray, List.set_cons_zero, List.set_cons_succ]
  refine reg_take (v := ?_) 3 (some 39) rfl rfl (by kernel_rfl) (by kernel_rfl) (by kernel_rfl) (fun _ _ _ h => h) (by rfl) (fun W hW => ?_) ?_
  rotate_left
  · (go_simp; try rfl)
  simp only [Act.put, List.setIfInBounds_toArray, List.set_cons_zero, List.set_cons_succ]
  refine reg_take (v := ?_) 4 (some 40) rfl rfl (by kernel_rfl) (by kernel_rfl) (by kernel_rfl) (fun _ _ _ h => h) (by rfl) (fun W hW => ?_) ?_
  rotate_left
  · (go_simp; try rfl)
  simp only [Act.put, List.setIfInBounds_toArray, List.set_cons_zero, List.set_cons_succ]
  refine reg_eff 5 rfl (by kernel_rfl) (fun K hK => ?_)
  go_simp
  refine (rounds_any gm _ _ _ (K2c.out.ext HX.out)).mono ?_
  rintro e w4 ⟨rfl, rfl⟩
  have hE := (Ext.refl W1)
  refine hK.out _ _ hE ?_
  have HX := Lib.hid (Ext.trans HX.out hE)
  clear hE hK K
  try simp only [Act.put, List.setIfInBounds_toArray, List.set_cons_zero, List.set_cons_succ]
  refine reg_take (v := ?_) 6 (some 42) rfl rfl (by kernel_rfl) (by kernel_rfl) (by kernel_rfl) (fun _ _ _ h => h) (by rfl) (fun W hW => ?_) ?_
  rotate_left
  · (go_simp; try rfl)
  simp only [Act.put, List.setIfInBounds_toArray, List.set_cons_zero, List.set_cons_succ]
  refine reg_take (v := ?_) 7 (some 43) rfl rfl (by kernel_rfl) (by kernel_rfl) (by kernel_rfl) (fun _ _ _ h => h) (by rfl) (fun W hW => ?_) ?_
  rotate_left
  · (go_simp; try rfl)
  simp only [Act.put, List.setIfInBounds_toArray, List.set_cons_zero, List.set_cons_succ]
  refine reg_take (v := ?_) 8 (some 44) rfl rfl (by kernel_rfl) (by kernel_rfl) (by kernel_rfl) (fun _ _ _ h => h) (by rfl) (fun W hW => ?_) ?_
  rotate_left
  · (go_simp; try rfl)
  simp only [Act.put, List.setIfInBounds_toArray, List.set_cons_zero, List.set_cons_succ]
  refine reg_take (v := ?_) 9 (some 45) rfl rfl (by kernel_rfl) (by kernel_rfl) (by kernel_rfl) (fun _ _ _ h => h) (by rfl) (fun W hW => ?_) ?_
  rotate_left
  · (go_simp; try rfl)
  simp only [Act.put, List.setIfInBounds_toArray, List.set_cons_zero, List.set_cons_succ]
  refine reg_load 10 (some 46) (fun W hW => G1.out W (Below.step B3.out (Ext.trans HX.out hW))) rfl rfl rfl rfl (by kernel_rfl) (by kernel_rfl) (by kernel_rfl) (fun _ _ _ h => h) (by rfl) ?_
  simp only [Act.put, List.setIfInBounds_toArray, List.set_cons_zero, List.set_cons_succ]
  refine reg_take (v := ?_) 12 (some 48) rfl rfl (by kernel_rfl) (by kernel_rfl) (by kernel_rfl) (fun _ _ _ h => h) (by rfl) (fun W hW => ?_) ?_
  rotate_left
  · (go_simp; try rfl)
  simp only [Act.put, List.setIfInBounds_toArray, List.set_cons_zero, List.set_cons_succ]
  refine reg_load 13 (some 49) (fun W hW => G1.out W (Below.step B3.out (Ext.trans HX.out hW))) rfl rfl rfl rfl (by kernel_rfl) (by kernel_rfl) (by kernel_rfl) (fun _ _ _ h => h) (by rfl) ?_
  simp only [Act.put, List.setIfInBounds_toArray, List.set_cons_zero, List.set_cons_succ]
  refine reg_eff 11 rfl (by kernel_rfl) (fun K hK => ?_)
  go_simp
  refine (HEA.out gm _ (K2c.out.ext HX.out)).mono ?_
  rintro e w5 ⟨rfl, hE⟩
  refine hK.out _ _ hE ?_
  have HX := Lib.hid (Ext.trans HX.out hE)
  clear hE hK K
  try simp only [Act.put, List.setIfInBounds_toArray, List.set_cons_zero, List.set_cons_succ]
  refine reg_eff 14 rfl (by kernel_rfl) (fun K hK => ?_)
  go_simp
  refine (HEA.out gn _ (K3.out.ext HX.out)).mono ?_
  rintro e w6 ⟨rfl, hE⟩
  refine hK.out _ _ hE ?_
  have HX := Lib.hid (Ext.trans HX.out hE)
  clear hE hK K
  try simp only [Act.put, List.setIfInBounds_toArray, List.set_cons_zero, List.set_cons_succ]
  refine reg_take (v := ?_) 15 (some 51) rfl rfl (by kernel_rfl) (by kernel_rfl) (by kernel_rfl) (fun _ _ _ h => h) (by rfl) (fun W hW => ?_) ?_
  rotate_left
  · (go_simp; try rfl)
  simp only [Act.put, List.setIfInBounds_toArray, List.set_cons_zero, List.set_cons_succ]
  refine reg_take (v := ?_) 16 (some 52) rfl rfl (by kernel_rfl) (by kernel_rfl) (by kernel_rfl) (fun _ _ _ h => h) (by rfl) (fun W hW => ?_) ?_
  rotate_left
  · (go_simp; try rfl)
  simp only [Act.put, List.setIfInBounds_toArray, List.set_cons_zero, List.set_cons_succ]
  refine reg_take (v := ?_) 17 (some 53) rfl rfl (by kernel_rfl) (by kernel_rfl) (by kernel_rfl) (fun _ _ _ h => h) (by rfl) (fun W hW => ?_) ?_
  rotate_left
  · (go_simp; try rfl)
  simp only [Act.put, List.setIfInBounds_toArray, List.set_cons_zero, List.set_cons_succ]
  refine reg_take (v := ?_) 18 (some 54) rfl rfl (by kernel_rfl) (by kernel_rfl) (by kernel_rfl) (fun _ _ _ h => h) (by rfl) (fun W hW => ?_) ?_
  rotate_left
  · (go_simp; try rfl)
  simp only [Act.put, List.setIfInBounds_toArray, List.set_cons_zero, List.set_cons_succ]
  refine reg_load 19 (some 55) (fun W hW => G1.out W (Below.step B3.out (Ext.trans HX.out hW))) rfl rfl rfl rfl (by kernel_rfl) (by kernel_rfl) (by kernel_rfl) (fun _ _ _ h => h) (by rfl) ?_
  simp only [Act.put, List.setIfInBounds_toArray, List.set_cons_zero, List.set_cons_succ]
  refine reg_take (v := ?_) 21 (some 57) rfl rfl (by kernel_rfl) (by kernel_rfl) (by kernel_rfl) (fun _ _ _ h => h) (by rfl) (fun W hW => ?_) ?_
  rotate_left
  · (go_simp; try rfl)
  simp only [Act.put, List.setIfInBounds_toArray, List.set_cons_zero, List.set_cons_succ]
  refine reg_load 22 (some 58) (fun W hW => G1.out W (Below.step B3.out (Ext.trans HX.out hW))) rfl rfl rfl rfl (by kernel_rfl) (by kernel_rfl) (by kernel_rfl) (fun _ _ _ h => h) (by rfl) ?_
  simp only [Act.put, List.setIfInBounds_toArray, List.set_cons_zero, List.set_cons_succ]
  refine reg_eff 20 rfl (by kernel_rfl) (fun K hK => ?_)
  go_simp
  refine (HDA.out gm _ (K2c.out.ext HX.out)).mono ?_
  rintro e w7 ⟨rfl, hE⟩
  refine hK.out _ _ hE ?_
  have HX := Lib.hid (Ext.trans HX.out hE)
  clear hE hK K
  try simp only [Act.put, List.setIfInBounds_toArray, List.set_cons_zero, List.set_cons_succ]
  refine reg_eff 23 rfl (by kernel_rfl) (fun K hK => ?_)
  go_simp
  refine (HDA.out gn _ (K3.out.ext HX.out)).mono ?_
  rintro e w8 ⟨rfl, hE⟩
  refine hK.out _ _ hE ?_
  have HX := Lib.hid (Ext.trans HX.out hE)
  clear hE hK K
  try simp only [Act.put, List.setIfInBounds_toArray, List.set_cons_zero, List.set_cons_succ]
  refine reg_take (v := ?_) 24 (some 60) rfl rfl (by kernel_rfl) (by kernel_rfl) (by kernel_rfl) (fun _ _ _ h => h) (by rfl) (fun W hW => ?_) ?_
  rotate_left
  · (go_simp; try rfl)
  simp only [Act.put, List.setIfInBounds_toArray, List.set_cons_zero, List.set_cons_succ]
  refine reg_take (v := ?_) 25 (some 61) rfl rfl (by kernel_rfl) (by kernel_rfl) (by kernel_rfl) (fun _ _ _ h => h) (by rfl) (fun W hW => ?_) ?_
  rotate_left
  · (go_simp; try rfl)
  simp only [Act.put, List.setIfInBounds_toArray, List.set_cons_zero, List.set_cons_succ]
  refine reg_take (v := ?_) 26 (some 62) rfl rfl (by kernel_rfl) (by kernel_rfl) (by kernel_rfl) (fun _ _ _ h => h) (by rfl) (fun W hW => ?_) ?_
  rotate_left
  · (go_simp; try rfl)
  simp only [Act.put, List.setIfInBounds_toArray, List.set_cons_zero, List.set_cons_succ]
  refine reg_eff 27 rfl (by kernel_rfl) (fun K hK => ?_)
  go_simp
  refine (awake3_any _).mono ?_
  rintro e w9 ⟨rfl, hE⟩
  refine hK.out _ _ hE ?_
  have HX := Lib.hid (Ext.trans HX.out hE)
  clear hE hK K
  try simp only [Act.put, List.setIfInBounds_toArray, List.set_cons_zero, List.set_cons_succ]
  refine reg_take (v := ?_) 28 (some 64) rfl rfl (by kernel_rfl) (by kernel_rfl) (by kernel_rfl) (fun _ _ _ h => h) (by rfl) (fun W hW => ?_) ?_
  rotate_left
  · (go_simp; try rfl)
  simp only [Act.put, List.setIfInBounds_toArray, List.set_cons_zero, List.set_cons_succ]
  refine reg_take (v := ?_) 29 (some 4) rfl rfl (by kernel_rfl) (by kernel_rfl) (by kernel_rfl) (fun _ _ _ h => h) (by rfl) (fun W hW => ?_) ?_
  rotate_left
  · (go_simp; try rfl)
  simp only [Act.put, List.setIfInBounds_toArray, List.set_cons_zero, List.set_cons_succ]
  refine reg_done (by kernel_rfl) ?_
  go_wp2
  go_ret
  exact ⟨rfl, (FB.out.step B3.out).step HX.out⟩
end Go.Proofs.Ytbpbhmcemldbbaa
