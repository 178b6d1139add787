/- Laws of layer 7: noughts behind a key change nothing; a longer one counts as its sum. -/
import Derived.Test.YtdmdjgmkhoahmaaDoorHma5
namespace Go.Proofs.YtdmdjgmkhoahmaaDoor
open Go.RowKit
set_option linter.unusedVariables false
set_option linter.unusedSimpArgs false
theorem hmac_long (key b : List UInt8) (h : 64 < key.length) : hmacL (sumL key) b = hmacL key b := by
  have e : hblockL (sumL key) = hblockL key := by
    have h1 : keyOf (sumL key) = sumL key := by rw [keyOf, if_neg (by rw [sumL_len]; omega)]
    have h2 : keyOf key = sumL key := by rw [keyOf, if_pos h]
    rw [hblockL, hblockL, h1, h2]
  rw [hmacL, hmacL, e]
theorem hmac_zeros (key b : List UInt8) (n : Nat) (h : key.length + n ≤ 64) : hmacL (key ++ List.replicate n 0) b = hmacL key b := by
  have e : hblockL (key ++ List.replicate n 0) = hblockL key := by
    have h1 : keyOf (key ++ List.replicate n 0) = key ++ List.replicate n 0 := by rw [keyOf, if_neg (by simp; omega)]
    have h2 : keyOf key = key := by rw [keyOf, if_neg (by omega)]
    rw [hblockL, hblockL, h1, h2, List.append_assoc]
    simp only [List.length_append, List.length_replicate, List.replicate_append_replicate]
    rw [show n + (64 - (key.length + n)) = 64 - key.length by omega]
  rw [hmacL, hmacL, e]
set_option maxHeartbeats 2000000 in
theorem hmacKeys_walk (w : World) (A : Option Addr) (c : Nat) (key : List UInt8) (hS : Sl w A c key) (A' : Option Addr) (c' : Nat) (b : List UInt8) (hS' : Sl w A' c' b) (x : UInt8) (hR : Rnd w) :
    Calls Tryd.prog 5 #[.slice A key.length c, .slice A' b.length c', .int .u8 (x.toNat : Int)] w fun e w' => e = .returned (.bool true) ∧ Below w.heap.size w w' := by
  obtain ⟨n, hn⟩ : ∃ n, key.length = n := ⟨_, rfl⟩
  obtain ⟨m, hm⟩ : ∃ m, b.length = m := ⟨_, rfl⟩
  have hlong := hmac_long key b
  have hzer := fun k => hmac_zeros key b k
  rw [hn, hm]
  rw [hn] at hlong hzer
  by_cases hbig : 300 < n ∨ 300 < m
  · clear hS hS' hR hn hm hlong hzer
    by_cases hb1 : 300 < n
    · have e1 : (300 : Int) < (n : Int) := by omega
      clear hbig
      go_enter Tryd.func5, Tryd.ntmps5
      go_wp2
      go_ret
      exact ⟨rfl, Below.refl _ _⟩
    · have e1 : ¬ ((300 : Int) < (n : Int)) := by omega
      have e2 : (300 : Int) < (m : Int) := by omega
      clear hbig
      go_enter Tryd.func5, Tryd.ntmps5
      go_wp2
      go_ret
      exact ⟨rfl, Below.refl _ _⟩
  have e1 : ¬ ((300 : Int) < (n : Int)) := by omega
  have e2 : ¬ ((300 : Int) < (m : Int)) := by omega
  have HL := Lib.hid hn; have HM := Lib.hid hm; have HS := Lib.hid hS; have HS' := Lib.hid hS'; have HR := Lib.hid hR
  have HA := Lib.hid (fun W hS hS' hR => hmac_any A n c key A' m c' b W hn hm (by omega) hS hS' hR)
  have HZL := Lib.hid (hmacL_len key b)
  have hqq := eql_bytes (P := Tryd.prog) arr32B Tryd.underlying5 s8 (hmacL key b) (hmacL key b) (hmacL_len key b) (hmacL_len key b)
  rw [show decide (hmacL key b = hmacL key b) = true from by simp] at hqq
  by_cases hlen : 64 < n
  · have e3 : (64 : Int) < (n : Int) := by omega
    have HLG := hlong hlen
    have HA2 := Lib.hid (fun A c W hS hS' hR => hmac_any A 32 c (sumL key) A' m c' b W (sumL_len key) hm (by omega) hS hS' hR)
    have HSU := Lib.hid (fun W hS hR => sum_any A n c key W hn hS hR)
    rw [HLG] at HA2
    have HSL := Lib.hid (sumL_len key)
    generalize hmacL key b = Z at HA HA2 HZL hqq
    generalize sumL key = Y at HSU HSL HA2
    have hi32 : Hid ((Tryd.prog.info? 23).map (·.size) = some (Y.map bv).length) := by show _ = _; rw [List.length_map, HSL.out]; exact i32B
    clear hn hm hS hS' hR hbig hlong hzer HLG
    go_enter Tryd.func5, Tryd.ntmps5
    go_wp2_with fail
    refine (HSU.out w HS.out HR.out).mono ?_
    rintro e w1 ⟨rfl, hb1⟩
    have B1 := Lib.hid hb1
    clear hb1
    go_wp2_with (first
      | (refine wpList_st rfl 23 (.tmp 7) (.tmp 22) rfl (store_arr (cs := Y.map bv) (old := List.replicate 32 (Value.int .u8 0)) hi32.out (bv_one _) (heap_alloc_new' w1 _) (by rw [List.length_map, HSL.out]; simp)) ?_
         generalize hV : World.setRow _ _ _ = W2
         have M2 := Lib.hid (heap_of_setRow hV (heap_alloc_new' w1 _))
         have B2 := Lib.hid (B1.out.step (((Below.refl w1.heap.size w1).alloc (Nat.le_refl _) _).trans (below_of_setRow hV (Nat.le_refl w1.heap.size) (by simp))))
         clear hV)
      | fail)
    generalize w1.heap.size = g5 at M2 ⊢
    have S2 := Lib.hid (sl_row HSL.out (by omega) M2.out)
    have ar := arr_all arr32B s8 ⟨g5, 0, none⟩
    have HX : Hid (Ext W2 W2.drew) := (Below.refl _ _).drew
    refine reg_start (by kernel_rfl) ?_
    try simp only [Act.put, List.setIfInBounds_toArray, List.set_cons_zero, List.set_cons_succ]
    refine reg_take (v := ?_) 0 (some 23) rfl rfl (by kernel_rfl) (by kernel_rfl) (by kernel_rfl) (fun _ _ _ h => h) (by rfl) (fun W hW => ?_) ?_
    rotate_left
    · (go_simp; try rfl)
    simp only [Act.put, List.setIfInBounds_toArray, List.set_cons_zero, List.set_cons_succ]
    refine reg_take (v := ?_) 1 (some 24) rfl rfl (by kernel_rfl) (by kernel_rfl) (by kernel_rfl) (fun _ _ _ h => h) (by rfl) (fun W hW => ?_) ?_
    rotate_left
    · (go_simp; try rfl)
    simp only [Act.put, List.setIfInBounds_toArray, List.set_cons_zero, List.set_cons_succ]
    refine reg_take (v := ?_) 3 (some 26) rfl rfl (by kernel_rfl) (by kernel_rfl) (by kernel_rfl) (fun _ _ _ h => h) (by rfl) (fun W hW => ?_) ?_
    rotate_left
    · (go_simp; try rfl)
    simp only [Act.put, List.setIfInBounds_toArray, List.set_cons_zero, List.set_cons_succ]
    refine reg_take (v := ?_) 4 (some 27) rfl rfl (by kernel_rfl) (by kernel_rfl) (by kernel_rfl) (fun _ _ _ h => h) (by rfl) (fun W hW => ?_) ?_
    rotate_left
    · (go_simp; try rfl)
    simp only [Act.put, List.setIfInBounds_toArray, List.set_cons_zero, List.set_cons_succ]
    refine reg_eff 2 rfl (by kernel_rfl) (fun K hK => ?_)
    go_simp
    refine (HA.out _ (HS.out.below (B2.out.step HX.out)) (HS'.out.below (B2.out.step HX.out)) (HR.out.ext (B2.out.step HX.out))).mono ?_
    rintro e w3 ⟨rfl, hE⟩
    refine hK.out _ _ hE ?_
    have HX := Lib.hid (Ext.trans HX.out hE)
    clear hE hK K
    try simp only [Act.put, List.setIfInBounds_toArray, List.set_cons_zero, List.set_cons_succ]
    refine reg_eff 5 rfl (by kernel_rfl) (fun K hK => ?_)
    go_simp
    refine (HA2.out _ _ _ (S2.out.extk HX.out) (HS'.out.below (B2.out.step HX.out)) (HR.out.ext (B2.out.step HX.out))).mono ?_
    rintro e w4 ⟨rfl, hE⟩
    refine hK.out _ _ hE ?_
    have HX := Lib.hid (Ext.trans HX.out hE)
    clear hE hK K
    try simp only [Act.put, List.setIfInBounds_toArray, List.set_cons_zero, List.set_cons_succ]
    refine reg_take (v := ?_) 6 (some 29) rfl rfl (by kernel_rfl) (by kernel_rfl) (by kernel_rfl) (fun _ _ _ h => h) (by rfl) (fun W hW => ?_) ?_
    rotate_left
    · (go_simp; try rfl)
    simp only [Act.put, List.setIfInBounds_toArray, List.set_cons_zero, List.set_cons_succ]
    refine reg_take (v := ?_) 7 (some 30) rfl rfl (by kernel_rfl) (by kernel_rfl) (by kernel_rfl) (fun _ _ _ h => h) (by rfl) (fun W hW => ?_) ?_
    rotate_left
    · (go_simp; try rfl)
    simp only [Act.put, List.setIfInBounds_toArray, List.set_cons_zero, List.set_cons_succ]
    refine reg_eff 8 rfl (by kernel_rfl) (fun K hK => ?_)
    go_simp
    refine (awake7_any _ (HR.out.ext (B2.out.step HX.out))).mono ?_
    rintro e w5 ⟨rfl, hE⟩
    refine hK.out _ _ hE ?_
    have HX := Lib.hid (Ext.trans HX.out hE)
    clear hE hK K
    try simp only [Act.put, List.setIfInBounds_toArray, List.set_cons_zero, List.set_cons_succ]
    refine reg_take (v := ?_) 9 (some 32) rfl rfl (by kernel_rfl) (by kernel_rfl) (by kernel_rfl) (fun _ _ _ h => h) (by rfl) (fun W hW => ?_) ?_
    rotate_left
    · (go_simp; try rfl)
    simp only [Act.put, List.setIfInBounds_toArray, List.set_cons_zero, List.set_cons_succ]
    refine reg_take (v := ?_) 10 (some 6) rfl rfl (by kernel_rfl) (by kernel_rfl) (by kernel_rfl) (fun _ _ _ h => h) (by rfl) (fun W hW => ?_) ?_
    rotate_left
    · (go_simp; try rfl)
    simp only [Act.put, List.setIfInBounds_toArray, List.set_cons_zero, List.set_cons_succ]
    refine reg_done (by kernel_rfl) ?_
    go_wp2
    go_ret
    exact ⟨rfl, B2.out.step HX.out⟩
  · have e3 : ¬ ((64 : Int) < (n : Int)) := by omega
    have hx := x.toNat_lt
    obtain ⟨d, hd⟩ : ∃ d, d = 65 - n := ⟨_, rfl⟩
    have u1 : (65 : Int) - (n : Int) = (d : Int) := by omega
    obtain ⟨k, hk⟩ : ∃ k, k = x.toNat % d := ⟨_, rfl⟩
    have hkd : k < d := by rw [hk]; exact Nat.mod_lt _ (by omega)
    have u2 : (x.toNat : Int) % (d : Int) = (k : Int) := by rw [hk]; exact (Int.natCast_emod x.toNat d).symm
    have u3 : (x.toNat : Int).tmod (d : Int) = (k : Int) := by rw [Int.tmod_eq_emod_of_nonneg (by omega)]; exact u2
    have e4 : ((d : Int) == 0) = false := by simp; omega
    have HZR := hzer k (by omega)
    obtain ⟨n2, hn2⟩ : ∃ n2, n2 = n + k := ⟨_, rfl⟩
    have N2 := Lib.hid hn2
    have HL2 : Hid ((key ++ List.replicate k 0).length = n2) := by show _ = _; rw [List.length_append, List.length_replicate, HL.out, N2.out]
    have HA2 := Lib.hid (fun A c W hS hS' hR => hmac_any A n2 c (key ++ List.replicate k 0) A' m c' b W HL2.out hm (by omega) hS hS' hR)
    rw [HZR] at HA2
    generalize hmacL key b = Z at HA HA2 HZL hqq
    have hb31 : 0 + n ≤ 2147483647 := by omega
    have hnk : n + k ≤ 2147483647 := by omega
    clear hn hm hS hS' hR hbig hlong hzer HZR hd hk hn2
    go_enter Tryd.func5, Tryd.ntmps5
    go_upto_region 8 with (first
      | (at_builtin
         refine wpList_app8 rfl (.tmp 39) (.tmp 40) rfl w.heap.size _ 0 [] rfl ?_ A n c w.heap.size key rfl ?_ ?_ ?_ ?_ ?_
         · exact own_heap (g := w.heap.size) (heap_alloc_new' w _) (Nat.le_refl _) rfl (Nat.zero_le _)
         · exact HS.out.2.2.below ((Below.refl _ _).alloc (Nat.le_refl _) _)
         · exact HL.out
         · exact hb31
         · simp
         rintro v1 w1 hown hgr
         have HB1 := Lib.hid (((Below.refl w.heap.size w).alloc (Nat.le_refl _) _).grown hgr (by simp) (ge_own w.heap.size 0))
         rw [List.nil_append, Nat.zero_add] at hown
         have HO1 := Lib.hid hown
         clear hgr hown)
      | (at_builtin
         refine wpList_app0 rfl (.tmp 41) (.tmp 42) rfl w.heap.size v1 n key rfl HO1.out k rfl hnk HB1.out.size ?_
         rintro v2 w2 hown hgr
         rw [← N2.out] at hown
         have HB2 := Lib.hid (HB1.out.grown hgr HB1.out.size (c_own_ge' HO1.out (Nat.le_refl _)))
         obtain ⟨A2, c2, rfl, hl2, h21, h22, hr2⟩ := own_read hown
         have S2 := Lib.hid (sl_mk hl2 h21 h22 hr2)
         clear hgr hown hl2 h21 h22 hr2)
      | fail)
    generalize key ++ List.replicate k 0 = kz at HL2 HA2 S2
    go_wp2_with fail
    refine (HA.out w2 (HS.out.below HB2.out) (HS'.out.below HB2.out) (HR.out.ext HB2.out)).mono ?_
    rintro e w3 ⟨rfl, hb3⟩
    have B3 := Lib.hid (HB2.out.step hb3)
    have S3 := Lib.hid (S2.out.below hb3)
    clear hb3
    go_wp2_with fail
    refine (HA2.out A2 c2 w3 S3.out (HS'.out.below B3.out) (HR.out.ext B3.out)).mono ?_
    rintro e w4 ⟨rfl, hb4⟩
    have B4 := Lib.hid (B3.out.step hb4)
    clear hb4
    go_wp2_with fail
    refine (awake7_any w4 (HR.out.ext B4.out)).mono ?_
    rintro e w5 ⟨rfl, hb5⟩
    have B5 := Lib.hid (B4.out.step hb5)
    clear hb5
    go_wp2
    go_ret
    exact ⟨rfl, B5.out⟩
end Go.Proofs.YtdmdjgmkhoahmaaDoor
