/- The walk of the law AesBlocks. -/
import Derived.Test.YtbpbhmcemldbbaaRefA8
import Derived.Test.YtbpbhmcemldbbaaAes13
import Derived.Test.YtbpbhmcemldbbaaLawsA2
import Derived.Test.YtbpbhmcemldbbaaRefA3
namespace Go.Proofs.Ytbpbhmcemldbbaa
open Go.RowKit
set_option maxRecDepth 100000
set_option linter.unusedVariables false
set_option linter.unusedSimpArgs false
theorem ge_ownA (a k : Nat) {n c : Nat} : ∀ g, (Value.slice (some ⟨a + k, 0, none⟩) n c).ownBlock = some g → a ≤ g := by
  intro g hg
  have : a + k = g := by injection hg
  omega
set_option maxHeartbeats 4000000 in
theorem aesBlocks_no (w : World) (A : Option Addr) (n c : Nat) (key : List UInt8) (hkl : key.length = n) (hS : Sl w A c key) (b : List UInt8) (hb : b.length = 16) (hn : n ≤ 100) (h16 : n ≠ 16) (h32 : n ≠ 32) :
    Calls Try.prog 3 #[.slice A n c, .agg (b.map bv).toArray] w fun e w' => e = .returned (.bool true) ∧ Below w.heap.size w w' := by
  have HKL := Lib.hid hkl; have HBL := Lib.hid hb
  have hi16 : Hid ((Try.prog.info? 23).map (·.size) = some (b.map bv).length) := by show _ = _; rw [List.length_map, hb]; exact i16B
  have qz := eql_bytes (P := Try.prog) arr16B Try.underlying5 s8 (List.replicate 16 0) (List.replicate 16 0) rfl rfl
  rw [show decide ((List.replicate 16 0 : List UInt8) = List.replicate 16 0) = true from by simp] at qz
  have HZ16 : Hid ((List.replicate 16 (0 : UInt8)).map bv = zeros16) := rfl
  rw [HZ16.out] at qz
  have HEN := Lib.hid (fun W => enc_none (.pointer none) b W hb (fun W' _ => rounds_nil W'))
  have HDN := Lib.hid (fun W => dec_none (.pointer none) b W hb (fun W' _ => rounds_nil W'))
  rw [HZ16.out] at HEN HDN
  have hb0 : ∀ W, (Instr.build 23 #[]).run Try.prog W = .ok (.agg zeros16.toArray) W := fun W => by kernel_rfl
  have HB0 := Lib.hid hb0
  have t0 : ¬ ((100 : Int) < (n : Int)) := by omega
  have t1 : ((n : Int) != 16) = true := by simp; omega
  have t2 : ((n : Int) != 32) = true := by simp; omega
  have HXN := Lib.hid (fun A c W => expand_no A n c W h16 h32)
  have hn31 : 0 + n ≤ 2147483647 := by omega
  generalize zeros16 = Z at qz HZ16 HEN HDN HB0
  have HS0 := Lib.hid hS
  clear hkl hb h16 h32 hb0 hS HZ16
  go_enter Try.func3, Try.ntmps3
  go_upto_region 3 with (fail)
  generalize hV : w.alloc _ = W0
  have F0 : Hid (W0.heap[w.heap.size]? = some (.cells (b.map bv).toArray 23 (0, 0))) := heap_of_alloc hV
  have FB := Lib.hid (below_of_alloc hV (Nat.le_refl w.heap.size))
  have S1 := Lib.hid (HS0.out.below FB.out)
  clear hV
  go_wp2_with (first
    | (at_builtin
       refine wpList_app8 rfl (.tmp 13) (.tmp 14) rfl W0.heap.size _ 0 [] rfl ?_ A n c W0.heap.size key rfl ?_ ?_ ?_ ?_ ?_
       · exact own_heap (g := W0.heap.size) (heap_alloc_new' W0 _) (Nat.le_refl _) rfl (Nat.zero_le _)
       · exact S1.out.2.2.below ((Below.refl _ _).alloc (Nat.le_refl _) _)
       · exact HKL.out
       · exact hn31
       · simp
       rintro v4 w4 hown hgr
       have HB4 := Lib.hid (((Below.refl W0.heap.size W0).alloc (Nat.le_refl _) _).grown hgr (by simp) (ge_ownA W0.heap.size 0))
       rw [List.nil_append, Nat.zero_add] at hown
       obtain ⟨A4, c4, rfl, hl3, h31, h32, hr3⟩ := own_read hown
       clear hgr hown hl3 h31 h32 hr3)
    | fail)
  refine (HXN.out A4 c4 w4).mono ?_
  rintro e w5 ⟨rfl, rfl⟩
  have F4 := Lib.hid ((HB4.out.block _ (lt_of_heap F0.out)).trans F0.out)
  have B4 := Lib.hid (FB.out.step HB4.out)
  clear HB4 F0 FB S1 HXN
  go_wp2_with (first
    | (refine wpList_ld rfl 23 (.tmp 3) rfl (load_arr arr16B rfl hi16.out F4.out) ?_)
    | fail)
  refine (HEN.out w4).mono ?_
  rintro e w6 ⟨rfl, hb6⟩
  have F6 := Lib.hid ((hb6.block _ (lt_of_heap F4.out)).trans F4.out)
  have B6 := Lib.hid (B4.out.step hb6)
  clear hb6 F4 B4
  go_wp2_with (first
    | (refine wpList_ld rfl 23 (.tmp 3) rfl (load_arr arr16B rfl hi16.out F6.out) ?_)
    | (refine wpList_run (o := ⟨some 37, .build _ _, _, _, _, _⟩) rfl (exec_build rfl (by simp only [List.map_toArray, List.map_nil]; exact HB0.out _)) ?_)
    | fail)
  refine (HDN.out w6).mono ?_
  rintro e w7 ⟨rfl, hb7⟩
  have B7 := Lib.hid (B6.out.step hb7)
  clear hb7 F6 B6
  go_wp2_with (first
    | (refine wpList_run (o := ⟨some 44, .build _ _, _, _, _, _⟩) rfl (exec_build rfl (by simp only [List.map_toArray, List.map_nil]; exact HB0.out _)) ?_)
    | fail)
  refine (rounds_nil w7).mono ?_
  rintro e w8 ⟨rfl, rfl⟩
  go_wp2_with fail
  refine (awake3_any w7).mono ?_
  rintro e w9 ⟨rfl, hb9⟩
  have B9 := Lib.hid (B7.out.step hb9)
  clear hb9 B7
  go_wp2_with fail
  go_ret
  exact ⟨rfl, B9.out⟩
set_option maxHeartbeats 8000000 in
theorem aesBlocks_yes (w : World) (A : Option Addr) (n c nk : Nat) (key : List UInt8) (hkl : key.length = n) (hS : Sl w A c key) (b : List UInt8) (hb : b.length = 16) (hn : n = 4 * nk) (hnk : nk = 4 ∨ nk = 8) :
    Calls Try.prog 3 #[.slice A n c, .agg (b.map bv).toArray] w fun e w' => e = .returned (.bool true) ∧ Below w.heap.size w w' := by
  have HKL := Lib.hid hkl; have HBL := Lib.hid hb
  have hi16 : Hid ((Try.prog.info? 23).map (·.size) = some (b.map bv).length) := by show _ = _; rw [List.length_map, hb]; exact i16B
  have t0 : ¬ ((100 : Int) < (n : Int)) := by omega
  have hwl : (expandL key).length = 60 := expandL_len key (by omega)
  have HX1 := Lib.hid (fun A c W hS => expand_any A n c nk key W hkl hn hnk hS)
  have HRK := Lib.hid (fun A c W hS => refKeys_row A n c nk key W hkl hn hnk hS)
  have HRE := Lib.hid (fun A cc W hA => refEncK_any key nk b A cc W hnk (hkl.trans hn) hb hA)
  have HRD := Lib.hid (fun A cc W hA => refDecK_any key nk b A cc W hnk (hkl.trans hn) hb hA)
  have HRT := Lib.hid (fun W => refTable_any W)
  have hEl := encL_len (expandL key) (nk + 6) b hwl (by omega)
  have hDl := decL_len (expandL key) (nk + 6) b hwl
  have qe := eql_bytes (P := Try.prog) arr16B Try.underlying5 s8 (encL (expandL key) (nk + 6) b) (encL (expandL key) (nk + 6) b) hEl hEl
  rw [show decide (encL (expandL key) (nk + 6) b = encL (expandL key) (nk + 6) b) = true from by simp] at qe
  have qd := eql_bytes (P := Try.prog) arr16B Try.underlying5 s8 (decL (expandL key) (nk + 6) b) (decL (expandL key) (nk + 6) b) hDl hDl
  rw [show decide (decL (expandL key) (nk + 6) b = decL (expandL key) (nk + 6) b) = true from by simp] at qd
  have HEA := Lib.hid (fun g W hW => enc_any g (nk + 6) (expandL key) b W hb (by omega) (by omega) hW)
  have HDA := Lib.hid (fun g W hW => dec_any g (nk + 6) (expandL key) b W hb (by omega) (by omega) hW)
  clear hEl hDl hwl
  generalize encL (expandL key) (nk + 6) b = E at qe HEA HRE
  generalize decL (expandL key) (nk + 6) b = D at qd HDA HRD
  generalize rkB (expandL key) = RK at HRK HRE HRD
  generalize expandL key = ws at HX1 HEA HDA
  obtain ⟨r6, hr6⟩ : ∃ r6, r6 = nk + 6 := ⟨_, rfl⟩
  obtain ⟨r7, hr7⟩ : ∃ r7, r7 = nk + 7 := ⟨_, rfl⟩
  rw [← hr6] at HX1 HEA HDA
  rw [← hr7] at HRK HRE HRD
  have t4 : (n : Int) / 4 = (nk : Int) := by omega
  have t5 : (nk : Int) + 6 = (r6 : Int) := by omega
  have t6 : ((r6 : Int) != (r6 : Int)) = false := by simp
  have hn32 : n ≤ 32 := by omega
  have hn31 : 0 + n ≤ 2147483647 := by omega
  have HNN : Hid (n = 16 ∨ n = 32) := by show _ ∨ _; omega
  have HTL : Hid ((sboxL.map bv).length = 256) := by show _ = _; rw [List.length_map, sboxL_len]
  have HI : Hid ((Try.prog.info? 31).map (·.size) = some (sboxL.map bv).length) := by show _ = _; rw [HTL.out]; exact i256B
  have hone : Hid (∀ v ∈ sboxL.map bv, v.oneCell' = true) := bv_one _
  have hz := zero256B
  have HZL := Lib.hid zeros256_len
  generalize zeros256 = Z at hz HZL
  generalize sboxL.map bv = TB at HRK HRE HRD HRT HTL HI hone
  have HS0 := Lib.hid hS
  clear hkl hb hr6 hr7 hS hn hnk
  go_enter Try.func3, Try.ntmps3
  go_upto_region 3 with (fail)
  generalize hV : w.alloc _ = W0
  have F0 : Hid (W0.heap[w.heap.size]? = some (.cells (b.map bv).toArray 23 (0, 0))) := heap_of_alloc hV
  have FB := Lib.hid (below_of_alloc hV (Nat.le_refl w.heap.size))
  have S1 := Lib.hid (HS0.out.below FB.out)
  clear hV
  go_wp2_with (first
    | (at_builtin
       refine wpList_app8 rfl (.tmp 13) (.tmp 14) rfl W0.heap.size _ 0 [] rfl ?_ A n c W0.heap.size key rfl ?_ ?_ ?_ ?_ ?_
       · exact own_heap (g := W0.heap.size) (heap_alloc_new' W0 _) (Nat.le_refl _) rfl (Nat.zero_le _)
       · exact S1.out.2.2.below ((Below.refl _ _).alloc (Nat.le_refl _) _)
       · exact HKL.out
       · exact hn31
       · simp
       rintro v4 w4 hown hgr
       have HB4 := Lib.hid (((Below.refl W0.heap.size W0).alloc (Nat.le_refl _) _).grown hgr (by simp) (ge_ownA W0.heap.size 0))
       rw [List.nil_append, Nat.zero_add] at hown
       obtain ⟨A4, c4, rfl, hl3, h31, h32, hr3⟩ := own_read hown
       have S4 := Lib.hid (sl_mk' hl3 h31 h32 hr3)
       clear hgr hown hl3 h31 h32 hr3)
    | fail)
  refine (HX1.out A4 c4 w4 S4.out).mono ?_
  rintro e w5 ⟨gk, rfl, hgk, hK5, hb5⟩
  have K5 := Lib.hid hK5
  have F5 := Lib.hid (((HB4.out.trans (hb5.mono HB4.out.size)).block _ (lt_of_heap F0.out)).trans F0.out)
  have B5 := Lib.hid ((FB.out.step HB4.out).step hb5)
  clear HB4 F0 FB S1 HX1 hgk hK5 hb5 S4
  go_upto_region 4 with (fail)
  go_cut [26] from 19 to 26 (fun v26 wx => v26 = .bool false ∧ wx = w5)
  case first =>
    rcases HNN.out with h | h
    · have t1 : ((n : Int) != 16) = false := by simp [h]
      clear h
      go_wp2_with fail
      go_meet
      exact ⟨rfl, rfl⟩
    · have t1 : ((n : Int) != 16) = true := by simp [h]
      have t2 : ((n : Int) != 32) = false := by simp [h]
      clear h
      go_wp2_with fail
      go_meet
      exact ⟨rfl, rfl⟩
  case rest =>
    obtain ⟨rfl, hwc⟩ := hcut
    rw [hwc]
    clear hwc
    go_wp2_with fail
    refine (rounds_any gk ws r6 w5 K5.out).mono ?_
    rintro e w6 ⟨rfl, rfl⟩
    go_wp2_with fail
    refine (HRT.out w5).mono ?_
    rintro e w7 ⟨rfl, hb7⟩
    have K7 := Lib.hid (K5.out.ext hb7)
    have F7 := Lib.hid ((hb7.block _ (lt_of_heap F5.out)).trans F5.out)
    have B7 := Lib.hid (B5.out.step hb7)
    clear hb7 K5 F5 B5
    go_upto_region 9 with (first
      | (refine wpList_st rfl 31 (.tmp 7) (.tmp 70) rfl (store_arr (cs := TB) (old := Z) HI.out hone.out (heap_alloc_new' w7 _) (by rw [HZL.out, HTL.out])) ?_
         generalize hV : World.setRow _ _ _ = W8
         have M8 := Lib.hid (heap_of_setRow hV (heap_alloc_new' w7 _))
         have MB := Lib.hid (((Below.refl w7.heap.size w7).alloc (Nat.le_refl _) _).trans (below_of_setRow hV (Nat.le_refl w7.heap.size) (by simp)))
         clear hV)
      | fail)
    have K8 := Lib.hid (K7.out.ext MB.out)
    have F8 := Lib.hid ((MB.out.block _ (lt_of_heap F7.out)).trans F7.out)
    have B8 := Lib.hid (B7.out.step MB.out)
    have S8 := Lib.hid (HS0.out.below B8.out)
    clear K7 F7 B7 MB
    generalize w7.heap.size = g7 at M8 ⊢
    go_wp2_with (first
      | (refine wpList_ld rfl 31 (.tmp 7) rfl (load_arr arr256B rfl HI.out M8.out) ?_)
      | fail)
    refine (HRK.out A c W8 S8.out).mono ?_
    rintro e w9 ⟨A9, c9, rfl, hK9, hb9⟩
    have KA := Lib.hid hK9
    have K9 := Lib.hid (K8.out.ext hb9)
    have F9 := Lib.hid ((hb9.block _ (lt_of_heap F8.out)).trans F8.out)
    have M9 := Lib.hid ((hb9.block _ (lt_of_heap M8.out)).trans M8.out)
    have B9 := Lib.hid (B8.out.step hb9)
    clear hK9 hb9 K8 F8 B8 M8 S8
    have G1 : Hid (∀ W, Ext w9 W → (Instr.loadAt 23 (.pointer (some ⟨w.heap.size, 0, none⟩))).run Try.prog W = .ok (.agg (b.map bv).toArray) W) := fun W hW => load_arr arr16B rfl hi16.out ((hW.block _ (lt_of_heap F9.out)).trans F9.out)
    have G7 : Hid (∀ W, Ext w9 W → (Instr.loadAt 31 (.pointer (some ⟨g7, 0, none⟩))).run Try.prog W = .ok (.agg TB.toArray) W) := fun W hW => load_arr arr256B rfl HI.out ((hW.block _ (lt_of_heap M9.out)).trans M9.out)
    have HX : Hid (Ext w9 w9.drew) := (Below.refl _ _).drew
    go_wp2_with fail
    refine reg_start (by kernel_rfl) ?_
    try simp only [Act.put, List.setIfInBounds_toArray, List.set_cons_zero, List.set_cons_succ]
    generalize w9.drew = W1 at HX ⊢
    refine reg_take (v := ?_) 0 (some 74) rfl rfl (by kernel_rfl) (by kernel_rfl) (by kernel_rfl) (fun _ _ _ h => h) (by rfl) (fun W hW => ?_) ?_
    rotate_left
    · (go_simp; try rfl)
    simp only [Act.put, List.setIfInBounds_toArray, List.set_cons_zero, List.set_cons_succ]
    refine reg_load 1 (some 75) (fun W hW => G1.out W (Ext.trans HX.out hW)) rfl rfl rfl rfl (by kernel_rfl) (by kernel_rfl) (by kernel_rfl) (fun _ _ _ h => h) (by rfl) ?_
    simp only [Act.put, List.setIfInBounds_toArray, List.set_cons_zero, List.set_cons_succ]
    refine reg_load 3 (some 77) (fun W hW => G7.out W (Ext.trans HX.out hW)) rfl rfl rfl rfl (by kernel_rfl) (by kernel_rfl) (by kernel_rfl) (fun _ _ _ h => h) (by rfl) ?_
    simp only [Act.put, List.setIfInBounds_toArray, List.set_cons_zero, List.set_cons_succ]
    refine reg_take (v := ?_) 4 (some 78) rfl rfl (by kernel_rfl) (by kernel_rfl) (by kernel_rfl) (fun _ _ _ h => h) (by rfl) (fun W hW => ?_) ?_
    rotate_left
    · (go_simp; try rfl)
    simp only [Act.put, List.setIfInBounds_toArray, List.set_cons_zero, List.set_cons_succ]
    refine reg_load 5 (some 79) (fun W hW => G1.out W (Ext.trans HX.out hW)) rfl rfl rfl rfl (by kernel_rfl) (by kernel_rfl) (by kernel_rfl) (fun _ _ _ h => h) (by rfl) ?_
    simp only [Act.put, List.setIfInBounds_toArray, List.set_cons_zero, List.set_cons_succ]
    refine reg_eff 2 rfl (by kernel_rfl) (fun K hK => ?_)
    go_simp
    refine (HEA.out gk _ (K9.out.ext HX.out)).mono ?_
    rintro e w10 ⟨rfl, hE⟩
    refine hK.out _ _ hE ?_
    have HX := Lib.hid (Ext.trans HX.out hE)
    clear hE hK K
    try simp only [Act.put, List.setIfInBounds_toArray, List.set_cons_zero, List.set_cons_succ]
    refine reg_eff 6 rfl (by kernel_rfl) (fun K hK => ?_)
    go_simp
    refine (HRE.out A9 c9 _ (KA.out.below HX.out)).mono ?_
    rintro e w11 ⟨rfl, hE⟩
    refine hK.out _ _ hE ?_
    have HX := Lib.hid (Ext.trans HX.out hE)
    clear hE hK K
    try simp only [Act.put, List.setIfInBounds_toArray, List.set_cons_zero, List.set_cons_succ]
    refine reg_take (v := ?_) 7 (some 81) rfl rfl (by kernel_rfl) (by kernel_rfl) (by kernel_rfl) (fun _ _ _ h => h) (by rfl) (fun W hW => ?_) ?_
    rotate_left
    · (go_simp; try rfl)
    simp only [Act.put, List.setIfInBounds_toArray, List.set_cons_zero, List.set_cons_succ]
    refine reg_take (v := ?_) 8 (some 82) rfl rfl (by kernel_rfl) (by kernel_rfl) (by kernel_rfl) (fun _ _ _ h => h) (by rfl) (fun W hW => ?_) ?_
    rotate_left
    · (go_simp; try rfl)
    simp only [Act.put, List.setIfInBounds_toArray, List.set_cons_zero, List.set_cons_succ]
    refine reg_take (v := ?_) 9 (some 83) rfl rfl (by kernel_rfl) (by kernel_rfl) (by kernel_rfl) (fun _ _ _ h => h) (by rfl) (fun W hW => ?_) ?_
    rotate_left
    · (go_simp; try rfl)
    simp only [Act.put, List.setIfInBounds_toArray, List.set_cons_zero, List.set_cons_succ]
    refine reg_load 10 (some 84) (fun W hW => G1.out W (Ext.trans HX.out hW)) rfl rfl rfl rfl (by kernel_rfl) (by kernel_rfl) (by kernel_rfl) (fun _ _ _ h => h) (by rfl) ?_
    simp only [Act.put, List.setIfInBounds_toArray, List.set_cons_zero, List.set_cons_succ]
    refine reg_load 12 (some 86) (fun W hW => G7.out W (Ext.trans HX.out hW)) rfl rfl rfl rfl (by kernel_rfl) (by kernel_rfl) (by kernel_rfl) (fun _ _ _ h => h) (by rfl) ?_
    simp only [Act.put, List.setIfInBounds_toArray, List.set_cons_zero, List.set_cons_succ]
    refine reg_take (v := ?_) 13 (some 87) rfl rfl (by kernel_rfl) (by kernel_rfl) (by kernel_rfl) (fun _ _ _ h => h) (by rfl) (fun W hW => ?_) ?_
    rotate_left
    · (go_simp; try rfl)
    simp only [Act.put, List.setIfInBounds_toArray, List.set_cons_zero, List.set_cons_succ]
    refine reg_load 14 (some 88) (fun W hW => G1.out W (Ext.trans HX.out hW)) rfl rfl rfl rfl (by kernel_rfl) (by kernel_rfl) (by kernel_rfl) (fun _ _ _ h => h) (by rfl) ?_
    simp only [Act.put, List.setIfInBounds_toArray, List.set_cons_zero, List.set_cons_succ]
    refine reg_eff 11 rfl (by kernel_rfl) (fun K hK => ?_)
    go_simp
    refine (HDA.out gk _ (K9.out.ext HX.out)).mono ?_
    rintro e w12 ⟨rfl, hE⟩
    refine hK.out _ _ hE ?_
    have HX := Lib.hid (Ext.trans HX.out hE)
    clear hE hK K
    try simp only [Act.put, List.setIfInBounds_toArray, List.set_cons_zero, List.set_cons_succ]
    refine reg_eff 15 rfl (by kernel_rfl) (fun K hK => ?_)
    go_simp
    refine (HRD.out A9 c9 _ (KA.out.below HX.out)).mono ?_
    rintro e w13 ⟨rfl, hE⟩
    refine hK.out _ _ hE ?_
    have HX := Lib.hid (Ext.trans HX.out hE)
    clear hE hK K
    try simp only [Act.put, List.setIfInBounds_toArray, List.set_cons_zero, List.set_cons_succ]
    refine reg_take (v := ?_) 16 (some 90) rfl rfl (by kernel_rfl) (by kernel_rfl) (by kernel_rfl) (fun _ _ _ h => h) (by rfl) (fun W hW => ?_) ?_
    rotate_left
    · (go_simp; try rfl)
    simp only [Act.put, List.setIfInBounds_toArray, List.set_cons_zero, List.set_cons_succ]
    refine reg_take (v := ?_) 17 (some 91) rfl rfl (by kernel_rfl) (by kernel_rfl) (by kernel_rfl) (fun _ _ _ h => h) (by rfl) (fun W hW => ?_) ?_
    rotate_left
    · (go_simp; try rfl)
    simp only [Act.put, List.setIfInBounds_toArray, List.set_cons_zero, List.set_cons_succ]
    refine reg_take (v := ?_) 18 (some 92) rfl rfl (by kernel_rfl) (by kernel_rfl) (by kernel_rfl) (fun _ _ _ h => h) (by rfl) (fun W hW => ?_) ?_
    rotate_left
    · (go_simp; try rfl)
    simp only [Act.put, List.setIfInBounds_toArray, List.set_cons_zero, List.set_cons_succ]
    refine reg_eff 19 rfl (by kernel_rfl) (fun K hK => ?_)
    go_simp
    refine (awake3_any _).mono ?_
    rintro e w14 ⟨rfl, hE⟩
    refine hK.out _ _ hE ?_
    have HX := Lib.hid (Ext.trans HX.out hE)
    clear hE hK K
    try simp only [Act.put, List.setIfInBounds_toArray, List.set_cons_zero, List.set_cons_succ]
    refine reg_take (v := ?_) 20 (some 94) rfl rfl (by kernel_rfl) (by kernel_rfl) (by kernel_rfl) (fun _ _ _ h => h) (by rfl) (fun W hW => ?_) ?_
    rotate_left
    · (go_simp; try rfl)
    simp only [Act.put, List.setIfInBounds_toArray, List.set_cons_zero, List.set_cons_succ]
    refine reg_take (v := ?_) 21 (some 4) rfl rfl (by kernel_rfl) (by kernel_rfl) (by kernel_rfl) (fun _ _ _ h => h) (by rfl) (fun W hW => ?_) ?_
    rotate_left
    · (go_simp; try rfl)
    simp only [Act.put, List.setIfInBounds_toArray, List.set_cons_zero, List.set_cons_succ]
    refine reg_done (by kernel_rfl) ?_
    go_wp2
    go_ret
    exact ⟨rfl, B9.out.step HX.out⟩
theorem aesBlocks_walk (w : World) (A : Option Addr) (c : Nat) (key : List UInt8) (hS : Sl w A c key) (b : List UInt8) (hb : b.length = 16) :
    Calls Try.prog 3 #[.slice A key.length c, .agg (b.map bv).toArray] w fun e w' => e = .returned (.bool true) ∧ Below w.heap.size w w' := by
  by_cases h1 : key.length ≤ 100
  · by_cases h16 : key.length = 16
    · exact aesBlocks_yes w A _ c 4 key rfl hS b hb h16 (.inl rfl)
    · by_cases h32 : key.length = 32
      · exact aesBlocks_yes w A _ c 8 key rfl hS b hb h32 (.inr rfl)
      · exact aesBlocks_no w A _ c key rfl hS b hb h1 h16 h32
  · have q1 : key.length ≤ 9223372036854775807 := by have := hS.1; have := hS.2.1; simp [maxLen] at this; omega
    obtain ⟨n, hn⟩ : ∃ n, key.length = n := ⟨_, rfl⟩
    rw [hn] at h1 q1 ⊢
    have t0 : (100 : Int) < (n : Int) := by omega
    clear hn hS h1
    go_enter Try.func3, Try.ntmps3
    go_wp2
    go_ret
    exact ⟨rfl, (Below.refl _ _).alloc (Nat.le_refl _) _⟩
end Go.Proofs.Ytbpbhmcemldbbaa
