/- Laws through the layers: counter mode is the stream of enciphered counts, and so is GCM. -/
import Derived.Test.YtjlljifllnmdoaaGcm6
import Derived.Test.YtjlljifllnmdoaaTopK
import Derived.Test.YtjlljifllnmdoaaJoin1
namespace Go.Proofs.Ytjlljifllnmdoaa
open Go.RowKit
set_option maxRecDepth 100000
set_option linter.unusedVariables false
set_option linter.unusedSimpArgs false
theorem cnt_top (iv : List UInt8) (hiv : iv.length = 12) (i : Nat) (hi : i ≤ 1000) : cntG (iv ++ [0, 0, 0, 1]) (i + 1) = countL (countL (iv ++ [0, 0, 0, 1]) 1) i := by
  have h1 : bigN (iv ++ [0, 0, 0, 1]) = bigN iv * 4294967296 + 1 := by rw [bigN_append]; rfl
  have h2 : bigN iv < 79228162514264337593543950336 := by have := bigN_lt iv; rw [hiv] at this; exact this
  have h3 : (iv ++ [0, 0, 0, 1]).drop 12 = [0, 0, 0, 1] := by rw [List.drop_left' hiv]
  have h4 : (iv ++ [0, 0, 0, 1]).take 12 = iv := by rw [List.take_left' hiv]
  have h5 : big ([0, 0, 0, 1] : List UInt8) = 1 := by decide
  have h6 := putBig_big iv
  rw [hiv] at h6
  rw [cntG, h3, h4, h5, countL, bigN_count, h1]
  rw [show (bigN iv * 4294967296 + 1 + 1) % 340282366920938463463374607431768211456 = bigN iv * 4294967296 + 2 by omega]
  rw [show (bigN iv * 4294967296 + 2 + i) % 340282366920938463463374607431768211456 = bigN iv * 4294967296 + (i + 2) by omega]
  rw [show (16 : Nat) = 12 + 4 from rfl, putBig_split]
  rw [show (bigN iv * 4294967296 + (i + 2)) / 256 ^ 4 = bigN iv by rw [show (256 : Nat) ^ 4 = 4294967296 from rfl]; omega, h6]
  congr 1
  rw [← putBig_mod (bigN iv * 4294967296 + (i + 2)) 4 4 (Nat.le_refl _), show (256 : Nat) ^ 4 = 4294967296 from rfl, show (bigN iv * 4294967296 + (i + 2)) % 4294967296 = 1 + (i + 1) by omega]
theorem gc_ctr (E : List UInt8 → List UInt8) (iv b : List UInt8) (hiv : iv.length = 12) (hb : b.length ≤ 1000) : ctrL (strmF E (countL (iv ++ [0, 0, 0, 1]) 1)) 0 b = gcL E (iv ++ [0, 0, 0, 1]) b := by
  refine ctrL_congr _ _ b 0 0 fun j hj => ?_
  show (E (countL (countL (iv ++ [0, 0, 0, 1]) 1) ((0 + j) / 16))).getD ((0 + j) % 16) 0 = (E (cntG (iv ++ [0, 0, 0, 1]) ((0 + j) / 16 + 1))).getD ((0 + j) % 16) 0
  rw [cnt_top iv hiv ((0 + j) / 16) (by omega)]
theorem kz_iv {W : World} {g : Nat} {k n : List UInt8} {b : Bool} (h : KZ W g k b n) (hn : n.length = 16) : Sl W (some ⟨g, 33, none⟩) 16 (n.take 12) := by
  refine ⟨by rw [List.length_take]; omega, by simp [maxLen], .inr ⟨g, 33, rfl, h.1, fun j u hu => ?_⟩⟩
  rw [List.map_take] at hu
  rw [List.getElem?_take] at hu
  split at hu
  · exact h.2.2.2 j u hu
  · cases hu
set_option maxHeartbeats 4000000 in
theorem topCounters_walk (w : World) (y : List UInt8 × Bool × List UInt8) (l : y.1.length = 32 ∧ y.2.2.length = 16) (A : Option Addr) (c : Nat) (b : List UInt8) (h : Sl w A c b) :
    Calls Try.prog 3 #[.agg (kCells y.1 y.2.1 y.2.2).toArray, .slice A b.length c] w fun e w' => e = .returned (.bool true) ∧ Below w.heap.size w w' := by
  obtain ⟨k, lg, n⟩ := y
  obtain ⟨lk, ln⟩ := l
  simp only at lk ln ⊢
  have q1 : b.length ≤ 9223372036854775807 := by have := h.1; have := h.2.1; simp [maxLen] at this; omega
  have H := Lib.hid h
  obtain ⟨m, hm⟩ : ∃ m, b.length = m := ⟨_, rfl⟩
  have HM := Lib.hid hm
  rw [hm] at q1 ⊢
  have N0 := Lib.hid (heap_alloc_new' w (.cells (kCells k lg n).toArray 25))
  have B0 : Hid (Below w.heap.size w (w.alloc (.cells (kCells k lg n).toArray 25))) := (Below.refl _ _).alloc (Nat.le_refl _) _
  have HLD := Lib.hid (ld_keyT N0.out lk ln)
  have Z0 := Lib.hid (kz_new w k n lg 25 lk ln)
  have HBY := Lib.hid (fun W => tbytes_any k lg n W lk ln)
  have HKL := Lib.hid (keyB_len k lg lk)
  have HW : Hid (keyW lg = 4 ∨ keyW lg = 8) := by show _ ∨ _; cases lg <;> simp [keyW]
  have HLN := Lib.hid ln
  obtain ⟨iv, hiv⟩ : ∃ iv, n.take 12 = iv := ⟨_, rfl⟩
  have hivl : iv.length = 12 := by rw [← hiv, List.length_take, ln]; rfl
  have HI := Lib.hid hiv; have HIL := Lib.hid hivl
  obtain ⟨ZC, HZ⟩ : ∃ ZC, Hid ((kCells k lg n).toArray = ZC) := ⟨_, rfl⟩
  rw [HZ.out] at N0 B0 HLD Z0 HBY ⊢
  clear HZ h lk ln hm hiv hivl
  by_cases hb : 100 < m
  · have e1 : (100 : Int) < (m : Int) := by omega
    go_enter Try.func3, Try.ntmps3
    go_wp2
    go_ret
    exact ⟨rfl, B0.out⟩
  have e1 : ¬ ((100 : Int) < (m : Int)) := by omega
  have hb2 : m ≤ 100 := by omega
  clear hb
  generalize keyB k lg = KB at HBY HKL
  generalize keyW lg = nk at HBY HKL HW
  go_enter Try.func3, Try.ntmps3
  go_upto_region 1 with (fail)
  generalize w.alloc _ = W0 at N0 B0 HLD Z0 ⊢
  go_wp2_with (first
    | (refine wpList_ld rfl 25 (.tmp 2) rfl HLD.out ?_)
    | fail)
  refine (HBY.out W0).mono ?_
  rintro e w1 ⟨rfl, hS1, hb1⟩
  have S1 := Lib.hid hS1
  have B1 : Hid (Below w.heap.size w w1) := B0.out.step hb1
  have Z1 := Lib.hid (Z0.out.ext hb1)
  clear hS1 hb1 B0 N0 HLD Z0 HBY
  go_wp2_with fail
  refine (expand_any (some ⟨W0.heap.size, 0, none⟩) (4 * nk) 32 nk KB w1 HKL.out rfl HW.out S1.out).mono ?_
  rintro e w2 ⟨p, rfl, hg, hK, hb2'⟩
  obtain ⟨E, HEE⟩ : ∃ E, Hid (E = encL (expandL KB) (nk + 6)) := ⟨_, rfl⟩
  have K2 := Lib.hid (KeyAt.gkey hK (by omega) (by rcases HW.out with h | h <;> omega))
  rw [← HEE.out] at K2
  have B2 : Hid (Below w.heap.size w w2) := B1.out.step hb2'
  have Z2 := Lib.hid (Z1.out.ext hb2')
  clear hg hK hb2' B1 Z1 S1
  have SV2 := Lib.hid (kz_iv Z2.out HLN.out)
  rw [HI.out] at SV2
  have HEF := Lib.hid (K2.out.1.1 (firstG E iv) (firstG_len _ _))
  have SE := Lib.hid (fun W hE S2 S4 => gseal_any p E iv [] b (some ⟨w.heap.size, 33, none⟩) none A 12 16 0 0 m c W hE HIL.out (by omega) (by omega) rfl HM.out (by omega) (by omega) S2 ⟨by simp, by simp [maxLen], .inl rfl⟩ S4)
  have FI := Lib.hid (fun W hE S2 => gfirst_any (.pointer (some ⟨p, 0, none⟩)) E (some ⟨w.heap.size, 33, none⟩) 12 16 iv W hE HIL.out (by omega) (by omega) S2)
  have HFE : Hid (firstG E iv = iv ++ [0, 0, 0, 1]) := by show _ = _; rw [firstG, if_pos HIL.out]
  rw [HFE.out] at SE FI HEF
  have HXL : Hid ((sealG E (iv ++ [0, 0, 0, 1]) [] b).length = m + 16) := by show _ = _; rw [sealG_len _ _ _ _ HEF.out, HM.out]
  have TX : Hid ((sealG E (iv ++ [0, 0, 0, 1]) [] b).take m = gcL E (iv ++ [0, 0, 0, 1]) b) := by show _ = _; rw [sealG, List.take_left' (by rw [gcL_len]; exact HM.out)]
  have HCL : Hid ((gcL E (iv ++ [0, 0, 0, 1]) b).length = m) := by show _ = _; rw [gcL_len]; exact HM.out
  have HFL : Hid ((iv ++ [0, 0, 0, 1]).length = 16) := by show _ = _; rw [List.length_append, HIL.out]; rfl
  have CN := Lib.hid (fun W => count_any (iv ++ [0, 0, 0, 1]) 1 W HFL.out (by omega))
  have CRY := Lib.hid (fun W hE hS => Crypt_any (.pointer (some ⟨p, 0, none⟩)) E (countL (iv ++ [0, 0, 0, 1]) 1) A m c b W (countL_len _ _) hE HM.out (by omega) hS)
  rw [gc_ctr E iv b HIL.out (by rw [HM.out]; omega)] at CRY
  generalize gcL E (iv ++ [0, 0, 0, 1]) b = C at TX HCL CRY
  generalize sealG E (iv ++ [0, 0, 0, 1]) [] b = X at SE HXL TX
  generalize countL (iv ++ [0, 0, 0, 1]) 1 = CT at CN CRY
  generalize iv ++ [0, 0, 0, 1] = F at FI HFL CN
  have sl := arr_to arr16B s8 ⟨w.heap.size, 33, none⟩ .i64 12 (by omega) (by omega)
  rw [show (12 : Int).toNat = 12 from rfl] at sl
  have hz : ∀ W, (zeroValue 23).run Try.prog W = .ok (.agg zeros16.toArray) W := fun W => by kernel_rfl
  have HZL : Hid (zeros16.length = 16) := rfl
  generalize zeros16 = ZZ at hz HZL
  go_wp2_with fail
  refine (SE.out w2 K2.out SV2.out (H.out.below B2.out)).mono ?_
  rintro e w3 ⟨v3, rfl, hO, hb1⟩
  obtain ⟨A4, c4, rfl, hl3, h31, h32, hr3⟩ := own_read hO
  have S3 := Lib.hid (sl_mk hl3 h31 h32 hr3)
  have B3 : Hid (Below w.heap.size w w3) := B2.out.step hb1
  have K3 := Lib.hid (K2.out.ext hb1)
  have SV3 := Lib.hid (SV2.out.below hb1)
  clear hl3 h31 h32 hr3 hO hb1 B2 SE K2 SV2 Z2
  go_wp2_with fail
  refine (FI.out w3 K3.out SV3.out).mono ?_
  rintro e w4 ⟨rfl, hb1⟩
  have B4 : Hid (Below w.heap.size w w4) := B3.out.step hb1
  have K4 := Lib.hid (K3.out.ext hb1)
  have S4 := Lib.hid (S3.out.below hb1)
  clear hb1 B3 K3 S3 SV3 FI
  go_upto_region 10 with (first
    | (refine wpList_st rfl 23 (.tmp 9) (.tmp 42) rfl (store_arr (cs := F.map bv) (i16c F HFL.out) (bv_one _) (heap_alloc_new' w4 _) (by rw [List.length_map, HFL.out]; exact HZL.out)) ?_
       generalize hV : World.setRow _ _ _ = W5
       have M5 := Lib.hid (heap_of_setRow hV (heap_alloc_new' w4 _))
       have MB := Lib.hid (((Below.refl w4.heap.size w4).alloc (Nat.le_refl _) _).trans (below_of_setRow hV (Nat.le_refl w4.heap.size) (by simp)))
       clear hV)
    | fail)
  have B5 : Hid (Below w.heap.size w W5) := B4.out.step MB.out
  have K5 := Lib.hid (K4.out.ext MB.out)
  have S5 := Lib.hid (S4.out.below MB.out)
  clear MB B4 K4 S4
  generalize w4.heap.size = q5 at M5 ⊢
  have hmc4 : m ≤ c4 := by have := S5.out.1; rw [HXL.out] at this; omega
  have sl1 := cut_to uT s8 A4 (m + 16) c4 .i64 (m : Int) (by omega) (by omega)
  rw [Int.toNat_natCast] at sl1
  have P5 := Lib.hid (sl_take' (q := m) S5.out)
  rw [TX.out] at P5
  have hxx : ((strOf C).toList == (strOf C).toList) = true := by simp
  have HX : Hid (Ext W5 W5.drew) := (Below.refl _ _).drew
  refine reg_start (by kernel_rfl) ?_
  try simp only [Act.put, List.setIfInBounds_toArray, List.set_cons_zero, List.set_cons_succ]
  refine reg_take (v := ?_) 0 (some 43) rfl rfl (by kernel_rfl) (by kernel_rfl) (by kernel_rfl) (fun _ _ _ h => h) (by rfl) (fun W hW => ?_) ?_
  rotate_left
  · (go_simp; try rfl)
  simp only [Act.put, List.setIfInBounds_toArray, List.set_cons_zero, List.set_cons_succ]
  refine reg_take (v := ?_) 1 (some 44) rfl rfl (by kernel_rfl) (by kernel_rfl) (by kernel_rfl) (fun _ _ _ h => h) (by rfl) (fun W hW => ?_) ?_
  rotate_left
  · (go_simp; try rfl)
  simp only [Act.put, List.setIfInBounds_toArray, List.set_cons_zero, List.set_cons_succ]
  refine reg_take (v := ?_) 2 (some 45) rfl rfl (by kernel_rfl) (by kernel_rfl) (by kernel_rfl) (fun _ _ _ h => h) (by rfl) (fun W hW => ?_) ?_
  rotate_left
  · (go_simp; try rfl)
  simp only [Act.put, List.setIfInBounds_toArray, List.set_cons_zero, List.set_cons_succ]
  refine reg_take (v := ?_) 3 (some 46) rfl rfl (by kernel_rfl) (by kernel_rfl) (by kernel_rfl) (fun _ _ _ h => h) (by rfl) (fun W hW => ?_) ?_
  rotate_left
  · (go_simp; try rfl)
  simp only [Act.put, List.setIfInBounds_toArray, List.set_cons_zero, List.set_cons_succ]
  refine reg_conv 4 (some 47) (fun W hW => conv_string W A4 m c4 C HCL.out (P5.out.below (HX.out.trans hW))) rfl rfl rfl rfl (by kernel_rfl) (by kernel_rfl) (by kernel_rfl) (fun _ _ _ h => h) (by rfl) ?_
  simp only [Act.put, List.setIfInBounds_toArray, List.set_cons_zero, List.set_cons_succ]
  refine reg_take (v := ?_) 5 (some 48) rfl rfl (by kernel_rfl) (by kernel_rfl) (by kernel_rfl) (fun _ _ _ h => h) (by rfl) (fun W hW => ?_) ?_
  rotate_left
  · (go_simp; try rfl)
  simp only [Act.put, List.setIfInBounds_toArray, List.set_cons_zero, List.set_cons_succ]
  refine reg_load 6 (some 49) (fun W hW => load_arr arr16B rfl (i16c F HFL.out) (((HX.out.trans hW).block _ (lt_of_heap M5.out)).trans M5.out)) rfl rfl rfl rfl (by kernel_rfl) (by kernel_rfl) (by kernel_rfl) (fun _ _ _ h => h) (by rfl) ?_
  simp only [Act.put, List.setIfInBounds_toArray, List.set_cons_zero, List.set_cons_succ]
  refine reg_take (v := ?_) 8 (some 51) rfl rfl (by kernel_rfl) (by kernel_rfl) (by kernel_rfl) (fun _ _ _ h => h) (by rfl) (fun W hW => ?_) ?_
  rotate_left
  · (go_simp; try rfl)
  simp only [Act.put, List.setIfInBounds_toArray, List.set_cons_zero, List.set_cons_succ]
  refine reg_eff 7 rfl (by kernel_rfl) (fun K hK => ?_)
  go_simp
  refine (CN.out _).mono ?_
  rintro e w6 ⟨rfl, hE⟩
  refine hK.out _ _ hE ?_
  have HX := Lib.hid (Ext.trans HX.out hE)
  clear hE hK K
  try simp only [Act.put, List.setIfInBounds_toArray, List.set_cons_zero, List.set_cons_succ]
  refine reg_eff 9 rfl (by kernel_rfl) (fun K hK => ?_)
  go_simp
  refine (CRY.out _ (K5.out.1.ext HX.out) ((H.out.below B5.out).below HX.out)).mono ?_
  rintro e w7 ⟨v7, rfl, hO, hE⟩
  obtain ⟨A7, c7, rfl, hl7, h71, h72, hr7⟩ := own_read hO
  have S7 := Lib.hid (sl_mk hl7 h71 h72 hr7)
  clear hl7 h71 h72 hr7 hO
  refine hK.out _ _ hE ?_
  have HX := Lib.hid (Ext.trans HX.out hE)
  clear hE hK K
  try simp only [Act.put, List.setIfInBounds_toArray, List.set_cons_zero, List.set_cons_succ]
  refine reg_conv 10 (some 53) (fun W hW => conv_string W A7 m c7 C HCL.out (S7.out.below hW)) rfl rfl rfl rfl (by kernel_rfl) (by kernel_rfl) (by kernel_rfl) (fun _ _ _ h => h) (by rfl) ?_
  simp only [Act.put, List.setIfInBounds_toArray, List.set_cons_zero, List.set_cons_succ]
  refine reg_take (v := ?_) 11 (some 54) rfl rfl (by kernel_rfl) (by kernel_rfl) (by kernel_rfl) (fun _ _ _ h => h) (by rfl) (fun W hW => ?_) ?_
  rotate_left
  · (go_simp; try rfl)
  simp only [Act.put, List.setIfInBounds_toArray, List.set_cons_zero, List.set_cons_succ]
  refine reg_take (v := ?_) 12 (some 55) rfl rfl (by kernel_rfl) (by kernel_rfl) (by kernel_rfl) (fun _ _ _ h => h) (by rfl) (fun W hW => ?_) ?_
  rotate_left
  · (go_simp; try rfl)
  simp only [Act.put, List.setIfInBounds_toArray, List.set_cons_zero, List.set_cons_succ]
  refine reg_eff 13 rfl (by kernel_rfl) (fun K hK => ?_)
  go_simp
  refine (tawake_any _).mono ?_
  rintro e w8 ⟨rfl, hE⟩
  have S7 := Lib.hid (S7.out.below hE)
  refine hK.out _ _ hE ?_
  have HX := Lib.hid (Ext.trans HX.out hE)
  clear hE hK K
  try simp only [Act.put, List.setIfInBounds_toArray, List.set_cons_zero, List.set_cons_succ]
  refine reg_take (v := ?_) 14 (some 57) rfl rfl (by kernel_rfl) (by kernel_rfl) (by kernel_rfl) (fun _ _ _ h => h) (by rfl) (fun W hW => ?_) ?_
  rotate_left
  · (go_simp; try rfl)
  simp only [Act.put, List.setIfInBounds_toArray, List.set_cons_zero, List.set_cons_succ]
  refine reg_take (v := ?_) 15 (some 4) rfl rfl (by kernel_rfl) (by kernel_rfl) (by kernel_rfl) (fun _ _ _ h => h) (by rfl) (fun W hW => ?_) ?_
  rotate_left
  · (go_simp; try rfl)
  simp only [Act.put, List.setIfInBounds_toArray, List.set_cons_zero, List.set_cons_succ]
  refine reg_done (by kernel_rfl) ?_
  have B8 : Hid (Below w.heap.size w w8) := B5.out.step HX.out
  go_wp2
  go_ret
  exact ⟨rfl, B8.out⟩
end Go.Proofs.Ytjlljifllnmdoaa
