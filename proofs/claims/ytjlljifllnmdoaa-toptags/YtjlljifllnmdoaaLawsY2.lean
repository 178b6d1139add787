/- Laws through the layers: GCM's tag is the hash of what is sealed, and the first counter, enciphered. -/
import Derived.Test.YtjlljifllnmdoaaLawsY1
namespace Go.Proofs.Ytjlljifllnmdoaa
open Go.RowKit
set_option maxRecDepth 100000
set_option linter.unusedVariables false
set_option linter.unusedSimpArgs false
theorem whG_whole (b : List UInt8) (h : b.length % 16 = 0) : whG b = b := by rw [whG, padN, h]; simp
set_option maxHeartbeats 4000000 in
theorem topTags_walk (w : World) (y : List UInt8 × Bool × List UInt8) (l : y.1.length = 32 ∧ y.2.2.length = 16) (A : Option Addr) (c : Nat) (b : List UInt8) (h : Sl w A c b) (A' : Option Addr) (c' : Nat) (b' : List UInt8) (h' : Sl w A' c' b') :
    Calls Try.prog 4 #[.agg (kCells y.1 y.2.1 y.2.2).toArray, .slice A b.length c, .slice A' b'.length c'] w fun e w' => e = .returned (.bool true) ∧ Below w.heap.size w w' := by
  obtain ⟨k, lg, n⟩ := y
  obtain ⟨lk, ln⟩ := l
  simp only at lk ln ⊢
  have q1 : b.length ≤ 9223372036854775807 := by have := h.1; have := h.2.1; simp [maxLen] at this; omega
  have q1' : b'.length ≤ 9223372036854775807 := by have := h'.1; have := h'.2.1; simp [maxLen] at this; omega
  have H := Lib.hid h; have H' := Lib.hid h'
  obtain ⟨m, hm⟩ : ∃ m, b.length = m := ⟨_, rfl⟩
  have HM := Lib.hid hm
  rw [hm] at q1 ⊢
  obtain ⟨m', hm'⟩ : ∃ m', b'.length = m' := ⟨_, rfl⟩
  have HM' := Lib.hid hm'
  rw [hm'] at q1' ⊢
  have N0 := Lib.hid (heap_alloc_new' w (.cells (kCells k lg n).toArray 25))
  have B0 : Hid (Below w.heap.size w (w.alloc (.cells (kCells k lg n).toArray 25))) := (Below.refl _ _).alloc (Nat.le_refl _) _
  have HLD := Lib.hid (ld_keyT N0.out lk ln)
  have Z0 := Lib.hid (kz_new w k n lg 25 lk ln)
  have HBY := Lib.hid (fun W => tbytes_any k lg n W lk ln)
  have HKL := Lib.hid (keyB_len k lg lk)
  have HW : Hid (keyW lg = 4 ∨ keyW lg = 8) := by show _ ∨ _; cases lg <;> simp [keyW]
  have HLN := Lib.hid ln
  obtain ⟨iv, hiv⟩ : ∃ iv, n.take 12 = iv := ⟨_, rfl⟩
  have hivl : iv.length = 12 := by rw [← hiv, List.length_take, ln]; rfl
  have HI := Lib.hid hiv; have HIL := Lib.hid hivl
  obtain ⟨ZC, HZ⟩ : ∃ ZC, Hid ((kCells k lg n).toArray = ZC) := ⟨_, rfl⟩
  rw [HZ.out] at N0 B0 HLD Z0 HBY ⊢
  clear HZ h h' lk ln hm hm' hiv hivl
  by_cases hb : 96 < m'
  · have e1' : (96 : Int) < (m' : Int) := by omega
    go_enter Try.func4, Try.ntmps4
    go_wp2
    go_ret
    exact ⟨rfl, B0.out⟩
  have e1' : ¬ ((96 : Int) < (m' : Int)) := by omega
  have hb2' : m' ≤ 96 := by omega
  clear hb
  by_cases hb : 96 < m
  · have e1 : (96 : Int) < (m : Int) := by omega
    go_enter Try.func4, Try.ntmps4
    go_wp2
    go_ret
    exact ⟨rfl, B0.out⟩
  have e1 : ¬ ((96 : Int) < (m : Int)) := by omega
  have hb2 : m ≤ 96 := by omega
  clear hb
  obtain ⟨r', hr'⟩ : ∃ r', r' = m' % 16 := ⟨_, rfl⟩
  obtain ⟨r, hr⟩ : ∃ r, r = m % 16 := ⟨_, rfl⟩
  have f1 : (m' : Int) % 16 = (r' : Int) := by omega
  have f2 : (m' : Int).tmod 16 = (r' : Int) := by rw [Int.tmod_eq_emod_of_nonneg (by omega)]; exact f1
  have f3 : (m : Int) % 16 = (r : Int) := by omega
  have f4 : (m : Int).tmod 16 = (r : Int) := by rw [Int.tmod_eq_emod_of_nonneg (by omega)]; exact f3
  have HR' := Lib.hid hr'; have HRR := Lib.hid hr
  clear hr hr'
  by_cases hb : r' ≠ 0
  · have f5 : ((r' : Int) != 0) = true := by simp; omega
    go_enter Try.func4, Try.ntmps4
    go_wp2
    go_ret
    exact ⟨rfl, B0.out⟩
  have f5 : ((r' : Int) != 0) = false := by simp; omega
  have h16' : Hid (m' % 16 = 0) := by have := HR'.out; show _ = _; omega
  clear hb
  by_cases hb : r ≠ 0
  · have f6 : ((r : Int) != 0) = true := by simp; omega
    go_enter Try.func4, Try.ntmps4
    go_wp2
    go_ret
    exact ⟨rfl, B0.out⟩
  have f6 : ((r : Int) != 0) = false := by simp; omega
  have h16 : Hid (m % 16 = 0) := by have := HRR.out; show _ = _; omega
  clear hb
  generalize keyB k lg = KB at HBY HKL
  generalize keyW lg = nk at HBY HKL HW
  go_enter Try.func4, Try.ntmps4
  go_upto_region 1 with (fail)
  generalize w.alloc _ = W0 at N0 B0 HLD Z0 ⊢
  go_wp2_with (first
    | (refine wpList_ld rfl 25 (.tmp 3) rfl HLD.out ?_)
    | fail)
  refine (HBY.out W0).mono ?_
  rintro e w1 ⟨rfl, hS1, hb1⟩
  have S1 := Lib.hid hS1
  have B1 : Hid (Below w.heap.size w w1) := B0.out.step hb1
  have Z1 := Lib.hid (Z0.out.ext hb1)
  clear hS1 hb1 B0 N0 HLD Z0 HBY
  go_wp2_with fail
  refine (expand_any (some ⟨W0.heap.size, 0, none⟩) (4 * nk) 32 nk KB w1 HKL.out rfl HW.out S1.out).mono ?_
  rintro e w2 ⟨p, rfl, hg, hK, hb2'⟩
  obtain ⟨E, HEE⟩ : ∃ E, Hid (E = encL (expandL KB) (nk + 6)) := ⟨_, rfl⟩
  have K2 := Lib.hid (KeyAt.gkey hK (by omega) (by rcases HW.out with h | h <;> omega))
  rw [← HEE.out] at K2
  have B2 : Hid (Below w.heap.size w w2) := B1.out.step hb2'
  have Z2 := Lib.hid (Z1.out.ext hb2')
  clear hg hK hb2' B1 Z1 S1
  clear f1 f2 f3 f4 f5 f6 e1 e1'
  have SV2 := Lib.hid (kz_iv Z2.out HLN.out)
  rw [HI.out] at SV2
  have HEF := Lib.hid (K2.out.1.1 (firstG E iv) (firstG_len _ _))
  have HEZ := Lib.hid (K2.out.1.1 zerB rfl)
  have SE := Lib.hid (fun W hE S2 S3 S4 => gseal_any p E iv b b' (some ⟨w.heap.size, 33, none⟩) A A' 12 16 m c m' c' W hE HIL.out (by omega) (by omega) HM.out HM'.out (by omega) (by omega) S2 S3 S4)
  have FI := Lib.hid (fun W hE S2 => gfirst_any (.pointer (some ⟨p, 0, none⟩)) E (some ⟨w.heap.size, 33, none⟩) 12 16 iv W hE HIL.out (by omega) (by omega) S2)
  have HFL := Lib.hid (firstG_len E iv)
  have GL := Lib.hid (fun W => glen_any (m : Int) (m' : Int) W)
  have HLL := Lib.hid (lenL_len (m : Int) (m' : Int))
  have HXL : Hid ((sealG E (firstG E iv) b b').length = m' + 16) := by show _ = _; rw [sealG_len _ _ _ _ HEF.out, HM'.out]
  have HCL : Hid ((gcL E (firstG E iv) b').length = m') := by show _ = _; rw [gcL_len]; exact HM'.out
  have TX : Hid ((sealG E (firstG E iv) b b').take m' = gcL E (firstG E iv) b') := by show _ = _; rw [sealG, List.take_left' HCL.out]
  have DX : Hid ((sealG E (firstG E iv) b b').drop m' = xorL (gsumL (E zerB) (b ++ gcL E (firstG E iv) b' ++ lenL (m : Int) (m' : Int))) (E (firstG E iv))) := by
    show _ = _
    rw [sealG, List.drop_left' HCL.out, tagG, HCL.out, HM.out, whG_whole b (by rw [HM.out]; exact h16.out), whG_whole _ (by rw [HCL.out]; exact h16'.out)]
  generalize gcL E (firstG E iv) b' = C at TX HCL DX
  generalize sealG E (firstG E iv) b b' = X at SE HXL TX DX
  generalize lenL (m : Int) (m' : Int) = LB at GL HLL DX
  have sl := arr_to arr16B s8 ⟨w.heap.size, 33, none⟩ .i64 12 (by omega) (by omega)
  rw [show (12 : Int).toNat = 12 from rfl] at sl
  have hz : ∀ W, (zeroValue 23).run Try.prog W = .ok (.agg zeros16.toArray) W := fun W => by kernel_rfl
  have HZL : Hid (zeros16.length = 16) := rfl
  have BD : Hid (∀ W, (Instr.build 23 #[]).run Try.prog W = .ok (.agg (zerB.map bv).toArray) W) := fun W => by kernel_rfl
  generalize zeros16 = ZZ at hz HZL
  go_wp2_with fail
  refine (SE.out w2 K2.out SV2.out (H.out.below B2.out) (H'.out.below B2.out)).mono ?_
  rintro e w3 ⟨v3, rfl, hO, hb1⟩
  obtain ⟨A4, c4, rfl, hl3, h31, h32, hr3⟩ := own_read hO
  have S3 := Lib.hid (sl_mk hl3 h31 h32 hr3)
  have B3 : Hid (Below w.heap.size w w3) := B2.out.step hb1
  have K3 := Lib.hid (K2.out.ext hb1)
  have SV3 := Lib.hid (SV2.out.below hb1)
  clear hl3 h31 h32 hr3 hO hb1 B2 SE K2 SV2 Z2
  go_wp2_with fail
  refine (GL.out w3).mono ?_
  rintro e w4 ⟨rfl, hb1⟩
  have B4 : Hid (Below w.heap.size w w4) := B3.out.step hb1
  have K4 := Lib.hid (K3.out.ext hb1)
  have SV4 := Lib.hid (SV3.out.below hb1)
  have S4 := Lib.hid (S3.out.below hb1)
  clear hb1 B3 K3 S3 SV3 GL
  go_upto_region 10 with (first
    | (refine wpList_st rfl 23 (.tmp 11) (.tmp 66) rfl (store_arr (cs := LB.map bv) (i16c LB HLL.out) (bv_one _) (heap_alloc_new' w4 _) (by rw [List.length_map, HLL.out]; exact HZL.out)) ?_
       generalize hV : World.setRow _ _ _ = W5
       have M5 := Lib.hid (heap_of_setRow hV (heap_alloc_new' w4 _))
       have MB := Lib.hid (((Below.refl w4.heap.size w4).alloc (Nat.le_refl _) _).trans (below_of_setRow hV (Nat.le_refl w4.heap.size) (by simp)))
       clear hV)
    | fail)
  have B5 : Hid (Below w.heap.size w W5) := B4.out.step MB.out
  have K5 := Lib.hid (K4.out.ext MB.out)
  have SV5 := Lib.hid (SV4.out.below MB.out)
  have S5 := Lib.hid (S4.out.below MB.out)
  clear MB B4 K4 S4 SV4
  generalize w4.heap.size = q5 at M5 ⊢
  have hmc4 : m' ≤ c4 := by have := S5.out.1; rw [HXL.out] at this; omega
  have hmk4 : m' ≤ m' + 16 := by omega
  have sl1 := cut_to uT s8 A4 (m' + 16) c4 .i64 (m' : Int) (by omega) (by omega)
  have sl2 := cut_from uT s8 A4 (m' + 16) c4 .i64 (m' : Int) (by omega) (by omega)
  rw [Int.toNat_natCast] at sl1 sl2
  rw [show m' + 16 - m' = 16 by omega] at sl2
  have P5 := Lib.hid (sl_take' (q := m') S5.out)
  rw [TX.out] at P5
  have ar5 := arr_all arr16B s8 ⟨q5, 0, none⟩
  have w31 : 0 + m ≤ 2147483647 := by omega
  have w32 : m + m' ≤ 2147483647 := by omega
  have w33 : m + m' + 16 ≤ 2147483647 := by omega
  have HX : Hid (Below W5.heap.size W5 W5.drew) := (Below.refl _ _).drew
  have HS0 : Hid (W5.heap.size ≤ W5.drew.heap.size) := Nat.le_refl _
  refine regB_start (W5.heap.size) (by kernel_rfl) ?_
  try simp only [Act.put, List.setIfInBounds_toArray, List.set_cons_zero, List.set_cons_succ]
  generalize W5.drew = WD at HX HS0 ⊢
  refine regB_take (v := ?_) 1 (some 68) rfl rfl (by kernel_rfl) (by kernel_rfl) (by kernel_rfl) (fun _ _ _ h => h) (by rfl) (fun W hW => ?_) ?_
  rotate_left
  · (go_simp; try rfl)
  simp only [Act.put, List.setIfInBounds_toArray, List.set_cons_zero, List.set_cons_succ]
  refine regB_take (v := ?_) 3 (some 70) rfl rfl (by kernel_rfl) (by kernel_rfl) (by kernel_rfl) (fun _ _ _ h => h) (by rfl) (fun W hW => ?_) ?_
  rotate_left
  · (go_simp; try rfl)
  simp only [Act.put, List.setIfInBounds_toArray, List.set_cons_zero, List.set_cons_succ]
  refine regB_take (v := ?_) 4 (some 71) rfl rfl (by kernel_rfl) (by kernel_rfl) (by kernel_rfl) (fun _ _ _ h => h) (by rfl) (fun W hW => ?_) ?_
  rotate_left
  · (go_simp; try rfl)
  simp only [Act.put, List.setIfInBounds_toArray, List.set_cons_zero, List.set_cons_succ]
  refine regB_take (v := ?_) 5 (some 72) rfl rfl (by kernel_rfl) (by kernel_rfl) (by kernel_rfl) (fun _ _ _ h => h) (by rfl) (fun W hW => ?_) ?_
  rotate_left
  · (go_simp; try rfl)
  simp only [Act.put, List.setIfInBounds_toArray, List.set_cons_zero, List.set_cons_succ]
  refine regB_take (v := ?_) 6 (some 73) rfl rfl (by kernel_rfl) (by kernel_rfl) (by kernel_rfl) (fun _ _ _ h => h) (by rfl) (fun W hW => ?_) ?_
  rotate_left
  · (go_simp; try rfl)
  simp only [Act.put, List.setIfInBounds_toArray, List.set_cons_zero, List.set_cons_succ]
  refine regB_take (v := ?_) 8 (some 75) rfl rfl (by kernel_rfl) (by kernel_rfl) (by kernel_rfl) (fun _ _ _ h => h) (by rfl) (fun W hW => ?_) ?_
  rotate_left
  · (go_simp; try rfl)
  simp only [Act.put, List.setIfInBounds_toArray, List.set_cons_zero, List.set_cons_succ]
  refine regB_eff 0 rfl (by kernel_rfl) (fun K hK => ?_)
  go_simp
  have OW1 := Lib.hid (own_heap (base := W5.heap.size) (bs := []) (n := 0) (heap_alloc_new' WD (.cells #[] 5)) HS0.out rfl (Nat.zero_le _))
  have hE : Below W5.heap.size WD (WD.alloc (.cells #[] 5)) := (Below.refl _ WD).alloc HS0.out _
  have HS1 : Hid (W5.heap.size ≤ (WD.alloc (.cells #[] 5)).heap.size) := Nat.le_trans HS0.out hE.size
  generalize WD.heap.size = q1 at OW1 ⊢
  generalize WD.alloc (.cells #[] 5) = W1 at hE OW1 HS1 hK ⊢
  refine hK.out _ _ hE ?_
  have HX := Lib.hid (Below.trans HX.out hE)
  clear hE hK K
  try simp only [Act.put, List.setIfInBounds_toArray, List.set_cons_zero, List.set_cons_succ]
  refine regB_eff 2 rfl (by kernel_rfl) (fun K hK => ?_)
  refine step_app8 rfl (.tmp 67) (.tmp 68) rfl W5.heap.size _ 0 [] rfl ?_ A m c W1.heap.size b rfl ?_ ?_ ?_ ?_ ?_
  · exact OW1.out
  · exact (H.out.below (B5.out.trans (HX.out.mono B5.out.size))).2.2
  · exact HM.out
  · exact w31
  · exact HS1.out
  rintro v7 W2 hown hgr
  rw [List.nil_append, Nat.zero_add] at hown
  have OW2 := Lib.hid hown
  have hE : Below W5.heap.size W1 W2 := (Below.refl _ _).grown hgr HS1.out (c_own_ge OW1.out (Nat.le_refl _))
  have HS2 : Hid (W5.heap.size ≤ W2.heap.size) := Nat.le_trans HS1.out hE.size
  clear hown hgr
  refine hK.out _ _ hE ?_
  have HX := Lib.hid (Below.trans HX.out hE)
  clear hE hK K
  try simp only [Act.put, List.setIfInBounds_toArray, List.set_cons_zero, List.set_cons_succ]
  refine regB_eff 7 rfl (by kernel_rfl) (fun K hK => ?_)
  refine step_app8 rfl (.tmp 69) (.tmp 73) rfl W5.heap.size _ m b rfl ?_ A4 m' c4 W5.heap.size C rfl ?_ ?_ ?_ ?_ ?_
  · exact OW2.out
  · exact P5.out.2.2.below HX.out
  · exact HCL.out
  · exact w32
  · exact HS2.out
  rintro v8 W3 hown hgr
  have OW3 := Lib.hid hown
  have hE : Below W5.heap.size W2 W3 := (Below.refl _ _).grown hgr HS2.out (c_own_ge OW2.out (Nat.le_refl _))
  have HS3 : Hid (W5.heap.size ≤ W3.heap.size) := Nat.le_trans HS2.out hE.size
  clear hown hgr
  refine hK.out _ _ hE ?_
  have HX := Lib.hid (Below.trans HX.out hE)
  clear hE hK K
  try simp only [Act.put, List.setIfInBounds_toArray, List.set_cons_zero, List.set_cons_succ]
  refine regB_eff 9 rfl (by kernel_rfl) (fun K hK => ?_)
  refine step_app8 rfl (.tmp 74) (.tmp 75) rfl W5.heap.size _ (m + m') (b ++ C) rfl ?_ (some ⟨q5, 0, none⟩) 16 16 W5.heap.size LB rfl ?_ ?_ ?_ ?_ ?_
  · exact OW3.out
  · exact (sl_row HLL.out (by omega) M5.out).2.2.below HX.out
  · exact HLL.out
  · exact w33
  · exact HS3.out
  rintro v9 W4 hown hgr
  have OW4 := Lib.hid hown
  have hE : Below W5.heap.size W3 W4 := (Below.refl _ _).grown hgr HS3.out (c_own_ge OW3.out (Nat.le_refl _))
  clear hown hgr
  refine hK.out _ _ hE ?_
  have HX := Lib.hid (Below.trans HX.out hE)
  clear hE hK K
  try simp only [Act.put, List.setIfInBounds_toArray, List.set_cons_zero, List.set_cons_succ]
  refine regB_take (v := ?_) 10 (some 12) rfl rfl (by kernel_rfl) (by kernel_rfl) (by kernel_rfl) (fun _ _ _ h => h) (by rfl) (fun W hW => ?_) ?_
  rotate_left
  · (go_simp; try rfl)
  simp only [Act.put, List.setIfInBounds_toArray, List.set_cons_zero, List.set_cons_succ]
  refine regB_done (by kernel_rfl) ?_
  have B6 : Hid (Below w.heap.size w W4) := B5.out.trans (HX.out.mono B5.out.size)
  have K6 := Lib.hid (K5.out.ext HX.out)
  have SV6 := Lib.hid (SV5.out.below HX.out)
  have S6 := Lib.hid (S5.out.below HX.out)
  obtain ⟨A9, c9, rfl, hl9, h91, h92, hr9⟩ := own_read OW4.out
  have S9 := Lib.hid (sl_mk hl9 h91 h92 hr9)
  have L9 := Lib.hid hl9
  clear hl9 h91 h92 hr9 OW4 HX B5 K5 SV5 S5 P5 M5 ar5 sl1
  simp only [List.getElem_toArray, List.getElem_cons_succ, List.getElem_cons_zero, Act.put, List.setIfInBounds_toArray, List.set_cons_zero, List.set_cons_succ]
  have ENZ := Lib.hid (fun W hW => K6.out.1.2 W hW zerB rfl)
  have ENF := Lib.hid (fun W hW => K6.out.1.2 W hW (firstG E iv) HFL.out)
  generalize E (firstG E iv) = EF at HEF DX ENF
  generalize firstG E iv = F at FI HFL ENF
  generalize E zerB = EZ at HEZ DX ENZ
  generalize zerB.map bv = ZB at BD ENZ
  have GS := Lib.hid (fun W hS => gsum_any EZ A9 (m + m' + 16) c9 (b ++ C ++ LB) W HEZ.out L9.out w33 hS)
  have GSL := Lib.hid (gsumL_len EZ (b ++ C ++ LB))
  generalize gsumL EZ (b ++ C ++ LB) = T at GS GSL DX
  have XC := Lib.hid (fun A B W hS hS' => xor_n A B 16 16 16 16 16 T EF W GSL.out HEF.out rfl hS hS' (by omega) (by omega))
  have HRL : Hid ((xorL T EF).length = 16) := by show _ = _; rw [xorL_len, GSL.out, HEF.out]; rfl
  generalize xorL T EF = R at XC DX HRL
  go_wp2_with (first
    | (refine wpList_run (o := ⟨some 78, _, _, _, _, _⟩) rfl (v := .agg ZB.toArray) (w' := W4) (exec_bld rfl (by simp only [List.map_toArray, List.map_nil]; exact BD.out W4)) ?_)
    | fail)
  refine (ENZ.out W4 (Below.refl _ _)).mono ?_
  rintro e w7 ⟨rfl, hb1⟩
  have E7 : Hid (Below W4.heap.size W4 w7) := hb1
  have S97 := Lib.hid (S9.out.below hb1)
  clear hb1 ENZ S9
  go_wp2_with fail
  refine (GS.out w7 S97.out).mono ?_
  rintro e w8 ⟨rfl, hb1⟩
  have E8 : Hid (Below W4.heap.size W4 w8) := E7.out.step hb1
  clear hb1 GS S97 E7
  go_upto_region 12 with (first
    | (refine wpList_st rfl 23 (.tmp 13) (.tmp 81) rfl (store_arr (cs := T.map bv) (i16c T GSL.out) (bv_one _) (heap_alloc_new' w8 _) (by rw [List.length_map, GSL.out]; exact HZL.out)) ?_
       generalize hV : World.setRow _ _ _ = W9
       have M9 := Lib.hid (heap_of_setRow hV (heap_alloc_new' w8 _))
       have MB := Lib.hid (((Below.refl w8.heap.size w8).alloc (Nat.le_refl _) _).trans (below_of_setRow hV (Nat.le_refl w8.heap.size) (by simp)))
       clear hV)
    | fail)
  have E9 : Hid (Below W4.heap.size W4 W9) := E8.out.step MB.out
  clear MB E8
  generalize w8.heap.size = q9 at M9 ⊢
  go_wp2_with fail
  refine (FI.out W9 (K6.out.ext E9.out) (SV6.out.below E9.out)).mono ?_
  rintro e w10 ⟨rfl, hb1⟩
  have E10 : Hid (Below W4.heap.size W4 w10) := E9.out.step hb1
  have M10 := Lib.hid ((hb1.block _ (lt_of_heap M9.out)).trans M9.out)
  clear hb1 FI M9 E9
  go_wp2_with fail
  refine (ENF.out w10 E10.out).mono ?_
  rintro e w11 ⟨rfl, hb1⟩
  have E11 : Hid (Below W4.heap.size W4 w11) := E10.out.step hb1
  have M11 := Lib.hid ((hb1.block _ (lt_of_heap M10.out)).trans M10.out)
  clear hb1 ENF M10 E10
  go_upto_region 13 with (first
    | (refine wpList_st rfl 23 (.tmp 14) (.tmp 87) rfl (store_arr (cs := EF.map bv) (i16c EF HEF.out) (bv_one _) (heap_alloc_new' w11 _) (by rw [List.length_map, HEF.out]; exact HZL.out)) ?_
       generalize hV : World.setRow _ _ _ = W12
       have N12 := Lib.hid (heap_of_setRow hV (heap_alloc_new' w11 _))
       have MB := Lib.hid (((Below.refl w11.heap.size w11).alloc (Nat.le_refl _) _).trans (below_of_setRow hV (Nat.le_refl w11.heap.size) (by simp)))
       clear hV)
    | fail)
  have E12 : Hid (Below W4.heap.size W4 W12) := E11.out.step MB.out
  have M12 := Lib.hid ((MB.out.block _ (lt_of_heap M11.out)).trans M11.out)
  clear MB M11 E11
  generalize w11.heap.size = q12 at N12 ⊢
  have S12 := Lib.hid (S6.out.below E12.out)
  have D12 := Lib.hid (sl_cut (k := m') S12.out (by rw [HXL.out]; omega))
  rw [DX.out] at D12
  have B12 : Hid (Below w.heap.size w W12) := B6.out.step E12.out
  have ar1 := arr_all arr16B s8 ⟨q9, 0, none⟩
  have ar2 := arr_all arr16B s8 ⟨q12, 0, none⟩
  have hxx : ((strOf R).toList == (strOf R).toList) = true := by simp
  have HX : Hid (Ext W12 W12.drew) := (Below.refl _ _).drew
  refine reg_start (by kernel_rfl) ?_
  try simp only [Act.put, List.setIfInBounds_toArray, List.set_cons_zero, List.set_cons_succ]
  refine reg_take (v := ?_) 0 (some 88) rfl rfl (by kernel_rfl) (by kernel_rfl) (by kernel_rfl) (fun _ _ _ h => h) (by rfl) (fun W hW => ?_) ?_
  rotate_left
  · (go_simp; try rfl)
  simp only [Act.put, List.setIfInBounds_toArray, List.set_cons_zero, List.set_cons_succ]
  refine reg_take (v := ?_) 1 (some 89) rfl rfl (by kernel_rfl) (by kernel_rfl) (by kernel_rfl) (fun _ _ _ h => h) (by rfl) (fun W hW => ?_) ?_
  rotate_left
  · (go_simp; try rfl)
  simp only [Act.put, List.setIfInBounds_toArray, List.set_cons_zero, List.set_cons_succ]
  refine reg_take (v := ?_) 2 (some 90) rfl rfl (by kernel_rfl) (by kernel_rfl) (by kernel_rfl) (fun _ _ _ h => h) (by rfl) (fun W hW => ?_) ?_
  rotate_left
  · (go_simp; try rfl)
  simp only [Act.put, List.setIfInBounds_toArray, List.set_cons_zero, List.set_cons_succ]
  refine reg_take (v := ?_) 3 (some 91) rfl rfl (by kernel_rfl) (by kernel_rfl) (by kernel_rfl) (fun _ _ _ h => h) (by rfl) (fun W hW => ?_) ?_
  rotate_left
  · (go_simp; try rfl)
  simp only [Act.put, List.setIfInBounds_toArray, List.set_cons_zero, List.set_cons_succ]
  refine reg_conv 4 (some 92) (fun W hW => conv_string W (cutS A4 c4 m') 16 (c4 - m') R HRL.out (D12.out.below (HX.out.trans hW))) rfl rfl rfl rfl (by kernel_rfl) (by kernel_rfl) (by kernel_rfl) (fun _ _ _ h => h) (by rfl) ?_
  simp only [Act.put, List.setIfInBounds_toArray, List.set_cons_zero, List.set_cons_succ]
  refine reg_take (v := ?_) 5 (some 93) rfl rfl (by kernel_rfl) (by kernel_rfl) (by kernel_rfl) (fun _ _ _ h => h) (by rfl) (fun W hW => ?_) ?_
  rotate_left
  · (go_simp; try rfl)
  simp only [Act.put, List.setIfInBounds_toArray, List.set_cons_zero, List.set_cons_succ]
  refine reg_take (v := ?_) 6 (some 94) rfl rfl (by kernel_rfl) (by kernel_rfl) (by kernel_rfl) (fun _ _ _ h => h) (by rfl) (fun W hW => ?_) ?_
  rotate_left
  · (go_simp; try rfl)
  simp only [Act.put, List.setIfInBounds_toArray, List.set_cons_zero, List.set_cons_succ]
  refine reg_eff 7 rfl (by kernel_rfl) (fun K hK => ?_)
  go_simp
  refine (XC.out _ _ _ ((sl_row GSL.out (by omega) M12.out).below HX.out) ((sl_row HEF.out (by omega) N12.out).below HX.out)).mono ?_
  rintro e w14 ⟨g14, hg, rfl, hk, hE⟩
  have S14 := Lib.hid (sl_row HRL.out (by omega) hk)
  clear hg hk
  refine hK.out _ _ hE ?_
  have HX := Lib.hid (Ext.trans HX.out hE)
  clear hE hK K
  try simp only [Act.put, List.setIfInBounds_toArray, List.set_cons_zero, List.set_cons_succ]
  refine reg_conv 8 (some 96) (fun W hW => conv_string W (some ⟨g14, 0, none⟩) 16 16 R HRL.out (S14.out.below hW)) rfl rfl rfl rfl (by kernel_rfl) (by kernel_rfl) (by kernel_rfl) (fun _ _ _ h => h) (by rfl) ?_
  simp only [Act.put, List.setIfInBounds_toArray, List.set_cons_zero, List.set_cons_succ]
  refine reg_take (v := ?_) 9 (some 97) rfl rfl (by kernel_rfl) (by kernel_rfl) (by kernel_rfl) (fun _ _ _ h => h) (by rfl) (fun W hW => ?_) ?_
  rotate_left
  · (go_simp; try rfl)
  simp only [Act.put, List.setIfInBounds_toArray, List.set_cons_zero, List.set_cons_succ]
  refine reg_take (v := ?_) 10 (some 98) rfl rfl (by kernel_rfl) (by kernel_rfl) (by kernel_rfl) (fun _ _ _ h => h) (by rfl) (fun W hW => ?_) ?_
  rotate_left
  · (go_simp; try rfl)
  simp only [Act.put, List.setIfInBounds_toArray, List.set_cons_zero, List.set_cons_succ]
  refine reg_eff 11 rfl (by kernel_rfl) (fun K hK => ?_)
  go_simp
  refine (tawake_any _).mono ?_
  rintro e w15 ⟨rfl, hE⟩
  refine hK.out _ _ hE ?_
  have HX := Lib.hid (Ext.trans HX.out hE)
  clear hE hK K
  try simp only [Act.put, List.setIfInBounds_toArray, List.set_cons_zero, List.set_cons_succ]
  refine reg_take (v := ?_) 12 (some 100) rfl rfl (by kernel_rfl) (by kernel_rfl) (by kernel_rfl) (fun _ _ _ h => h) (by rfl) (fun W hW => ?_) ?_
  rotate_left
  · (go_simp; try rfl)
  simp only [Act.put, List.setIfInBounds_toArray, List.set_cons_zero, List.set_cons_succ]
  refine reg_take (v := ?_) 13 (some 6) rfl rfl (by kernel_rfl) (by kernel_rfl) (by kernel_rfl) (fun _ _ _ h => h) (by rfl) (fun W hW => ?_) ?_
  rotate_left
  · (go_simp; try rfl)
  simp only [Act.put, List.setIfInBounds_toArray, List.set_cons_zero, List.set_cons_succ]
  refine reg_done (by kernel_rfl) ?_
  have B15 : Hid (Below w.heap.size w w15) := B12.out.step HX.out
  go_wp2
  go_ret
  exact ⟨rfl, B15.out⟩
end Go.Proofs.Ytjlljifllnmdoaa
