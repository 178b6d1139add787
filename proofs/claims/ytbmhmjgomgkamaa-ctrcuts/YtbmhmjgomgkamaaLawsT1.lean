/- Laws of layer 8: what is cut at a block's end goes on with the IV as many more. -/
import Derived.Test.YtbmhmjgomgkamaaCtr2
namespace Go.Proofs.Ytbmhmjgomgkamaa
open Go.RowKit
set_option linter.unusedVariables false
set_option linter.unusedSimpArgs false
theorem strm_more (E : List UInt8 → List UInt8) (iv : List UInt8) (j i : Nat) : strmF E (countL iv j) i = strmF E iv (16 * j + i) := by
  unfold strmF blkF
  rw [show (16 * j + i) / 16 = j + i / 16 by omega, show (16 * j + i) % 16 = i % 16 by omega]
  simp only [count_count]
theorem ctr_cut (E : List UInt8 → List UInt8) (iv b : List UInt8) (j : Nat) (h : 16 * j ≤ b.length) :
    ctrL (strmF E iv) 0 (b.take (16 * j)) ++ ctrL (strmF E (countL iv j)) 0 (b.drop (16 * j)) = ctrL (strmF E iv) 0 b := by
  have h1 := ctrL_append (strmF E iv) (b.take (16 * j)) 0 (b.drop (16 * j))
  rw [List.take_append_drop, List.length_take, Nat.min_eq_left h, Nat.zero_add] at h1
  rw [h1]
  congr 1
  exact ctrL_congr _ _ _ _ _ fun i _ => by rw [Nat.zero_add, strm_more]
theorem sl_takek {w : World} {A : Option Addr} {c q : Nat} {b : List UInt8} (h : Sl w A c b) : Sl w A c (b.take q) := by
  have := h.2.2.take q
  rw [← List.map_take] at this
  exact ⟨by have := h.1; rw [List.length_take]; omega, h.2.1, this⟩
set_option maxHeartbeats 1000000 in
theorem ctrCuts_walk (w : World) (y : List UInt8 × Bool × List UInt8) (l : y.1.length = 32 ∧ y.2.2.length = 16) (A : Option Addr) (c : Nat) (b : List UInt8) (h : Sl w A c b) (x : UInt8) :
    Calls Try.prog 6 #[.agg (kCells y.1 y.2.1 y.2.2).toArray, .slice A b.length c, .int .u8 (x.toNat : Int)] w fun e w' => e = .returned (.bool true) ∧ Below w.heap.size w w' := by
  obtain ⟨k, lg, iv⟩ := y
  obtain ⟨hk, hn⟩ := l
  simp only at hk hn ⊢
  have q1 : b.length ≤ 9223372036854775807 := by have := h.1; have := h.2.1; simp [maxLen] at this; omega
  have HN := Lib.hid hn; have H := Lib.hid h
  obtain ⟨m, hm⟩ : ∃ m, b.length = m := ⟨_, rfl⟩
  have HM := Lib.hid hm
  have hmc : m ≤ c := by rw [← hm]; exact h.1
  rw [hm] at q1 ⊢
  have HKS := Lib.hid (fun W => keys_any k lg iv W hk hn)
  have HZL := Lib.hid (kCells_len k iv lg hk hn)
  have Z0 := Lib.hid (kz_new w k iv lg 25 hk hn)
  have HR : Hid (1 ≤ keyW lg + 6 ∧ keyW lg + 6 ≤ 14) := by show _ ∧ _; cases lg <;> simp [keyW]
  clear hk hn h
  generalize kCells k lg iv = Z at HKS HZL Z0 ⊢
  generalize keyW lg + 6 = nr at HKS HR
  generalize expandL (keyB k lg) = ws at HKS
  by_cases hb : 300 < m
  · go_enter Try.func6, Try.ntmps6
    go_wp2
    go_ret
    exact ⟨rfl, (Below.refl _ _).alloc (Nat.le_refl _) _⟩
  have hbb : m ≤ 300 := by omega
  have hx := x.toNat_lt
  obtain ⟨j, hj⟩ : ∃ j, j = min (x.toNat % 20) (m / 16) := ⟨_, rfl⟩
  obtain ⟨q, hq⟩ : ∃ q, q = 16 * j := ⟨_, rfl⟩
  have hqm : q ≤ m := by omega
  have hmin : (if (m : Int) / 16 * 16 < 16 * ((x.toNat : Int) % 20) then (m : Int) / 16 * 16 else 16 * ((x.toNat : Int) % 20)) = (q : Int) := by split <;> omega
  have HC := Lib.hid (fun E => ctr_cut E iv b j (by omega))
  have hq64 : q / 16 = j := by omega
  rw [← hq] at HC
  have HT : Hid ((b.take q).length = q) := by show _ = _; rw [List.length_take]; omega
  have HD : Hid ((b.drop q).length = m - q) := by show _ = _; rw [List.length_drop]; omega
  have hj31 : j ≤ 300 := by omega
  clear hb q1 hm hj hq
  go_enter Try.func6, Try.ntmps6
  go_wp2_with (first
    | (refine wpList_ld rfl 25 (.tmp 3) rfl (load_arr Try.underlying25 rfl (by rw [HZL.out]; exact iKey) (heap_alloc_new' w _)) ?_)
    | fail)
  generalize hV : w.alloc _ = Wa at Z0 ⊢
  have Ba := Lib.hid (below_of_alloc hV (Nat.le_refl w.heap.size))
  clear hV
  refine (HKS.out Wa).mono ?_
  rintro e W0 ⟨gk, rfl, _, hK, hb0⟩
  have K0 := Lib.hid (KeyAt.enc hK HR.out.1 HR.out.2)
  have B0 := Lib.hid (Ba.out.step hb0)
  have Z0 := Lib.hid (Z0.out.ext hb0)
  clear hK hb0 Ba HKS
  generalize encL ws nr = E at K0
  have HC := Lib.hid (HC.out E)
  have H0 := Lib.hid (H.out.below B0.out)
  go_wp2_with fail
  clear hmin
  have sl1 := cut_to uT s8 A m c .i64 (q : Int) (by omega) (by omega)
  rw [Int.toNat_natCast] at sl1
  have HX : Hid (Ext W0 W0.drew) := (Below.refl _ _).drew
  refine reg_start (by kernel_rfl) ?_
  try simp only [Act.put, List.setIfInBounds_toArray, List.set_cons_zero, List.set_cons_succ]
  refine reg_take (v := ?_) 0 (some 31) rfl rfl (by kernel_rfl) (by kernel_rfl) (by kernel_rfl) (fun _ _ _ h => h) (by rfl) (fun W hW => ?_) ?_
  rotate_left
  · (go_simp; try rfl)
  simp only [Act.put, List.setIfInBounds_toArray, List.set_cons_zero, List.set_cons_succ]
  refine reg_take (v := ?_) 1 (some 32) rfl rfl (by kernel_rfl) (by kernel_rfl) (by kernel_rfl) (fun _ _ _ h => h) (by rfl) (fun W hW => ?_) ?_
  rotate_left
  · (go_simp; try rfl)
  simp only [Act.put, List.setIfInBounds_toArray, List.set_cons_zero, List.set_cons_succ]
  refine reg_load 2 (some 33) (fun W hW => run_loadAt_mid W w.heap.size 33 23 (iv.map bv) _ (Z0.out.ext (HX.out.trans hW)).2.2.2 arr16B rfl (i16z iv HN.out)) rfl rfl rfl rfl (by kernel_rfl) (by kernel_rfl) (by kernel_rfl) (fun _ _ _ h => h) (by rfl) ?_
  simp only [Act.put, List.setIfInBounds_toArray, List.set_cons_zero, List.set_cons_succ]
  refine reg_take (v := ?_) 3 (some 34) rfl rfl (by kernel_rfl) (by kernel_rfl) (by kernel_rfl) (fun _ _ _ h => h) (by rfl) (fun W hW => ?_) ?_
  rotate_left
  · (go_simp; try rfl)
  simp only [Act.put, List.setIfInBounds_toArray, List.set_cons_zero, List.set_cons_succ]
  refine reg_take (v := ?_) 4 (some 35) rfl rfl (by kernel_rfl) (by kernel_rfl) (by kernel_rfl) (fun _ _ _ h => h) (by rfl) (fun W hW => ?_) ?_
  rotate_left
  · (go_simp; try rfl)
  simp only [Act.put, List.setIfInBounds_toArray, List.set_cons_zero, List.set_cons_succ]
  refine reg_take (v := ?_) 5 (some 36) rfl rfl (by kernel_rfl) (by kernel_rfl) (by kernel_rfl) (fun _ _ _ h => h) (by rfl) (fun W hW => ?_) ?_
  rotate_left
  · (go_simp; try rfl)
  simp only [Act.put, List.setIfInBounds_toArray, List.set_cons_zero, List.set_cons_succ]
  refine reg_eff 6 rfl (by kernel_rfl) (fun K hK => ?_)
  go_simp
  refine (Crypt_any _ E iv A q c (b.take q) _ HN.out (K0.out.ext HX.out) HT.out (by omega) (sl_takek (H0.out.extk HX.out))).mono ?_
  rintro e w1 ⟨v1, rfl, hO1, hE⟩
  obtain ⟨A1, c1, rfl, hl1, hc1, hm1, hr1⟩ := own_read hO1
  have S1 : Hid (Sl w1 A1 c1 (ctrL (strmF E iv) 0 (b.take q))) := ⟨by omega, hm1, hr1⟩
  clear hO1 hc1 hm1 hr1
  refine hK.out _ _ hE ?_
  have HX := Lib.hid (Ext.trans HX.out hE)
  clear hE hK K
  try simp only [Act.put, List.setIfInBounds_toArray, List.set_cons_zero, List.set_cons_succ]
  refine reg_take (v := ?_) 7 (some 10) rfl rfl (by kernel_rfl) (by kernel_rfl) (by kernel_rfl) (fun _ _ _ h => h) (by rfl) (fun W hW => ?_) ?_
  rotate_left
  · (go_simp; try rfl)
  simp only [Act.put, List.setIfInBounds_toArray, List.set_cons_zero, List.set_cons_succ]
  refine reg_done (by kernel_rfl) ?_
  have Z1 := Lib.hid (Z0.out.ext HX.out)
  have K1 := Lib.hid (K0.out.ext HX.out)
  have B1 : Hid (Below w.heap.size w w1) := B0.out.step HX.out
  have H1 := Lib.hid (H0.out.extk HX.out)
  have l1 := Lib.hid hl1
  clear Z0 B0 H0 K0 HX sl1 hl1
  go_wp2_with fail
  have sl2 := cut_from uT s8 A m c .i64 (q : Int) (by omega) (by omega)
  rw [Int.toNat_natCast] at sl2
  have u1 : IntKind.i64.wrap ((q : Int) / 16) = (j : Int) := by rw [IntKind.wrap_i64]; omega
  have u2 : IntKind.u64.wrap (j : Int) = (j : Int) := by rw [IntKind.wrap_u64]; omega
  have HX : Hid (Ext w1 w1.drew) := (Below.refl _ _).drew
  have HCO := Lib.hid (fun W => count_any iv j W HN.out (by omega))
  have HCL := Lib.hid (countL_len iv j)
  generalize countL iv j = iv2 at HC HCO HCL
  refine reg_start (by kernel_rfl) ?_
  try simp only [Act.put, List.setIfInBounds_toArray, List.set_cons_zero, List.set_cons_succ]
  refine reg_take (v := ?_) 0 (some 38) rfl rfl (by kernel_rfl) (by kernel_rfl) (by kernel_rfl) (fun _ _ _ h => h) (by rfl) (fun W hW => ?_) ?_
  rotate_left
  · (go_simp; try rfl)
  simp only [Act.put, List.setIfInBounds_toArray, List.set_cons_zero, List.set_cons_succ]
  refine reg_take (v := ?_) 1 (some 39) rfl rfl (by kernel_rfl) (by kernel_rfl) (by kernel_rfl) (fun _ _ _ h => h) (by rfl) (fun W hW => ?_) ?_
  rotate_left
  · (go_simp; try rfl)
  simp only [Act.put, List.setIfInBounds_toArray, List.set_cons_zero, List.set_cons_succ]
  refine reg_load 2 (some 40) (fun W hW => run_loadAt_mid W w.heap.size 33 23 (iv.map bv) _ (Z1.out.ext (HX.out.trans hW)).2.2.2 arr16B rfl (i16z iv HN.out)) rfl rfl rfl rfl (by kernel_rfl) (by kernel_rfl) (by kernel_rfl) (fun _ _ _ h => h) (by rfl) ?_
  simp only [Act.put, List.setIfInBounds_toArray, List.set_cons_zero, List.set_cons_succ]
  refine reg_take (v := ?_) 3 (some 41) rfl rfl (by kernel_rfl) (by kernel_rfl) (by kernel_rfl) (fun _ _ _ h => h) (by rfl) (fun W hW => ?_) ?_
  rotate_left
  · (go_simp; try rfl)
  simp only [Act.put, List.setIfInBounds_toArray, List.set_cons_zero, List.set_cons_succ]
  refine reg_take (v := ?_) 4 (some 42) rfl rfl (by kernel_rfl) (by kernel_rfl) (by kernel_rfl) (fun _ _ _ h => h) (by rfl) (fun W hW => ?_) ?_
  rotate_left
  · (go_simp; try rfl)
  simp only [Act.put, List.setIfInBounds_toArray, List.set_cons_zero, List.set_cons_succ]
  refine reg_take (v := ?_) 5 (some 43) rfl rfl (by kernel_rfl) (by kernel_rfl) (by kernel_rfl) (fun _ _ _ h => h) (by rfl) (fun W hW => ?_) ?_
  rotate_left
  · (go_simp; try rfl)
  simp only [Act.put, List.setIfInBounds_toArray, List.set_cons_zero, List.set_cons_succ]
  refine reg_take (v := ?_) 7 (some 45) rfl rfl (by kernel_rfl) (by kernel_rfl) (by kernel_rfl) (fun _ _ _ h => h) (by rfl) (fun W hW => ?_) ?_
  rotate_left
  · (go_simp; try rfl)
  simp only [Act.put, List.setIfInBounds_toArray, List.set_cons_zero, List.set_cons_succ]
  refine reg_take (v := ?_) 8 (some 46) rfl rfl (by kernel_rfl) (by kernel_rfl) (by kernel_rfl) (fun _ _ _ h => h) (by rfl) (fun W hW => ?_) ?_
  rotate_left
  · (go_simp; try rfl)
  simp only [Act.put, List.setIfInBounds_toArray, List.set_cons_zero, List.set_cons_succ]
  refine reg_take (v := ?_) 9 (some 47) rfl rfl (by kernel_rfl) (by kernel_rfl) (by kernel_rfl) (fun _ _ _ h => h) (by rfl) (fun W hW => ?_) ?_
  rotate_left
  · (go_simp; try rfl)
  simp only [Act.put, List.setIfInBounds_toArray, List.set_cons_zero, List.set_cons_succ]
  refine reg_eff 6 rfl (by kernel_rfl) (fun K hK => ?_)
  go_simp
  refine (HCO.out _).mono ?_
  rintro e w1b ⟨rfl, hE⟩
  refine hK.out _ _ hE ?_
  have HX := Lib.hid (Ext.trans HX.out hE)
  clear hE hK K
  try simp only [Act.put, List.setIfInBounds_toArray, List.set_cons_zero, List.set_cons_succ]
  refine reg_eff 10 rfl (by kernel_rfl) (fun K hK => ?_)
  go_simp
  refine (Crypt_any _ E iv2 (cutS A c q) (m - q) (c - q) (b.drop q) _ HCL.out (K1.out.ext HX.out) HD.out (by omega) (sl_cut (H1.out.extk HX.out) (by rw [HM.out]; exact hqm))).mono ?_
  rintro e w2 ⟨v2, rfl, hO2, hE⟩
  obtain ⟨A2, c2, rfl, hl2, hc2, hm2, hr2⟩ := own_read hO2
  have S2 : Hid (Sl w2 A2 c2 (ctrL (strmF E iv2) 0 (b.drop q))) := ⟨by omega, hm2, hr2⟩
  clear hO2 hc2 hm2 hr2
  refine hK.out _ _ hE ?_
  have HX := Lib.hid (Ext.trans HX.out hE)
  clear hE hK K
  try simp only [Act.put, List.setIfInBounds_toArray, List.set_cons_zero, List.set_cons_succ]
  refine reg_take (v := ?_) 11 (some 11) rfl rfl (by kernel_rfl) (by kernel_rfl) (by kernel_rfl) (fun _ _ _ h => h) (by rfl) (fun W hW => ?_) ?_
  rotate_left
  · (go_simp; try rfl)
  simp only [Act.put, List.setIfInBounds_toArray, List.set_cons_zero, List.set_cons_succ]
  refine reg_done (by kernel_rfl) ?_
  have Z2 := Lib.hid (Z1.out.ext HX.out)
  have K2 := Lib.hid (K1.out.ext HX.out)
  have B2 : Hid (Below w.heap.size w w2) := B1.out.step HX.out
  have H2 := Lib.hid (H1.out.extk HX.out)
  have S1 := Lib.hid (S1.out.extk HX.out)
  have l2 := Lib.hid hl2
  clear Z1 B1 H1 HX sl2 u1 u2 hl2 K1
  go_wp2_with fail
  have HX : Hid (Ext w2 w2.drew) := (Below.refl _ _).drew
  have l3 : Hid ((ctrL (strmF E iv) 0 b).length = m) := by rw [ctrL_len]; exact HM
  have C3 := Lib.hid (fun W hK => Crypt_any (.pointer (some ⟨gk, 0, none⟩)) E iv A m c b W HN.out hK HM.out (by omega))
  generalize ctrL (strmF E iv) 0 (b.take q) = X1 at HC l1 S1
  generalize ctrL (strmF E iv2) 0 (b.drop q) = X2 at HC l2 S2
  generalize ctrL (strmF E iv) 0 b = X3 at HC l3 C3
  have hcat : ((strOf X1 ++ strOf X2).toList == (strOf X3).toList) = true := by rw [k_strOf_append, k_strOf_beq, HC.out]; simp
  have hsz : ¬ (9223372036854775807 < (strOf X1).size + (strOf X2).size) := by rw [k_strOf_size, k_strOf_size, l1.out, l2.out]; omega
  refine reg_start (by kernel_rfl) ?_
  try simp only [Act.put, List.setIfInBounds_toArray, List.set_cons_zero, List.set_cons_succ]
  refine reg_take (v := ?_) 0 (some 49) rfl rfl (by kernel_rfl) (by kernel_rfl) (by kernel_rfl) (fun _ _ _ h => h) (by rfl) (fun W hW => ?_) ?_
  rotate_left
  · (go_simp; try rfl)
  simp only [Act.put, List.setIfInBounds_toArray, List.set_cons_zero, List.set_cons_succ]
  refine reg_conv 1 (some 50) (fun W hW => conv_string W A1 q c1 X1 l1.out (S1.out.extk (HX.out.trans hW))) rfl rfl rfl rfl (by kernel_rfl) (by kernel_rfl) (by kernel_rfl) (fun _ _ _ h => h) (by rfl) ?_
  simp only [Act.put, List.setIfInBounds_toArray, List.set_cons_zero, List.set_cons_succ]
  refine reg_take (v := ?_) 2 (some 51) rfl rfl (by kernel_rfl) (by kernel_rfl) (by kernel_rfl) (fun _ _ _ h => h) (by rfl) (fun W hW => ?_) ?_
  rotate_left
  · (go_simp; try rfl)
  simp only [Act.put, List.setIfInBounds_toArray, List.set_cons_zero, List.set_cons_succ]
  refine reg_conv 3 (some 52) (fun W hW => conv_string W A2 (m - q) c2 X2 l2.out (S2.out.extk (HX.out.trans hW))) rfl rfl rfl rfl (by kernel_rfl) (by kernel_rfl) (by kernel_rfl) (fun _ _ _ h => h) (by rfl) ?_
  simp only [Act.put, List.setIfInBounds_toArray, List.set_cons_zero, List.set_cons_succ]
  refine reg_take (v := ?_) 4 (some 53) rfl rfl (by kernel_rfl) (by kernel_rfl) (by kernel_rfl) (fun _ _ _ h => h) (by rfl) (fun W hW => ?_) ?_
  rotate_left
  · (go_simp; try rfl)
  simp only [Act.put, List.setIfInBounds_toArray, List.set_cons_zero, List.set_cons_succ]
  refine reg_take (v := ?_) 5 (some 54) rfl rfl (by kernel_rfl) (by kernel_rfl) (by kernel_rfl) (fun _ _ _ h => h) (by rfl) (fun W hW => ?_) ?_
  rotate_left
  · (go_simp; try rfl)
  simp only [Act.put, List.setIfInBounds_toArray, List.set_cons_zero, List.set_cons_succ]
  refine reg_take (v := ?_) 6 (some 55) rfl rfl (by kernel_rfl) (by kernel_rfl) (by kernel_rfl) (fun _ _ _ h => h) (by rfl) (fun W hW => ?_) ?_
  rotate_left
  · (go_simp; try rfl)
  simp only [Act.put, List.setIfInBounds_toArray, List.set_cons_zero, List.set_cons_succ]
  refine reg_load 7 (some 56) (fun W hW => run_loadAt_mid W w.heap.size 33 23 (iv.map bv) _ (Z2.out.ext (HX.out.trans hW)).2.2.2 arr16B rfl (i16z iv HN.out)) rfl rfl rfl rfl (by kernel_rfl) (by kernel_rfl) (by kernel_rfl) (fun _ _ _ h => h) (by rfl) ?_
  simp only [Act.put, List.setIfInBounds_toArray, List.set_cons_zero, List.set_cons_succ]
  refine reg_take (v := ?_) 8 (some 57) rfl rfl (by kernel_rfl) (by kernel_rfl) (by kernel_rfl) (fun _ _ _ h => h) (by rfl) (fun W hW => ?_) ?_
  rotate_left
  · (go_simp; try rfl)
  simp only [Act.put, List.setIfInBounds_toArray, List.set_cons_zero, List.set_cons_succ]
  refine reg_eff 9 rfl (by kernel_rfl) (fun K hK => ?_)
  go_simp
  refine (C3.out _ (K2.out.ext HX.out) (H2.out.extk HX.out)).mono ?_
  rintro e w3 ⟨v3, rfl, hO3, hE⟩
  obtain ⟨A3, c3, rfl, hl3, hc3, hm3, hr3⟩ := own_read hO3
  have S3 : Hid (Sl w3 A3 c3 X3) := ⟨by omega, hm3, hr3⟩
  clear hO3 hc3 hm3 hr3 hl3
  refine hK.out _ _ hE ?_
  have HX := Lib.hid (Ext.trans HX.out hE)
  clear hE hK K
  try simp only [Act.put, List.setIfInBounds_toArray, List.set_cons_zero, List.set_cons_succ]
  refine reg_conv 10 (some 59) (fun W hW => conv_string W A3 m c3 X3 l3.out (S3.out.extk hW)) rfl rfl rfl rfl (by kernel_rfl) (by kernel_rfl) (by kernel_rfl) (fun _ _ _ h => h) (by rfl) ?_
  simp only [Act.put, List.setIfInBounds_toArray, List.set_cons_zero, List.set_cons_succ]
  refine reg_take (v := ?_) 11 (some 60) rfl rfl (by kernel_rfl) (by kernel_rfl) (by kernel_rfl) (fun _ _ _ h => h) (by rfl) (fun W hW => ?_) ?_
  rotate_left
  · (go_simp; try rfl)
  simp only [Act.put, List.setIfInBounds_toArray, List.set_cons_zero, List.set_cons_succ]
  refine reg_take (v := ?_) 12 (some 61) rfl rfl (by kernel_rfl) (by kernel_rfl) (by kernel_rfl) (fun _ _ _ h => h) (by rfl) (fun W hW => ?_) ?_
  rotate_left
  · (go_simp; try rfl)
  simp only [Act.put, List.setIfInBounds_toArray, List.set_cons_zero, List.set_cons_succ]
  refine reg_eff 13 rfl (by kernel_rfl) (fun K hK => ?_)
  go_simp
  refine (awake8_any _).mono ?_
  rintro e w4 ⟨rfl, hE⟩
  refine hK.out _ _ hE ?_
  have HX := Lib.hid (Ext.trans HX.out hE)
  clear hE hK K
  try simp only [Act.put, List.setIfInBounds_toArray, List.set_cons_zero, List.set_cons_succ]
  refine reg_take (v := ?_) 14 (some 63) rfl rfl (by kernel_rfl) (by kernel_rfl) (by kernel_rfl) (fun _ _ _ h => h) (by rfl) (fun W hW => ?_) ?_
  rotate_left
  · (go_simp; try rfl)
  simp only [Act.put, List.setIfInBounds_toArray, List.set_cons_zero, List.set_cons_succ]
  refine reg_take (v := ?_) 15 (some 6) rfl rfl (by kernel_rfl) (by kernel_rfl) (by kernel_rfl) (fun _ _ _ h => h) (by rfl) (fun W hW => ?_) ?_
  rotate_left
  · (go_simp; try rfl)
  simp only [Act.put, List.setIfInBounds_toArray, List.set_cons_zero, List.set_cons_succ]
  refine reg_done (by kernel_rfl) ?_
  go_wp2
  go_ret
  exact ⟨rfl, B2.out.step HX.out⟩
end Go.Proofs.Ytbmhmjgomgkamaa
