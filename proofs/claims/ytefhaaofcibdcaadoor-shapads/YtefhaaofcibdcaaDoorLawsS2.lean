/- The walk of the law ShaPads. -/
import Derived.Test.YtefhaaofcibdcaaDoorLawsS1
namespace Go.Proofs.YtefhaaofcibdcaaDoor
open Go.RowKit
set_option linter.unusedVariables false
set_option linter.unusedSimpArgs false
theorem padL_at0 (n : Nat) : (padL n)[0]? = some 128 := rfl
theorem padL_zero (n i : Nat) (h1 : 1 ≤ i) (h2 : i < padK n) : (padL n)[i]? = some 0 := by
  obtain ⟨j, rfl⟩ : ∃ j, i = j + 1 := ⟨i - 1, by omega⟩
  rw [padTail, List.getElem?_cons_succ, List.getElem?_append_left (by simp; omega), List.getElem?_replicate, if_pos (by omega)]
theorem padL_num (n j : Nat) : (padL n)[padK n + j]? = (putBig (8 * n % 18446744073709551616) 8)[j]? := by
  have := padK_pos n
  rw [padTail, show padK n + j = (padK n - 1 + j) + 1 by omega, List.getElem?_cons_succ, List.getElem?_append_right (by simp), List.length_replicate]
  congr 1; omega
theorem bigN_snoc_get (l : List UInt8) (j : Nat) (x : UInt8) (h : l[j]? = some x) : bigN (l.take (j + 1)) = bigN (l.take j) * 256 + x.toNat := by
  rw [List.take_add_one, h]; exact bigN_snoc _ _
set_option maxHeartbeats 2000000 in
theorem shaPads_walk (w : World) (x : Nat) (hx : x < 65536) (far : Int) (wf : (Lit.int .i64 far).wf = true) (hR : Rnd w) :
    Calls Tryd.prog 5 #[.int .u16 (x : Int), .int .i64 far] w fun e w' => e = .returned (.bool true) ∧ Below w.heap.size w w' := by
  obtain ⟨k, hk⟩ : ∃ k, k = x % 3000 := ⟨_, rfl⟩
  have hk3 : k < 3000 := by omega
  have u1 : (x : Int) % 3000 = (k : Int) := by omega
  have hbf := bounds_i64 wf
  have hmk := make_run (P := Tryd.prog) uT made8 rfl .i64 .i64 k (by omega) (by omega) w
  have HR := Lib.hid hR
  clear hk hR wf
  go_enter Tryd.func5, Tryd.ntmps5
  go_wp2_with fail
  generalize hV : w.alloc _ = W0
  have F0 : Hid (Sl W0 (some ⟨w.heap.size, 0, none⟩) k (List.replicate k 0)) := by
    have := heap_of_alloc hV
    exact sl_row (t := 5) (fr := (0, 0)) (by simp) (by omega) (by rw [this]; simp [bv])
  have FB := Lib.hid (below_of_alloc hV (Nat.le_refl w.heap.size))
  clear hV hmk
  refine (refPadded_any (some ⟨w.heap.size, 0, none⟩) k k (List.replicate k 0) W0 (by simp) (by omega) F0.out).mono ?_
  rintro e w1 ⟨v1, rfl, hO1, hB1⟩
  obtain ⟨A1, c1, rfl, hl1, h11, h12, hr1⟩ := own_read hO1
  have HB1 := Lib.hid (FB.out.step hB1)
  obtain ⟨K, hK⟩ : ∃ K, K = padK k + 8 := ⟨_, rfl⟩
  have hpk := padK_pos k
  rw [← hK] at hl1 h11 ⊢
  have HSL : Hid (Sl w1 (cutS A1 c1 k) (c1 - k) (padL k)) := by
    have h1 := sl_cut (sl_mk hl1 h11 h12 hr1) (k := k) (by omega)
    rw [List.drop_left' (by simp)] at h1
    exact h1
  have hPL : Hid ((padL k).length = K) := by show _ = _; rw [hK]; exact padL_len k
  have HPA := Lib.hid (fun W => pad_any k W (by omega))
  obtain ⟨N, hN⟩ : ∃ N, N = k + K := ⟨_, rfl⟩
  rw [← hN]
  have sl := cut_from uT s8 A1 N c1 .i64 (k : Int) (by omega) (by omega)
  rw [Int.toNat_natCast, show N - k = K by omega] at sl
  have HK := Lib.hid hK
  have HN := Lib.hid hN
  rw [← hK] at HPA
  clear hO1 hl1 h11 h12 hr1 hB1 F0 FB hK hpk hN
  generalize padL k = PL at HSL hPL HPA
  have HCV := Lib.hid (fun W A c hW => conv_string W A K c PL hPL.out hW)
  generalize strOf PL = s at HCV
  have HX : Hid (Ext w1 w1.drew) := (Below.refl _ _).drew
  go_wp2_with fail
  refine reg_start (by kernel_rfl) ?_
  try simp only [Act.put, List.setIfInBounds_toArray, List.set_cons_zero, List.set_cons_succ]
  refine reg_take (v := ?_) 0 (some 17) rfl rfl (by kernel_rfl) (by kernel_rfl) (by kernel_rfl) (fun _ _ _ h => h) (by rfl) (fun W hW => ?_) ?_
  rotate_left
  · (go_simp; try rfl)
  simp only [Act.put, List.setIfInBounds_toArray, List.set_cons_zero, List.set_cons_succ]
  refine reg_take (v := ?_) 3 (some 20) rfl rfl (by kernel_rfl) (by kernel_rfl) (by kernel_rfl) (fun _ _ _ h => h) (by rfl) (fun W hW => ?_) ?_
  rotate_left
  · (go_simp; try rfl)
  simp only [Act.put, List.setIfInBounds_toArray, List.set_cons_zero, List.set_cons_succ]
  refine reg_take (v := ?_) 4 (some 21) rfl rfl (by kernel_rfl) (by kernel_rfl) (by kernel_rfl) (fun _ _ _ h => h) (by rfl) (fun W hW => ?_) ?_
  rotate_left
  · (go_simp; try rfl)
  simp only [Act.put, List.setIfInBounds_toArray, List.set_cons_zero, List.set_cons_succ]
  refine reg_take (v := ?_) 5 (some 22) rfl rfl (by kernel_rfl) (by kernel_rfl) (by kernel_rfl) (fun _ _ _ h => h) (by rfl) (fun W hW => ?_) ?_
  rotate_left
  · (go_simp; try rfl)
  simp only [Act.put, List.setIfInBounds_toArray, List.set_cons_zero, List.set_cons_succ]
  refine reg_conv 6 (some 23) (fun W hW => HCV.out W _ _ (HSL.out.below (Ext.trans HX.out hW))) rfl rfl rfl rfl (by kernel_rfl) (by kernel_rfl) (by kernel_rfl) (fun _ _ _ h => h) (by rfl) ?_
  simp only [Act.put, List.setIfInBounds_toArray, List.set_cons_zero, List.set_cons_succ]
  refine reg_eff 1 rfl (by kernel_rfl) (fun K hK => ?_)
  go_simp
  refine (HPA.out _).mono ?_
  rintro e w2 ⟨v2, rfl, hO2, hE⟩
  obtain ⟨A2, c2, rfl, hl2, h21, h22, hr2⟩ := own_read hO2
  have HS2 := Lib.hid (sl_mk hl2 h21 h22 hr2)
  clear hO2 hl2 h21 h22 hr2
  refine hK.out _ _ hE ?_
  have HX := Lib.hid (Ext.trans HX.out hE)
  clear hE hK K
  try simp only [Act.put, List.setIfInBounds_toArray, List.set_cons_zero, List.set_cons_succ]
  refine reg_conv 2 (some 19) (fun W hW => HCV.out W A2 c2 (HS2.out.below hW)) rfl rfl rfl rfl (by kernel_rfl) (by kernel_rfl) (by kernel_rfl) (fun _ _ _ h => h) (by rfl) ?_
  simp only [Act.put, List.setIfInBounds_toArray, List.set_cons_zero, List.set_cons_succ]
  refine reg_take (v := ?_) 7 (some 24) rfl rfl (by kernel_rfl) (by kernel_rfl) (by kernel_rfl) (fun _ _ _ h => h) (by rfl) (fun W hW => ?_) ?_
  rotate_left
  · (go_simp; try rfl)
  simp only [Act.put, List.setIfInBounds_toArray, List.set_cons_zero, List.set_cons_succ]
  refine reg_done (by kernel_rfl) ?_
  have HB2 := Lib.hid (HB1.out.step HX.out)
  have HR2 : Hid (Rnd w2) := HR.out.ext HB2.out
  clear HB1 HX HS2 HSL HCV HPA sl hPL
  by_cases hneg : far < 0
  · go_wp2_with fail
    refine (pad_neg far w2 hneg).mono ?_
    rintro e w3 ⟨rfl, rfl⟩
    go_wp2_with fail
    refine (awake2_any w2 HR2.out).mono ?_
    rintro e w4 ⟨rfl, hB4⟩
    have HB4 := Lib.hid (HB2.out.step hB4)
    clear hB4
    go_wp2
    go_ret
    exact ⟨rfl, HB4.out⟩
  obtain ⟨f, rfl⟩ : ∃ f : Nat, far = (f : Int) := ⟨far.toNat, by omega⟩
  have hf63 : f ≤ 9223372036854775807 := by omega
  clear hbf hneg
  go_wp2_with fail
  refine (pad_any f w2 hf63).mono ?_
  rintro e w3 ⟨v3, rfl, hO3, hB3⟩
  obtain ⟨A3, c3, rfl, hl3, h31, h32, hr3⟩ := own_read hO3
  have HB3 := Lib.hid (HB2.out.step hB3)
  have HR3 : Hid (Rnd w3) := HR.out.ext HB3.out
  have hpk := padK_pos f
  have hmod := padN_mod f
  obtain ⟨P, hP⟩ : ∃ P, P = padK f := ⟨_, rfl⟩
  obtain ⟨L, hL⟩ : ∃ L, L = padK f + 8 := ⟨_, rfl⟩
  rw [← hL] at hl3 h31 hmod ⊢
  obtain ⟨b, o, rfl, _, hc⟩ := hr3.at_ (by rw [List.length_map]; omega)
  have HC := Lib.hid hc
  have c0 : w3.cell? ⟨b, o, none⟩ = some (.int .u8 128) := hc 0 _ (by rw [List.getElem?_map, padL_at0]; rfl)
  obtain ⟨X, hX⟩ : ∃ X, X = 8 * f % 18446744073709551616 := ⟨_, rfl⟩
  have HX : Hid (X = 8 * f % 18446744073709551616) := hX
  have t1 : ¬ ((L : Int) < 9) := by omega
  have t2 : ¬ ((72 : Int) < (L : Int)) := by omega
  have t3 : (f : Int) % 18446744073709551616 = (f : Int) := by omega
  have t4 : (L : Int) % 18446744073709551616 = (L : Int) := by omega
  have t5 : ((f : Int) + (L : Int)) % 64 = 0 := by omega
  have t6 : ((f : Int) + (L : Int)) % 18446744073709551616 = (f : Int) + (L : Int) := by omega
  have t7 : (L : Int) - 8 = (P : Int) := by omega
  have t8 : 8 * (f : Int) % 18446744073709551616 = (X : Int) := by omega
  have t9 : (0 : Int) < (L : Int) := by omega
  have hPL : P + 8 = L := by omega
  have HP := Lib.hid hP; have HL := Lib.hid hL; have HPK := Lib.hid hpk; have HP8 := Lib.hid hPL
  have hXP := Lib.hid (putBig_len X 8)
  have hXB : Hid (bigN (putBig X 8) = X) := by show _ = _; rw [bigN_put, Nat.mod_eq_of_lt (by omega)]
  have hb1 : P ≤ 64 := by omega
  clear hO3 hl3 h31 h32 hr3 hB3 hc hP hL hpk hX hmod hPL
  go_wp2_with fail
  clear t1 t2 t5 t6 t9 c0 t7
  go_loop [8, 9] (fun vm vi => ∃ (j q M : Nat), j ≤ 8 ∧ q ≤ L ∧ vi = .int .i64 (q : Int) ∧ vm = .int .u64 (M : Int) ∧ Hid (q = P + j) ∧ Hid (M = bigN ((putBig X 8).take j))) (fun _ i => L - (intOf i).toNat)
  case atStart => exact ⟨0, P, 0, by omega, (by have := HP8.out; omega), rfl, rfl, rfl, rfl⟩
  case round =>
    obtain ⟨j, q, M, hj, hq, rfl, rfl, HQ, HM⟩ := hrel
    by_cases hlt : j < 8
    · obtain ⟨y, hy⟩ : ∃ y, (putBig X 8)[j]? = some y := ⟨_, List.getElem?_eq_getElem (by rw [hXP.out]; exact hlt)⟩
      have c1 : w3.cell? ⟨b, o + q, none⟩ = some (.int .u8 (y.toNat : Int)) := by
        have h1 := HC.out q (bv y)
        apply h1
        rw [HQ.out, HP.out, List.getElem?_map, padL_num, ← HX.out, hy]; rfl
      have hM7 : M < 72057594037927936 := by rw [HM.out]; exact bigN_lt7 _ (by rw [List.length_take]; omega)
      have HS := Lib.hid (bigN_snoc_get _ _ _ hy)
      have hy8 : y.toNat < 256 := y.toNat_lt
      have q1 : (q : Int) < (L : Int) := by have := HQ.out; have := HP8.out; omega
      clear hy
      go_wp2
      go_round
      case rel =>
        refine ⟨j + 1, q + 1, M * 256 + y.toNat, by omega, ?_, by go_num, ?_, ?_, ?_⟩
        · omega
        · congr 1; omega
        · have := HQ.out; show _ = _; omega
        · show _ = _; rw [HS.out, ← HM.out]
      case measure => simp [intOf]; omega
    · have q1 : ¬ ((q : Int) < (L : Int)) := by have := HQ.out; have := HP8.out; omega
      have hMX : M = X := by rw [HM.out, List.take_of_length_le (by rw [hXP.out]; omega), hXB.out]
      subst hMX
      clear HM
      have L8 : (L : Int) - 8 = (P : Int) := by have := HP8.out; omega
      go_wp2_with fail
      go_loop [10] (fun vi => ∃ (i : Nat), 1 ≤ i ∧ i ≤ P ∧ vi = .int .i64 (i : Int)) (fun i => P - (intOf i).toNat)
      case atStart => exact ⟨1, by omega, (by have := HPK.out; have := HP.out; omega), rfl⟩
      case round =>
        obtain ⟨i, hi1, hi2, rfl⟩ := hrel
        by_cases hli : i < P
        · have c1 : w3.cell? ⟨b, o + i, none⟩ = some (.int .u8 0) := by
            have h1 := HC.out i (bv 0)
            apply h1
            rw [List.getElem?_map, padL_zero f i hi1 (by rw [← HP.out]; exact hli)]; rfl
          have q2 : (i : Int) < (P : Int) := by omega
          have q3 : (i : Int) < (L : Int) := by omega
          go_wp2
          go_round
          case rel => exact ⟨i + 1, by omega, by omega, by go_num⟩
          case measure => simp [intOf]; omega
        · have q2 : ¬ ((i : Int) < (P : Int)) := by omega
          have t10 : IntKind.u64.wrap (8 * (f : Int)) = (M : Int) := by rw [IntKind.wrap_u64]; exact t8
          go_wp2_with fail
          refine (awake2_any w3 HR3.out).mono ?_
          rintro e w4 ⟨rfl, hB4⟩
          have HB4 := Lib.hid (HB3.out.step hB4)
          clear hB4
          go_wp2
          go_ret
          exact ⟨rfl, HB4.out⟩
end Go.Proofs.YtefhaaofcibdcaaDoor
