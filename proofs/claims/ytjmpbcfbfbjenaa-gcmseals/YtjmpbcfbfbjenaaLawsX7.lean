/- Laws of layer 10: any bytes, sealed, and the first counter, are what the document tells. -/
import Derived.Test.YtjmpbcfbfbjenaaJoin4
namespace Go.Proofs.Ytjmpbcfbfbjenaa
open Go.RowKit
set_option maxRecDepth 100000
set_option linter.unusedVariables false
set_option linter.unusedSimpArgs false
/-- what gcm.Seal comes to, of any iv -/
def AnyS (w0 : World) (E : List UInt8 → List UInt8) (iv a b : List UInt8) (ki m : Nat) (v : Value) (y : Int) (w' : World) : Prop :=
  (ki = 0 → v = .slice none 0 0 ∧ y = 6) ∧ (¬ ki = 0 → y = 0 ∧ w'.ownsRow w0.heap.size 5 1 v (m + 16) ((sealG E (firstG E iv) a b).map bv))
set_option maxHeartbeats 1000000 in
theorem gseal_all (p : Nat) (E : List UInt8 → List UInt8) (iv aad x : List UInt8) (A2 A3 A4 : Option Addr) (k2 c2 k3 c3 k4 c4 : Nat) (w : World) (hE : GKey w (.pointer (some ⟨p, 0, none⟩)) E) (h2 : iv.length = k2) (h21 : k2 ≤ 1000) (h3 : aad.length = k3) (h4 : x.length = k4) (h31 : k3 ≤ 1000) (h41 : k4 ≤ 1000)
    (S2 : Sl w A2 c2 iv) (S3 : Sl w A3 c3 aad) (S4 : Sl w A4 c4 x) :
    Calls Try.prog 22 #[.pointer (some ⟨p, 0, none⟩), .slice A2 k2 c2, .slice A3 k3 c3, .slice A4 k4 c4] w fun e w' =>
      ∃ v y, e = .returned (.tuple #[v, .int .i64 y]) ∧ AnyS w E iv aad x k2 k4 v y w' ∧ Below w.heap.size w w' := by
  by_cases h0 : k2 = 0
  · subst h0
    refine (gseal_bad (.pointer (some ⟨p, 0, none⟩)) A2 A3 A4 0 c2 k3 c3 k4 c4 6 w ⟨_, rfl⟩ (badG_iv hE A2 c2)).mono ?_
    rintro e w' ⟨rfl, hb⟩
    exact ⟨_, _, rfl, ⟨fun _ => ⟨rfl, rfl⟩, fun h => absurd rfl h⟩, hb⟩
  · refine (gseal_any p E iv aad x A2 A3 A4 k2 c2 k3 c3 k4 c4 w hE h2 (by omega) h21 h3 h4 h31 h41 S2 S3 S4).mono ?_
    rintro e w' ⟨v, rfl, hO, hb⟩
    exact ⟨_, _, rfl, ⟨fun h => absurd h h0, fun _ => ⟨rfl, hO⟩⟩, hb⟩
set_option maxHeartbeats 8000000 in
theorem gcmSeals_walk (w : World) (y : KeyX) (l : y.ok w) (A : Option Addr) (c : Nat) (b : List UInt8) (h : Sl w A c b) :
    Calls Try.prog 6 #[.agg y.cells.toArray, .slice A b.length c] w fun e w' => e = .returned (.bool true) ∧ Below w.heap.size w w' := by
  obtain ⟨lk, l2, l3⟩ := l
  have q1 : b.length ≤ 9223372036854775807 := by have := h.1; have := h.2.1; simp [maxLen] at this; omega
  have H := Lib.hid h; have HY2 := Lib.hid l2; have HY3 := Lib.hid l3
  obtain ⟨m, hm⟩ : ∃ m, b.length = m := ⟨_, rfl⟩
  have HM := Lib.hid hm
  rw [hm] at q1 ⊢
  have N0 := Lib.hid (heap_alloc_new' w (.cells y.cells.toArray 44))
  have B0 : Hid (Below w.heap.size w (w.alloc (.cells y.cells.toArray 44))) := (Below.refl _ _).alloc (Nat.le_refl _) _
  have HLD := Lib.hid (fun (W : World) (g : Nat) (hh : W.heap[g]? = some (.cells y.cells.toArray 44 (0, 0))) => ld_keyX hh lk)
  have HC := Lib.hid (fun (W : World) (g : Nat) (hh : W.heap[g]? = some (.cells y.cells.toArray 44 (0, 0))) => keyX_cells hh lk)
  have HS := Lib.hid (fun W => xshort_any y W lk)
  have HKS := Lib.hid (fun W => xkeys_any y W lk)
  have HKB := Lib.hid (fun W => xbytes_any y W lk)
  have HKL := Lib.hid (keyBX_len y.k y.lg lk)
  clear h l2 l3 hm lk
  obtain ⟨Z, HZ⟩ : ∃ Z, Hid (y.cells.toArray = Z) := ⟨_, rfl⟩
  rw [HZ.out] at N0 B0 HLD HC HS HKS HKB ⊢
  clear HZ
  have HSB : Hid (shortX y = true → y.iv.length ≤ 100 ∧ y.a.length ≤ 100) := fun h => by unfold shortX at h; simpa using h
  generalize shortX y = sb at HS HSB
  obtain ⟨k, lg, A2, c2, iv, A3, c3, a⟩ := y
  simp only at HC HKS HSB HY2 HY3 HKB HKL
  obtain ⟨ki, hki⟩ : ∃ ki, iv.length = ki := ⟨_, rfl⟩
  obtain ⟨ka, hka⟩ : ∃ ka, a.length = ka := ⟨_, rfl⟩
  rw [hki, hka] at HC HSB
  have HKI := Lib.hid hki; have HKA := Lib.hid hka
  clear hki hka
  by_cases hb : 100 < m
  · have e1 : (100 : Int) < (m : Int) := by omega
    go_enter Try.func6, Try.ntmps6
    go_wp2
    go_ret
    exact ⟨rfl, B0.out⟩
  have e1 : ¬ ((100 : Int) < (m : Int)) := by omega
  have hb2 : m ≤ 100 := by omega
  clear hb
  go_enter Try.func6, Try.ntmps6
  go_upto_region 1 with (fail)
  generalize w.alloc _ = W0 at N0 B0 ⊢
  go_wp2_with (first
    | (refine wpList_ld rfl 44 (.tmp 2) rfl (HLD.out _ _ N0.out) ?_)
    | fail)
  refine (HS.out W0).mono ?_
  rintro e w1 ⟨rfl, hb1⟩
  have B1 : Hid (Below w.heap.size w w1) := B0.out.step hb1
  have N1 := Lib.hid ((hb1.block _ (lt_of_heap N0.out)).trans N0.out)
  clear hb1 B0 N0 HS
  cases sb with
  | false =>
    go_wp2_with fail
    go_ret
    exact ⟨rfl, B1.out⟩
  | true =>
  have HIA := Lib.hid (HSB.out rfl)
  clear HSB
  go_wp2_with (first
    | (refine wpList_ld rfl 44 (.tmp 2) rfl (HLD.out _ _ N1.out) ?_)
    | fail)
  refine (HKS.out w1).mono ?_
  rintro e w2 ⟨p, E, rfl, hE0, hG, hb1⟩
  have K2 := Lib.hid hG
  have B2 : Hid (Below w.heap.size w w2) := B1.out.step hb1
  have N2 := Lib.hid ((hb1.block _ (lt_of_heap N1.out)).trans N1.out)
  have CC := Lib.hid (fun W hE S2 S3 S4 => gseal_all p E iv a b A2 A3 A ki c2 ka c3 m c W hE HKI.out (by have := HIA.out.1; omega) HKA.out HM.out (by have := HIA.out.2; omega) (by omega) S2 S3 S4)
  have CN := Lib.hid (fun W => gseal_bad (.pointer none) A2 A3 A ki c2 ka c3 m c 5 W ⟨_, rfl⟩ (badG_nil W A2 ki c2))
  have RO : Hid (∀ A1 c1 W, Sl W A1 c1 (keyBX k lg) → Sl W A2 c2 iv → Sl W A3 c3 a → Sl W A c b → Calls Try.prog 29 #[.slice A1 (4 * keyWX lg) c1, .slice A2 ki c2, .slice A3 ka c3, .slice A m c] W fun e w' => ∃ v, e = .returned v ∧ w'.ownsRow W.heap.size 5 1 v (m + 16) ((sealG E (firstG E iv) a b).map bv) ∧ Below W.heap.size W w') := fun A1 c1 W s1 s2 s3 s4 => by
    rw [hE0]
    exact refSealX_any (keyBX k lg) (keyWX lg) A1 _ c1 iv a b A2 ki c2 A3 ka c3 A m c W (keyWX_cases lg) HKL.out rfl HKI.out HKA.out HM.out (by have := HIA.out.1; omega) (by have := HIA.out.2; omega) (by omega) s1 s2 s3 s4
  have HRT := Lib.hid (fun W => refTable_any W)
  have HRK : Hid (∀ A1 c1 W, Sl W A1 c1 (keyBX k lg) → Calls Try.prog 27 #[.agg (sboxL.map bv).toArray, .slice A1 (4 * keyWX lg) c1] W fun e w' => ∃ A' c', e = .returned (.slice A' (keyWX lg + 7) c') ∧ KeysAt w' A' (keyWX lg + 7) (rkB (expandL (keyBX k lg))) ∧ Below W.heap.size W w') := fun A1 c1 W s1 => refKeys_row A1 _ c1 (keyWX lg) (keyBX k lg) W HKL.out rfl (keyWX_cases lg) s1
  have HFI : Hid (∀ A1 c1 W, KeysAt W A1 (keyWX lg + 7) (rkB (expandL (keyBX k lg))) → Sl W A2 c2 iv → Calls Try.prog 26 #[.agg (sboxL.map bv).toArray, .slice A1 (keyWX lg + 7) c1, .slice A2 ki c2] W fun e w' => e = .returned (.agg ((firstG E iv).map bv).toArray) ∧ Below W.heap.size W w') := fun A1 c1 W hA hS => by
    rw [hE0]
    exact refFirst_any (keyBX k lg) (keyWX lg) A1 c1 iv A2 ki c2 W (keyWX_cases lg) HKL.out HKI.out (by have := HIA.out.1; omega) hA hS
  have GF := Lib.hid (fun W hE (h0 : 0 < ki) hS => gfirst_any (.pointer (some ⟨p, 0, none⟩)) E A2 ki c2 iv W hE HKI.out h0 (by have := HIA.out.1; omega) hS)
  have GB := Lib.hid (fun W (hE : GKey W (.pointer (some ⟨p, 0, none⟩)) E) (h0 : ki = 0) => gfirst_bad (.pointer (some ⟨p, 0, none⟩)) A2 0 c2 6 W ⟨_, rfl⟩ (badG_iv hE A2 c2))
  have HFL := firstG_len E iv
  have HTL : Hid ((sboxL.map bv).length = 256) := by show _ = _; rw [List.length_map, sboxL_len]
  have HI : Hid ((Try.prog.info? 48).map (·.size) = some (sboxL.map bv).length) := by show _ = _; rw [HTL.out]; exact i256B
  have hone : Hid (∀ v ∈ sboxL.map bv, v.oneCell' = true) := bv_one _
  have hz := zero256B
  have HZL := Lib.hid zeros256_len
  have hz16 : ∀ W, (zeroValue 23).run Try.prog W = .ok (.agg zeros16.toArray) W := fun W => by kernel_rfl
  have HB0 : Hid (∀ W, (Instr.build 23 #[]).run Try.prog W = .ok (.agg ((List.replicate 16 (0 : UInt8)).map bv).toArray) W) := fun W => by kernel_rfl
  have HZ16 := Lib.hid zeros16_len
  have qz := eql_bytes (P := Try.prog) arr16B Try.underlying5 s8 (List.replicate 16 0) (List.replicate 16 0) rfl rfl
  rw [show decide ((List.replicate 16 0 : List UInt8) = List.replicate 16 0) = true from by simp] at qz
  have qf := eql_bytes (P := Try.prog) arr16B Try.underlying5 s8 (firstG E iv) (firstG E iv) HFL HFL
  rw [show decide (firstG E iv = firstG E iv) = true from by simp] at qf
  have HFL := Lib.hid HFL
  unfold AnyS at CC
  generalize sealG E (firstG E iv) a b = X at CC RO
  generalize firstG E iv = F at HFI GF qf HFL
  have hiF := Lib.hid (r_i16 F HFL.out)
  clear hE0 hG hb1 B1 N1 HKS HKL
  generalize rkB (expandL (keyBX k lg)) = RK at HRK HFI
  generalize keyBX k lg = KB at HKB RO HRK
  generalize 4 * keyWX lg = n4 at HKB RO HRK
  generalize keyWX lg + 7 = r7 at HRK HFI
  generalize zeros256 = Z2 at hz HZL
  generalize zeros16 = Z16 at hz16 HZ16
  generalize (List.replicate 16 (0 : UInt8)).map bv = ZC at HB0 qz GB
  generalize sboxL.map bv = TB at HRT HRK HFI HTL HI hone
  have H2 := Lib.hid (H.out.below B2.out)
  have S22 := Lib.hid (HY2.out.below B2.out)
  have S23 := Lib.hid (HY3.out.below B2.out)
  obtain ⟨d0, d1, d2⟩ := HC.out _ _ N2.out
  have qz' := Lib.hid qz; have qf' := Lib.hid qf
  clear qz qf
  go_wp2_with fail
  clear d0 d1 d2
  refine (CC.out w2 K2.out S22.out S23.out H2.out).mono ?_
  rintro e w3 ⟨v3, y3, rfl, hO3, hb3⟩
  have OC := Lib.hid hO3
  have K3 := Lib.hid (K2.out.ext hb3)
  have B3 := Lib.hid (B2.out.step hb3)
  have N3 := Lib.hid ((hb3.block _ (lt_of_heap N2.out)).trans N2.out)
  clear hO3 hb3 K2 N2 B2 H2 S22 S23 CC
  obtain ⟨d0, d1, d2⟩ := HC.out _ _ N3.out
  go_wp2_with fail
  clear d0 d1 d2
  refine (CN.out w3).mono ?_
  rintro e w4 ⟨rfl, hb4⟩
  have K4 := Lib.hid (K3.out.ext hb4)
  have B4 := Lib.hid (B3.out.step hb4)
  have N4 := Lib.hid ((hb4.block _ (lt_of_heap N3.out)).trans N3.out)
  have X34 := Lib.hid hb4
  clear hb4 K3 N3 B3 CN
  obtain ⟨d0, d1, d2⟩ := HC.out _ _ N4.out
  by_cases hi0 : ki = 0
  case pos =>
    have e2 : ((ki : Int) == 0) = true := by simp [hi0]
    obtain ⟨rfl, rfl⟩ := OC.out.1 hi0
    subst hi0
    clear OC
    have qz := qz'.out
    go_wp2_with fail
    clear d0 d1 d2
    refine (GB.out w4 K4.out (by trivial)).mono ?_
    rintro e w5 ⟨rfl, hb5⟩
    have B5 := Lib.hid (B4.out.step hb5)
    clear hb5
    go_wp2_with (first
      | (refine wpList_run (o := ⟨some 67, .build _ _, _, _, _, _⟩) rfl (exec_build rfl (by simp only [List.map_toArray, List.map_nil]; exact HB0.out _)) ?_)
      | fail)
    refine (awake10_any w5).mono ?_
    rintro e w6 ⟨rfl, hb6⟩
    have B6 := Lib.hid (B5.out.step hb6)
    clear qz
    go_wp2
    go_ret
    exact ⟨rfl, B6.out⟩
  have e2 : ((ki : Int) == 0) = false := by simp; omega
  have GF := Lib.hid (fun W hE hS => GF.out W hE (by omega) hS)
  obtain ⟨rfl, hown⟩ := OC.out.2 hi0
  obtain ⟨A3', c3', rfl, hl3, hc3, hm3, hr3⟩ := own_read hown
  have S3 : Hid (Sl w3 A3' c3' X) := ⟨by omega, hm3, hr3⟩
  have HXL := Lib.hid hl3
  clear OC hi0 hown hl3 hc3 hm3 hr3 GB
  obtain ⟨p16, hp16⟩ : ∃ p16, p16 = m + 16 := ⟨_, rfl⟩
  rw [← hp16] at HXL RO ⊢
  clear hp16
  go_wp2_with fail
  clear d0 d1 d2
  refine (HRT.out w4).mono ?_
  rintro e w5 ⟨rfl, hb5⟩
  have K5 := Lib.hid (K4.out.ext hb5)
  have B5 := Lib.hid (B4.out.step hb5)
  have N5 := Lib.hid ((hb5.block _ (lt_of_heap N4.out)).trans N4.out)
  have S35 := Lib.hid ((S3.out.below X34.out).below hb5)
  clear hb5 K4 B4 N4 S3 X34
  go_upto_region 11 with (first
    | (refine wpList_st rfl 48 (.tmp 11) (.tmp 73) rfl (store_arr (cs := TB) (old := Z2) HI.out hone.out (heap_alloc_new' w5 _) (by rw [HZL.out, HTL.out])) ?_
       generalize hV : World.setRow _ _ _ = W6
       have M6 := Lib.hid (heap_of_setRow hV (heap_alloc_new' w5 _))
       have X6 : Hid (Ext w5 W6) := ((Below.refl w5.heap.size w5).alloc (Nat.le_refl _) _).trans (below_of_setRow hV (Nat.le_refl w5.heap.size) (by simp))
       clear hV)
    | fail)
  have K6 := Lib.hid (K5.out.ext X6.out)
  have B6 := Lib.hid (B5.out.step X6.out)
  have N6 := Lib.hid ((X6.out.block _ (lt_of_heap N5.out)).trans N5.out)
  have S36 := Lib.hid (S35.out.below X6.out)
  obtain ⟨g11, hg11⟩ : ∃ g, w5.heap.size = g := ⟨_, rfl⟩
  rw [hg11] at M6 ⊢
  clear hg11 X6 K5 B5 N5 S35
  try simp only [Act.put, List.setIfInBounds_toArray, List.set_cons_zero, List.set_cons_succ]
  go_cut [12] from 74 to 81 (fun v12 wx => ∃ g12 : Nat, v12 = .pointer (some ⟨g12, 0, none⟩) ∧ Hid (wx.heap[g12]? = some (.cells (F.map bv).toArray 23 (0, 0))) ∧ Hid (Below W6.heap.size W6 wx))
  case first =>
    have HX : Hid (Below W6.heap.size W6 W6.drew) := (Below.refl _ _).drew
    have TN : Hid True := trivial
    refine regB_start (W6.heap.size) (by kernel_rfl) ?_
    try simp only [Act.put, List.setIfInBounds_toArray, List.set_cons_zero, List.set_cons_succ]
    refine regB_load 0 (some 74) (fun W hW => load_arr arr256B rfl HI.out (((HX.out.trans hW).block _ (lt_of_heap M6.out)).trans M6.out)) rfl rfl rfl rfl (by kernel_rfl) (by kernel_rfl) (by kernel_rfl) (fun _ _ _ h => h) (by rfl) ?_
    simp only [Act.put, List.setIfInBounds_toArray, List.set_cons_zero, List.set_cons_succ]
    refine regB_load 1 (some 75) (fun W hW => load_arr arr256B rfl HI.out (((HX.out.trans hW).block _ (lt_of_heap M6.out)).trans M6.out)) rfl rfl rfl rfl (by kernel_rfl) (by kernel_rfl) (by kernel_rfl) (fun _ _ _ h => h) (by rfl) ?_
    simp only [Act.put, List.setIfInBounds_toArray, List.set_cons_zero, List.set_cons_succ]
    refine regB_load 2 (some 76) (fun W hW => HLD.out _ _ (((HX.out.trans hW).block _ (lt_of_heap N6.out)).trans N6.out)) rfl rfl rfl rfl (by kernel_rfl) (by kernel_rfl) (by kernel_rfl) (fun _ _ _ h => h) (by rfl) ?_
    simp only [Act.put, List.setIfInBounds_toArray, List.set_cons_zero, List.set_cons_succ]
    refine regB_take (v := ?_) 5 (some 79) rfl rfl (by kernel_rfl) (by kernel_rfl) (by kernel_rfl) (fun _ _ _ h => h) (by rfl) (fun W hW => ?_) ?_
    rotate_left
    · (go_simp; try rfl)
    simp only [Act.put, List.setIfInBounds_toArray, List.set_cons_zero, List.set_cons_succ]
    refine regB_load 6 (some 80) (fun W hW => o_load_slice uT (HC.out _ _ (((HX.out.trans hW).block _ (lt_of_heap N6.out)).trans N6.out)).2.1) rfl rfl rfl rfl (by kernel_rfl) (by kernel_rfl) (by kernel_rfl) (fun _ _ _ h => h) (by rfl) ?_
    simp only [Act.put, List.setIfInBounds_toArray, List.set_cons_zero, List.set_cons_succ]
    refine regB_eff2 3 8 rfl rfl (by kernel_rfl) (fun K hK => ?_) (fun K hK => ?_)
    · skip
      go_simp
      refine (HKB.out _).mono ?_
      rintro e w7 ⟨rfl, hS7, hb⟩
      have S7 := Lib.hid hS7
      try have A13 := Lib.hid ((hb.block _ (lt_of_heap A13.out)).trans A13.out)
      have hE := hb.mono HX.out.size
      have hZ3 := TN
      clear hS7 hb
      refine hK.out _ _ hE ?_
      have HX := Lib.hid (Below.trans HX.out hE)
      clear hE hK K
      try simp only [Act.put, List.setIfInBounds_toArray, List.set_cons_zero, List.set_cons_succ]
      refine regB_eff2 4 8 rfl rfl (by kernel_rfl) (fun K hK => ?_) (fun K hK => ?_)
      · skip
        go_simp
        refine (HRK.out _ _ _ S7.out).mono ?_
        rintro e w8 ⟨A8, c8, rfl, hK8, hb⟩
        have KA := Lib.hid hK8
        try have A13 := Lib.hid ((hb.block _ (lt_of_heap A13.out)).trans A13.out)
        have hE := hb.mono HX.out.size
        clear hK8 hb
        refine hK.out _ _ hE ?_
        have HX := Lib.hid (Below.trans HX.out hE)
        clear hE hK K
        try simp only [Act.put, List.setIfInBounds_toArray, List.set_cons_zero, List.set_cons_succ]
        refine regB_eff2 7 8 rfl rfl (by kernel_rfl) (fun K hK => ?_) (fun K hK => ?_)
        · skip
          go_simp
          refine (HFI.out A8 c8 _ KA.out (HY2.out.below (B6.out.step HX.out))).mono ?_
          rintro e w9 ⟨rfl, hb⟩
          try have A13 := Lib.hid ((hb.block _ (lt_of_heap A13.out)).trans A13.out)
          have hE := hb.mono HX.out.size
          clear hb
          refine hK.out _ _ hE ?_
          have HX := Lib.hid (Below.trans HX.out hE)
          clear hE hK K
          try simp only [Act.put, List.setIfInBounds_toArray, List.set_cons_zero, List.set_cons_succ]
          refine regB_eff 8 rfl (by kernel_rfl) (fun K hK => ?_)
          go_simp
          first | (have hZ3z := hZ3; generalize hV : World.alloc _ _ = WA; clear hZ3z) | (generalize hV0 : World.drew (World.alloc W6 _) = WA; have hV : W6.drew.alloc (.cells Z16.toArray 23) = WA := hV0; clear hV0)
          have A13 := Lib.hid (heap_of_alloc hV)
          have hb := below_of_alloc hV (Nat.le_refl _)
          try have S7 := Lib.hid (S7.out.below hb)
          try have KA := Lib.hid (KA.out.below hb)
          have hE := hb.mono HX.out.size
          have HGL := HX
          clear hV hb
          refine hK.out _ _ hE ?_
          have HX := Lib.hid (Below.trans HX.out hE)
          clear hE hK K
          try simp only [Act.put, List.setIfInBounds_toArray, List.set_cons_zero, List.set_cons_succ]
          refine regB_eff 9 rfl (by kernel_rfl) (fun K hK => ?_)
          refine step_st1 rfl 23 (.tmp 12) (.tmp 81) rfl (store_arr (cs := F.map bv) (old := Z16) hiF.out (bv_one _) A13.out (by rw [List.length_map, HFL.out, HZ16.out])) ?_
          generalize hV : World.setRow _ _ _ = WB
          have R13 := Lib.hid (heap_of_setRow hV A13.out)
          have hE := below_of_setRow hV HGL.out.size HX.out.size
          clear hV
          refine hK.out _ _ hE ?_
          have HX := Lib.hid (Below.trans HX.out hE)
          clear hE hK K
          try simp only [Act.put, List.setIfInBounds_toArray, List.set_cons_zero, List.set_cons_succ]
          refine regB_done (by kernel_rfl) ?_
          go_wp2
          go_meet
          exact ⟨_, rfl, R13, HX⟩
        · skip
          go_simp
          first | (have hZ3z := hZ3; generalize hV : World.alloc _ _ = WA; clear hZ3z) | (generalize hV0 : World.drew (World.alloc W6 _) = WA; have hV : W6.drew.alloc (.cells Z16.toArray 23) = WA := hV0; clear hV0)
          have A13 := Lib.hid (heap_of_alloc hV)
          have hb := below_of_alloc hV (Nat.le_refl _)
          try have S7 := Lib.hid (S7.out.below hb)
          try have KA := Lib.hid (KA.out.below hb)
          have hE := hb.mono HX.out.size
          have HGL := HX
          clear hV hb
          refine hK.out _ _ hE ?_
          have HX := Lib.hid (Below.trans HX.out hE)
          clear hE hK K
          try simp only [Act.put, List.setIfInBounds_toArray, List.set_cons_zero, List.set_cons_succ]
          refine regB_eff 7 rfl (by kernel_rfl) (fun K hK => ?_)
          go_simp
          refine (HFI.out A8 c8 _ KA.out (HY2.out.below (B6.out.step HX.out))).mono ?_
          rintro e w9 ⟨rfl, hb⟩
          try have A13 := Lib.hid ((hb.block _ (lt_of_heap A13.out)).trans A13.out)
          have hE := hb.mono HX.out.size
          clear hb
          refine hK.out _ _ hE ?_
          have HX := Lib.hid (Below.trans HX.out hE)
          clear hE hK K
          try simp only [Act.put, List.setIfInBounds_toArray, List.set_cons_zero, List.set_cons_succ]
          refine regB_eff 9 rfl (by kernel_rfl) (fun K hK => ?_)
          refine step_st1 rfl 23 (.tmp 12) (.tmp 81) rfl (store_arr (cs := F.map bv) (old := Z16) hiF.out (bv_one _) A13.out (by rw [List.length_map, HFL.out, HZ16.out])) ?_
          generalize hV : World.setRow _ _ _ = WB
          have R13 := Lib.hid (heap_of_setRow hV A13.out)
          have hE := below_of_setRow hV HGL.out.size HX.out.size
          clear hV
          refine hK.out _ _ hE ?_
          have HX := Lib.hid (Below.trans HX.out hE)
          clear hE hK K
          try simp only [Act.put, List.setIfInBounds_toArray, List.set_cons_zero, List.set_cons_succ]
          refine regB_done (by kernel_rfl) ?_
          go_wp2
          go_meet
          exact ⟨_, rfl, R13, HX⟩
      · skip
        go_simp
        first | (have hZ3z := hZ3; generalize hV : World.alloc _ _ = WA; clear hZ3z) | (generalize hV0 : World.drew (World.alloc W6 _) = WA; have hV : W6.drew.alloc (.cells Z16.toArray 23) = WA := hV0; clear hV0)
        have A13 := Lib.hid (heap_of_alloc hV)
        have hb := below_of_alloc hV (Nat.le_refl _)
        try have S7 := Lib.hid (S7.out.below hb)
        try have KA := Lib.hid (KA.out.below hb)
        have hE := hb.mono HX.out.size
        have HGL := HX
        clear hV hb
        refine hK.out _ _ hE ?_
        have HX := Lib.hid (Below.trans HX.out hE)
        clear hE hK K
        try simp only [Act.put, List.setIfInBounds_toArray, List.set_cons_zero, List.set_cons_succ]
        refine regB_eff 4 rfl (by kernel_rfl) (fun K hK => ?_)
        go_simp
        refine (HRK.out _ _ _ S7.out).mono ?_
        rintro e w8 ⟨A8, c8, rfl, hK8, hb⟩
        have KA := Lib.hid hK8
        try have A13 := Lib.hid ((hb.block _ (lt_of_heap A13.out)).trans A13.out)
        have hE := hb.mono HX.out.size
        clear hK8 hb
        refine hK.out _ _ hE ?_
        have HX := Lib.hid (Below.trans HX.out hE)
        clear hE hK K
        try simp only [Act.put, List.setIfInBounds_toArray, List.set_cons_zero, List.set_cons_succ]
        refine regB_eff 7 rfl (by kernel_rfl) (fun K hK => ?_)
        go_simp
        refine (HFI.out A8 c8 _ KA.out (HY2.out.below (B6.out.step HX.out))).mono ?_
        rintro e w9 ⟨rfl, hb⟩
        try have A13 := Lib.hid ((hb.block _ (lt_of_heap A13.out)).trans A13.out)
        have hE := hb.mono HX.out.size
        clear hb
        refine hK.out _ _ hE ?_
        have HX := Lib.hid (Below.trans HX.out hE)
        clear hE hK K
        try simp only [Act.put, List.setIfInBounds_toArray, List.set_cons_zero, List.set_cons_succ]
        refine regB_eff 9 rfl (by kernel_rfl) (fun K hK => ?_)
        refine step_st1 rfl 23 (.tmp 12) (.tmp 81) rfl (store_arr (cs := F.map bv) (old := Z16) hiF.out (bv_one _) A13.out (by rw [List.length_map, HFL.out, HZ16.out])) ?_
        generalize hV : World.setRow _ _ _ = WB
        have R13 := Lib.hid (heap_of_setRow hV A13.out)
        have hE := below_of_setRow hV HGL.out.size HX.out.size
        clear hV
        refine hK.out _ _ hE ?_
        have HX := Lib.hid (Below.trans HX.out hE)
        clear hE hK K
        try simp only [Act.put, List.setIfInBounds_toArray, List.set_cons_zero, List.set_cons_succ]
        refine regB_done (by kernel_rfl) ?_
        go_wp2
        go_meet
        exact ⟨_, rfl, R13, HX⟩
    · skip
      go_simp
      first | (have hZ3z := hZ3; generalize hV : World.alloc _ _ = WA; clear hZ3z) | (generalize hV0 : World.drew (World.alloc W6 _) = WA; have hV : W6.drew.alloc (.cells Z16.toArray 23) = WA := hV0; clear hV0)
      have A13 := Lib.hid (heap_of_alloc hV)
      have hb := below_of_alloc hV (Nat.le_refl _)
      try have S7 := Lib.hid (S7.out.below hb)
      try have KA := Lib.hid (KA.out.below hb)
      have hE := hb.mono HX.out.size
      have HGL := HX
      clear hV hb
      refine hK.out _ _ hE ?_
      have HX := Lib.hid (Below.trans HX.out hE)
      clear hE hK K
      try simp only [Act.put, List.setIfInBounds_toArray, List.set_cons_zero, List.set_cons_succ]
      refine regB_eff 3 rfl (by kernel_rfl) (fun K hK => ?_)
      go_simp
      refine (HKB.out _).mono ?_
      rintro e w7 ⟨rfl, hS7, hb⟩
      have S7 := Lib.hid hS7
      try have A13 := Lib.hid ((hb.block _ (lt_of_heap A13.out)).trans A13.out)
      have hE := hb.mono HX.out.size
      have hZ3 := TN
      clear hS7 hb
      refine hK.out _ _ hE ?_
      have HX := Lib.hid (Below.trans HX.out hE)
      clear hE hK K
      try simp only [Act.put, List.setIfInBounds_toArray, List.set_cons_zero, List.set_cons_succ]
      refine regB_eff 4 rfl (by kernel_rfl) (fun K hK => ?_)
      go_simp
      refine (HRK.out _ _ _ S7.out).mono ?_
      rintro e w8 ⟨A8, c8, rfl, hK8, hb⟩
      have KA := Lib.hid hK8
      try have A13 := Lib.hid ((hb.block _ (lt_of_heap A13.out)).trans A13.out)
      have hE := hb.mono HX.out.size
      clear hK8 hb
      refine hK.out _ _ hE ?_
      have HX := Lib.hid (Below.trans HX.out hE)
      clear hE hK K
      try simp only [Act.put, List.setIfInBounds_toArray, List.set_cons_zero, List.set_cons_succ]
      refine regB_eff 7 rfl (by kernel_rfl) (fun K hK => ?_)
      go_simp
      refine (HFI.out A8 c8 _ KA.out (HY2.out.below (B6.out.step HX.out))).mono ?_
      rintro e w9 ⟨rfl, hb⟩
      try have A13 := Lib.hid ((hb.block _ (lt_of_heap A13.out)).trans A13.out)
      have hE := hb.mono HX.out.size
      clear hb
      refine hK.out _ _ hE ?_
      have HX := Lib.hid (Below.trans HX.out hE)
      clear hE hK K
      try simp only [Act.put, List.setIfInBounds_toArray, List.set_cons_zero, List.set_cons_succ]
      refine regB_eff 9 rfl (by kernel_rfl) (fun K hK => ?_)
      refine step_st1 rfl 23 (.tmp 12) (.tmp 81) rfl (store_arr (cs := F.map bv) (old := Z16) hiF.out (bv_one _) A13.out (by rw [List.length_map, HFL.out, HZ16.out])) ?_
      generalize hV : World.setRow _ _ _ = WB
      have R13 := Lib.hid (heap_of_setRow hV A13.out)
      have hE := below_of_setRow hV HGL.out.size HX.out.size
      clear hV
      refine hK.out _ _ hE ?_
      have HX := Lib.hid (Below.trans HX.out hE)
      clear hE hK K
      try simp only [Act.put, List.setIfInBounds_toArray, List.set_cons_zero, List.set_cons_succ]
      refine regB_done (by kernel_rfl) ?_
      go_wp2
      go_meet
      exact ⟨_, rfl, R13, HX⟩
  case rest =>
    obtain ⟨g12, rfl, M12, X7⟩ := hcut
    have K7 := Lib.hid (K6.out.ext X7.out)
    have B7 := Lib.hid (B6.out.step X7.out)
    have N7 := Lib.hid ((X7.out.block _ (lt_of_heap N6.out)).trans N6.out)
    have S37 := Lib.hid (S36.out.below X7.out)
    have H7 := Lib.hid (H.out.below B7.out)
    have S72 := Lib.hid (HY2.out.below B7.out)
    have S73 := Lib.hid (HY3.out.below B7.out)
    clear K6 B6 N6 S36 X7 M6
    have qf := qf'.out
    have hq1 : ((strOf X).toList == (strOf X).toList) = true := beq_self_eq_true _
    go_upto_region 12 with (fail)
    have HX : Hid (Ext wc wc.drew) := (Below.refl _ _).drew
    refine reg_start (by kernel_rfl) ?_
    try simp only [Act.put, List.setIfInBounds_toArray, List.set_cons_zero, List.set_cons_succ]
    refine reg_take (v := ?_) 0 (some 82) rfl rfl (by kernel_rfl) (by kernel_rfl) (by kernel_rfl) (fun _ _ _ h => h) (by rfl) (fun W hW => ?_) ?_
    rotate_left
    · (go_simp; try rfl)
    simp only [Act.put, List.setIfInBounds_toArray, List.set_cons_zero, List.set_cons_succ]
    refine reg_conv 1 (some 83) (fun W hW => conv_string W A3' p16 c3' X HXL.out (S37.out.extk (HX.out.trans hW))) rfl rfl rfl rfl (by kernel_rfl) (by kernel_rfl) (by kernel_rfl) (fun _ _ _ h => h) (by rfl) ?_
    simp only [Act.put, List.setIfInBounds_toArray, List.set_cons_zero, List.set_cons_succ]
    refine reg_load 2 (some 84) (fun W hW => HLD.out _ _ (((HX.out.trans hW).block _ (lt_of_heap N7.out)).trans N7.out)) rfl rfl rfl rfl (by kernel_rfl) (by kernel_rfl) (by kernel_rfl) (fun _ _ _ h => h) (by rfl) ?_
    simp only [Act.put, List.setIfInBounds_toArray, List.set_cons_zero, List.set_cons_succ]
    refine reg_take (v := ?_) 4 (some 86) rfl rfl (by kernel_rfl) (by kernel_rfl) (by kernel_rfl) (fun _ _ _ h => h) (by rfl) (fun W hW => ?_) ?_
    rotate_left
    · (go_simp; try rfl)
    simp only [Act.put, List.setIfInBounds_toArray, List.set_cons_zero, List.set_cons_succ]
    refine reg_load 5 (some 87) (fun W hW => o_load_slice uT (HC.out _ _ (((HX.out.trans hW).block _ (lt_of_heap N7.out)).trans N7.out)).2.1) rfl rfl rfl rfl (by kernel_rfl) (by kernel_rfl) (by kernel_rfl) (fun _ _ _ h => h) (by rfl) ?_
    simp only [Act.put, List.setIfInBounds_toArray, List.set_cons_zero, List.set_cons_succ]
    refine reg_take (v := ?_) 6 (some 88) rfl rfl (by kernel_rfl) (by kernel_rfl) (by kernel_rfl) (fun _ _ _ h => h) (by rfl) (fun W hW => ?_) ?_
    rotate_left
    · (go_simp; try rfl)
    simp only [Act.put, List.setIfInBounds_toArray, List.set_cons_zero, List.set_cons_succ]
    refine reg_load 7 (some 89) (fun W hW => o_load_slice uT (HC.out _ _ (((HX.out.trans hW).block _ (lt_of_heap N7.out)).trans N7.out)).2.2) rfl rfl rfl rfl (by kernel_rfl) (by kernel_rfl) (by kernel_rfl) (fun _ _ _ h => h) (by rfl) ?_
    simp only [Act.put, List.setIfInBounds_toArray, List.set_cons_zero, List.set_cons_succ]
    refine reg_take (v := ?_) 8 (some 90) rfl rfl (by kernel_rfl) (by kernel_rfl) (by kernel_rfl) (fun _ _ _ h => h) (by rfl) (fun W hW => ?_) ?_
    rotate_left
    · (go_simp; try rfl)
    simp only [Act.put, List.setIfInBounds_toArray, List.set_cons_zero, List.set_cons_succ]
    refine reg_eff 3 rfl (by kernel_rfl) (fun K hK => ?_)
    go_simp
    refine (HKB.out _).mono ?_
    rintro e w8 ⟨rfl, hS8, hE⟩
    have S8 := Lib.hid hS8
    clear hS8
    refine hK.out _ _ hE ?_
    have HX := Lib.hid (Ext.trans HX.out hE)
    clear hE hK K
    try simp only [Act.put, List.setIfInBounds_toArray, List.set_cons_zero, List.set_cons_succ]
    refine reg_eff 9 rfl (by kernel_rfl) (fun K hK => ?_)
    go_simp
    refine (RO.out _ _ _ S8.out (S72.out.below HX.out) (S73.out.below HX.out) (H7.out.below HX.out)).mono ?_
    rintro e w9 ⟨v9, rfl, hO9, hE⟩
    obtain ⟨A9, c9, rfl, hl9, hc9, hm9, hr9⟩ := own_read hO9
    have S9 : Hid (Sl w9 A9 c9 X) := ⟨by omega, hm9, hr9⟩
    clear hO9 hl9 hc9 hm9 hr9
    refine hK.out _ _ hE ?_
    have HX := Lib.hid (Ext.trans HX.out hE)
    clear hE hK K
    try simp only [Act.put, List.setIfInBounds_toArray, List.set_cons_zero, List.set_cons_succ]
    refine reg_conv 10 (some 92) (fun W hW => conv_string W A9 p16 c9 X HXL.out (S9.out.extk hW)) rfl rfl rfl rfl (by kernel_rfl) (by kernel_rfl) (by kernel_rfl) (fun _ _ _ h => h) (by rfl) ?_
    simp only [Act.put, List.setIfInBounds_toArray, List.set_cons_zero, List.set_cons_succ]
    refine reg_take (v := ?_) 11 (some 93) rfl rfl (by kernel_rfl) (by kernel_rfl) (by kernel_rfl) (fun _ _ _ h => h) (by rfl) (fun W hW => ?_) ?_
    rotate_left
    · (go_simp; try rfl)
    simp only [Act.put, List.setIfInBounds_toArray, List.set_cons_zero, List.set_cons_succ]
    refine reg_take (v := ?_) 12 (some 94) rfl rfl (by kernel_rfl) (by kernel_rfl) (by kernel_rfl) (fun _ _ _ h => h) (by rfl) (fun W hW => ?_) ?_
    rotate_left
    · (go_simp; try rfl)
    simp only [Act.put, List.setIfInBounds_toArray, List.set_cons_zero, List.set_cons_succ]
    refine reg_take (v := ?_) 13 (some 95) rfl rfl (by kernel_rfl) (by kernel_rfl) (by kernel_rfl) (fun _ _ _ h => h) (by rfl) (fun W hW => ?_) ?_
    rotate_left
    · (go_simp; try rfl)
    simp only [Act.put, List.setIfInBounds_toArray, List.set_cons_zero, List.set_cons_succ]
    refine reg_take (v := ?_) 14 (some 96) rfl rfl (by kernel_rfl) (by kernel_rfl) (by kernel_rfl) (fun _ _ _ h => h) (by rfl) (fun W hW => ?_) ?_
    rotate_left
    · (go_simp; try rfl)
    simp only [Act.put, List.setIfInBounds_toArray, List.set_cons_zero, List.set_cons_succ]
    refine reg_take (v := ?_) 15 (some 97) rfl rfl (by kernel_rfl) (by kernel_rfl) (by kernel_rfl) (fun _ _ _ h => h) (by rfl) (fun W hW => ?_) ?_
    rotate_left
    · (go_simp; try rfl)
    simp only [Act.put, List.setIfInBounds_toArray, List.set_cons_zero, List.set_cons_succ]
    refine reg_take (v := ?_) 16 (some 98) rfl rfl (by kernel_rfl) (by kernel_rfl) (by kernel_rfl) (fun _ _ _ h => h) (by rfl) (fun W hW => ?_) ?_
    rotate_left
    · (go_simp; try rfl)
    simp only [Act.put, List.setIfInBounds_toArray, List.set_cons_zero, List.set_cons_succ]
    refine reg_take (v := ?_) 17 (some 99) rfl rfl (by kernel_rfl) (by kernel_rfl) (by kernel_rfl) (fun _ _ _ h => h) (by rfl) (fun W hW => ?_) ?_
    rotate_left
    · (go_simp; try rfl)
    simp only [Act.put, List.setIfInBounds_toArray, List.set_cons_zero, List.set_cons_succ]
    refine reg_take (v := ?_) 18 (some 100) rfl rfl (by kernel_rfl) (by kernel_rfl) (by kernel_rfl) (fun _ _ _ h => h) (by rfl) (fun W hW => ?_) ?_
    rotate_left
    · (go_simp; try rfl)
    simp only [Act.put, List.setIfInBounds_toArray, List.set_cons_zero, List.set_cons_succ]
    refine reg_take (v := ?_) 19 (some 101) rfl rfl (by kernel_rfl) (by kernel_rfl) (by kernel_rfl) (fun _ _ _ h => h) (by rfl) (fun W hW => ?_) ?_
    rotate_left
    · (go_simp; try rfl)
    simp only [Act.put, List.setIfInBounds_toArray, List.set_cons_zero, List.set_cons_succ]
    refine reg_take (v := ?_) 20 (some 102) rfl rfl (by kernel_rfl) (by kernel_rfl) (by kernel_rfl) (fun _ _ _ h => h) (by rfl) (fun W hW => ?_) ?_
    rotate_left
    · (go_simp; try rfl)
    simp only [Act.put, List.setIfInBounds_toArray, List.set_cons_zero, List.set_cons_succ]
    refine reg_take (v := ?_) 21 (some 103) rfl rfl (by kernel_rfl) (by kernel_rfl) (by kernel_rfl) (fun _ _ _ h => h) (by rfl) (fun W hW => ?_) ?_
    rotate_left
    · (go_simp; try rfl)
    simp only [Act.put, List.setIfInBounds_toArray, List.set_cons_zero, List.set_cons_succ]
    refine reg_take (v := ?_) 22 (some 104) rfl rfl (by kernel_rfl) (by kernel_rfl) (by kernel_rfl) (fun _ _ _ h => h) (by rfl) (fun W hW => ?_) ?_
    rotate_left
    · (go_simp; try rfl)
    simp only [Act.put, List.setIfInBounds_toArray, List.set_cons_zero, List.set_cons_succ]
    refine reg_load 23 (some 105) (fun W hW => o_load_slice uT (HC.out _ _ (((HX.out.trans hW).block _ (lt_of_heap N7.out)).trans N7.out)).2.1) rfl rfl rfl rfl (by kernel_rfl) (by kernel_rfl) (by kernel_rfl) (fun _ _ _ h => h) (by rfl) ?_
    simp only [Act.put, List.setIfInBounds_toArray, List.set_cons_zero, List.set_cons_succ]
    refine reg_load 25 (some 107) (fun W hW => load_arr arr16B rfl hiF.out (((HX.out.trans hW).block _ (lt_of_heap M12.out)).trans M12.out)) rfl rfl rfl rfl (by kernel_rfl) (by kernel_rfl) (by kernel_rfl) (fun _ _ _ h => h) (by rfl) ?_
    simp only [Act.put, List.setIfInBounds_toArray, List.set_cons_zero, List.set_cons_succ]
    refine reg_eff 24 rfl (by kernel_rfl) (fun K hK => ?_)
    go_simp
    refine (GF.out _ (K7.out.ext HX.out) (S72.out.below HX.out)).mono ?_
    rintro e w10 ⟨rfl, hE⟩
    refine hK.out _ _ hE ?_
    have HX := Lib.hid (Ext.trans HX.out hE)
    clear hE hK K
    try simp only [Act.put, List.setIfInBounds_toArray, List.set_cons_zero, List.set_cons_succ]
    refine reg_take (v := ?_) 26 (some 108) rfl rfl (by kernel_rfl) (by kernel_rfl) (by kernel_rfl) (fun _ _ _ h => h) (by rfl) (fun W hW => ?_) ?_
    rotate_left
    · (go_simp; try rfl)
    simp only [Act.put, List.setIfInBounds_toArray, List.set_cons_zero, List.set_cons_succ]
    refine reg_take (v := ?_) 27 (some 109) rfl rfl (by kernel_rfl) (by kernel_rfl) (by kernel_rfl) (fun _ _ _ h => h) (by rfl) (fun W hW => ?_) ?_
    rotate_left
    · (go_simp; try rfl)
    simp only [Act.put, List.setIfInBounds_toArray, List.set_cons_zero, List.set_cons_succ]
    refine reg_take (v := ?_) 28 (some 110) rfl rfl (by kernel_rfl) (by kernel_rfl) (by kernel_rfl) (fun _ _ _ h => h) (by rfl) (fun W hW => ?_) ?_
    rotate_left
    · (go_simp; try rfl)
    simp only [Act.put, List.setIfInBounds_toArray, List.set_cons_zero, List.set_cons_succ]
    refine reg_eff 29 rfl (by kernel_rfl) (fun K hK => ?_)
    go_simp
    refine (awake10_any _).mono ?_
    rintro e w11 ⟨rfl, hE⟩
    refine hK.out _ _ hE ?_
    have HX := Lib.hid (Ext.trans HX.out hE)
    clear hE hK K
    try simp only [Act.put, List.setIfInBounds_toArray, List.set_cons_zero, List.set_cons_succ]
    refine reg_take (v := ?_) 30 (some 112) rfl rfl (by kernel_rfl) (by kernel_rfl) (by kernel_rfl) (fun _ _ _ h => h) (by rfl) (fun W hW => ?_) ?_
    rotate_left
    · (go_simp; try rfl)
    simp only [Act.put, List.setIfInBounds_toArray, List.set_cons_zero, List.set_cons_succ]
    refine reg_take (v := ?_) 31 (some 4) rfl rfl (by kernel_rfl) (by kernel_rfl) (by kernel_rfl) (fun _ _ _ h => h) (by rfl) (fun W hW => ?_) ?_
    rotate_left
    · (go_simp; try rfl)
    simp only [Act.put, List.setIfInBounds_toArray, List.set_cons_zero, List.set_cons_succ]
    refine reg_done (by kernel_rfl) ?_
    go_wp2
    go_ret
    exact ⟨rfl, B7.out.step HX.out⟩
end Go.Proofs.Ytjmpbcfbfbjenaa
