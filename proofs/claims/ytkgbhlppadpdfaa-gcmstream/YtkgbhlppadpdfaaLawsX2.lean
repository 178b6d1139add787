/- Laws of layer 10: two texts sealed by one key and IV differ as they did. -/
import Derived.Test.YtkgbhlppadpdfaaGcm8
namespace Go.Proofs.Ytkgbhlppadpdfaa
open Go.RowKit
set_option maxRecDepth 100000
set_option linter.unusedVariables false
set_option linter.unusedSimpArgs false
theorem sealG_get (E : List UInt8 → List UInt8) (F aad b : List UInt8) (i : Nat) (h : i < b.length) : (sealG E F aad b).getD i 0 = b.getD i 0 ^^^ gcF E F i := by
  have hl : i < (gcL E F b).length := by rw [gcL_len]; exact h
  rw [sealG, List.getD_eq_getElem?_getD, List.getElem?_append_left hl, List.getElem?_eq_getElem hl]
  have := ctrL_get (gcF E F) b 0 i h hl
  rw [Nat.zero_add] at this
  simp only [Option.getD_some]
  rw [show (gcL E F b)[i] = (ctrL (gcF E F) 0 b)[i] from rfl, this]
  simp [List.getD, h]
theorem sealG_apart (E : List UInt8 → List UInt8) (F aad aad' b b' : List UInt8) (i : Nat) (h : i < b.length) (h' : i < b'.length) : (sealG E F aad b).getD i 0 ^^^ (sealG E F aad' b').getD i 0 = b.getD i 0 ^^^ b'.getD i 0 := by
  rw [sealG_get E F aad b i h, sealG_get E F aad' b' i h']
  generalize gcF E F i = s
  rw [UInt8.xor_assoc, UInt8.xor_comm s, UInt8.xor_assoc, UInt8.xor_self, UInt8.xor_zero]
theorem getDX_map_bv {l : List UInt8} {i : Nat} (h : i < l.length) : (l.map bv)[i]? = some (.int .u8 ((l.getD i 0).toNat : Int)) := by
  simp [List.getD, h, bv]
set_option maxHeartbeats 4000000 in
theorem gcmStream_walk (w : World) (y : KeyX) (l : y.ok w) (A : Option Addr) (c : Nat) (b : List UInt8) (h : Sl w A c b) (A' : Option Addr) (c' : Nat) (b' : List UInt8) (h' : Sl w A' c' b') :
    Calls Try.prog 8 #[.agg y.cells.toArray, .slice A b.length c, .slice A' b'.length c'] w fun e w' => e = .returned (.bool true) ∧ Below w.heap.size w w' := by
  obtain ⟨lk, l2, l3⟩ := l
  have q1 : b.length ≤ 9223372036854775807 := by have := h.1; have := h.2.1; simp [maxLen] at this; omega
  have q2 : y.iv.length ≤ 9223372036854775807 := by have := l2.1; have := l2.2.1; simp [maxLen] at this; omega
  have H := Lib.hid h; have HY2 := Lib.hid l2; have HY3 := Lib.hid l3
  obtain ⟨m, hm⟩ : ∃ m, b.length = m := ⟨_, rfl⟩
  have HM := Lib.hid hm
  rw [hm] at q1 ⊢
  have q1' : b'.length ≤ 9223372036854775807 := by have := h'.1; have := h'.2.1; simp [maxLen] at this; omega
  have H' := Lib.hid h'
  obtain ⟨m', hm'⟩ : ∃ m', b'.length = m' := ⟨_, rfl⟩
  have HM' := Lib.hid hm'
  rw [hm'] at q1' ⊢
  clear hm' h'
  have N0 := Lib.hid (heap_alloc_new' w (.cells y.cells.toArray 25))
  have B0 : Hid (Below w.heap.size w (w.alloc (.cells y.cells.toArray 25))) := (Below.refl _ _).alloc (Nat.le_refl _) _
  have HLD := Lib.hid (fun (W : World) (g : Nat) (hh : W.heap[g]? = some (.cells y.cells.toArray 25 (0, 0))) => ld_keyX hh lk)
  have HC := Lib.hid (fun (W : World) (g : Nat) (hh : W.heap[g]? = some (.cells y.cells.toArray 25 (0, 0))) => keyX_cells hh lk)
  have HS := Lib.hid (fun W => xshort_any y W lk)
  have HKS := Lib.hid (fun W => xkeys_any y W lk)
  clear h l2 l3 hm lk
  obtain ⟨Z, HZ⟩ : ∃ Z, Hid (y.cells.toArray = Z) := ⟨_, rfl⟩
  rw [HZ.out] at N0 B0 HLD HC HS HKS ⊢
  clear HZ
  have HSB : Hid (shortX y = true → y.iv.length ≤ 100 ∧ y.a.length ≤ 100) := fun h => by unfold shortX at h; simpa using h
  generalize shortX y = sb at HS HSB
  obtain ⟨k, lg, A2, c2, iv, A3, c3, a⟩ := y
  simp only at HC HKS HSB q2 HY2 HY3
  obtain ⟨ki, hki⟩ : ∃ ki, iv.length = ki := ⟨_, rfl⟩
  obtain ⟨ka, hka⟩ : ∃ ka, a.length = ka := ⟨_, rfl⟩
  rw [hki, hka] at HC HSB
  rw [hki] at q2
  have HKI := Lib.hid hki; have HKA := Lib.hid hka
  clear hki hka
  by_cases hb : 100 < m
  · have e1 : (100 : Int) < (m : Int) := by omega
    go_enter Try.func8, Try.ntmps8
    go_wp2
    go_ret
    exact ⟨rfl, B0.out⟩
  have e1 : ¬ ((100 : Int) < (m : Int)) := by omega
  have hb2 : m ≤ 100 := by omega
  clear hb
  by_cases hb : 100 < m'
  · have e1' : (100 : Int) < (m' : Int) := by omega
    go_enter Try.func8, Try.ntmps8
    go_wp2
    go_ret
    exact ⟨rfl, B0.out⟩
  have e1' : ¬ ((100 : Int) < (m' : Int)) := by omega
  have hb2' : m' ≤ 100 := by omega
  clear hb
  go_enter Try.func8, Try.ntmps8
  go_upto_region 1 with (fail)
  generalize w.alloc _ = W0 at N0 B0 ⊢
  go_wp2_with (first
    | (refine wpList_ld rfl 25 (.tmp 3) rfl (HLD.out _ _ N0.out) ?_)
    | fail)
  refine (HS.out W0).mono ?_
  rintro e w1 ⟨rfl, hb1⟩
  have B1 : Hid (Below w.heap.size w w1) := B0.out.step hb1
  have N1 := Lib.hid ((hb1.block _ (lt_of_heap N0.out)).trans N0.out)
  clear hb1 B0 N0 HS
  cases sb with
  | false =>
    go_wp2_with fail
    go_ret
    exact ⟨rfl, B1.out⟩
  | true =>
  have HIA := Lib.hid (HSB.out rfl)
  clear HSB
  obtain ⟨d0, d1, d2⟩ := HC.out _ _ N1.out
  by_cases hi0 : ki = 0
  case pos =>
    have e2 : ((ki : Int) == 0) = true := by simp [hi0]
    clear hi0
    go_wp2_with fail
    go_ret
    exact ⟨rfl, B1.out⟩
  have e2 : ((ki : Int) == 0) = false := by simp; omega
  have hki0 : 0 < ki := by omega
  have hki1 : ki ≤ 100 := HIA.out.1
  have hka1 : ka ≤ 100 := HIA.out.2
  clear hi0 HIA
  go_wp2_with (first
    | (refine wpList_ld rfl 25 (.tmp 3) rfl (HLD.out _ _ N1.out) ?_)
    | fail)
  clear d0 d1 d2
  refine (HKS.out w1).mono ?_
  rintro e w2 ⟨p, E, rfl, hE0, hG, hb1⟩
  have K2 := Lib.hid hG
  have HEF := Lib.hid (hG.1.1 (firstG E iv) (firstG_len _ _))
  have B2 : Hid (Below w.heap.size w w2) := B1.out.step hb1
  have N2 := Lib.hid ((hb1.block _ (lt_of_heap N1.out)).trans N1.out)
  clear hE0 hG hb1 B1 N1 HKS
  have SE := Lib.hid (fun W hE S2 S3 S4 => gseal_any p E iv a b A2 A3 A ki c2 ka c3 m c W hE HKI.out hki0 (by omega) HKA.out HM.out (by omega) (by omega) S2 S3 S4)
  have SE' := Lib.hid (fun W hE S2 S4 => gseal_any p E iv [] b' A2 none A' ki c2 0 0 m' c' W hE HKI.out hki0 (by omega) rfl HM'.out (by omega) (by omega) S2 (slX_none W) S4)
  have HAP : Hid (∀ i, i < m → i < m' → (sealG E (firstG E iv) a b).getD i 0 ^^^ (sealG E (firstG E iv) [] b').getD i 0 = b.getD i 0 ^^^ b'.getD i 0) := fun i h1 h2 => sealG_apart E (firstG E iv) a [] b b' i (by rw [HM.out]; exact h1) (by rw [HM'.out]; exact h2)
  have HXL : Hid ((sealG E (firstG E iv) a b).length = m + 16) := by show _ = _; rw [sealG_len _ _ _ _ HEF.out, HM.out]
  have HXL' : Hid ((sealG E (firstG E iv) [] b').length = m' + 16) := by show _ = _; rw [sealG_len _ _ _ _ HEF.out, HM'.out]
  generalize sealG E (firstG E iv) a b = X at SE HAP HXL
  generalize sealG E (firstG E iv) [] b' = X' at SE' HAP HXL'
  obtain ⟨d0, d1, d2⟩ := HC.out _ _ N2.out
  go_wp2_with fail
  clear d0 d1 d2
  refine (SE.out w2 K2.out (HY2.out.below B2.out) (HY3.out.below B2.out) (H.out.below B2.out)).mono ?_
  rintro e w3 ⟨v3, rfl, hO, hb1⟩
  obtain ⟨A4, c4, rfl, hl3, h31, h32, hr3⟩ := own_read hO
  have S3 := Lib.hid (sl_mk hl3 h31 h32 hr3)
  have B3 : Hid (Below w.heap.size w w3) := B2.out.step hb1
  have N3 := Lib.hid ((hb1.block _ (lt_of_heap N2.out)).trans N2.out)
  have K3 := Lib.hid (K2.out.ext hb1)
  clear hl3 h31 h32 hr3 hO hb1 B2 N2 SE K2
  obtain ⟨d0, d1, d2⟩ := HC.out _ _ N3.out
  go_wp2_with fail
  clear d0 d1 d2
  refine (SE'.out w3 K3.out (HY2.out.below B3.out) (H'.out.below B3.out)).mono ?_
  rintro e w4 ⟨v3, rfl, hO, hb1⟩
  obtain ⟨A5, c5, rfl, hl3, h31, h32, hr3⟩ := own_read hO
  have S4 := Lib.hid (sl_mk hl3 h31 h32 hr3)
  have S3 := Lib.hid (S3.out.below hb1)
  have B4 : Hid (Below w.heap.size w w4) := B3.out.step hb1
  clear hl3 h31 h32 hr3 hO hb1 B3 N3 SE' HY2 HY3 K3
  have SA := Lib.hid (H.out.below B4.out)
  have SA' := Lib.hid (H'.out.below B4.out)
  clear H H'
  obtain ⟨g3, o3, rfl, hg3, hr3⟩ := S3.out.2.2.at_ (by rw [List.length_map, HXL.out]; omega)
  obtain ⟨g4, o4, rfl, hg4, hr4⟩ := S4.out.2.2.at_ (by rw [List.length_map, HXL'.out]; omega)
  have R3 : Hid (∀ i, i < m → ∀ W, Below w4.heap.size w4 W → W.cell? ⟨g3, o3 + i, none⟩ = some (.int .u8 ((X.getD i 0).toNat : Int))) := fun i hi W hW => (hW.cell hg3).trans (hr3 i _ (getDX_map_bv (by rw [HXL.out]; omega)))
  have R4 : Hid (∀ i, i < m' → ∀ W, Below w4.heap.size w4 W → W.cell? ⟨g4, o4 + i, none⟩ = some (.int .u8 ((X'.getD i 0).toNat : Int))) := fun i hi W hW => (hW.cell hg4).trans (hr4 i _ (getDX_map_bv (by rw [HXL'.out]; omega)))
  clear hg3 hr3 hg4 hr4 S3 S4
  go_upto_region 11 with (fail)
  go_loopw [13] (fun vi wr => ∃ (i : Nat), i ≤ m ∧ vi = .int .i64 (i : Int) ∧ Hid (Below w4.heap.size w4 wr)) (fun i _ => m - (intOf i).toNat)
  case atStart => exact ⟨0, by omega, rfl, Below.refl _ _⟩
  case round =>
    obtain ⟨i, hi, rfl, HB⟩ := hrel
    by_cases hlt : i < m
    · have q2 : (i : Int) < (m : Int) := by omega
      by_cases hlt' : i < m'
      · have q3 : (i : Int) < (m' : Int) := by omega
        obtain ⟨g1, o1, rfl, hg1, hr1⟩ := SA.out.2.2.at_ (by rw [List.length_map, HM.out]; omega)
        obtain ⟨g2, o2, rfl, hg2, hr2⟩ := SA'.out.2.2.at_ (by rw [List.length_map, HM'.out]; omega)
        have k1 : ∀ W, Below w4.heap.size w4 W → W.cell? ⟨g1, o1 + i, none⟩ = some (.int .u8 ((b.getD i 0).toNat : Int)) := fun W hW => (hW.cell hg1).trans (hr1 i _ (getDX_map_bv (by rw [HM.out]; omega)))
        have k2 : ∀ W, Below w4.heap.size w4 W → W.cell? ⟨g2, o2 + i, none⟩ = some (.int .u8 ((b'.getD i 0).toNat : Int)) := fun W hW => (hW.cell hg2).trans (hr2 i _ (getDX_map_bv (by rw [HM'.out]; omega)))
        have k3 := R3.out i hlt
        have k4 := R4.out i hlt'
        have hap := HAP.out i hlt hlt'
        generalize X.getD i 0 = x1 at k3 hap
        generalize X'.getD i 0 = x2 at k4 hap
        generalize b.getD i 0 = x3 at k1 hap
        generalize b'.getD i 0 = x4 at k2 hap
        have f1 := xor8 x1 x2
        have f2 := xor8 x3 x4
        rw [hap] at f1
        generalize x3 ^^^ x4 = r at f1 f2
        have K1 := Lib.hid k1; have K2 := Lib.hid k2; have K3 := Lib.hid k3; have K4 := Lib.hid k4
        clear k1 k2 k3 k4 hap hg1 hg2 hr1 hr2
        have q4 : (i : Int) < (m : Int) + 16 := by omega
        have q5 : (i : Int) < (m' : Int) + 16 := by omega
        have q6 : i < m + 16 := by omega
        have q7 : i < m' + 16 := by omega
        go_upto_region 13 with (fail)
        have HX : Hid (Ext wr wr.drew) := (Below.refl _ _).drew
        refine reg_start (by kernel_rfl) ?_
        try simp only [Act.put, List.setIfInBounds_toArray, List.set_cons_zero, List.set_cons_succ]
        refine reg_take (v := ?_) 0 (some 92) rfl rfl (by kernel_rfl) (by kernel_rfl) (by kernel_rfl) (fun _ _ _ h => h) (by rfl) (fun W hW => ?_) ?_
        rotate_left
        · (go_simp; try rfl)
        simp only [Act.put, List.setIfInBounds_toArray, List.set_cons_zero, List.set_cons_succ]
        refine reg_take (v := ?_) 1 (some 93) rfl rfl (by kernel_rfl) (by kernel_rfl) (by kernel_rfl) (fun _ _ _ h => h) (by rfl) (fun W hW => ?_) ?_
        rotate_left
        · (go_simp; try rfl)
        simp only [Act.put, List.setIfInBounds_toArray, List.set_cons_zero, List.set_cons_succ]
        refine reg_take (v := ?_) 2 (some 94) rfl rfl (by kernel_rfl) (by kernel_rfl) (by kernel_rfl) (fun _ _ _ h => h) (by rfl) (fun W hW => ?_) ?_
        rotate_left
        · (go_simp; try rfl)
        simp only [Act.put, List.setIfInBounds_toArray, List.set_cons_zero, List.set_cons_succ]
        refine reg_load 3 (some 95) (fun W hW => load_cell Try.underlying5 (K3.out W (HB.out.step (HX.out.trans hW)))) rfl rfl rfl rfl (by kernel_rfl) (by kernel_rfl) (by kernel_rfl) (fun _ _ _ h => h) (by rfl) ?_
        simp only [Act.put, List.setIfInBounds_toArray, List.set_cons_zero, List.set_cons_succ]
        refine reg_take (v := ?_) 4 (some 96) rfl rfl (by kernel_rfl) (by kernel_rfl) (by kernel_rfl) (fun _ _ _ h => h) (by rfl) (fun W hW => ?_) ?_
        rotate_left
        · (go_simp; try rfl)
        simp only [Act.put, List.setIfInBounds_toArray, List.set_cons_zero, List.set_cons_succ]
        refine reg_take (v := ?_) 5 (some 97) rfl rfl (by kernel_rfl) (by kernel_rfl) (by kernel_rfl) (fun _ _ _ h => h) (by rfl) (fun W hW => ?_) ?_
        rotate_left
        · (go_simp; try rfl)
        simp only [Act.put, List.setIfInBounds_toArray, List.set_cons_zero, List.set_cons_succ]
        refine reg_take (v := ?_) 6 (some 98) rfl rfl (by kernel_rfl) (by kernel_rfl) (by kernel_rfl) (fun _ _ _ h => h) (by rfl) (fun W hW => ?_) ?_
        rotate_left
        · (go_simp; try rfl)
        simp only [Act.put, List.setIfInBounds_toArray, List.set_cons_zero, List.set_cons_succ]
        refine reg_load 7 (some 99) (fun W hW => load_cell Try.underlying5 (K4.out W (HB.out.step (HX.out.trans hW)))) rfl rfl rfl rfl (by kernel_rfl) (by kernel_rfl) (by kernel_rfl) (fun _ _ _ h => h) (by rfl) ?_
        simp only [Act.put, List.setIfInBounds_toArray, List.set_cons_zero, List.set_cons_succ]
        refine reg_take (v := ?_) 8 (some 100) rfl rfl (by kernel_rfl) (by kernel_rfl) (by kernel_rfl) (fun _ _ _ h => h) (by rfl) (fun W hW => ?_) ?_
        rotate_left
        · (go_simp; try rfl)
        simp only [Act.put, List.setIfInBounds_toArray, List.set_cons_zero, List.set_cons_succ]
        refine reg_take (v := ?_) 9 (some 101) rfl rfl (by kernel_rfl) (by kernel_rfl) (by kernel_rfl) (fun _ _ _ h => h) (by rfl) (fun W hW => ?_) ?_
        rotate_left
        · (go_simp; try rfl)
        simp only [Act.put, List.setIfInBounds_toArray, List.set_cons_zero, List.set_cons_succ]
        refine reg_take (v := ?_) 10 (some 102) rfl rfl (by kernel_rfl) (by kernel_rfl) (by kernel_rfl) (fun _ _ _ h => h) (by rfl) (fun W hW => ?_) ?_
        rotate_left
        · (go_simp; try rfl)
        simp only [Act.put, List.setIfInBounds_toArray, List.set_cons_zero, List.set_cons_succ]
        refine reg_take (v := ?_) 11 (some 103) rfl rfl (by kernel_rfl) (by kernel_rfl) (by kernel_rfl) (fun _ _ _ h => h) (by rfl) (fun W hW => ?_) ?_
        rotate_left
        · (go_simp; try rfl)
        simp only [Act.put, List.setIfInBounds_toArray, List.set_cons_zero, List.set_cons_succ]
        refine reg_load 12 (some 104) (fun W hW => load_cell Try.underlying5 (K1.out W (HB.out.step (HX.out.trans hW)))) rfl rfl rfl rfl (by kernel_rfl) (by kernel_rfl) (by kernel_rfl) (fun _ _ _ h => h) (by rfl) ?_
        simp only [Act.put, List.setIfInBounds_toArray, List.set_cons_zero, List.set_cons_succ]
        refine reg_take (v := ?_) 13 (some 105) rfl rfl (by kernel_rfl) (by kernel_rfl) (by kernel_rfl) (fun _ _ _ h => h) (by rfl) (fun W hW => ?_) ?_
        rotate_left
        · (go_simp; try rfl)
        simp only [Act.put, List.setIfInBounds_toArray, List.set_cons_zero, List.set_cons_succ]
        refine reg_take (v := ?_) 14 (some 106) rfl rfl (by kernel_rfl) (by kernel_rfl) (by kernel_rfl) (fun _ _ _ h => h) (by rfl) (fun W hW => ?_) ?_
        rotate_left
        · (go_simp; try rfl)
        simp only [Act.put, List.setIfInBounds_toArray, List.set_cons_zero, List.set_cons_succ]
        refine reg_take (v := ?_) 15 (some 107) rfl rfl (by kernel_rfl) (by kernel_rfl) (by kernel_rfl) (fun _ _ _ h => h) (by rfl) (fun W hW => ?_) ?_
        rotate_left
        · (go_simp; try rfl)
        simp only [Act.put, List.setIfInBounds_toArray, List.set_cons_zero, List.set_cons_succ]
        refine reg_load 16 (some 108) (fun W hW => load_cell Try.underlying5 (K2.out W (HB.out.step (HX.out.trans hW)))) rfl rfl rfl rfl (by kernel_rfl) (by kernel_rfl) (by kernel_rfl) (fun _ _ _ h => h) (by rfl) ?_
        simp only [Act.put, List.setIfInBounds_toArray, List.set_cons_zero, List.set_cons_succ]
        refine reg_take (v := ?_) 17 (some 109) rfl rfl (by kernel_rfl) (by kernel_rfl) (by kernel_rfl) (fun _ _ _ h => h) (by rfl) (fun W hW => ?_) ?_
        rotate_left
        · (go_simp; try rfl)
        simp only [Act.put, List.setIfInBounds_toArray, List.set_cons_zero, List.set_cons_succ]
        refine reg_take (v := ?_) 18 (some 110) rfl rfl (by kernel_rfl) (by kernel_rfl) (by kernel_rfl) (fun _ _ _ h => h) (by rfl) (fun W hW => ?_) ?_
        rotate_left
        · (go_simp; try rfl)
        simp only [Act.put, List.setIfInBounds_toArray, List.set_cons_zero, List.set_cons_succ]
        refine reg_done (by kernel_rfl) ?_
        have HB2 : Hid (Below w4.heap.size w4 wr.drew) := HB.out.drew
        have q8 : ((r.toNat : Int) != (r.toNat : Int)) = false := by simp
        go_wp2
        go_roundw
        case rel => exact ⟨i + 1, by omega, by go_num, HB2⟩
        case measure => simp [intOf]; omega
      · have q3 : ¬ ((i : Int) < (m' : Int)) := by omega
        go_wp2_with fail
        refine (awake10_any wr).mono ?_
        rintro e w6 ⟨rfl, hb1⟩
        have B6 : Hid (Below w.heap.size w w6) := B4.out.step (HB.out.step hb1)
        clear hb1
        go_wp2
        go_ret
        exact ⟨rfl, B6.out⟩
    · have q2 : ¬ ((i : Int) < (m : Int)) := by omega
      go_wp2_with fail
      refine (awake10_any wr).mono ?_
      rintro e w6 ⟨rfl, hb1⟩
      have B6 : Hid (Below w.heap.size w w6) := B4.out.step (HB.out.step hb1)
      clear hb1
      go_wp2
      go_ret
      exact ⟨rfl, B6.out⟩
end Go.Proofs.Ytkgbhlppadpdfaa
