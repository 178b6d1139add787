/- Laws of layer 10: the aad changes the tag alone. -/
import Derived.Test.YtkgbhlppadpdfaaGcm8
namespace Go.Proofs.Ytkgbhlppadpdfaa
open Go.RowKit
set_option maxRecDepth 100000
set_option linter.unusedVariables false
set_option linter.unusedSimpArgs false
theorem openG_other {w w' : World} {E : List UInt8 → List UInt8} {F aad aad' b : List UInt8} {m : Nat} {v : Value} {y : Int} (hm : b.length = m) (h : OpenG w E F aad' (sealG E F aad b) m v y w') :
    y = if decide (sealG E F aad b = sealG E F aad' b) = true then 0 else 7 := by
  have hl : (gcL E F b).length = m := by rw [gcL_len]; exact hm
  have e1 : (sealG E F aad b).take m = gcL E F b := by rw [sealG, List.take_left' hl]
  have e2 : (sealG E F aad b).drop m = tagG E F aad (gcL E F b) := by rw [sealG, List.drop_left' hl]
  unfold OpenG at h
  rw [e1, e2] at h
  by_cases ht : tagG E F aad' (gcL E F b) = tagG E F aad (gcL E F b)
  · rw [if_pos ht] at h
    have : sealG E F aad b = sealG E F aad' b := by rw [sealG, sealG, ht]
    rw [if_pos (by simpa using this)]
    exact h.1
  · rw [if_neg ht] at h
    have : ¬ sealG E F aad b = sealG E F aad' b := fun e => ht (by rw [sealG, sealG] at e; exact (List.append_cancel_left e).symm)
    rw [if_neg (by simpa using this)]
    exact h.2
theorem sealG_take (E : List UInt8 → List UInt8) (F aad b : List UInt8) (m : Nat) (hm : b.length = m) : (sealG E F aad b).take m = gcL E F b := by rw [sealG, List.take_left' (by rw [gcL_len]; exact hm)]
set_option maxHeartbeats 4000000 in
theorem gcmAad_walk (w : World) (y : KeyX) (l : y.ok w) (A : Option Addr) (c : Nat) (b : List UInt8) (h : Sl w A c b) (A' : Option Addr) (c' : Nat) (b' : List UInt8) (h' : Sl w A' c' b') :
    Calls Try.prog 9 #[.agg y.cells.toArray, .slice A b.length c, .slice A' b'.length c'] w fun e w' => e = .returned (.bool true) ∧ Below w.heap.size w w' := by
  obtain ⟨lk, l2, l3⟩ := l
  have q1 : b.length ≤ 9223372036854775807 := by have := h.1; have := h.2.1; simp [maxLen] at this; omega
  have q2 : y.iv.length ≤ 9223372036854775807 := by have := l2.1; have := l2.2.1; simp [maxLen] at this; omega
  have H := Lib.hid h; have HY2 := Lib.hid l2; have HY3 := Lib.hid l3
  obtain ⟨m, hm⟩ : ∃ m, b.length = m := ⟨_, rfl⟩
  have HM := Lib.hid hm
  rw [hm] at q1 ⊢
  have q1' : b'.length ≤ 9223372036854775807 := by have := h'.1; have := h'.2.1; simp [maxLen] at this; omega
  have H' := Lib.hid h'
  obtain ⟨m', hm'⟩ : ∃ m', b'.length = m' := ⟨_, rfl⟩
  have HM' := Lib.hid hm'
  rw [hm'] at q1' ⊢
  clear hm' h'
  have N0 := Lib.hid (heap_alloc_new' w (.cells y.cells.toArray 25))
  have B0 : Hid (Below w.heap.size w (w.alloc (.cells y.cells.toArray 25))) := (Below.refl _ _).alloc (Nat.le_refl _) _
  have HLD := Lib.hid (fun (W : World) (g : Nat) (hh : W.heap[g]? = some (.cells y.cells.toArray 25 (0, 0))) => ld_keyX hh lk)
  have HC := Lib.hid (fun (W : World) (g : Nat) (hh : W.heap[g]? = some (.cells y.cells.toArray 25 (0, 0))) => keyX_cells hh lk)
  have HS := Lib.hid (fun W => xshort_any y W lk)
  have HKS := Lib.hid (fun W => xkeys_any y W lk)
  clear h l2 l3 hm lk
  obtain ⟨Z, HZ⟩ : ∃ Z, Hid (y.cells.toArray = Z) := ⟨_, rfl⟩
  rw [HZ.out] at N0 B0 HLD HC HS HKS ⊢
  clear HZ
  have HSB : Hid (shortX y = true → y.iv.length ≤ 100 ∧ y.a.length ≤ 100) := fun h => by unfold shortX at h; simpa using h
  generalize shortX y = sb at HS HSB
  obtain ⟨k, lg, A2, c2, iv, A3, c3, a⟩ := y
  simp only at HC HKS HSB q2 HY2 HY3
  obtain ⟨ki, hki⟩ : ∃ ki, iv.length = ki := ⟨_, rfl⟩
  obtain ⟨ka, hka⟩ : ∃ ka, a.length = ka := ⟨_, rfl⟩
  rw [hki, hka] at HC HSB
  rw [hki] at q2
  have HKI := Lib.hid hki; have HKA := Lib.hid hka
  clear hki hka
  by_cases hb : 100 < m'
  · have e1' : (100 : Int) < (m' : Int) := by omega
    go_enter Try.func9, Try.ntmps9
    go_wp2
    go_ret
    exact ⟨rfl, B0.out⟩
  have e1' : ¬ ((100 : Int) < (m' : Int)) := by omega
  have hb2' : m' ≤ 100 := by omega
  clear hb
  by_cases hb : 100 < m
  · have e1 : (100 : Int) < (m : Int) := by omega
    go_enter Try.func9, Try.ntmps9
    go_wp2
    go_ret
    exact ⟨rfl, B0.out⟩
  have e1 : ¬ ((100 : Int) < (m : Int)) := by omega
  have hb2 : m ≤ 100 := by omega
  clear hb
  go_enter Try.func9, Try.ntmps9
  go_upto_region 1 with (fail)
  generalize w.alloc _ = W0 at N0 B0 ⊢
  go_wp2_with (first
    | (refine wpList_ld rfl 25 (.tmp 3) rfl (HLD.out _ _ N0.out) ?_)
    | fail)
  refine (HS.out W0).mono ?_
  rintro e w1 ⟨rfl, hb1⟩
  have B1 : Hid (Below w.heap.size w w1) := B0.out.step hb1
  have N1 := Lib.hid ((hb1.block _ (lt_of_heap N0.out)).trans N0.out)
  clear hb1 B0 N0 HS
  cases sb with
  | false =>
    go_wp2_with fail
    go_ret
    exact ⟨rfl, B1.out⟩
  | true =>
  have HIA := Lib.hid (HSB.out rfl)
  clear HSB
  obtain ⟨d0, d1, d2⟩ := HC.out _ _ N1.out
  by_cases hi0 : ki = 0
  case pos =>
    have e2 : ((ki : Int) == 0) = true := by simp [hi0]
    clear hi0
    go_wp2_with fail
    go_ret
    exact ⟨rfl, B1.out⟩
  have e2 : ((ki : Int) == 0) = false := by simp; omega
  have hki0 : 0 < ki := by omega
  have hki1 : ki ≤ 100 := HIA.out.1
  have hka1 : ka ≤ 100 := HIA.out.2
  clear hi0 HIA
  go_wp2_with (first
    | (refine wpList_ld rfl 25 (.tmp 3) rfl (HLD.out _ _ N1.out) ?_)
    | fail)
  clear d0 d1 d2
  refine (HKS.out w1).mono ?_
  rintro e w2 ⟨p, E, rfl, hE0, hG, hb1⟩
  have K2 := Lib.hid hG
  have HEF := Lib.hid (hG.1.1 (firstG E iv) (firstG_len _ _))
  have B2 : Hid (Below w.heap.size w w2) := B1.out.step hb1
  have N2 := Lib.hid ((hb1.block _ (lt_of_heap N1.out)).trans N1.out)
  clear hE0 hG hb1 B1 N1 HKS
  have SE := Lib.hid (fun W hE S2 S3 S4 => gseal_any p E iv a b' A2 A3 A' ki c2 ka c3 m' c' W hE HKI.out hki0 (by omega) HKA.out HM'.out (by omega) (by omega) S2 S3 S4)
  have SO := Lib.hid (fun W hE S2 S3 S4 => gseal_any p E iv b b' A2 A A' ki c2 m c m' c' W hE HKI.out hki0 (by omega) HM.out HM'.out (by omega) (by omega) S2 S3 S4)
  have HXL : Hid ((sealG E (firstG E iv) a b').length = m' + 16) := by show _ = _; rw [sealG_len _ _ _ _ HEF.out, HM'.out]
  have HYL : Hid ((sealG E (firstG E iv) b b').length = m' + 16) := by show _ = _; rw [sealG_len _ _ _ _ HEF.out, HM'.out]
  have OP := Lib.hid (fun A4 c4 W hE S2 S3 S4 => gopen_any p E iv b (sealG E (firstG E iv) a b') A2 A A4 ki c2 m c (m' + 16) c4 m' W hE HKI.out hki0 (by omega) HM.out HXL.out (by omega) (by omega) rfl S2 S3 S4)
  have OT := Lib.hid (fun w w' v y h => openG_other (w := w) (w' := w') (E := E) (F := firstG E iv) (aad := a) (aad' := b) (b := b') (v := v) (y := y) HM'.out h)
  have TX := Lib.hid (sealG_take E (firstG E iv) a b' m' HM'.out)
  have TY := Lib.hid (sealG_take E (firstG E iv) b b' m' HM'.out)
  have HCL : Hid ((gcL E (firstG E iv) b').length = m') := by show _ = _; rw [gcL_len]; exact HM'.out
  generalize OpenG = OE at OP OT
  generalize gcL E (firstG E iv) b' = C at TX TY HCL
  generalize sealG E (firstG E iv) a b' = X at SE OP OT HXL TX
  generalize sealG E (firstG E iv) b b' = Y at SO OT HYL TY
  obtain ⟨d0, d1, d2⟩ := HC.out _ _ N2.out
  go_wp2_with fail
  clear d0 d1 d2
  refine (SE.out w2 K2.out (HY2.out.below B2.out) (HY3.out.below B2.out) (H'.out.below B2.out)).mono ?_
  rintro e w3 ⟨v3, rfl, hO, hb1⟩
  obtain ⟨A4, c4, rfl, hl3, h31, h32, hr3⟩ := own_read hO
  have S3 := Lib.hid (sl_mk hl3 h31 h32 hr3)
  have B3 : Hid (Below w.heap.size w w3) := B2.out.step hb1
  have N3 := Lib.hid ((hb1.block _ (lt_of_heap N2.out)).trans N2.out)
  have K3 := Lib.hid (K2.out.ext hb1)
  clear hl3 h31 h32 hr3 hO hb1 B2 N2 SE K2
  obtain ⟨d0, d1, d2⟩ := HC.out _ _ N3.out
  go_wp2_with fail
  clear d0 d1 d2
  refine (SO.out w3 K3.out (HY2.out.below B3.out) (H.out.below B3.out) (H'.out.below B3.out)).mono ?_
  rintro e w4 ⟨v4, rfl, hO, hb1⟩
  obtain ⟨A5, c5, rfl, hl3, h31, h32, hr3⟩ := own_read hO
  have S4 := Lib.hid (sl_mk hl3 h31 h32 hr3)
  have S3 := Lib.hid (S3.out.below hb1)
  have B4 : Hid (Below w.heap.size w w4) := B3.out.step hb1
  have N4 := Lib.hid ((hb1.block _ (lt_of_heap N3.out)).trans N3.out)
  have K4 := Lib.hid (K3.out.ext hb1)
  clear hl3 h31 h32 hr3 hO hb1 B3 N3 SO K3
  have hmc4 : m' ≤ c4 := by have := S3.out.1; rw [HXL.out] at this; omega
  have hmc5 : m' ≤ c5 := by have := S4.out.1; rw [HYL.out] at this; omega
  have sl1 := cut_to uT s8 A4 (m' + 16) c4 .i64 (m' : Int) (by omega) (by omega)
  have sl2 := cut_to uT s8 A5 (m' + 16) c5 .i64 (m' : Int) (by omega) (by omega)
  rw [Int.toNat_natCast] at sl1 sl2
  have P3 := Lib.hid (sl_take' (q := m') S3.out)
  have P4 := Lib.hid (sl_take' (q := m') S4.out)
  rw [TX.out] at P3
  rw [TY.out] at P4
  have hxx : ((strOf C).toList != (strOf C).toList) = false := by simp
  have z1 : ((m' : Int) + 16 != (m' : Int) + 16) = false := by simp
  have z2 : IntKind.i64.wrap ((m' : Int) + 16) = (m' : Int) + 16 := by rw [IntKind.wrap_i64]; omega
  have z3 : IntKind.i64.wrap (m' : Int) = (m' : Int) := by rw [IntKind.wrap_i64]; omega
  go_upto_region 8 with (fail)
  have HX : Hid (Ext w4 w4.drew) := (Below.refl _ _).drew
  refine reg_start (by kernel_rfl) ?_
  try simp only [Act.put, List.setIfInBounds_toArray, List.set_cons_zero, List.set_cons_succ]
  refine reg_take (v := ?_) 0 (some 60) rfl rfl (by kernel_rfl) (by kernel_rfl) (by kernel_rfl) (fun _ _ _ h => h) (by rfl) (fun W hW => ?_) ?_
  rotate_left
  · (go_simp; try rfl)
  simp only [Act.put, List.setIfInBounds_toArray, List.set_cons_zero, List.set_cons_succ]
  refine reg_take (v := ?_) 1 (some 61) rfl rfl (by kernel_rfl) (by kernel_rfl) (by kernel_rfl) (fun _ _ _ h => h) (by rfl) (fun W hW => ?_) ?_
  rotate_left
  · (go_simp; try rfl)
  simp only [Act.put, List.setIfInBounds_toArray, List.set_cons_zero, List.set_cons_succ]
  refine reg_take (v := ?_) 2 (some 62) rfl rfl (by kernel_rfl) (by kernel_rfl) (by kernel_rfl) (fun _ _ _ h => h) (by rfl) (fun W hW => ?_) ?_
  rotate_left
  · (go_simp; try rfl)
  simp only [Act.put, List.setIfInBounds_toArray, List.set_cons_zero, List.set_cons_succ]
  refine reg_take (v := ?_) 3 (some 63) rfl rfl (by kernel_rfl) (by kernel_rfl) (by kernel_rfl) (fun _ _ _ h => h) (by rfl) (fun W hW => ?_) ?_
  rotate_left
  · (go_simp; try rfl)
  simp only [Act.put, List.setIfInBounds_toArray, List.set_cons_zero, List.set_cons_succ]
  refine reg_take (v := ?_) 4 (some 64) rfl rfl (by kernel_rfl) (by kernel_rfl) (by kernel_rfl) (fun _ _ _ h => h) (by rfl) (fun W hW => ?_) ?_
  rotate_left
  · (go_simp; try rfl)
  simp only [Act.put, List.setIfInBounds_toArray, List.set_cons_zero, List.set_cons_succ]
  refine reg_take (v := ?_) 5 (some 65) rfl rfl (by kernel_rfl) (by kernel_rfl) (by kernel_rfl) (fun _ _ _ h => h) (by rfl) (fun W hW => ?_) ?_
  rotate_left
  · (go_simp; try rfl)
  simp only [Act.put, List.setIfInBounds_toArray, List.set_cons_zero, List.set_cons_succ]
  refine reg_take (v := ?_) 6 (some 66) rfl rfl (by kernel_rfl) (by kernel_rfl) (by kernel_rfl) (fun _ _ _ h => h) (by rfl) (fun W hW => ?_) ?_
  rotate_left
  · (go_simp; try rfl)
  simp only [Act.put, List.setIfInBounds_toArray, List.set_cons_zero, List.set_cons_succ]
  refine reg_take (v := ?_) 7 (some 67) rfl rfl (by kernel_rfl) (by kernel_rfl) (by kernel_rfl) (fun _ _ _ h => h) (by rfl) (fun W hW => ?_) ?_
  rotate_left
  · (go_simp; try rfl)
  simp only [Act.put, List.setIfInBounds_toArray, List.set_cons_zero, List.set_cons_succ]
  refine reg_take (v := ?_) 8 (some 68) rfl rfl (by kernel_rfl) (by kernel_rfl) (by kernel_rfl) (fun _ _ _ h => h) (by rfl) (fun W hW => ?_) ?_
  rotate_left
  · (go_simp; try rfl)
  simp only [Act.put, List.setIfInBounds_toArray, List.set_cons_zero, List.set_cons_succ]
  refine reg_take (v := ?_) 9 (some 69) rfl rfl (by kernel_rfl) (by kernel_rfl) (by kernel_rfl) (fun _ _ _ h => h) (by rfl) (fun W hW => ?_) ?_
  rotate_left
  · (go_simp; try rfl)
  simp only [Act.put, List.setIfInBounds_toArray, List.set_cons_zero, List.set_cons_succ]
  refine reg_take (v := ?_) 10 (some 70) rfl rfl (by kernel_rfl) (by kernel_rfl) (by kernel_rfl) (fun _ _ _ h => h) (by rfl) (fun W hW => ?_) ?_
  rotate_left
  · (go_simp; try rfl)
  simp only [Act.put, List.setIfInBounds_toArray, List.set_cons_zero, List.set_cons_succ]
  refine reg_take (v := ?_) 11 (some 71) rfl rfl (by kernel_rfl) (by kernel_rfl) (by kernel_rfl) (fun _ _ _ h => h) (by rfl) (fun W hW => ?_) ?_
  rotate_left
  · (go_simp; try rfl)
  simp only [Act.put, List.setIfInBounds_toArray, List.set_cons_zero, List.set_cons_succ]
  refine reg_take (v := ?_) 12 (some 72) rfl rfl (by kernel_rfl) (by kernel_rfl) (by kernel_rfl) (fun _ _ _ h => h) (by rfl) (fun W hW => ?_) ?_
  rotate_left
  · (go_simp; try rfl)
  simp only [Act.put, List.setIfInBounds_toArray, List.set_cons_zero, List.set_cons_succ]
  refine reg_take (v := ?_) 13 (some 73) rfl rfl (by kernel_rfl) (by kernel_rfl) (by kernel_rfl) (fun _ _ _ h => h) (by rfl) (fun W hW => ?_) ?_
  rotate_left
  · (go_simp; try rfl)
  simp only [Act.put, List.setIfInBounds_toArray, List.set_cons_zero, List.set_cons_succ]
  refine reg_take (v := ?_) 14 (some 74) rfl rfl (by kernel_rfl) (by kernel_rfl) (by kernel_rfl) (fun _ _ _ h => h) (by rfl) (fun W hW => ?_) ?_
  rotate_left
  · (go_simp; try rfl)
  simp only [Act.put, List.setIfInBounds_toArray, List.set_cons_zero, List.set_cons_succ]
  refine reg_take (v := ?_) 15 (some 75) rfl rfl (by kernel_rfl) (by kernel_rfl) (by kernel_rfl) (fun _ _ _ h => h) (by rfl) (fun W hW => ?_) ?_
  rotate_left
  · (go_simp; try rfl)
  simp only [Act.put, List.setIfInBounds_toArray, List.set_cons_zero, List.set_cons_succ]
  refine reg_take (v := ?_) 16 (some 76) rfl rfl (by kernel_rfl) (by kernel_rfl) (by kernel_rfl) (fun _ _ _ h => h) (by rfl) (fun W hW => ?_) ?_
  rotate_left
  · (go_simp; try rfl)
  simp only [Act.put, List.setIfInBounds_toArray, List.set_cons_zero, List.set_cons_succ]
  refine reg_take (v := ?_) 17 (some 77) rfl rfl (by kernel_rfl) (by kernel_rfl) (by kernel_rfl) (fun _ _ _ h => h) (by rfl) (fun W hW => ?_) ?_
  rotate_left
  · (go_simp; try rfl)
  simp only [Act.put, List.setIfInBounds_toArray, List.set_cons_zero, List.set_cons_succ]
  refine reg_take (v := ?_) 18 (some 78) rfl rfl (by kernel_rfl) (by kernel_rfl) (by kernel_rfl) (fun _ _ _ h => h) (by rfl) (fun W hW => ?_) ?_
  rotate_left
  · (go_simp; try rfl)
  simp only [Act.put, List.setIfInBounds_toArray, List.set_cons_zero, List.set_cons_succ]
  refine reg_take (v := ?_) 19 (some 79) rfl rfl (by kernel_rfl) (by kernel_rfl) (by kernel_rfl) (fun _ _ _ h => h) (by rfl) (fun W hW => ?_) ?_
  rotate_left
  · (go_simp; try rfl)
  simp only [Act.put, List.setIfInBounds_toArray, List.set_cons_zero, List.set_cons_succ]
  refine reg_take (v := ?_) 20 (some 80) rfl rfl (by kernel_rfl) (by kernel_rfl) (by kernel_rfl) (fun _ _ _ h => h) (by rfl) (fun W hW => ?_) ?_
  rotate_left
  · (go_simp; try rfl)
  simp only [Act.put, List.setIfInBounds_toArray, List.set_cons_zero, List.set_cons_succ]
  refine reg_take (v := ?_) 21 (some 81) rfl rfl (by kernel_rfl) (by kernel_rfl) (by kernel_rfl) (fun _ _ _ h => h) (by rfl) (fun W hW => ?_) ?_
  rotate_left
  · (go_simp; try rfl)
  simp only [Act.put, List.setIfInBounds_toArray, List.set_cons_zero, List.set_cons_succ]
  refine reg_take (v := ?_) 22 (some 82) rfl rfl (by kernel_rfl) (by kernel_rfl) (by kernel_rfl) (fun _ _ _ h => h) (by rfl) (fun W hW => ?_) ?_
  rotate_left
  · (go_simp; try rfl)
  simp only [Act.put, List.setIfInBounds_toArray, List.set_cons_zero, List.set_cons_succ]
  refine reg_take (v := ?_) 23 (some 83) rfl rfl (by kernel_rfl) (by kernel_rfl) (by kernel_rfl) (fun _ _ _ h => h) (by rfl) (fun W hW => ?_) ?_
  rotate_left
  · (go_simp; try rfl)
  simp only [Act.put, List.setIfInBounds_toArray, List.set_cons_zero, List.set_cons_succ]
  refine reg_take (v := ?_) 24 (some 84) rfl rfl (by kernel_rfl) (by kernel_rfl) (by kernel_rfl) (fun _ _ _ h => h) (by rfl) (fun W hW => ?_) ?_
  rotate_left
  · (go_simp; try rfl)
  simp only [Act.put, List.setIfInBounds_toArray, List.set_cons_zero, List.set_cons_succ]
  refine reg_take (v := ?_) 25 (some 85) rfl rfl (by kernel_rfl) (by kernel_rfl) (by kernel_rfl) (fun _ _ _ h => h) (by rfl) (fun W hW => ?_) ?_
  rotate_left
  · (go_simp; try rfl)
  simp only [Act.put, List.setIfInBounds_toArray, List.set_cons_zero, List.set_cons_succ]
  refine reg_conv 26 (some 86) (fun W hW => conv_string W A4 m' c4 C HCL.out (P3.out.below (HX.out.trans hW))) rfl rfl rfl rfl (by kernel_rfl) (by kernel_rfl) (by kernel_rfl) (fun _ _ _ h => h) (by rfl) ?_
  simp only [Act.put, List.setIfInBounds_toArray, List.set_cons_zero, List.set_cons_succ]
  refine reg_take (v := ?_) 27 (some 87) rfl rfl (by kernel_rfl) (by kernel_rfl) (by kernel_rfl) (fun _ _ _ h => h) (by rfl) (fun W hW => ?_) ?_
  rotate_left
  · (go_simp; try rfl)
  simp only [Act.put, List.setIfInBounds_toArray, List.set_cons_zero, List.set_cons_succ]
  refine reg_take (v := ?_) 28 (some 88) rfl rfl (by kernel_rfl) (by kernel_rfl) (by kernel_rfl) (fun _ _ _ h => h) (by rfl) (fun W hW => ?_) ?_
  rotate_left
  · (go_simp; try rfl)
  simp only [Act.put, List.setIfInBounds_toArray, List.set_cons_zero, List.set_cons_succ]
  refine reg_take (v := ?_) 29 (some 89) rfl rfl (by kernel_rfl) (by kernel_rfl) (by kernel_rfl) (fun _ _ _ h => h) (by rfl) (fun W hW => ?_) ?_
  rotate_left
  · (go_simp; try rfl)
  simp only [Act.put, List.setIfInBounds_toArray, List.set_cons_zero, List.set_cons_succ]
  refine reg_take (v := ?_) 30 (some 90) rfl rfl (by kernel_rfl) (by kernel_rfl) (by kernel_rfl) (fun _ _ _ h => h) (by rfl) (fun W hW => ?_) ?_
  rotate_left
  · (go_simp; try rfl)
  simp only [Act.put, List.setIfInBounds_toArray, List.set_cons_zero, List.set_cons_succ]
  refine reg_conv 31 (some 91) (fun W hW => conv_string W A5 m' c5 C HCL.out (P4.out.below (HX.out.trans hW))) rfl rfl rfl rfl (by kernel_rfl) (by kernel_rfl) (by kernel_rfl) (fun _ _ _ h => h) (by rfl) ?_
  simp only [Act.put, List.setIfInBounds_toArray, List.set_cons_zero, List.set_cons_succ]
  refine reg_take (v := ?_) 32 (some 92) rfl rfl (by kernel_rfl) (by kernel_rfl) (by kernel_rfl) (fun _ _ _ h => h) (by rfl) (fun W hW => ?_) ?_
  rotate_left
  · (go_simp; try rfl)
  simp only [Act.put, List.setIfInBounds_toArray, List.set_cons_zero, List.set_cons_succ]
  refine reg_take (v := ?_) 33 (some 93) rfl rfl (by kernel_rfl) (by kernel_rfl) (by kernel_rfl) (fun _ _ _ h => h) (by rfl) (fun W hW => ?_) ?_
  rotate_left
  · (go_simp; try rfl)
  simp only [Act.put, List.setIfInBounds_toArray, List.set_cons_zero, List.set_cons_succ]
  refine reg_done (by kernel_rfl) ?_
  have B5 : Hid (Below w.heap.size w w4.drew) := B4.out.step HX.out
  have N5 := Lib.hid ((HX.out.block _ (lt_of_heap N4.out)).trans N4.out)
  have K5 := Lib.hid (K4.out.ext HX.out)
  have S5 := Lib.hid (S3.out.below HX.out)
  have S6 := Lib.hid (S4.out.below HX.out)
  generalize w4.drew = w5 at B5 N5 K5 S5 S6 ⊢
  clear B4 N4 K4 S3 S4 P3 P4 sl1 sl2 hxx HX
  obtain ⟨d0, d1, d2⟩ := HC.out _ _ N5.out
  go_wp2_with fail
  clear d0 d1 d2
  refine (OP.out A4 c4 w5 K5.out (HY2.out.below B5.out) (H.out.below B5.out) S5.out).mono ?_
  rintro e w6 ⟨v6, y6, rfl, hO, hb1⟩
  have hy := OT.out _ _ _ _ hO
  have hbq := k_strOf_beq X Y
  have B6 : Hid (Below w.heap.size w w6) := B5.out.step hb1
  have cv1 := conv_string w6 A4 (m' + 16) c4 X HXL.out (S5.out.below hb1)
  have cv2 := conv_string w6 A5 (m' + 16) c5 Y HYL.out (S6.out.below hb1)
  clear hO hb1 B5 N5 OP OT K5
  generalize decide (X = Y) = bt at hy hbq
  cases bt with
  | true =>
    rw [if_pos rfl] at hy
    subst hy
    go_wp2_with fail
    refine (awake10_any w6).mono ?_
    rintro e w7 ⟨rfl, hb1⟩
    have B7 : Hid (Below w.heap.size w w7) := B6.out.step hb1
    clear cv1 cv2 hb1
    go_wp2
    go_ret
    exact ⟨rfl, B7.out⟩
  | false =>
    rw [if_neg (by decide)] at hy
    subst hy
    go_wp2_with fail
    refine (awake10_any w6).mono ?_
    rintro e w7 ⟨rfl, hb1⟩
    have B7 : Hid (Below w.heap.size w w7) := B6.out.step hb1
    clear cv1 cv2 hb1
    go_wp2
    go_ret
    exact ⟨rfl, B7.out⟩
end Go.Proofs.Ytkgbhlppadpdfaa
