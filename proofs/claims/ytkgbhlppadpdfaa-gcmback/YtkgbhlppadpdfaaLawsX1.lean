/- Laws of layer 10: what is sealed is opened to what it was. -/
import Derived.Test.YtkgbhlppadpdfaaGcm8
namespace Go.Proofs.Ytkgbhlppadpdfaa
open Go.RowKit
set_option maxRecDepth 100000
set_option linter.unusedVariables false
set_option linter.unusedSimpArgs false
set_option maxHeartbeats 4000000 in
theorem gcmBack_walk (w : World) (y : KeyX) (l : y.ok w) (A : Option Addr) (c : Nat) (b : List UInt8) (h : Sl w A c b) :
    Calls Try.prog 5 #[.agg y.cells.toArray, .slice A b.length c] w fun e w' => e = .returned (.bool true) ∧ Below w.heap.size w w' := by
  obtain ⟨lk, l2, l3⟩ := l
  have q1 : b.length ≤ 9223372036854775807 := by have := h.1; have := h.2.1; simp [maxLen] at this; omega
  have q2 : y.iv.length ≤ 9223372036854775807 := by have := l2.1; have := l2.2.1; simp [maxLen] at this; omega
  have H := Lib.hid h; have HY2 := Lib.hid l2; have HY3 := Lib.hid l3
  obtain ⟨m, hm⟩ : ∃ m, b.length = m := ⟨_, rfl⟩
  have HM := Lib.hid hm
  rw [hm] at q1 ⊢
  have N0 := Lib.hid (heap_alloc_new' w (.cells y.cells.toArray 25))
  have B0 : Hid (Below w.heap.size w (w.alloc (.cells y.cells.toArray 25))) := (Below.refl _ _).alloc (Nat.le_refl _) _
  have HLD := Lib.hid (fun (W : World) (g : Nat) (hh : W.heap[g]? = some (.cells y.cells.toArray 25 (0, 0))) => ld_keyX hh lk)
  have HC := Lib.hid (fun (W : World) (g : Nat) (hh : W.heap[g]? = some (.cells y.cells.toArray 25 (0, 0))) => keyX_cells hh lk)
  have HS := Lib.hid (fun W => xshort_any y W lk)
  have HKS := Lib.hid (fun W => xkeys_any y W lk)
  clear h l2 l3 hm lk
  obtain ⟨Z, HZ⟩ : ∃ Z, Hid (y.cells.toArray = Z) := ⟨_, rfl⟩
  rw [HZ.out] at N0 B0 HLD HC HS HKS ⊢
  clear HZ
  have HSB : Hid (shortX y = true → y.iv.length ≤ 100 ∧ y.a.length ≤ 100) := fun h => by unfold shortX at h; simpa using h
  generalize shortX y = sb at HS HSB
  obtain ⟨k, lg, A2, c2, iv, A3, c3, a⟩ := y
  simp only at HC HKS HSB q2 HY2 HY3
  obtain ⟨ki, hki⟩ : ∃ ki, iv.length = ki := ⟨_, rfl⟩
  obtain ⟨ka, hka⟩ : ∃ ka, a.length = ka := ⟨_, rfl⟩
  rw [hki, hka] at HC HSB
  rw [hki] at q2
  have HKI := Lib.hid hki; have HKA := Lib.hid hka
  clear hki hka
  by_cases hb : 100 < m
  · have e1 : (100 : Int) < (m : Int) := by omega
    go_enter Try.func5, Try.ntmps5
    go_wp2
    go_ret
    exact ⟨rfl, B0.out⟩
  have e1 : ¬ ((100 : Int) < (m : Int)) := by omega
  have hb2 : m ≤ 100 := by omega
  clear hb
  go_enter Try.func5, Try.ntmps5
  go_upto_region 1 with (fail)
  generalize w.alloc _ = W0 at N0 B0 ⊢
  go_wp2_with (first
    | (refine wpList_ld rfl 25 (.tmp 2) rfl (HLD.out _ _ N0.out) ?_)
    | fail)
  refine (HS.out W0).mono ?_
  rintro e w1 ⟨rfl, hb1⟩
  have B1 : Hid (Below w.heap.size w w1) := B0.out.step hb1
  have N1 := Lib.hid ((hb1.block _ (lt_of_heap N0.out)).trans N0.out)
  clear hb1 B0 N0 HS
  cases sb with
  | false =>
    go_wp2_with fail
    go_ret
    exact ⟨rfl, B1.out⟩
  | true =>
  have HIA := Lib.hid (HSB.out rfl)
  clear HSB
  obtain ⟨d0, d1, d2⟩ := HC.out _ _ N1.out
  by_cases hi0 : ki = 0
  case pos =>
    have e2 : ((ki : Int) == 0) = true := by simp [hi0]
    clear hi0
    go_wp2_with fail
    go_ret
    exact ⟨rfl, B1.out⟩
  have e2 : ((ki : Int) == 0) = false := by simp; omega
  have hki0 : 0 < ki := by omega
  have hki1 : ki ≤ 100 := HIA.out.1
  have hka1 : ka ≤ 100 := HIA.out.2
  clear hi0 HIA
  go_wp2_with (first
    | (refine wpList_ld rfl 25 (.tmp 2) rfl (HLD.out _ _ N1.out) ?_)
    | fail)
  clear d0 d1 d2
  refine (HKS.out w1).mono ?_
  rintro e w2 ⟨p, E, rfl, hE0, hG, hb1⟩
  have K2 := Lib.hid hG
  have HEF := Lib.hid (hG.1.1 (firstG E iv) (firstG_len _ _))
  have B2 : Hid (Below w.heap.size w w2) := B1.out.step hb1
  have N2 := Lib.hid ((hb1.block _ (lt_of_heap N1.out)).trans N1.out)
  clear hE0 hG hb1 B1 N1 HKS
  have SE := Lib.hid (fun W hE S2 S3 S4 => gseal_any p E iv a b A2 A3 A ki c2 ka c3 m c W hE HKI.out hki0 (by omega) HKA.out HM.out (by omega) (by omega) S2 S3 S4)
  have OP := Lib.hid (fun A4 c4 W hE S2 S3 S4 => gopen_any p E iv a (sealG E (firstG E iv) a b) A2 A3 A4 ki c2 ka c3 (m + 16) c4 m W hE HKI.out hki0 (by omega) HKA.out (by rw [sealG_len _ _ _ _ HEF.out, HM.out]) (by omega) (by omega) rfl S2 S3 S4)
  have OS := Lib.hid (fun w w' v y h => openG_seal (w := w) (w' := w') (E := E) (F := firstG E iv) (aad := a) (b := b) (v := v) (y := y) HM.out h)
  generalize OpenG = OE at OP OS
  generalize sealG E (firstG E iv) a b = X at SE OP OS
  obtain ⟨d0, d1, d2⟩ := HC.out _ _ N2.out
  go_wp2_with fail
  clear d0 d1 d2
  refine (SE.out w2 K2.out (HY2.out.below B2.out) (HY3.out.below B2.out) (H.out.below B2.out)).mono ?_
  rintro e w3 ⟨v3, rfl, hO, hb1⟩
  obtain ⟨A4, c4, rfl, hl3, h31, h32, hr3⟩ := own_read hO
  have S3 := Lib.hid (sl_mk hl3 h31 h32 hr3)
  have B3 : Hid (Below w.heap.size w w3) := B2.out.step hb1
  have N3 := Lib.hid ((hb1.block _ (lt_of_heap N2.out)).trans N2.out)
  have K3 := Lib.hid (K2.out.ext hb1)
  clear hl3 h31 h32 hr3 hO hb1 B2 N2 SE K2
  obtain ⟨d0, d1, d2⟩ := HC.out _ _ N3.out
  go_wp2_with fail
  clear d0 d1 d2
  refine (OP.out A4 c4 w3 K3.out (HY2.out.below B3.out) (HY3.out.below B3.out) S3.out).mono ?_
  rintro e w4 ⟨v4, y4, rfl, hO, hb1⟩
  obtain ⟨rfl, hO2⟩ := OS.out _ _ _ _ hO
  obtain ⟨A5, c5, rfl, hl3, h31, h32, hr3⟩ := own_read hO2
  have S4 := Lib.hid (sl_mk hl3 h31 h32 hr3)
  have B4 : Hid (Below w.heap.size w w4) := B3.out.step hb1
  clear hl3 h31 h32 hr3 hO2 hO hb1 B3 N3 OP OS K3
  have cv1 := conv_string w4 A5 m c5 b HM.out S4.out
  have cv2 := conv_string w4 A m c b HM.out (H.out.below B4.out)
  have hxx : ((strOf b).toList == (strOf b).toList) = true := by simp
  go_wp2_with fail
  refine (awake10_any w4).mono ?_
  rintro e w5 ⟨rfl, hb1⟩
  have B5 : Hid (Below w.heap.size w w5) := B4.out.step hb1
  clear cv1 cv2 hb1
  go_wp2
  go_ret
  exact ⟨rfl, B5.out⟩
end Go.Proofs.Ytkgbhlppadpdfaa
