/- Laws of layer 11: what is sealed is opened to what it was. -/
import Derived.Test.YtcpmfekekidhfaaAed6
import Derived.Deep.MidRow
namespace Go.Proofs.Ytcpmfekekidhfaa
open Go.RowKit
set_option linter.unusedVariables false
set_option linter.unusedSimpArgs false
set_option maxRecDepth 100000
theorem keyE_range {W : World} {g : Nat} {y : KeyE} {t : TypeId} {fr : Nat × Nat} (h : W.heap[g]? = some (.cells y.cells.toArray t fr)) : W.rangeAt g 0 y.cells := fun j v hv => by
  rw [cell_of_heap h, Nat.zero_add]; exact hv
theorem iKeyE (y : KeyE) : (Try.prog.info? 24).map (·.size) = some y.cells.length := by
  show _ = some 3; kernel_rfl
theorem ld_keyE {W : World} {g : Nat} {y : KeyE} {t : TypeId} {fr : Nat × Nat} (h : W.heap[g]? = some (.cells y.cells.toArray t fr)) : (Instr.loadAt 24 (.pointer (some ⟨g, 0, none⟩))).run Try.prog W = .ok (.agg y.cells.toArray) W :=
  run_loadAt_mid W g 0 24 y.cells _ (keyE_range h) Try.underlying24 rfl (iKeyE y)
/-- what the laws ask ahead -/
theorem wrongB_zero {y : KeyE} (h : wrongB y = 0) : y.k.length = 32 ∧ y.n.length = 12 := by
  unfold wrongB at h
  by_cases h1 : y.k.length = 32
  · by_cases h2 : y.n.length = 12
    · exact ⟨h1, h2⟩
    · rw [if_pos h1, if_neg h2] at h; omega
  · rw [if_neg h1] at h; omega
theorem shortB_true {y : KeyE} (h : shortB y = true) : y.a.length ≤ 200 := by
  unfold shortB at h
  simp at h
  exact h.2.2
set_option maxHeartbeats 4000000 in
theorem aeadBack_walk (w : World) (y : KeyE) (l : y.ok w) (A : Option Addr) (c : Nat) (b : List UInt8) (h : Sl w A c b) :
    Calls Try.prog 5 #[.agg y.cells.toArray, .slice A b.length c] w fun e w' => e = .returned (.bool true) ∧ Below w.heap.size w w' := by
  have q1 : b.length ≤ 9223372036854775807 := by have := h.1; have := h.2.1; simp [maxLen] at this; omega
  have H := Lib.hid h; have HY := Lib.hid l
  obtain ⟨m, hm⟩ : ∃ m, b.length = m := ⟨_, rfl⟩
  have HM := Lib.hid hm
  rw [hm] at q1 ⊢
  clear h l hm
  have N0 := Lib.hid (heap_alloc_new' w (.cells y.cells.toArray 24))
  have B0 : Hid (Below w.heap.size w (w.alloc (.cells y.cells.toArray 24))) := (Below.refl _ _).alloc (Nat.le_refl _) _
  have HLD := Lib.hid (fun (W : World) (g : Nat) (hh : W.heap[g]? = some (.cells y.cells.toArray 24 (0, 0))) => ld_keyE hh)
  have HC := Lib.hid (fun (W : World) (g : Nat) (hh : W.heap[g]? = some (.cells y.cells.toArray 24 (0, 0))) => keyE_cells hh)
  have HS := Lib.hid (fun W => eshort_any y W)
  have HW := Lib.hid (fun W => ewrong_any y W)
  obtain ⟨Z, HZ⟩ : ∃ Z, Hid (y.cells.toArray = Z) := ⟨_, rfl⟩
  rw [HZ.out] at N0 B0 HLD HC HS HW ⊢
  clear HZ
  by_cases hb : 200 < m
  · have e1 : (200 : Int) < (m : Int) := by omega
    go_enter Try.func5, Try.ntmps5
    go_wp2
    go_ret
    exact ⟨rfl, B0.out⟩
  have e1 : ¬ ((200 : Int) < (m : Int)) := by omega
  have hb2 : m ≤ 200 := by omega
  clear hb
  go_enter Try.func5, Try.ntmps5
  go_upto_region 1 with (fail)
  generalize w.alloc _ = W0 at N0 B0 ⊢
  go_wp2_with (first
    | (refine wpList_ld rfl 24 (.tmp 2) rfl (HLD.out _ _ N0.out) ?_)
    | fail)
  refine (HS.out W0).mono ?_
  rintro e w1 ⟨rfl, hb1⟩
  have B1 : Hid (Below w.heap.size w w1) := B0.out.step hb1
  have N1 := Lib.hid ((hb1.block _ (lt_of_heap N0.out)).trans N0.out)
  clear hb1 B0 N0 HS
  have HSB : Hid (shortB y = true → y.a.length ≤ 200) := shortB_true
  generalize shortB y = sb at HSB ⊢
  cases sb with
  | false =>
    go_wp2_with fail
    go_ret
    exact ⟨rfl, B1.out⟩
  | true =>
  have HA : Hid (y.a.length ≤ 200) := HSB.out rfl
  clear HSB
  go_wp2_with (first
    | (refine wpList_ld rfl 24 (.tmp 2) rfl (HLD.out _ _ N1.out) ?_)
    | fail)
  refine (HW.out w1).mono ?_
  rintro e w2 ⟨rfl, hb1⟩
  have B2 : Hid (Below w.heap.size w w2) := B1.out.step hb1
  have N2 := Lib.hid ((hb1.block _ (lt_of_heap N1.out)).trans N1.out)
  clear hb1 B1 N1 HW
  have HWB : Hid (wrongB y = 0 → y.k.length = 32 ∧ y.n.length = 12) := wrongB_zero
  generalize wrongB y = wb at HWB ⊢
  by_cases hwb : wb = 0
  case neg =>
    have e2 : (wb != 0) = true := by simp [hwb]
    clear hwb HWB
    go_wp2_with fail
    go_ret
    exact ⟨rfl, B2.out⟩
  subst hwb
  have HKN := Lib.hid (HWB.out rfl)
  clear HWB
  obtain ⟨A1, c1, k, A2, c2, n, A3, c3, a⟩ := y
  have HY1 := Lib.hid HY.out.1; have HY2 := Lib.hid HY.out.2.1; have HY3 := Lib.hid HY.out.2.2
  have HK := Lib.hid HKN.out.1; have HN := Lib.hid HKN.out.2
  clear HY HKN HLD
  simp only at HC HY1 HY2 HY3 HK HN HA
  rw [HK.out, HN.out] at HC
  obtain ⟨ka, hka⟩ : ∃ ka, a.length = ka := ⟨_, rfl⟩
  rw [hka] at HC HA
  have HKA := Lib.hid hka
  have hka2 : ka ≤ 200 := HA.out
  clear hka HA
  have SE := Lib.hid (fun W S1 S2 S3 S4 => aseal_any k n a b A1 A2 A3 A c1 c2 ka c3 m c W HK.out HN.out HKA.out HM.out (by omega) (by omega) S1 S2 S3 S4)
  have OP := Lib.hid (fun A4 c4 W S1 S2 S3 S4 => aopen_any k n a (sealE k n a b) A1 A2 A3 A4 c1 c2 ka c3 (m + 16) c4 m W HK.out HN.out HKA.out (by rw [sealE_len, HM.out]) (by omega) (by omega) rfl S1 S2 S3 S4)
  have OS := Lib.hid (fun w w' v y h => openE_seal (w := w) (w' := w') (key := k) (nonce := n) (aad := a) (b := b) (v := v) (y := y) HM.out h)
  generalize OpenE = OE at OP OS
  generalize sealE k n a b = X at SE OP OS
  obtain ⟨d0, d1, d2⟩ := HC.out _ _ N2.out
  go_wp2_with fail
  clear d0 d1 d2
  refine (SE.out w2 (HY1.out.below B2.out) (HY2.out.below B2.out) (HY3.out.below B2.out) (H.out.below B2.out)).mono ?_
  rintro e w3 ⟨v3, rfl, hO, hb1⟩
  obtain ⟨A4, c4, rfl, hl3, h31, h32, hr3⟩ := own_read hO
  have S3 := Lib.hid (sl_mk hl3 h31 h32 hr3)
  have B3 : Hid (Below w.heap.size w w3) := B2.out.step hb1
  have N3 := Lib.hid ((hb1.block _ (lt_of_heap N2.out)).trans N2.out)
  clear hl3 h31 h32 hr3 hO hb1 B2 N2 SE
  obtain ⟨d0, d1, d2⟩ := HC.out _ _ N3.out
  go_wp2_with fail
  clear d0 d1 d2
  refine (OP.out A4 c4 w3 (HY1.out.below B3.out) (HY2.out.below B3.out) (HY3.out.below B3.out) S3.out).mono ?_
  rintro e w4 ⟨v4, y4, rfl, hO, hb1⟩
  obtain ⟨rfl, hO2⟩ := OS.out _ _ _ _ hO
  obtain ⟨A5, c5, rfl, hl3, h31, h32, hr3⟩ := own_read hO2
  have S4 := Lib.hid (sl_mk hl3 h31 h32 hr3)
  have B4 : Hid (Below w.heap.size w w4) := B3.out.step hb1
  clear hl3 h31 h32 hr3 hO2 hO hb1 B3 N3 OP OS
  have cv1 := conv_string w4 A5 m c5 b HM.out S4.out
  have cv2 := conv_string w4 A m c b HM.out (H.out.below B4.out)
  have hxx : ((strOf b).toList == (strOf b).toList) = true := by simp
  go_wp2_with fail
  refine (awake11_any w4).mono ?_
  rintro e w5 ⟨rfl, hb1⟩
  have B5 : Hid (Below w.heap.size w w5) := B4.out.step hb1
  clear cv1 cv2 hb1
  go_wp2
  go_ret
  exact ⟨rfl, B5.out⟩
end Go.Proofs.Ytcpmfekekidhfaa
