/- Laws of layer 10: with one bit of the tag turned what is sealed is not opened. -/
import Derived.Test.YtkgbhlppadpdfaaGcm8
namespace Go.Proofs.Ytkgbhlppadpdfaa
open Go.RowKit
set_option maxRecDepth 100000
set_option linter.unusedVariables false
set_option linter.unusedSimpArgs false
theorem xorX_self_ne (x d : UInt8) (h : x = x ^^^ d) : d = 0 := by
  have := congrArg (x ^^^ ·) h
  simp only [UInt8.xor_self] at this
  rw [← UInt8.xor_assoc, UInt8.xor_self, UInt8.zero_xor] at this
  exact this.symm
theorem openG_turned {w w' : World} {E : List UInt8 → List UInt8} {F aad b : List UInt8} {m q : Nat} {d : UInt8} {v : Value} {y : Int} (hE : (E F).length = 16) (hm : b.length = m) (hq : q < 16) (hd : d ≠ 0)
    (h : OpenG w E F aad ((sealG E F aad b).set (m + q) ((sealG E F aad b).getD (m + q) 0 ^^^ d)) m v y w') : v = .slice none 0 0 ∧ y = 7 := by
  have hl : (gcL E F b).length = m := by rw [gcL_len]; exact hm
  have hT := tagG_len E F aad (gcL E F b) hE
  have e0 : (sealG E F aad b).set (m + q) ((sealG E F aad b).getD (m + q) 0 ^^^ d) = gcL E F b ++ (tagG E F aad (gcL E F b)).set q ((tagG E F aad (gcL E F b)).getD q 0 ^^^ d) := by
    rw [sealG, List.set_append_right _ _ (by omega), hl, Nat.add_sub_cancel_left]
    congr 3
    rw [List.getD_eq_getElem?_getD, List.getElem?_append_right (by omega), hl, Nat.add_sub_cancel_left, List.getD_eq_getElem?_getD]
  rw [e0] at h
  unfold OpenG at h
  rw [List.take_left' hl, List.drop_left' hl] at h
  rw [if_neg] at h
  · exact h
  · intro e
    generalize tagG E F aad (gcL E F b) = T at e hT
    have := congrArg (fun l => l.getD q 0) e
    simp only [List.getD_eq_getElem?_getD] at this
    rw [List.getElem?_set_self (by omega)] at this
    exact hd (xorX_self_ne _ _ this)
theorem bitX_byte8 : ∀ k, k < 8 → IntKind.u8.wrap (2 ^ k) = ((UInt8.ofNat (2 ^ k)).toNat : Int) ∧ UInt8.ofNat (2 ^ k) ≠ 0 := by decide
set_option maxHeartbeats 4000000 in
theorem gcmTurned_walk (w : World) (y : KeyX) (l : y.ok w) (A : Option Addr) (c : Nat) (b : List UInt8) (h : Sl w A c b) (bit : UInt8) :
    Calls Try.prog 6 #[.agg y.cells.toArray, .slice A b.length c, .int .u8 (bit.toNat : Int)] w fun e w' => e = .returned (.bool true) ∧ Below w.heap.size w w' := by
  obtain ⟨lk, l2, l3⟩ := l
  have q1 : b.length ≤ 9223372036854775807 := by have := h.1; have := h.2.1; simp [maxLen] at this; omega
  have q2 : y.iv.length ≤ 9223372036854775807 := by have := l2.1; have := l2.2.1; simp [maxLen] at this; omega
  have H := Lib.hid h; have HY2 := Lib.hid l2; have HY3 := Lib.hid l3
  obtain ⟨m, hm⟩ : ∃ m, b.length = m := ⟨_, rfl⟩
  have HM := Lib.hid hm
  rw [hm] at q1 ⊢
  have N0 := Lib.hid (heap_alloc_new' w (.cells y.cells.toArray 25))
  have B0 : Hid (Below w.heap.size w (w.alloc (.cells y.cells.toArray 25))) := (Below.refl _ _).alloc (Nat.le_refl _) _
  have HLD := Lib.hid (fun (W : World) (g : Nat) (hh : W.heap[g]? = some (.cells y.cells.toArray 25 (0, 0))) => ld_keyX hh lk)
  have HC := Lib.hid (fun (W : World) (g : Nat) (hh : W.heap[g]? = some (.cells y.cells.toArray 25 (0, 0))) => keyX_cells hh lk)
  have HS := Lib.hid (fun W => xshort_any y W lk)
  have HKS := Lib.hid (fun W => xkeys_any y W lk)
  clear h l2 l3 hm lk
  obtain ⟨Z, HZ⟩ : ∃ Z, Hid (y.cells.toArray = Z) := ⟨_, rfl⟩
  rw [HZ.out] at N0 B0 HLD HC HS HKS ⊢
  clear HZ
  have HSB : Hid (shortX y = true → y.iv.length ≤ 100 ∧ y.a.length ≤ 100) := fun h => by unfold shortX at h; simpa using h
  generalize shortX y = sb at HS HSB
  obtain ⟨k, lg, A2, c2, iv, A3, c3, a⟩ := y
  simp only at HC HKS HSB q2 HY2 HY3
  obtain ⟨ki, hki⟩ : ∃ ki, iv.length = ki := ⟨_, rfl⟩
  obtain ⟨ka, hka⟩ : ∃ ka, a.length = ka := ⟨_, rfl⟩
  rw [hki, hka] at HC HSB
  rw [hki] at q2
  have HKI := Lib.hid hki; have HKA := Lib.hid hka
  clear hki hka
  by_cases hb : 100 < m
  · have e1 : (100 : Int) < (m : Int) := by omega
    go_enter Try.func6, Try.ntmps6
    go_wp2
    go_ret
    exact ⟨rfl, B0.out⟩
  have e1 : ¬ ((100 : Int) < (m : Int)) := by omega
  have hb2 : m ≤ 100 := by omega
  clear hb
  go_enter Try.func6, Try.ntmps6
  go_upto_region 1 with (fail)
  generalize w.alloc _ = W0 at N0 B0 ⊢
  go_wp2_with (first
    | (refine wpList_ld rfl 25 (.tmp 3) rfl (HLD.out _ _ N0.out) ?_)
    | fail)
  refine (HS.out W0).mono ?_
  rintro e w1 ⟨rfl, hb1⟩
  have B1 : Hid (Below w.heap.size w w1) := B0.out.step hb1
  have N1 := Lib.hid ((hb1.block _ (lt_of_heap N0.out)).trans N0.out)
  clear hb1 B0 N0 HS
  cases sb with
  | false =>
    go_wp2_with fail
    go_ret
    exact ⟨rfl, B1.out⟩
  | true =>
  have HIA := Lib.hid (HSB.out rfl)
  clear HSB
  obtain ⟨d0, d1, d2⟩ := HC.out _ _ N1.out
  by_cases hi0 : ki = 0
  case pos =>
    have e2 : ((ki : Int) == 0) = true := by simp [hi0]
    clear hi0
    go_wp2_with fail
    go_ret
    exact ⟨rfl, B1.out⟩
  have e2 : ((ki : Int) == 0) = false := by simp; omega
  have hki0 : 0 < ki := by omega
  have hki1 : ki ≤ 100 := HIA.out.1
  have hka1 : ka ≤ 100 := HIA.out.2
  clear hi0 HIA
  go_wp2_with (first
    | (refine wpList_ld rfl 25 (.tmp 3) rfl (HLD.out _ _ N1.out) ?_)
    | fail)
  clear d0 d1 d2
  refine (HKS.out w1).mono ?_
  rintro e w2 ⟨p, E, rfl, hE0, hG, hb1⟩
  have K2 := Lib.hid hG
  have HEF := Lib.hid (hG.1.1 (firstG E iv) (firstG_len _ _))
  have B2 : Hid (Below w.heap.size w w2) := B1.out.step hb1
  have N2 := Lib.hid ((hb1.block _ (lt_of_heap N1.out)).trans N1.out)
  clear hE0 hG hb1 B1 N1 HKS
  have SE := Lib.hid (fun W hE S2 S3 S4 => gseal_any p E iv a b A2 A3 A ki c2 ka c3 m c W hE HKI.out hki0 (by omega) HKA.out HM.out (by omega) (by omega) S2 S3 S4)
  have HXL : Hid ((sealG E (firstG E iv) a b).length = m + 16) := by show _ = _; rw [sealG_len _ _ _ _ HEF.out, HM.out]
  have OP := Lib.hid (fun X' A4 c4 W (hX : X'.length = m + 16) hE S2 S3 S4 => gopen_any p E iv a X' A2 A3 A4 ki c2 ka c3 (m + 16) c4 m W hE HKI.out hki0 (by omega) HKA.out hX (by omega) (by omega) rfl S2 S3 S4)
  have OS := Lib.hid (fun w w' v y h => openG_seal (w := w) (w' := w') (E := E) (F := firstG E iv) (aad := a) (b := b) (v := v) (y := y) HM.out h)
  have OT := Lib.hid (fun q d w w' v y hq hd h => openG_turned (w := w) (w' := w') (E := E) (F := firstG E iv) (aad := a) (b := b) (q := q) (d := d) (v := v) (y := y) HEF.out HM.out hq hd h)
  generalize OpenG = OE at OP OS OT
  generalize sealG E (firstG E iv) a b = X at SE OP OS OT HXL
  obtain ⟨d0, d1, d2⟩ := HC.out _ _ N2.out
  go_wp2_with fail
  clear d0 d1 d2
  refine (SE.out w2 K2.out (HY2.out.below B2.out) (HY3.out.below B2.out) (H.out.below B2.out)).mono ?_
  rintro e w3 ⟨v3, rfl, hO, hb1⟩
  obtain ⟨A4, c4, rfl, hl3, h31, h32, hr3⟩ := own_read hO
  have S3 := Lib.hid (sl_mk hl3 h31 h32 hr3)
  have B3 : Hid (Below w.heap.size w w3) := B2.out.step hb1
  have N3 := Lib.hid ((hb1.block _ (lt_of_heap N2.out)).trans N2.out)
  have K3 := Lib.hid (K2.out.ext hb1)
  have hm31 : 0 + (m + 16) ≤ 2147483647 := by omega
  clear hl3 h31 h32 hr3 hO hb1 B2 N2 SE K2
  go_upto_region 10 with (
    at_builtin
    refine wpList_app8 rfl (.tmp 58) (.tmp 59) rfl w3.heap.size _ 0 [] rfl ?_ A4 (m + 16) c4 w3.heap.size X rfl ?_ ?_ ?_ ?_ ?_
    · exact own_heap (g := w3.heap.size) (heap_alloc_new' w3 _) (Nat.le_refl _) rfl (Nat.zero_le _)
    · exact S3.out.2.2.below ((Below.refl _ _).alloc (Nat.le_refl _) _)
    · exact HXL.out
    · exact hm31
    · simp
    rintro v4 w4 hown hgr
    have HB4 := Lib.hid (((Below.refl w3.heap.size w3).alloc (Nat.le_refl _) _).grown hgr (by simp) (ge_own w3.heap.size 0))
    rw [List.nil_append, Nat.zero_add] at hown
    have HO4 := Lib.hid hown
    clear hgr hown)
  obtain ⟨g5, cap, cur, rfl, hg5, hcur, hS5, hcp, hcs, _⟩ := o_open' HO4.out (by omega)
  have C4 := Lib.hid hcur
  have HCP := Lib.hid hcp
  have HG5 : Hid (w3.heap.size ≤ g5) := hg5
  have T4 := Lib.hid hS5
  clear hcur hcp hcs hg5 hS5 HO4
  obtain ⟨nn, hnn⟩ : ∃ nn, nn = bit.toNat % 128 := ⟨_, rfl⟩
  obtain ⟨kq, hkq⟩ : ∃ kq, kq = nn / 8 := ⟨_, rfl⟩
  obtain ⟨kr, hkr⟩ : ∃ kr, kr = nn % 8 := ⟨_, rfl⟩
  have e3 : (bit.toNat : Int) % 128 = (nn : Int) := by omega
  have e3' : (bit.toNat : Int).tmod 128 = (nn : Int) := by rw [Int.tmod_eq_emod_of_nonneg (by omega)]; exact e3
  have e4 : (nn : Int) / 8 = (kq : Int) := by omega
  have e4' : (nn : Int).tdiv 8 = (kq : Int) := by rw [Int.tdiv_eq_ediv_of_nonneg (by omega)]; exact e4
  have e5 : (nn : Int) % 8 = (kr : Int) := by omega
  have e5' : (nn : Int).tmod 8 = (kr : Int) := by rw [Int.tmod_eq_emod_of_nonneg (by omega)]; exact e5
  have hkq16 : kq < 16 := by omega
  have hkr8 : kr < 8 := by omega
  have hb256 : bit.toNat < 256 := bit.toNat_lt
  clear hnn hkq hkr
  obtain ⟨pq, hpq⟩ : ∃ pq, pq = m + kq := ⟨_, rfl⟩
  have e6 : (m : Int) + (kq : Int) = (pq : Int) := by omega
  have hpq1 : pq < m + 16 := by omega
  have hpq2 : (pq : Int) < (m : Int) + 16 := by omega
  have HPQ := Lib.hid hpq
  have y1 : IntKind.i64.wrap (kq : Int) = (kq : Int) := by rw [IntKind.wrap_i64]; omega
  have y2 : IntKind.i64.wrap (pq : Int) = (pq : Int) := by rw [IntKind.wrap_i64]; omega
  have y3 : IntKind.i64.wrap (kr : Int) = (kr : Int) := by rw [IntKind.wrap_i64]; omega
  clear hpq
  go_upto_region 11 with (fail)
  have c5 := o_sl_cell T4.out (k := pq) (by rw [HXL.out]; exact hpq1)
  have fz := frozen_of_heap C4.out pq
  have hcp2 := HCP.out
  obtain ⟨y4, hdb⟩ := bitX_byte8 kr hkr8
  generalize UInt8.ofNat (2 ^ kr) = db at y4 hdb
  have HDB := Lib.hid hdb
  have SX := Lib.hid (fun (t : TypeId) (fr : Nat × Nat) (x : UInt8) (W : World) (hS : Sl W (some ⟨g5, 0, none⟩) cap X) (hc : W.heap[g5]? = some (.cells cur t fr)) => o_sl_set (x := x) (k := pq) hS hc (by rw [HXL.out]; exact hpq1))
  have HXE : Hid (X.set pq (X.getD pq 0 ^^^ db) = X.set (m + kq) (X.getD (m + kq) 0 ^^^ db)) := by show _ = _; rw [HPQ.out]
  obtain ⟨xb, HXB⟩ : ∃ xb, Hid (X.getD pq 0 = xb) := ⟨_, rfl⟩
  rw [HXB.out] at c5 HXE
  have hxb : xb.toNat < 256 := xb.toNat_lt
  have y5 := xor8 xb db
  obtain ⟨xy, HXY⟩ : ∃ xy, Hid (xb ^^^ db = xy) := ⟨_, rfl⟩
  rw [HXY.out] at y5 HXE
  go_still_tail 13, (by kernel_rfl)
  change wpList _ _ _ _ _ w4.drew
  go_upto_region 12 with (fail)
  clear c5 fz
  have T5 : Hid (Sl (w4.setCell ⟨g5, pq, none⟩ (.int .u8 (xy.toNat : Int))).drew (some ⟨g5, 0, none⟩) cap (X.set pq xy)) := SX.out _ _ xy w4 T4.out C4.out
  have B34 : Hid (Below w3.heap.size w3 (w4.setCell ⟨g5, pq, none⟩ (.int .u8 (xy.toNat : Int))).drew) := (HB4.out.setCell HG5.out _).drew
  generalize (w4.setCell _ _).drew = W4 at T5 B34 ⊢
  have B4 : Hid (Below w.heap.size w W4) := B3.out.step B34.out
  have N4 := Lib.hid ((B34.out.block _ (lt_of_heap N3.out)).trans N3.out)
  have K4 := Lib.hid (K3.out.ext B34.out)
  have S4 := Lib.hid (S3.out.below B34.out)
  clear C4 HCP B3 N3 S3 T4 SX e3 e3' e4 e4' e5 e5' e6 y1 y2 y3 y4 y5 hcp2 K3 B34 HB4 HG5
  obtain ⟨d0, d1, d2⟩ := HC.out _ _ N4.out
  go_wp2_with fail
  clear d0 d1 d2
  refine (OP.out _ (some ⟨g5, 0, none⟩) cap W4 (by rw [List.length_set]; exact HXL.out) K4.out (HY2.out.below B4.out) (HY3.out.below B4.out) T5.out).mono ?_
  rintro e w5 ⟨v5, y5, rfl, hO, hb1⟩
  rw [HXE.out] at hO
  obtain ⟨rfl, rfl⟩ := OT.out _ _ _ _ _ _ hkq16 HDB.out hO
  have B5 : Hid (Below w.heap.size w w5) := B4.out.step hb1
  have N5 := Lib.hid ((hb1.block _ (lt_of_heap N4.out)).trans N4.out)
  have K5 := Lib.hid (K4.out.ext hb1)
  have S5 := Lib.hid (S4.out.below hb1)
  clear hO hb1 B4 N4 OT S4 K4 T5
  obtain ⟨d0, d1, d2⟩ := HC.out _ _ N5.out
  go_wp2_with fail
  clear d0 d1 d2
  refine (OP.out X A4 c4 w5 HXL.out K5.out (HY2.out.below B5.out) (HY3.out.below B5.out) S5.out).mono ?_
  rintro e w6 ⟨v6, y6, rfl, hO, hb1⟩
  obtain ⟨rfl, hO2⟩ := OS.out _ _ _ _ hO
  obtain ⟨A6, c6, rfl, hl3, h31, h32, hr3⟩ := own_read hO2
  have S6 := Lib.hid (sl_mk hl3 h31 h32 hr3)
  have B6 : Hid (Below w.heap.size w w6) := B5.out.step hb1
  clear hl3 h31 h32 hr3 hO2 hO hb1 B5 N5 OP OS K5
  have cv1 := conv_string w6 A6 m c6 b HM.out S6.out
  have cv2 := conv_string w6 A m c b HM.out (H.out.below B6.out)
  have hxx : ((strOf b).toList == (strOf b).toList) = true := by simp
  go_wp2_with fail
  refine (awake10_any w6).mono ?_
  rintro e w7 ⟨rfl, hb1⟩
  have B7 : Hid (Below w.heap.size w w7) := B6.out.step hb1
  clear cv1 cv2 hb1
  go_wp2
  go_ret
  exact ⟨rfl, B7.out⟩
end Go.Proofs.Ytkgbhlppadpdfaa
