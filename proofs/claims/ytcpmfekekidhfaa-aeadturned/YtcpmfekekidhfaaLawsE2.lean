/- Laws of layer 11: with one bit of the tag turned what is sealed is not opened. -/
import Derived.Test.YtcpmfekekidhfaaLawsE1
namespace Go.Proofs.Ytcpmfekekidhfaa
open Go.RowKit
set_option linter.unusedVariables false
set_option linter.unusedSimpArgs false
set_option maxRecDepth 100000
theorem xor_self_ne (x d : UInt8) (h : x = x ^^^ d) : d = 0 := by
  have := congrArg (x ^^^ ·) h
  simp only [UInt8.xor_self] at this
  rw [← UInt8.xor_assoc, UInt8.xor_self, UInt8.zero_xor] at this
  exact this.symm
theorem openE_turned {w w' : World} {key nonce aad b : List UInt8} {m q : Nat} {d : UInt8} {v : Value} {y : Int} (hm : b.length = m) (hq : q < 16) (hd : d ≠ 0)
    (h : OpenE w key nonce aad ((sealE key nonce aad b).set (m + q) ((sealE key nonce aad b).getD (m + q) 0 ^^^ d)) m v y w') : v = .slice none 0 0 ∧ y = 7 := by
  have hl : (cryptC key nonce 1#32 b).length = m := by rw [cryptC_len]; exact hm
  have hT := tagL_len key nonce aad (cryptC key nonce 1#32 b)
  have e0 : (sealE key nonce aad b).set (m + q) ((sealE key nonce aad b).getD (m + q) 0 ^^^ d) = cryptC key nonce 1#32 b ++ (tagL key nonce aad (cryptC key nonce 1#32 b)).set q ((tagL key nonce aad (cryptC key nonce 1#32 b)).getD q 0 ^^^ d) := by
    rw [sealE, List.set_append_right _ _ (by omega), hl, Nat.add_sub_cancel_left]
    congr 3
    rw [List.getD_eq_getElem?_getD, List.getElem?_append_right (by omega), hl, Nat.add_sub_cancel_left, List.getD_eq_getElem?_getD]
  rw [e0] at h
  unfold OpenE at h
  rw [List.take_left' hl, List.drop_left' hl] at h
  rw [if_neg] at h
  · exact h
  · intro e
    generalize tagL key nonce aad (cryptC key nonce 1#32 b) = T at e hT
    have := congrArg (fun l => l.getD q 0) e
    simp only [List.getD_eq_getElem?_getD] at this
    rw [List.getElem?_set_self (by omega)] at this
    exact hd (xor_self_ne _ _ this)
theorem bit_byte8 : ∀ k, k < 8 → IntKind.u8.wrap (2 ^ k) = ((UInt8.ofNat (2 ^ k)).toNat : Int) ∧ UInt8.ofNat (2 ^ k) ≠ 0 := by decide
set_option maxHeartbeats 4000000 in
theorem aeadTurned_walk (w : World) (y : KeyE) (l : y.ok w) (A : Option Addr) (c : Nat) (b : List UInt8) (h : Sl w A c b) (bit : UInt8) :
    Calls Try.prog 6 #[.agg y.cells.toArray, .slice A b.length c, .int .u8 (bit.toNat : Int)] w fun e w' => e = .returned (.bool true) ∧ Below w.heap.size w w' := by
  have q1 : b.length ≤ 9223372036854775807 := by have := h.1; have := h.2.1; simp [maxLen] at this; omega
  have H := Lib.hid h; have HY := Lib.hid l
  obtain ⟨m, hm⟩ : ∃ m, b.length = m := ⟨_, rfl⟩
  have HM := Lib.hid hm
  rw [hm] at q1 ⊢
  clear h l hm
  have N0 := Lib.hid (heap_alloc_new' w (.cells y.cells.toArray 24))
  have B0 : Hid (Below w.heap.size w (w.alloc (.cells y.cells.toArray 24))) := (Below.refl _ _).alloc (Nat.le_refl _) _
  have HLD := Lib.hid (fun (W : World) (g : Nat) (hh : W.heap[g]? = some (.cells y.cells.toArray 24 (0, 0))) => ld_keyE hh)
  have HC := Lib.hid (fun (W : World) (g : Nat) (hh : W.heap[g]? = some (.cells y.cells.toArray 24 (0, 0))) => keyE_cells hh)
  have HS := Lib.hid (fun W => eshort_any y W)
  have HW := Lib.hid (fun W => ewrong_any y W)
  obtain ⟨Z, HZ⟩ : ∃ Z, Hid (y.cells.toArray = Z) := ⟨_, rfl⟩
  rw [HZ.out] at N0 B0 HLD HC HS HW ⊢
  clear HZ
  by_cases hb : 200 < m
  · have e1 : (200 : Int) < (m : Int) := by omega
    go_enter Try.func6, Try.ntmps6
    go_wp2
    go_ret
    exact ⟨rfl, B0.out⟩
  have e1 : ¬ ((200 : Int) < (m : Int)) := by omega
  have hb2 : m ≤ 200 := by omega
  clear hb
  go_enter Try.func6, Try.ntmps6
  go_upto_region 1 with (fail)
  generalize w.alloc _ = W0 at N0 B0 ⊢
  go_wp2_with (first
    | (refine wpList_ld rfl 24 (.tmp 3) rfl (HLD.out _ _ N0.out) ?_)
    | fail)
  refine (HS.out W0).mono ?_
  rintro e w1 ⟨rfl, hb1⟩
  have B1 : Hid (Below w.heap.size w w1) := B0.out.step hb1
  have N1 := Lib.hid ((hb1.block _ (lt_of_heap N0.out)).trans N0.out)
  clear hb1 B0 N0 HS
  have HSB : Hid (shortB y = true → y.a.length ≤ 200) := shortB_true
  generalize shortB y = sb at HSB ⊢
  cases sb with
  | false =>
    go_wp2_with fail
    go_ret
    exact ⟨rfl, B1.out⟩
  | true =>
  have HA : Hid (y.a.length ≤ 200) := HSB.out rfl
  clear HSB
  go_wp2_with (first
    | (refine wpList_ld rfl 24 (.tmp 3) rfl (HLD.out _ _ N1.out) ?_)
    | fail)
  refine (HW.out w1).mono ?_
  rintro e w2 ⟨rfl, hb1⟩
  have B2 : Hid (Below w.heap.size w w2) := B1.out.step hb1
  have N2 := Lib.hid ((hb1.block _ (lt_of_heap N1.out)).trans N1.out)
  clear hb1 B1 N1 HW
  have HWB : Hid (wrongB y = 0 → y.k.length = 32 ∧ y.n.length = 12) := wrongB_zero
  generalize wrongB y = wb at HWB ⊢
  by_cases hwb : wb = 0
  case neg =>
    have e2 : (wb != 0) = true := by simp [hwb]
    clear hwb HWB
    go_wp2_with fail
    go_ret
    exact ⟨rfl, B2.out⟩
  subst hwb
  have HKN := Lib.hid (HWB.out rfl)
  clear HWB
  obtain ⟨A1, c1, k, A2, c2, n, A3, c3, a⟩ := y
  have HY1 := Lib.hid HY.out.1; have HY2 := Lib.hid HY.out.2.1; have HY3 := Lib.hid HY.out.2.2
  have HK := Lib.hid HKN.out.1; have HN := Lib.hid HKN.out.2
  clear HY HKN HLD
  simp only at HC HY1 HY2 HY3 HK HN HA
  rw [HK.out, HN.out] at HC
  obtain ⟨ka, hka⟩ : ∃ ka, a.length = ka := ⟨_, rfl⟩
  rw [hka] at HC HA
  have HKA := Lib.hid hka
  have hka2 : ka ≤ 200 := HA.out
  clear hka HA
  have SE := Lib.hid (fun W S1 S2 S3 S4 => aseal_any k n a b A1 A2 A3 A c1 c2 ka c3 m c W HK.out HN.out HKA.out HM.out (by omega) (by omega) S1 S2 S3 S4)
  have OP := Lib.hid (fun X' A4 c4 W (hX : X'.length = m + 16) S1 S2 S3 S4 => aopen_any k n a X' A1 A2 A3 A4 c1 c2 ka c3 (m + 16) c4 m W HK.out HN.out HKA.out hX (by omega) (by omega) rfl S1 S2 S3 S4)
  have OS := Lib.hid (fun q d w w' v y hq hd h => openE_turned (w := w) (w' := w') (key := k) (nonce := n) (aad := a) (b := b) (q := q) (d := d) (v := v) (y := y) HM.out hq hd h)
  generalize OpenE = OE at OP OS
  have HXL : Hid ((sealE k n a b).length = m + 16) := by show _ = _; rw [sealE_len, HM.out]
  generalize sealE k n a b = X at SE OP OS HXL
  obtain ⟨d0, d1, d2⟩ := HC.out _ _ N2.out
  go_wp2_with fail
  clear d0 d1 d2
  refine (SE.out w2 (HY1.out.below B2.out) (HY2.out.below B2.out) (HY3.out.below B2.out) (H.out.below B2.out)).mono ?_
  rintro e w3 ⟨v3, rfl, hO, hb1⟩
  obtain ⟨A4, c4, rfl, hl3, h31, h32, hr3⟩ := own_read hO
  have S3 := Lib.hid (sl_mk hl3 h31 h32 hr3)
  have B3 : Hid (Below w.heap.size w w3) := B2.out.step hb1
  have N3 := Lib.hid ((hb1.block _ (lt_of_heap N2.out)).trans N2.out)
  have hO' := hO
  have HL2 : Hid (w.heap.size < w2.heap.size) := lt_of_heap N2.out
  clear hl3 h31 h32 hr3 hO hb1 N2 SE S3
  obtain ⟨g5, cap, cur, hv, hg5, hcur, hS5, hcp, hcs, _⟩ := o_open' hO' (by omega)
  injection hv with hv1 hv2 hv3
  subst hv1; subst hv3
  clear hv2
  have C3 := Lib.hid hcur
  have HCP := Lib.hid hcp
  have HCS := Lib.hid hcs
  have HG5 : Hid (w2.heap.size ≤ g5) := hg5
  have S3 := Lib.hid hS5
  obtain ⟨nn, hnn⟩ : ∃ nn, nn = bit.toNat % 128 := ⟨_, rfl⟩
  obtain ⟨kq, hkq⟩ : ∃ kq, kq = nn / 8 := ⟨_, rfl⟩
  obtain ⟨kr, hkr⟩ : ∃ kr, kr = nn % 8 := ⟨_, rfl⟩
  have e3 : (bit.toNat : Int) % 128 = (nn : Int) := by omega
  have e3' : (bit.toNat : Int).tmod 128 = (nn : Int) := by rw [Int.tmod_eq_emod_of_nonneg (by omega)]; exact e3
  have e4 : (nn : Int) / 8 = (kq : Int) := by omega
  have e4' : (nn : Int).tdiv 8 = (kq : Int) := by rw [Int.tdiv_eq_ediv_of_nonneg (by omega)]; exact e4
  have e5 : (nn : Int) % 8 = (kr : Int) := by omega
  have e5' : (nn : Int).tmod 8 = (kr : Int) := by rw [Int.tmod_eq_emod_of_nonneg (by omega)]; exact e5
  have hkq16 : kq < 16 := by omega
  have hkr8 : kr < 8 := by omega
  have hb256 : bit.toNat < 256 := bit.toNat_lt
  clear hnn hkq hkr
  obtain ⟨pq, hpq⟩ : ∃ pq, pq = m + kq := ⟨_, rfl⟩
  have e6 : (m : Int) + (kq : Int) = (pq : Int) := by omega
  have hpq1 : pq < m + 16 := by omega
  have hpq2 : (pq : Int) < (m : Int) + 16 := by omega
  have HPQ := Lib.hid hpq
  have y1 : IntKind.i64.wrap (kq : Int) = (kq : Int) := by rw [IntKind.wrap_i64]; omega
  have y2 : IntKind.i64.wrap (pq : Int) = (pq : Int) := by rw [IntKind.wrap_i64]; omega
  have y3 : IntKind.i64.wrap (kr : Int) = (kr : Int) := by rw [IntKind.wrap_i64]; omega
  clear hpq
  go_upto_region 7 with (fail)
  have c5 := o_sl_cell S3.out (k := pq) (by rw [HXL.out]; exact hpq1)
  have fz := frozen_of_heap C3.out pq
  have hcp2 := HCP.out
  obtain ⟨y4, hdb⟩ := bit_byte8 kr hkr8
  generalize UInt8.ofNat (2 ^ kr) = db at y4 hdb
  have HDB := Lib.hid hdb
  have SX := Lib.hid (fun (t : TypeId) (fr : Nat × Nat) (x : UInt8) (W : World) (hS : Sl W (some ⟨g5, 0, none⟩) c4 X) (hc : W.heap[g5]? = some (.cells cur t fr)) => o_sl_set (x := x) (k := pq) hS hc (by rw [HXL.out]; exact hpq1))
  have HXE : Hid (X.set pq (X.getD pq 0 ^^^ db) = X.set (m + kq) (X.getD (m + kq) 0 ^^^ db)) := by show _ = _; rw [HPQ.out]
  obtain ⟨xb, HXB⟩ : ∃ xb, Hid (X.getD pq 0 = xb) := ⟨_, rfl⟩
  rw [HXB.out] at c5 HXE
  have hxb : xb.toNat < 256 := xb.toNat_lt
  have y5 := xor8 xb db
  obtain ⟨xy, HXY⟩ : ∃ xy, Hid (xb ^^^ db = xy) := ⟨_, rfl⟩
  rw [HXY.out] at y5 HXE
  go_still_tail 13, (by kernel_rfl)
  change wpList _ _ _ _ _ w3.drew
  go_upto_region 8 with (fail)
  clear c5 fz
  have S4 : Hid (Sl (w3.setCell ⟨g5, pq, none⟩ (.int .u8 (xy.toNat : Int))).drew (some ⟨g5, 0, none⟩) c4 (X.set pq xy)) := SX.out _ _ xy w3 S3.out C3.out
  have B4 : Hid (Below w.heap.size w (w3.setCell ⟨g5, pq, none⟩ (.int .u8 (xy.toNat : Int))).drew) := (B3.out.setCell (Nat.le_trans B2.out.size HG5.out) _).drew
  have hg5 : w.heap.size < g5 := Nat.lt_of_lt_of_le HL2.out HG5.out
  have N4 : Hid ((w3.setCell ⟨g5, pq, none⟩ (.int .u8 (xy.toNat : Int))).drew.heap[w.heap.size]? = some (.cells Z 24 (0, 0))) := by
    show (w3.setCell ⟨g5, pq, none⟩ (.int .u8 (xy.toNat : Int))).heap[w.heap.size]? = _
    rw [(gr_setCell w3 g5 pq (.int .u8 (xy.toNat : Int))).block _ (lt_of_heap N3.out) (by simp; omega)]
    exact N3.out
  generalize (w3.setCell _ _).drew = W4 at S4 B4 N4 ⊢
  clear C3 HCP HCS B3 N3 S3 B2 SX hg5 e3 e3' e4 e4' e5 e5' e6 y1 y2 y3 y4 y5 hcp2
  obtain ⟨d0, d1, d2⟩ := HC.out _ _ N4.out
  go_wp2_with fail
  clear d0 d1 d2
  refine (OP.out _ (some ⟨g5, 0, none⟩) c4 W4 (by rw [List.length_set]; exact HXL.out) (HY1.out.below B4.out) (HY2.out.below B4.out) (HY3.out.below B4.out) S4.out).mono ?_
  rintro e w5 ⟨v4, y4, rfl, hO, hb1⟩
  rw [HXE.out] at hO
  obtain ⟨rfl, rfl⟩ := OS.out _ _ _ _ _ _ hkq16 HDB.out hO
  have B5 : Hid (Below w.heap.size w w5) := B4.out.step hb1
  clear hO hb1 B4 N4 OP OS S4
  go_wp2_with fail
  refine (awake11_any w5).mono ?_
  rintro e w6 ⟨rfl, hb1⟩
  have B6 : Hid (Below w.heap.size w w6) := B5.out.step hb1
  clear hb1
  go_wp2
  go_ret
  exact ⟨rfl, B6.out⟩
end Go.Proofs.Ytcpmfekekidhfaa
