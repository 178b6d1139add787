/- Laws of layer 4: any bytes, and the stream from any counter on. -/
import Derived.Test.YteboeeijgpghoaaLawsC3
import Derived.Test.YteboeeijgpghoaaRefC5
namespace Go.Proofs.Yteboeeijgpghoaa
open Go.RowKit
set_option linter.unusedVariables false
set_option linter.unusedSimpArgs false
theorem crypt_zeros (key nonce : List UInt8) (n : W32) (m : Nat) : cryptC key nonce n (List.replicate m 0) = streamC key nonce n m := by
  have hl := streamC_len key nonce n m
  unfold cryptC
  rw [List.length_replicate]
  generalize streamC key nonce n m = s at hl ⊢
  unfold xorL
  apply List.ext_getElem
  · simp; omega
  · intro i h1 h2
    simp only [List.getElem_zipWith, List.getElem_replicate]
    exact UInt8.zero_xor
theorem i16_bounds {k : Int} (h : (Lit.int .i16 k).wf = true) : -32768 ≤ k ∧ k ≤ 32767 := by
  have h2 : IntKind.i16.min ≤ k ∧ k ≤ IntKind.i16.max := by simpa [Lit.wf] using h
  have e1 : IntKind.i16.min = -32768 := by decide
  have e2 : IntKind.i16.max = 32767 := by decide
  rw [e1, e2] at h2; exact h2
theorem tmod_bounds (a : Int) : -3000 < a.tmod 3000 ∧ a.tmod 3000 < 3000 := by
  rcases Int.le_total 0 a with h | h
  · rw [Int.tmod_eq_emod_of_nonneg h]; omega
  · have e : a.tmod 3000 = -((-a).tmod 3000) := by rw [Int.neg_tmod, Int.neg_neg]
    rw [e, Int.tmod_eq_emod_of_nonneg (by omega)]; omega
theorem sl_zeros (W : World) (u : Nat) (h : u ≤ 2147483647) : Sl (W.alloc (.cells (List.replicate u (Value.int .u8 0)).toArray 5)) (some ⟨W.heap.size, 0, none⟩) u (List.replicate u 0) := by
  refine sl_row List.length_replicate h (t := 5) (fr := (0, 0)) ?_
  have := heap_alloc_new' W (.cells (List.replicate u (Value.int .u8 0)).toArray 5)
  rw [List.map_replicate]; exact this
set_option maxHeartbeats 4000000 in
theorem chachaCrypts_walk (w : World) (y : List UInt8 × List UInt8 × BitVec 32) (l : y.1.length = 32 ∧ y.2.1.length = 12) (A : Option Addr) (c : Nat) (b : List UInt8) (h : Sl w A c b) (many : Int) (wm : (Lit.int .i16 many).wf = true) :
    Calls Try.prog 4 #[.agg (zCells y.1 y.2.1 y.2.2).toArray, .slice A b.length c, .int .i16 many] w fun e w' => e = .returned (.bool true) ∧ Below w.heap.size w w' := by
  obtain ⟨k, n, ct⟩ := y
  obtain ⟨hk, hn⟩ := l
  simp only at hk hn ⊢
  have q1 : b.length ≤ 9223372036854775807 := by have := h.1; have := h.2.1; simp [maxLen] at this; omega
  have HK := Lib.hid hk; have HN := Lib.hid hn; have H := Lib.hid h
  obtain ⟨m, hm⟩ : ∃ m, b.length = m := ⟨_, rfl⟩
  have HM := Lib.hid hm
  rw [hm] at q1 ⊢
  clear hk hn h hm
  obtain ⟨Z, HZ⟩ : ∃ Z, Hid ((zCells k n ct).toArray = Z) := ⟨_, rfl⟩
  rw [HZ.out]
  by_cases hb : 600 < m
  · go_enter Try.func4, Try.ntmps4
    go_wp2
    go_ret
    exact ⟨rfl, (Below.refl _ _).alloc (Nat.le_refl _) _⟩
  have hbb : m ≤ 600 := by omega
  clear hb q1
  have hmb := i16_bounds wm
  obtain ⟨t, ht⟩ : ∃ t, t = many.tmod 3000 := ⟨_, rfl⟩
  obtain ⟨u, hu⟩ : ∃ u, u = t.toNat := ⟨_, rfl⟩
  have htb : -3000 < t ∧ t < 3000 := by rw [ht]; exact tmod_bounds many
  have hu3 : u ≤ 3000 := by omega
  have ht' : many.tmod 3000 = t := ht.symm
  have hmw : IntKind.i64.wrap many = many := by rw [IntKind.wrap_i64]; omega
  have hmax : (if t < 0 then (0 : Int) else t) = (u : Int) := by split <;> omega
  have HU := Lib.hid hu
  clear ht hu wm
  have HE := Lib.hid (crypt_zeros k n ct u)
  have HL : Hid ((cryptC k n ct b).length = m) := by rw [cryptC_len]; exact HM
  have HSL : Hid ((streamC k n ct u).length = u) := streamC_len _ _ _ _
  have SA := Lib.hid (fun W => stream_any k n ct t u W HK.out HN.out HU.out (by omega))
  have C1 := Lib.hid (fun W => crypt_any k n ct A m c b W HK.out HN.out HM.out (by omega))
  have RC := Lib.hid (fun A' A'' c' c'' W h h' h'' => refCrypt_any A' A'' A c' c'' c m k n ct b W HK.out HN.out HM.out (by omega) h h' h'')
  have RZ := Lib.hid (fun A' A'' A3 c' c'' c3 W h h' h'' => refCrypt_any A' A'' A3 c' c'' c3 u k n ct (List.replicate u 0) W HK.out HN.out (by simp) (by omega) h h' h'')
  rw [HE.out] at RZ
  generalize cryptC k n ct b = C at HL C1 RC
  generalize streamC k n ct u = St at HSL SA RZ
  clear HE
  have hxx : ((strOf C).toList == (strOf C).toList) = true := by simp
  have hyy : ((strOf St).toList == (strOf St).toList) = true := by simp
  have Z0 := zat_new w k n ct 26 HK.out HN.out
  rw [HZ.out] at Z0
  have R3 := Z0.2.2.2
  have Z0 := Lib.hid Z0
  clear HZ
  go_enter Try.func4, Try.ntmps4
  go_wp2_with (first
    | (refine wpList_ld rfl 22 (.tmp 15) rfl (run_loadAt_mid _ w.heap.size 0 22 (k.map bv) _ Z0.out.2.1 arr32K rfl (i32K' k HK.out)) ?_)
    | (refine wpList_ld rfl 23 (.tmp 17) rfl (run_loadAt_mid _ w.heap.size 32 23 (n.map bv) _ Z0.out.2.2.1 arr12B rfl (i12B' n HN.out)) ?_))
  clear R3
  generalize hV : w.alloc _ = W0 at Z0 ⊢
  have B0 : Hid (Below w.heap.size w W0) := by rw [← hV]; exact (Below.refl _ _).alloc (Nat.le_refl _) _
  clear hV
  refine (SA.out W0).mono ?_
  rintro e w1 ⟨g1, hg1, rfl, hk1, hb1⟩
  have S1 : Hid (Sl w1 (some ⟨g1, 0, none⟩) u St) := sl_row HSL.out (by omega) hk1
  have B1 := Lib.hid (B0.out.step hb1)
  have Z1 := Lib.hid (Z0.out.ext hb1)
  have H1 := Lib.hid (H.out.below B1.out)
  clear hg1 hk1 hb1 Z0 B0 SA
  go_wp2_with fail
  have ar1 := arr_all arr32K s8 ⟨w.heap.size, 0, none⟩
  have ar2 := arr_all arr12B s8 ⟨w.heap.size, 32, none⟩
  have hmk := fun W => make_run (P := Try.prog) uT made8 rfl .i64 .i64 u (by omega) (by omega) W
  have HX : Hid (Ext w1 w1.drew) := (Below.refl _ _).drew
  refine reg_start (by kernel_rfl) ?_
  try simp only [Act.put, List.setIfInBounds_toArray, List.set_cons_zero, List.set_cons_succ]
  refine reg_take (v := ?_) 0 (some 23) rfl rfl (by kernel_rfl) (by kernel_rfl) (by kernel_rfl) (fun _ _ _ h => h) (by rfl) (fun W hW => ?_) ?_
  rotate_left
  · (go_simp; try rfl)
  simp only [Act.put, List.setIfInBounds_toArray, List.set_cons_zero, List.set_cons_succ]
  refine reg_load 1 (some 24) (fun W hW => run_loadAt_mid W w.heap.size 0 22 (k.map bv) _ (Z1.out.ext (HX.out.trans hW)).2.1 arr32K rfl (i32K' k HK.out)) rfl rfl rfl rfl (by kernel_rfl) (by kernel_rfl) (by kernel_rfl) (fun _ _ _ h => h) (by rfl) ?_
  simp only [Act.put, List.setIfInBounds_toArray, List.set_cons_zero, List.set_cons_succ]
  refine reg_take (v := ?_) 2 (some 25) rfl rfl (by kernel_rfl) (by kernel_rfl) (by kernel_rfl) (fun _ _ _ h => h) (by rfl) (fun W hW => ?_) ?_
  rotate_left
  · (go_simp; try rfl)
  simp only [Act.put, List.setIfInBounds_toArray, List.set_cons_zero, List.set_cons_succ]
  refine reg_load 3 (some 26) (fun W hW => run_loadAt_mid W w.heap.size 32 23 (n.map bv) _ (Z1.out.ext (HX.out.trans hW)).2.2.1 arr12B rfl (i12B' n HN.out)) rfl rfl rfl rfl (by kernel_rfl) (by kernel_rfl) (by kernel_rfl) (fun _ _ _ h => h) (by rfl) ?_
  simp only [Act.put, List.setIfInBounds_toArray, List.set_cons_zero, List.set_cons_succ]
  refine reg_take (v := ?_) 4 (some 27) rfl rfl (by kernel_rfl) (by kernel_rfl) (by kernel_rfl) (fun _ _ _ h => h) (by rfl) (fun W hW => ?_) ?_
  rotate_left
  · (go_simp; try rfl)
  simp only [Act.put, List.setIfInBounds_toArray, List.set_cons_zero, List.set_cons_succ]
  refine reg_load 5 (some 28) (fun W hW => load_cell Try.underlying24 (Z1.out.ext (HX.out.trans hW)).2.2.2) rfl rfl rfl rfl (by kernel_rfl) (by kernel_rfl) (by kernel_rfl) (fun _ _ _ h => h) (by rfl) ?_
  simp only [Act.put, List.setIfInBounds_toArray, List.set_cons_zero, List.set_cons_succ]
  refine reg_take (v := ?_) 6 (some 29) rfl rfl (by kernel_rfl) (by kernel_rfl) (by kernel_rfl) (fun _ _ _ h => h) (by rfl) (fun W hW => ?_) ?_
  rotate_left
  · (go_simp; try rfl)
  simp only [Act.put, List.setIfInBounds_toArray, List.set_cons_zero, List.set_cons_succ]
  refine reg_take (v := ?_) 9 (some 32) rfl rfl (by kernel_rfl) (by kernel_rfl) (by kernel_rfl) (fun _ _ _ h => h) (by rfl) (fun W hW => ?_) ?_
  rotate_left
  · (go_simp; try rfl)
  simp only [Act.put, List.setIfInBounds_toArray, List.set_cons_zero, List.set_cons_succ]
  refine reg_take (v := ?_) 10 (some 33) rfl rfl (by kernel_rfl) (by kernel_rfl) (by kernel_rfl) (fun _ _ _ h => h) (by rfl) (fun W hW => ?_) ?_
  rotate_left
  · (go_simp; try rfl)
  simp only [Act.put, List.setIfInBounds_toArray, List.set_cons_zero, List.set_cons_succ]
  refine reg_take (v := ?_) 11 (some 34) rfl rfl (by kernel_rfl) (by kernel_rfl) (by kernel_rfl) (fun _ _ _ h => h) (by rfl) (fun W hW => ?_) ?_
  rotate_left
  · (go_simp; try rfl)
  simp only [Act.put, List.setIfInBounds_toArray, List.set_cons_zero, List.set_cons_succ]
  refine reg_take (v := ?_) 12 (some 35) rfl rfl (by kernel_rfl) (by kernel_rfl) (by kernel_rfl) (fun _ _ _ h => h) (by rfl) (fun W hW => ?_) ?_
  rotate_left
  · (go_simp; try rfl)
  simp only [Act.put, List.setIfInBounds_toArray, List.set_cons_zero, List.set_cons_succ]
  refine reg_take (v := ?_) 13 (some 36) rfl rfl (by kernel_rfl) (by kernel_rfl) (by kernel_rfl) (fun _ _ _ h => h) (by rfl) (fun W hW => ?_) ?_
  rotate_left
  · (go_simp; try rfl)
  simp only [Act.put, List.setIfInBounds_toArray, List.set_cons_zero, List.set_cons_succ]
  refine reg_load 14 (some 37) (fun W hW => load_cell Try.underlying24 (Z1.out.ext (HX.out.trans hW)).2.2.2) rfl rfl rfl rfl (by kernel_rfl) (by kernel_rfl) (by kernel_rfl) (fun _ _ _ h => h) (by rfl) ?_
  simp only [Act.put, List.setIfInBounds_toArray, List.set_cons_zero, List.set_cons_succ]
  refine reg_take (v := ?_) 15 (some 38) rfl rfl (by kernel_rfl) (by kernel_rfl) (by kernel_rfl) (fun _ _ _ h => h) (by rfl) (fun W hW => ?_) ?_
  rotate_left
  · (go_simp; try rfl)
  simp only [Act.put, List.setIfInBounds_toArray, List.set_cons_zero, List.set_cons_succ]
  refine reg_eff 7 rfl (by kernel_rfl) (fun K hK => ?_)
  go_simp
  refine (C1.out _ (H1.out.ext' HX.out)).mono ?_
  rintro e w2 ⟨g2, hg2, rfl, hk2, hE⟩
  have S2 : Hid (Sl w2 (some ⟨g2, 0, none⟩) m C) := sl_row HL.out (by omega) hk2
  clear hg2 hk2
  refine hK.out _ _ hE ?_
  have HX := Lib.hid (Ext.trans HX.out hE)
  clear hE hK K
  try simp only [Act.put, List.setIfInBounds_toArray, List.set_cons_zero, List.set_cons_succ]
  refine reg_conv 8 (some 31) (fun W hW => conv_string W (some ⟨g2, 0, none⟩) m m C HL.out (S2.out.ext' hW)) rfl rfl rfl rfl (by kernel_rfl) (by kernel_rfl) (by kernel_rfl) (fun _ _ _ h => h) (by rfl) ?_
  simp only [Act.put, List.setIfInBounds_toArray, List.set_cons_zero, List.set_cons_succ]
  refine reg_eff 16 rfl (by kernel_rfl) (fun K hK => ?_)
  go_simp
  refine (RC.out (some ⟨w.heap.size, 0, none⟩) (some ⟨w.heap.size, 32, none⟩) 32 12 _ ((Z1.out.ext HX.out).key HK.out) ((Z1.out.ext HX.out).nonce HN.out) (H1.out.ext' HX.out)).mono ?_
  rintro e w3 ⟨v3, rfl, hO3, hE⟩
  obtain ⟨A3, c3, rfl, hl3, hc3, hm3, hr3⟩ := own_read hO3
  have S3 : Hid (Sl w3 A3 c3 C) := ⟨by omega, hm3, hr3⟩
  clear hO3 hl3 hc3 hm3 hr3
  refine hK.out _ _ hE ?_
  have HX := Lib.hid (Ext.trans HX.out hE)
  clear hE hK K
  try simp only [Act.put, List.setIfInBounds_toArray, List.set_cons_zero, List.set_cons_succ]
  refine reg_conv 17 (some 40) (fun W hW => conv_string W A3 m c3 C HL.out (S3.out.ext' hW)) rfl rfl rfl rfl (by kernel_rfl) (by kernel_rfl) (by kernel_rfl) (fun _ _ _ h => h) (by rfl) ?_
  simp only [Act.put, List.setIfInBounds_toArray, List.set_cons_zero, List.set_cons_succ]
  refine reg_take (v := ?_) 18 (some 41) rfl rfl (by kernel_rfl) (by kernel_rfl) (by kernel_rfl) (fun _ _ _ h => h) (by rfl) (fun W hW => ?_) ?_
  rotate_left
  · (go_simp; try rfl)
  simp only [Act.put, List.setIfInBounds_toArray, List.set_cons_zero, List.set_cons_succ]
  refine reg_take (v := ?_) 19 (some 42) rfl rfl (by kernel_rfl) (by kernel_rfl) (by kernel_rfl) (fun _ _ _ h => h) (by rfl) (fun W hW => ?_) ?_
  rotate_left
  · (go_simp; try rfl)
  simp only [Act.put, List.setIfInBounds_toArray, List.set_cons_zero, List.set_cons_succ]
  refine reg_take (v := ?_) 20 (some 43) rfl rfl (by kernel_rfl) (by kernel_rfl) (by kernel_rfl) (fun _ _ _ h => h) (by rfl) (fun W hW => ?_) ?_
  rotate_left
  · (go_simp; try rfl)
  simp only [Act.put, List.setIfInBounds_toArray, List.set_cons_zero, List.set_cons_succ]
  refine reg_conv 21 (some 44) (fun W hW => conv_string W (some ⟨g1, 0, none⟩) u u St HSL.out (S1.out.ext' (HX.out.trans hW))) rfl rfl rfl rfl (by kernel_rfl) (by kernel_rfl) (by kernel_rfl) (fun _ _ _ h => h) (by rfl) ?_
  simp only [Act.put, List.setIfInBounds_toArray, List.set_cons_zero, List.set_cons_succ]
  refine reg_take (v := ?_) 22 (some 45) rfl rfl (by kernel_rfl) (by kernel_rfl) (by kernel_rfl) (fun _ _ _ h => h) (by rfl) (fun W hW => ?_) ?_
  rotate_left
  · (go_simp; try rfl)
  simp only [Act.put, List.setIfInBounds_toArray, List.set_cons_zero, List.set_cons_succ]
  refine reg_take (v := ?_) 23 (some 46) rfl rfl (by kernel_rfl) (by kernel_rfl) (by kernel_rfl) (fun _ _ _ h => h) (by rfl) (fun W hW => ?_) ?_
  rotate_left
  · (go_simp; try rfl)
  simp only [Act.put, List.setIfInBounds_toArray, List.set_cons_zero, List.set_cons_succ]
  refine reg_take (v := ?_) 24 (some 47) rfl rfl (by kernel_rfl) (by kernel_rfl) (by kernel_rfl) (fun _ _ _ h => h) (by rfl) (fun W hW => ?_) ?_
  rotate_left
  · (go_simp; try rfl)
  simp only [Act.put, List.setIfInBounds_toArray, List.set_cons_zero, List.set_cons_succ]
  refine reg_take (v := ?_) 25 (some 48) rfl rfl (by kernel_rfl) (by kernel_rfl) (by kernel_rfl) (fun _ _ _ h => h) (by rfl) (fun W hW => ?_) ?_
  rotate_left
  · (go_simp; try rfl)
  simp only [Act.put, List.setIfInBounds_toArray, List.set_cons_zero, List.set_cons_succ]
  refine reg_take (v := ?_) 26 (some 49) rfl rfl (by kernel_rfl) (by kernel_rfl) (by kernel_rfl) (fun _ _ _ h => h) (by rfl) (fun W hW => ?_) ?_
  rotate_left
  · (go_simp; try rfl)
  simp only [Act.put, List.setIfInBounds_toArray, List.set_cons_zero, List.set_cons_succ]
  refine reg_load 27 (some 50) (fun W hW => load_cell Try.underlying24 (Z1.out.ext (HX.out.trans hW)).2.2.2) rfl rfl rfl rfl (by kernel_rfl) (by kernel_rfl) (by kernel_rfl) (fun _ _ _ h => h) (by rfl) ?_
  simp only [Act.put, List.setIfInBounds_toArray, List.set_cons_zero, List.set_cons_succ]
  refine reg_take (v := ?_) 28 (some 51) rfl rfl (by kernel_rfl) (by kernel_rfl) (by kernel_rfl) (fun _ _ _ h => h) (by rfl) (fun W hW => ?_) ?_
  rotate_left
  · (go_simp; try rfl)
  simp only [Act.put, List.setIfInBounds_toArray, List.set_cons_zero, List.set_cons_succ]
  refine reg_take (v := ?_) 29 (some 52) rfl rfl (by kernel_rfl) (by kernel_rfl) (by kernel_rfl) (fun _ _ _ h => h) (by rfl) (fun W hW => ?_) ?_
  rotate_left
  · (go_simp; try rfl)
  simp only [Act.put, List.setIfInBounds_toArray, List.set_cons_zero, List.set_cons_succ]
  refine reg_eff 30 rfl (by kernel_rfl) (fun K hK => ?_)
  go_simp
  have hE : Ext w3 (w3.alloc (.cells (List.replicate u (Value.int .u8 0)).toArray 5)) := (Below.refl _ _).alloc (Nat.le_refl _) _
  have S4 := Lib.hid (sl_zeros w3 u (by omega))
  refine hK.out _ _ hE ?_
  have HX := Lib.hid (Ext.trans HX.out hE)
  clear hE hK K
  try simp only [Act.put, List.setIfInBounds_toArray, List.set_cons_zero, List.set_cons_succ]
  refine reg_eff 31 rfl (by kernel_rfl) (fun K hK => ?_)
  go_simp
  refine (RZ.out (some ⟨w.heap.size, 0, none⟩) (some ⟨w.heap.size, 32, none⟩) (some ⟨w3.heap.size, 0, none⟩) 32 12 u _ ((Z1.out.ext HX.out).key HK.out) ((Z1.out.ext HX.out).nonce HN.out) S4.out).mono ?_
  rintro e w5 ⟨v5, rfl, hO5, hE⟩
  obtain ⟨A5, c5, rfl, hl5, hc5, hm5, hr5⟩ := own_read hO5
  have S5 : Hid (Sl w5 A5 c5 St) := ⟨by omega, hm5, hr5⟩
  clear hO5 hl5 hc5 hm5 hr5
  refine hK.out _ _ hE ?_
  have HX := Lib.hid (Ext.trans HX.out hE)
  clear hE hK K
  try simp only [Act.put, List.setIfInBounds_toArray, List.set_cons_zero, List.set_cons_succ]
  refine reg_conv 32 (some 55) (fun W hW => conv_string W A5 u c5 St HSL.out (S5.out.ext' hW)) rfl rfl rfl rfl (by kernel_rfl) (by kernel_rfl) (by kernel_rfl) (fun _ _ _ h => h) (by rfl) ?_
  simp only [Act.put, List.setIfInBounds_toArray, List.set_cons_zero, List.set_cons_succ]
  refine reg_take (v := ?_) 33 (some 56) rfl rfl (by kernel_rfl) (by kernel_rfl) (by kernel_rfl) (fun _ _ _ h => h) (by rfl) (fun W hW => ?_) ?_
  rotate_left
  · (go_simp; try rfl)
  simp only [Act.put, List.setIfInBounds_toArray, List.set_cons_zero, List.set_cons_succ]
  refine reg_take (v := ?_) 34 (some 57) rfl rfl (by kernel_rfl) (by kernel_rfl) (by kernel_rfl) (fun _ _ _ h => h) (by rfl) (fun W hW => ?_) ?_
  rotate_left
  · (go_simp; try rfl)
  simp only [Act.put, List.setIfInBounds_toArray, List.set_cons_zero, List.set_cons_succ]
  refine reg_take (v := ?_) 35 (some 58) rfl rfl (by kernel_rfl) (by kernel_rfl) (by kernel_rfl) (fun _ _ _ h => h) (by rfl) (fun W hW => ?_) ?_
  rotate_left
  · (go_simp; try rfl)
  simp only [Act.put, List.setIfInBounds_toArray, List.set_cons_zero, List.set_cons_succ]
  refine reg_eff 36 rfl (by kernel_rfl) (fun K hK => ?_)
  go_simp
  refine (cawake_any _).mono ?_
  rintro e w6 ⟨rfl, rfl⟩
  have hE : Ext w5 w5 := Ext.refl _
  refine hK.out _ _ hE ?_
  have HX := Lib.hid (Ext.trans HX.out hE)
  clear hE hK K
  try simp only [Act.put, List.setIfInBounds_toArray, List.set_cons_zero, List.set_cons_succ]
  refine reg_take (v := ?_) 37 (some 60) rfl rfl (by kernel_rfl) (by kernel_rfl) (by kernel_rfl) (fun _ _ _ h => h) (by rfl) (fun W hW => ?_) ?_
  rotate_left
  · (go_simp; try rfl)
  simp only [Act.put, List.setIfInBounds_toArray, List.set_cons_zero, List.set_cons_succ]
  refine reg_take (v := ?_) 38 (some 6) rfl rfl (by kernel_rfl) (by kernel_rfl) (by kernel_rfl) (fun _ _ _ h => h) (by rfl) (fun W hW => ?_) ?_
  rotate_left
  · (go_simp; try rfl)
  simp only [Act.put, List.setIfInBounds_toArray, List.set_cons_zero, List.set_cons_succ]
  refine reg_done (by kernel_rfl) ?_
  go_wp2
  go_ret
  exact ⟨rfl, B1.out.step HX.out⟩
end Go.Proofs.Yteboeeijgpghoaa
