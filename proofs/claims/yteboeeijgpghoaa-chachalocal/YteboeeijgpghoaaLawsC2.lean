/- Laws of layer 4: what is cut at a block's end goes on with the counter as many more. -/
import Derived.Test.YteboeeijgpghoaaLawsC1
namespace Go.Proofs.Yteboeeijgpghoaa
open Go.RowKit
set_option linter.unusedVariables false
set_option linter.unusedSimpArgs false
theorem ctrAt_add (n : W32) (i j : Nat) : ctrAt (ctrAt n i) j = ctrAt n (i + j) := by
  unfold ctrAt; rw [BitVec.ofNat_add, BitVec.add_assoc]
theorem blocksC_add (key nonce : List UInt8) (n : W32) (j t : Nat) : blocksC key nonce n (j + t) = blocksC key nonce n j ++ blocksC key nonce (ctrAt n j) t := by
  induction t with
  | zero => simp [blocksC]
  | succ t ih => rw [← Nat.add_assoc, blocksC_succ, ih, blocksC_succ, ctrAt_add, List.append_assoc]
theorem streamC_cut (key nonce : List UInt8) (n : W32) (j r : Nat) : streamC key nonce n (64 * j + r) = streamC key nonce n (64 * j) ++ streamC key nonce (ctrAt n j) r := by
  have h1 := blocksC_len key nonce n j
  have h2 := blocksC_add key nonce n j ((r + 63) / 64)
  unfold streamC
  rw [show (64 * j + r + 63) / 64 = j + (r + 63) / 64 by omega, show (64 * j + 63) / 64 = j by omega, h2]
  generalize blocksC key nonce n j = X at h1 ⊢
  rw [List.take_append, h1, show 64 * j + r - 64 * j = r by omega, List.take_of_length_le (l := X) (by omega), List.take_of_length_le (l := X) (by omega)]
theorem xorL_append (a b x y : List UInt8) (h : a.length = x.length) : xorL (a ++ b) (x ++ y) = xorL a x ++ xorL b y := by
  unfold xorL; rw [List.zipWith_append h]
theorem cryptC_cut (key nonce : List UInt8) (n : W32) (b : List UInt8) (j : Nat) (hj : 64 * j ≤ b.length) :
    cryptC key nonce n (b.take (64 * j)) ++ cryptC key nonce (ctrAt n j) (b.drop (64 * j)) = cryptC key nonce n b := by
  have e : b = b.take (64 * j) ++ b.drop (64 * j) := (List.take_append_drop _ _).symm
  have h1 : (b.take (64 * j)).length = 64 * j := by rw [List.length_take]; omega
  generalize b.take (64 * j) = x at e h1
  generalize b.drop (64 * j) = y at e
  subst e
  unfold cryptC
  rw [List.length_append, h1, streamC_cut, xorL_append _ _ _ _ (by rw [streamC_len, h1])]
theorem Sl.takeq {w : World} {A : Option Addr} {c m q : Nat} {b : List UInt8} (h : Sl w A c b) (hl : (b.take q).length = q) (hq : q ≤ m) : Sl w A c (b.take q) := by
  have := h.2.2.take q
  rw [← List.map_take] at this
  exact ⟨by have := h.1; rw [List.length_take]; omega, h.2.1, this⟩
theorem sl_cut' {w : World} {A : Option Addr} {c k : Nat} {l : List UInt8} (h : Sl w A c l) (hk : k ≤ l.length) : Sl w (cutS A c k) (c - k) (l.drop k) := by
  have h1 := h.1
  have h2 := h.2.1
  refine ⟨by rw [List.length_drop]; omega, by omega, ?_⟩
  have := h.2.2.cut (c := c) (l := k) (by simpa using hk) (by simpa using h1)
  rwa [← List.map_drop] at this
theorem strOf_size (a : List UInt8) : (strOf a).size = a.length := by simp [strOf, ByteArray.size]
theorem strOf_append (a b : List UInt8) : strOf a ++ strOf b = strOf (a ++ b) := by
  apply ByteArray.ext; simp [strOf]
set_option maxHeartbeats 1000000 in
theorem chachaCuts_walk (w : World) (y : List UInt8 × List UInt8 × BitVec 32) (l : y.1.length = 32 ∧ y.2.1.length = 12) (A : Option Addr) (c : Nat) (b : List UInt8) (h : Sl w A c b) (x : UInt8) :
    Calls Try.prog 6 #[.agg (zCells y.1 y.2.1 y.2.2).toArray, .slice A b.length c, .int .u8 (x.toNat : Int)] w fun e w' => e = .returned (.bool true) ∧ Below w.heap.size w w' := by
  obtain ⟨k, n, ct⟩ := y
  obtain ⟨hk, hn⟩ := l
  simp only at hk hn ⊢
  have q1 : b.length ≤ 9223372036854775807 := by have := h.1; have := h.2.1; simp [maxLen] at this; omega
  have HK := Lib.hid hk; have HN := Lib.hid hn; have H := Lib.hid h
  obtain ⟨m, hm⟩ : ∃ m, b.length = m := ⟨_, rfl⟩
  have HM := Lib.hid hm
  have hmc : m ≤ c := by rw [← hm]; exact h.1
  rw [hm] at q1 ⊢
  clear hk hn h
  obtain ⟨Z, HZ⟩ : ∃ Z, Hid ((zCells k n ct).toArray = Z) := ⟨_, rfl⟩
  rw [HZ.out]
  by_cases hb : 600 < m
  · go_enter Try.func6, Try.ntmps6
    go_wp2
    go_ret
    exact ⟨rfl, (Below.refl _ _).alloc (Nat.le_refl _) _⟩
  have hbb : m ≤ 600 := by omega
  have hx := x.toNat_lt
  obtain ⟨j, hj⟩ : ∃ j, j = min (x.toNat % 10) (m / 64) := ⟨_, rfl⟩
  obtain ⟨q, hq⟩ : ∃ q, q = 64 * j := ⟨_, rfl⟩
  have hqm : q ≤ m := by omega
  have hmin : (if (m : Int) / 64 * 64 < 64 * ((x.toNat : Int) % 10) then (m : Int) / 64 * 64 else 64 * ((x.toNat : Int) % 10)) = (q : Int) := by split <;> omega
  have HC := Lib.hid (cryptC_cut k n ct b j (by omega))
  have hq64 : q / 64 = j := by omega
  rw [← hq] at HC
  have HT : Hid ((b.take q).length = q) := by show _ = _; rw [List.length_take]; omega
  have HD : Hid ((b.drop q).length = m - q) := by show _ = _; rw [List.length_drop]; omega
  clear hb q1 hm hj hq
  go_enter Try.func6, Try.ntmps6
  have Z0 := zat_new w k n ct 26 HK.out HN.out
  rw [HZ.out] at Z0
  have Z0 := Lib.hid Z0
  clear HZ
  go_wp2_with fail
  generalize hV : w.alloc _ = W0 at Z0 ⊢
  have B0 : Hid (Below w.heap.size w W0) := by rw [← hV]; exact (Below.refl _ _).alloc (Nat.le_refl _) _
  clear hV hmin
  have H0 := Lib.hid (H.out.below B0.out)
  have sl1 := cut_to uT s8 A m c .i64 (q : Int) (by omega) (by omega)
  rw [Int.toNat_natCast] at sl1
  have HX : Hid (Ext W0 W0.drew) := (Below.refl _ _).drew
  refine reg_start (by kernel_rfl) ?_
  try simp only [Act.put, List.setIfInBounds_toArray, List.set_cons_zero, List.set_cons_succ]
  refine reg_take (v := ?_) 0 (some 22) rfl rfl (by kernel_rfl) (by kernel_rfl) (by kernel_rfl) (fun _ _ _ h => h) (by rfl) (fun W hW => ?_) ?_
  rotate_left
  · (go_simp; try rfl)
  simp only [Act.put, List.setIfInBounds_toArray, List.set_cons_zero, List.set_cons_succ]
  refine reg_load 1 (some 23) (fun W hW => run_loadAt_mid W w.heap.size 0 22 (k.map bv) _ (Z0.out.ext (HX.out.trans hW)).2.1 arr32K rfl (i32K' k HK.out)) rfl rfl rfl rfl (by kernel_rfl) (by kernel_rfl) (by kernel_rfl) (fun _ _ _ h => h) (by rfl) ?_
  simp only [Act.put, List.setIfInBounds_toArray, List.set_cons_zero, List.set_cons_succ]
  refine reg_take (v := ?_) 2 (some 24) rfl rfl (by kernel_rfl) (by kernel_rfl) (by kernel_rfl) (fun _ _ _ h => h) (by rfl) (fun W hW => ?_) ?_
  rotate_left
  · (go_simp; try rfl)
  simp only [Act.put, List.setIfInBounds_toArray, List.set_cons_zero, List.set_cons_succ]
  refine reg_load 3 (some 25) (fun W hW => run_loadAt_mid W w.heap.size 32 23 (n.map bv) _ (Z0.out.ext (HX.out.trans hW)).2.2.1 arr12B rfl (i12B' n HN.out)) rfl rfl rfl rfl (by kernel_rfl) (by kernel_rfl) (by kernel_rfl) (fun _ _ _ h => h) (by rfl) ?_
  simp only [Act.put, List.setIfInBounds_toArray, List.set_cons_zero, List.set_cons_succ]
  refine reg_take (v := ?_) 4 (some 26) rfl rfl (by kernel_rfl) (by kernel_rfl) (by kernel_rfl) (fun _ _ _ h => h) (by rfl) (fun W hW => ?_) ?_
  rotate_left
  · (go_simp; try rfl)
  simp only [Act.put, List.setIfInBounds_toArray, List.set_cons_zero, List.set_cons_succ]
  refine reg_load 5 (some 27) (fun W hW => load_cell Try.underlying24 (Z0.out.ext (HX.out.trans hW)).2.2.2) rfl rfl rfl rfl (by kernel_rfl) (by kernel_rfl) (by kernel_rfl) (fun _ _ _ h => h) (by rfl) ?_
  simp only [Act.put, List.setIfInBounds_toArray, List.set_cons_zero, List.set_cons_succ]
  refine reg_take (v := ?_) 6 (some 28) rfl rfl (by kernel_rfl) (by kernel_rfl) (by kernel_rfl) (fun _ _ _ h => h) (by rfl) (fun W hW => ?_) ?_
  rotate_left
  · (go_simp; try rfl)
  simp only [Act.put, List.setIfInBounds_toArray, List.set_cons_zero, List.set_cons_succ]
  refine reg_take (v := ?_) 7 (some 29) rfl rfl (by kernel_rfl) (by kernel_rfl) (by kernel_rfl) (fun _ _ _ h => h) (by rfl) (fun W hW => ?_) ?_
  rotate_left
  · (go_simp; try rfl)
  simp only [Act.put, List.setIfInBounds_toArray, List.set_cons_zero, List.set_cons_succ]
  refine reg_take (v := ?_) 8 (some 30) rfl rfl (by kernel_rfl) (by kernel_rfl) (by kernel_rfl) (fun _ _ _ h => h) (by rfl) (fun W hW => ?_) ?_
  rotate_left
  · (go_simp; try rfl)
  simp only [Act.put, List.setIfInBounds_toArray, List.set_cons_zero, List.set_cons_succ]
  refine reg_eff 9 rfl (by kernel_rfl) (fun K hK => ?_)
  go_simp
  refine (crypt_any k n ct A q c (b.take q) _ HK.out HN.out HT.out (by omega) ((H0.out.ext' HX.out).takeq HT.out hqm)).mono ?_
  rintro e w1 ⟨g1, hg1, rfl, hk1, hE⟩
  have S1 : Hid (Sl w1 (some ⟨g1, 0, none⟩) q (cryptC k n ct (b.take q))) := sl_row (by rw [cryptC_len]; exact HT.out) (by omega) hk1
  clear hg1 hk1
  refine hK.out _ _ hE ?_
  have HX := Lib.hid (Ext.trans HX.out hE)
  clear hE hK K
  try simp only [Act.put, List.setIfInBounds_toArray, List.set_cons_zero, List.set_cons_succ]
  refine reg_take (v := ?_) 10 (some 8) rfl rfl (by kernel_rfl) (by kernel_rfl) (by kernel_rfl) (fun _ _ _ h => h) (by rfl) (fun W hW => ?_) ?_
  rotate_left
  · (go_simp; try rfl)
  simp only [Act.put, List.setIfInBounds_toArray, List.set_cons_zero, List.set_cons_succ]
  refine reg_done (by kernel_rfl) ?_
  have Z1 := Lib.hid (Z0.out.ext HX.out)
  have B1 : Hid (Below w.heap.size w w1) := B0.out.step HX.out
  have H1 := Lib.hid (H0.out.ext' HX.out)
  clear Z0 B0 H0 HX sl1
  go_wp2_with fail
  have sl2 := cut_from uT s8 A m c .i64 (q : Int) (by omega) (by omega)
  rw [Int.toNat_natCast] at sl2
  have u1 : IntKind.i64.wrap ((q : Int) / 64) = (j : Int) := by rw [IntKind.wrap_i64]; omega
  have u2 : IntKind.u32.wrap (j : Int) = (j : Int) := by rw [IntKind.wrap_u32]; omega
  have u3 : IntKind.u32.wrap ((ct.toNat : Int) + (j : Int)) = ((ctrAt ct j).toNat : Int) := by rw [IntKind.wrap_u32]; exact ctr_wrap ct j
  have HX : Hid (Ext w1 w1.drew) := (Below.refl _ _).drew
  refine reg_start (by kernel_rfl) ?_
  try simp only [Act.put, List.setIfInBounds_toArray, List.set_cons_zero, List.set_cons_succ]
  refine reg_take (v := ?_) 0 (some 32) rfl rfl (by kernel_rfl) (by kernel_rfl) (by kernel_rfl) (fun _ _ _ h => h) (by rfl) (fun W hW => ?_) ?_
  rotate_left
  · (go_simp; try rfl)
  simp only [Act.put, List.setIfInBounds_toArray, List.set_cons_zero, List.set_cons_succ]
  refine reg_load 1 (some 33) (fun W hW => run_loadAt_mid W w.heap.size 0 22 (k.map bv) _ (Z1.out.ext (HX.out.trans hW)).2.1 arr32K rfl (i32K' k HK.out)) rfl rfl rfl rfl (by kernel_rfl) (by kernel_rfl) (by kernel_rfl) (fun _ _ _ h => h) (by rfl) ?_
  simp only [Act.put, List.setIfInBounds_toArray, List.set_cons_zero, List.set_cons_succ]
  refine reg_take (v := ?_) 2 (some 34) rfl rfl (by kernel_rfl) (by kernel_rfl) (by kernel_rfl) (fun _ _ _ h => h) (by rfl) (fun W hW => ?_) ?_
  rotate_left
  · (go_simp; try rfl)
  simp only [Act.put, List.setIfInBounds_toArray, List.set_cons_zero, List.set_cons_succ]
  refine reg_load 3 (some 35) (fun W hW => run_loadAt_mid W w.heap.size 32 23 (n.map bv) _ (Z1.out.ext (HX.out.trans hW)).2.2.1 arr12B rfl (i12B' n HN.out)) rfl rfl rfl rfl (by kernel_rfl) (by kernel_rfl) (by kernel_rfl) (fun _ _ _ h => h) (by rfl) ?_
  simp only [Act.put, List.setIfInBounds_toArray, List.set_cons_zero, List.set_cons_succ]
  refine reg_take (v := ?_) 4 (some 36) rfl rfl (by kernel_rfl) (by kernel_rfl) (by kernel_rfl) (fun _ _ _ h => h) (by rfl) (fun W hW => ?_) ?_
  rotate_left
  · (go_simp; try rfl)
  simp only [Act.put, List.setIfInBounds_toArray, List.set_cons_zero, List.set_cons_succ]
  refine reg_load 5 (some 37) (fun W hW => load_cell Try.underlying24 (Z1.out.ext (HX.out.trans hW)).2.2.2) rfl rfl rfl rfl (by kernel_rfl) (by kernel_rfl) (by kernel_rfl) (fun _ _ _ h => h) (by rfl) ?_
  simp only [Act.put, List.setIfInBounds_toArray, List.set_cons_zero, List.set_cons_succ]
  refine reg_take (v := ?_) 6 (some 38) rfl rfl (by kernel_rfl) (by kernel_rfl) (by kernel_rfl) (fun _ _ _ h => h) (by rfl) (fun W hW => ?_) ?_
  rotate_left
  · (go_simp; try rfl)
  simp only [Act.put, List.setIfInBounds_toArray, List.set_cons_zero, List.set_cons_succ]
  refine reg_take (v := ?_) 7 (some 39) rfl rfl (by kernel_rfl) (by kernel_rfl) (by kernel_rfl) (fun _ _ _ h => h) (by rfl) (fun W hW => ?_) ?_
  rotate_left
  · (go_simp; try rfl)
  simp only [Act.put, List.setIfInBounds_toArray, List.set_cons_zero, List.set_cons_succ]
  refine reg_take (v := ?_) 8 (some 40) rfl rfl (by kernel_rfl) (by kernel_rfl) (by kernel_rfl) (fun _ _ _ h => h) (by rfl) (fun W hW => ?_) ?_
  rotate_left
  · (go_simp; try rfl)
  simp only [Act.put, List.setIfInBounds_toArray, List.set_cons_zero, List.set_cons_succ]
  refine reg_take (v := ?_) 9 (some 41) rfl rfl (by kernel_rfl) (by kernel_rfl) (by kernel_rfl) (fun _ _ _ h => h) (by rfl) (fun W hW => ?_) ?_
  rotate_left
  · (go_simp; try rfl)
  simp only [Act.put, List.setIfInBounds_toArray, List.set_cons_zero, List.set_cons_succ]
  refine reg_take (v := ?_) 10 (some 42) rfl rfl (by kernel_rfl) (by kernel_rfl) (by kernel_rfl) (fun _ _ _ h => h) (by rfl) (fun W hW => ?_) ?_
  rotate_left
  · (go_simp; try rfl)
  simp only [Act.put, List.setIfInBounds_toArray, List.set_cons_zero, List.set_cons_succ]
  refine reg_take (v := ?_) 11 (some 43) rfl rfl (by kernel_rfl) (by kernel_rfl) (by kernel_rfl) (fun _ _ _ h => h) (by rfl) (fun W hW => ?_) ?_
  rotate_left
  · (go_simp; try rfl)
  simp only [Act.put, List.setIfInBounds_toArray, List.set_cons_zero, List.set_cons_succ]
  refine reg_take (v := ?_) 12 (some 44) rfl rfl (by kernel_rfl) (by kernel_rfl) (by kernel_rfl) (fun _ _ _ h => h) (by rfl) (fun W hW => ?_) ?_
  rotate_left
  · (go_simp; try rfl)
  simp only [Act.put, List.setIfInBounds_toArray, List.set_cons_zero, List.set_cons_succ]
  refine reg_eff 13 rfl (by kernel_rfl) (fun K hK => ?_)
  go_simp
  refine (crypt_any k n (ctrAt ct j) (cutS A c q) (m - q) (c - q) (b.drop q) _ HK.out HN.out HD.out (by omega) (sl_cut' (H1.out.ext' HX.out) (by rw [HM.out]; exact hqm))).mono ?_
  rintro e w2 ⟨g2, hg2, rfl, hk2, hE⟩
  have S2 : Hid (Sl w2 (some ⟨g2, 0, none⟩) (m - q) (cryptC k n (ctrAt ct j) (b.drop q))) := sl_row (by rw [cryptC_len]; exact HD.out) (by omega) hk2
  clear hg2 hk2
  refine hK.out _ _ hE ?_
  have HX := Lib.hid (Ext.trans HX.out hE)
  clear hE hK K
  try simp only [Act.put, List.setIfInBounds_toArray, List.set_cons_zero, List.set_cons_succ]
  refine reg_take (v := ?_) 14 (some 9) rfl rfl (by kernel_rfl) (by kernel_rfl) (by kernel_rfl) (fun _ _ _ h => h) (by rfl) (fun W hW => ?_) ?_
  rotate_left
  · (go_simp; try rfl)
  simp only [Act.put, List.setIfInBounds_toArray, List.set_cons_zero, List.set_cons_succ]
  refine reg_done (by kernel_rfl) ?_
  have Z2 := Lib.hid (Z1.out.ext HX.out)
  have B2 : Hid (Below w.heap.size w w2) := B1.out.step HX.out
  have H2 := Lib.hid (H1.out.ext' HX.out)
  have S1 := Lib.hid (S1.out.ext' HX.out)
  clear Z1 B1 H1 HX sl2 u1 u2 u3
  go_wp2_with fail
  have HX : Hid (Ext w2 w2.drew) := (Below.refl _ _).drew
  have l1 : Hid ((cryptC k n ct (b.take q)).length = q) := by rw [cryptC_len]; exact HT
  have l2 : Hid ((cryptC k n (ctrAt ct j) (b.drop q)).length = m - q) := by rw [cryptC_len]; exact HD
  have l3 : Hid ((cryptC k n ct b).length = m) := by rw [cryptC_len]; exact HM
  have C3 := Lib.hid (fun W => crypt_any k n ct A m c b W HK.out HN.out HM.out (by omega))
  generalize cryptC k n ct (b.take q) = X1 at HC l1 S1
  generalize cryptC k n (ctrAt ct j) (b.drop q) = X2 at HC l2 S2
  generalize cryptC k n ct b = X3 at HC l3 C3
  have hcat : ((strOf X1 ++ strOf X2).toList == (strOf X3).toList) = true := by rw [strOf_append, strOf_beq', HC.out]; simp
  have hsz : ¬ (9223372036854775807 < (strOf X1).size + (strOf X2).size) := by rw [strOf_size, strOf_size, l1.out, l2.out]; omega
  refine reg_start (by kernel_rfl) ?_
  try simp only [Act.put, List.setIfInBounds_toArray, List.set_cons_zero, List.set_cons_succ]
  refine reg_take (v := ?_) 0 (some 46) rfl rfl (by kernel_rfl) (by kernel_rfl) (by kernel_rfl) (fun _ _ _ h => h) (by rfl) (fun W hW => ?_) ?_
  rotate_left
  · (go_simp; try rfl)
  simp only [Act.put, List.setIfInBounds_toArray, List.set_cons_zero, List.set_cons_succ]
  refine reg_conv 1 (some 47) (fun W hW => conv_string W (some ⟨g1, 0, none⟩) q q X1 l1.out (S1.out.ext' (HX.out.trans hW))) rfl rfl rfl rfl (by kernel_rfl) (by kernel_rfl) (by kernel_rfl) (fun _ _ _ h => h) (by rfl) ?_
  simp only [Act.put, List.setIfInBounds_toArray, List.set_cons_zero, List.set_cons_succ]
  refine reg_take (v := ?_) 2 (some 48) rfl rfl (by kernel_rfl) (by kernel_rfl) (by kernel_rfl) (fun _ _ _ h => h) (by rfl) (fun W hW => ?_) ?_
  rotate_left
  · (go_simp; try rfl)
  simp only [Act.put, List.setIfInBounds_toArray, List.set_cons_zero, List.set_cons_succ]
  refine reg_conv 3 (some 49) (fun W hW => conv_string W (some ⟨g2, 0, none⟩) (m - q) (m - q) X2 l2.out (S2.out.ext' (HX.out.trans hW))) rfl rfl rfl rfl (by kernel_rfl) (by kernel_rfl) (by kernel_rfl) (fun _ _ _ h => h) (by rfl) ?_
  simp only [Act.put, List.setIfInBounds_toArray, List.set_cons_zero, List.set_cons_succ]
  refine reg_take (v := ?_) 4 (some 50) rfl rfl (by kernel_rfl) (by kernel_rfl) (by kernel_rfl) (fun _ _ _ h => h) (by rfl) (fun W hW => ?_) ?_
  rotate_left
  · (go_simp; try rfl)
  simp only [Act.put, List.setIfInBounds_toArray, List.set_cons_zero, List.set_cons_succ]
  refine reg_take (v := ?_) 5 (some 51) rfl rfl (by kernel_rfl) (by kernel_rfl) (by kernel_rfl) (fun _ _ _ h => h) (by rfl) (fun W hW => ?_) ?_
  rotate_left
  · (go_simp; try rfl)
  simp only [Act.put, List.setIfInBounds_toArray, List.set_cons_zero, List.set_cons_succ]
  refine reg_load 6 (some 52) (fun W hW => run_loadAt_mid W w.heap.size 0 22 (k.map bv) _ (Z2.out.ext (HX.out.trans hW)).2.1 arr32K rfl (i32K' k HK.out)) rfl rfl rfl rfl (by kernel_rfl) (by kernel_rfl) (by kernel_rfl) (fun _ _ _ h => h) (by rfl) ?_
  simp only [Act.put, List.setIfInBounds_toArray, List.set_cons_zero, List.set_cons_succ]
  refine reg_take (v := ?_) 7 (some 53) rfl rfl (by kernel_rfl) (by kernel_rfl) (by kernel_rfl) (fun _ _ _ h => h) (by rfl) (fun W hW => ?_) ?_
  rotate_left
  · (go_simp; try rfl)
  simp only [Act.put, List.setIfInBounds_toArray, List.set_cons_zero, List.set_cons_succ]
  refine reg_load 8 (some 54) (fun W hW => run_loadAt_mid W w.heap.size 32 23 (n.map bv) _ (Z2.out.ext (HX.out.trans hW)).2.2.1 arr12B rfl (i12B' n HN.out)) rfl rfl rfl rfl (by kernel_rfl) (by kernel_rfl) (by kernel_rfl) (fun _ _ _ h => h) (by rfl) ?_
  simp only [Act.put, List.setIfInBounds_toArray, List.set_cons_zero, List.set_cons_succ]
  refine reg_take (v := ?_) 9 (some 55) rfl rfl (by kernel_rfl) (by kernel_rfl) (by kernel_rfl) (fun _ _ _ h => h) (by rfl) (fun W hW => ?_) ?_
  rotate_left
  · (go_simp; try rfl)
  simp only [Act.put, List.setIfInBounds_toArray, List.set_cons_zero, List.set_cons_succ]
  refine reg_load 10 (some 56) (fun W hW => load_cell Try.underlying24 (Z2.out.ext (HX.out.trans hW)).2.2.2) rfl rfl rfl rfl (by kernel_rfl) (by kernel_rfl) (by kernel_rfl) (fun _ _ _ h => h) (by rfl) ?_
  simp only [Act.put, List.setIfInBounds_toArray, List.set_cons_zero, List.set_cons_succ]
  refine reg_take (v := ?_) 11 (some 57) rfl rfl (by kernel_rfl) (by kernel_rfl) (by kernel_rfl) (fun _ _ _ h => h) (by rfl) (fun W hW => ?_) ?_
  rotate_left
  · (go_simp; try rfl)
  simp only [Act.put, List.setIfInBounds_toArray, List.set_cons_zero, List.set_cons_succ]
  refine reg_eff 12 rfl (by kernel_rfl) (fun K hK => ?_)
  go_simp
  refine (C3.out _ (H2.out.ext' HX.out)).mono ?_
  rintro e w3 ⟨g3, hg3, rfl, hk3, hE⟩
  have S3 : Hid (Sl w3 (some ⟨g3, 0, none⟩) m X3) := sl_row l3.out (by omega) hk3
  clear hg3 hk3
  refine hK.out _ _ hE ?_
  have HX := Lib.hid (Ext.trans HX.out hE)
  clear hE hK K
  try simp only [Act.put, List.setIfInBounds_toArray, List.set_cons_zero, List.set_cons_succ]
  refine reg_conv 13 (some 59) (fun W hW => conv_string W (some ⟨g3, 0, none⟩) m m X3 l3.out (S3.out.ext' hW)) rfl rfl rfl rfl (by kernel_rfl) (by kernel_rfl) (by kernel_rfl) (fun _ _ _ h => h) (by rfl) ?_
  simp only [Act.put, List.setIfInBounds_toArray, List.set_cons_zero, List.set_cons_succ]
  refine reg_take (v := ?_) 14 (some 60) rfl rfl (by kernel_rfl) (by kernel_rfl) (by kernel_rfl) (fun _ _ _ h => h) (by rfl) (fun W hW => ?_) ?_
  rotate_left
  · (go_simp; try rfl)
  simp only [Act.put, List.setIfInBounds_toArray, List.set_cons_zero, List.set_cons_succ]
  refine reg_take (v := ?_) 15 (some 61) rfl rfl (by kernel_rfl) (by kernel_rfl) (by kernel_rfl) (fun _ _ _ h => h) (by rfl) (fun W hW => ?_) ?_
  rotate_left
  · (go_simp; try rfl)
  simp only [Act.put, List.setIfInBounds_toArray, List.set_cons_zero, List.set_cons_succ]
  refine reg_eff 16 rfl (by kernel_rfl) (fun K hK => ?_)
  go_simp
  refine (cawake_any _).mono ?_
  rintro e w4 ⟨rfl, rfl⟩
  have hE : Ext w3 w3 := Ext.refl _
  refine hK.out _ _ hE ?_
  have HX := Lib.hid (Ext.trans HX.out hE)
  clear hE hK K
  try simp only [Act.put, List.setIfInBounds_toArray, List.set_cons_zero, List.set_cons_succ]
  refine reg_take (v := ?_) 17 (some 63) rfl rfl (by kernel_rfl) (by kernel_rfl) (by kernel_rfl) (fun _ _ _ h => h) (by rfl) (fun W hW => ?_) ?_
  rotate_left
  · (go_simp; try rfl)
  simp only [Act.put, List.setIfInBounds_toArray, List.set_cons_zero, List.set_cons_succ]
  refine reg_take (v := ?_) 18 (some 6) rfl rfl (by kernel_rfl) (by kernel_rfl) (by kernel_rfl) (fun _ _ _ h => h) (by rfl) (fun W hW => ?_) ?_
  rotate_left
  · (go_simp; try rfl)
  simp only [Act.put, List.setIfInBounds_toArray, List.set_cons_zero, List.set_cons_succ]
  refine reg_done (by kernel_rfl) ?_
  go_wp2
  go_ret
  exact ⟨rfl, B2.out.step HX.out⟩
end Go.Proofs.Yteboeeijgpghoaa
