/- Laws of layer 4: a longer stream begins as a shorter one does; each block of it is the block of its counter. -/
import Derived.Test.YteboeeijgpghoaaLawsC2
namespace Go.Proofs.Yteboeeijgpghoaa
open Go.RowKit
set_option linter.unusedVariables false
set_option linter.unusedSimpArgs false
theorem streamC_take (key nonce : List UInt8) (n : W32) (j m : Nat) (h : j ≤ m) : (streamC key nonce n m).take j = streamC key nonce n j := by
  have e : (m + 63) / 64 = (j + 63) / 64 + ((m + 63) / 64 - (j + 63) / 64) := by omega
  have hl := blocksC_len key nonce n ((j + 63) / 64)
  unfold streamC
  rw [List.take_take, Nat.min_eq_left h, e, blocksC_add]
  generalize blocksC key nonce n ((j + 63) / 64) = X at hl ⊢
  rw [List.take_append, show j - X.length = 0 by omega]
  simp
theorem streamC_block (key nonce : List UInt8) (n : W32) (t m : Nat) (h : 64 * t + 64 ≤ m) : ((streamC key nonce n m).drop (64 * t)).take 64 = blockC key nonce (ctrAt n t) := by
  have h1 := streamC_take key nonce n (64 * t + 64) m h
  have h2 := streamC_cut key nonce n t 64
  have h3 : streamC key nonce (ctrAt n t) 64 = blockC key nonce (ctrAt n t) := by
    have hb := blockC_len key nonce (ctrAt n t)
    have e := blocksC_succ key nonce (ctrAt n t) 0
    rw [ctrAt_add, show t + 0 = t from rfl, show blocksC key nonce (ctrAt n t) 0 = [] from rfl, List.nil_append] at e
    have e0 : (64 + 63) / 64 = 0 + 1 := by decide
    unfold streamC
    rw [e0, e]
    exact List.take_of_length_le (by omega)
  rw [h3] at h2
  have hl : (streamC key nonce n (64 * t)).length = 64 * t := streamC_len _ _ _ _
  have h4 : ((streamC key nonce n m).drop (64 * t)).take 64 = ((streamC key nonce n m).take (64 * t + 64)).drop (64 * t) := by
    rw [List.drop_take, Nat.add_sub_cancel_left]
  rw [h4, h1, h2]
  exact List.drop_left' hl
theorem sl_mid' {w : World} {A : Option Addr} {c k m : Nat} {l : List UInt8} (h : Sl w A c l) (hk : k + m ≤ l.length) : Sl w (cutS A c k) (c - k) ((l.drop k).take m) := by
  have h1 := sl_cut' h (k := k) (by omega)
  have := h1.2.2.take m
  rw [← List.map_take] at this
  exact ⟨by have := h1.1; rw [List.length_take]; omega, h1.2.1, this⟩
set_option maxHeartbeats 4000000 in
theorem chachaRows_walk (w : World) (y : List UInt8 × List UInt8 × BitVec 32) (l : y.1.length = 32 ∧ y.2.1.length = 12) (a : Nat) (ha : a < 65536) (b : Nat) (hb : b < 65536) :
    Calls Try.prog 8 #[.agg (zCells y.1 y.2.1 y.2.2).toArray, .int .u16 (a : Int), .int .u16 (b : Int)] w fun e w' => e = .returned (.bool true) ∧ Below w.heap.size w w' := by
  obtain ⟨k, nn, ct⟩ := y
  obtain ⟨hk, hn⟩ := l
  simp only at hk hn ⊢
  have HK := Lib.hid hk; have HN := Lib.hid hn
  clear hk hn
  obtain ⟨Z, HZ⟩ : ∃ Z, Hid ((zCells k nn ct).toArray = Z) := ⟨_, rfl⟩
  rw [HZ.out]
  obtain ⟨n, hn⟩ : ∃ n, n = a % 600 := ⟨_, rfl⟩
  obtain ⟨m, hm⟩ : ∃ m, m = b % 600 := ⟨_, rfl⟩
  have hn6 : n < 600 := by omega
  have hm6 : m < 600 := by omega
  have en : (a : Int) % 600 = (n : Int) := by omega
  have em : (b : Int) % 600 = (m : Int) := by omega
  clear hn hm
  obtain ⟨q, hq⟩ : ∃ q, q = min n m := ⟨_, rfl⟩
  have hqn : q ≤ n := by omega
  have hqm : q ≤ m := by omega
  have hmin : (if m < n then (m : Int) else (n : Int)) = (q : Int) := by split <;> omega
  clear hq
  have SA := Lib.hid (fun (u : Nat) W (h : u ≤ 100000) => stream_any k nn ct (u : Int) u W HK.out HN.out (by simp) h)
  have HXY : Hid ((streamC k nn ct m).take q = (streamC k nn ct n).take q) := by show _ = _; rw [streamC_take _ _ _ _ _ hqn, streamC_take _ _ _ _ _ hqm]
  have HBK := Lib.hid (fun t (h : 64 * t + 64 ≤ n) => streamC_block k nn ct t n h)
  have L1 : Hid ((streamC k nn ct n).length = n) := streamC_len _ _ _ _
  have L2 : Hid ((streamC k nn ct m).length = m) := streamC_len _ _ _ _
  have S1' := Lib.hid (fun W => SA.out n W (by omega))
  have S2' := Lib.hid (fun W => SA.out m W (by omega))
  generalize streamC k nn ct n = X at HXY HBK L1 S1'
  generalize streamC k nn ct m = Y at HXY L2 S2'
  clear SA
  have Z0 := zat_new w k nn ct 26 HK.out HN.out
  rw [HZ.out] at Z0
  have Z0 := Lib.hid Z0
  clear HZ
  go_enter Try.func8, Try.ntmps8
  go_wp2_with fail
  generalize hV : w.alloc _ = W0 at Z0 ⊢
  have B0 : Hid (Below w.heap.size w W0) := by rw [← hV]; exact (Below.refl _ _).alloc (Nat.le_refl _) _
  clear hV
  have HX : Hid (Ext W0 W0.drew) := (Below.refl _ _).drew
  refine reg_start (by kernel_rfl) ?_
  try simp only [Act.put, List.setIfInBounds_toArray, List.set_cons_zero, List.set_cons_succ]
  refine reg_take (v := ?_) 0 (some 19) rfl rfl (by kernel_rfl) (by kernel_rfl) (by kernel_rfl) (fun _ _ _ h => h) (by rfl) (fun W hW => ?_) ?_
  rotate_left
  · (go_simp; try rfl)
  simp only [Act.put, List.setIfInBounds_toArray, List.set_cons_zero, List.set_cons_succ]
  refine reg_load 1 (some 20) (fun W hW => run_loadAt_mid W w.heap.size 0 22 (k.map bv) _ (Z0.out.ext (HX.out.trans hW)).2.1 arr32K rfl (i32K' k HK.out)) rfl rfl rfl rfl (by kernel_rfl) (by kernel_rfl) (by kernel_rfl) (fun _ _ _ h => h) (by rfl) ?_
  simp only [Act.put, List.setIfInBounds_toArray, List.set_cons_zero, List.set_cons_succ]
  refine reg_take (v := ?_) 2 (some 21) rfl rfl (by kernel_rfl) (by kernel_rfl) (by kernel_rfl) (fun _ _ _ h => h) (by rfl) (fun W hW => ?_) ?_
  rotate_left
  · (go_simp; try rfl)
  simp only [Act.put, List.setIfInBounds_toArray, List.set_cons_zero, List.set_cons_succ]
  refine reg_load 3 (some 22) (fun W hW => run_loadAt_mid W w.heap.size 32 23 (nn.map bv) _ (Z0.out.ext (HX.out.trans hW)).2.2.1 arr12B rfl (i12B' nn HN.out)) rfl rfl rfl rfl (by kernel_rfl) (by kernel_rfl) (by kernel_rfl) (fun _ _ _ h => h) (by rfl) ?_
  simp only [Act.put, List.setIfInBounds_toArray, List.set_cons_zero, List.set_cons_succ]
  refine reg_take (v := ?_) 4 (some 23) rfl rfl (by kernel_rfl) (by kernel_rfl) (by kernel_rfl) (fun _ _ _ h => h) (by rfl) (fun W hW => ?_) ?_
  rotate_left
  · (go_simp; try rfl)
  simp only [Act.put, List.setIfInBounds_toArray, List.set_cons_zero, List.set_cons_succ]
  refine reg_load 5 (some 24) (fun W hW => load_cell Try.underlying24 (Z0.out.ext (HX.out.trans hW)).2.2.2) rfl rfl rfl rfl (by kernel_rfl) (by kernel_rfl) (by kernel_rfl) (fun _ _ _ h => h) (by rfl) ?_
  simp only [Act.put, List.setIfInBounds_toArray, List.set_cons_zero, List.set_cons_succ]
  refine reg_take (v := ?_) 6 (some 25) rfl rfl (by kernel_rfl) (by kernel_rfl) (by kernel_rfl) (fun _ _ _ h => h) (by rfl) (fun W hW => ?_) ?_
  rotate_left
  · (go_simp; try rfl)
  simp only [Act.put, List.setIfInBounds_toArray, List.set_cons_zero, List.set_cons_succ]
  refine reg_take (v := ?_) 8 (some 27) rfl rfl (by kernel_rfl) (by kernel_rfl) (by kernel_rfl) (fun _ _ _ h => h) (by rfl) (fun W hW => ?_) ?_
  rotate_left
  · (go_simp; try rfl)
  simp only [Act.put, List.setIfInBounds_toArray, List.set_cons_zero, List.set_cons_succ]
  refine reg_load 9 (some 28) (fun W hW => run_loadAt_mid W w.heap.size 0 22 (k.map bv) _ (Z0.out.ext (HX.out.trans hW)).2.1 arr32K rfl (i32K' k HK.out)) rfl rfl rfl rfl (by kernel_rfl) (by kernel_rfl) (by kernel_rfl) (fun _ _ _ h => h) (by rfl) ?_
  simp only [Act.put, List.setIfInBounds_toArray, List.set_cons_zero, List.set_cons_succ]
  refine reg_take (v := ?_) 10 (some 29) rfl rfl (by kernel_rfl) (by kernel_rfl) (by kernel_rfl) (fun _ _ _ h => h) (by rfl) (fun W hW => ?_) ?_
  rotate_left
  · (go_simp; try rfl)
  simp only [Act.put, List.setIfInBounds_toArray, List.set_cons_zero, List.set_cons_succ]
  refine reg_load 11 (some 30) (fun W hW => run_loadAt_mid W w.heap.size 32 23 (nn.map bv) _ (Z0.out.ext (HX.out.trans hW)).2.2.1 arr12B rfl (i12B' nn HN.out)) rfl rfl rfl rfl (by kernel_rfl) (by kernel_rfl) (by kernel_rfl) (fun _ _ _ h => h) (by rfl) ?_
  simp only [Act.put, List.setIfInBounds_toArray, List.set_cons_zero, List.set_cons_succ]
  refine reg_take (v := ?_) 12 (some 31) rfl rfl (by kernel_rfl) (by kernel_rfl) (by kernel_rfl) (fun _ _ _ h => h) (by rfl) (fun W hW => ?_) ?_
  rotate_left
  · (go_simp; try rfl)
  simp only [Act.put, List.setIfInBounds_toArray, List.set_cons_zero, List.set_cons_succ]
  refine reg_load 13 (some 32) (fun W hW => load_cell Try.underlying24 (Z0.out.ext (HX.out.trans hW)).2.2.2) rfl rfl rfl rfl (by kernel_rfl) (by kernel_rfl) (by kernel_rfl) (fun _ _ _ h => h) (by rfl) ?_
  simp only [Act.put, List.setIfInBounds_toArray, List.set_cons_zero, List.set_cons_succ]
  refine reg_take (v := ?_) 14 (some 33) rfl rfl (by kernel_rfl) (by kernel_rfl) (by kernel_rfl) (fun _ _ _ h => h) (by rfl) (fun W hW => ?_) ?_
  rotate_left
  · (go_simp; try rfl)
  simp only [Act.put, List.setIfInBounds_toArray, List.set_cons_zero, List.set_cons_succ]
  refine reg_eff 7 rfl (by kernel_rfl) (fun K hK => ?_)
  go_simp
  refine (S1'.out _).mono ?_
  rintro e w1 ⟨g1, hg1, rfl, hk1, hE⟩
  have S1 : Hid (Sl w1 (some ⟨g1, 0, none⟩) n X) := sl_row L1.out (by omega) hk1
  clear hg1 hk1
  refine hK.out _ _ hE ?_
  have HX := Lib.hid (Ext.trans HX.out hE)
  clear hE hK K
  try simp only [Act.put, List.setIfInBounds_toArray, List.set_cons_zero, List.set_cons_succ]
  refine reg_eff 15 rfl (by kernel_rfl) (fun K hK => ?_)
  go_simp
  refine (S2'.out _).mono ?_
  rintro e w2 ⟨g2, hg2, rfl, hk2, hE⟩
  have S2 : Hid (Sl w2 (some ⟨g2, 0, none⟩) m Y) := sl_row L2.out (by omega) hk2
  have S1 := Lib.hid (S1.out.ext' hE)
  clear hg2 hk2
  refine hK.out _ _ hE ?_
  have HX := Lib.hid (Ext.trans HX.out hE)
  clear hE hK K
  try simp only [Act.put, List.setIfInBounds_toArray, List.set_cons_zero, List.set_cons_succ]
  refine reg_take (v := ?_) 16 (some 9) rfl rfl (by kernel_rfl) (by kernel_rfl) (by kernel_rfl) (fun _ _ _ h => h) (by rfl) (fun W hW => ?_) ?_
  rotate_left
  · (go_simp; try rfl)
  simp only [Act.put, List.setIfInBounds_toArray, List.set_cons_zero, List.set_cons_succ]
  refine reg_take (v := ?_) 17 (some 10) rfl rfl (by kernel_rfl) (by kernel_rfl) (by kernel_rfl) (fun _ _ _ h => h) (by rfl) (fun W hW => ?_) ?_
  rotate_left
  · (go_simp; try rfl)
  simp only [Act.put, List.setIfInBounds_toArray, List.set_cons_zero, List.set_cons_succ]
  refine reg_done (by kernel_rfl) ?_
  have Z1 := Lib.hid (Z0.out.ext HX.out)
  have B1 : Hid (Below w.heap.size w w2) := B0.out.step HX.out
  clear Z0 B0 HX S1' S2'
  go_wp2_with fail
  have T1 : Hid ((X.take q).length = q) := by show _ = _; rw [List.length_take, L1.out]; omega
  have T2 : Hid ((Y.take q).length = q) := by show _ = _; rw [List.length_take, L2.out]; omega
  have P1 := Lib.hid (S1.out.takeq T1.out hqn)
  have P2 := Lib.hid (S2.out.takeq T2.out hqm)
  rw [HXY.out] at P2
  clear T2 HXY S2
  generalize X.take q = P at P1 P2 T1
  have hxx : ((strOf P).toList == (strOf P).toList) = true := by simp
  have sl1 := cut_to uT s8 (some ⟨g1, 0, none⟩) n n .i64 (q : Int) (by omega) (by omega)
  have sl2 := cut_to uT s8 (some ⟨g2, 0, none⟩) m m .i64 (q : Int) (by omega) (by omega)
  rw [Int.toNat_natCast] at sl1 sl2
  have HX : Hid (Ext w2 w2.drew) := (Below.refl _ _).drew
  refine reg_start (by kernel_rfl) ?_
  try simp only [Act.put, List.setIfInBounds_toArray, List.set_cons_zero, List.set_cons_succ]
  refine reg_take (v := ?_) 0 (some 35) rfl rfl (by kernel_rfl) (by kernel_rfl) (by kernel_rfl) (fun _ _ _ h => h) (by rfl) (fun W hW => ?_) ?_
  rotate_left
  · (go_simp; try rfl)
  simp only [Act.put, List.setIfInBounds_toArray, List.set_cons_zero, List.set_cons_succ]
  refine reg_take (v := ?_) 1 (some 36) rfl rfl (by kernel_rfl) (by kernel_rfl) (by kernel_rfl) (fun _ _ _ h => h) (by rfl) (fun W hW => ?_) ?_
  rotate_left
  · (go_simp; try rfl)
  simp only [Act.put, List.setIfInBounds_toArray, List.set_cons_zero, List.set_cons_succ]
  refine reg_take (v := ?_) 2 (some 37) rfl rfl (by kernel_rfl) (by kernel_rfl) (by kernel_rfl) (fun _ _ _ h => h) (by rfl) (fun W hW => ?_) ?_
  rotate_left
  · (go_simp; try rfl)
  simp only [Act.put, List.setIfInBounds_toArray, List.set_cons_zero, List.set_cons_succ]
  refine reg_take (v := ?_) 3 (some 38) rfl rfl (by kernel_rfl) (by kernel_rfl) (by kernel_rfl) (fun _ _ _ h => h) (by rfl) (fun W hW => ?_) ?_
  rotate_left
  · (go_simp; try rfl)
  simp only [Act.put, List.setIfInBounds_toArray, List.set_cons_zero, List.set_cons_succ]
  refine reg_take (v := ?_) 4 (some 39) rfl rfl (by kernel_rfl) (by kernel_rfl) (by kernel_rfl) (fun _ _ _ h => h) (by rfl) (fun W hW => ?_) ?_
  rotate_left
  · (go_simp; try rfl)
  simp only [Act.put, List.setIfInBounds_toArray, List.set_cons_zero, List.set_cons_succ]
  refine reg_take (v := ?_) 5 (some 40) rfl rfl (by kernel_rfl) (by kernel_rfl) (by kernel_rfl) (fun _ _ _ h => h) (by rfl) (fun W hW => ?_) ?_
  rotate_left
  · (go_simp; try rfl)
  simp only [Act.put, List.setIfInBounds_toArray, List.set_cons_zero, List.set_cons_succ]
  refine reg_take (v := ?_) 6 (some 41) rfl rfl (by kernel_rfl) (by kernel_rfl) (by kernel_rfl) (fun _ _ _ h => h) (by rfl) (fun W hW => ?_) ?_
  rotate_left
  · (go_simp; try rfl)
  simp only [Act.put, List.setIfInBounds_toArray, List.set_cons_zero, List.set_cons_succ]
  refine reg_take (v := ?_) 7 (some 42) rfl rfl (by kernel_rfl) (by kernel_rfl) (by kernel_rfl) (fun _ _ _ h => h) (by rfl) (fun W hW => ?_) ?_
  rotate_left
  · (go_simp; try rfl)
  simp only [Act.put, List.setIfInBounds_toArray, List.set_cons_zero, List.set_cons_succ]
  refine reg_take (v := ?_) 8 (some 43) rfl rfl (by kernel_rfl) (by kernel_rfl) (by kernel_rfl) (fun _ _ _ h => h) (by rfl) (fun W hW => ?_) ?_
  rotate_left
  · (go_simp; try rfl)
  simp only [Act.put, List.setIfInBounds_toArray, List.set_cons_zero, List.set_cons_succ]
  refine reg_take (v := ?_) 9 (some 44) rfl rfl (by kernel_rfl) (by kernel_rfl) (by kernel_rfl) (fun _ _ _ h => h) (by rfl) (fun W hW => ?_) ?_
  rotate_left
  · (go_simp; try rfl)
  simp only [Act.put, List.setIfInBounds_toArray, List.set_cons_zero, List.set_cons_succ]
  refine reg_take (v := ?_) 10 (some 45) rfl rfl (by kernel_rfl) (by kernel_rfl) (by kernel_rfl) (fun _ _ _ h => h) (by rfl) (fun W hW => ?_) ?_
  rotate_left
  · (go_simp; try rfl)
  simp only [Act.put, List.setIfInBounds_toArray, List.set_cons_zero, List.set_cons_succ]
  refine reg_take (v := ?_) 11 (some 46) rfl rfl (by kernel_rfl) (by kernel_rfl) (by kernel_rfl) (fun _ _ _ h => h) (by rfl) (fun W hW => ?_) ?_
  rotate_left
  · (go_simp; try rfl)
  simp only [Act.put, List.setIfInBounds_toArray, List.set_cons_zero, List.set_cons_succ]
  refine reg_take (v := ?_) 12 (some 47) rfl rfl (by kernel_rfl) (by kernel_rfl) (by kernel_rfl) (fun _ _ _ h => h) (by rfl) (fun W hW => ?_) ?_
  rotate_left
  · (go_simp; try rfl)
  simp only [Act.put, List.setIfInBounds_toArray, List.set_cons_zero, List.set_cons_succ]
  refine reg_take (v := ?_) 13 (some 48) rfl rfl (by kernel_rfl) (by kernel_rfl) (by kernel_rfl) (fun _ _ _ h => h) (by rfl) (fun W hW => ?_) ?_
  rotate_left
  · (go_simp; try rfl)
  simp only [Act.put, List.setIfInBounds_toArray, List.set_cons_zero, List.set_cons_succ]
  refine reg_take (v := ?_) 14 (some 49) rfl rfl (by kernel_rfl) (by kernel_rfl) (by kernel_rfl) (fun _ _ _ h => h) (by rfl) (fun W hW => ?_) ?_
  rotate_left
  · (go_simp; try rfl)
  simp only [Act.put, List.setIfInBounds_toArray, List.set_cons_zero, List.set_cons_succ]
  refine reg_take (v := ?_) 15 (some 50) rfl rfl (by kernel_rfl) (by kernel_rfl) (by kernel_rfl) (fun _ _ _ h => h) (by rfl) (fun W hW => ?_) ?_
  rotate_left
  · (go_simp; try rfl)
  simp only [Act.put, List.setIfInBounds_toArray, List.set_cons_zero, List.set_cons_succ]
  refine reg_conv 16 (some 51) (fun W hW => conv_string W (some ⟨g1, 0, none⟩) q n P T1.out (P1.out.ext' (HX.out.trans hW))) rfl rfl rfl rfl (by kernel_rfl) (by kernel_rfl) (by kernel_rfl) (fun _ _ _ h => h) (by rfl) ?_
  simp only [Act.put, List.setIfInBounds_toArray, List.set_cons_zero, List.set_cons_succ]
  refine reg_take (v := ?_) 17 (some 52) rfl rfl (by kernel_rfl) (by kernel_rfl) (by kernel_rfl) (fun _ _ _ h => h) (by rfl) (fun W hW => ?_) ?_
  rotate_left
  · (go_simp; try rfl)
  simp only [Act.put, List.setIfInBounds_toArray, List.set_cons_zero, List.set_cons_succ]
  refine reg_take (v := ?_) 18 (some 53) rfl rfl (by kernel_rfl) (by kernel_rfl) (by kernel_rfl) (fun _ _ _ h => h) (by rfl) (fun W hW => ?_) ?_
  rotate_left
  · (go_simp; try rfl)
  simp only [Act.put, List.setIfInBounds_toArray, List.set_cons_zero, List.set_cons_succ]
  refine reg_take (v := ?_) 19 (some 54) rfl rfl (by kernel_rfl) (by kernel_rfl) (by kernel_rfl) (fun _ _ _ h => h) (by rfl) (fun W hW => ?_) ?_
  rotate_left
  · (go_simp; try rfl)
  simp only [Act.put, List.setIfInBounds_toArray, List.set_cons_zero, List.set_cons_succ]
  refine reg_take (v := ?_) 20 (some 55) rfl rfl (by kernel_rfl) (by kernel_rfl) (by kernel_rfl) (fun _ _ _ h => h) (by rfl) (fun W hW => ?_) ?_
  rotate_left
  · (go_simp; try rfl)
  simp only [Act.put, List.setIfInBounds_toArray, List.set_cons_zero, List.set_cons_succ]
  refine reg_take (v := ?_) 21 (some 56) rfl rfl (by kernel_rfl) (by kernel_rfl) (by kernel_rfl) (fun _ _ _ h => h) (by rfl) (fun W hW => ?_) ?_
  rotate_left
  · (go_simp; try rfl)
  simp only [Act.put, List.setIfInBounds_toArray, List.set_cons_zero, List.set_cons_succ]
  refine reg_conv 22 (some 57) (fun W hW => conv_string W (some ⟨g2, 0, none⟩) q m P T1.out (P2.out.ext' (HX.out.trans hW))) rfl rfl rfl rfl (by kernel_rfl) (by kernel_rfl) (by kernel_rfl) (fun _ _ _ h => h) (by rfl) ?_
  simp only [Act.put, List.setIfInBounds_toArray, List.set_cons_zero, List.set_cons_succ]
  refine reg_take (v := ?_) 23 (some 58) rfl rfl (by kernel_rfl) (by kernel_rfl) (by kernel_rfl) (fun _ _ _ h => h) (by rfl) (fun W hW => ?_) ?_
  rotate_left
  · (go_simp; try rfl)
  simp only [Act.put, List.setIfInBounds_toArray, List.set_cons_zero, List.set_cons_succ]
  refine reg_take (v := ?_) 24 (some 59) rfl rfl (by kernel_rfl) (by kernel_rfl) (by kernel_rfl) (fun _ _ _ h => h) (by rfl) (fun W hW => ?_) ?_
  rotate_left
  · (go_simp; try rfl)
  simp only [Act.put, List.setIfInBounds_toArray, List.set_cons_zero, List.set_cons_succ]
  refine reg_done (by kernel_rfl) ?_
  have Z2 := Lib.hid (Z1.out.ext HX.out)
  have S2 := Lib.hid (S1.out.ext' HX.out)
  have B2 : Hid (Below w.heap.size w w2.drew) := B1.out.step HX.out
  clear Z1 S1 B1 HX sl1 sl2 P1 P2 T1 hxx hmin
  go_wp2_with fail
  generalize w2.drew = w3 at Z2 S2 B2 ⊢
  go_loopw [11] (fun vi wr => ∃ (t q : Nat), q = 64 * t ∧ q ≤ n + 64 ∧ vi = .int .i64 (q : Int) ∧ Hid (ZAt wr w.heap.size k nn ct) ∧ Hid (Sl wr (some ⟨g1, 0, none⟩) n X) ∧ Hid (Below w.heap.size w wr)) (fun i _ => 1000 - (intOf i).toNat)
  case atStart => exact ⟨0, 0, rfl, by omega, rfl, Z2, S2, B2⟩
  case round =>
    clear Z2 S2 B2
    obtain ⟨t, q, hqt, hqn, rfl, Z2, S2, B2⟩ := hrel
    by_cases hlt : q + 64 ≤ n
    · have e1 : (q : Int) + 64 ≤ (n : Int) := by omega
      have hq64 : (q : Int) / 64 = (t : Int) := by omega
      have HB := HBK.out t (by omega)
      rw [← hqt] at HB
      have HB := Lib.hid HB
      have HCW := Lib.hid (ctr_wrap ct t)
      have ht : t < 1000 := by omega
      have hbl : Hid ((blockC k nn (ctrAt ct t)).length = 64) := blockC_len _ _ _
      have BL := Lib.hid (fun W => cblock_any k nn (ctrAt ct t) W HK.out HN.out)
      have HQT := Lib.hid hqt
      clear hqt
      have R3 := Z2.out.2.2.2
      go_wp2_with (first
        | (refine wpList_ld rfl 22 (.tmp 66) rfl (run_loadAt_mid _ w.heap.size 0 22 (k.map bv) _ Z2.out.2.1 arr32K rfl (i32K' k HK.out)) ?_)
        | (refine wpList_ld rfl 23 (.tmp 68) rfl (run_loadAt_mid _ w.heap.size 32 23 (nn.map bv) _ Z2.out.2.2.1 arr12B rfl (i12B' nn HN.out)) ?_))
      rw [HCW.out]
      refine (BL.out wr).mono ?_
      rintro e w4 ⟨rfl, hb2⟩
      have Z4 := Lib.hid (Z2.out.ext hb2)
      have S4 := Lib.hid (S2.out.ext' hb2)
      have B4 := Lib.hid (B2.out.step hb2)
      clear Z2 S2 B2 hb2 HCW BL R3
      generalize blockC k nn (ctrAt ct t) = D at hbl HB ⊢
      go_wp2_with (first
        | (refine wpList_st rfl 28 (.tmp 12) (.tmp 76) rfl (store_arr (cs := D.map bv) (old := List.replicate 64 (Value.int .u8 0)) (by rw [List.length_map, hbl.out]; exact i64Bc) (bv_one _) (heap_alloc_new' w4 _) (by rw [List.length_map, hbl.out]; exact List.length_replicate)) ?_
           generalize hV : World.setRow _ _ _ = W5
           have M0 := Lib.hid (heap_of_setRow hV (heap_alloc_new' w4 _))
           have MB := Lib.hid (((Below.refl w4.heap.size w4).alloc (Nat.le_refl _) _).trans (below_of_setRow hV (Nat.le_refl w4.heap.size) (by simp)))
           clear hV)
        | fail)
      have Z5 := Lib.hid (Z4.out.ext MB.out)
      have S5 := Lib.hid (S4.out.ext' MB.out)
      have B5 := Lib.hid (B4.out.step MB.out)
      clear Z4 S4 B4 MB
      generalize w4.heap.size = g5 at M0 ⊢
      have D5 : Hid (Sl W5 (some ⟨g5, 0, none⟩) 64 D) := sl_row hbl.out (by omega) M0.out
      obtain ⟨q', hq'⟩ : ∃ q', q' = q + 64 := ⟨_, rfl⟩
      have u1 : IntKind.i64.wrap ((q : Int) + 64) = (q' : Int) := by rw [IntKind.wrap_i64]; omega
      have M5 : Hid (Sl W5 (cutS (some ⟨g1, 0, none⟩) n q) (n - q) D) := by
        have := sl_mid' (m := 64) S5.out (k := q) (by rw [L1.out]; omega)
        rw [HB.out] at this; exact this
      have sl := cut_mid uT s8 (some ⟨g1, 0, none⟩) n n .i64 .i64 (q : Int) (q' : Int) (by omega) (by omega) (by omega)
      rw [Int.toNat_natCast, Int.toNat_natCast, show q' - q = 64 by omega] at sl
      have ar := arr_all arr64B s8 ⟨g5, 0, none⟩
      have hxx : ((strOf D).toList == (strOf D).toList) = true := by simp
      clear hq'
      have HX : Hid (Ext W5 W5.drew) := (Below.refl _ _).drew
      refine reg_start (by kernel_rfl) ?_
      try simp only [Act.put, List.setIfInBounds_toArray, List.set_cons_zero, List.set_cons_succ]
      refine reg_take (v := ?_) 0 (some 77) rfl rfl (by kernel_rfl) (by kernel_rfl) (by kernel_rfl) (fun _ _ _ h => h) (by rfl) (fun W hW => ?_) ?_
      rotate_left
      · (go_simp; try rfl)
      simp only [Act.put, List.setIfInBounds_toArray, List.set_cons_zero, List.set_cons_succ]
      refine reg_take (v := ?_) 1 (some 78) rfl rfl (by kernel_rfl) (by kernel_rfl) (by kernel_rfl) (fun _ _ _ h => h) (by rfl) (fun W hW => ?_) ?_
      rotate_left
      · (go_simp; try rfl)
      simp only [Act.put, List.setIfInBounds_toArray, List.set_cons_zero, List.set_cons_succ]
      refine reg_take (v := ?_) 2 (some 79) rfl rfl (by kernel_rfl) (by kernel_rfl) (by kernel_rfl) (fun _ _ _ h => h) (by rfl) (fun W hW => ?_) ?_
      rotate_left
      · (go_simp; try rfl)
      simp only [Act.put, List.setIfInBounds_toArray, List.set_cons_zero, List.set_cons_succ]
      refine reg_take (v := ?_) 3 (some 80) rfl rfl (by kernel_rfl) (by kernel_rfl) (by kernel_rfl) (fun _ _ _ h => h) (by rfl) (fun W hW => ?_) ?_
      rotate_left
      · (go_simp; try rfl)
      simp only [Act.put, List.setIfInBounds_toArray, List.set_cons_zero, List.set_cons_succ]
      refine reg_take (v := ?_) 4 (some 81) rfl rfl (by kernel_rfl) (by kernel_rfl) (by kernel_rfl) (fun _ _ _ h => h) (by rfl) (fun W hW => ?_) ?_
      rotate_left
      · (go_simp; try rfl)
      simp only [Act.put, List.setIfInBounds_toArray, List.set_cons_zero, List.set_cons_succ]
      refine reg_conv 5 (some 82) (fun W hW => conv_string W (cutS (some ⟨g1, 0, none⟩) n q) 64 (n - q) D hbl.out (M5.out.ext' (HX.out.trans hW))) rfl rfl rfl rfl (by kernel_rfl) (by kernel_rfl) (by kernel_rfl) (fun _ _ _ h => h) (by rfl) ?_
      simp only [Act.put, List.setIfInBounds_toArray, List.set_cons_zero, List.set_cons_succ]
      refine reg_take (v := ?_) 6 (some 83) rfl rfl (by kernel_rfl) (by kernel_rfl) (by kernel_rfl) (fun _ _ _ h => h) (by rfl) (fun W hW => ?_) ?_
      rotate_left
      · (go_simp; try rfl)
      simp only [Act.put, List.setIfInBounds_toArray, List.set_cons_zero, List.set_cons_succ]
      refine reg_conv 7 (some 84) (fun W hW => conv_string W (some ⟨g5, 0, none⟩) 64 64 D hbl.out (D5.out.ext' (HX.out.trans hW))) rfl rfl rfl rfl (by kernel_rfl) (by kernel_rfl) (by kernel_rfl) (fun _ _ _ h => h) (by rfl) ?_
      simp only [Act.put, List.setIfInBounds_toArray, List.set_cons_zero, List.set_cons_succ]
      refine reg_take (v := ?_) 8 (some 85) rfl rfl (by kernel_rfl) (by kernel_rfl) (by kernel_rfl) (fun _ _ _ h => h) (by rfl) (fun W hW => ?_) ?_
      rotate_left
      · (go_simp; try rfl)
      simp only [Act.put, List.setIfInBounds_toArray, List.set_cons_zero, List.set_cons_succ]
      refine reg_done (by kernel_rfl) ?_
      have Z6 := Lib.hid (Z5.out.ext HX.out)
      have S6 := Lib.hid (S5.out.ext' HX.out)
      have B6 : Hid (Below w.heap.size w W5.drew) := B5.out.step HX.out
      clear Z5 S5 B5 HX sl ar u1 M5 D5 M0 hxx
      go_wp2
      go_roundw
      case rel => exact ⟨t + 1, q + 64, by have := HQT.out; omega, by omega, by go_num, Z6, S6, B6⟩
      case measure => simp [intOf]; omega
    · have e1 : ¬ ((q : Int) + 64 ≤ (n : Int)) := by omega
      clear hqt
      go_wp2_with fail
      refine (cawake_any _).mono ?_
      rintro e w4 ⟨rfl, rfl⟩
      go_wp2
      go_ret
      exact ⟨rfl, B2.out⟩
end Go.Proofs.Yteboeeijgpghoaa
