/- Laws of layer 5: of a small key and one byte the sum is reckoned by hand. -/
import Derived.Test.YtebkkkjedkpgbaaLawsP1
namespace Go.Proofs.Ytebkkkjedkpgbaa
open Go.RowKit
set_option linter.unusedVariables false
set_option linter.unusedSimpArgs false
def smallKey (a s0 s1 : UInt8) : List UInt8 := [a, 0, 0, 0, 0, 0, 0, 0, 0, 0, 0, 0, 0, 0, 0, 0, s0, s1, 0, 0, 0, 0, 0, 0, 0, 0, 0, 0, 0, 0, 0, 0]
theorem clamp16 (a0 a1 a2 a3 a4 a5 a6 a7 a8 a9 a10 a11 a12 a13 a14 a15 : UInt8) : clampL [a0, a1, a2, a3, a4, a5, a6, a7, a8, a9, a10, a11, a12, a13, a14, a15] =
    [a0, a1, a2, a3 &&& 15, a4 &&& 252, a5, a6, a7 &&& 15, a8 &&& 252, a9, a10, a11 &&& 15, a12 &&& 252, a13, a14, a15 &&& 15] := by simp [clampL, clampA, clampB]
theorem least_small (x : Nat) (h : x ≤ 100000) : leastN x = x := by unfold leastN; omega
theorem fold_small (x : Nat) (h : x ≤ 100000) : foldN x = x := by unfold foldN; omega
theorem polyN_one (r : Nat) (b : UInt8) : polyN r [b] = foldN ((0 + littleN ([b] ++ [1])) * r) := by
  unfold polyN
  have e : [b].length / 16 = 0 := by simp
  rw [if_neg (by simp), e]
  rfl
theorem little_one (b : UInt8) : littleN ([b] ++ [1]) = b.toNat + 256 := by
  show littleN [b, 1] = _
  rw [littleN_cons, littleN_cons]
  simp [littleN, bigN]
  omega
theorem small_r (a s0 s1 : UInt8) : rOf (smallKey a s0 s1) = a.toNat := by
  have h : (smallKey a s0 s1).take 16 = [a, 0, 0, 0, 0, 0, 0, 0, 0, 0, 0, 0, 0, 0, 0, 0] := rfl
  have z1 : (0 : UInt8) &&& 15 = 0 := by decide
  have z2 : (0 : UInt8) &&& 252 = 0 := by decide
  unfold rOf
  rw [h, clamp16, z1, z2]
  have h2 : [a, 0, 0, 0, 0, 0, 0, 0, 0, 0, 0, 0, 0, 0, 0, 0] = [a] ++ List.replicate 15 (0 : UInt8) := rfl
  rw [h2, littleN_zeros]
  simp [littleN, bigN]
theorem small_s (a s0 s1 : UInt8) : sOf (smallKey a s0 s1) = s0.toNat + 256 * s1.toNat := by
  have h : (smallKey a s0 s1).drop 16 = [s0, s1] ++ List.replicate 14 0 := rfl
  unfold sOf
  rw [h, littleN_zeros, littleN_cons, littleN_cons]
  simp [littleN, bigN]
  omega
theorem small_poly (a b s0 s1 : UInt8) (ha : a.toNat < 16) : polyL (smallKey a s0 s1) [b] = putLittle (a.toNat * (b.toNat + 256) + (s0.toNat + 256 * s1.toNat)) 16 := by
  have hb := b.toNat_lt
  have hp : a.toNat * (b.toNat + 256) ≤ 15 * 511 := Nat.mul_le_mul (by omega) (by omega)
  unfold polyL
  rw [psumL_eq, small_r, small_s, polyN_one, little_one, Nat.zero_add, Nat.mul_comm (b.toNat + 256), fold_small _ (by omega), least_small _ (by omega)]
theorem putLittle_snoc (x k : Nat) : putLittle x (k + 1) = putLittle x k ++ [byteAt x k] := by simp [putLittle, List.range_succ]
theorem set_want (N i : Nat) (hi : i < 16) : (putLittle N i ++ List.replicate (16 - i) 0).set i (byteAt N i) = putLittle N (i + 1) ++ List.replicate (16 - (i + 1)) 0 := by
  have h := set_mid (putLittle N i) (0 : UInt8) (16 - (i + 1)) (byteAt N i) i (putLittle_len _ _)
  rw [show 16 - (i + 1) + 1 = 16 - i by omega] at h
  rw [h, putLittle_snoc]
theorem small_facts (a x1 : UInt8) (x2 p N : Nat) (hp : p = a.toNat * (x1.toNat + 256)) (hpl : p ≤ 7665) (hN : N = p + x2) (b2 : x2 < 65536) :
    Hid (wrap64 ((a.toNat : Int) * ((x1.toNat : Int) + 256)) = (p : Int)) ∧ Hid (wrap64 (p : Int) = (p : Int)) ∧ Hid (wrap64 (x2 : Int) = (x2 : Int)) ∧ Hid (wrap64 ((p : Int) + (x2 : Int)) = (N : Int)) := by
  have d4 : (a.toNat : Int) * ((x1.toNat : Int) + 256) = (p : Int) := by rw [hp]; simp
  refine ⟨?_, IntWalk.wrap64_in _ (by omega), IntWalk.wrap64_in _ (by omega), ?_⟩
  · show wrap64 _ = _
    rw [d4]; exact IntWalk.wrap64_in _ (by omega)
  · show wrap64 _ = _
    rw [show (p : Int) + (x2 : Int) = (N : Int) by omega]; exact IntWalk.wrap64_in _ (by omega)
set_option maxHeartbeats 1000000 in
theorem polySmall_walk (w : World) (x0 x1 : UInt8) (x2 : Nat) (b2 : x2 < 65536) :
    Calls Try.prog 8 #[.int .u8 (x0.toNat : Int), .int .u8 (x1.toNat : Int), .int .u16 (x2 : Int)] w fun e w' => e = .returned (.bool true) ∧ Below w.heap.size w w' := by
  have hz32 : ∀ W, (zeroValue 22).run Try.prog W = .ok (.agg ((List.replicate 32 (0 : UInt8)).map bv).toArray) W := fun W => by kernel_rfl
  have hz : ∀ W, (zeroValue 24).run Try.prog W = .ok (.agg ((List.replicate 16 (0 : UInt8)).map bv).toArray) W := fun W => by kernel_rfl
  obtain ⟨a, ha⟩ : ∃ a : UInt8, a.toNat = x0.toNat % 16 := ⟨UInt8.ofNat (x0.toNat % 16), by rw [UInt8.toNat_ofNat']; omega⟩
  obtain ⟨s0, hs0⟩ : ∃ a : UInt8, a.toNat = x2 % 256 := ⟨UInt8.ofNat x2, by rw [UInt8.toNat_ofNat']⟩
  obtain ⟨s1, hs1⟩ : ∃ a : UInt8, a.toNat = x2 / 256 := ⟨UInt8.ofNat (x2 / 256), by rw [UInt8.toNat_ofNat']; omega⟩
  have hb1 := x1.toNat_lt
  have d0 : (x0.toNat : Int) % 16 = (a.toNat : Int) := by omega
  have d1 : (x2 : Int) % 256 = (s0.toNat : Int) := by omega
  have d2 : (x2 : Int) / 256 = (s1.toNat : Int) := by omega
  have d3 : (s1.toNat : Int) % 256 = (s1.toNat : Int) := by have := s1.toNat_lt; omega
  have ha16 : a.toNat < 16 := by omega
  obtain ⟨p, hp⟩ : ∃ p, p = a.toNat * (x1.toNat + 256) := ⟨_, rfl⟩
  have hpl : p ≤ 7665 := by
    rw [hp]
    exact Nat.mul_le_mul (show a.toNat ≤ 15 by omega) (show x1.toNat + 256 ≤ 511 by omega)
  obtain ⟨N, hN⟩ : ∃ N, N = p + x2 := ⟨_, rfl⟩
  have hNl : N < 100000 := by omega
  obtain ⟨D6, D7, D8, D9⟩ := small_facts a x1 x2 p N hp hpl hN b2
  have SP := small_poly a x1 s0 s1 ha16
  rw [← hp, show p + (s0.toNat + 256 * s1.toNat) = N by omega] at SP
  have LK : Hid ((smallKey a s0 s1).length = 32) := rfl
  have PB := Lib.hid (fun g W (hh : W.heap[g]? = some (.cells ([x1].map bv).toArray 5 (0, 0))) => psum_any (smallKey a s0 s1) (some ⟨g, 0, none⟩) 1 1 [x1] W rfl rfl (by omega) (sl_row rfl (by omega) hh))
  rw [SP] at PB
  have LW : Hid ((putLittle N 16).length = 16) := putLittle_len _ _
  have qe := eql_bytes (P := Try.prog) arr16P Try.underlying5 s8 (putLittle N 16) (putLittle N 16) LW.out LW.out
  rw [decide_eq_true rfl] at qe
  have hset : Hid (((((List.replicate 32 (0 : UInt8)).map bv).set 0 (.int .u8 (a.toNat : Int))).set 16 (.int .u8 (s0.toNat : Int))).set 17 (.int .u8 (s1.toNat : Int)) = (smallKey a s0 s1).map bv) := rfl
  have hc0 : Hid (((List.replicate 32 (0 : UInt8)).map bv)[0]? = some (.int .u8 0)) := rfl
  have hc16 : Hid ((((List.replicate 32 (0 : UInt8)).map bv).set 0 (.int .u8 (a.toNat : Int)))[16]? = some (.int .u8 0)) := rfl
  have hc17 : Hid (((((List.replicate 32 (0 : UInt8)).map bv).set 0 (.int .u8 (a.toNat : Int))).set 16 (.int .u8 (s0.toNat : Int)))[17]? = some (.int .u8 0)) := rfl
  generalize smallKey a s0 s1 = K at hset LK PB
  obtain ⟨O, HO⟩ : ∃ O, Hid ((List.replicate 32 (0 : UInt8)).map bv = O) := ⟨_, rfl⟩
  rw [HO.out] at hz32 hset hc0 hc16 hc17
  have HN := Lib.hid hN
  clear HO SP ha hs0 hs1 hp hN
  obtain ⟨Z, HZ⟩ : ∃ Z, Hid ((List.replicate 16 (0 : UInt8)).map bv = Z) := ⟨_, rfl⟩
  rw [HZ.out] at hz
  have G := Lib.hid (heap_alloc_new' w (.cells O.toArray 22))
  have GB : Hid (Below w.heap.size w (w.alloc (.cells O.toArray 22))) := (Below.refl _ _).alloc (Nat.le_refl _) _
  go_enter Try.func8, Try.ntmps8
  go_upto_region 2 with (fail)
  generalize hV : w.alloc _ = W0 at G GB ⊢
  have hsz : W0.heap.size = w.heap.size + 1 := by rw [← hV]; simp
  have HSZ := Lib.hid hsz
  clear hV hz32 hsz
  have GH := G.out
  have c0 : W0.cell? ⟨w.heap.size, 0, none⟩ = some (.int .u8 0) := by rw [cell_of_heap GH]; exact hc0.out
  have f0 := frozen_of_heap GH 0
  have G1 := heap_set GH 0 (.int .u8 (a.toNat : Int))
  have G2 := heap_set G1 16 (.int .u8 (s0.toNat : Int))
  have c16 : (W0.setCell ⟨w.heap.size, 0, none⟩ (.int .u8 (a.toNat : Int))).cell? ⟨w.heap.size, 16, none⟩ = some (.int .u8 0) := by rw [cell_of_heap G1]; exact hc16.out
  have f16 := frozen_of_heap G1 16
  have c17 : ((W0.setCell ⟨w.heap.size, 0, none⟩ (.int .u8 (a.toNat : Int))).setCell ⟨w.heap.size, 16, none⟩ (.int .u8 (s0.toNat : Int))).cell? ⟨w.heap.size, 17, none⟩ = some (.int .u8 0) := by rw [cell_of_heap G2]; exact hc17.out
  have f17 := frozen_of_heap G2 17
  have G3 := heap_set G2 17 (.int .u8 (s1.toNat : Int))
  rw [hset.out] at G3
  have G3 := Lib.hid G3
  have GB3 : Hid (Below w.heap.size w (((W0.setCell ⟨w.heap.size, 0, none⟩ (.int .u8 (a.toNat : Int))).setCell ⟨w.heap.size, 16, none⟩ (.int .u8 (s0.toNat : Int))).setCell ⟨w.heap.size, 17, none⟩ (.int .u8 (s1.toNat : Int)))) :=
    ((GB.out.setCell (Nat.le_refl _) _).setCell (Nat.le_refl _) _).setCell (Nat.le_refl _) _
  have HS3 : Hid ((((W0.setCell ⟨w.heap.size, 0, none⟩ (.int .u8 (a.toNat : Int))).setCell ⟨w.heap.size, 16, none⟩ (.int .u8 (s0.toNat : Int))).setCell ⟨w.heap.size, 17, none⟩ (.int .u8 (s1.toNat : Int))).heap.size = w.heap.size + 1) := by show _ = _; simp; exact HSZ.out
  clear GH G1 G2 G GB HSZ
  go_upto_region 4 with (fail)
  clear d1 d2 d3
  have d6 := D6.out; have d7 := D7.out; have d8 := D8.out; have d9 := D9.out
  go_upto_region 5 with (fail)
  clear d0 d6 d7 d8 d9 D6 D7 D8 D9
  generalize hV : ((W0.setCell _ _).setCell _ _).setCell _ _ = W3 at G3 GB3 HS3 ⊢
  clear hV c0 f0 c16 f16 c17 f17
  go_upto_region 6 with (fail)
  generalize hV : World.alloc _ _ = W4
  have F4 := Lib.hid (heap_of_alloc hV)
  have B4 := Lib.hid (below_of_alloc hV (Nat.le_refl _))
  clear hV
  rw [HS3.out] at F4 ⊢
  have G4 := Lib.hid ((B4.out.block _ (lt_of_heap G3.out)).trans G3.out)
  have GB4 : Hid (Below w.heap.size w W4) := GB3.out.trans (B4.out.mono GB3.out.size)
  rw [← HZ.out] at F4
  clear B4 G3 GB3 HS3 hset hc0 hc16 hc17
  go_wp2_with fail
  go_loopw [8, 10] (fun vn vi wr => ∃ (i t : Nat), i ≤ 16 ∧ vi = .int .i64 (i : Int) ∧ vn = .int .i64 (t : Int) ∧ t < 100000 ∧ Hid (t = N / 256 ^ i) ∧ Hid (Below w.heap.size w wr) ∧ Hid (wr.heap[w.heap.size]? = some (.cells (K.map bv).toArray 22 (0, 0))) ∧
      Hid (wr.heap[w.heap.size + 1]? = some (.cells ((putLittle N i ++ List.replicate (16 - i) 0).map bv).toArray 24 (0, 0)))) (fun _ i _ => 16 - (intOf i).toNat)
  case atStart => exact ⟨0, N, by omega, rfl, by rw [HN.out]; simp, hNl, by show _ = _; simp, GB4, G4, F4⟩
  case round =>
    clear GB4 G4 F4
    obtain ⟨i, t, hi, rfl, rfl, ht, HT, HB, H0, H1⟩ := hrel
    by_cases hlt : i < 16
    · have e1 : (i : Int) < 16 := by omega
      have hw := set_want N i hlt
      have hbt : (byteAt N i).toNat = t % 256 := by unfold byteAt; rw [UInt8.toNat_ofNat', ← HT.out]
      have ht2 : t / 256 = N / 256 ^ (i + 1) := by rw [HT.out, Nat.div_div_eq_div_mul, Nat.pow_succ]
      have HT2 := Lib.hid ht2
      generalize byteAt N i = z at hw hbt
      have u1 : (t : Int) % 256 = (z.toNat : Int) := by omega
      have u1' : (z.toNat : Int) % 256 = (z.toNat : Int) := by have := z.toNat_lt; omega
      obtain ⟨t', ht'⟩ : ∃ t', t' = t / 256 := ⟨_, rfl⟩
      have u2 : (t : Int) / 256 = (t' : Int) := by omega
      have ht100 : t' < 100000 := by omega
      rw [← ht'] at HT2
      have lx : (putLittle N i ++ List.replicate (16 - i) (0 : UInt8)).length = 16 := by simp [putLittle_len]; omega
      obtain ⟨X, hX⟩ : ∃ X, X = putLittle N i ++ List.replicate (16 - i) (0 : UInt8) := ⟨_, rfl⟩
      rw [← hX] at hw lx H1
      have c1 := bcell H1.out i (by omega)
      have f1 := frozen_of_heap H1.out i
      have HW := Lib.hid hw
      generalize X.getD i 0 = x at c1
      clear hw hbt ht2 ht' hX lx
      go_wp2
      go_roundw
      case rel =>
        obtain ⟨m1, m2, m3⟩ := bst_row (B := w.heap.size) (W := wr) (g := w.heap.size + 1) (i := i) (v := z) rfl (by omega) H1.out
        rw [HW.out] at m1
        exact ⟨i + 1, t', by omega, by go_num, rfl, ht100, HT2, HB.out.trans m2, (m3 _ (by omega)).trans H0.out, m1⟩
      case measure => simp [intOf]; omega
    · have e1 : ¬ ((i : Int) < 16) := by omega
      have H1' : Hid (wr.heap[w.heap.size + 1]? = some (.cells ((putLittle N 16).map bv).toArray 24 (0, 0))) := by
        have := H1.out
        rw [show i = 16 by omega] at this
        exact Lib.hid (by simpa using this)
      clear H1 HT
      generalize putLittle N 16 = Q at H1' LW PB qe
      go_wp2_with fail
      have HX : Hid (Ext wr wr.drew) := (Below.refl _ _).drew
      refine reg_start (by kernel_rfl) ?_
      try simp only [Act.put, List.setIfInBounds_toArray, List.set_cons_zero, List.set_cons_succ]
      generalize wr.drew = W5 at HX ⊢
      refine reg_load 0 (some 42) (fun W hW => load_arr arr32P rfl (i32p K LK.out) (((HX.out.trans hW).block _ (lt_of_heap H0.out)).trans H0.out)) rfl rfl rfl rfl (by kernel_rfl) (by kernel_rfl) (by kernel_rfl) (fun _ _ _ h => h) (by rfl) ?_
      simp only [Act.put, List.setIfInBounds_toArray, List.set_cons_zero, List.set_cons_succ]
      refine reg_take (v := ?_) 1 (some 43) rfl rfl (by kernel_rfl) (by kernel_rfl) (by kernel_rfl) (fun _ _ _ h => h) (by rfl) (fun W hW => ?_) ?_
      rotate_left
      · (go_simp; try rfl)
      simp only [Act.put, List.setIfInBounds_toArray, List.set_cons_zero, List.set_cons_succ]
      refine reg_load 4 (some 46) (fun W hW => load_arr arr16P rfl (i16p Q LW.out) (((HX.out.trans hW).block _ (lt_of_heap H1'.out)).trans H1'.out)) rfl rfl rfl rfl (by kernel_rfl) (by kernel_rfl) (by kernel_rfl) (fun _ _ _ h => h) (by rfl) ?_
      simp only [Act.put, List.setIfInBounds_toArray, List.set_cons_zero, List.set_cons_succ]
      refine reg_eff 2 rfl (by kernel_rfl) (fun K hK => ?_)
      go_simp
      generalize hV : World.alloc _ _ = W6
      have K6 : Hid (W6.heap[W5.heap.size]? = some (.cells ([x1].map bv).toArray 5 (0, 0))) := heap_of_alloc hV
      have hE : Ext W5 W6 := below_of_alloc hV (Nat.le_refl _)
      clear hV
      refine hK.out _ _ hE ?_
      have HX := Lib.hid (Ext.trans HX.out hE)
      clear hE hK K
      try simp only [Act.put, List.setIfInBounds_toArray, List.set_cons_zero, List.set_cons_succ]
      refine reg_eff 3 rfl (by kernel_rfl) (fun K hK => ?_)
      go_simp
      refine (PB.out _ _ K6.out).mono ?_
      rintro e w7 ⟨rfl, hE⟩
      refine hK.out _ _ hE ?_
      have HX := Lib.hid (Ext.trans HX.out hE)
      clear hE hK K
      try simp only [Act.put, List.setIfInBounds_toArray, List.set_cons_zero, List.set_cons_succ]
      refine reg_take (v := ?_) 5 (some 47) rfl rfl (by kernel_rfl) (by kernel_rfl) (by kernel_rfl) (fun _ _ _ h => h) (by rfl) (fun W hW => ?_) ?_
      rotate_left
      · (go_simp; try rfl)
      simp only [Act.put, List.setIfInBounds_toArray, List.set_cons_zero, List.set_cons_succ]
      refine reg_take (v := ?_) 6 (some 48) rfl rfl (by kernel_rfl) (by kernel_rfl) (by kernel_rfl) (fun _ _ _ h => h) (by rfl) (fun W hW => ?_) ?_
      rotate_left
      · (go_simp; try rfl)
      simp only [Act.put, List.setIfInBounds_toArray, List.set_cons_zero, List.set_cons_succ]
      refine reg_eff 7 rfl (by kernel_rfl) (fun K hK => ?_)
      go_simp
      refine (pawake_any _).mono ?_
      rintro e w8 ⟨rfl, hE⟩
      refine hK.out _ _ hE ?_
      have HX := Lib.hid (Ext.trans HX.out hE)
      clear hE hK K
      try simp only [Act.put, List.setIfInBounds_toArray, List.set_cons_zero, List.set_cons_succ]
      refine reg_take (v := ?_) 8 (some 50) rfl rfl (by kernel_rfl) (by kernel_rfl) (by kernel_rfl) (fun _ _ _ h => h) (by rfl) (fun W hW => ?_) ?_
      rotate_left
      · (go_simp; try rfl)
      simp only [Act.put, List.setIfInBounds_toArray, List.set_cons_zero, List.set_cons_succ]
      refine reg_take (v := ?_) 9 (some 6) rfl rfl (by kernel_rfl) (by kernel_rfl) (by kernel_rfl) (fun _ _ _ h => h) (by rfl) (fun W hW => ?_) ?_
      rotate_left
      · (go_simp; try rfl)
      simp only [Act.put, List.setIfInBounds_toArray, List.set_cons_zero, List.set_cons_succ]
      refine reg_done (by kernel_rfl) ?_
      go_wp2
      go_ret
      exact ⟨rfl, HB.out.step HX.out⟩
end Go.Proofs.Ytebkkkjedkpgbaa
