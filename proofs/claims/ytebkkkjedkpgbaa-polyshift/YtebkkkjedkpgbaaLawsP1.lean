/- Laws of layer 5: of a key whose first half is nought the sum is the second one. -/
import Derived.Test.YtebkkkjedkpgbaaPoly11
import Derived.Test.YtebkkkjedkpgbaaLiftB
namespace Go.Proofs.Ytebkkkjedkpgbaa
open Go.RowKit
set_option linter.unusedVariables false
set_option linter.unusedSimpArgs false
theorem putLittle_cons (x k : Nat) : putLittle x (k + 1) = byteAt x 0 :: putLittle (x / 256) k := by
  unfold putLittle
  rw [List.range_succ_eq_map, List.map_cons, List.map_map]
  congr 1
  apply List.map_congr_left
  intro i _
  simp only [Function.comp_apply, byteAt]
  rw [Nat.div_div_eq_div_mul, Nat.pow_succ, Nat.mul_comm (256 ^ i) 256]
theorem putLittle_littleN (bs : List UInt8) : putLittle (littleN bs) bs.length = bs := by
  induction bs with
  | nil => rfl
  | cons b bs ih =>
    rw [List.length_cons, putLittle_cons, littleN_cons]
    have hb := b.toNat_lt
    have e1 : (littleN bs * 256 + b.toNat) / 256 = littleN bs := by omega
    have e2 : byteAt (littleN bs * 256 + b.toNat) 0 = b := by
      unfold byteAt
      rw [← UInt8.toNat_inj, UInt8.toNat_ofNat', Nat.pow_zero, Nat.div_one]
      omega
    rw [e1, e2, ih]
theorem putLittle_rev (x k : Nat) : putLittle x k = (putBig x k).reverse := by rw [putBig_rev, List.reverse_reverse]
theorem putLittle_16 (x : Nat) : putLittle (x % 18446744073709551616) 8 ++ putLittle (x / 18446744073709551616 % 18446744073709551616) 8 = putLittle x 16 := by
  have p8 : (256 : Nat) ^ 8 = 18446744073709551616 := by decide
  have h := putBig_split x 8 8
  have m1 := putBig_mod x 8 8 (Nat.le_refl _)
  have m2 := putBig_mod (x / 18446744073709551616) 8 8 (Nat.le_refl _)
  rw [p8] at h m1 m2
  rw [putLittle_rev, putLittle_rev, putLittle_rev, m1, m2, show (16 : Nat) = 8 + 8 from rfl, h, List.reverse_append]
theorem psumL_eq (r s : Nat) (m : List UInt8) : psumL r s m = putLittle (leastN (polyN r m) + s) 16 := putLittle_16 _
theorem partsN_zero (m : List UInt8) (j : Nat) : partsN 0 0 m j = 0 := by
  induction j with
  | zero => rfl
  | succ j ih => rw [partsN, ih, stepN, Nat.mul_zero]; rfl
theorem polyN_zero (m : List UInt8) : polyN 0 m = 0 := by
  unfold polyN
  split
  · exact partsN_zero _ _
  · rw [partsN_zero, stepN, Nat.mul_zero]; rfl
theorem polyN_nil (r : Nat) : polyN r [] = 0 := rfl
theorem psum_second (r : Nat) (k2 m : List UInt8) (h2 : k2.length = 16) (hp : polyN r m = 0) : psumL r (littleN k2) m = k2 := by
  rw [psumL_eq, hp, show leastN 0 = 0 from rfl, Nat.zero_add, ← h2]
  exact putLittle_littleN k2
theorem poly_nought (key m : List UInt8) (hk : key.length = 32) : polyL (List.replicate 16 0 ++ key.drop 16) m = key.drop 16 := by
  have e1 : (List.replicate 16 (0 : UInt8) ++ key.drop 16).take 16 = List.replicate 16 0 := List.take_left' List.length_replicate
  have e2 : (List.replicate 16 (0 : UInt8) ++ key.drop 16).drop 16 = key.drop 16 := List.drop_left' List.length_replicate
  have e3 : rOf (List.replicate 16 0 ++ key.drop 16) = 0 := by unfold rOf; rw [e1]; decide +kernel
  unfold polyL sOf
  rw [e3, e2]
  exact psum_second 0 _ m (by rw [List.length_drop, hk]) (polyN_zero m)
theorem poly_none (key : List UInt8) (hk : key.length = 32) : polyL key [] = key.drop 16 := psum_second _ _ _ (by rw [List.length_drop, hk]) (polyN_nil _)
theorem set_nought (key : List UInt8) (i : Nat) (hi : i < key.length) : (List.replicate i 0 ++ key.drop i).set i 0 = List.replicate (i + 1) 0 ++ key.drop (i + 1) := by
  rw [List.set_append_right _ _ (by simp), List.length_replicate, Nat.sub_self, List.drop_eq_getElem_cons hi, List.set_cons_zero, List.replicate_succ', List.append_assoc]
  rfl
theorem set_second (k2 : List UInt8) (i : Nat) (hi : i < 16) (h : k2.length = 16) : (k2.take i ++ List.replicate (16 - i) 0).set i (k2.getD i 0) = k2.take (i + 1) ++ List.replicate (16 - (i + 1)) 0 := by
  rw [List.set_append_right _ _ (by simp; omega), List.length_take, Nat.min_eq_left (by omega), Nat.sub_self, show 16 - i = (16 - (i + 1)) + 1 by omega, List.replicate_succ, List.set_cons_zero, take_snoc8 k2 i (by omega), List.append_assoc]
  rfl
set_option maxHeartbeats 4000000 in
theorem polyNought_walk (w : World) (y : List UInt8) (l : y.length = 32) (A : Option Addr) (c : Nat) (b : List UInt8) (h : Sl w A c b) :
    Calls Try.prog 5 #[.agg (y.map bv).toArray, .slice A b.length c] w fun e w' => e = .returned (.bool true) ∧ Below w.heap.size w w' := by
  have q1 : b.length ≤ 9223372036854775807 := by have := h.1; have := h.2.1; simp [maxLen] at this; omega
  obtain ⟨m, hm⟩ : ∃ m, b.length = m := ⟨_, rfl⟩
  have HM := Lib.hid hm; have HS := Lib.hid h; have HL := Lib.hid l
  rw [hm] at q1 ⊢
  clear hm h l
  have hz32 : ∀ W, (zeroValue 22).run Try.prog W = .ok (.agg ((List.replicate 32 (0 : UInt8)).map bv).toArray) W := fun W => by kernel_rfl
  have hz : ∀ W, (zeroValue 24).run Try.prog W = .ok (.agg ((List.replicate 16 (0 : UInt8)).map bv).toArray) W := fun W => by kernel_rfl
  obtain ⟨Z, HZ⟩ : ∃ Z, Hid ((List.replicate 16 (0 : UInt8)).map bv = Z) := ⟨_, rfl⟩
  obtain ⟨Y, HY⟩ : ∃ Y, Hid ((List.replicate 32 (0 : UInt8)).map bv = Y) := ⟨_, rfl⟩
  rw [HZ.out] at hz
  rw [HY.out] at hz32
  have LY : Hid (Y.length = 32) := by rw [← HY.out]; rfl
  have G := heap_alloc_new' w (.cells (y.map bv).toArray 22)
  have GB : Below w.heap.size w (w.alloc (.cells (y.map bv).toArray 22)) := (Below.refl _ _).alloc (Nat.le_refl _) _
  have G := Lib.hid G; have GB := Lib.hid GB
  by_cases hb : 600 < m
  · go_enter Try.func5, Try.ntmps5
    go_wp2
    go_ret
    exact ⟨rfl, GB.out⟩
  have hbb : m ≤ 600 := by omega
  clear hb q1
  have PN := Lib.hid (fun W hS => psum_any (List.replicate 16 0 ++ y.drop 16) A m c b W (by simp [HL.out]) HM.out (by omega) hS)
  have PE := Lib.hid (fun W => psum_any y none 0 0 [] W HL.out rfl (by omega) ⟨by simp, by simp [maxLen], .inl rfl⟩)
  rw [poly_nought y b HL.out] at PN
  rw [poly_none y HL.out] at PE
  have L2 : Hid ((y.drop 16).length = 16) := by show _ = _; rw [List.length_drop, HL.out]
  have LN : Hid ((List.replicate 16 (0 : UInt8) ++ y.drop 16).length = 32) := by show _ = _; simp [HL.out]
  have qe := eql_bytes (P := Try.prog) arr16P Try.underlying5 s8 (y.drop 16) (y.drop 16) L2.out L2.out
  rw [decide_eq_true rfl] at qe
  obtain ⟨k2, HK2⟩ : ∃ k2, Hid (y.drop 16 = k2) := ⟨_, rfl⟩
  have HN0 : Hid (∀ i, i < 16 → (List.replicate i 0 ++ y.drop i).set i 0 = List.replicate (i + 1) 0 ++ y.drop (i + 1)) := fun i hi => set_nought y i (by rw [HL.out]; omega)
  have LNI : Hid (∀ i, i ≤ 16 → (List.replicate i (0 : UInt8) ++ y.drop i).length = 32) := by intro i hi; simp [HL.out]; omega
  have HY16 : Hid (∀ i, i < 16 → y.getD (16 + i) 0 = k2.getD i 0) := by
    intro i hi
    rw [← HK2.out]; simp [List.getD]
  rw [HK2.out] at PN PE L2 LN qe
  have HS2 : Hid (∀ i, i < 16 → (k2.take i ++ List.replicate (16 - i) 0).set i (k2.getD i 0) = k2.take (i + 1) ++ List.replicate (16 - (i + 1)) 0) := fun i hi => set_second k2 i hi L2.out
  have LSI : Hid (∀ i, i ≤ 16 → (k2.take i ++ List.replicate (16 - i) (0 : UInt8)).length = 16) := by intro i hi; simp [L2.out]; omega
  go_enter Try.func5, Try.ntmps5
  go_upto_region 3 with (fail)
  generalize hV : w.alloc _ = W0 at G GB ⊢
  have hs0 : W0.heap.size = w.heap.size + 1 := by rw [← hV]; simp
  have HS0 := Lib.hid hs0
  clear hV hs0
  go_upto_region 4 with (first
    | (refine wpList_ld rfl 22 (.tmp 2) rfl (load_arr arr32P rfl (i32p y HL.out) G.out) ?_)
    | (refine wpList_st rfl 22 (.tmp 5) (.tmp 11) rfl (store_arr (cs := y.map bv) (i32p y HL.out) (bv_one _) (heap_alloc_new' W0 _) (by rw [List.length_map, HL.out]; exact LY.out)) ?_
       generalize hV : World.setRow _ _ _ = W1
       have M1 := Lib.hid (heap_of_setRow hV (heap_alloc_new' W0 _))
       have MB := Lib.hid (((Below.refl W0.heap.size W0).alloc (Nat.le_refl _) _).trans (below_of_setRow hV (Nat.le_refl W0.heap.size) (by simp)))
       have MS : Hid (W1.heap.size = W0.heap.size + 1) := by rw [← hV]; show _ = _; simp
       clear hV)
    | fail)
  have G1 := Lib.hid ((MB.out.block _ (lt_of_heap G.out)).trans G.out)
  have GB1 : Hid (Below w.heap.size w W1) := GB.out.trans (MB.out.mono GB.out.size)
  have HS1 : Hid (W1.heap.size = w.heap.size + 2) := by show _ = _; rw [MS.out, HS0.out]
  rw [HS0.out] at M1 ⊢
  clear MB MS G GB HS0 hz32
  go_upto_region 5 with (fail)
  generalize hV : World.alloc _ _ = W2
  have F2 := Lib.hid (heap_of_alloc hV)
  have B2 := Lib.hid (below_of_alloc hV (Nat.le_refl _))
  clear hV
  rw [HS1.out] at F2 ⊢
  have G2 := Lib.hid ((B2.out.block _ (lt_of_heap G1.out)).trans G1.out)
  have M2 := Lib.hid ((B2.out.block _ (lt_of_heap M1.out)).trans M1.out)
  have GB2 : Hid (Below w.heap.size w W2) := GB1.out.trans (B2.out.mono GB1.out.size)
  clear B2 G1 M1 GB1 HS1
  rw [← HZ.out] at F2
  go_wp2_with fail
  go_loopw [7] (fun vi wr => ∃ (i : Nat), i ≤ 16 ∧ vi = .int .i64 (i : Int) ∧ Hid (Below w.heap.size w wr) ∧ Hid (wr.heap[w.heap.size]? = some (.cells (y.map bv).toArray 22 (0, 0))) ∧
      Hid (wr.heap[w.heap.size + 1]? = some (.cells ((List.replicate i 0 ++ y.drop i).map bv).toArray 22 (0, 0))) ∧ Hid (wr.heap[w.heap.size + 2]? = some (.cells ((k2.take i ++ List.replicate (16 - i) 0).map bv).toArray 24 (0, 0)))) (fun i _ => 16 - (intOf i).toNat)
  case atStart => exact ⟨0, by omega, rfl, GB2, G2, M2, F2⟩
  case round =>
    clear GB2 G2 M2 F2
    obtain ⟨i, hi, rfl, HB, H0, H1, H2⟩ := hrel
    by_cases hlt : i < 16
    · have e1 : (i : Int) < 16 := by omega
      have e2 : (i : Int) < 32 := by omega
      obtain ⟨p, hp⟩ : ∃ p, p = 16 + i := ⟨_, rfl⟩
      have u1 : 16 + (i : Int) = (p : Int) := by omega
      have e3 : (p : Int) < 32 := by omega
      have hset1 := HN0.out i hlt
      have hset2 := HS2.out i hlt
      have hyp := HY16.out i hlt
      rw [← hp] at hyp
      have l1 := LNI.out i (by omega)
      have l2 := LSI.out i (by omega)
      obtain ⟨X1, hX1⟩ : ∃ X, X = List.replicate i 0 ++ y.drop i := ⟨_, rfl⟩
      obtain ⟨X2, hX2⟩ : ∃ X, X = k2.take i ++ List.replicate (16 - i) 0 := ⟨_, rfl⟩
      rw [← hX1] at hset1 l1 H1
      rw [← hX2] at hset2 l2 H2
      have c1 := bcell H1.out i (by omega)
      have f1 := frozen_of_heap H1.out i
      have M1 := heap_set H1.out i (.int .u8 0)
      have S1 : Hid ((wr.setCell ⟨w.heap.size + 1, i, none⟩ (.int .u8 0)).heap[w.heap.size + 1]? = some (.cells ((List.replicate (i + 1) 0 ++ y.drop (i + 1)).map bv).toArray 22 (0, 0))) := by
        rw [← hset1]
        have := (bst_row (B := w.heap.size) (W := wr) (g := w.heap.size + 1) (i := i) (v := 0) rfl (by omega) H1.out).1
        exact this
      obtain ⟨W3, hW3⟩ : ∃ W3, W3 = wr.setCell ⟨w.heap.size + 1, i, none⟩ (.int .u8 0) := ⟨_, rfl⟩
      have o3 : ∀ k, k ≠ w.heap.size + 1 → W3.heap[k]? = wr.heap[k]? := by intro k hk; rw [hW3]; exact Below.heap_setCell wr _ _ _ hk
      have B3 : Below w.heap.size w W3 := by rw [hW3]; exact HB.out.setCell (by show w.heap.size ≤ w.heap.size + 1; omega) _
      have G3 := (o3 _ (by omega)).trans H0.out
      have F3 := (o3 (w.heap.size + 2) (by omega)).trans H2.out
      rw [← hW3] at S1
      have c2 := bcell G3 p (by rw [HL.out]; omega)
      rw [hyp] at c2
      have c3 := bcell F3 i (by omega)
      have f3 := frozen_of_heap F3 i
      rw [hW3] at c2 c3 f3
      have HW3 := Lib.hid hW3; have HB3 := Lib.hid B3; have HG3 := Lib.hid G3; have HF3 := Lib.hid F3; have HSE := Lib.hid hset2
      have HO3 : Hid (∀ k, k ≠ w.heap.size + 2 → ∀ v, (W3.setCell ⟨w.heap.size + 2, i, none⟩ v).heap[k]? = W3.heap[k]?) := fun k hk v => Below.heap_setCell W3 _ _ _ hk
      generalize k2.getD i 0 = z at c2 HSE hyp hset2
      generalize X1.getD i 0 = x1 at c1
      generalize X2.getD i 0 = x2 at c3
      clear hp hX1 hX2 hset1 hset2 hyp l1 l2 M1 o3 B3 G3 F3
      go_wp2
      rw [← HW3.out]
      go_roundw
      case rel =>
        obtain ⟨m1, m2, m3⟩ := bst_row (B := w.heap.size) (W := W3) (g := w.heap.size + 2) (i := i) (v := z) rfl (by omega) HF3.out
        rw [HSE.out] at m1
        exact ⟨i + 1, by omega, by go_num, HB3.out.trans m2, (m3 _ (by omega)).trans HG3.out, (m3 _ (by omega)).trans S1.out, m1⟩
      case measure => simp [intOf]; omega
    · have e1 : ¬ ((i : Int) < 16) := by omega
      have H1' : Hid (wr.heap[w.heap.size + 1]? = some (.cells ((List.replicate 16 0 ++ k2).map bv).toArray 22 (0, 0))) := by have := H1.out; rw [show i = 16 by omega, HK2.out] at this; exact this
      have H2' : Hid (wr.heap[w.heap.size + 2]? = some (.cells (k2.map bv).toArray 24 (0, 0))) := by
        have := H2.out
        rw [show i = 16 by omega, List.take_of_length_le (by rw [L2.out]; omega)] at this
        exact Lib.hid (by simpa using this)
      clear H1 H2 HN0 HS2
      generalize List.replicate 16 (0 : UInt8) ++ k2 = NK at H1' LN PN
      have HSr := Lib.hid (HS.out.below HB.out)
      go_wp2_with fail
      have HX : Hid (Ext wr wr.drew) := (Below.refl _ _).drew
      refine reg_start (by kernel_rfl) ?_
      try simp only [Act.put, List.setIfInBounds_toArray, List.set_cons_zero, List.set_cons_succ]
      refine reg_load 0 (some 24) (fun W hW => load_arr arr32P rfl (i32p NK LN.out) (((HX.out.trans hW).block _ (lt_of_heap H1'.out)).trans H1'.out)) rfl rfl rfl rfl (by kernel_rfl) (by kernel_rfl) (by kernel_rfl) (fun _ _ _ h => h) (by rfl) ?_
      simp only [Act.put, List.setIfInBounds_toArray, List.set_cons_zero, List.set_cons_succ]
      refine reg_take (v := ?_) 1 (some 25) rfl rfl (by kernel_rfl) (by kernel_rfl) (by kernel_rfl) (fun _ _ _ h => h) (by rfl) (fun W hW => ?_) ?_
      rotate_left
      · (go_simp; try rfl)
      simp only [Act.put, List.setIfInBounds_toArray, List.set_cons_zero, List.set_cons_succ]
      refine reg_load 3 (some 27) (fun W hW => load_arr arr16P rfl (i16p k2 L2.out) (((HX.out.trans hW).block _ (lt_of_heap H2'.out)).trans H2'.out)) rfl rfl rfl rfl (by kernel_rfl) (by kernel_rfl) (by kernel_rfl) (fun _ _ _ h => h) (by rfl) ?_
      simp only [Act.put, List.setIfInBounds_toArray, List.set_cons_zero, List.set_cons_succ]
      refine reg_eff 2 rfl (by kernel_rfl) (fun K hK => ?_)
      go_simp
      refine (PN.out _ (HSr.out.below HX.out)).mono ?_
      rintro e w3 ⟨rfl, hE⟩
      refine hK.out _ _ hE ?_
      have HX := Lib.hid (Ext.trans HX.out hE)
      clear hE hK K
      try simp only [Act.put, List.setIfInBounds_toArray, List.set_cons_zero, List.set_cons_succ]
      refine reg_take (v := ?_) 4 (some 28) rfl rfl (by kernel_rfl) (by kernel_rfl) (by kernel_rfl) (fun _ _ _ h => h) (by rfl) (fun W hW => ?_) ?_
      rotate_left
      · (go_simp; try rfl)
      simp only [Act.put, List.setIfInBounds_toArray, List.set_cons_zero, List.set_cons_succ]
      refine reg_take (v := ?_) 5 (some 29) rfl rfl (by kernel_rfl) (by kernel_rfl) (by kernel_rfl) (fun _ _ _ h => h) (by rfl) (fun W hW => ?_) ?_
      rotate_left
      · (go_simp; try rfl)
      simp only [Act.put, List.setIfInBounds_toArray, List.set_cons_zero, List.set_cons_succ]
      refine reg_load 6 (some 30) (fun W hW => load_arr arr32P rfl (i32p y HL.out) (((HX.out.trans hW).block _ (lt_of_heap H0.out)).trans H0.out)) rfl rfl rfl rfl (by kernel_rfl) (by kernel_rfl) (by kernel_rfl) (fun _ _ _ h => h) (by rfl) ?_
      simp only [Act.put, List.setIfInBounds_toArray, List.set_cons_zero, List.set_cons_succ]
      refine reg_load 8 (some 32) (fun W hW => load_arr arr16P rfl (i16p k2 L2.out) (((HX.out.trans hW).block _ (lt_of_heap H2'.out)).trans H2'.out)) rfl rfl rfl rfl (by kernel_rfl) (by kernel_rfl) (by kernel_rfl) (fun _ _ _ h => h) (by rfl) ?_
      simp only [Act.put, List.setIfInBounds_toArray, List.set_cons_zero, List.set_cons_succ]
      refine reg_eff 7 rfl (by kernel_rfl) (fun K hK => ?_)
      go_simp
      refine (PE.out _).mono ?_
      rintro e w4 ⟨rfl, hE⟩
      refine hK.out _ _ hE ?_
      have HX := Lib.hid (Ext.trans HX.out hE)
      clear hE hK K
      try simp only [Act.put, List.setIfInBounds_toArray, List.set_cons_zero, List.set_cons_succ]
      refine reg_take (v := ?_) 9 (some 33) rfl rfl (by kernel_rfl) (by kernel_rfl) (by kernel_rfl) (fun _ _ _ h => h) (by rfl) (fun W hW => ?_) ?_
      rotate_left
      · (go_simp; try rfl)
      simp only [Act.put, List.setIfInBounds_toArray, List.set_cons_zero, List.set_cons_succ]
      refine reg_take (v := ?_) 10 (some 34) rfl rfl (by kernel_rfl) (by kernel_rfl) (by kernel_rfl) (fun _ _ _ h => h) (by rfl) (fun W hW => ?_) ?_
      rotate_left
      · (go_simp; try rfl)
      simp only [Act.put, List.setIfInBounds_toArray, List.set_cons_zero, List.set_cons_succ]
      refine reg_take (v := ?_) 11 (some 35) rfl rfl (by kernel_rfl) (by kernel_rfl) (by kernel_rfl) (fun _ _ _ h => h) (by rfl) (fun W hW => ?_) ?_
      rotate_left
      · (go_simp; try rfl)
      simp only [Act.put, List.setIfInBounds_toArray, List.set_cons_zero, List.set_cons_succ]
      refine reg_eff 12 rfl (by kernel_rfl) (fun K hK => ?_)
      go_simp
      refine (pawake_any _).mono ?_
      rintro e w5 ⟨rfl, hE⟩
      refine hK.out _ _ hE ?_
      have HX := Lib.hid (Ext.trans HX.out hE)
      clear hE hK K
      try simp only [Act.put, List.setIfInBounds_toArray, List.set_cons_zero, List.set_cons_succ]
      refine reg_take (v := ?_) 13 (some 37) rfl rfl (by kernel_rfl) (by kernel_rfl) (by kernel_rfl) (fun _ _ _ h => h) (by rfl) (fun W hW => ?_) ?_
      rotate_left
      · (go_simp; try rfl)
      simp only [Act.put, List.setIfInBounds_toArray, List.set_cons_zero, List.set_cons_succ]
      refine reg_take (v := ?_) 14 (some 4) rfl rfl (by kernel_rfl) (by kernel_rfl) (by kernel_rfl) (fun _ _ _ h => h) (by rfl) (fun W hW => ?_) ?_
      rotate_left
      · (go_simp; try rfl)
      simp only [Act.put, List.setIfInBounds_toArray, List.set_cons_zero, List.set_cons_succ]
      refine reg_done (by kernel_rfl) ?_
      go_wp2
      go_ret
      exact ⟨rfl, HB.out.step HX.out⟩
end Go.Proofs.Ytebkkkjedkpgbaa
