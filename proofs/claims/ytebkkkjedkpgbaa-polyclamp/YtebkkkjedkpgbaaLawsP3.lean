/- Laws of layer 5: a clamped half is clamped; the bits that clamping takes do not matter. -/
import Derived.Test.YtebkkkjedkpgbaaLawsP2
namespace Go.Proofs.Ytebkkkjedkpgbaa
open Go.RowKit
set_option linter.unusedVariables false
set_option linter.unusedSimpArgs false
theorem list16 {α : Type} {l : List α} (h : l.length = 16) : ∃ a0 a1 a2 a3 a4 a5 a6 a7 a8 a9 a10 a11 a12 a13 a14 a15, l = [a0, a1, a2, a3, a4, a5, a6, a7, a8, a9, a10, a11, a12, a13, a14, a15] := by
  match l, h with
  | [a0, a1, a2, a3, a4, a5, a6, a7, a8, a9, a10, a11, a12, a13, a14, a15], _ => exact ⟨a0, a1, a2, a3, a4, a5, a6, a7, a8, a9, a10, a11, a12, a13, a14, a15, rfl⟩
theorem clamp_idem (l : List UInt8) (h : l.length = 16) : clampL (clampL l) = clampL l := by
  obtain ⟨a0, a1, a2, a3, a4, a5, a6, a7, a8, a9, a10, a11, a12, a13, a14, a15, rfl⟩ := list16 h
  have e : ∀ x y : UInt8, x &&& y &&& y = x &&& y := fun x y => by rw [UInt8.and_assoc, UInt8.and_self]
  rw [clamp16, clamp16]
  simp only [e]
theorem clamp_poly (key b : List UInt8) (hk : key.length = 32) : polyL (clampL (key.take 16) ++ key.drop 16) b = polyL key b := by
  have l1 : (key.take 16).length = 16 := by rw [List.length_take, hk]; rfl
  have l2 : (clampL (key.take 16)).length = 16 := (clampL_len _).trans l1
  have e1 : (clampL (key.take 16) ++ key.drop 16).take 16 = clampL (key.take 16) := List.take_left' l2
  have e2 : (clampL (key.take 16) ++ key.drop 16).drop 16 = key.drop 16 := List.drop_left' l2
  unfold polyL rOf sOf
  rw [e1, e2, clamp_idem _ l1]
theorem set_other (C key : List UInt8) (i : Nat) (hi : i < 16) (hC : C.length = 16) (hk : key.length = 32) : (C.take i ++ key.drop i).set i (C.getD i 0) = C.take (i + 1) ++ key.drop (i + 1) := by
  rw [List.set_append_right _ _ (by simp; omega), List.length_take, Nat.min_eq_left (by omega), Nat.sub_self, List.drop_eq_getElem_cons (by omega), List.set_cons_zero, take_snoc8 C i (by omega), List.append_assoc]
  rfl
set_option maxHeartbeats 2000000 in
theorem polyClamp_walk (w : World) (y : List UInt8) (l : y.length = 32) (A : Option Addr) (c : Nat) (b : List UInt8) (h : Sl w A c b) :
    Calls Try.prog 7 #[.agg (y.map bv).toArray, .slice A b.length c] w fun e w' => e = .returned (.bool true) ∧ Below w.heap.size w w' := by
  have q1 : b.length ≤ 9223372036854775807 := by have := h.1; have := h.2.1; simp [maxLen] at this; omega
  obtain ⟨m, hm⟩ : ∃ m, b.length = m := ⟨_, rfl⟩
  have HM := Lib.hid hm; have HS := Lib.hid h; have HL := Lib.hid l
  rw [hm] at q1 ⊢
  clear hm h l
  have hz32 : ∀ W, (zeroValue 22).run Try.prog W = .ok (.agg ((List.replicate 32 (0 : UInt8)).map bv).toArray) W := fun W => by kernel_rfl
  have hz : ∀ W, (zeroValue 24).run Try.prog W = .ok (.agg ((List.replicate 16 (0 : UInt8)).map bv).toArray) W := fun W => by kernel_rfl
  obtain ⟨Z, HZ⟩ : ∃ Z, Hid ((List.replicate 16 (0 : UInt8)).map bv = Z) := ⟨_, rfl⟩
  obtain ⟨Y, HY⟩ : ∃ Y, Hid ((List.replicate 32 (0 : UInt8)).map bv = Y) := ⟨_, rfl⟩
  rw [HZ.out] at hz
  rw [HY.out] at hz32
  have LY : Hid (Y.length = 32) := by rw [← HY.out]; rfl
  have LZ : Hid (Z.length = 16) := by rw [← HZ.out]; rfl
  have G := Lib.hid (heap_alloc_new' w (.cells (y.map bv).toArray 22))
  have GB : Hid (Below w.heap.size w (w.alloc (.cells (y.map bv).toArray 22))) := (Below.refl _ _).alloc (Nat.le_refl _) _
  by_cases hb : 600 < m
  · go_enter Try.func7, Try.ntmps7
    go_wp2
    go_ret
    exact ⟨rfl, GB.out⟩
  have hbb : m ≤ 600 := by omega
  clear hb q1
  have L1 : Hid ((y.take 16).length = 16) := by show _ = _; rw [List.length_take, HL.out]; rfl
  have LC : Hid ((clampL (y.take 16)).length = 16) := (clampL_len _).trans L1.out
  have LO : Hid ((clampL (y.take 16) ++ y.drop 16).length = 32) := by show _ = _; rw [List.length_append, LC.out, List.length_drop, HL.out]
  have CA := Lib.hid (fun W => clamp_any (y.take 16) W L1.out)
  have CB := Lib.hid (fun W => clamp_any (clampL (y.take 16)) W LC.out)
  rw [clamp_idem _ L1.out] at CB
  have PO := Lib.hid (fun W hS => psum_any (clampL (y.take 16) ++ y.drop 16) A m c b W LO.out HM.out (by omega) hS)
  rw [clamp_poly y b HL.out] at PO
  have PK := Lib.hid (fun W hS => psum_any y A m c b W HL.out HM.out (by omega) hS)
  have LQ := Lib.hid (polyL_len y b)
  have qq := eql_bytes (P := Try.prog) arr16P Try.underlying5 s8 (polyL y b) (polyL y b) LQ.out LQ.out
  have qc := eql_bytes (P := Try.prog) arr16P Try.underlying5 s8 (clampL (y.take 16)) (clampL (y.take 16)) LC.out LC.out
  rw [decide_eq_true rfl] at qq qc
  generalize polyL y b = Q at PO PK LQ qq
  obtain ⟨C, HC⟩ : ∃ C, Hid (clampL (y.take 16) = C) := ⟨_, rfl⟩
  rw [HC.out] at LC LO CA CB PO qc
  clear HC
  obtain ⟨k1, HK1⟩ : ∃ k1, Hid (y.take 16 = k1) := ⟨_, rfl⟩
  have HYI : Hid (∀ i, i < 16 → y.getD i 0 = k1.getD i 0) := by
    intro i hi
    rw [← HK1.out]; simp [List.getD, List.getElem?_take, hi]
  rw [HK1.out] at CA L1
  have HS1 : Hid (∀ i, i < 16 → (k1.take i ++ List.replicate (16 - i) 0).set i (k1.getD i 0) = k1.take (i + 1) ++ List.replicate (16 - (i + 1)) 0) := fun i hi => set_second k1 i hi L1.out
  have LSI : Hid (∀ i, i ≤ 16 → (k1.take i ++ List.replicate (16 - i) (0 : UInt8)).length = 16) := by intro i hi; simp [L1.out]; omega
  have HS2 : Hid (∀ i, i < 16 → (C.take i ++ y.drop i).set i (C.getD i 0) = C.take (i + 1) ++ y.drop (i + 1)) := fun i hi => set_other C y i hi LC.out HL.out
  have LOI : Hid (∀ i, i ≤ 16 → (C.take i ++ y.drop i).length = 32) := by intro i hi; simp [LC.out, HL.out]; omega
  go_enter Try.func7, Try.ntmps7
  go_upto_region 3 with (fail)
  generalize hV : w.alloc _ = W0 at G GB ⊢
  have hs0 : W0.heap.size = w.heap.size + 1 := by rw [← hV]; simp
  have HS0 := Lib.hid hs0
  clear hV hs0
  go_upto_region 4 with (fail)
  generalize hV : World.alloc _ _ = W1
  have F1 := Lib.hid (heap_of_alloc hV)
  have B1 := Lib.hid (below_of_alloc hV (Nat.le_refl _))
  clear hV
  rw [HS0.out] at F1 ⊢
  have G1 := Lib.hid ((B1.out.block _ (lt_of_heap G.out)).trans G.out)
  have GB1 : Hid (Below w.heap.size w W1) := GB.out.trans (B1.out.mono GB.out.size)
  rw [← HZ.out] at F1
  clear B1 G GB HS0
  go_wp2_with fail
  go_loopw [6] (fun vi wr => ∃ (i : Nat), i ≤ 16 ∧ vi = .int .i64 (i : Int) ∧ Hid (Below w.heap.size w wr) ∧ Hid (wr.heap[w.heap.size]? = some (.cells (y.map bv).toArray 22 (0, 0))) ∧
      Hid (wr.heap[w.heap.size + 1]? = some (.cells ((k1.take i ++ List.replicate (16 - i) 0).map bv).toArray 24 (0, 0)))) (fun i _ => 16 - (intOf i).toNat)
  case atStart => exact ⟨0, by omega, rfl, GB1, G1, F1⟩
  case round =>
    clear GB1 G1 F1
    obtain ⟨i, hi, rfl, HB, H0, H1⟩ := hrel
    by_cases hlt : i < 16
    · have e1 : (i : Int) < 16 := by omega
      have e2 : (i : Int) < 32 := by omega
      have hset := HS1.out i hlt
      have l1 := LSI.out i (by omega)
      obtain ⟨X, hX⟩ : ∃ X, X = k1.take i ++ List.replicate (16 - i) (0 : UInt8) := ⟨_, rfl⟩
      rw [← hX] at hset l1 H1
      have c0 := bcell H0.out i (by rw [HL.out]; omega)
      rw [HYI.out i hlt] at c0
      have c1 := bcell H1.out i (by omega)
      have f1 := frozen_of_heap H1.out i
      have HSE := Lib.hid hset
      generalize k1.getD i 0 = z at c0 HSE hset
      generalize X.getD i 0 = x at c1
      clear hset l1 hX
      go_wp2
      go_roundw
      case rel =>
        obtain ⟨m1, m2, m3⟩ := bst_row (B := w.heap.size) (W := wr) (g := w.heap.size + 1) (i := i) (v := z) rfl (by omega) H1.out
        rw [HSE.out] at m1
        exact ⟨i + 1, by omega, by go_num, HB.out.trans m2, (m3 _ (by omega)).trans H0.out, m1⟩
      case measure => simp [intOf]; omega
    · have e1 : ¬ ((i : Int) < 16) := by omega
      have H1' : Hid (wr.heap[w.heap.size + 1]? = some (.cells (k1.map bv).toArray 24 (0, 0))) := by
        have := H1.out
        rw [show i = 16 by omega, List.take_of_length_le (by rw [L1.out]; omega)] at this
        exact Lib.hid (by simpa using this)
      clear H1 HS1 HYI LSI
      obtain ⟨wo, hwo⟩ : ∃ x, x = wr := ⟨_, rfl⟩
      subst hwo
      go_wp2_with (first
        | (refine wpList_ld rfl 24 (.tmp 5) rfl (load_arr arr16P rfl (i16p k1 L1.out) H1'.out) ?_))
      refine (CA.out _).mono ?_
      rintro e w2 ⟨rfl, hb2⟩
      have B2 : Hid (Below w.heap.size w w2) := HB.out.step hb2
      have G2 := Lib.hid ((hb2.block _ (lt_of_heap H0.out)).trans H0.out)
      have hlt2 := Lib.hid (Nat.lt_of_lt_of_le (lt_of_heap H1'.out) hb2.size)
      clear hb2 H0 HB H1'
      go_upto_region 9 with (first
        | (refine wpList_st rfl 24 (.tmp 7) (.tmp 23) rfl (store_arr (cs := C.map bv) (i16p C LC.out) (bv_one _) (heap_alloc_new' w2 _) (by rw [List.length_map, LC.out]; exact LZ.out)) ?_
           generalize hV : World.setRow _ _ _ = W3
           have M3 := Lib.hid (heap_of_setRow hV (heap_alloc_new' w2 _))
           have MB := Lib.hid (((Below.refl w2.heap.size w2).alloc (Nat.le_refl _) _).trans (below_of_setRow hV (Nat.le_refl w2.heap.size) (by simp)))
           clear hV)
        | fail)
      have G3 := Lib.hid ((MB.out.block _ (lt_of_heap G2.out)).trans G2.out)
      have B3 : Hid (Below w.heap.size w W3) := B2.out.step MB.out
      generalize hg7 : w2.heap.size = g7 at M3 hlt2 ⊢
      clear hg7 MB G2 B2
      go_upto_region 10 with (first
        | (refine wpList_ld rfl 22 (.tmp 2) rfl (load_arr arr32P rfl (i32p y HL.out) G3.out) ?_)
        | (refine wpList_st rfl 22 (.tmp 8) (.tmp 24) rfl (store_arr (cs := y.map bv) (i32p y HL.out) (bv_one _) (heap_alloc_new' W3 _) (by rw [List.length_map, HL.out]; exact LY.out)) ?_
           generalize hV : World.setRow _ _ _ = W4
           have M4 := Lib.hid (heap_of_setRow hV (heap_alloc_new' W3 _))
           have MB := Lib.hid (((Below.refl W3.heap.size W3).alloc (Nat.le_refl _) _).trans (below_of_setRow hV (Nat.le_refl W3.heap.size) (by simp)))
           clear hV)
        | fail)
      have G4 := Lib.hid ((MB.out.block _ (lt_of_heap G3.out)).trans G3.out)
      have C4 := Lib.hid ((MB.out.block _ (lt_of_heap M3.out)).trans M3.out)
      have B4 : Hid (Below w.heap.size w W4) := B3.out.step MB.out
      have hlt3 := Lib.hid (lt_of_heap M3.out)
      generalize hg8 : W3.heap.size = g8 at M4 hlt3 ⊢
      clear hg8 MB G3 M3 B3
      have hq8 : Hid (w.heap.size + 1 < g7 ∧ g7 < g8) := ⟨hlt2.out, hlt3.out⟩
      clear hlt2 hlt3
      go_wp2_with fail
      go_loopw [9] (fun vi wr => ∃ (i : Nat), i ≤ 16 ∧ vi = .int .i64 (i : Int) ∧ Hid (Below w.heap.size w wr) ∧ Hid (wr.heap[w.heap.size]? = some (.cells (y.map bv).toArray 22 (0, 0))) ∧
          Hid (wr.heap[g7]? = some (.cells (C.map bv).toArray 24 (0, 0))) ∧ Hid (wr.heap[g8]? = some (.cells ((C.take i ++ y.drop i).map bv).toArray 22 (0, 0)))) (fun i _ => 16 - (intOf i).toNat)
      case atStart => exact ⟨0, by omega, rfl, B4, G4, C4, M4⟩
      case round =>
        clear B4 G4 C4 M4
        obtain ⟨i, hi, rfl, HB, H0, H7, H8⟩ := hrel
        by_cases hlt : i < 16
        · have e1 : (i : Int) < 16 := by omega
          have e2 : (i : Int) < 32 := by omega
          have hset := HS2.out i hlt
          have l1 := LOI.out i (by omega)
          obtain ⟨X, hX⟩ : ∃ X, X = C.take i ++ y.drop i := ⟨_, rfl⟩
          rw [← hX] at hset l1 H8
          have c0 := bcell H7.out i (by rw [LC.out]; omega)
          have c1 := bcell H8.out i (by omega)
          have f1 := frozen_of_heap H8.out i
          have HSE := Lib.hid hset
          generalize C.getD i 0 = z at c0 HSE hset
          generalize X.getD i 0 = x at c1
          clear hset l1 hX
          go_wp2
          go_roundw
          case rel =>
            obtain ⟨m1, m2, m3⟩ := bst_row (B := w.heap.size) (W := wr) (g := g8) (i := i) (v := z) rfl (by have := hq8.out; omega) H8.out
            rw [HSE.out] at m1
            exact ⟨i + 1, by omega, by go_num, HB.out.trans m2, (m3 _ (by have := hq8.out; omega)).trans H0.out, (m3 _ (by have := hq8.out; omega)).trans H7.out, m1⟩
          case measure => simp [intOf]; omega
        · have e1 : ¬ ((i : Int) < 16) := by omega
          have H8' : Hid (wr.heap[g8]? = some (.cells ((C ++ y.drop 16).map bv).toArray 22 (0, 0))) := by
            have := H8.out
            rw [show i = 16 by omega, List.take_of_length_le (by rw [LC.out]; omega)] at this
            exact this
          clear H8 HS2 LOI
          generalize C ++ y.drop 16 = NK at H8' LO PO
          have HSr := Lib.hid (HS.out.below HB.out)
          go_wp2_with fail
          have HX : Hid (Ext wr wr.drew) := (Below.refl _ _).drew
          refine reg_start (by kernel_rfl) ?_
          try simp only [Act.put, List.setIfInBounds_toArray, List.set_cons_zero, List.set_cons_succ]
          refine reg_load 0 (some 34) (fun W hW => load_arr arr16P rfl (i16p C LC.out) (((HX.out.trans hW).block _ (lt_of_heap H7.out)).trans H7.out)) rfl rfl rfl rfl (by kernel_rfl) (by kernel_rfl) (by kernel_rfl) (fun _ _ _ h => h) (by rfl) ?_
          simp only [Act.put, List.setIfInBounds_toArray, List.set_cons_zero, List.set_cons_succ]
          refine reg_load 2 (some 36) (fun W hW => load_arr arr16P rfl (i16p C LC.out) (((HX.out.trans hW).block _ (lt_of_heap H7.out)).trans H7.out)) rfl rfl rfl rfl (by kernel_rfl) (by kernel_rfl) (by kernel_rfl) (fun _ _ _ h => h) (by rfl) ?_
          simp only [Act.put, List.setIfInBounds_toArray, List.set_cons_zero, List.set_cons_succ]
          refine reg_eff 1 rfl (by kernel_rfl) (fun K hK => ?_)
          go_simp
          refine (CB.out _).mono ?_
          rintro e w3 ⟨rfl, hE⟩
          refine hK.out _ _ hE ?_
          have HX := Lib.hid (Ext.trans HX.out hE)
          clear hE hK K
          try simp only [Act.put, List.setIfInBounds_toArray, List.set_cons_zero, List.set_cons_succ]
          refine reg_take (v := ?_) 3 (some 37) rfl rfl (by kernel_rfl) (by kernel_rfl) (by kernel_rfl) (fun _ _ _ h => h) (by rfl) (fun W hW => ?_) ?_
          rotate_left
          · (go_simp; try rfl)
          simp only [Act.put, List.setIfInBounds_toArray, List.set_cons_zero, List.set_cons_succ]
          refine reg_take (v := ?_) 4 (some 38) rfl rfl (by kernel_rfl) (by kernel_rfl) (by kernel_rfl) (fun _ _ _ h => h) (by rfl) (fun W hW => ?_) ?_
          rotate_left
          · (go_simp; try rfl)
          simp only [Act.put, List.setIfInBounds_toArray, List.set_cons_zero, List.set_cons_succ]
          refine reg_load 5 (some 39) (fun W hW => load_arr arr32P rfl (i32p NK LO.out) (((HX.out.trans hW).block _ (lt_of_heap H8'.out)).trans H8'.out)) rfl rfl rfl rfl (by kernel_rfl) (by kernel_rfl) (by kernel_rfl) (fun _ _ _ h => h) (by rfl) ?_
          simp only [Act.put, List.setIfInBounds_toArray, List.set_cons_zero, List.set_cons_succ]
          refine reg_take (v := ?_) 6 (some 40) rfl rfl (by kernel_rfl) (by kernel_rfl) (by kernel_rfl) (fun _ _ _ h => h) (by rfl) (fun W hW => ?_) ?_
          rotate_left
          · (go_simp; try rfl)
          simp only [Act.put, List.setIfInBounds_toArray, List.set_cons_zero, List.set_cons_succ]
          refine reg_load 8 (some 42) (fun W hW => load_arr arr32P rfl (i32p y HL.out) (((HX.out.trans hW).block _ (lt_of_heap H0.out)).trans H0.out)) rfl rfl rfl rfl (by kernel_rfl) (by kernel_rfl) (by kernel_rfl) (fun _ _ _ h => h) (by rfl) ?_
          simp only [Act.put, List.setIfInBounds_toArray, List.set_cons_zero, List.set_cons_succ]
          refine reg_take (v := ?_) 9 (some 43) rfl rfl (by kernel_rfl) (by kernel_rfl) (by kernel_rfl) (fun _ _ _ h => h) (by rfl) (fun W hW => ?_) ?_
          rotate_left
          · (go_simp; try rfl)
          simp only [Act.put, List.setIfInBounds_toArray, List.set_cons_zero, List.set_cons_succ]
          refine reg_eff 7 rfl (by kernel_rfl) (fun K hK => ?_)
          go_simp
          refine (PO.out _ (HSr.out.below HX.out)).mono ?_
          rintro e w4 ⟨rfl, hE⟩
          refine hK.out _ _ hE ?_
          have HX := Lib.hid (Ext.trans HX.out hE)
          clear hE hK K
          try simp only [Act.put, List.setIfInBounds_toArray, List.set_cons_zero, List.set_cons_succ]
          refine reg_eff 10 rfl (by kernel_rfl) (fun K hK => ?_)
          go_simp
          refine (PK.out _ (HSr.out.below HX.out)).mono ?_
          rintro e w5 ⟨rfl, hE⟩
          refine hK.out _ _ hE ?_
          have HX := Lib.hid (Ext.trans HX.out hE)
          clear hE hK K
          try simp only [Act.put, List.setIfInBounds_toArray, List.set_cons_zero, List.set_cons_succ]
          refine reg_take (v := ?_) 11 (some 45) rfl rfl (by kernel_rfl) (by kernel_rfl) (by kernel_rfl) (fun _ _ _ h => h) (by rfl) (fun W hW => ?_) ?_
          rotate_left
          · (go_simp; try rfl)
          simp only [Act.put, List.setIfInBounds_toArray, List.set_cons_zero, List.set_cons_succ]
          refine reg_take (v := ?_) 12 (some 46) rfl rfl (by kernel_rfl) (by kernel_rfl) (by kernel_rfl) (fun _ _ _ h => h) (by rfl) (fun W hW => ?_) ?_
          rotate_left
          · (go_simp; try rfl)
          simp only [Act.put, List.setIfInBounds_toArray, List.set_cons_zero, List.set_cons_succ]
          refine reg_take (v := ?_) 13 (some 47) rfl rfl (by kernel_rfl) (by kernel_rfl) (by kernel_rfl) (fun _ _ _ h => h) (by rfl) (fun W hW => ?_) ?_
          rotate_left
          · (go_simp; try rfl)
          simp only [Act.put, List.setIfInBounds_toArray, List.set_cons_zero, List.set_cons_succ]
          refine reg_eff 14 rfl (by kernel_rfl) (fun K hK => ?_)
          go_simp
          refine (pawake_any _).mono ?_
          rintro e w6 ⟨rfl, hE⟩
          refine hK.out _ _ hE ?_
          have HX := Lib.hid (Ext.trans HX.out hE)
          clear hE hK K
          try simp only [Act.put, List.setIfInBounds_toArray, List.set_cons_zero, List.set_cons_succ]
          refine reg_take (v := ?_) 15 (some 49) rfl rfl (by kernel_rfl) (by kernel_rfl) (by kernel_rfl) (fun _ _ _ h => h) (by rfl) (fun W hW => ?_) ?_
          rotate_left
          · (go_simp; try rfl)
          simp only [Act.put, List.setIfInBounds_toArray, List.set_cons_zero, List.set_cons_succ]
          refine reg_take (v := ?_) 16 (some 4) rfl rfl (by kernel_rfl) (by kernel_rfl) (by kernel_rfl) (fun _ _ _ h => h) (by rfl) (fun W hW => ?_) ?_
          rotate_left
          · (go_simp; try rfl)
          simp only [Act.put, List.setIfInBounds_toArray, List.set_cons_zero, List.set_cons_succ]
          refine reg_done (by kernel_rfl) ?_
          go_wp2
          go_ret
          exact ⟨rfl, HB.out.step HX.out⟩
end Go.Proofs.Ytebkkkjedkpgbaa
