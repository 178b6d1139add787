/- The contract of (*Keys).Decrypt. -/
import Derived.Test.YtjmpbcfbfbjenaaAes10
import Derived.Test.YtjmpbcfbfbjenaaAes7
namespace Go.Proofs.Ytjmpbcfbfbjenaa
open Go.RowKit
set_option linter.unusedVariables false
set_option maxRecDepth 100000
set_option linter.unusedSimpArgs false
theorem backCells : (backL.map bv).length = 256 := by rw [List.length_map]; exact backL_len
def decN (T : List UInt8) (ws : List W32) (n : Nat) (b : List UInt8) : Nat → List W32
  | 0 => (shiftW 3 (addW ws n (colsL b))).map (subW T)
  | i + 1 => (shiftW 3 ((addW ws (n - 1 - i) (decN T ws n b i)).map unmixW)).map (subW T)
def decT (T : List UInt8) (ws : List W32) (n : Nat) (b : List UInt8) : List UInt8 := outL (addW ws 0 (decN T ws n b (n - 1)))
def decL (ws : List W32) (n : Nat) (b : List UInt8) : List UInt8 := decT backL ws n b
theorem decN_len (T : List UInt8) (ws : List W32) (n : Nat) (b : List UInt8) (i : Nat) : (decN T ws n b i).length = 4 := by
  cases i with
  | zero => rw [decN, List.length_map]; exact shiftW_len _ _
  | succ i => rw [decN, List.length_map]; exact shiftW_len _ _
set_option maxHeartbeats 2000000 in
theorem dec_none (v : Value) (b : List UInt8) (w : World) (hb : b.length = 16) (hr : ∀ W, Below w.heap.size w W → Calls Try.prog 69 #[v] W fun e w' => e = .returned (.int .i64 0) ∧ W = w') :
    Calls Try.prog 42 #[v, .agg (b.map bv).toArray] w fun e w' => e = .returned (.agg ((List.replicate 16 (0 : UInt8)).map bv).toArray) ∧ Below w.heap.size w w' := by
  have HR := Lib.hid hr
  have hz : ∀ W, (zeroValue 23).run Try.prog W = .ok (.agg zeros16.toArray) W := fun W => by kernel_rfl
  have hone : Hid (∀ v ∈ zeros16, v.oneCell' = true) := bv_one _
  clear hr
  go_enter Try.func42, Try.ntmps42
  go_upto_region 1 with (fail)
  generalize hV : (w.alloc _).alloc _ = W0
  have F1 : Hid (W0.heap[w.heap.size + 1]? = some (.cells zeros16.toArray 23 (0, 0))) := by rw [← hV]; exact (heap2 w _ _).2.1
  have FB : Hid (Below w.heap.size w W0) := by rw [← hV]; exact (heap2 w _ _).2.2
  clear hV
  go_wp2_with fail
  refine (HR.out W0 FB.out).mono ?_
  rintro e w1 ⟨rfl, rfl⟩
  go_wp2_with (first
    | (refine wpList_run (o := ⟨some 13, _, _, _, _, _⟩) rfl (v := .agg zeros16.toArray) (w' := W0) (by kernel_rfl) ?_
       generalize hZ : zeros16 = Z at F1 hone ⊢)
    | (refine wpList_st rfl 23 (.tmp 4) (.tmp 13) rfl (store_arr (cs := Z) (old := Z) (by rw [← hZ]; exact i16B) hone.out F1.out rfl) ?_))
  have hres := setRow_heap W0 (w.heap.size + 1) _ Z.toArray 23 _ F1.out
  refine bodyPost_ret (results_cell_row (P := Try.prog) rfl _ _ (w.heap.size + 1) 23 Z.toArray (0, 0) _ rfl hres arr16B rfl (by rw [← hZ]; exact i16B)) rfl ⟨by rw [← hZ]; rfl, FB.out.trans (grown_below (grown_setRow _ _ _) (Nat.le_succ _) FB.out.size)⟩
set_option maxHeartbeats 4000000 in
theorem decIn_any (g n : Nat) (ws : List W32) (b : List UInt8) (w : World) (hb : b.length = 16) (hn : 1 ≤ n) (hn2 : n ≤ 14) (H : KeyIn w g ws n) :
    Calls Try.prog 42 #[.pointer (some ⟨g, 0, none⟩), .agg (b.map bv).toArray] w fun e w' => e = .returned (.agg ((decL ws n b).map bv).toArray) ∧ Below w.heap.size w w' := by
  have HBL := Lib.hid hb; have HK := Lib.hid H
  have HKX : Hid (∀ W, Below w.heap.size w W → KeyIn W g ws n) := fun W hW => H.ext hW
  have HW : Hid (ws.length = 60) := H.1
  have hz : ∀ W, (zeroValue 23).run Try.prog W = .ok (.agg zeros16.toArray) W := fun W => by kernel_rfl
  have hz2 := zeroTb
  have e0 : ((n : Int) == 0) = false := by simp; omega
  obtain ⟨n1, hn1⟩ : ∃ n1, n1 = n - 1 := ⟨_, rfl⟩
  have u1 : (n : Int) - 1 = (n1 : Int) := by omega
  have HN1 := Lib.hid hn1
  have HF := Lib.hid (fun W => backward_any W)
  have hsl := Lib.hid backL_len
  have HI : Hid ((Try.prog.info? 97).map (·.size) = some (backL.map bv).length) := by show _ = _; rw [backCells]; exact iTb
  have HE : Hid (zeros256.length = (backL.map bv).length) := by show _ = _; rw [backCells, zeros256_len]
  unfold decL
  generalize backL = T at HF hsl HI HE ⊢
  have hi16 : Hid ((Try.prog.info? 23).map (·.size) = some (b.map bv).length) := by show _ = _; rw [List.length_map, hb]; exact i16B
  have hn14 : n1 ≤ 13 := by omega
  clear hb H hn1
  go_enter Try.func42, Try.ntmps42
  go_upto_region 1 with (fail)
  generalize hV : (w.alloc _).alloc _ = W0
  have F0 : Hid (W0.heap[w.heap.size]? = some (.cells (b.map bv).toArray 23 (0, 0))) := by rw [← hV]; exact (heap2 w _ _).1
  have F1 : Hid (W0.heap[w.heap.size + 1]? = some (.cells zeros16.toArray 23 (0, 0))) := by rw [← hV]; exact (heap2 w _ _).2.1
  have FB : Hid (Below w.heap.size w W0) := by rw [← hV]; exact (heap2 w _ _).2.2
  clear hV
  generalize hg1 : w.heap.size + 1 = g1 at F1 ⊢
  have HG1 : Hid (w.heap.size + 1 = g1) := hg1
  clear hg1
  go_wp2_with fail
  refine (roundsIn_any g ws n W0 (HKX.out _ FB.out)).mono ?_
  rintro e w1 ⟨rfl, rfl⟩
  go_wp2_with fail
  refine (HF.out W0).mono ?_
  rintro e w1 ⟨rfl, hB1⟩
  have P0 := Lib.hid ((hB1.block _ (lt_of_heap F0.out)).trans F0.out)
  have P1 := Lib.hid ((hB1.block _ (lt_of_heap F1.out)).trans F1.out)
  have PB := Lib.hid (FB.out.step hB1)
  have hl0 := Lib.hid (lt_of_heap P0.out)
  have hl1 := Lib.hid (lt_of_heap P1.out)
  clear hB1 F0 F1 FB
  go_upto_region 5 with (first
    | (refine wpList_st rfl 97 (.tmp 6) (.tmp 14) rfl (store_arr (cs := T.map bv) (old := zeros256) HI.out (bv_one _) (heap_alloc_new' w1 _) HE.out) ?_
       generalize hV : World.setRow _ _ _ = W5
       have M6 := Lib.hid (heap_of_setRow hV (heap_alloc_new' w1 _))
       have MB := Lib.hid (((Below.refl w1.heap.size w1).alloc (Nat.le_refl _) _).trans (below_of_setRow hV (Nat.le_refl w1.heap.size) (by simp)))
       clear hV)
    | fail)
  have N0 := Lib.hid ((MB.out.block _ hl0.out).trans P0.out)
  have N1 := Lib.hid ((MB.out.block _ hl1.out).trans P1.out)
  have NB := Lib.hid (PB.out.step MB.out)
  clear P0 P1 PB MB hl0
  generalize hg6 : w1.heap.size = g6 at M6 hl1 ⊢
  clear hg6
  have hS0 : Hid ((decN T ws n b 0).length = 4) := decN_len T ws n b 0
  have HE0 : Hid ((shiftW 3 (addW ws n (colsL b))).map (subW T) = decN T ws n b 0) := rfl
  go_wp2_with (first
    | (refine wpList_ld rfl 23 (.tmp 3) rfl (load_arr arr16B rfl hi16.out N0.out) ?_)
    | fail)
  refine (columns_any b W5 HBL.out).mono ?_
  rintro e w2a ⟨rfl, hB2⟩
  have HB2a := Lib.hid hB2
  clear hB2
  go_wp2_with fail
  refine (add_any g ws n n (colsL b) w2a (colsL_len b) HW.out hn2 (HKX.out _ (NB.out.step HB2a.out)).2).mono ?_
  have hla := Lib.hid (addW_len ws n (colsL b) (colsL_len b) (by rw [HW.out]; omega))
  generalize addW ws n (colsL b) = Ya at HE0 hla ⊢
  rintro e w2b ⟨rfl, hB2⟩
  have HB2b := Lib.hid (HB2a.out.step hB2)
  clear hB2 HB2a
  go_wp2_with fail
  refine (shifted_any 3 Ya w2b (by omega) hla.out).mono ?_
  have hlb := Lib.hid (shiftW_len 3 Ya)
  generalize shiftW 3 Ya = Yb at HE0 hlb ⊢
  rintro e w2 ⟨rfl, hB2⟩
  have HB2 := Lib.hid (HB2b.out.step hB2)
  clear hB2 HB2b
  go_wp2_with fail
  refine (all_any g6 T Yb w2 hlb.out hsl.out ((HB2.out.block _ (lt_of_heap M6.out)).trans M6.out)).mono ?_
  rw [HE0.out]
  rintro e w3 ⟨rfl, hB3⟩
  have HB3 := Lib.hid (HB2.out.step hB3)
  have Q1 := Lib.hid ((HB3.out.block _ (lt_of_heap N1.out)).trans N1.out)
  have Q6 := Lib.hid ((HB3.out.block _ (lt_of_heap M6.out)).trans M6.out)
  have QB := Lib.hid (NB.out.step HB3.out)
  have hq1 := Lib.hid (lt_of_heap Q1.out)
  have hq6 := Lib.hid (lt_of_heap Q6.out)
  clear hB3 HB2 HB3 N0 N1 NB M6
  generalize hY0 : decN T ws n b 0 = Y0 at hS0 HE0 ⊢
  have HY0 := Lib.hid hY0
  clear hY0
  have hi4 : Hid ((Try.prog.info? 99).map (·.size) = some (Y0.map wv).length) := by show _ = _; rw [List.length_map, hS0.out]; exact i4W
  have hle4 : Hid ((List.replicate 4 (Value.int .u32 0)).length = (Y0.map wv).length) := by show _ = _; rw [List.length_map, hS0.out]; rfl
  go_upto_region 6 with (first
    | (refine wpList_st rfl 99 (.tmp 7) (.tmp 21) rfl (store_arr (cs := Y0.map wv) (old := List.replicate 4 (Value.int .u32 0)) hi4.out (wv_one _) (heap_alloc_new' w3 _) hle4.out) ?_
       generalize hV : World.setRow _ _ _ = W7
       have M7 := Lib.hid (heap_of_setRow hV (heap_alloc_new' w3 _))
       have MB := Lib.hid (((Below.refl w3.heap.size w3).alloc (Nat.le_refl _) _).trans (below_of_setRow hV (Nat.le_refl w3.heap.size) (by simp)))
       clear hV)
    | fail)
  have R1 := Lib.hid ((MB.out.block _ hq1.out).trans Q1.out)
  have R6 := Lib.hid ((MB.out.block _ hq6.out).trans Q6.out)
  have RB := Lib.hid (QB.out.step MB.out)
  have hwg : Hid (w.heap.size ≤ w3.heap.size) := QB.out.size
  clear Q1 Q6 QB MB
  generalize hg7 : w3.heap.size = g7 at M7 hq1 hq6 hwg ⊢
  clear hg7
  rw [← HY0.out] at M7
  go_wp2_with fail
  go_loopw [24] (fun vi wr => ∃ (i : Nat), i ≤ n1 ∧ vi = .int .i64 (i : Int) ∧ Hid (Below w.heap.size w wr) ∧ Hid (wr.heap[g1]? = some (.cells zeros16.toArray 23 (0, 0))) ∧ Hid (wr.heap[g6]? = some (.cells (T.map bv).toArray 97 (0, 0))) ∧
     Hid (wr.heap[g7]? = some (.cells ((decN T ws n b i).map wv).toArray 99 (0, 0)))) (fun i _ => n1 - (intOf i).toNat)
  case atStart => exact ⟨0, by omega, rfl, RB, R1, R6, M7⟩
  case round =>
    clear RB R1 R6 M7 hi4 hle4 hS0 HY0 HE0
    obtain ⟨i, hi, rfl, HB, H1, H6, H7⟩ := hrel
    have hSl := Lib.hid (decN_len T ws n b i)
    by_cases hlt : i < n1
    · have q1 : (i : Int) < (n1 : Int) := by omega
      obtain ⟨i1, hi1⟩ : ∃ i1, i1 = n1 - i := ⟨_, rfl⟩
      have u2 : (n1 : Int) - (i : Int) = (i1 : Int) := by omega
      have HST : Hid ((shiftW 3 ((addW ws i1 (decN T ws n b i)).map unmixW)).map (subW T) = decN T ws n b (i + 1)) := by show _ = _; rw [hi1, HN1.out]; rfl
      have hSl1 := Lib.hid (decN_len T ws n b (i + 1))
      have HI1 := Lib.hid hi1
      have hi14 : Hid (i1 ≤ 14) := by show _ ≤ _; omega
      clear hi1
      generalize decN T ws n b i = Y at HST hSl H7
      obtain ⟨Y1, HY1⟩ : ∃ Y1, Hid (decN T ws n b (i + 1) = Y1) := ⟨_, rfl⟩
      rw [HY1.out] at HST hSl1
      have hi4 : Hid ((Try.prog.info? 99).map (·.size) = some (Y.map wv).length) := by show _ = _; rw [List.length_map, hSl.out]; exact i4W
      go_wp2_with (first
        | (refine wpList_ld rfl 99 (.tmp 7) rfl (load_arr arr4W rfl hi4.out H7.out) ?_)
        | fail)
      refine (add_any g ws n i1 Y wr hSl.out HW.out hi14.out (HKX.out _ HB.out).2).mono ?_
      have hl2 := Lib.hid (addW_len ws i1 Y hSl.out (by rw [HW.out]; have := hi14.out; omega))
      generalize addW ws i1 Y = Y2 at HST hl2 ⊢
      rintro e w2 ⟨rfl, hB2⟩
      have HB2 := Lib.hid hB2
      clear hB2
      go_wp2_with fail
      refine (each_unmix Y2 w2 hl2.out).mono ?_
      have hl3 : Hid ((Y2.map unmixW).length = 4) := by show _ = _; rw [List.length_map, hl2.out]
      generalize Y2.map unmixW = Y3 at HST hl3 ⊢
      rintro e w3' ⟨rfl, hB3⟩
      have HB3 := Lib.hid (HB2.out.step hB3)
      clear hB3 HB2
      go_wp2_with fail
      refine (shifted_any 3 Y3 w3' (by omega) hl3.out).mono ?_
      have hl4 := Lib.hid (shiftW_len 3 Y3)
      generalize shiftW 3 Y3 = Y4 at HST hl4 ⊢
      rintro e w4 ⟨rfl, hB4⟩
      have HB4 := Lib.hid (HB3.out.step hB4)
      clear hB4 HB3
      go_wp2_with fail
      refine (all_any g6 T Y4 w4 hl4.out hsl.out ((HB4.out.block _ (lt_of_heap H6.out)).trans H6.out)).mono ?_
      rw [HST.out]
      rintro e w5 ⟨rfl, hB5⟩
      have HB5 := Lib.hid (HB4.out.step hB5)
      have K1 := Lib.hid ((HB5.out.block _ (lt_of_heap H1.out)).trans H1.out)
      have K6 := Lib.hid ((HB5.out.block _ (lt_of_heap H6.out)).trans H6.out)
      have K7 := Lib.hid ((HB5.out.block _ (lt_of_heap H7.out)).trans H7.out)
      have KB := Lib.hid (HB.out.step HB5.out)
      have hi4b : Hid ((Try.prog.info? 99).map (·.size) = some (Y1.map wv).length) := by show _ = _; rw [List.length_map, hSl1.out]; exact i4W
      have hle : Hid ((Y.map wv).length = (Y1.map wv).length) := by show _ = _; rw [List.length_map, List.length_map, hSl.out, hSl1.out]
      clear hB5 HB4 HB5 H1 H6 H7 HB
      go_wp2_with (first
        | (refine wpList_st rfl 99 (.tmp 7) (.tmp 36) rfl (store_arr (cs := Y1.map wv) hi4b.out (wv_one _) K7.out hle.out) ?_
           generalize hV : World.setRow _ _ _ = W8
           have L7 := Lib.hid (heap_of_setRow hV K7.out)
           have L1 := Lib.hid (heap_of_other hV (Nat.ne_of_lt hq1.out) K1.out)
           have L6 := Lib.hid (heap_of_other hV (Nat.ne_of_lt hq6.out) K6.out)
           have LB := Lib.hid (KB.out.trans (below_of_setRow hV hwg.out KB.out.size))
           clear hV)
        | fail)
      go_roundw
      case rel =>
        refine ⟨i + 1, by omega, by go_num, LB, L1, L6, ?_⟩
        rw [HY1.out]; exact L7
      case measure => simp [intOf]; omega
    · have q1 : ¬ ((i : Int) < (n1 : Int)) := by omega
      have HEN : Hid (outL (addW ws 0 (decN T ws n b i)) = decT T ws n b) := by show _ = _; unfold decT; rw [← HN1.out, show i = n1 by omega]
      obtain ⟨R, hR⟩ : ∃ R, Hid (decT T ws n b = R) := ⟨_, rfl⟩
      rw [hR.out] at HEN
      generalize decN T ws n b i = Y at HEN hSl H7
      have hi4 : Hid ((Try.prog.info? 99).map (·.size) = some (Y.map wv).length) := by show _ = _; rw [List.length_map, hSl.out]; exact i4W
      go_wp2_with (first
        | (refine wpList_ld rfl 99 (.tmp 7) rfl (load_arr arr4W rfl hi4.out H7.out) ?_)
        | fail)
      refine (add_any g ws n 0 Y wr hSl.out HW.out (by omega) (HKX.out _ HB.out).2).mono ?_
      have hl4 := Lib.hid (addW_len ws 0 Y hSl.out (by rw [HW.out]; omega))
      generalize addW ws 0 Y = Y4 at HEN hl4 ⊢
      rintro e w4 ⟨rfl, hB4⟩
      have HB4 := Lib.hid hB4
      clear hB4
      go_wp2_with fail
      refine (flat_any Y4 w4 hl4.out).mono ?_
      have hZl : Hid (((outL Y4).map bv).length = 16) := by show _ = _; rw [List.length_map, outL_len, hl4.out]
      rw [HEN.out]
      rw [HEN.out] at hZl
      rintro e w5 ⟨rfl, hB5⟩
      have HB5 := Lib.hid (HB4.out.step hB5)
      have K1 := Lib.hid ((HB5.out.block _ (lt_of_heap H1.out)).trans H1.out)
      have KB := Lib.hid (HB.out.step HB5.out)
      have hi16b : Hid ((Try.prog.info? 23).map (·.size) = some (R.map bv).length) := by show _ = _; rw [hZl.out]; exact i16B
      have hle : Hid (zeros16.length = (R.map bv).length) := by show _ = _; rw [hZl.out]; rfl
      clear hB5 HB4 HB5 H1 H6 H7 HB
      go_wp2_with (first
        | (refine wpList_st rfl 23 (.tmp 4) (.tmp 41) rfl (store_arr (cs := R.map bv) (old := zeros16) hi16b.out (bv_one _) K1.out hle.out) ?_)
        | fail)
      have hres := setRow_heap w5 g1 _ (R.map bv).toArray 23 _ K1.out
      exact bodyPost_ret (results_cell_row (P := Try.prog) rfl _ _ g1 23 (R.map bv).toArray (0, 0) _ rfl hres arr16B rfl (by rw [List.size_toArray, hZl.out]; exact i16B)) rfl ⟨by rw [hR.out], KB.out.trans (grown_below (grown_setRow _ _ _) (by have := HG1.out; omega) KB.out.size)⟩
theorem dec_any (g n : Nat) (ws : List W32) (b : List UInt8) (w : World) (hb : b.length = 16) (hn : 1 ≤ n) (hn2 : n ≤ 14) (H : KeyAt w g ws n) :
    Calls Try.prog 42 #[.pointer (some ⟨g, 0, none⟩), .agg (b.map bv).toArray] w fun e w' => e = .returned (.agg ((decL ws n b).map bv).toArray) ∧ Below w.heap.size w w' := decIn_any g n ws b w hb hn hn2 H.toIn
end Go.Proofs.Ytjmpbcfbfbjenaa
