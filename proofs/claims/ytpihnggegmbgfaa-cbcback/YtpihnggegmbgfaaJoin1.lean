/- Joined: Aes11 Cbc7 AesM1 AesM2 AesM3. -/
import Derived.Test.YtpihnggegmbgfaaAes10
import Derived.Test.YtpihnggegmbgfaaAes7
import Derived.Test.YtpihnggegmbgfaaCbc6
/- The contract of (*Keys).Decrypt. -/
namespace Go.Proofs.Ytpihnggegmbgfaa
open Go.RowKit
set_option linter.unusedVariables false
set_option maxRecDepth 100000
set_option linter.unusedSimpArgs false
theorem backCells : (backL.map bv).length = 256 := by rw [List.length_map]; exact backL_len
def decN (T : List UInt8) (ws : List W32) (n : Nat) (b : List UInt8) : Nat → List W32
  | 0 => (shiftW 3 (addW ws n (colsL b))).map (subW T)
  | i + 1 => (shiftW 3 ((addW ws (n - 1 - i) (decN T ws n b i)).map unmixW)).map (subW T)
def decT (T : List UInt8) (ws : List W32) (n : Nat) (b : List UInt8) : List UInt8 := outL (addW ws 0 (decN T ws n b (n - 1)))
def decL (ws : List W32) (n : Nat) (b : List UInt8) : List UInt8 := decT backL ws n b
theorem decN_len (T : List UInt8) (ws : List W32) (n : Nat) (b : List UInt8) (i : Nat) : (decN T ws n b i).length = 4 := by
  cases i with
  | zero => rw [decN, List.length_map]; exact shiftW_len _ _
  | succ i => rw [decN, List.length_map]; exact shiftW_len _ _
set_option maxHeartbeats 2000000 in
theorem dec_none (v : Value) (b : List UInt8) (w : World) (hb : b.length = 16) (hr : ∀ W, Below w.heap.size w W → Calls Try.prog 33 #[v] W fun e w' => e = .returned (.int .i64 0) ∧ W = w') :
    Calls Try.prog 29 #[v, .agg (b.map bv).toArray] w fun e w' => e = .returned (.agg ((List.replicate 16 (0 : UInt8)).map bv).toArray) ∧ Below w.heap.size w w' := by
  have HR := Lib.hid hr
  have hz : ∀ W, (zeroValue 23).run Try.prog W = .ok (.agg zeros16.toArray) W := fun W => by kernel_rfl
  have hone : Hid (∀ v ∈ zeros16, v.oneCell' = true) := bv_one _
  clear hr
  go_enter Try.func29, Try.ntmps29
  go_upto_region 1 with (fail)
  generalize hV : (w.alloc _).alloc _ = W0
  have F1 : Hid (W0.heap[w.heap.size + 1]? = some (.cells zeros16.toArray 23 (0, 0))) := by rw [← hV]; exact (heap2 w _ _).2.1
  have FB : Hid (Below w.heap.size w W0) := by rw [← hV]; exact (heap2 w _ _).2.2
  clear hV
  go_wp2_with fail
  refine (HR.out W0 FB.out).mono ?_
  rintro e w1 ⟨rfl, rfl⟩
  go_wp2_with (first
    | (refine wpList_run (o := ⟨some 13, _, _, _, _, _⟩) rfl (v := .agg zeros16.toArray) (w' := W0) (by kernel_rfl) ?_
       generalize hZ : zeros16 = Z at F1 hone ⊢)
    | (refine wpList_st rfl 23 (.tmp 4) (.tmp 13) rfl (store_arr (cs := Z) (old := Z) (by rw [← hZ]; exact i16B) hone.out F1.out rfl) ?_))
  have hres := setRow_heap W0 (w.heap.size + 1) _ Z.toArray 23 _ F1.out
  refine bodyPost_ret (results_cell_row (P := Try.prog) rfl _ _ (w.heap.size + 1) 23 Z.toArray (0, 0) _ rfl hres arr16B rfl (by rw [← hZ]; exact i16B)) rfl ⟨by rw [← hZ]; rfl, FB.out.trans (grown_below (grown_setRow _ _ _) (Nat.le_succ _) FB.out.size)⟩
set_option maxHeartbeats 4000000 in
theorem decIn_any (g n : Nat) (ws : List W32) (b : List UInt8) (w : World) (hb : b.length = 16) (hn : 1 ≤ n) (hn2 : n ≤ 14) (H : KeyIn w g ws n) :
    Calls Try.prog 29 #[.pointer (some ⟨g, 0, none⟩), .agg (b.map bv).toArray] w fun e w' => e = .returned (.agg ((decL ws n b).map bv).toArray) ∧ Below w.heap.size w w' := by
  have HBL := Lib.hid hb; have HK := Lib.hid H
  have HKX : Hid (∀ W, Below w.heap.size w W → KeyIn W g ws n) := fun W hW => H.ext hW
  have HW : Hid (ws.length = 60) := H.1
  have hz : ∀ W, (zeroValue 23).run Try.prog W = .ok (.agg zeros16.toArray) W := fun W => by kernel_rfl
  have hz2 := zeroTb
  have e0 : ((n : Int) == 0) = false := by simp; omega
  obtain ⟨n1, hn1⟩ : ∃ n1, n1 = n - 1 := ⟨_, rfl⟩
  have u1 : (n : Int) - 1 = (n1 : Int) := by omega
  have HN1 := Lib.hid hn1
  have HF := Lib.hid (fun W => backward_any W)
  have hsl := Lib.hid backL_len
  have HI : Hid ((Try.prog.info? 62).map (·.size) = some (backL.map bv).length) := by show _ = _; rw [backCells]; exact iTb
  have HE : Hid (zeros256.length = (backL.map bv).length) := by show _ = _; rw [backCells, zeros256_len]
  unfold decL
  generalize backL = T at HF hsl HI HE ⊢
  have hi16 : Hid ((Try.prog.info? 23).map (·.size) = some (b.map bv).length) := by show _ = _; rw [List.length_map, hb]; exact i16B
  have hn14 : n1 ≤ 13 := by omega
  clear hb H hn1
  go_enter Try.func29, Try.ntmps29
  go_upto_region 1 with (fail)
  generalize hV : (w.alloc _).alloc _ = W0
  have F0 : Hid (W0.heap[w.heap.size]? = some (.cells (b.map bv).toArray 23 (0, 0))) := by rw [← hV]; exact (heap2 w _ _).1
  have F1 : Hid (W0.heap[w.heap.size + 1]? = some (.cells zeros16.toArray 23 (0, 0))) := by rw [← hV]; exact (heap2 w _ _).2.1
  have FB : Hid (Below w.heap.size w W0) := by rw [← hV]; exact (heap2 w _ _).2.2
  clear hV
  generalize hg1 : w.heap.size + 1 = g1 at F1 ⊢
  have HG1 : Hid (w.heap.size + 1 = g1) := hg1
  clear hg1
  go_wp2_with fail
  refine (roundsIn_any g ws n W0 (HKX.out _ FB.out)).mono ?_
  rintro e w1 ⟨rfl, rfl⟩
  go_wp2_with fail
  refine (HF.out W0).mono ?_
  rintro e w1 ⟨rfl, hB1⟩
  have P0 := Lib.hid ((hB1.block _ (lt_of_heap F0.out)).trans F0.out)
  have P1 := Lib.hid ((hB1.block _ (lt_of_heap F1.out)).trans F1.out)
  have PB := Lib.hid (FB.out.step hB1)
  have hl0 := Lib.hid (lt_of_heap P0.out)
  have hl1 := Lib.hid (lt_of_heap P1.out)
  clear hB1 F0 F1 FB
  go_upto_region 5 with (first
    | (refine wpList_st rfl 62 (.tmp 6) (.tmp 14) rfl (store_arr (cs := T.map bv) (old := zeros256) HI.out (bv_one _) (heap_alloc_new' w1 _) HE.out) ?_
       generalize hV : World.setRow _ _ _ = W5
       have M6 := Lib.hid (heap_of_setRow hV (heap_alloc_new' w1 _))
       have MB := Lib.hid (((Below.refl w1.heap.size w1).alloc (Nat.le_refl _) _).trans (below_of_setRow hV (Nat.le_refl w1.heap.size) (by simp)))
       clear hV)
    | fail)
  have N0 := Lib.hid ((MB.out.block _ hl0.out).trans P0.out)
  have N1 := Lib.hid ((MB.out.block _ hl1.out).trans P1.out)
  have NB := Lib.hid (PB.out.step MB.out)
  clear P0 P1 PB MB hl0
  generalize hg6 : w1.heap.size = g6 at M6 hl1 ⊢
  clear hg6
  have hS0 : Hid ((decN T ws n b 0).length = 4) := decN_len T ws n b 0
  have HE0 : Hid ((shiftW 3 (addW ws n (colsL b))).map (subW T) = decN T ws n b 0) := rfl
  go_wp2_with (first
    | (refine wpList_ld rfl 23 (.tmp 3) rfl (load_arr arr16B rfl hi16.out N0.out) ?_)
    | fail)
  refine (columns_any b W5 HBL.out).mono ?_
  rintro e w2a ⟨rfl, hB2⟩
  have HB2a := Lib.hid hB2
  clear hB2
  go_wp2_with fail
  refine (add_any g ws n n (colsL b) w2a (colsL_len b) HW.out hn2 (HKX.out _ (NB.out.step HB2a.out)).2).mono ?_
  have hla := Lib.hid (addW_len ws n (colsL b) (colsL_len b) (by rw [HW.out]; omega))
  generalize addW ws n (colsL b) = Ya at HE0 hla ⊢
  rintro e w2b ⟨rfl, hB2⟩
  have HB2b := Lib.hid (HB2a.out.step hB2)
  clear hB2 HB2a
  go_wp2_with fail
  refine (shifted_any 3 Ya w2b (by omega) hla.out).mono ?_
  have hlb := Lib.hid (shiftW_len 3 Ya)
  generalize shiftW 3 Ya = Yb at HE0 hlb ⊢
  rintro e w2 ⟨rfl, hB2⟩
  have HB2 := Lib.hid (HB2b.out.step hB2)
  clear hB2 HB2b
  go_wp2_with fail
  refine (all_any g6 T Yb w2 hlb.out hsl.out ((HB2.out.block _ (lt_of_heap M6.out)).trans M6.out)).mono ?_
  rw [HE0.out]
  rintro e w3 ⟨rfl, hB3⟩
  have HB3 := Lib.hid (HB2.out.step hB3)
  have Q1 := Lib.hid ((HB3.out.block _ (lt_of_heap N1.out)).trans N1.out)
  have Q6 := Lib.hid ((HB3.out.block _ (lt_of_heap M6.out)).trans M6.out)
  have QB := Lib.hid (NB.out.step HB3.out)
  have hq1 := Lib.hid (lt_of_heap Q1.out)
  have hq6 := Lib.hid (lt_of_heap Q6.out)
  clear hB3 HB2 HB3 N0 N1 NB M6
  generalize hY0 : decN T ws n b 0 = Y0 at hS0 HE0 ⊢
  have HY0 := Lib.hid hY0
  clear hY0
  have hi4 : Hid ((Try.prog.info? 65).map (·.size) = some (Y0.map wv).length) := by show _ = _; rw [List.length_map, hS0.out]; exact i4W
  have hle4 : Hid ((List.replicate 4 (Value.int .u32 0)).length = (Y0.map wv).length) := by show _ = _; rw [List.length_map, hS0.out]; rfl
  go_upto_region 6 with (first
    | (refine wpList_st rfl 65 (.tmp 7) (.tmp 21) rfl (store_arr (cs := Y0.map wv) (old := List.replicate 4 (Value.int .u32 0)) hi4.out (wv_one _) (heap_alloc_new' w3 _) hle4.out) ?_
       generalize hV : World.setRow _ _ _ = W7
       have M7 := Lib.hid (heap_of_setRow hV (heap_alloc_new' w3 _))
       have MB := Lib.hid (((Below.refl w3.heap.size w3).alloc (Nat.le_refl _) _).trans (below_of_setRow hV (Nat.le_refl w3.heap.size) (by simp)))
       clear hV)
    | fail)
  have R1 := Lib.hid ((MB.out.block _ hq1.out).trans Q1.out)
  have R6 := Lib.hid ((MB.out.block _ hq6.out).trans Q6.out)
  have RB := Lib.hid (QB.out.step MB.out)
  have hwg : Hid (w.heap.size ≤ w3.heap.size) := QB.out.size
  clear Q1 Q6 QB MB
  generalize hg7 : w3.heap.size = g7 at M7 hq1 hq6 hwg ⊢
  clear hg7
  rw [← HY0.out] at M7
  go_wp2_with fail
  go_loopw [24] (fun vi wr => ∃ (i : Nat), i ≤ n1 ∧ vi = .int .i64 (i : Int) ∧ Hid (Below w.heap.size w wr) ∧ Hid (wr.heap[g1]? = some (.cells zeros16.toArray 23 (0, 0))) ∧ Hid (wr.heap[g6]? = some (.cells (T.map bv).toArray 62 (0, 0))) ∧
     Hid (wr.heap[g7]? = some (.cells ((decN T ws n b i).map wv).toArray 65 (0, 0)))) (fun i _ => n1 - (intOf i).toNat)
  case atStart => exact ⟨0, by omega, rfl, RB, R1, R6, M7⟩
  case round =>
    clear RB R1 R6 M7 hi4 hle4 hS0 HY0 HE0
    obtain ⟨i, hi, rfl, HB, H1, H6, H7⟩ := hrel
    have hSl := Lib.hid (decN_len T ws n b i)
    by_cases hlt : i < n1
    · have q1 : (i : Int) < (n1 : Int) := by omega
      obtain ⟨i1, hi1⟩ : ∃ i1, i1 = n1 - i := ⟨_, rfl⟩
      have u2 : (n1 : Int) - (i : Int) = (i1 : Int) := by omega
      have HST : Hid ((shiftW 3 ((addW ws i1 (decN T ws n b i)).map unmixW)).map (subW T) = decN T ws n b (i + 1)) := by show _ = _; rw [hi1, HN1.out]; rfl
      have hSl1 := Lib.hid (decN_len T ws n b (i + 1))
      have HI1 := Lib.hid hi1
      have hi14 : Hid (i1 ≤ 14) := by show _ ≤ _; omega
      clear hi1
      generalize decN T ws n b i = Y at HST hSl H7
      obtain ⟨Y1, HY1⟩ : ∃ Y1, Hid (decN T ws n b (i + 1) = Y1) := ⟨_, rfl⟩
      rw [HY1.out] at HST hSl1
      have hi4 : Hid ((Try.prog.info? 65).map (·.size) = some (Y.map wv).length) := by show _ = _; rw [List.length_map, hSl.out]; exact i4W
      go_wp2_with (first
        | (refine wpList_ld rfl 65 (.tmp 7) rfl (load_arr arr4W rfl hi4.out H7.out) ?_)
        | fail)
      refine (add_any g ws n i1 Y wr hSl.out HW.out hi14.out (HKX.out _ HB.out).2).mono ?_
      have hl2 := Lib.hid (addW_len ws i1 Y hSl.out (by rw [HW.out]; have := hi14.out; omega))
      generalize addW ws i1 Y = Y2 at HST hl2 ⊢
      rintro e w2 ⟨rfl, hB2⟩
      have HB2 := Lib.hid hB2
      clear hB2
      go_wp2_with fail
      refine (each_unmix Y2 w2 hl2.out).mono ?_
      have hl3 : Hid ((Y2.map unmixW).length = 4) := by show _ = _; rw [List.length_map, hl2.out]
      generalize Y2.map unmixW = Y3 at HST hl3 ⊢
      rintro e w3' ⟨rfl, hB3⟩
      have HB3 := Lib.hid (HB2.out.step hB3)
      clear hB3 HB2
      go_wp2_with fail
      refine (shifted_any 3 Y3 w3' (by omega) hl3.out).mono ?_
      have hl4 := Lib.hid (shiftW_len 3 Y3)
      generalize shiftW 3 Y3 = Y4 at HST hl4 ⊢
      rintro e w4 ⟨rfl, hB4⟩
      have HB4 := Lib.hid (HB3.out.step hB4)
      clear hB4 HB3
      go_wp2_with fail
      refine (all_any g6 T Y4 w4 hl4.out hsl.out ((HB4.out.block _ (lt_of_heap H6.out)).trans H6.out)).mono ?_
      rw [HST.out]
      rintro e w5 ⟨rfl, hB5⟩
      have HB5 := Lib.hid (HB4.out.step hB5)
      have K1 := Lib.hid ((HB5.out.block _ (lt_of_heap H1.out)).trans H1.out)
      have K6 := Lib.hid ((HB5.out.block _ (lt_of_heap H6.out)).trans H6.out)
      have K7 := Lib.hid ((HB5.out.block _ (lt_of_heap H7.out)).trans H7.out)
      have KB := Lib.hid (HB.out.step HB5.out)
      have hi4b : Hid ((Try.prog.info? 65).map (·.size) = some (Y1.map wv).length) := by show _ = _; rw [List.length_map, hSl1.out]; exact i4W
      have hle : Hid ((Y.map wv).length = (Y1.map wv).length) := by show _ = _; rw [List.length_map, List.length_map, hSl.out, hSl1.out]
      clear hB5 HB4 HB5 H1 H6 H7 HB
      go_wp2_with (first
        | (refine wpList_st rfl 65 (.tmp 7) (.tmp 36) rfl (store_arr (cs := Y1.map wv) hi4b.out (wv_one _) K7.out hle.out) ?_
           generalize hV : World.setRow _ _ _ = W8
           have L7 := Lib.hid (heap_of_setRow hV K7.out)
           have L1 := Lib.hid (heap_of_other hV (Nat.ne_of_lt hq1.out) K1.out)
           have L6 := Lib.hid (heap_of_other hV (Nat.ne_of_lt hq6.out) K6.out)
           have LB := Lib.hid (KB.out.trans (below_of_setRow hV hwg.out KB.out.size))
           clear hV)
        | fail)
      go_roundw
      case rel =>
        refine ⟨i + 1, by omega, by go_num, LB, L1, L6, ?_⟩
        rw [HY1.out]; exact L7
      case measure => simp [intOf]; omega
    · have q1 : ¬ ((i : Int) < (n1 : Int)) := by omega
      have HEN : Hid (outL (addW ws 0 (decN T ws n b i)) = decT T ws n b) := by show _ = _; unfold decT; rw [← HN1.out, show i = n1 by omega]
      obtain ⟨R, hR⟩ : ∃ R, Hid (decT T ws n b = R) := ⟨_, rfl⟩
      rw [hR.out] at HEN
      generalize decN T ws n b i = Y at HEN hSl H7
      have hi4 : Hid ((Try.prog.info? 65).map (·.size) = some (Y.map wv).length) := by show _ = _; rw [List.length_map, hSl.out]; exact i4W
      go_wp2_with (first
        | (refine wpList_ld rfl 65 (.tmp 7) rfl (load_arr arr4W rfl hi4.out H7.out) ?_)
        | fail)
      refine (add_any g ws n 0 Y wr hSl.out HW.out (by omega) (HKX.out _ HB.out).2).mono ?_
      have hl4 := Lib.hid (addW_len ws 0 Y hSl.out (by rw [HW.out]; omega))
      generalize addW ws 0 Y = Y4 at HEN hl4 ⊢
      rintro e w4 ⟨rfl, hB4⟩
      have HB4 := Lib.hid hB4
      clear hB4
      go_wp2_with fail
      refine (flat_any Y4 w4 hl4.out).mono ?_
      have hZl : Hid (((outL Y4).map bv).length = 16) := by show _ = _; rw [List.length_map, outL_len, hl4.out]
      rw [HEN.out]
      rw [HEN.out] at hZl
      rintro e w5 ⟨rfl, hB5⟩
      have HB5 := Lib.hid (HB4.out.step hB5)
      have K1 := Lib.hid ((HB5.out.block _ (lt_of_heap H1.out)).trans H1.out)
      have KB := Lib.hid (HB.out.step HB5.out)
      have hi16b : Hid ((Try.prog.info? 23).map (·.size) = some (R.map bv).length) := by show _ = _; rw [hZl.out]; exact i16B
      have hle : Hid (zeros16.length = (R.map bv).length) := by show _ = _; rw [hZl.out]; rfl
      clear hB5 HB4 HB5 H1 H6 H7 HB
      go_wp2_with (first
        | (refine wpList_st rfl 23 (.tmp 4) (.tmp 41) rfl (store_arr (cs := R.map bv) (old := zeros16) hi16b.out (bv_one _) K1.out hle.out) ?_)
        | fail)
      have hres := setRow_heap w5 g1 _ (R.map bv).toArray 23 _ K1.out
      exact bodyPost_ret (results_cell_row (P := Try.prog) rfl _ _ g1 23 (R.map bv).toArray (0, 0) _ rfl hres arr16B rfl (by rw [List.size_toArray, hZl.out]; exact i16B)) rfl ⟨by rw [hR.out], KB.out.trans (grown_below (grown_setRow _ _ _) (by have := HG1.out; omega) KB.out.size)⟩
theorem dec_any (g n : Nat) (ws : List W32) (b : List UInt8) (w : World) (hb : b.length = 16) (hn : 1 ≤ n) (hn2 : n ≤ 14) (H : KeyAt w g ws n) :
    Calls Try.prog 29 #[.pointer (some ⟨g, 0, none⟩), .agg (b.map bv).toArray] w fun e w' => e = .returned (.agg ((decL ws n b).map bv).toArray) ∧ Below w.heap.size w w' := decIn_any g n ws b w hb hn hn2 H.toIn
end Go.Proofs.Ytpihnggegmbgfaa

/- cbc.Open. -/
namespace Go.Proofs.Ytpihnggegmbgfaa
open Go.RowKit Go.Shelf
set_option linter.unusedVariables false
set_option linter.unusedSimpArgs false
set_option maxRecDepth 100000
attribute [local go_sem] Oper.semAt_some
/-- what deciphers, as calls see it -/
def Dcp (w : World) (kp : Value) (D : List UInt8 → List UInt8) : Prop :=
  (∀ x, x.length = 16 → (D x).length = 16) ∧ ∀ W, Below w.heap.size w W → ∀ x, x.length = 16 → Calls Try.prog 29 #[kp, .agg (x.map bv).toArray] W fun e w' => e = .returned (.agg ((D x).map bv).toArray) ∧ Below W.heap.size W w'
theorem Dcp.ext {w w' : World} {kp : Value} {D : List UInt8 → List UInt8} (h : Dcp w kp D) (hb : Below w.heap.size w w') : Dcp w' kp D := ⟨h.1, fun W hW x hx => h.2 W (hb.step hW) x hx⟩
theorem KeyAt.dcp {w : World} {g n : Nat} {ws : List W32} (h : KeyAt w g ws n) (hn : 1 ≤ n) (hn2 : n ≤ 14) : Dcp w (.pointer (some ⟨g, 0, none⟩)) (decL ws n) :=
  ⟨fun x hx => by rw [decL, decT, outL_len, addW_len _ _ _ (decN_len _ _ _ _ _) (by have := h.1; omega)], fun W hW x hx => dec_any g n ws x W hx hn hn2 (h.ext hW)⟩
def openO (D : List UInt8 → List UInt8) (iv b : List UInt8) : Option Nat := if b.length % 16 ≠ 0 then none else upO (unchL D iv b (b.length / 16))
/-- what opening comes to -/
def OpenC (w : World) (D : List UInt8 → List UInt8) (iv b : List UInt8) (v : Value) (x : Int) (w' : World) : Prop :=
  match openO D iv b with
  | none => v = .slice none 0 0 ∧ x = 16
  | some k => x = 0 ∧ k < b.length ∧ w'.ownsRow w.heap.size 5 1 v k (((unchL D iv b (b.length / 16)).take k).map bv)
set_option maxHeartbeats 4000000 in
theorem open_odd (P : Option Addr) (D : List UInt8 → List UInt8) (iv : List UInt8) (A : Option Addr) (n c : Nat) (bs : List UInt8) (w : World) (hl : bs.length = n) (hn : n ≤ 2147000000) (h16 : n % 16 ≠ 0) :
    Calls Try.prog 15 #[.pointer P, .agg (iv.map bv).toArray, .slice A n c] w fun e w' => ∃ v x, e = .returned (.tuple #[v, .int .i64 x]) ∧ OpenC w D iv bs v x w' ∧ Below w.heap.size w w' := by
  have e1 : (n : Int).tmod 16 = ((n % 16 : Nat) : Int) := by rw [Int.tmod_eq_emod_of_nonneg (by omega)]; omega
  obtain ⟨r, hr⟩ : ∃ r, n % 16 = r := ⟨_, rfl⟩
  rw [hr] at e1 h16
  have t1 : ((r : Int) != 0) = true := by simp; omega
  have HO : Hid (∀ w', OpenC w D iv bs (.slice none 0 0) 16 w') := fun w' => by
    unfold OpenC openO
    rw [if_pos (by omega)]
    exact ⟨rfl, rfl⟩
  generalize OpenC w D iv bs = OC at HO ⊢
  clear hr h16 hl
  refine (callsIn_wide (n := 6)).1 ?_
  refine callsIn_of_wp_marks Try.func15 rfl trivial ?_
  simp only [Try.ntmps15, List.size_toArray, List.length_cons, List.length_nil, Nat.reduceAdd, Nat.reduceSub, Array.replicate_succ, Array.replicate_zero, List.push_toArray, List.append_toArray, List.nil_append, List.cons_append]
  gi_wp2_with fail
  exact ⟨.tuple #[.slice none 0 0, .int .i64 16], by simp [results, Try.f15, go_sem], _, _, rfl, HO.out _, ((Below.refl _ w).alloc (Nat.le_refl _) _).alloc (by simp) _⟩
theorem heap4o (w : World) (o1 o2 o3 o4 : Obj) : ((((w.alloc o1).alloc o2).alloc o3).alloc o4).heap[w.heap.size]? = some o1 ∧ ((((w.alloc o1).alloc o2).alloc o3).alloc o4).heap[w.heap.size + 1]? = some o2 ∧
    ((((w.alloc o1).alloc o2).alloc o3).alloc o4).heap[w.heap.size + 1 + 1]? = some o3 ∧ ((((w.alloc o1).alloc o2).alloc o3).alloc o4).heap[w.heap.size + 1 + 1 + 1]? = some o4 ∧ Below w.heap.size w ((((w.alloc o1).alloc o2).alloc o3).alloc o4) := by
  obtain ⟨h1, h2, h3, h4⟩ := heap3 w o1 o2 o3
  have e3 : (((w.alloc o1).alloc o2).alloc o3).heap.size = w.heap.size + 1 + 1 + 1 := by simp
  refine ⟨?_, ?_, ?_, ?_, h4.alloc (by omega) _⟩
  · rw [Below.heap_alloc _ _ _ (by omega)]; exact h1
  · rw [Below.heap_alloc _ _ _ (by omega)]; exact h2
  · rw [Below.heap_alloc _ _ _ (by omega)]; exact h3
  · rw [← e3]; exact heap_alloc_new' _ _
theorem unB_len (D : List UInt8 → List UInt8) (iv : List UInt8) (hiv : iv.length = 16) (hD : ∀ x, x.length = 16 → (D x).length = 16) : ∀ (k : Nat) (pre : List Blk), pre.length = k → (unB D iv pre).1.length = 16 ∧ (unB D iv pre).2.length = 16 * k
  | 0, pre, h => by
    obtain rfl := List.eq_nil_of_length_eq_zero h
    exact ⟨hiv, rfl⟩
  | k + 1, pre, h => by
    rcases List.eq_nil_or_concat pre with rfl | ⟨q, x, rfl⟩
    · simp at h
    · rw [List.concat_eq_append] at h ⊢
      have ih := unB_len D iv hiv hD k q (by simpa using h)
      have h := hD x.1 x.2
      rw [unB_snoc]
      refine ⟨x.2, ?_⟩
      simp only [List.length_append, xorL_len, h, ih.1, ih.2]
      omega
theorem upO_lt {U : List UInt8} {n k : Nat} (hl : U.length = n) (h : upO U = some k) : k < n ∧ 0 < n := by
  unfold upO at h
  split at h
  · cases h
  · rename_i h0
    split at h
    · rename_i h1
      injection h with h
      have hz : (U.getD (U.length - 1) 0).toNat ≠ 0 := fun hz => by
        rw [hz, Nat.sub_zero, List.drop_length] at h1
        have := congrArg List.length h1.2
        rw [padB_len] at this
        have := padK9_le U.length
        simp at *
        omega
      omega
    · cases h
theorem upO_ge {U : List UInt8} {n k : Nat} (hl : U.length = n) (h : upO U = some k) : n ≤ k + 16 := by
  unfold upO at h
  split at h
  · cases h
  · rename_i h0
    split at h
    · rename_i h1
      injection h with h
      have h2 := congrArg List.length h1.2
      rw [padB_len, List.length_drop] at h2
      have := padK9_le (U.length - (U.getD (U.length - 1) 0).toNat)
      omega
    · cases h
def RO7 (P : Option Addr) (Xx DX Cc PX : List UInt8) (n0 : Nat) : Nat → Value → World → Prop
  | 0, v, _ => v = .pointer P
  | 1, v, _ => v = .agg (Xx.map bv).toArray
  | 2, v, _ => v = .agg (DX.map bv).toArray
  | 3, v, _ => v = .agg (Cc.map bv).toArray
  | 4, v, _ => v = .agg (PX.map bv).toArray
  | _, v, Wn => ∃ g, v = .pointer (some ⟨g, 0, none⟩) ∧ n0 ≤ g ∧ Wn.heap[g]? = some (.cells zeros16.toArray 23 (0, 0))
theorem RO7.keep (P : Option Addr) (Xx DX Cc PX : List UInt8) (n0 : Nat) (i : Nat) (v : Value) (A B : World) (h : RO7 P Xx DX Cc PX n0 i v A) (hb : Below A.heap.size A B) : RO7 P Xx DX Cc PX n0 i v B := by
  rcases i with _ | _ | _ | _ | _ | i
  · exact h
  · exact h
  · exact h
  · exact h
  · exact h
  · obtain ⟨g, h1, h2, h3⟩ := h
    exact ⟨g, h1, h2, (hb.block _ (lt_of_heap h3)).trans h3⟩
theorem own_cut {w : World} {base : Nat} {A : Option Addr} {n c k : Nat} {bs : List UInt8} (h : w.ownsRow base 5 1 (.slice A n c) n (bs.map bv)) (hk : k ≤ n) (h0 : 0 < n) : w.ownsRow base 5 1 (.slice A k c) k ((bs.take k).map bv) := by
  rcases h.2 with ⟨h1, h2⟩ | ⟨g, cap, cur, h1, h2, h3, h4, h5, h6, h7⟩
  · omega
  · cases h1
    refine ⟨by have := h.1; simp at this ⊢; omega, .inr ⟨g, _, cur, rfl, h2, h3, by omega, h5, h6, ?_⟩⟩
    rw [List.map_take, ← h7, List.take_take]
    congr 1
    omega
set_option maxHeartbeats 4000000 in
theorem open_any (P : Option Addr) (D : List UInt8 → List UInt8) (iv : List UInt8) (A : Option Addr) (n c m : Nat) (bs : List UInt8) (w : World) (hiv : iv.length = 16) (hD : Dcp w (.pointer P) D) (hl : bs.length = n) (hm : n = 16 * m) (hn : n ≤ 2147000000) (hS : Sl w A c bs) :
    Calls Try.prog 15 #[.pointer P, .agg (iv.map bv).toArray, .slice A n c] w fun e w' => ∃ v x, e = .returned (.tuple #[v, .int .i64 x]) ∧ OpenC w D iv bs v x w' ∧ Below w.heap.size w w' := by
  have HIV := Lib.hid hiv; have HL := Lib.hid hl; have HS := Lib.hid hS; have HDD := Lib.hid hD; have HM := Lib.hid hm
  have e1 : (n : Int).tmod 16 = 0 := by rw [Int.tmod_eq_emod_of_nonneg (by omega)]; omega
  have hz : ∀ W, (zeroValue 23).run Try.prog W = .ok (.agg zeros16.toArray) W := fun W => by kernel_rfl
  have hmk := make_room (P := Try.prog) uT made8 rfl .i64 .i64 n (by omega) (by omega)
  have hm31 : n ≤ 2147483647 := by omega
  clear hiv hl hS hD hm
  refine (callsIn_wide (n := 6)).1 ?_
  refine callsIn_of_wp_marks Try.func15 rfl trivial ?_
  simp only [Try.ntmps15, List.size_toArray, List.length_cons, List.length_nil, Nat.reduceAdd, Nat.reduceSub, Array.replicate_succ, Array.replicate_zero, List.push_toArray, List.append_toArray, List.nil_append, List.cons_append]
  gi_wp2_with (first
    | (have hH := heap4o w (.cells #[.pointer P] 27) (.cells (iv.map bv).toArray 23) (.cells (Array.replicate n (Value.int .u8 0)) 5) (.cells #[.slice (some ⟨w.heap.size + 1 + 1, 0, none⟩) 0 n] 26)
       have hs4 : Hid (((((w.alloc (.cells #[.pointer P] 27)).alloc (.cells (iv.map bv).toArray 23)).alloc (.cells (Array.replicate n (Value.int .u8 0)) 5)).alloc (.cells #[.slice (some ⟨w.heap.size + 1 + 1, 0, none⟩) 0 n] 26)).heap.size = w.heap.size + 1 + 1 + 1 + 1) := by show _ = _; simp
       generalize hV : (((w.alloc _).alloc _).alloc _).alloc _ = W4 at hH hs4 ⊢
       refine wpListIn_ld rfl 23 (.tmp 4) rfl rfl (load_arr arr16B rfl (i16c iv HIV.out) hH.2.1) ?_
       have H4 := Lib.hid hH
       clear hV hH)
    | (refine wpListIn_st rfl 23 (.tmp 9) (.tmp 21) rfl rfl rfl (store_arr (cs := iv.map bv) (old := zeros16) (i16c iv HIV.out) (bv_one _) (heap_alloc_new' W4 _) (by rw [List.length_map, HIV.out]; rfl)) ?_
       generalize hV : World.setRow _ _ _ = W5
       have A5 := Lib.hid (heap_of_setRow hV (heap_alloc_new' W4 _))
       have hs5 : Hid (W5.heap.size = W4.heap.size + 1) := by rw [← hV]; show _ = _; simp [World.setRow]
       have b5 := Lib.hid (((Below.refl _ W4).alloc (Nat.le_refl _) _).trans (below_of_setRow hV (Nat.le_refl _) (by simp)))
       clear hV)
    | fail)
  refine ⟨trivial, (blocks_in Fence.wide 5 trivial rfl A n c W5).mono ?_⟩
  rintro e w6 ⟨rfl, hw6⟩
  gi_wp2
  -- what lies where at the range
  obtain ⟨H41, H42, H43, H44, H4b⟩ := H4.out
  have hs4' := hs4.out
  have hs5' := hs5.out
  obtain ⟨gO, HgO⟩ : ∃ g, w.heap.size + 1 + 1 + 1 = g := ⟨_, rfl⟩
  obtain ⟨gA, HgA⟩ : ∃ g, W4.heap.size = g := ⟨_, rfl⟩
  obtain ⟨g0, Hg0⟩ : ∃ g, w.heap.size + 1 + 1 = g := ⟨_, rfl⟩
  obtain ⟨sB, HsB⟩ : ∃ g, W5.heap.size = g := ⟨_, rfl⟩
  have hne : gO ≠ gA ∧ g0 < gO ∧ gO < gA ∧ gA < sB ∧ w.heap.size + 2 = g0 := by omega
  have ESL : Sl w A c bs := HS.out
  have hLl : bs.length = n := HL.out
  have EA3 : 16 ≤ n → ∀ b o x, A = some ⟨b, o, x⟩ → b < g0 := fun h16 b o x e => by
    obtain ⟨b', o', e', h2, _⟩ := c_sl_cell ESL (i := 0) (by omega)
    rw [e] at e'
    cases e'
    omega
  have hw6s : w6.heap.size = sB + 1 := by rw [hw6, World.size_alloc, HsB]
  have b56 : Below W5.heap.size W5 w6 := by rw [hw6]; exact (Below.refl _ _).alloc (Nat.le_refl _) _
  have b46 : Below W4.heap.size W4 w6 := b5.out.step b56
  have SB6 : Boxed w6 sB 26 (.slice A n c) := by rw [hw6, ← HsB]; exact Boxed.new _ _ _
  have A5' := A5.out
  rw [HgA] at A5'
  have A6 : w6.heap[gA]? = some (.cells (iv.map bv).toArray 23 (0, 0)) := (b56.block _ (by omega)).trans A5'
  have C6 : Boxed w6 gO 26 (.slice (some ⟨g0, 0, none⟩) 0 n) := by rw [← HgO, ← Hg0]; exact (b46.block _ (by omega)).trans H44
  have R6 : w6.heap[g0]? = some (.cells (Array.replicate n (Value.int .u8 0)) 5 (0, 0)) := by rw [← Hg0]; exact (b46.block _ (by omega)).trans H43
  have bw6 : Below g0 W4 w6 := b46.mono (by omega)
  have O6 : w6.ownsRow g0 5 1 (.slice (some ⟨g0, 0, none⟩) 0 n) 0 (([] : List UInt8).map bv) :=
    ⟨by simp, .inr ⟨g0, n, _, rfl, Nat.le_refl _, R6, Nat.zero_le _, by simp [maxLen]; omega, by simp, by simp⟩⟩
  have bwW : Below w.heap.size w w6 := H4b.trans (b46.mono (by omega))
  have S6 : Sl w6 A c bs := ESL.below bwW
  have K4 : W4.heap[w.heap.size]? = some (.cells #[.pointer P] 27 (0, 0)) := H41
  have hg04 : g0 ≤ W4.heap.size := by omega
  have H4w := Lib.hid H4b
  clear R6 H41 H42 H43 H44 A5' H4 A5 b5 HS HL ESL H4b
  have HD16 := Lib.hid HDD.out.1
  have HXL : Hid (∀ pre : List Blk, (unB D iv pre).1.length = 16 ∧ (unB D iv pre).2.length = 16 * pre.length) := fun pre => unB_len D iv HIV.out HD16.out pre.length pre rfl
  rw [← hw6, HgO, HgA, Hg0, HsB]
  refine wpIn_rangeFunc_ownH (gf := 43) (lb := #[.pointer (some ⟨sB, 0, none⟩)]) rfl (by omega) rfl trivial (enters_of Try.func43 (by kernel_rfl) rfl)
    (blocks_stops Fence.wide 5 trivial rfl (by omega) sB g0 n c A bs hLl hm31 w6 SB6.lt SB6.cell S6 EA3) KpB.trans (kpB_b (by omega) SB6.lt) (Below.refl _ _) (fun _ => rfl)
    (fun (pre : List Blk) W => (((∃ v, Boxed W gO 26 v ∧ W.ownsRow g0 5 1 v (16 * pre.length) ((unB D iv pre).2.map bv) ∧ True) ∧ W.heap[gA]? = some (.cells ((unB D iv pre).1.map bv).toArray 23 (0, 0))) ∧ Boxed W sB 26 (.slice A n c)) ∧ Below g0 W4 W)
    (fun _ _ _ => False)
    (OwnFrom.and (OwnFrom.and (OwnFrom.and (Own.from (holdsRow_own g0 gO _ _ 1 (fun pre : List Blk => 16 * pre.length) (fun pre => (unB D iv pre).2.map bv) (fun _ _ => True)) _) (Own.from (cells_own gA _ (fun pre : List Blk => ((unB D iv pre).1.map bv).toArray)) _)) (Own.from (boxed_own sB _ (fun _ : List Blk => Value.slice A n c)) _)) (ownFrom_below hg04 (by omega)))
    (fun _ _ _ _ _ hs _ _ => hs)
    ⟨⟨⟨⟨_, C6, O6, trivial⟩, A6⟩, SB6⟩, bw6⟩
    (fun x a' W => ∃ Bx, w6.heap.size ≤ Bx ∧ W.heap[Bx]? = some (.cells (x.1.map bv).toArray 23 (0, 0)) ∧ a' = { tmps := #[Value.pointer P, Value.agg (List.map bv iv).toArray, Value.slice A n c, Value.pointer (some ⟨w.heap.size, 0, none⟩), Value.pointer (some ⟨w.heap.size + 1, 0, none⟩), undef, Value.slice none 0 0,
          Value.int IntKind.i64 0, Value.pointer (some ⟨gO, 0, none⟩), Value.pointer (some ⟨gA, 0, none⟩), .pointer (some ⟨Bx, 0, none⟩), undef, undef, undef, Value.slice A n c, Value.int IntKind.i64 ↑n, Value.int IntKind.i64 0, Value.bool false, Value.slice A n c,
          Value.int IntKind.i64 ↑n, Value.slice (some ⟨g0, 0, none⟩) 0 n, Value.agg (List.map bv iv).toArray, Value.slice A n c, Value.func (Fn.func 43) #[] #[Value.pointer (some ⟨sB, 0, none⟩)],
          .agg (x.1.map bv).toArray, undef, undef, undef, undef, undef, undef, undef, undef, undef, undef, undef, undef, undef, undef, undef, undef, undef, undef, undef, undef], defers := [] })
    (fun x a' _ X Y row hs hg hr => by obtain ⟨Bx, h1, h2, h3⟩ := hs; exact ⟨Bx, h1, cells_own Bx 23 (fun _ : Unit => (x.1.map bv).toArray) () X Y row h2 hg (fun r e => (hr r e).2), h3⟩)
    ?assign ?body ?done ?stop
  case assign =>
    rintro l pre x W K ⟨⟨⟨⟨v, hv1, hv2, _⟩, hA⟩, hSB⟩, hB⟩ hK
    gi_wp2_with (first
      | (refine wpListIn_st rfl 23 (.tmp 10) (.tmp 24) rfl rfl rfl (store_arr (cs := x.1.map bv) (old := zeros16) (i16c x.1 x.2) (bv_one _) (heap_alloc_new' W _) (by rw [List.length_map, x.2]; rfl)) ?_
         generalize hV : World.setRow _ _ _ = W2)
      | fail)
    have hb2 : Below W.heap.size W W2 := ((Below.refl _ W).alloc (Nat.le_refl _) _).trans (below_of_setRow hV (Nat.le_refl _) (by simp))
    have hlt := hSB.lt
    refine hK _ _ (keepsFrom_below hb2) ⟨hb2.mono (by omega), hb2.cell hlt⟩ ⟨⟨⟨⟨v, (hb2.block _ hv1.lt).trans hv1, c_own_below hv2 hb2, trivial⟩, (hb2.block _ (lt_of_heap hA)).trans hA⟩, (hb2.block _ hlt).trans hSB⟩, hB.trans (hb2.mono (by omega))⟩ ⟨W.heap.size, by omega, heap_of_setRow hV (heap_alloc_new' W _), rfl⟩
  case body =>
    rintro l pre x a' W hl ⟨r, hr⟩ ⟨⟨⟨⟨v, hv1, hv2, _⟩, hA⟩, hSB⟩, hB⟩ ⟨Bx, hBx, hX, rfl⟩ hlt
    have hsBlt := hSB.lt
    have hKW : W.heap[w.heap.size]? = some (.cells #[.pointer P] 27 (0, 0)) := (hB.block _ (by omega)).trans K4
    have hDW : Dcp W (.pointer P) D := HDD.out.ext (H4w.out.trans (hB.mono (by omega)))
    have HC16 := Lib.hid (HXL.out pre).1
    have HO16 := Lib.hid (HXL.out pre).2
    have HSn := Lib.hid (unB_snoc D iv pre x)
    have hX16 := x.2
    generalize hc : (unB D iv pre).1 = Cc at HC16 HSn hA
    generalize ho : (unB D iv pre).2 = Oo at HO16 HSn hv2
    obtain ⟨Xx, hXx⟩ : ∃ l, x.1 = l := ⟨_, rfl⟩
    rw [hXx] at hX16 HSn hX ⊢
    have HX16 := Lib.hid hX16
    have HDX := Lib.hid (hDW.1 Xx hX16)
    have HDc := Lib.hid (fun Wn (h : Below W.heap.size W Wn) => hDW.2 Wn h Xx HX16.out)
    have HXC : Hid ((xorL (D Xx) Cc).length = 16) := by show _ = _; rw [xorL_len, HDX.out, HC16.out]; rfl
    have HC := Lib.hid (fun Wn => cxor_any (D Xx) Cc Wn HDX.out HC16.out)
    generalize xorL (D Xx) Cc = PX at HC HXC HSn
    generalize D Xx = DX at HDX HDc HC
    clear hc ho hX16 hDW
    gi_wp2
    refine regIn_inv (fun L a Wn => ∃ vs : Nat → Value, a = { tmps := #[Value.pointer P, Value.agg (List.map bv iv).toArray, Value.slice A n c, Value.pointer (some ⟨w.heap.size, 0, none⟩), Value.pointer (some ⟨w.heap.size + 1, 0, none⟩), undef, Value.slice none 0 0,
          Value.int IntKind.i64 0, Value.pointer (some ⟨gO, 0, none⟩), Value.pointer (some ⟨gA, 0, none⟩), .pointer (some ⟨Bx, 0, none⟩), vs 5, undef, undef, Value.slice A n c, Value.int IntKind.i64 ↑n, Value.int IntKind.i64 0, Value.bool false, Value.slice A n c,
          Value.int IntKind.i64 ↑n, Value.slice (some ⟨g0, 0, none⟩) 0 n, Value.agg (List.map bv iv).toArray, Value.slice A n c, Value.func (Fn.func 43) #[] #[Value.pointer (some ⟨sB, 0, none⟩)],
          .agg (Xx.map bv).toArray, vs 0, vs 1, vs 2, vs 3, vs 4, undef, undef, undef, undef, undef, undef, undef, undef, undef, undef, undef, undef, undef, undef, undef], defers := [] } ∧
        RJ 6 (RO7 P Xx DX Cc PX W.heap.size)
          (fun vs Wn => ∃ g, vs 5 = .pointer (some ⟨g, 0, none⟩) ∧ W.heap.size ≤ g ∧ Wn.heap[g]? = some (.cells (PX.map bv).toArray 23 (0, 0)) ∧ Below W.heap.size W Wn) W vs L Wn) (by kernel_rfl) (by kernel_rfl) ?_
      (And.intro ?_ (And.intro ?_ (And.intro ?_ (And.intro ?_ (And.intro ?_ (And.intro ?_ (And.intro ?_ trivial))))))) ?_
    · intro L hL
      exact ⟨fun _ => undef, rfl, RJ.start hL ((Below.refl _ _).drew)⟩
    all_goals try have hRs := RO7.keep P Xx DX Cc PX W.heap.size
    · rintro L a Wn ⟨vs, rfl, H⟩ hLi hd
      refine ⟨rfl, fun K0 hK => ?_⟩
      have hb := H.b0 (H.last (by omega) hLi)
      have hcell : Wn.cell? ⟨w.heap.size, 0, none⟩ = some (.pointer P) := by simp [World.cell?, (hb.block _ (lt_of_heap hKW)).trans hKW]
      go_simp
      exact hK.out _ _ ⟨_, rfl, H.step hRs 0 (by omega) hLi (Below.refl _ _) _ rfl⟩
    · rintro L a Wn ⟨vs, rfl, H⟩ hLi hd
      refine ⟨rfl, fun K0 hK => ?_⟩
      have hb := H.b0 (H.last (by omega) hLi)
      refine opIn_load 23 (.tmp 10) rfl rfl (load_arr arr16B rfl (i16c Xx HX16.out) ((hb.block _ (lt_of_heap hX)).trans hX)) ?_
      exact hK.out _ _ ⟨_, rfl, H.step hRs 1 (by omega) hLi (Below.refl _ _) _ rfl⟩
    · rintro L a Wn ⟨vs, rfl, H⟩ hLi hd
      refine ⟨rfl, fun K0 hK => ?_⟩
      have hn6 := H.last (by omega) hLi
      have e0 : vs 0 = .pointer P := H.fv hn6 0 (hd ⟨0, .data⟩ (by simp) rfl) (by omega)
      have e1 : vs 1 = .agg (Xx.map bv).toArray := H.fv hn6 1 (hd ⟨1, .data⟩ (by simp) rfl) (by omega)
      simp only [e0, e1]
      go_simp
      refine ⟨trivial, (CallsIn.inRound l (callsIn_wide.2 (HDc.out Wn (H.b0 hn6)))).mono ?_⟩
      rintro e W' ⟨rfl, hb'⟩
      exact hK.out _ _ ⟨updv vs 2 _, by rw [← e0, ← e1]; rfl, H.step hRs 2 (by omega) hLi hb' _ rfl⟩
    · rintro L a Wn ⟨vs, rfl, H⟩ hLi hd
      refine ⟨rfl, fun K0 hK => ?_⟩
      have hb := H.b0 (H.last (by omega) hLi)
      refine opIn_load 23 (.tmp 9) rfl rfl (load_arr arr16B rfl (i16c Cc HC16.out) ((hb.block _ (lt_of_heap hA)).trans hA)) ?_
      exact hK.out _ _ ⟨_, rfl, H.step hRs 3 (by omega) hLi (Below.refl _ _) _ rfl⟩
    · rintro L a Wn ⟨vs, rfl, H⟩ hLi hd
      refine ⟨rfl, fun K0 hK => ?_⟩
      have hn6 := H.last (by omega) hLi
      have e2 : vs 2 = .agg (DX.map bv).toArray := H.fv hn6 2 (hd ⟨2, .data⟩ (by simp) rfl) (by omega)
      have e3 : vs 3 = .agg (Cc.map bv).toArray := H.fv hn6 3 (hd ⟨3, .data⟩ (by simp) rfl) (by omega)
      simp only [e2, e3]
      go_simp
      refine ⟨trivial, (CallsIn.inRound l (callsIn_wide.2 (HC.out Wn))).mono ?_⟩
      rintro e W' ⟨rfl, hb'⟩
      exact hK.out _ _ ⟨updv vs 4 _, by rw [← e2, ← e3]; rfl, H.step hRs 4 (by omega) hLi hb' _ rfl⟩
    · rintro L a Wn ⟨vs, rfl, H⟩ hLi hd
      refine ⟨rfl, fun K0 hK => ?_⟩
      have hn6 := H.last (by omega) hLi
      go_simp
      exact hK.out _ _ ⟨_, rfl, H.step hRs 5 (by omega) hLi ((Below.refl _ _).alloc (Nat.le_refl _) _) _ ⟨Wn.heap.size, rfl, (H.b0 hn6).size, heap_alloc_new' Wn _⟩⟩
    · rintro L a Wn ⟨vs, rfl, H⟩ hLi hd
      refine ⟨rfl, fun K0 hK => ?_⟩
      have e4 : vs 4 = .agg (PX.map bv).toArray := H.fv hLi 4 (hd ⟨4, .data⟩ (by simp) rfl) (by omega)
      obtain ⟨g, e5, hgs, hgz⟩ : ∃ g, vs 5 = .pointer (some ⟨g, 0, none⟩) ∧ W.heap.size ≤ g ∧ Wn.heap[g]? = some (.cells zeros16.toArray 23 (0, 0)) := H.fv hLi 5 (hd ⟨5, .data⟩ (by simp) rfl) (by omega)
      have hb := H.b0 hLi
      refine opIn_store 23 (.tmp 11) (.tmp 29) rfl e5 e4 (store_arr (cs := PX.map bv) (old := zeros16) (i16c PX HXC.out) (bv_one _) hgz (by rw [List.length_map, HXC.out]; rfl)) ?_
      refine hK.out _ _ ⟨vs, rfl, H.fin (fun i hi => ?_) ⟨g, e5, hgs, heap_of_setRow rfl hgz, hb.trans (below_of_setRow rfl hgs hb.size)⟩⟩
      have h5 : i = 0 ∨ i = 1 ∨ i = 2 ∨ i = 3 ∨ i = 4 ∨ i = 5 := by omega
      rcases h5 with rfl | rfl | rfl | rfl | rfl | rfl <;> exact hd ⟨_, .phase⟩ (by simp) rfl
    rintro L a Wn hL ⟨vs, rfl, H⟩
    obtain ⟨gP, e5, hgP, hP, hbm⟩ := H.b1 (hL 6)
    rw [e5]
    generalize vs 0 = z0
    generalize vs 1 = z1
    generalize vs 2 = z2
    generalize vs 3 = z3
    generalize vs 4 = z4
    clear H e5
    gi_wp2
    have hvB : gO < W.heap.size := hv1.lt
    have hAn : Wn.heap[gA]? = some (.cells (Cc.map bv).toArray 23 (0, 0)) := (hbm.block _ (lt_of_heap hA)).trans hA
    have hXn : Wn.heap[Bx]? = some (.cells (Xx.map bv).toArray 23 (0, 0)) := (hbm.block _ (lt_of_heap hX)).trans hX
    have hvn : Boxed Wn gO 26 v := (hbm.block _ hvB).trans hv1
    have hSn : Boxed Wn sB 26 (.slice A n c) := (hbm.block _ hSB.lt).trans hSB
    have hon : Wn.ownsRow g0 5 1 v (16 * pre.length) (Oo.map bv) := c_own_below hv2 hbm
    have hg0W : g0 ≤ W.heap.size := by have := hB.size; omega
    obtain ⟨pl, hpl⟩ : ∃ k, 16 * pre.length = k := ⟨_, rfl⟩
    rw [hpl] at hon
    have hpl31 : pl + 16 ≤ 2147483647 := by omega
    have hg0n : g0 ≤ Wn.heap.size := by have := hbm.size; omega
    have sl1 := arr_all arr16B s8 ⟨gP, 0, none⟩
    have hSl : Sl Wn.drew (some ⟨gP, 0, none⟩) 16 PX := sl_row HXC.out (by omega) hP
    refine regIn_inv (fun L a Wx => ∃ v29 v30 v31 : Value, a = { tmps := #[Value.pointer P, Value.agg (List.map bv iv).toArray, Value.slice A n c, Value.pointer (some ⟨w.heap.size, 0, none⟩), Value.pointer (some ⟨w.heap.size + 1, 0, none⟩), undef, Value.slice none 0 0,
          Value.int IntKind.i64 0, Value.pointer (some ⟨gO, 0, none⟩), Value.pointer (some ⟨gA, 0, none⟩), .pointer (some ⟨Bx, 0, none⟩), .pointer (some ⟨gP, 0, none⟩), undef, undef, Value.slice A n c, Value.int IntKind.i64 ↑n, Value.int IntKind.i64 0, Value.bool false, Value.slice A n c,
          Value.int IntKind.i64 ↑n, Value.slice (some ⟨g0, 0, none⟩) 0 n, Value.agg (List.map bv iv).toArray, Value.slice A n c, Value.func (Fn.func 43) #[] #[Value.pointer (some ⟨sB, 0, none⟩)],
          .agg (Xx.map bv).toArray, z0, z1, z2, z3, z4, v29, v30, v31, undef, undef, undef, undef, undef, undef, undef, undef, undef, undef, undef, undef], defers := [] } ∧
        (L 0 = true → v29 = v) ∧ (L 1 = true → v30 = .slice (some ⟨gP, 0, none⟩) 16 16) ∧ (L 2 = true → L 0 = true ∧ L 1 = true) ∧ (L 3 = true → L 2 = true) ∧ (L 2 = false → Wx = Wn.drew) ∧
        (L 2 = true → ∃ w', w'.ownsRow g0 5 1 v31 (pl + 16) ((Oo ++ PX).map bv) ∧ Wn.drew.grownBy w' v.ownBlock ∧ (L 3 = false → Wx = w') ∧ (L 3 = true → Wx = w'.setCell ⟨gO, 0, none⟩ v31))) (by kernel_rfl) (by kernel_rfl) ?_
      (And.intro ?_ (And.intro ?_ (And.intro ?_ (And.intro ?_ trivial)))) ?_
    · intro L hL
      have no : ∀ j, j < 4 → L j = true → False := fun j hj h => by rw [hL j hj] at h; cases h
      exact ⟨_, _, _, rfl, fun h => (no 0 (by decide) h).elim, fun h => (no 1 (by decide) h).elim, fun h => (no 2 (by decide) h).elim, fun h => (no 3 (by decide) h).elim, fun _ => rfl, fun h => (no 2 (by decide) h).elim⟩
    · rintro L a Wx ⟨v29, v30, v31, rfl, F0, F1, D2, D3, F2, F3⟩ hLi hd
      refine ⟨rfl, fun K0 hK => ?_⟩
      have h2 : L 2 = false := by cases h : L 2 with
        | false => rfl
        | true => rw [(D2 h).1] at hLi; cases hLi
      obtain rfl := F2 h2
      have hcell : Wn.drew.cell? ⟨gO, 0, none⟩ = some v := hvn.cell
      go_simp
      exact hK.out _ _ ⟨_, v30, v31, rfl, fun _ => rfl, F1, fun h => (upF h2 (by decide) h).elim, D3, fun _ => rfl, fun h => (upF h2 (by decide) h).elim⟩
    · rintro L a Wx ⟨v29, v30, v31, rfl, F0, F1, D2, D3, F2, F3⟩ hLi hd
      refine ⟨rfl, fun K0 hK => ?_⟩
      have h2 : L 2 = false := by cases h : L 2 with
        | false => rfl
        | true => rw [(D2 h).2] at hLi; cases hLi
      obtain rfl := F2 h2
      go_simp
      exact hK.out _ _ ⟨v29, _, v31, rfl, F0, fun _ => rfl, fun h => (upF h2 (by decide) h).elim, D3, fun _ => rfl, fun h => (upF h2 (by decide) h).elim⟩
    · rintro L a Wx ⟨v29, v30, v31, rfl, F0, F1, D2, D3, F2, F3⟩ hLi hd
      refine ⟨rfl, fun K0 hK => ?_⟩
      obtain rfl := F2 hLi
      have h0 := hd ⟨0, .data⟩ (by simp) rfl
      have h1 := hd ⟨1, .data⟩ (by simp) rfl
      have h3 : L 3 = false := by cases h : L 3 with
        | false => rfl
        | true => rw [D3 h] at hLi; cases hLi
      have hon' : Wn.drew.ownsRow g0 5 1 v pl (Oo.map bv) := hon
      refine opIn_app8 (.tmp 30) (.tmp 31) rfl g0 v pl Oo (F0 h0) hon' (some ⟨gP, 0, none⟩) 16 16 Wn.drew.heap.size PX (F1 h1) hSl.2.2 HXC.out hpl31 hg0n ?_
      intro v' w' hown hgr _
      exact hK.out _ _ ⟨v29, v30, v', rfl, F0, F1, fun _ => ⟨h0, h1⟩, fun h => (upF h3 (by decide) h).elim, fun h => (upS h).elim, fun _ => ⟨w', hown, hgr, fun _ => rfl, fun h => (upF h3 (by decide) h).elim⟩⟩
    · rintro L a Wx ⟨v29, v30, v31, rfl, F0, F1, D2, D3, F2, F3⟩ hLi hd
      refine ⟨rfl, fun K0 hK => ?_⟩
      have h2 := hd ⟨2, .data⟩ (by simp) rfl
      obtain ⟨w', hown, hgr, hw, _⟩ := F3 h2
      obtain rfl := hw hLi
      have hvw : Boxed Wx gO 26 v := Boxed.kept (show Boxed Wn.drew gO 26 v from hvn) hgr (hvn.not_row (by decide) hon)
      have hcell := hvw.cell
      have hfr := hvw.frozen
      obtain ⟨A', c', rfl, _⟩ := own_read hown
      go_simp
      exact hK.out _ _ ⟨v, .slice (some ⟨gP, 0, none⟩) 16 16, _, rfl, fun _ => rfl, fun _ => rfl, fun _ => D2 h2, fun _ => h2, fun h => (upT h2 h).elim, fun _ => ⟨Wx, hown, hgr, fun h => (upS h).elim, fun _ => rfl⟩⟩
    rintro L a Wx hL2 ⟨v29, v30, v31, rfl, _, _, _, _, _, F3⟩
    obtain ⟨w', hown, hgr, _, hwx⟩ := F3 (hL2 2)
    have hWx := hwx (hL2 3)
    clear hwx F3
    have hvw : Boxed w' gO 26 v := Boxed.kept (show Boxed Wn.drew gO 26 v from hvn) hgr (hvn.not_row (by decide) hon)
    have hge : ∀ k, v.ownBlock = some k → g0 ≤ k := c_own_ge hon (Nat.le_refl _)
    have hbw : Below g0 Wn w' := ((Below.refl g0 Wn).drew).grown hgr hg0n hge
    have hsx := grownBy_setCell' w' gO v31
    rw [← hWx] at hsx
    have hszw : Wn.heap.size ≤ w'.heap.size := hgr.size
    have hbx : Below g0 Wn Wx := hbw.grown hsx (by omega) (fun k e => by (cases e; omega))
    have hAw : w'.heap[gA]? = some (.cells (Cc.map bv).toArray 23 (0, 0)) := (hgr.block gA (lt_of_heap hAn) (cells_not_row hAn (by decide) hon)).trans hAn
    have hXw : w'.heap[Bx]? = some (.cells (Xx.map bv).toArray 23 (0, 0)) := (hgr.block Bx (lt_of_heap hXn) (cells_not_row hXn (by decide) hon)).trans hXn
    have hSw : Boxed w' sB 26 (.slice A n c) := Boxed.kept (show Boxed Wn.drew sB 26 _ from hSn) hgr (hSn.not_row (by decide) hon)
    have hKx : KeepsFrom w6.heap.size W Wx := (((keepsFrom_below hbm).trans ((KeepsOthers.drew Wn).from _)).trans (keepsFrom_row hgr (ownBlock_cells (W := Wn.drew) hon))).trans (keepsFrom_row hsx (fun j o e ho => by cases e; rw [show w'.heap[gO]? = _ from hvw] at ho; cases ho; rfl))
    have hSx : Boxed Wx sB 26 (.slice A n c) := Boxed.kept hSw hsx (by simp; omega)
    have hAx : Wx.heap[gA]? = some (.cells (Cc.map bv).toArray 23 (0, 0)) := (hsx.block gA (lt_of_heap hAw) (by simp; omega)).trans hAw
    have hXx' : Wx.heap[Bx]? = some (.cells (Xx.map bv).toArray 23 (0, 0)) := (hsx.block Bx (lt_of_heap hXw) (by simp; omega)).trans hXw
    have hvx : Boxed Wx gO 26 v31 := by rw [hWx]; exact hvw.set v31
    have hox := hown.kept hsx (.inr (hvw.not_row (by decide) hown).symm)
    clear hWx hsx
    gi_wp2_with (first
      | (refine wpListIn_ld rfl 23 (.tmp 10) rfl rfl (load_arr arr16B rfl (i16c Xx HX16.out) hXx') ?_)
      | (refine wpListIn_st rfl 23 (.tmp 9) (.tmp 33) rfl rfl rfl (store_arr (cs := Xx.map bv) (old := Cc.map bv) (i16c Xx HX16.out) (bv_one _) hAx (by rw [List.length_map, List.length_map, HX16.out, HC16.out])) ?_
         generalize hV : World.setRow _ _ _ = Wy)
      | fail)
    have hgy : Wx.grownBy Wy (some gA) := by rw [← hV]; exact grown_setRow _ _ _
    have hszx : Wn.heap.size ≤ Wx.heap.size := hbx.size
    have hby : Below g0 Wx Wy := below_of_setRow hV (by omega) (by omega)
    have hbWn : Below g0 W Wn := hbm.mono (by omega)
    have hSy : Boxed Wy sB 26 (.slice A n c) := heap_of_other hV (by omega) hSx
    refine ⟨hKx.trans (keepsFrom_row hgy (fun j o e ho => by cases e; rw [hAx] at ho; cases ho; rfl)), ⟨hbWn.trans (hbx.trans hby), hSy.cell.trans hSB.cell.symm⟩, ⟨⟨⟨v31, heap_of_other hV (by omega) hvx, ?_, trivial⟩, ?_⟩, hSy⟩, hB.trans (hbWn.trans (hbx.trans hby))⟩
    · rw [HSn.out, List.length_append, Nat.mul_add, hpl]
      exact hox.kept hgy (.inr (cells_not_row hAx (by decide) hox).symm)
    · rw [HSn.out]; exact heap_of_setRow hV hAx
  case done =>
    rintro Db xs W hDb rfl ⟨⟨⟨⟨v, hv1, hv2, _⟩, hA⟩, hSB⟩, hB⟩ hK
    have cO := hv1.cell
    have hm16 : n / 16 = m := by have := HM.out; omega
    rw [hm16] at hv2
    rw [blkUp_len, unB_up] at hv2
    have hln : 16 * m = n := HM.out.symm
    simp only [hln] at hv2
    have HOC : Hid (∀ (v : Value) (x : Int) (w' : World), (match openO D iv bs with | none => v = .slice none 0 0 ∧ x = 16 | some k => x = 0 ∧ k < bs.length ∧ w'.ownsRow w.heap.size 5 1 v k (((unchL D iv bs (bs.length / 16)).take k).map bv)) → OpenC w D iv bs v x w') := fun v x w' h => h
    have HOO : Hid (openO D iv bs = upO (unchL D iv bs m)) := by show _ = _; unfold openO; rw [hLl, if_neg (by omega), hm16]
    rw [HOO.out, hLl, hm16] at HOC
    generalize unchL D iv bs m = U at hv2 HOC
    have hUl : U.length = n := by have := hv2.1; simpa using this
    obtain ⟨Av, cv, rfl, h1, h2, h3, h4⟩ := own_read hv2
    have HUP := Lib.hid (unpad_any Av n cv U W hUl hm31 ⟨by omega, h3, h4⟩)
    have hDs := lt_of_heap hK
    have HBW : Hid (Below w.heap.size w W) := H4w.out.trans (hB.mono (by omega))
    have HV2 := Lib.hid hv2; have HK := Lib.hid hK; have HUL := Lib.hid hUl
    have hcv : n ≤ cv := h2
    clear hv2 hK h4 HOO
    gi_wp2_with fail
    refine ⟨trivial, (callsIn_wide.2 HUP.out).mono ?_⟩
    rintro e w7 ⟨rfl, hb7⟩
    have K7 := Lib.hid ((hb7.block _ hDs).trans HK.out)
    have V7 := Lib.hid (c_own_below HV2.out hb7)
    have B7 := Lib.hid (HBW.out.step hb7)
    have c7 := (hb7.cell (p := ⟨gO, 0, none⟩) hv1.lt).trans cO
    have hD7 : w.heap.size ≤ Db := by omega
    clear hb7 HUP
    cases hu : upO U with
    | none =>
      rw [hu] at HOC
      have ev : upV none = 0 := rfl
      have ee : upE none = 16 := rfl
      rw [ev, ee]
      gi_wp2
      refine ⟨by simp, .inl ⟨_, _, rfl, run_takeDeferred K7.out, ?_⟩⟩
      exact ⟨.tuple #[.slice none 0 0, .int .i64 16], by simp [results, Try.f15, go_sem], _, _, rfl, HOC.out _ _ _ ⟨rfl, rfl⟩, B7.out.trans (belowK_b (w := w) (Nat.le_refl _) w7 Db _ _ hD7 K7.out rfl rfl)⟩
    | some k =>
      rw [hu] at HOC
      have ev : upV (some k) = (k : Int) := rfl
      have ee : upE (some k) = 0 := rfl
      rw [ev, ee]
      have hk : k < n ∧ 0 < n := upO_lt hUl hu
      have sl2 := cut_to uT s8 Av n cv .i64 (k : Int) (by omega) (by omega)
      rw [Int.toNat_natCast] at sl2
      gi_wp2
      refine ⟨by simp, .inl ⟨_, _, rfl, run_takeDeferred K7.out, ?_⟩⟩
      refine ⟨.tuple #[.slice Av k cv, .int .i64 0], by simp [results, Try.f15, go_sem], _, _, rfl, HOC.out _ _ _ ⟨rfl, hk.1, ?_⟩, B7.out.trans (belowK_b (w := w) (Nat.le_refl _) w7 Db _ _ hD7 K7.out rfl rfl)⟩
      exact own_mono (ownsRow_putObj (own_cut V7.out (by omega) hk.2) (.deferred none) K7.out rfl) (by omega)
  case stop =>
    rintro D c pre W _ _ h _
    exact h.elim
end Go.Proofs.Ytpihnggegmbgfaa

/- The table and the table the other way round; columns and bytes. -/
namespace Go.Proofs.Ytpihnggegmbgfaa
open Go.RowKit
set_option linter.unusedVariables false
theorem byteAt_cons (n : Nat) (b : UInt8) : byteAt (n * 256 + b.toNat) 0 = b ∧ ∀ i, byteAt (n * 256 + b.toNat) (i + 1) = byteAt n i := by
  have hb := b.toNat_lt
  constructor
  · unfold byteAt
    apply UInt8.toNat_inj.1
    rw [UInt8.toNat_ofNat']
    simp
  · intro i
    unfold byteAt
    rw [Nat.pow_succ, Nat.mul_comm (256 ^ i) 256, ← Nat.div_div_eq_div_mul, show (n * 256 + b.toNat) / 256 = n by omega]
theorem byteAt_little (l : List UInt8) : ∀ i, i < l.length → byteAt (littleN l) i = l.getD i 0 := by
  induction l with
  | nil => intro i hi; simp at hi
  | cons b l ih =>
    intro i hi
    rw [littleN_cons]
    cases i with
    | zero => rw [(byteAt_cons _ b).1]; rfl
    | succ i => rw [(byteAt_cons _ b).2, ih i (by simpa using hi)]; rfl
theorem little_bytes (x : W32) : littleN ((List.range 4).map fun i => byteAt x.toNat i) = x.toNat := by
  have h := littleN_put x.toNat 4
  have := x.isLt
  rw [Nat.mod_eq_of_lt (by omega)] at h
  exact h
theorem subW_byte (T : List UInt8) (x : W32) (i : Nat) (hi : i < 4) : byteAt (subW T x).toNat i = T.getD (byteAt x.toNat i).toNat 0 := by
  have h : (subW T x).toNat = wordN T x 4 := by have := subW_toNat T x; omega
  rw [h, wordN, byteAt_little _ i (by simpa using hi)]
  simp [List.getD, hi]
theorem subW_sub (A B : List UInt8) (h : ∀ b : UInt8, B.getD (A.getD b.toNat 0).toNat 0 = b) (x : W32) : subW B (subW A x) = x := by
  apply BitVec.eq_of_toNat_eq
  have h1 : (subW B (subW A x)).toNat = wordN B (subW A x) 4 := by have := subW_toNat B (subW A x); omega
  rw [h1, ← little_bytes x, wordN]
  congr 1
  apply List.map_congr_left
  intro i hi
  rw [subW_byte A x i (by simpa using hi), h]
set_option maxRecDepth 100000 in
theorem back_sub8 : ∀ x : Fin 256, backL.getD (sboxL.getD x.1 0).toNat 0 = UInt8.ofNat x.1 ∧ sboxL.getD (backL.getD x.1 0).toNat 0 = UInt8.ofNat x.1 := by decide +kernel
theorem of8 (b : UInt8) : UInt8.ofNat b.toNat = b := by apply UInt8.toNat_inj.1; rw [UInt8.toNat_ofNat']; have := b.toNat_lt; omega
theorem sub_back (x : W32) : subW backL (subW sboxL x) = x := subW_sub _ _ (fun b => by have := (back_sub8 ⟨b.toNat, b.toNat_lt⟩).1; rw [of8] at this; exact this) x
theorem back_sub (x : W32) : subW sboxL (subW backL x) = x := subW_sub _ _ (fun b => by have := (back_sub8 ⟨b.toNat, b.toNat_lt⟩).2; rw [of8] at this; exact this) x
theorem map_id' {α : Type} (f : α → α) (h : ∀ x, f x = x) (l : List α) : l.map f = l := by
  induction l with
  | nil => rfl
  | cons a l ih => simp [h, ih]
theorem sub_back_l (s : List W32) : (s.map (subW sboxL)).map (subW backL) = s := by rw [List.map_map]; exact map_id' _ sub_back s
theorem back_sub_l (s : List W32) : (s.map (subW backL)).map (subW sboxL) = s := by rw [List.map_map]; exact map_id' _ back_sub s
/-! columns and bytes -/
theorem list4 {α : Type} {l : List α} (h : l.length = 4) : ∃ a b c d, l = [a, b, c, d] := by
  match l, h with
  | [a, b, c, d], _ => exact ⟨a, b, c, d, rfl⟩
theorem word_put (x : W32) : BitVec.ofNat 32 (bigN (putBig x.toNat 4)) = x := by
  rw [bigN_put, Nat.mod_eq_of_lt (by have := x.isLt; omega)]; simp
theorem cols_out (s : List W32) (h : s.length = 4) : colsL (outL s) = s := by
  obtain ⟨a, b, c, d, rfl⟩ := list4 h
  have e : outL [a, b, c, d] = putBig a.toNat 4 ++ (putBig b.toNat 4 ++ (putBig c.toNat 4 ++ putBig d.toNat 4)) := by simp [outL]
  have w0 : wordAt (outL [a, b, c, d]) 0 = a := by
    unfold wordAt; rw [e, Nat.mul_zero, List.drop_zero, List.take_left' (putBig_len _ _), word_put]
  have w1 : wordAt (outL [a, b, c, d]) 1 = b := by
    unfold wordAt; rw [e, List.drop_left' (by rw [putBig_len]), List.take_left' (putBig_len _ _), word_put]
  have w2 : wordAt (outL [a, b, c, d]) 2 = c := by
    unfold wordAt; rw [e, ← List.append_assoc, List.drop_left' (by simp [putBig_len]), List.take_left' (putBig_len _ _), word_put]
  have w3 : wordAt (outL [a, b, c, d]) 3 = d := by
    unfold wordAt; rw [e, ← List.append_assoc, ← List.append_assoc, List.drop_left' (by simp [putBig_len]), List.take_of_length_le (by rw [putBig_len]; omega), word_put]
  show [wordAt _ 0, wordAt _ 1, wordAt _ 2, wordAt _ 3] = _
  rw [w0, w1, w2, w3]
theorem putBig_big4 (c : List UInt8) (h : c.length = 4) : putBig (bigN c) 4 = c := by
  have h2 := littleN_put (littleN c.reverse) 4
  have hl : littleN c.reverse = bigN c := by unfold littleN; rw [List.reverse_reverse]
  apply List.ext_getElem?
  intro i
  by_cases hi : i < 4
  · have hr : c.reverse.length = 4 := by simpa using h
    have hb := byteAt_little c.reverse (3 - i) (by omega)
    rw [hl] at hb
    have hp : (putBig (bigN c) 4)[i]? = some (byteAt (bigN c) (4 - 1 - i)) := by simp [putBig, hi]
    rw [hp, show 4 - 1 - i = 3 - i by omega, hb, List.getD_eq_getElem?_getD, List.getElem?_reverse (by omega), h, show 4 - 1 - (3 - i) = i by omega, List.getElem?_eq_getElem (by omega)]
    rfl
  · rw [List.getElem?_eq_none (by rw [putBig_len]; omega), List.getElem?_eq_none (by omega)]
theorem put_word (b : List UInt8) (i : Nat) (h : 4 * i + 4 ≤ b.length) : putBig (wordAt b i).toNat 4 = (b.drop (4 * i)).take 4 := by
  have hl : ((b.drop (4 * i)).take 4).length = 4 := by simp; omega
  have hlt := bigN_lt ((b.drop (4 * i)).take 4)
  rw [hl] at hlt
  unfold wordAt
  rw [BitVec.toNat_ofNat, Nat.mod_eq_of_lt (by omega), putBig_big4 _ hl]
theorem out_cols (b : List UInt8) (h : b.length = 16) : outL (colsL b) = b := by
  have e : outL (colsL b) = putBig (wordAt b 0).toNat 4 ++ (putBig (wordAt b 1).toNat 4 ++ (putBig (wordAt b 2).toNat 4 ++ putBig (wordAt b 3).toNat 4)) := by
    show outL [wordAt b 0, wordAt b 1, wordAt b 2, wordAt b 3] = _
    simp [outL]
  rw [e, put_word b 0 (by omega), put_word b 1 (by omega), put_word b 2 (by omega), put_word b 3 (by omega)]
  have e3 : (b.drop (4 * 3)).take 4 = b.drop 12 := List.take_of_length_le (by simp; omega)
  rw [e3, show 4 * 0 = 0 by rfl, show 4 * 1 = 4 by rfl, show 4 * 2 = 8 by rfl, List.drop_zero]
  rw [show b.drop 12 = (b.drop 8).drop 4 by rw [List.drop_drop], List.take_append_drop, show b.drop 8 = (b.drop 4).drop 4 by rw [List.drop_drop], List.take_append_drop, List.take_append_drop]
theorem xor_twice (x k : W32) : x ^^^ k ^^^ k = x := by rw [BitVec.xor_assoc, BitVec.xor_self, BitVec.xor_zero]
theorem add_add (ws : List W32) (r : Nat) (s : List W32) (hs : s.length = 4) (hw : 4 * r + 4 ≤ ws.length) : addW ws r (addW ws r s) = s := by
  have hk : (keyL ws r).length = 4 := by simp [keyL]; omega
  obtain ⟨a, b, c, d, rfl⟩ := list4 hs
  obtain ⟨k0, k1, k2, k3, hk'⟩ := list4 hk
  unfold addW
  rw [hk']
  simp [xor_twice]
end Go.Proofs.Ytpihnggegmbgfaa

/- Rows turned there and back. -/
namespace Go.Proofs.Ytpihnggegmbgfaa
open Go.RowKit
set_option maxRecDepth 100000
set_option linter.unusedVariables false
theorem four_masks (x : W32) : (x &&& 4278190080#32) ||| (x &&& 16711680#32) ||| (x &&& 65280#32) ||| (x &&& 255#32) = x := by
  rw [← BitVec.and_or_distrib_left, ← BitVec.and_or_distrib_left, ← BitVec.and_or_distrib_left]
  show x &&& 4294967295#32 = x
  have : (4294967295#32 : W32) = BitVec.allOnes 32 := by decide
  rw [this, BitVec.and_allOnes]
def rowsOf (a b c d : W32) : W32 := (a &&& 4278190080#32) ||| (b &&& 16711680#32) ||| (c &&& 65280#32) ||| (d &&& 255#32)
theorem sh1 (a b c d : W32) : shiftW 1 [a, b, c, d] = [rowsOf a b c d, rowsOf b c d a, rowsOf c d a b, rowsOf d a b c] := by
  simp [shiftW, shCol, rowsOf, List.range, List.range.loop]
theorem sh3 (a b c d : W32) : shiftW 3 [a, b, c, d] = [rowsOf a d c b, rowsOf b a d c, rowsOf c b a d, rowsOf d c b a] := by
  simp [shiftW, shCol, rowsOf, List.range, List.range.loop]
theorem and_mask (x m k r : W32) (h : m &&& k = r) : (x &&& m) &&& k = x &&& r := by rw [BitVec.and_assoc, h]
theorem row0 (a b c d : W32) : rowsOf a b c d &&& 4278190080#32 = a &&& 4278190080#32 := by
  unfold rowsOf
  rw [BitVec.and_or_distrib_right, BitVec.and_or_distrib_right, BitVec.and_or_distrib_right, and_mask a _ _ 4278190080#32 (by decide), and_mask b _ _ 0 (by decide), and_mask c _ _ 0 (by decide), and_mask d _ _ 0 (by decide)]; simp
theorem row1 (a b c d : W32) : rowsOf a b c d &&& 16711680#32 = b &&& 16711680#32 := by
  unfold rowsOf
  rw [BitVec.and_or_distrib_right, BitVec.and_or_distrib_right, BitVec.and_or_distrib_right, and_mask a _ _ 0 (by decide), and_mask b _ _ 16711680#32 (by decide), and_mask c _ _ 0 (by decide), and_mask d _ _ 0 (by decide)]; simp
theorem row2 (a b c d : W32) : rowsOf a b c d &&& 65280#32 = c &&& 65280#32 := by
  unfold rowsOf
  rw [BitVec.and_or_distrib_right, BitVec.and_or_distrib_right, BitVec.and_or_distrib_right, and_mask a _ _ 0 (by decide), and_mask b _ _ 0 (by decide), and_mask c _ _ 65280#32 (by decide), and_mask d _ _ 0 (by decide)]; simp
theorem row3 (a b c d : W32) : rowsOf a b c d &&& 255#32 = d &&& 255#32 := by
  unfold rowsOf
  rw [BitVec.and_or_distrib_right, BitVec.and_or_distrib_right, BitVec.and_or_distrib_right, and_mask a _ _ 0 (by decide), and_mask b _ _ 0 (by decide), and_mask c _ _ 0 (by decide), and_mask d _ _ 255#32 (by decide)]; simp
theorem rows_same (p q r s x : W32) (h0 : p &&& 4278190080#32 = x &&& 4278190080#32) (h1 : q &&& 16711680#32 = x &&& 16711680#32) (h2 : r &&& 65280#32 = x &&& 65280#32) (h3 : s &&& 255#32 = x &&& 255#32) : rowsOf p q r s = x := by
  unfold rowsOf; rw [h0, h1, h2, h3, four_masks]
theorem list4' {α : Type} {l : List α} (h : l.length = 4) : ∃ a b c d, l = [a, b, c, d] := by
  match l, h with
  | [a, b, c, d], _ => exact ⟨a, b, c, d, rfl⟩
theorem shift_31 (s : List W32) (h : s.length = 4) : shiftW 3 (shiftW 1 s) = s := by
  obtain ⟨a, b, c, d, rfl⟩ := list4' h
  rw [sh1, sh3]
  rw [rows_same _ _ _ _ a (row0 _ _ _ _) (row1 _ _ _ _) (row2 _ _ _ _) (row3 _ _ _ _), rows_same _ _ _ _ b (row0 _ _ _ _) (row1 _ _ _ _) (row2 _ _ _ _) (row3 _ _ _ _), rows_same _ _ _ _ c (row0 _ _ _ _) (row1 _ _ _ _) (row2 _ _ _ _) (row3 _ _ _ _), rows_same _ _ _ _ d (row0 _ _ _ _) (row1 _ _ _ _) (row2 _ _ _ _) (row3 _ _ _ _)]
theorem shift_13 (s : List W32) (h : s.length = 4) : shiftW 1 (shiftW 3 s) = s := by
  obtain ⟨a, b, c, d, rfl⟩ := list4' h
  rw [sh3, sh1]
  rw [rows_same _ _ _ _ a (row0 _ _ _ _) (row1 _ _ _ _) (row2 _ _ _ _) (row3 _ _ _ _), rows_same _ _ _ _ b (row0 _ _ _ _) (row1 _ _ _ _) (row2 _ _ _ _) (row3 _ _ _ _), rows_same _ _ _ _ c (row0 _ _ _ _) (row1 _ _ _ _) (row2 _ _ _ _) (row3 _ _ _ _), rows_same _ _ _ _ d (row0 _ _ _ _) (row1 _ _ _ _) (row2 _ _ _ _) (row3 _ _ _ _)]
end Go.Proofs.Ytpihnggegmbgfaa

/- A column that is mixed four times is what it was. -/
namespace Go.Proofs.Ytpihnggegmbgfaa
open Go.RowKit
set_option maxRecDepth 100000
set_option linter.unusedVariables false
theorem rot_xor (x y : W32) (k : Nat) (hk : k < 32) : (x ^^^ y).rotateLeft k = x.rotateLeft k ^^^ y.rotateLeft k := by
  apply BitVec.eq_of_getLsbD_eq
  intro i hi
  rw [BitVec.getLsbD_xor, rot_get _ _ _ hk hi, rot_get _ _ _ hk hi, rot_get _ _ _ hk hi, BitVec.getLsbD_xor]
theorem rotl_xor (x y : W32) (n : Int) : rotl (x ^^^ y) n = rotl x n ^^^ rotl y n := rot_xor _ _ _ (by omega)
/-- four bits, apart -/
def four (a b c d : Bool) : W32 := (if a then 1#32 else 0#32) ||| (if b then 256#32 else 0#32) ||| (if c then 65536#32 else 0#32) ||| (if d then 16777216#32 else 0#32)
theorem and_one (x : W32) (k : Nat) (hk : k < 32) : x &&& BitVec.twoPow 32 k = if x.getLsbD k then BitVec.twoPow 32 k else 0#32 := by
  rw [BitVec.and_twoPow]
theorem four_of (x : W32) : x &&& 16843009#32 = four (x.getLsbD 0) (x.getLsbD 8) (x.getLsbD 16) (x.getLsbD 24) := by
  have e : (16843009#32 : W32) = BitVec.twoPow 32 0 ||| BitVec.twoPow 32 8 ||| BitVec.twoPow 32 16 ||| BitVec.twoPow 32 24 := by decide
  rw [e, BitVec.and_or_distrib_left, BitVec.and_or_distrib_left, BitVec.and_or_distrib_left, and_one x 0 (by omega), and_one x 8 (by omega), and_one x 16 (by omega), and_one x 24 (by omega)]
  have t0 : BitVec.twoPow 32 0 = 1#32 := by decide
  have t8 : BitVec.twoPow 32 8 = 256#32 := by decide
  have t16 : BitVec.twoPow 32 16 = 65536#32 := by decide
  have t24 : BitVec.twoPow 32 24 = 16777216#32 := by decide
  rw [t0, t8, t16, t24]; rfl
theorem four_mul : ∀ a b c d a' b' c' d' : Bool, four (a ^^ a') (b ^^ b') (c ^^ c') (d ^^ d') * 27#32 = four a b c d * 27#32 ^^^ four a' b' c' d' * 27#32 := by decide +kernel
theorem and_xor_r (x y m : W32) : (x ^^^ y) &&& m = (x &&& m) ^^^ (y &&& m) := by
  apply BitVec.eq_of_getLsbD_eq
  intro i hi
  rw [BitVec.getLsbD_and, BitVec.getLsbD_xor, BitVec.getLsbD_xor, BitVec.getLsbD_and, BitVec.getLsbD_and]
  cases x.getLsbD i <;> cases y.getLsbD i <;> cases m.getLsbD i <;> rfl
theorem dbl_xor (x y : W32) : dblW (x ^^^ y) = dblW x ^^^ dblW y := by
  unfold dblW
  have h1 : (x ^^^ y) >>> 7 = x >>> 7 ^^^ y >>> 7 := by rw [BitVec.ushiftRight_xor_distrib]
  have h2 : ((x ^^^ y) &&& 2139062143#32) <<< 1 = ((x &&& 2139062143#32) <<< 1) ^^^ ((y &&& 2139062143#32) <<< 1) := by
    rw [and_xor_r, BitVec.shiftLeft_xor_distrib]
  rw [h1, h2, four_of, four_of, four_of]
  simp only [BitVec.getLsbD_xor]
  rw [four_mul]
  generalize four _ _ _ _ * 27#32 = p
  generalize four _ _ _ _ * 27#32 = q
  ac_rfl
theorem mix_xor (x y : W32) : mixW (x ^^^ y) = mixW x ^^^ mixW y := by
  unfold mixW
  rw [rotl_xor, rotl_xor, rotl_xor, dbl_xor, dbl_xor]
  ac_rfl
def mix4 (x : W32) : W32 := mixW (mixW (mixW (mixW x)))
theorem mix4_xor (x y : W32) : mix4 (x ^^^ y) = mix4 x ^^^ mix4 y := by
  unfold mix4; rw [mix_xor, mix_xor, mix_xor, mix_xor]
theorem mix4_zero : mix4 0#32 = 0#32 := by decide +kernel
theorem mix4_bit : ∀ k : Fin 32, mix4 (BitVec.twoPow 32 k.1) = BitVec.twoPow 32 k.1 := by decide +kernel
def lowN (x : W32) : Nat → W32
  | 0 => 0#32
  | k + 1 => lowN x k ^^^ (x &&& BitVec.twoPow 32 k)
theorem mix4_low (x : W32) (k : Nat) (hk : k ≤ 32) : mix4 (lowN x k) = lowN x k := by
  induction k with
  | zero => exact mix4_zero
  | succ k ih =>
    rw [lowN, mix4_xor, ih (by omega), and_one x k (by omega)]
    split
    · rw [mix4_bit ⟨k, by omega⟩]
    · rw [mix4_zero]
theorem lowN_get (x : W32) (k i : Nat) (hi : i < 32) : (lowN x k).getLsbD i = (decide (i < k) && x.getLsbD i) := by
  induction k with
  | zero => simp [lowN]
  | succ k ih =>
    rw [lowN, BitVec.getLsbD_xor, ih, BitVec.getLsbD_and, BitVec.getLsbD_twoPow]
    by_cases h1 : i < k
    · simp [h1, show i < k + 1 by omega, show ¬ k = i by omega]
    · by_cases h2 : k = i
      · subst h2; simp [hi]
      · simp [h1, h2, show ¬ i < k + 1 by omega]
theorem lowN_all (x : W32) : lowN x 32 = x := by
  apply BitVec.eq_of_getLsbD_eq
  intro i hi
  rw [lowN_get x 32 i hi]; simp [hi]
theorem mix4_id (x : W32) : mixW (mixW (mixW (mixW x))) = x := by
  have := mix4_low x 32 (Nat.le_refl _)
  rw [lowN_all] at this; exact this
theorem unmix_mix (x : W32) : unmixW (mixW x) = x := mix4_id x
theorem mix_unmix (x : W32) : mixW (unmixW x) = x := mix4_id x
end Go.Proofs.Ytpihnggegmbgfaa
