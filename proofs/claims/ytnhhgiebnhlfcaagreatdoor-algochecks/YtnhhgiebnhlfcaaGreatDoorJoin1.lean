/- Joined: Aes10 Ctr1 Own3 Alg9 Cha1 Cha2 Cha3 Cha4 Cha5 Cha6 LiftC LiftK LawsC1 Aed1 Poly1 Poly2 Poly3 Poly4 Poly5 Sha7b Poly6 Poly7. -/
import Derived.Test.YtnhhgiebnhlfcaaGreatDoorAes9
import Derived.Test.YtnhhgiebnhlfcaaGreatDoorAes4
import Derived.Test.YtnhhgiebnhlfcaaGreatDoorAes6
import Derived.Test.YtnhhgiebnhlfcaaGreatDoorCtrM
import Derived.Test.YtnhhgiebnhlfcaaGreatDoorLaws3
import Derived.Test.YtnhhgiebnhlfcaaGreatDoorApp
import Derived.Test.YtnhhgiebnhlfcaaGreatDoorReg6
import Derived.Test.YtnhhgiebnhlfcaaGreatDoorAlg8
import Derived.Test.YtnhhgiebnhlfcaaGreatDoorSha3
import Derived.Test.YtnhhgiebnhlfcaaGreatDoorReg3
import Derived.StillTailTactics
import Derived.Test.YtnhhgiebnhlfcaaGreatDoorSha4
import Derived.Test.YtnhhgiebnhlfcaaGreatDoorBits3
import Derived.Test.YtnhhgiebnhlfcaaGreatDoorLift
import Derived.Deep.Strs
import Derived.Deep.MidRow
import Derived.Laws.Cover3
import Derived.Laws.Externs
import Derived.Test.YtnhhgiebnhlfcaaGreatDoorRefS1
import Derived.Test.YtnhhgiebnhlfcaaGreatDoorSha7
/- The contract of (*Keys).Encrypt. -/
namespace Go.Proofs.YtnhhgiebnhlfcaaGreatDoor
open Go.RowKit
set_option linter.unusedVariables false
set_option maxRecDepth 100000
set_option linter.unusedSimpArgs false
/-- a block behind i rounds -/
def encN (T : List UInt8) (ws : List W32) (b : List UInt8) : Nat → List W32
  | 0 => addW ws 0 (colsL b)
  | i + 1 => addW ws (i + 1) ((shiftW 1 ((encN T ws b i).map (subW T))).map mixW)
def encT (T : List UInt8) (ws : List W32) (n : Nat) (b : List UInt8) : List UInt8 := outL (addW ws n (shiftW 1 ((encN T ws b (n - 1)).map (subW T))))
def encL (ws : List W32) (n : Nat) (b : List UInt8) : List UInt8 := encT sboxL ws n b
theorem encN_len (T : List UInt8) (ws : List W32) (b : List UInt8) (i : Nat) (hw : ws.length = 60) (hi : i ≤ 14) : (encN T ws b i).length = 4 := by
  cases i with
  | zero => exact addW_len _ _ _ (colsL_len b) (by omega)
  | succ i => exact addW_len _ _ _ (by rw [List.length_map]; exact shiftW_len _ _) (by omega)
def zeros16 : List Value := (List.replicate 16 (0 : UInt8)).map bv
theorem zeros16_len : zeros16.length = 16 := rfl
set_option maxHeartbeats 2000000 in
theorem enc_none (v : Value) (b : List UInt8) (w : World) (hb : b.length = 16) (hr : ∀ W, Below w.heap.size w W → Calls Tryz.prog 162 #[v] W fun e w' => e = .returned (.int .i64 0) ∧ W = w') :
    Calls Tryz.prog 126 #[v, .agg (b.map bv).toArray] w fun e w' => e = .returned (.agg ((List.replicate 16 (0 : UInt8)).map bv).toArray) ∧ Below w.heap.size w w' := by
  have HR := Lib.hid hr
  have hz : ∀ W, (zeroValue 60).run Tryz.prog W = .ok (.agg zeros16.toArray) W := fun W => by kernel_rfl
  have hone : Hid (∀ v ∈ zeros16, v.oneCell' = true) := bv_one _
  clear hr
  go_enter Tryz.func126, Tryz.ntmps126
  go_upto_region 1 with (fail)
  generalize hV : (w.alloc _).alloc _ = W0
  have F1 : Hid (W0.heap[w.heap.size + 1]? = some (.cells zeros16.toArray 60 (0, 0))) := by rw [← hV]; exact (heap2 w _ _).2.1
  have FB : Hid (Below w.heap.size w W0) := by rw [← hV]; exact (heap2 w _ _).2.2
  clear hV
  go_wp2_with fail
  refine (HR.out W0 FB.out).mono ?_
  rintro e w1 ⟨rfl, rfl⟩
  go_wp2_with (first
    | (refine wpList_run (o := ⟨some 13, _, _, _, _, _⟩) rfl (v := .agg zeros16.toArray) (w' := W0) (by kernel_rfl) ?_
       generalize hZ : zeros16 = Z at F1 hone ⊢)
    | (refine wpList_st rfl 60 (.tmp 4) (.tmp 13) rfl (store_arr (cs := Z) (old := Z) (by rw [← hZ]; exact i16B) hone.out F1.out rfl) ?_))
  have hres := setRow_heap W0 (w.heap.size + 1) _ Z.toArray 60 _ F1.out
  refine bodyPost_ret (results_cell_row (P := Tryz.prog) rfl _ _ (w.heap.size + 1) 60 Z.toArray (0, 0) _ rfl hres arr16B rfl (by rw [← hZ]; exact i16B)) rfl ⟨by rw [← hZ]; rfl, FB.out.trans (grown_below (grown_setRow _ _ _) (Nat.le_succ _) FB.out.size)⟩
set_option maxHeartbeats 4000000 in
theorem encIn_any (g n : Nat) (ws : List W32) (b : List UInt8) (w : World) (hb : b.length = 16) (hn : 1 ≤ n) (hn2 : n ≤ 14) (H : KeyIn w g ws n) :
    Calls Tryz.prog 126 #[.pointer (some ⟨g, 0, none⟩), .agg (b.map bv).toArray] w fun e w' => e = .returned (.agg ((encL ws n b).map bv).toArray) ∧ Below w.heap.size w w' := by
  have HBL := Lib.hid hb; have HK := Lib.hid H
  have HKX : Hid (∀ W, Below w.heap.size w W → KeyIn W g ws n) := fun W hW => H.ext hW
  have HW : Hid (ws.length = 60) := H.1
  have hz : ∀ W, (zeroValue 60).run Tryz.prog W = .ok (.agg zeros16.toArray) W := fun W => by kernel_rfl
  have hz2 := zeroTb
  have e0 : ((n : Int) == 0) = false := by simp; omega
  obtain ⟨n1, hn1⟩ : ∃ n1, n1 = n - 1 := ⟨_, rfl⟩
  have u1 : (n : Int) - 1 = (n1 : Int) := by omega
  have HN1 := Lib.hid hn1
  have HF := Lib.hid (fun W => forward_any W)
  have hsl := Lib.hid sboxL_len
  have HI : Hid ((Tryz.prog.info? 165).map (·.size) = some (sboxL.map bv).length) := by show _ = _; rw [subCells]; exact iTb
  have HE : Hid (zeros256.length = (sboxL.map bv).length) := by show _ = _; rw [subCells, zeros256_len]
  unfold encL
  generalize sboxL = T at HF hsl HI HE ⊢
  have hi16 : Hid ((Tryz.prog.info? 60).map (·.size) = some (b.map bv).length) := by show _ = _; rw [List.length_map, hb]; exact i16B
  have hn14 : n1 ≤ 13 := by omega
  clear hb H hn1
  go_enter Tryz.func126, Tryz.ntmps126
  go_upto_region 1 with (fail)
  generalize hV : (w.alloc _).alloc _ = W0
  have F0 : Hid (W0.heap[w.heap.size]? = some (.cells (b.map bv).toArray 60 (0, 0))) := by rw [← hV]; exact (heap2 w _ _).1
  have F1 : Hid (W0.heap[w.heap.size + 1]? = some (.cells zeros16.toArray 60 (0, 0))) := by rw [← hV]; exact (heap2 w _ _).2.1
  have FB : Hid (Below w.heap.size w W0) := by rw [← hV]; exact (heap2 w _ _).2.2
  clear hV
  generalize hg1 : w.heap.size + 1 = g1 at F1 ⊢
  have HG1 : Hid (w.heap.size + 1 = g1) := hg1
  clear hg1
  go_wp2_with fail
  refine (roundsIn_any g ws n W0 (HKX.out _ FB.out)).mono ?_
  rintro e w1 ⟨rfl, rfl⟩
  go_wp2_with fail
  refine (HF.out W0).mono ?_
  rintro e w1 ⟨rfl, hB1⟩
  have P0 := Lib.hid ((hB1.block _ (lt_of_heap F0.out)).trans F0.out)
  have P1 := Lib.hid ((hB1.block _ (lt_of_heap F1.out)).trans F1.out)
  have PB := Lib.hid (FB.out.step hB1)
  have hl0 := Lib.hid (lt_of_heap P0.out)
  have hl1 := Lib.hid (lt_of_heap P1.out)
  clear hB1 F0 F1 FB
  go_upto_region 5 with (first
    | (refine wpList_st rfl 165 (.tmp 6) (.tmp 14) rfl (store_arr (cs := T.map bv) (old := zeros256) HI.out (bv_one _) (heap_alloc_new' w1 _) HE.out) ?_
       generalize hV : World.setRow _ _ _ = W5
       have M6 := Lib.hid (heap_of_setRow hV (heap_alloc_new' w1 _))
       have MB := Lib.hid (((Below.refl w1.heap.size w1).alloc (Nat.le_refl _) _).trans (below_of_setRow hV (Nat.le_refl w1.heap.size) (by simp)))
       clear hV)
    | fail)
  have N0 := Lib.hid ((MB.out.block _ hl0.out).trans P0.out)
  have N1 := Lib.hid ((MB.out.block _ hl1.out).trans P1.out)
  have NB := Lib.hid (PB.out.step MB.out)
  clear P0 P1 PB MB hl0
  generalize hg6 : w1.heap.size = g6 at M6 hl1 ⊢
  clear hg6
  have hS0 : Hid ((encN T ws b 0).length = 4) := encN_len T ws b 0 HW.out (by omega)
  have HE0 : Hid (addW ws 0 (colsL b) = encN T ws b 0) := rfl
  go_wp2_with (first
    | (refine wpList_ld rfl 60 (.tmp 3) rfl (load_arr arr16B rfl hi16.out N0.out) ?_)
    | fail)
  refine (columns_any b W5 HBL.out).mono ?_
  rintro e w2 ⟨rfl, hB2⟩
  have HB2 := Lib.hid hB2
  clear hB2
  go_wp2_with fail
  refine (add_any g ws n 0 (colsL b) w2 (colsL_len b) HW.out (by omega) (HKX.out _ (NB.out.step HB2.out)).2).mono ?_
  rw [HE0.out]
  rintro e w3 ⟨rfl, hB3⟩
  have HB3 := Lib.hid (HB2.out.step hB3)
  have Q1 := Lib.hid ((HB3.out.block _ (lt_of_heap N1.out)).trans N1.out)
  have Q6 := Lib.hid ((HB3.out.block _ (lt_of_heap M6.out)).trans M6.out)
  have QB := Lib.hid (NB.out.step HB3.out)
  have hq1 := Lib.hid (lt_of_heap Q1.out)
  have hq6 := Lib.hid (lt_of_heap Q6.out)
  clear hB3 HB2 HB3 N0 N1 NB M6
  generalize hY0 : encN T ws b 0 = Y0 at hS0 HE0 ⊢
  have HY0 := Lib.hid hY0
  clear hY0
  have hi4 : Hid ((Tryz.prog.info? 179).map (·.size) = some (Y0.map wv).length) := by show _ = _; rw [List.length_map, hS0.out]; exact i4W
  have hle4 : Hid ((List.replicate 4 (Value.int .u32 0)).length = (Y0.map wv).length) := by show _ = _; rw [List.length_map, hS0.out]; rfl
  go_upto_region 6 with (first
    | (refine wpList_st rfl 179 (.tmp 7) (.tmp 18) rfl (store_arr (cs := Y0.map wv) (old := List.replicate 4 (Value.int .u32 0)) hi4.out (wv_one _) (heap_alloc_new' w3 _) hle4.out) ?_
       generalize hV : World.setRow _ _ _ = W7
       have M7 := Lib.hid (heap_of_setRow hV (heap_alloc_new' w3 _))
       have MB := Lib.hid (((Below.refl w3.heap.size w3).alloc (Nat.le_refl _) _).trans (below_of_setRow hV (Nat.le_refl w3.heap.size) (by simp)))
       clear hV)
    | fail)
  have R1 := Lib.hid ((MB.out.block _ hq1.out).trans Q1.out)
  have R6 := Lib.hid ((MB.out.block _ hq6.out).trans Q6.out)
  have RB := Lib.hid (QB.out.step MB.out)
  have hwg : Hid (w.heap.size ≤ w3.heap.size) := QB.out.size
  clear Q1 Q6 QB MB
  generalize hg7 : w3.heap.size = g7 at M7 hq1 hq6 hwg ⊢
  clear hg7
  rw [← HY0.out] at M7
  go_wp2_with fail
  go_loopw [21] (fun vi wr => ∃ (i : Nat), i ≤ n1 ∧ vi = .int .i64 (i : Int) ∧ Hid (Below w.heap.size w wr) ∧ Hid (wr.heap[g1]? = some (.cells zeros16.toArray 60 (0, 0))) ∧ Hid (wr.heap[g6]? = some (.cells (T.map bv).toArray 165 (0, 0))) ∧
     Hid (wr.heap[g7]? = some (.cells ((encN T ws b i).map wv).toArray 179 (0, 0)))) (fun i _ => n1 - (intOf i).toNat)
  case atStart => exact ⟨0, by omega, rfl, RB, R1, R6, M7⟩
  case round =>
    clear RB R1 R6 M7 hi4 hle4 hS0 HY0 HE0
    obtain ⟨i, hi, rfl, HB, H1, H6, H7⟩ := hrel
    have hSl := Lib.hid (encN_len T ws b i HW.out (by omega))
    by_cases hlt : i < n1
    · have q1 : (i : Int) < (n1 : Int) := by omega
      obtain ⟨i1, hi1⟩ : ∃ i1, i1 = i + 1 := ⟨_, rfl⟩
      have u2 : (i : Int) + 1 = (i1 : Int) := by omega
      have HST : Hid (addW ws i1 ((shiftW 1 ((encN T ws b i).map (subW T))).map mixW) = encN T ws b (i + 1)) := by show _ = _; rw [hi1]; rfl
      have hSl1 := Lib.hid (encN_len T ws b (i + 1) HW.out (by omega))
      have HI1 := Lib.hid hi1
      have hi14 : Hid (i1 ≤ 14) := by show _ ≤ _; omega
      clear hi1
      generalize encN T ws b i = Y at HST hSl H7
      obtain ⟨Y1, HY1⟩ : ∃ Y1, Hid (encN T ws b (i + 1) = Y1) := ⟨_, rfl⟩
      rw [HY1.out] at HST hSl1
      have hi4 : Hid ((Tryz.prog.info? 179).map (·.size) = some (Y.map wv).length) := by show _ = _; rw [List.length_map, hSl.out]; exact i4W
      go_wp2_with (first
        | (refine wpList_ld rfl 179 (.tmp 7) rfl (load_arr arr4W rfl hi4.out H7.out) ?_)
        | fail)
      refine (all_any g6 T Y wr hSl.out hsl.out H6.out).mono ?_
      have hl2 : Hid ((Y.map (subW T)).length = 4) := by show _ = _; rw [List.length_map, hSl.out]
      generalize Y.map (subW T) = Y2 at HST hl2 ⊢
      rintro e w2 ⟨rfl, hB2⟩
      have HB2 := Lib.hid hB2
      clear hB2
      go_wp2_with fail
      refine (shifted_any 1 Y2 w2 (by omega) hl2.out).mono ?_
      have hl3 := Lib.hid (shiftW_len 1 Y2)
      generalize shiftW 1 Y2 = Y3 at HST hl3 ⊢
      rintro e w3' ⟨rfl, hB3⟩
      have HB3 := Lib.hid (HB2.out.step hB3)
      clear hB3 HB2
      go_wp2_with fail
      refine (each_mix Y3 w3' hl3.out).mono ?_
      have hl4 : Hid ((Y3.map mixW).length = 4) := by show _ = _; rw [List.length_map, hl3.out]
      generalize Y3.map mixW = Y4 at HST hl4 ⊢
      rintro e w4 ⟨rfl, hB4⟩
      have HB4 := Lib.hid (HB3.out.step hB4)
      clear hB4 HB3
      go_wp2_with fail
      refine (add_any g ws n i1 Y4 w4 hl4.out HW.out hi14.out (HKX.out _ (HB.out.step HB4.out)).2).mono ?_
      rw [HST.out]
      rintro e w5 ⟨rfl, hB5⟩
      have HB5 := Lib.hid (HB4.out.step hB5)
      have K1 := Lib.hid ((HB5.out.block _ (lt_of_heap H1.out)).trans H1.out)
      have K6 := Lib.hid ((HB5.out.block _ (lt_of_heap H6.out)).trans H6.out)
      have K7 := Lib.hid ((HB5.out.block _ (lt_of_heap H7.out)).trans H7.out)
      have KB := Lib.hid (HB.out.step HB5.out)
      have hi4b : Hid ((Tryz.prog.info? 179).map (·.size) = some (Y1.map wv).length) := by show _ = _; rw [List.length_map, hSl1.out]; exact i4W
      have hle : Hid ((Y.map wv).length = (Y1.map wv).length) := by show _ = _; rw [List.length_map, List.length_map, hSl.out, hSl1.out]
      clear hB5 HB4 HB5 H1 H6 H7 HB
      go_wp2_with (first
        | (refine wpList_st rfl 179 (.tmp 7) (.tmp 31) rfl (store_arr (cs := Y1.map wv) hi4b.out (wv_one _) K7.out hle.out) ?_
           generalize hV : World.setRow _ _ _ = W8
           have L7 := Lib.hid (heap_of_setRow hV K7.out)
           have L1 := Lib.hid (heap_of_other hV (Nat.ne_of_lt hq1.out) K1.out)
           have L6 := Lib.hid (heap_of_other hV (Nat.ne_of_lt hq6.out) K6.out)
           have LB := Lib.hid (KB.out.trans (below_of_setRow hV hwg.out KB.out.size))
           clear hV)
        | fail)
      go_roundw
      case rel =>
        refine ⟨i + 1, by omega, by go_num, LB, L1, L6, ?_⟩
        rw [HY1.out]; exact L7
      case measure => simp [intOf]; omega
    · have q1 : ¬ ((i : Int) < (n1 : Int)) := by omega
      have HEN : Hid (outL (addW ws n (shiftW 1 ((encN T ws b i).map (subW T)))) = encT T ws n b) := by show _ = _; unfold encT; rw [← HN1.out, show i = n1 by omega]
      obtain ⟨R, hR⟩ : ∃ R, Hid (encT T ws n b = R) := ⟨_, rfl⟩
      rw [hR.out] at HEN
      generalize encN T ws b i = Y at HEN hSl H7
      have hi4 : Hid ((Tryz.prog.info? 179).map (·.size) = some (Y.map wv).length) := by show _ = _; rw [List.length_map, hSl.out]; exact i4W
      go_wp2_with (first
        | (refine wpList_ld rfl 179 (.tmp 7) rfl (load_arr arr4W rfl hi4.out H7.out) ?_)
        | fail)
      refine (all_any g6 T Y wr hSl.out hsl.out H6.out).mono ?_
      have hl2 : Hid ((Y.map (subW T)).length = 4) := by show _ = _; rw [List.length_map, hSl.out]
      generalize Y.map (subW T) = Y2 at HEN hl2 ⊢
      rintro e w2 ⟨rfl, hB2⟩
      have HB2 := Lib.hid hB2
      clear hB2
      go_wp2_with fail
      refine (shifted_any 1 Y2 w2 (by omega) hl2.out).mono ?_
      have hl3 := Lib.hid (shiftW_len 1 Y2)
      generalize shiftW 1 Y2 = Y3 at HEN hl3 ⊢
      rintro e w3' ⟨rfl, hB3⟩
      have HB3 := Lib.hid (HB2.out.step hB3)
      clear hB3 HB2
      go_wp2_with fail
      refine (add_any g ws n n Y3 w3' hl3.out HW.out hn2 (HKX.out _ (HB.out.step HB3.out)).2).mono ?_
      have hl4 := Lib.hid (addW_len ws n Y3 hl3.out (by rw [HW.out]; omega))
      generalize addW ws n Y3 = Y4 at HEN hl4 ⊢
      rintro e w4 ⟨rfl, hB4⟩
      have HB4 := Lib.hid (HB3.out.step hB4)
      clear hB4 HB3
      go_wp2_with fail
      refine (flat_any Y4 w4 hl4.out).mono ?_
      have hZl : Hid (((outL Y4).map bv).length = 16) := by show _ = _; rw [List.length_map, outL_len, hl4.out]
      rw [HEN.out]
      rw [HEN.out] at hZl
      rintro e w5 ⟨rfl, hB5⟩
      have HB5 := Lib.hid (HB4.out.step hB5)
      have K1 := Lib.hid ((HB5.out.block _ (lt_of_heap H1.out)).trans H1.out)
      have KB := Lib.hid (HB.out.step HB5.out)
      have hi16b : Hid ((Tryz.prog.info? 60).map (·.size) = some (R.map bv).length) := by show _ = _; rw [hZl.out]; exact i16B
      have hle : Hid (zeros16.length = (R.map bv).length) := by show _ = _; rw [hZl.out]; rfl
      clear hB5 HB4 HB5 H1 H6 H7 HB
      go_wp2_with (first
        | (refine wpList_st rfl 60 (.tmp 4) (.tmp 39) rfl (store_arr (cs := R.map bv) (old := zeros16) hi16b.out (bv_one _) K1.out hle.out) ?_)
        | fail)
      have hres := setRow_heap w5 g1 _ (R.map bv).toArray 60 _ K1.out
      exact bodyPost_ret (results_cell_row (P := Tryz.prog) rfl _ _ g1 60 (R.map bv).toArray (0, 0) _ rfl hres arr16B rfl (by rw [List.size_toArray, hZl.out]; exact i16B)) rfl ⟨by rw [hR.out], KB.out.trans (grown_below (grown_setRow _ _ _) (by have := HG1.out; omega) KB.out.size)⟩
theorem enc_any (g n : Nat) (ws : List W32) (b : List UInt8) (w : World) (hb : b.length = 16) (hn : 1 ≤ n) (hn2 : n ≤ 14) (H : KeyAt w g ws n) :
    Calls Tryz.prog 126 #[.pointer (some ⟨g, 0, none⟩), .agg (b.map bv).toArray] w fun e w' => e = .returned (.agg ((encL ws n b).map bv).toArray) ∧ Below w.heap.size w w' := encIn_any g n ws b w hb hn hn2 H.toIn
end Go.Proofs.YtnhhgiebnhlfcaaGreatDoor

/- Package ctr: crypt, Crypt. -/
namespace Go.Proofs.YtnhhgiebnhlfcaaGreatDoor
open Go.RowKit
set_option linter.unusedVariables false
set_option maxRecDepth 100000
set_option linter.unusedSimpArgs false
theorem c_own_below {w w' : World} {base : Nat} {e : TypeId} {s : Nat} {v : Value} {n : Nat} {xs : List Value} (h : w.ownsRow base e s v n xs) (hb : Below w.heap.size w w') : w'.ownsRow base e s v n xs := by
  obtain ⟨h0, h | ⟨g, cap, cur, hv, hg, hh, r⟩⟩ := h
  · exact ⟨h0, .inl h⟩
  · exact ⟨h0, .inr ⟨g, cap, cur, hv, hg, (hb.block _ (lt_of_heap hh)).trans hh, r⟩⟩
theorem c_own_ge {w : World} {base : Nat} {e : TypeId} {s : Nat} {v : Value} {n : Nat} {xs : List Value} (h : w.ownsRow base e s v n xs) {B : Nat} (hB : B ≤ base) : ∀ g, v.ownBlock = some g → B ≤ g := fun g hq => Nat.le_trans hB (h.lt g hq).1
theorem c_own_ne {w : World} {base : Nat} {e : TypeId} {s : Nat} {v : Value} {n : Nat} {xs : List Value} (h : w.ownsRow base e s v n xs) {g : Nat} (hB : g < base) : some g ≠ v.ownBlock := fun hq => by have := (h.lt g hq.symm).1; omega
theorem own_mono {w : World} {base b' : Nat} {e : TypeId} {s : Nat} {v : Value} {n : Nat} {xs : List Value} (h : w.ownsRow base e s v n xs) (hb : b' ≤ base) : w.ownsRow b' e s v n xs := by
  obtain ⟨h0, h | ⟨g, cap, cur, hv, hg, r⟩⟩ := h
  · exact ⟨h0, .inl h⟩
  · exact ⟨h0, .inr ⟨g, cap, cur, hv, Nat.le_trans hb hg, r⟩⟩
theorem c_hid_mp {J J' : Act → World → Prop} (h : Hid (J = J')) {a : Act} {w : World} (hh : J' a w) : J a w := by rw [h.out]; exact hh
/-- a label in a scope, behind code of which none jumps, to which its own code jumps back -/
theorem c_scope_label {P : Program} {a : Act} {w : World} {Q : Exit → Act → World → Prop} {ahead rest : Code} (l : Nat) (J : Act → World → Prop) (μ : Act → World → Nat) (hf : findLabel (ahead.seq ((Code.label l).seq rest)) l = some (Code.skip.seq rest)) (h0 : ahead.wp P (fun e a w => e = .normal ∧ J a w) a w)
    (pass : ∀ a w, J a w → rest.wp P (Exit.jump l (fun a' w' => J a' w' ∧ μ a' w' < μ a w) Q) a w) : (Code.scope (ahead.seq ((Code.label l).seq rest))).wp P Q a w := by
  refine wp_scope_jumps l J μ hf (wp_seq (Code.wp_mono ?_ h0)) (fun a w h => wp_seq (wp_skip (pass a w h)))
  rintro e a w ⟨rfl, hJ⟩
  refine wp_seq (wp_label ?_)
  refine Code.wp_mono ?_ (pass a w hJ)
  intro e a w h
  cases e <;> first | exact h | exact ⟨h.1, h.2.1⟩
theorem make_room {P : Program} {t e : TypeId} {z : Value} {bytes : Nat} (ht : P.underlying t = some (.slice e)) (hi : (P.info? e).map (fun i => (i.zero, i.size, i.bytes)) = some (some z, 1, bytes)) (hz : z.cells = #[z])
    (kl kc : IntKind) (n : Nat) (hb : bytes * n ≤ 281474976710656) (h63 : n ≤ 9223372036854775807) (W : World) :
    (Instr.makeSlice t (.int kl 0) (.int kc (n : Int))).run P W = .ok (.slice (some ⟨W.heap.size, 0, none⟩) 0 n) (W.alloc (.cells (List.replicate n z).toArray e)) := by
  obtain ⟨i, hi, h1, h2, h3⟩ := info_parts hi
  have hr := run_make (P := P) W t e i z ht hi h1 kl kc 0 n (by omega) (by omega) (by rw [h3, ← Int.natCast_mul]; omega) (by omega)
  rw [Int.toNat_natCast, h2, Nat.mul_one, madeCells_one z hz] at hr
  exact hr
theorem own_room {w : World} {g n base : Nat} {z : Value} {e : TypeId} (hb : base ≤ g) (hn : n ≤ maxLen) (h : w.heap[g]? = some (.cells (Array.replicate n z) e (0, 0))) : w.ownsRow base e 1 (.slice (some ⟨g, 0, none⟩) 0 n) 0 [] :=
  ⟨rfl, .inr ⟨g, n, _, rfl, hb, h, Nat.zero_le _, hn, by simp, by simp⟩⟩
/-- a block's cells from r on, as a slice -/
theorem sl_from {W : World} {g r : Nat} {x : List UInt8} {t : TypeId} {fr : Nat × Nat} (hx : x.length = 16) (hr : r < 16) (hk : W.heap[g]? = some (.cells (x.map bv).toArray t fr)) : Sl W (some (cutA ⟨g, 0, none⟩ 16 r)) (16 - r) (x.drop r) := by
  have h := sl_cut (sl_row hx (by omega) hk) (k := r) (by omega)
  have e : cutS (some ⟨g, 0, none⟩) 16 r = some (cutA ⟨g, 0, none⟩ 16 r) := by
    unfold cutS cutA; split <;> rfl
  rw [e] at h
  exact h
theorem i16c (l : List UInt8) (h : l.length = 16) : (Tryz.prog.info? 60).map (·.size) = some (l.map bv).length := by rw [List.length_map, h]; exact i16B
/-- what enciphers, as calls see it -/
def Enc (w : World) (kp : Value) (E : List UInt8 → List UInt8) : Prop :=
  (∀ x, x.length = 16 → (E x).length = 16) ∧ ∀ W, Below w.heap.size w W → ∀ x, x.length = 16 → Calls Tryz.prog 126 #[kp, .agg (x.map bv).toArray] W fun e w' => e = .returned (.agg ((E x).map bv).toArray) ∧ Below W.heap.size W w'
theorem Enc.ext {w w' : World} {kp : Value} {E : List UInt8 → List UInt8} (h : Enc w kp E) (hb : Below w.heap.size w w') : Enc w' kp E := ⟨h.1, fun W hW x hx => h.2 W (hb.step hW) x hx⟩
theorem KeyAt.enc {w : World} {g n : Nat} {ws : List W32} (h : KeyAt w g ws n) (hn : 1 ≤ n) (hn2 : n ≤ 14) : Enc w (.pointer (some ⟨g, 0, none⟩)) (encL ws n) :=
  ⟨fun x hx => by rw [encL, encT, outL_len, addW_len _ _ _ (shiftW_len _ _) (by have := h.1; omega)], fun W hW x hx => enc_any g n ws x W hx hn hn2 (h.ext hW)⟩
theorem enc_nil (w : World) : Enc w (.pointer none) (fun _ => List.replicate 16 0) :=
  ⟨fun _ _ => by simp, fun W _ x hx => enc_none _ x W hx (fun W' _ => rounds_nil W')⟩
/-- the stream of what enciphers, and an iv -/
def strmF (E : List UInt8 → List UInt8) (iv : List UInt8) : Nat → UInt8 := blkF fun i => E (countL iv i)
theorem c_left {n j m t : Nat} (h : m = n - j ∧ j ≤ n) (h2 : t ≤ m) : Hid (m - t = n - (j + t) ∧ j + t ≤ n) := by
  show _ ∧ _; omega
set_option maxHeartbeats 4000000 in
theorem ctrc_any (kp : Value) (E : List UInt8 → List UInt8) (iv : List UInt8) (p : Nat) (A : Option Addr) (n c : Nat) (bs : List UInt8) (w : World) (hiv : iv.length = 16) (hE : Enc w kp E) (hl : bs.length = n) (hn : p + n ≤ 2147483647) (hS : Sl w A c bs) :
    Calls Tryz.prog 116 #[kp, .agg (iv.map bv).toArray, .int .i64 (p : Int), .slice A n c] w fun e w' => ∃ v, e = .returned v ∧ w'.ownsRow w.heap.size 5 1 v n ((ctrL (strmF E iv) p bs).map bv) ∧ Below w.heap.size w w' := by
  have hz : ∀ W, (zeroValue 60).run Tryz.prog W = .ok (.agg zeros16.toArray) W := fun W => by kernel_rfl
  have HZL : Hid (zeros16.length = 16) := rfl
  generalize zeros16 = Z at hz HZL
  have HIV := Lib.hid hiv; have HE := Lib.hid hE; have HL := Lib.hid hl; have HS := Lib.hid hS; have HN := Lib.hid hn
  have STEP : Hid (∀ j m, j ≤ n → m = min (n - j) (16 - (p + j) % 16) → ctrL (strmF E iv) p (bs.take j) ++ xorL (bs.drop j) ((E (countL iv ((p + j) / 16))).drop ((p + j) % 16)) = ctrL (strmF E iv) p (bs.take (j + m))) := fun j m h1 h2 => ctr_step (fun i => E (countL iv i)) p j m bs (hE.1 _ (countL_len _ _)) (by omega) (by omega)
  have ST0 : Hid (ctrL (strmF E iv) p (bs.take 0) = []) := by show _ = _; rw [List.take_zero]; rfl
  have STN : Hid (ctrL (strmF E iv) p (bs.take n) = ctrL (strmF E iv) p bs) := by show _ = _; rw [List.take_of_length_le (by omega)]
  have hmk := make_room (P := Tryz.prog) uT made8 rfl .i64 .i64 n (by omega) (by omega) (w.alloc (.cells (iv.map bv).toArray 60))
  have hn31 : n ≤ 2147483647 := by omega
  have HMX : Hid (n ≤ maxLen) := by show _ ≤ _; simp [maxLen]; omega
  clear hiv hE hl hn hS
  obtain ⟨q, HQ⟩ : ∃ q, Hid (w.heap.size = q) := ⟨_, rfl⟩
  generalize ctrL (strmF E iv) p = CT at STEP ST0 STN ⊢
  go_enter Tryz.func116, Tryz.ntmps116
  go_wp2
  have G := heap2 w (.cells (iv.map bv).toArray 60) (.cells (Array.replicate n (Value.int .u8 0)) 5)
  obtain ⟨J, HJ0⟩ : ∃ J : Act → World → Prop, Hid (J = fun a' w' => ∃ (j s : Nat) (A' : Option Addr) (m c' : Nat) (v9 u4 u6 u7 u8 u10 u11 u12 u13 u14 u15 u16 u17 u18 u19 u20 u21 u22 u23 u24 u25 u26 u27 u28 u29 u30 u31 u32 u33 u34 u35 u36 u37 u38 u39 u40 u41 : Value),
      a' = { tmps := #[kp, .agg (iv.map bv).toArray, .int .i64 (s : Int), .slice A' m c', u4, .pointer (some ⟨q, 0, none⟩), u6, u7, u8, v9, u10, u11, u12, u13, u14, u15, u16, u17, u18, u19, u20, u21, u22, u23, u24, u25, u26, u27, u28, u29, u30, u31, u32, u33, u34, u35, u36, u37, u38, u39, u40, u41], defers := [] } ∧
      Hid (s = p + j) ∧ Hid (m = n - j ∧ j ≤ n) ∧ Hid (Sl w A' c' (bs.drop j)) ∧ Hid (Below w.heap.size w w') ∧ Hid (w'.heap[q]? = some (.cells (iv.map bv).toArray 60 (0, 0))) ∧
      Hid (w'.ownsRow (q + 1) 5 1 v9 j ((CT (bs.take j)).map bv))) := ⟨_, rfl⟩
  rw [HQ.out]
  refine c_scope_label 0 J (fun a' _ => (sliceLen (a'.tmps.getD 3 undef))) rfl ?first ?pass
  case first =>
    go_wp2
    rw [HJ0.out]
    refine ⟨0, p, A, n, c, _, _, _, _, _, _, _, _, _, _, _, _, _, _, _, _, _, _, _, _, _, _, _, _, _, _, _, _, _, _, _, _, _, _, _, _, _, rfl, ?_, ?_, HS, ?_, ?_, ?_⟩
    · exact rfl
    · show _ ∧ _; omega
    · exact G.2.2
    · show _ = _; rw [← HQ.out]; exact G.1
    · show World.ownsRow _ _ _ _ _ _ _; rw [ST0.out]; exact own_room (by have := HQ.out; omega) HMX.out G.2.1
  case pass =>
    clear G hmk
    intro a' w' hJ'
    rw [HJ0.out] at hJ'
    obtain ⟨j, s, A', m, c', v9, u4, u6, u7, u8, u10, u11, u12, u13, u14, u15, u16, u17, u18, u19, u20, u21, u22, u23, u24, u25, u26, u27, u28, u29, u30, u31, u32, u33, u34, u35, u36, u37, u38, u39, u40, u41, rfl, HSJ, HJ, HA, HB, H0, HO⟩ := hJ'
    have hdl : (bs.drop j).length = m := by have h1 := HL.out; have h2 := HJ.out; rw [List.length_drop]; omega
    by_cases hm : 0 < m
    · have e1 : (0 : Int) < (m : Int) := by omega
      obtain ⟨k, hk⟩ : ∃ k, k = s / 16 := ⟨_, rfl⟩
      obtain ⟨r, hr⟩ : ∃ r, r = s % 16 := ⟨_, rfl⟩
      obtain ⟨t, ht⟩ : ∃ t, t = min m (16 - r) := ⟨_, rfl⟩
      have u1 : (s : Int) / 16 = (k : Int) := by omega
      have u2 : (s : Int) % 16 = (r : Int) := by omega
      have hks : k < 18446744073709551616 := by have h1 := HSJ.out; have h2 := HJ.out; have h3 := HN.out; omega
      have hs31 : s ≤ 2147483647 := by have h1 := HSJ.out; have h2 := HJ.out; have h3 := HN.out; omega
      have hm31 : m ≤ 2147483647 := by have h2 := HJ.out; omega
      have hk31 : k ≤ 2147483647 := by omega
      have hr16 : r < 16 := by omega
      have hjt : Hid (j + t ≤ 2147483647) := by have h1 := HSJ.out; have h2 := HJ.out; have h3 := HN.out; show _ ≤ _; omega
      have HST := Lib.hid (STEP.out j t HJ.out.2 (by have h1 := HSJ.out; have h2 := HJ.out; rw [← h1, ← hr]; omega))
      rw [← HSJ.out, ← hk, ← hr] at HST
      have HT := Lib.hid ht
      have ht16 : Hid (t ≤ m ∧ t ≤ 16 ∧ 0 < t ∧ 0 < m) := by show _ ∧ _ ∧ _ ∧ _; omega
      have hcut := cut_from uT s8 A' m c' .i64 (t : Int) (by omega) (by omega)
      rw [Int.toNat_natCast] at hcut
      obtain ⟨X, hX⟩ : ∃ X, X = bs.drop j := ⟨_, rfl⟩
      rw [← hX] at HST
      have HXL : Hid (X.length = m) := by show _ = _; rw [hX]; exact hdl
      have HXS : Hid (Sl w A' c' X) := by show Sl _ _ _ _; rw [hX]; exact HA.out
      have HCL := Lib.hid (countL_len iv k)
      have HC := Lib.hid (fun W => count_any iv k W HIV.out hks)
      generalize countL iv k = CB at HST HCL HC
      have HEL := Lib.hid (HE.out.1 CB HCL.out)
      have HEC := Lib.hid (fun W hW => HE.out.2 W hW CB HCL.out)
      generalize E CB = EB at HST HEL HEC
      clear hX hdl ht hk hr
      go_wp2_with (first
        | (refine wpList_ld rfl 60 (.tmp 5) rfl (load_arr arr16B rfl (i16c iv HIV.out) H0.out) ?_)
        | fail)
      refine (HC.out w').mono ?_
      rintro e w1 ⟨rfl, hb1⟩
      have B1 := Lib.hid (HB.out.step hb1)
      have O1 := Lib.hid (c_own_below HO.out hb1)
      have I1 := Lib.hid ((hb1.block _ (lt_of_heap H0.out)).trans H0.out)
      clear hb1 HC
      go_wp2_with fail
      refine (HEC.out w1 B1.out).mono ?_
      rintro e w2 ⟨rfl, hb2⟩
      have B2 := Lib.hid (B1.out.step hb2)
      have O2 := Lib.hid (c_own_below O1.out hb2)
      have I2 := Lib.hid ((hb2.block _ (lt_of_heap I1.out)).trans I1.out)
      clear hb2 B1 O1 I1 HEC
      have sl := arr_from arr16B s8 ⟨w2.heap.size, 0, none⟩ .i64 (r : Int) (by omega) (by omega)
      rw [Int.toNat_natCast] at sl
      go_wp2_with (first
        | (refine wpList_st rfl 60 (.tmp 10) (.tmp 24) rfl (store_arr (cs := EB.map bv) (old := Z) (i16c EB HEL.out) (bv_one _) (heap_alloc_new' w2 _) (by rw [List.length_map, HEL.out, HZL.out])) ?_
           generalize hV : World.setRow _ _ _ = W3
           have M3 := Lib.hid (heap_of_setRow hV (heap_alloc_new' w2 _))
           have MB := Lib.hid (((Below.refl w2.heap.size w2).alloc (Nat.le_refl _) _).trans (below_of_setRow hV (Nat.le_refl w2.heap.size) (by simp)))
           clear hV)
        | fail)
      have B3 := Lib.hid (B2.out.step MB.out)
      have O3 := Lib.hid (c_own_below O2.out MB.out)
      have I3 := Lib.hid ((MB.out.block _ (lt_of_heap I2.out)).trans I2.out)
      clear MB B2 O2 I2
      generalize w2.heap.size = g10 at M3 ⊢
      refine (xor_n A' (some (cutA ⟨g10, 0, none⟩ 16 r)) m (16 - r) t c' (16 - r) X (EB.drop r) W3 HXL.out (by rw [List.length_drop, HEL.out]) HT.out.symm (HXS.out.below B3.out) (sl_from HEL.out hr16 M3.out) hm31 (by omega)).mono ?_
      rintro e w4 ⟨g3, hg3, rfl, hk3, hb4⟩
      have B4 := Lib.hid (B3.out.step hb4)
      have O4 := Lib.hid (c_own_below O3.out hb4)
      have I4 := Lib.hid ((hb4.block _ (lt_of_heap I3.out)).trans I3.out)
      have R4 := Lib.hid (row_of_heap hk3 (Nat.lt_succ_self g3))
      have XL : Hid ((xorL X (EB.drop r)).length = t) := by show _ = _; rw [xorL_len, List.length_drop, HEL.out, HXL.out, HT.out]
      generalize xorL X (EB.drop r) = XR at HST R4 XL
      clear hb4 hk3 hg3 B3 O3 I3
      have hq4 : Hid (q + 1 ≤ w4.heap.size) := lt_of_heap I4.out
      go_wp2_with (
        at_builtin
        refine wpList_app8 rfl (.tmp 30) (.tmp 31) rfl (q + 1) v9 j (CT (bs.take j)) rfl O4.out (some ⟨g3, 0, none⟩) t t (g3 + 1) XR rfl R4.out XL.out hjt.out hq4.out ?_
        rintro v5 w5 hown hgr
        rw [HST.out] at hown
        have O5 := Lib.hid hown
        have B5 := Lib.hid (B4.out.grown hgr (by have := hq4.out; have := HQ.out; omega) (c_own_ge O4.out (by have := HQ.out; omega)))
        have I5 := Lib.hid ((hgr.block _ (lt_of_heap I4.out) (c_own_ne O4.out (Nat.lt_succ_self q))).trans I4.out)
        clear hown hgr)
      go_step3
      have hA := sl_cut HA.out (k := t) (by have h1 := HL.out; have h2 := HJ.out; have h3 := ht16.out; rw [List.length_drop]; omega)
      rw [List.drop_drop] at hA
      have hwr : wrap64 ((s : Int) + (t : Int)) = ((s + t : Nat) : Int) := by have h1 := HSJ.out; have h2 := HJ.out; have h3 := HN.out; have h4 := ht16.out; rw [wrap64]; omega
      refine ⟨rfl, c_hid_mp HJ0 ⟨j + t, s + t, cutS A' c' t, m - t, c' - t, v5, _, _, _, _, _, _, _, _, _, _, _, _, _, _, _, _, _, _, _, _, _, _, _, _, _, _, _, _, _, _, _, _, _, _, _, _, by rw [hwr], ?_, ?_, ?_, B5, I5, O5⟩, ?_⟩
      · have h1 := HSJ.out; show _ = _; omega
      · exact c_left HJ.out ht16.out.1
      · exact hA
      · exact Nat.sub_lt ht16.out.2.2.2 ht16.out.2.2.1
    · have hj : j = n := by have h2 := HJ.out; omega
      have e1 : ¬ ((0 : Int) < (m : Int)) := by omega
      rw [hj, STN.out] at HO
      clear hdl
      go_wp2_with fail
      simp only [Exit.jump]
      go_ret
      exact ⟨_, rfl, own_mono HO.out (by have := HQ.out; omega), HB.out⟩
set_option maxHeartbeats 1000000 in
theorem Crypt_any (kp : Value) (E : List UInt8 → List UInt8) (iv : List UInt8) (A : Option Addr) (n c : Nat) (bs : List UInt8) (w : World) (hiv : iv.length = 16) (hE : Enc w kp E) (hl : bs.length = n) (hn : n ≤ 2147483647) (hS : Sl w A c bs) :
    Calls Tryz.prog 87 #[kp, .agg (iv.map bv).toArray, .slice A n c] w fun e w' => ∃ v, e = .returned v ∧ w'.ownsRow w.heap.size 5 1 v n ((ctrL (strmF E iv) 0 bs).map bv) ∧ Below w.heap.size w w' := by
  have HIV := Lib.hid hiv
  have hB0 : Below w.heap.size w (w.alloc (.cells (iv.map bv).toArray 60)) := (Below.refl _ _).alloc (Nat.le_refl _) _
  have HC := Lib.hid (ctrc_any kp E iv 0 A n c bs (w.alloc (.cells (iv.map bv).toArray 60)) hiv (hE.ext hB0) hl (by omega) (hS.below hB0))
  have HB0 := Lib.hid hB0
  clear hiv hE hl hS hB0
  generalize ctrL (strmF E iv) 0 bs = R at HC ⊢
  go_enter Tryz.func87, Tryz.ntmps87
  go_wp2_with (first
    | (refine wpList_ld rfl 60 (.tmp 4) rfl (load_arr arr16B rfl (i16c iv HIV.out) (heap_alloc_new' w _)) ?_)
    | fail)
  refine HC.out.mono ?_
  rintro e w1 ⟨v, rfl, hO, hB⟩
  have HO := Lib.hid hO; have HB1 := Lib.hid (HB0.out.step hB)
  clear hO hB
  go_wp2_with fail
  go_ret
  exact ⟨_, rfl, own_mono HO.out (by simp), HB1.out⟩
end Go.Proofs.YtnhhgiebnhlfcaaGreatDoor

/- Several own rows of bytes, side by side, made and appended to in whatever order. -/
namespace Go.Proofs.YtnhhgiebnhlfcaaGreatDoor
open Go.RowKit
set_option linter.unusedVariables false
set_option linter.unusedSimpArgs false
set_option maxRecDepth 100000
/-- N rows: row i is made by operation b + s i, what it gets is appended by operation c + s i -/
structure Rows3 (B N b c s : Nat) (n : Nat → Nat) (bs : Nat → List UInt8) (L : Nat → Bool) (vs : Nat → Value) (W : World) : Prop where
  sz : B ≤ W.heap.size
  o : ∀ i, i < N → L (b + s * i) = true → L (c + s * i) = false → W.ownsRow B 5 1 (vs (b + s * i)) 0 (([] : List UInt8).map bv)
  p : ∀ i, i < N → L (c + s * i) = true → W.ownsRow B 5 1 (vs (c + s * i)) (n i) ((bs i).map bv)
  dn : ∀ i, i < N → L (c + s * i) = true → L (b + s * i) = true
  tw : ∀ i j, i < N → j < N → i ≠ j → L (b + s * i) = true → L (b + s * j) = true → Two (if L (c + s * i) = true then vs (c + s * i) else vs (b + s * i)) (if L (c + s * j) = true then vs (c + s * j) else vs (b + s * j))
theorem Rows3.cur {B N b c s : Nat} {n : Nat → Nat} {bs : Nat → List UInt8} {L : Nat → Bool} {vs : Nat → Value} {W : World} (H : Rows3 B N b c s n bs L vs W) {j : Nat} (hj : j < N) (hL : L (b + s * j) = true) :
    ∃ m l, W.ownsRow B 5 1 (if L (c + s * j) = true then vs (c + s * j) else vs (b + s * j)) m l := by
  by_cases h : L (c + s * j) = true
  · rw [if_pos h]; exact ⟨_, _, H.p j hj h⟩
  · rw [if_neg h]; exact ⟨_, _, H.o j hj hL (by simpa using h)⟩
/-- whatever else comes up -/
theorem Rows3.ext {B N b c s : Nat} {n : Nat → Nat} {bs : Nat → List UInt8} {L : Nat → Bool} {vs : Nat → Value} {W W' : World} (H : Rows3 B N b c s n bs L vs W) (k : Nat) (hkb : ∀ i, i < N → b + s * i ≠ k) (hkc : ∀ i, i < N → c + s * i ≠ k) (x : Value) (hb : Below W.heap.size W W') :
    Rows3 B N b c s n bs (fun j => if j = k then true else L j) (updv vs k x) W' := by
  have e1 : ∀ i, i < N → (if b + s * i = k then true else L (b + s * i)) = L (b + s * i) := fun i hi => if_neg (hkb i hi)
  have e2 : ∀ i, i < N → (if c + s * i = k then true else L (c + s * i)) = L (c + s * i) := fun i hi => if_neg (hkc i hi)
  have v1 : ∀ i, i < N → updv vs k x (b + s * i) = vs (b + s * i) := fun i hi => if_neg (hkb i hi)
  have v2 : ∀ i, i < N → updv vs k x (c + s * i) = vs (c + s * i) := fun i hi => if_neg (hkc i hi)
  refine ⟨Nat.le_trans H.sz hb.size, fun i hi h1 h2 => ?_, fun i hi h => ?_, fun i hi h => ?_, fun i j hi hj hij h1 h2 => ?_⟩
  · simp only [e1 i hi, e2 i hi] at h1 h2
    rw [v1 i hi]; exact c_own_below (H.o i hi h1 h2) hb
  · simp only [e2 i hi] at h
    rw [v2 i hi]; exact c_own_below (H.p i hi h) hb
  · simp only [e2 i hi] at h
    simp only [e1 i hi]; exact H.dn i hi h
  · simp only [e1 i hi, e1 j hj] at h1 h2
    simp only [e2 i hi, e2 j hj, v1 i hi, v1 j hj, v2 i hi, v2 j hj]
    exact H.tw i j hi hj hij h1 h2
/-- a row is made -/
theorem Rows3.mk1 {B N b c s : Nat} {n : Nat → Nat} {bs : Nat → List UInt8} {L : Nat → Bool} {vs : Nat → Value} {W : World} (H : Rows3 B N b c s n bs L vs W) (i : Nat) (hi : i < N) (hs : 0 < s) (hbc : ∀ j k, j < N → k < N → b + s * j ≠ c + s * k) (hL : L (b + s * i) = false) :
    Rows3 B N b c s n bs (fun j => if j = b + s * i then true else L j) (updv vs (b + s * i) (.slice (some ⟨W.heap.size, 0, none⟩) 0 0)) (W.alloc (.cells #[] 5)) := by
  have hb : Below W.heap.size W (W.alloc (.cells #[] 5)) := (Below.refl _ _).alloc (Nat.le_refl _) _
  have hLc : L (c + s * i) = false := by
    cases h : L (c + s * i) with
    | false => rfl
    | true => rw [H.dn i hi h] at hL; cases hL
  have hinj : ∀ j, j < N → j ≠ i → b + s * j ≠ b + s * i := fun j _ hji e => hji (Nat.eq_of_mul_eq_mul_left hs (by omega))
  have e2 : ∀ j, j < N → (if c + s * j = b + s * i then true else L (c + s * j)) = L (c + s * j) := fun j hj => if_neg (fun e => hbc i j hi hj e.symm)
  have v2 : ∀ j, j < N → updv vs (b + s * i) (.slice (some ⟨W.heap.size, 0, none⟩) 0 0) (c + s * j) = vs (c + s * j) := fun j hj => if_neg (fun e => hbc i j hi hj e.symm)
  have hnew : (W.alloc (.cells #[] 5)).ownsRow B 5 1 (.slice (some ⟨W.heap.size, 0, none⟩) 0 0) 0 (([] : List UInt8).map bv) :=
    ⟨rfl, .inr ⟨W.heap.size, 0, #[], rfl, H.sz, heap_alloc_new' W _, Nat.le_refl _, by simp [maxLen], rfl, rfl⟩⟩
  have htn : ∀ j, j < N → j ≠ i → L (b + s * j) = true → Two (.slice (some ⟨W.heap.size, 0, none⟩) 0 0) (if L (c + s * j) = true then vs (c + s * j) else vs (b + s * j)) := fun j hj hji h => by
    obtain ⟨m, l, hc⟩ := H.cur hj h
    intro x hx hy
    have := own_blk_lt hc hy
    have hx' : W.heap.size = x := by simpa [Value.ownBlock] using hx
    omega
  refine ⟨Nat.le_trans H.sz hb.size, fun j hj h1 h2 => ?_, fun j hj h => ?_, fun j hj h => ?_, fun j k hj hk hjk h1 h2 => ?_⟩
  · by_cases hji : j = i
    · subst hji
      simp only [updv, if_pos rfl]; exact hnew
    · have v1 : updv vs (b + s * i) (.slice (some ⟨W.heap.size, 0, none⟩) 0 0) (b + s * j) = vs (b + s * j) := if_neg (hinj j hj hji)
      have e1 : (if b + s * j = b + s * i then true else L (b + s * j)) = L (b + s * j) := if_neg (hinj j hj hji)
      simp only [e1, e2 j hj] at h1 h2
      rw [v1]; exact c_own_below (H.o j hj h1 h2) hb
  · simp only [e2 j hj] at h
    rw [v2 j hj]; exact c_own_below (H.p j hj h) hb
  · simp only [e2 j hj] at h
    have := H.dn j hj h
    simp [this]
  · simp only [e2 j hj, e2 k hk, v2 j hj, v2 k hk]
    by_cases hji : j = i
    · subst hji
      have hki : k ≠ j := fun e => hjk e.symm
      have e1 : (if b + s * k = b + s * j then true else L (b + s * k)) = L (b + s * k) := if_neg (hinj k hk hki)
      have v1 : updv vs (b + s * j) (.slice (some ⟨W.heap.size, 0, none⟩) 0 0) (b + s * k) = vs (b + s * k) := if_neg (hinj k hk hki)
      simp only [e1] at h2
      rw [if_neg (by rw [hLc]; decide), v1]
      simp only [updv, if_pos rfl]
      exact htn k hk hki h2
    · have e1 : (if b + s * j = b + s * i then true else L (b + s * j)) = L (b + s * j) := if_neg (hinj j hj hji)
      have v1 : updv vs (b + s * i) (.slice (some ⟨W.heap.size, 0, none⟩) 0 0) (b + s * j) = vs (b + s * j) := if_neg (hinj j hj hji)
      simp only [e1] at h1
      rw [v1]
      by_cases hki : k = i
      · subst hki
        rw [if_neg (show ¬ L (c + s * k) = true by rw [hLc]; decide)]
        simp only [updv, if_pos rfl]
        exact (htn j hj hji h1).symm
      · have e1' : (if b + s * k = b + s * i then true else L (b + s * k)) = L (b + s * k) := if_neg (hinj k hk hki)
        have v1' : updv vs (b + s * i) (.slice (some ⟨W.heap.size, 0, none⟩) 0 0) (b + s * k) = vs (b + s * k) := if_neg (hinj k hk hki)
        simp only [e1'] at h2
        rw [v1']
        exact H.tw j k hj hk hjk h1 h2
/-- a row gets its bytes -/
theorem Rows3.app {B N b c s : Nat} {n : Nat → Nat} {bs : Nat → List UInt8} {L : Nat → Bool} {vs : Nat → Value} {W W' : World} (H : Rows3 B N b c s n bs L vs W) (i : Nat) (hi : i < N) (hs : 0 < s) (hbc : ∀ j k, j < N → k < N → b + s * j ≠ c + s * k) (hL : L (c + s * i) = false) (hLb : L (b + s * i) = true)
    (v' : Value) (hown : W'.ownsRow B 5 1 v' (n i) ((bs i).map bv)) (hgr : W.grownBy W' (vs (b + s * i)).ownBlock) (hat : v'.ownBlock = (vs (b + s * i)).ownBlock ∨ v'.ownBlock = some W.heap.size) :
    Rows3 B N b c s n bs (fun j => if j = c + s * i then true else L j) (updv vs (c + s * i) v') W' := by
  have hinj : ∀ j, j < N → j ≠ i → c + s * j ≠ c + s * i := fun j _ hji e => hji (Nat.eq_of_mul_eq_mul_left hs (by omega))
  have e1 : ∀ j, j < N → (if b + s * j = c + s * i then true else L (b + s * j)) = L (b + s * j) := fun j hj => if_neg (hbc j i hj hi)
  have v1 : ∀ j, j < N → updv vs (c + s * i) v' (b + s * j) = vs (b + s * j) := fun j hj => if_neg (hbc j i hj hi)
  have htw : ∀ j, j < N → j ≠ i → L (b + s * j) = true → Two (vs (b + s * i)) (if L (c + s * j) = true then vs (c + s * j) else vs (b + s * j)) := fun j hj hji h => by
    have := H.tw i j hi hj (Ne.symm hji) hLb h
    rwa [if_neg (show ¬ L (c + s * i) = true by rw [hL]; decide)] at this
  have hown' : ∀ j, j < N → j ≠ i → ∀ h : L (b + s * j) = true, ∀ m l, W.ownsRow B 5 1 (if L (c + s * j) = true then vs (c + s * j) else vs (b + s * j)) m l → W'.ownsRow B 5 1 (if L (c + s * j) = true then vs (c + s * j) else vs (b + s * j)) m l :=
    fun j hj hji h m l ho => two_own ho hgr (htw j hj hji h)
  have htn : ∀ j, j < N → j ≠ i → L (b + s * j) = true → Two v' (if L (c + s * j) = true then vs (c + s * j) else vs (b + s * j)) := fun j hj hji h => by
    obtain ⟨m, l, ho⟩ := H.cur hj h
    exact two_step ho (htw j hj hji h) hat
  refine ⟨Nat.le_trans H.sz hgr.size, fun j hj h1 h2 => ?_, fun j hj h => ?_, fun j hj h => ?_, fun j k hj hk hjk h1 h2 => ?_⟩
  · simp only [e1 j hj] at h1
    by_cases hji : j = i
    · subst hji
      simp only [if_pos rfl] at h2
      cases h2
    · have e2 : (if c + s * j = c + s * i then true else L (c + s * j)) = L (c + s * j) := if_neg (hinj j hj hji)
      simp only [e2] at h2
      rw [v1 j hj]
      have := hown' j hj hji h1 0 _ (by rw [if_neg (by rw [h2]; decide)]; exact H.o j hj h1 h2)
      rwa [if_neg (by rw [h2]; decide)] at this
  · by_cases hji : j = i
    · subst hji
      simp only [updv, if_pos rfl]; exact hown
    · have e2 : (if c + s * j = c + s * i then true else L (c + s * j)) = L (c + s * j) := if_neg (hinj j hj hji)
      have v2 : updv vs (c + s * i) v' (c + s * j) = vs (c + s * j) := if_neg (hinj j hj hji)
      simp only [e2] at h
      rw [v2]
      have := hown' j hj hji (H.dn j hj h) _ _ (by rw [if_pos h]; exact H.p j hj h)
      rwa [if_pos h] at this
  · simp only [e1 j hj]
    by_cases hji : j = i
    · subst hji; exact hLb
    · have e2 : (if c + s * j = c + s * i then true else L (c + s * j)) = L (c + s * j) := if_neg (hinj j hj hji)
      simp only [e2] at h
      exact H.dn j hj h
  · simp only [e1 j hj, e1 k hk] at h1 h2
    simp only [v1 j hj, v1 k hk]
    by_cases hji : j = i
    · subst hji
      have hki : k ≠ j := fun e => hjk e.symm
      have e2 : (if c + s * k = c + s * j then true else L (c + s * k)) = L (c + s * k) := if_neg (hinj k hk hki)
      have v2 : updv vs (c + s * j) v' (c + s * k) = vs (c + s * k) := if_neg (hinj k hk hki)
      rw [if_pos (if_pos rfl), e2, v2]
      simp only [updv, if_pos rfl]
      exact htn k hk hki h2
    · have e2 : (if c + s * j = c + s * i then true else L (c + s * j)) = L (c + s * j) := if_neg (hinj j hj hji)
      have v2 : updv vs (c + s * i) v' (c + s * j) = vs (c + s * j) := if_neg (hinj j hj hji)
      rw [e2, v2]
      by_cases hki : k = i
      · subst hki
        rw [if_pos (if_pos rfl)]
        simp only [updv, if_pos rfl]
        exact (htn j hj hji h1).symm
      · have e2' : (if c + s * k = c + s * i then true else L (c + s * k)) = L (c + s * k) := if_neg (hinj k hk hki)
        have v2' : updv vs (c + s * i) v' (c + s * k) = vs (c + s * k) := if_neg (hinj k hk hki)
        rw [e2', v2']
        exact H.tw j k hj hk hjk h1 h2
end Go.Proofs.YtnhhgiebnhlfcaaGreatDoor

/- The laws' own functions of layer 12: of (params, copied). -/
namespace Go.Proofs.YtnhhgiebnhlfcaaGreatDoor
open Go.RowKit Go.Shelf
set_option linter.unusedVariables false
set_option linter.unusedSimpArgs false
set_option maxRecDepth 100000
theorem step_appAt {w : World} {ops : Array Oper} {o : Oper} {a : Act} {K : Act → World → Prop} {Q : Exit → Act → World → Prop} {E : Prop} (hg : o.guard = none) (s x : Operand)
    (ho : o.op = .call { callee := .builtin .append, args := #[s, x], argTypes := #[22, 22] }) (base : Nat) (v : Value) (n : Nat) (bs : List UInt8) (hs : a.eval s = v) (hown : w.ownsRow base 5 1 v n (bs.map bv))
    (A : Option Addr) (m c B : Nat) (news : List UInt8) (hx : a.eval x = .slice A m c) (hr : RowAt w B A (news.map bv)) (hm : news.length = m) (hk : n + m ≤ 2147483647) (hbase : base ≤ w.heap.size)
    (h : ∀ v' w', w'.ownsRow base 5 1 v' (n + m) ((bs ++ news).map bv) → w.grownBy w' v.ownBlock → (v'.ownBlock = v.ownBlock ∨ v'.ownBlock = some w.heap.size) → K (a.put o.dst v') w') :
    if Region.wanted o (yielded ops a.tmps) = true then Oper.wp Tryz.prog o a w K Q else E := by
  obtain ⟨v', w', hrun, h2, h3, h4⟩ := append_row_at (P := Tryz.prog) w base o.type uT made8 rfl v n _ hown B A m c _ hr (by simpa using hm) (bv_one news) (by omega) (by simp [maxLen]; omega) hbase
  exact step_app hg s x _ _ ho (by rw [hs, hx]; exact hrun) (h v' w' (by rw [List.map_append]; exact h2) h3 h4)
def ofPv (gP : Nat) (x : Int) (o : Bool) (Ak : Option Addr) (kn kc : Nat) (Ai : Option Addr) (vn ic : Nat) (Aa : Option Addr) (an ac : Nat) : Nat → Value → Prop
  | 0, v => v = .pointer (some ⟨gP, 0, none⟩)
  | 1, v => v = .int .i64 x
  | 2, v => v = .pointer (some ⟨gP, 1, none⟩)
  | 3, v => v = .bool o
  | 5, v => v = .pointer (some ⟨gP, 2, none⟩)
  | 6, v => v = .slice Ak kn kc
  | 9, v => v = .pointer (some ⟨gP, 3, none⟩)
  | 10, v => v = .slice Ai vn ic
  | 13, v => v = .pointer (some ⟨gP, 4, none⟩)
  | 14, v => v = .slice Aa an ac
  | _, _ => True
def of3 (a b c : Nat) : Nat → Nat
  | 0 => a | 1 => b | _ => c
def ofL3 (a b c : List UInt8) : Nat → List UInt8
  | 0 => a | 1 => b | _ => c
structure OfJ (pv : Nat → Value → Prop) (gP gR : Nat) (W1 : World) (ZP : List Value) (n : Nat → Nat) (bs : Nat → List UInt8) (L : Nat → Bool) (vs : Nat → Value) (W : World) : Prop where
  f : ∀ i, L i = true → pv i (vs i)
  b : Below (gP + 1) W1 W
  z : W.heap[gR]? = some (.cells ZP.toArray 29 (0, 0))
  r : Rows3 (gR + 1) 3 4 7 4 n bs L vs W
  d : L 16 = true → L 1 = true ∧ L 3 = true ∧ L 7 = true ∧ L 11 = true ∧ L 15 = true
  e : L 16 = true → vs 16 = .agg #[vs 1, vs 3, vs 7, vs 11, vs 15]
theorem OfJ.step {pv : Nat → Value → Prop} {gP gR : Nat} {W1 : World} {ZP : List Value} {n : Nat → Nat} {bs : Nat → List UInt8} {L : Nat → Bool} {vs : Nat → Value} {W : World} (H : OfJ pv gP gR W1 ZP n bs L vs W)
    (k : Nat) (hk : k < 16 ∧ (∀ i, i < 3 → 4 + 4 * i ≠ k) ∧ (∀ i, i < 3 → 7 + 4 * i ≠ k)) (hL : L k = false) (x : Value) (hx : pv k x) : OfJ pv gP gR W1 ZP n bs (fun j => if j = k then true else L j) (updv vs k x) W := by
  refine ⟨fun i hi => ?_, H.b, H.z, H.r.ext k hk.2.1 hk.2.2 x (Below.refl _ _), fun h => ?_, fun h => ?_⟩
  · unfold updv
    by_cases e : i = k
    · subst e; rw [if_pos rfl]; exact hx
    · rw [if_neg e]; rw [if_neg e] at hi; exact H.f i hi
  · have h16 : (16 : Nat) ≠ k := by omega
    rw [if_neg h16] at h
    obtain ⟨h1, h3, h7, h11, h15⟩ := H.d h
    simp [h1, h3, h7, h11, h15]
  · have h16 : (16 : Nat) ≠ k := by omega
    rw [if_neg h16] at h
    obtain ⟨h1, h3, h7, h11, h15⟩ := H.d h
    have n1 : (1 : Nat) ≠ k := fun e => by rw [← e, h1] at hL; cases hL
    have n3 : (3 : Nat) ≠ k := fun e => by rw [← e, h3] at hL; cases hL
    have n7 : (7 : Nat) ≠ k := fun e => by rw [← e, h7] at hL; cases hL
    have n11 : (11 : Nat) ≠ k := fun e => by rw [← e, h11] at hL; cases hL
    have n15 : (15 : Nat) ≠ k := fun e => by rw [← e, h15] at hL; cases hL
    simp only [updv, if_neg h16, if_neg n1, if_neg n3, if_neg n7, if_neg n11, if_neg n15]
    exact H.e h
theorem OfJ.own {pv : Nat → Value → Prop} {gP gR : Nat} {W1 : World} {ZP : List Value} {n : Nat → Nat} {bs : Nat → List UInt8} {L : Nat → Bool} {vs : Nat → Value} {W W' : World} (H : OfJ pv gP gR W1 ZP n bs L vs W) (hPR : gP < gR)
    (k : Nat) (hk : k = 4 ∨ k = 8 ∨ k = 12 ∨ k = 7 ∨ k = 11 ∨ k = 15) (hL : L k = false) (x : Value) (hx : pv k x) (hb : Below (gR + 1) W W') (hr : Rows3 (gR + 1) 3 4 7 4 n bs (fun j => if j = k then true else L j) (updv vs k x) W') (hbuild : k = 4 ∨ k = 8 ∨ k = 12 → L (k + 3) = false) :
    OfJ pv gP gR W1 ZP n bs (fun j => if j = k then true else L j) (updv vs k x) W' := by
  have h16L : L 16 = false := by
    cases h : L 16 with
    | false => rfl
    | true =>
      obtain ⟨h1, h3, h7, h11, h15⟩ := H.d h
      rcases hk with rfl | rfl | rfl | rfl | rfl | rfl
      · rw [hbuild (by simp)] at h7; cases h7
      · rw [hbuild (by simp)] at h11; cases h11
      · rw [hbuild (by simp)] at h15; cases h15
      · rw [h7] at hL; cases hL
      · rw [h11] at hL; cases hL
      · rw [h15] at hL; cases hL
  have hk16 : (16 : Nat) ≠ k := by omega
  refine ⟨fun i hi => ?_, H.b.trans (hb.mono (by omega)), (hb.block _ (by omega)).trans H.z, hr, fun h => ?_, fun h => ?_⟩
  · unfold updv
    by_cases e : i = k
    · subst e; rw [if_pos rfl]; exact hx
    · rw [if_neg e]; rw [if_neg e] at hi; exact H.f i hi
  · exact (upF h16L hk16 h).elim
  · exact (upF h16L hk16 h).elim
theorem OfJ.s16 {pv : Nat → Value → Prop} {gP gR : Nat} {W1 : World} {ZP : List Value} {n : Nat → Nat} {bs : Nat → List UInt8} {L : Nat → Bool} {vs : Nat → Value} {W : World} (H : OfJ pv gP gR W1 ZP n bs L vs W) (hp : ∀ v, pv 16 v)
    (hd : L 1 = true ∧ L 3 = true ∧ L 7 = true ∧ L 11 = true ∧ L 15 = true) : OfJ pv gP gR W1 ZP n bs (fun j => if j = 16 then true else L j) (updv vs 16 (.agg #[vs 1, vs 3, vs 7, vs 11, vs 15])) W := by
  refine ⟨fun i hi => ?_, H.b, H.z, H.r.ext 16 (fun i hi => by omega) (fun i hi => by omega) _ (Below.refl _ _), fun h => ?_, fun h => rfl⟩
  · unfold updv
    by_cases e : i = 16
    · subst e; exact hp _
    · rw [if_neg e]; rw [if_neg e] at hi; exact H.f i hi
  · simp [hd]
theorem OfJ.start {pv : Nat → Value → Prop} {gP gR : Nat} {W1 : World} {ZP : List Value} {n : Nat → Nat} {bs : Nat → List UInt8} {L : Nat → Bool} {vs : Nat → Value} (hL : ∀ j, j < 18 → L j = false) (h18 : ∀ j, 18 ≤ j → ∀ v, pv j v) (hz : W1.heap[gR]? = some (.cells ZP.toArray 29 (0, 0))) : OfJ pv gP gR W1 ZP n bs L vs W1.drew := by
  have no : ∀ j, j < 18 → L j = true → False := fun j hj h => by rw [hL j hj] at h; cases h
  exact ⟨fun i hi => by
    by_cases h : i < 18
    · exact (no i h hi).elim
    · exact h18 i (by omega) _, (Below.refl _ _).drew, hz, ⟨lt_of_heap hz, fun i hi h => (no _ (by omega) h).elim, fun i hi h => (no _ (by omega) h).elim, fun i hi h => (no _ (by omega) h).elim, fun i j hi hj hij h => (no _ (by omega) h).elim⟩, fun h => (no 16 (by decide) h).elim, fun h => (no 16 (by decide) h).elim⟩
theorem of_rest {L : Nat → Bool} {b c : Nat} {h : L c = true → L b = true} (hb : L b = false) : L c = false := by
  cases hc : L c with
  | false => rfl
  | true => rw [h hc] at hb; cases hb
def zeroPar : List Value := [.int .i64 0, .bool false, .slice none 0 0, .slice none 0 0, .slice none 0 0]
theorem bldP (x : Int) (o : Bool) (A1 A2 A3 : Option Addr) (n1 c1 n2 c2 n3 c3 : Nat) (W : World) : (Instr.build 29 #[(0, .int .i64 x), (1, .bool o), (2, .slice A1 n1 c1), (3, .slice A2 n2 c2), (4, .slice A3 n3 c3)]).run Tryz.prog W = .ok (.agg (parV x o A1 n1 c1 A2 n2 c2 A3 n3 c3).toArray) W := by kernel_rfl
set_option maxHeartbeats 8000000 in
theorem of_any (x : Int) (o : Bool) (Ak : Option Addr) (kn kc : Nat) (Ai : Option Addr) (vn ic : Nat) (Aa : Option Addr) (an ac : Nat) (key iv aad : List UInt8) (w : World) (hk : key.length = kn) (hi : iv.length = vn) (ha : aad.length = an) (k31 : kn ≤ 2147000000) (i31 : vn ≤ 2147000000) (a31 : an ≤ 2147000000)
    (S1 : Sl w Ak kc key) (S2 : Sl w Ai ic iv) (S3 : Sl w Aa ac aad) :
    Calls Tryz.prog 11 #[.agg (parV x o Ak kn kc Ai vn ic Aa an ac).toArray] w fun e w' => ∃ A1 c1 A2 c2 A3 c3, e = .returned (.agg (parV x o A1 kn c1 A2 vn c2 A3 an c3).toArray) ∧ Sl w' A1 c1 key ∧ Sl w' A2 c2 iv ∧ Sl w' A3 c3 aad ∧ Below w.heap.size w w' := by
  have hzp : ∀ W, (zeroValue 29).run Tryz.prog W = .ok (.agg zeroPar.toArray) W := fun W => by kernel_rfl
  have HK := Lib.hid hk; have HI := Lib.hid hi; have HA := Lib.hid ha
  have HS1 := Lib.hid S1; have HS2 := Lib.hid S2; have HS3 := Lib.hid S3
  have PC := Lib.hid (fun (W : World) (g : Nat) (t : TypeId) (fr : Nat × Nat) (h : W.heap[g]? = some (.cells (parV x o Ak kn kc Ai vn ic Aa an ac).toArray t fr)) => par_cells h)
  have hzl : Hid (zeroPar.length = 5) := rfl
  generalize zeroPar = ZP at hzp hzl
  generalize parV x o Ak kn kc Ai vn ic Aa an ac = PV at PC ⊢
  clear hk hi ha S1 S2 S3
  have k0 : 0 + kn ≤ 2147483647 := by omega
  have i0 : 0 + vn ≤ 2147483647 := by omega
  have a0 : 0 + an ≤ 2147483647 := by omega
  go_enter Tryz.func11, Tryz.ntmps11
  go_upto_region 1 with (fail)
  have HH := heap2K w (.cells PV.toArray 24) (.cells ZP.toArray 29)
  have hsz : ((w.alloc (.cells PV.toArray 24)).alloc (.cells ZP.toArray 29)).heap.size = w.heap.size + 2 := by simp
  generalize hV : (w.alloc _).alloc _ = W1 at HH hsz ⊢
  obtain ⟨gP, hgP⟩ : ∃ g, w.heap.size = g := ⟨_, rfl⟩
  have HGP := Lib.hid hgP
  rw [hgP] at HH hsz ⊢
  obtain ⟨gR, hgR⟩ : ∃ g, gP + 1 = g := ⟨_, rfl⟩
  rw [hgR] at HH ⊢
  have R1 := Lib.hid HH.1; have R2 := Lib.hid HH.2.1; have B1 := Lib.hid HH.2.2
  have HSZ := Lib.hid hsz
  clear hV HH hsz hgP
  have PCx : ∀ W, Below (gP + 1) W1 W → W.cell? ⟨gP, 0, none⟩ = some (.int .i64 x) ∧ W.cell? ⟨gP, 1, none⟩ = some (.bool o) ∧ W.cell? ⟨gP, 2, none⟩ = some (.slice Ak kn kc) ∧ W.cell? ⟨gP, 3, none⟩ = some (.slice Ai vn ic) ∧ W.cell? ⟨gP, 4, none⟩ = some (.slice Aa an ac) :=
    fun W hW => PC.out W gP _ _ ((hW.block gP (by omega)).trans R1.out)
  have HPC := Lib.hid PCx
  have HSx : Hid (∀ W, Below (gP + 1) W1 W → Sl W Ak kc key ∧ Sl W Ai ic iv ∧ Sl W Aa ac aad) := fun W hW => by
    have h1 : Below gP w W := (show Below gP w W1 from B1.out).trans (hW.mono (by omega))
    have h2 : Below w.heap.size w W := by rw [HGP.out]; exact h1
    exact ⟨HS1.out.below h2, HS2.out.below h2, HS3.out.below h2⟩
  have hb16 : ∀ j k : Nat, j < 3 → k < 3 → 4 + 4 * j ≠ 7 + 4 * k := fun j k _ _ => by omega
  have HB16 := Lib.hid hb16
  clear PCx hb16 PC
  refine reg_inv (fun L a W => ∃ vs : Nat → Value, a = { tmps := #[.agg PV.toArray, .pointer (some ⟨gP, 0, none⟩), .pointer (some ⟨gR, 0, none⟩), vs 0, vs 1, vs 2, vs 3, vs 4, vs 5, vs 6, vs 7, vs 8, vs 9, vs 10, vs 11, vs 12, vs 13, vs 14, vs 15, vs 16], defers := [] } ∧
      (L 17 = true → ∀ i, i < 17 → L i = true) ∧ (L 17 = false → OfJ (ofPv gP x o Ak kn kc Ai vn ic Aa an ac) gP gR W1 ZP (of3 kn vn an) (ofL3 key iv aad) L vs W) ∧
      (L 17 = true → ∃ (A1 A2 A3 : Option Addr) (c1 c2 c3 : Nat) (Wm : World), Sl Wm A1 c1 key ∧ Sl Wm A2 c2 iv ∧ Sl Wm A3 c3 aad ∧ (∀ b o x, A1 = some ⟨b, o, x⟩ → gR < b) ∧ (∀ b o x, A2 = some ⟨b, o, x⟩ → gR < b) ∧ (∀ b o x, A3 = some ⟨b, o, x⟩ → gR < b) ∧ Below (gP + 1) W1 Wm ∧ Wm.heap[gR]? = some (.cells ZP.toArray 29 (0, 0)) ∧
        W = Wm.setRow gR (parV x o A1 kn c1 A2 vn c2 A3 an c3).toArray)) (by kernel_rfl) (by kernel_rfl) ?_
    (And.intro ?_ (And.intro ?_ (And.intro ?_ (And.intro ?_ (And.intro ?_ (And.intro ?_ (And.intro ?_ (And.intro ?_ (And.intro ?_ (And.intro ?_ (And.intro ?_ (And.intro ?_ (And.intro ?_ (And.intro ?_ (And.intro ?_ (And.intro ?_ (And.intro ?_ (And.intro ?_ trivial)))))))))))))))))) ?_
  · intro L hL
    exact ⟨fun _ => undef, rfl, fun h => (by rw [hL 17 (by decide)] at h; cases h), fun _ => OfJ.start hL (fun j hj v => by
      unfold ofPv
      split <;> first | omega | trivial) R2.out, fun h => (by rw [hL 17 (by decide)] at h; cases h)⟩
  · rintro L a W ⟨vs, rfl, D17, H, _⟩ hLi hd K0 hK
    have h17 : L 17 = false := of_rest (b := 0) (h := fun h => D17 h 0 (by omega)) hLi
    have H := H h17
    go_simp
    exact hK.out _ _ ⟨_, rfl, fun h => (upF h17 (by decide) h).elim, fun _ => H.step 0 ⟨by omega, fun i hi => by omega, fun i hi => by omega⟩ hLi _ rfl, fun h => (upF h17 (by decide) h).elim⟩
  · rintro L a W ⟨vs, rfl, D17, H, _⟩ hLi hd K0 hK
    have h17 : L 17 = false := of_rest (b := 1) (h := fun h => D17 h 1 (by omega)) hLi
    have H := H h17
    have e0 : vs 0 = _ := H.f 0 (hd ⟨0, .data⟩ (by simp) rfl)
    have hcell := (HPC.out W H.b).1
    simp only [e0]
    go_simp
    exact hK.out _ _ ⟨updv vs 1 _, by rw [← e0]; rfl, fun h => (upF h17 (by decide) h).elim, fun _ => H.step 1 ⟨by omega, fun i hi => by omega, fun i hi => by omega⟩ hLi _ rfl, fun h => (upF h17 (by decide) h).elim⟩
  · rintro L a W ⟨vs, rfl, D17, H, _⟩ hLi hd K0 hK
    have h17 : L 17 = false := of_rest (b := 2) (h := fun h => D17 h 2 (by omega)) hLi
    have H := H h17
    go_simp
    exact hK.out _ _ ⟨_, rfl, fun h => (upF h17 (by decide) h).elim, fun _ => H.step 2 ⟨by omega, fun i hi => by omega, fun i hi => by omega⟩ hLi _ rfl, fun h => (upF h17 (by decide) h).elim⟩
  · rintro L a W ⟨vs, rfl, D17, H, _⟩ hLi hd K0 hK
    have h17 : L 17 = false := of_rest (b := 3) (h := fun h => D17 h 3 (by omega)) hLi
    have H := H h17
    have e0 : vs 2 = _ := H.f 2 (hd ⟨2, .data⟩ (by simp) rfl)
    have hcell := (HPC.out W H.b).2.1
    simp only [e0]
    go_simp
    exact hK.out _ _ ⟨updv vs 3 _, by rw [← e0]; rfl, fun h => (upF h17 (by decide) h).elim, fun _ => H.step 3 ⟨by omega, fun i hi => by omega, fun i hi => by omega⟩ hLi _ rfl, fun h => (upF h17 (by decide) h).elim⟩
  · rintro L a W ⟨vs, rfl, D17, H, _⟩ hLi hd K0 hK
    have h17 : L 17 = false := of_rest (b := 4) (h := fun h => D17 h 4 (by omega)) hLi
    have H := H h17
    have hc : L 7 = false := of_rest (b := 4) (h := fun h => H.r.dn 0 (by omega) h) hLi
    go_simp
    exact hK.out _ _ ⟨_, rfl, fun h => (upF h17 (by decide) h).elim, fun _ => H.own (by omega) 4 (by omega) hLi _ trivial ((Below.refl _ _).alloc H.r.sz _) (H.r.mk1 0 (by omega) (by omega) HB16.out hLi) (fun _ => hc), fun h => (upF h17 (by decide) h).elim⟩
  · rintro L a W ⟨vs, rfl, D17, H, _⟩ hLi hd K0 hK
    have h17 : L 17 = false := of_rest (b := 5) (h := fun h => D17 h 5 (by omega)) hLi
    have H := H h17
    go_simp
    exact hK.out _ _ ⟨_, rfl, fun h => (upF h17 (by decide) h).elim, fun _ => H.step 5 ⟨by omega, fun i hi => by omega, fun i hi => by omega⟩ hLi _ rfl, fun h => (upF h17 (by decide) h).elim⟩
  · rintro L a W ⟨vs, rfl, D17, H, _⟩ hLi hd K0 hK
    have h17 : L 17 = false := of_rest (b := 6) (h := fun h => D17 h 6 (by omega)) hLi
    have H := H h17
    have e0 : vs 5 = _ := H.f 5 (hd ⟨5, .data⟩ (by simp) rfl)
    have hcell := (HPC.out W H.b).2.2.1
    simp only [e0]
    go_simp
    exact hK.out _ _ ⟨updv vs 6 _, by rw [← e0]; rfl, fun h => (upF h17 (by decide) h).elim, fun _ => H.step 6 ⟨by omega, fun i hi => by omega, fun i hi => by omega⟩ hLi _ rfl, fun h => (upF h17 (by decide) h).elim⟩
  · rintro L a W ⟨vs, rfl, D17, H, _⟩ hLi hd K0 hK
    have h17 : L 17 = false := of_rest (b := 7) (h := fun h => D17 h 7 (by omega)) hLi
    have H := H h17
    have e0 : vs 6 = _ := H.f 6 (hd ⟨6, .data⟩ (by simp) rfl)
    have hbd := hd ⟨4, .data⟩ (by simp) rfl
    have ho := H.r.o 0 (by omega) hbd hLi
    refine step_appAt rfl (.tmp 7) (.tmp 9) rfl (gR + 1) (vs 4) 0 [] rfl ho Ak kn kc W.heap.size key e0 (HSx.out W H.b).1.2.2 HK.out k0 H.r.sz ?_
    intro v' w' hown hgr hat
    rw [List.nil_append, Nat.zero_add] at hown
    exact hK.out _ _ ⟨updv vs 7 v', rfl, fun h => (upF h17 (by decide) h).elim, fun _ => H.own (by omega) 7 (by omega) hLi v' trivial ((Below.refl _ _).grown hgr H.r.sz (c_own_ge ho (Nat.le_refl _))) (H.r.app 0 (by omega) (by omega) HB16.out hLi hbd v' hown hgr hat) (fun h => by omega), fun h => (upF h17 (by decide) h).elim⟩
  · rintro L a W ⟨vs, rfl, D17, H, _⟩ hLi hd K0 hK
    have h17 : L 17 = false := of_rest (b := 8) (h := fun h => D17 h 8 (by omega)) hLi
    have H := H h17
    have hc : L 11 = false := of_rest (b := 8) (h := fun h => H.r.dn 1 (by omega) h) hLi
    go_simp
    exact hK.out _ _ ⟨_, rfl, fun h => (upF h17 (by decide) h).elim, fun _ => H.own (by omega) 8 (by omega) hLi _ trivial ((Below.refl _ _).alloc H.r.sz _) (H.r.mk1 1 (by omega) (by omega) HB16.out hLi) (fun _ => hc), fun h => (upF h17 (by decide) h).elim⟩
  · rintro L a W ⟨vs, rfl, D17, H, _⟩ hLi hd K0 hK
    have h17 : L 17 = false := of_rest (b := 9) (h := fun h => D17 h 9 (by omega)) hLi
    have H := H h17
    go_simp
    exact hK.out _ _ ⟨_, rfl, fun h => (upF h17 (by decide) h).elim, fun _ => H.step 9 ⟨by omega, fun i hi => by omega, fun i hi => by omega⟩ hLi _ rfl, fun h => (upF h17 (by decide) h).elim⟩
  · rintro L a W ⟨vs, rfl, D17, H, _⟩ hLi hd K0 hK
    have h17 : L 17 = false := of_rest (b := 10) (h := fun h => D17 h 10 (by omega)) hLi
    have H := H h17
    have e0 : vs 9 = _ := H.f 9 (hd ⟨9, .data⟩ (by simp) rfl)
    have hcell := (HPC.out W H.b).2.2.2.1
    simp only [e0]
    go_simp
    exact hK.out _ _ ⟨updv vs 10 _, by rw [← e0]; rfl, fun h => (upF h17 (by decide) h).elim, fun _ => H.step 10 ⟨by omega, fun i hi => by omega, fun i hi => by omega⟩ hLi _ rfl, fun h => (upF h17 (by decide) h).elim⟩
  · rintro L a W ⟨vs, rfl, D17, H, _⟩ hLi hd K0 hK
    have h17 : L 17 = false := of_rest (b := 11) (h := fun h => D17 h 11 (by omega)) hLi
    have H := H h17
    have e0 : vs 10 = _ := H.f 10 (hd ⟨10, .data⟩ (by simp) rfl)
    have hbd := hd ⟨8, .data⟩ (by simp) rfl
    have ho := H.r.o 1 (by omega) hbd hLi
    refine step_appAt rfl (.tmp 11) (.tmp 13) rfl (gR + 1) (vs 8) 0 [] rfl ho Ai vn ic W.heap.size iv e0 (HSx.out W H.b).2.1.2.2 HI.out i0 H.r.sz ?_
    intro v' w' hown hgr hat
    rw [List.nil_append, Nat.zero_add] at hown
    exact hK.out _ _ ⟨updv vs 11 v', rfl, fun h => (upF h17 (by decide) h).elim, fun _ => H.own (by omega) 11 (by omega) hLi v' trivial ((Below.refl _ _).grown hgr H.r.sz (c_own_ge ho (Nat.le_refl _))) (H.r.app 1 (by omega) (by omega) HB16.out hLi hbd v' hown hgr hat) (fun h => by omega), fun h => (upF h17 (by decide) h).elim⟩
  · rintro L a W ⟨vs, rfl, D17, H, _⟩ hLi hd K0 hK
    have h17 : L 17 = false := of_rest (b := 12) (h := fun h => D17 h 12 (by omega)) hLi
    have H := H h17
    have hc : L 15 = false := of_rest (b := 12) (h := fun h => H.r.dn 2 (by omega) h) hLi
    go_simp
    exact hK.out _ _ ⟨_, rfl, fun h => (upF h17 (by decide) h).elim, fun _ => H.own (by omega) 12 (by omega) hLi _ trivial ((Below.refl _ _).alloc H.r.sz _) (H.r.mk1 2 (by omega) (by omega) HB16.out hLi) (fun _ => hc), fun h => (upF h17 (by decide) h).elim⟩
  · rintro L a W ⟨vs, rfl, D17, H, _⟩ hLi hd K0 hK
    have h17 : L 17 = false := of_rest (b := 13) (h := fun h => D17 h 13 (by omega)) hLi
    have H := H h17
    go_simp
    exact hK.out _ _ ⟨_, rfl, fun h => (upF h17 (by decide) h).elim, fun _ => H.step 13 ⟨by omega, fun i hi => by omega, fun i hi => by omega⟩ hLi _ rfl, fun h => (upF h17 (by decide) h).elim⟩
  · rintro L a W ⟨vs, rfl, D17, H, _⟩ hLi hd K0 hK
    have h17 : L 17 = false := of_rest (b := 14) (h := fun h => D17 h 14 (by omega)) hLi
    have H := H h17
    have e0 : vs 13 = _ := H.f 13 (hd ⟨13, .data⟩ (by simp) rfl)
    have hcell := (HPC.out W H.b).2.2.2.2
    simp only [e0]
    go_simp
    exact hK.out _ _ ⟨updv vs 14 _, by rw [← e0]; rfl, fun h => (upF h17 (by decide) h).elim, fun _ => H.step 14 ⟨by omega, fun i hi => by omega, fun i hi => by omega⟩ hLi _ rfl, fun h => (upF h17 (by decide) h).elim⟩
  · rintro L a W ⟨vs, rfl, D17, H, _⟩ hLi hd K0 hK
    have h17 : L 17 = false := of_rest (b := 15) (h := fun h => D17 h 15 (by omega)) hLi
    have H := H h17
    have e0 : vs 14 = _ := H.f 14 (hd ⟨14, .data⟩ (by simp) rfl)
    have hbd := hd ⟨12, .data⟩ (by simp) rfl
    have ho := H.r.o 2 (by omega) hbd hLi
    refine step_appAt rfl (.tmp 15) (.tmp 17) rfl (gR + 1) (vs 12) 0 [] rfl ho Aa an ac W.heap.size aad e0 (HSx.out W H.b).2.2.2.2 HA.out a0 H.r.sz ?_
    intro v' w' hown hgr hat
    rw [List.nil_append, Nat.zero_add] at hown
    exact hK.out _ _ ⟨updv vs 15 v', rfl, fun h => (upF h17 (by decide) h).elim, fun _ => H.own (by omega) 15 (by omega) hLi v' trivial ((Below.refl _ _).grown hgr H.r.sz (c_own_ge ho (Nat.le_refl _))) (H.r.app 2 (by omega) (by omega) HB16.out hLi hbd v' hown hgr hat) (fun h => by omega), fun h => (upF h17 (by decide) h).elim⟩
  · rintro L a W ⟨vs, rfl, D17, H, _⟩ hLi hd K0 hK
    have h17 : L 17 = false := of_rest (b := 16) (h := fun h => D17 h 16 (by omega)) hLi
    have H := H h17
    have d1 := hd ⟨1, .data⟩ (by simp) rfl
    have d3 := hd ⟨3, .data⟩ (by simp) rfl
    have d7 := hd ⟨7, .data⟩ (by simp) rfl
    have d11 := hd ⟨11, .data⟩ (by simp) rfl
    have d15 := hd ⟨15, .data⟩ (by simp) rfl
    have e1 : vs 1 = .int .i64 x := H.f 1 d1
    have e3 : vs 3 = .bool o := H.f 3 d3
    obtain ⟨A1, c1, h7, _⟩ := own_read (H.r.p 0 (by omega) d7)
    obtain ⟨A2, c2, h11, _⟩ := own_read (H.r.p 1 (by omega) d11)
    obtain ⟨A3, c3, h15, _⟩ := own_read (H.r.p 2 (by omega) d15)
    have h7 : vs 7 = .slice A1 kn c1 := h7
    have h11 : vs 11 = .slice A2 vn c2 := h11
    have h15 : vs 15 = .slice A3 an c3 := h15
    refine step_valF rfl (v := .agg #[vs 1, vs 3, vs 7, vs 11, vs 15]) (w' := W) (exec_bldF rfl (by
      simp only [List.map_toArray, List.map_cons, List.map_nil]
      show (Instr.build 29 #[(0, vs 1), (1, vs 3), (2, vs 7), (3, vs 11), (4, vs 15)]).run Tryz.prog W = _
      rw [e1, e3, h7, h11, h15]
      exact bldP x o A1 A2 A3 kn c1 vn c2 an c3 W)) ?_
    exact hK.out _ _ ⟨_, rfl, fun h => (upF h17 (by decide) h).elim, fun _ => H.s16 (fun _ => trivial) ⟨d1, d3, d7, d11, d15⟩, fun h => (upF h17 (by decide) h).elim⟩
  · rintro L a W ⟨vs, rfl, D17, H, _⟩ hLi hd K0 hK
    have h17 : L 17 = false := hLi
    have H := H h17
    have hall := allEdges 17 (by kernel_rfl) hd
    have e1 : vs 1 = .int .i64 x := H.f 1 (hall 1 (by omega))
    have e3 : vs 3 = .bool o := H.f 3 (hall 3 (by omega))
    have p7 := H.r.p 0 (by omega) (hall 7 (by omega))
    have p11 := H.r.p 1 (by omega) (hall 11 (by omega))
    have p15 := H.r.p 2 (by omega) (hall 15 (by omega))
    obtain ⟨A1, c1, h7, l7, b7, m7, r7⟩ := own_read p7
    obtain ⟨A2, c2, h11, l11, b11, m11, r11⟩ := own_read p11
    obtain ⟨A3, c3, h15, l15, b15, m15, r15⟩ := own_read p15
    have h7 : vs 7 = .slice A1 kn c1 := h7
    have h11 : vs 11 = .slice A2 vn c2 := h11
    have h15 : vs 15 = .slice A3 an c3 := h15
    have hge : ∀ (v : Value) (A : Option Addr) (m c : Nat) (l : List Value), W.ownsRow (gR + 1) 5 1 v m l → v = .slice A m c → ∀ b o x, A = some ⟨b, o, x⟩ → gR < b := fun v A m c l ho hv b o x hA => by
      have := c_own_ge ho (Nat.le_refl _) b (by rw [hv, hA]; rfl)
      omega
    have e16 := H.e (hall 16 (by omega))
    rw [e1, e3, h7, h11, h15] at e16
    refine step_st1 rfl 29 (.tmp 2) (.tmp 19) rfl (by
      show (Instr.storeAt 29 (.pointer (some ⟨gR, 0, none⟩)) (vs 16)).run Tryz.prog W = _
      rw [e16]
      exact store_arr (cs := parV x o A1 kn c1 A2 vn c2 A3 an c3) (old := ZP) i5P (par_one x o A1 kn c1 A2 vn c2 A3 an c3) H.z (by rw [hzl.out]; rfl)) ?_
    have l7' : key.length = kn := l7
    have l11' : iv.length = vn := l11
    have l15' : aad.length = an := l15
    have b7' : kn ≤ c1 := b7
    have b11' : vn ≤ c2 := b11
    have b15' : an ≤ c3 := b15
    have hS7 : Sl W A1 c1 key := ⟨by omega, m7, r7⟩
    have hS11 : Sl W A2 c2 iv := ⟨by omega, m11, r11⟩
    have hS15 : Sl W A3 c3 aad := ⟨by omega, m15, r15⟩
    have hL17 : ∀ i, i < 17 → (if i = 17 then true else L i) = true := fun i hi => by
      rw [if_neg (by omega)]; exact hall i hi
    exact hK.out _ _ ⟨vs, rfl, fun _ i hi => hL17 i hi, fun h => (upS h).elim, fun _ => ⟨A1, A2, A3, c1, c2, c3, W, hS7, hS11, hS15, hge _ _ _ _ _ p7 h7, hge _ _ _ _ _ p11 h11, hge _ _ _ _ _ p15 h15, H.b, H.z, rfl⟩⟩
  · rintro L a W hL ⟨vs, rfl, _, _, hD⟩
    obtain ⟨A1, A2, A3, c1, c2, c3, Wm, s1, s2, s3, g1, g2, g3, hb, hz, hW⟩ := hD (hL 17)
    have hV := hW.symm
    have hres := heap_of_setRow hV hz
    have hout : ∀ (A : Option Addr) (c : Nat) (l : List UInt8), Sl Wm A c l → (∀ b o x, A = some ⟨b, o, x⟩ → gR < b) → Sl W A c l := fun A c l hs hg => ⟨hs.1, hs.2.1, by
      rcases hs.2.2 with h | ⟨b, o, h1, h2, h3⟩
      · exact .inl h
      · have hbl : gR < b := hg b o _ h1
        have hsz : Wm.heap.size ≤ W.heap.size := by rw [← hV]; simp [World.setRow]
        refine .inr ⟨b, o, h1, Nat.lt_of_lt_of_le h2 hsz, fun j v hv => ?_⟩
        have := h3 j v hv
        rw [World.cell?_of_block (w := Wm) (a := ⟨b, o + j, none⟩)]
        · exact this
        · cases hh : Wm.heap[b]? with
          | none => exact absurd hh (by simp [World.cell?] at this; intro h; rw [h] at this; cases this)
          | some ob => exact heap_of_other hV (show b ≠ gR by omega) hh⟩
    go_wp2
    refine bodyPost_ret (results_cell_row (P := Tryz.prog) rfl _ _ gR 29 (parV x o A1 kn c1 A2 vn c2 A3 an c3).toArray (0, 0) _ rfl hres Tryz.underlying29 rfl i5P) rfl ⟨A1, c1, A2, c2, A3, c3, rfl, hout _ _ _ s1 g1, hout _ _ _ s2 g2, hout _ _ _ s3 g3, ?_⟩
    have hbb : Below (gP + 1) W1 W := hb.trans (below_of_setRow hV (by omega) (by have := lt_of_heap hz; omega))
    have h1 : Below gP w W := (show Below gP w W1 from B1.out).trans (hbb.mono (by omega))
    rw [← HGP.out] at h1
    exact h1
end Go.Proofs.YtnhhgiebnhlfcaaGreatDoor

/- The contracts of chacha.stir and chacha.Quarter. -/
namespace Go.Proofs.YtnhhgiebnhlfcaaGreatDoor
open Go.RowKit
set_option maxRecDepth 100000
set_option linter.unusedVariables false
set_option linter.unusedSimpArgs false
/-- a quarter round of four numbers -/
def qA1 (a b c d : W32) : W32 := a + b
def qD1 (a b c d : W32) : W32 := rotl (d ^^^ qA1 a b c d) 16
def qC1 (a b c d : W32) : W32 := c + qD1 a b c d
def qB1 (a b c d : W32) : W32 := rotl (b ^^^ qC1 a b c d) 12
def qA (a b c d : W32) : W32 := qA1 a b c d + qB1 a b c d
def qD (a b c d : W32) : W32 := rotl (qD1 a b c d ^^^ qA a b c d) 8
def qC (a b c d : W32) : W32 := qC1 a b c d + qD a b c d
def qB (a b c d : W32) : W32 := rotl (qB1 a b c d ^^^ qC a b c d) 7

theorem stir_any (x y z r s : W32) (n : Int) (w : World) (hr : r = x + y) (hs : s = rotl (z ^^^ r) n) :
    Calls Tryz.prog 207 #[.int .u32 (x.toNat : Int), .int .u32 (y.toNat : Int), .int .u32 (z.toNat : Int), .int .i64 n] w fun e w' => e = .returned (.tuple #[.int .u32 (r.toNat : Int), .int .u32 (s.toNat : Int)]) ∧ w = w' := by
  have u1 : ((x.toNat : Int) + (y.toNat : Int)) % 4294967296 = (r.toNat : Int) := by rw [hr]; exact add32 x y
  have u2 := xor32 z r
  have HS := Lib.hid hs
  clear hr hs
  go_enter Tryz.func207, Tryz.ntmps207
  go_wp2_with fail
  rw [← BitVec.toNat_xor]
  refine (left_any (z ^^^ r) n _).mono ?_
  rintro e w1 ⟨rfl, rfl⟩
  rw [← HS.out]
  go_wp2
  exact bodyPost_ret (results_tmp2 rfl _ _ _) rfl ⟨rfl, rfl⟩

theorem results_tmp4 {fn : Func} {t u v x : Tmp} (h : fn.results = #[.tmp t, .tmp u, .tmp v, .tmp x]) (tmps : Array Value) (P : Program) (w : World) :
    (results fn tmps).run P w = .ok (.tuple #[tmps.getD t undef, tmps.getD u undef, tmps.getD v undef, tmps.getD x undef]) w := by
  simp [results, h]
theorem quarter_any (a b c d : W32) (w : World) :
    Calls Tryz.prog 197 #[.int .u32 (a.toNat : Int), .int .u32 (b.toNat : Int), .int .u32 (c.toNat : Int), .int .u32 (d.toNat : Int)] w fun e w' =>
      e = .returned (.tuple #[.int .u32 ((qA a b c d).toNat : Int), .int .u32 ((qB a b c d).toNat : Int), .int .u32 ((qC a b c d).toNat : Int), .int .u32 ((qD a b c d).toNat : Int)]) ∧ w = w' := by
  obtain ⟨a1, h1⟩ : ∃ x, x = qA1 a b c d := ⟨_, rfl⟩
  obtain ⟨d1, h2⟩ : ∃ x, x = qD1 a b c d := ⟨_, rfl⟩
  obtain ⟨c1, h3⟩ : ∃ x, x = qC1 a b c d := ⟨_, rfl⟩
  obtain ⟨b1, h4⟩ : ∃ x, x = qB1 a b c d := ⟨_, rfl⟩
  obtain ⟨a2, h5⟩ : ∃ x, x = qA a b c d := ⟨_, rfl⟩
  obtain ⟨d2, h6⟩ : ∃ x, x = qD a b c d := ⟨_, rfl⟩
  obtain ⟨c2, h7⟩ : ∃ x, x = qC a b c d := ⟨_, rfl⟩
  obtain ⟨b2, h8⟩ : ∃ x, x = qB a b c d := ⟨_, rfl⟩
  have S1 := Lib.hid (stir_any a b d a1 d1 16 w h1 (by rw [h2, h1]; rfl))
  have S2 := Lib.hid (stir_any c d1 b c1 b1 12 w (by rw [h3, h2]; rfl) (by rw [h4, h3]; rfl))
  have S3 := Lib.hid (stir_any a1 b1 d1 a2 d2 8 w (by rw [h5, h1, h4]; rfl) (by rw [h6, h2, h5]; rfl))
  have S4 := Lib.hid (stir_any c1 d2 b1 c2 b2 7 w (by rw [h7, h3, h6]; rfl) (by rw [h8, h4, h7]; rfl))
  rw [← h5, ← h6, ← h7, ← h8]
  clear h1 h2 h3 h4 h5 h6 h7 h8
  go_enter Tryz.func197, Tryz.ntmps197
  go_wp2_with fail
  refine S1.out.mono ?_
  rintro e w1 ⟨rfl, rfl⟩
  go_wp2_with fail
  refine S2.out.mono ?_
  rintro e w1 ⟨rfl, rfl⟩
  go_wp2_with fail
  refine S3.out.mono ?_
  rintro e w1 ⟨rfl, rfl⟩
  go_wp2_with fail
  refine S4.out.mono ?_
  rintro e w1 ⟨rfl, rfl⟩
  go_wp2
  exact bodyPost_ret (results_tmp4 rfl _ _ _) rfl ⟨rfl, rfl⟩
end Go.Proofs.YtnhhgiebnhlfcaaGreatDoor

/- The contract of (state).round. -/
namespace Go.Proofs.YtnhhgiebnhlfcaaGreatDoor
open Go.RowKit
set_option maxRecDepth 100000
set_option linter.unusedVariables false
set_option linter.unusedSimpArgs false
/-- a quarter round of a state, at four places -/
def qAt (l : List W32) (p q r s : Nat) : List W32 :=
  (((l.set p (qA (l.getD p 0) (l.getD q 0) (l.getD r 0) (l.getD s 0))).set q (qB (l.getD p 0) (l.getD q 0) (l.getD r 0) (l.getD s 0))).set r (qC (l.getD p 0) (l.getD q 0) (l.getD r 0) (l.getD s 0))).set s (qD (l.getD p 0) (l.getD q 0) (l.getD r 0) (l.getD s 0))
def pB (t i : Nat) : Nat := 4 + (i + t) % 4
def pC (t i : Nat) : Nat := 8 + (i + 2 * t) % 4
def pD (t i : Nat) : Nat := 12 + (i + 3 * t) % 4
def roundN (t : Nat) (l : List W32) : Nat → List W32
  | 0 => l
  | i + 1 => qAt (roundN t l i) i (pB t i) (pC t i) (pD t i)
theorem qAt_len (l : List W32) (p q r s : Nat) : (qAt l p q r s).length = l.length := by simp [qAt]
theorem roundN_len (t : Nat) (l : List W32) (i : Nat) : (roundN t l i).length = l.length := by
  induction i with
  | zero => rfl
  | succ i ih => rw [roundN, qAt_len, ih]
theorem arrSt : Tryz.prog.underlying 190 = some (.array 16 68) := Tryz.underlying190
theorem iSt : (Tryz.prog.info? 190).map (·.size) = some 16 := by kernel_rfl
theorem heap2c (w : World) (o1 o2 : Obj) : ((w.alloc o1).alloc o2).heap[w.heap.size]? = some o1 ∧ ((w.alloc o1).alloc o2).heap[w.heap.size + 1]? = some o2 ∧ Below w.heap.size w ((w.alloc o1).alloc o2) := by
  have e1 : (w.alloc o1).heap.size = w.heap.size + 1 := by simp
  refine ⟨?_, ?_, ?_⟩
  · rw [Below.heap_alloc _ _ _ (by omega)]; exact heap_alloc_new' w o1
  · have := heap_alloc_new' (w.alloc o1) o2; rwa [e1] at this
  · exact ((Below.refl _ w).alloc (Nat.le_refl _) _).alloc (by omega) _
/-- a number put into a row of numbers -/
theorem st_row {W W' : World} {g i B : Nat} {l : List W32} {t : TypeId} {v : W32} (hW : W.setCell ⟨g, i, none⟩ (.int .u32 (v.toNat : Int)) = W') (hB : B ≤ g) (H : W.heap[g]? = some (.cells (l.map wv).toArray t (0, 0))) :
    W'.heap[g]? = some (.cells ((l.set i v).map wv).toArray t (0, 0)) ∧ Below B W W' ∧ ∀ k, k ≠ g → W'.heap[k]? = W.heap[k]? := by
  subst hW
  refine ⟨?_, (Below.refl _ _).setCell hB _, fun k hk => Below.heap_setCell W _ _ _ hk⟩
  have := heap_set H i (wv v)
  rw [← List.map_set] at this
  exact this
theorem cell_eq {W W0 : World} (h : W = W0) {a : Addr} {v : Value} (hc : W0.cell? a = some v) : W.cell? a = some v := by rw [h]; exact hc
set_option maxHeartbeats 2000000 in
theorem round_any (t : Nat) (s : List W32) (w : World) (hs : s.length = 16) (ht : t ≤ 1) :
    Calls Tryz.prog 179 #[.agg (s.map wv).toArray, .int .i64 (t : Int)] w fun e w' => e = .returned (.agg ((roundN t s 4).map wv).toArray) ∧ Below w.heap.size w w' := by
  have HSL := Lib.hid hs
  clear hs
  go_enter Tryz.func179, Tryz.ntmps179
  go_wp2_with fail
  generalize hV : (w.alloc _).alloc _ = W0
  have F0 : Hid (W0.heap[w.heap.size]? = some (.cells ((roundN t s 0).map wv).toArray 190 (0, 0))) := by rw [← hV]; exact (heap2c w _ _).1
  have F1 : Hid (W0.heap[w.heap.size + 1]? = some (.cells (List.replicate 16 (Value.int .u32 0)).toArray 190 (0, 0))) := by rw [← hV]; exact (heap2c w _ _).2.1
  have FB : Hid (Below w.heap.size w W0) := by rw [← hV]; exact (heap2c w _ _).2.2
  clear hV
  go_loopw [10] (fun vi wr => ∃ (i : Nat), i ≤ 4 ∧ vi = .int .i64 (i : Int) ∧ Hid (Below w.heap.size w wr) ∧ Hid (wr.heap[w.heap.size]? = some (.cells ((roundN t s i).map wv).toArray 190 (0, 0))) ∧ Hid (wr.heap[w.heap.size + 1]? = some (.cells (List.replicate 16 (Value.int .u32 0)).toArray 190 (0, 0)))) (fun i _ => 4 - (intOf i).toNat)
  case atStart => exact ⟨0, by omega, rfl, FB, F0, F1⟩
  case round =>
    clear F0 F1 FB
    obtain ⟨i, hi, rfl, HB, H0, H1⟩ := hrel
    by_cases hlt : i < 4
    · have q1 : (i : Int) < 4 := by omega
      have hl16 : (roundN t s i).length = 16 := by rw [roundN_len]; exact HSL.out
      obtain ⟨y, hy⟩ : ∃ y, y = pB t i := ⟨_, rfl⟩
      obtain ⟨z, hz⟩ : ∃ z, z = pC t i := ⟨_, rfl⟩
      obtain ⟨u, hu⟩ : ∃ u, u = pD t i := ⟨_, rfl⟩
      have HST : Hid (qAt (roundN t s i) i y z u = roundN t s (i + 1)) := by rw [hy, hz, hu]; rfl
      have ho : i < 4 ∧ 4 ≤ y ∧ y < 8 ∧ 8 ≤ z ∧ z < 12 ∧ 12 ≤ u ∧ u < 16 := by rw [hy, hz, hu]; unfold pB pC pD; omega
      have o1 : 4 + ((i : Int) + (t : Int)) % 4 = (y : Int) := by rw [hy]; unfold pB; omega
      have o2 : 8 + ((i : Int) + 2 * (t : Int)) % 4 = (z : Int) := by rw [hz]; unfold pC; omega
      have o3 : 12 + ((i : Int) + 3 * (t : Int)) % 4 = (u : Int) := by rw [hu]; unfold pD; omega
      have O1 := Lib.hid o1; have O2 := Lib.hid o2; have O3 := Lib.hid o3
      clear o1 o2 o3
      clear hy hz hu
      have c0 := Lib.hid (wcell (w := wr.drew) H0.out i (by omega))
      have c1 := Lib.hid (wcell (w := wr.drew) H0.out y (by omega))
      have c2 := Lib.hid (wcell (w := wr.drew) H0.out z (by omega))
      have c3 := Lib.hid (wcell (w := wr.drew) H0.out u (by omega))
      unfold qAt at HST
      obtain ⟨L, HL⟩ : ∃ L, Hid (roundN t s i = L) := ⟨_, rfl⟩
      rw [HL.out] at c0 c1 c2 c3 HST hl16 H0
      generalize L.getD i 0 = a at c0 HST
      generalize L.getD y 0 = b at c1 HST
      generalize L.getD z 0 = c at c2 HST
      generalize L.getD u 0 = d at c3 HST
      have q0 : (i : Int) < 16 := by omega
      have q1 : (y : Int) < 16 := by omega
      have q2 : (z : Int) < 16 := by omega
      have q3 : (u : Int) < 16 := by omega
      have HO := Lib.hid ho
      have H16 := Lib.hid hl16
      clear ho hl16
      go_wp2_with fail
      rw [O1.out, O2.out, O3.out]
      have HS : Hid (wr.drew = wr.drew) := rfl
      have D0 : Hid (wr.drew.heap[w.heap.size]? = some (.cells (L.map wv).toArray 190 (0, 0))) := H0.out
      have DB : Hid (Below w.heap.size w wr.drew) := HB.out.drew
      have D1 : Hid (wr.drew.heap[w.heap.size + 1]? = some (.cells (List.replicate 16 (Value.int .u32 0)).toArray 190 (0, 0))) := H1.out
      refine regK_start (16) (fun W => W = wr.drew) (by kernel_rfl) ?_
      try simp only [Act.put, List.setIfInBounds_toArray, List.set_cons_zero, List.set_cons_succ]
      refine regK_take (v := ?_) 0 (some 32) rfl rfl (by kernel_rfl) (by kernel_rfl) (by kernel_rfl) (fun _ _ _ h => h) (by rfl) (by kernel_rfl) HS.out (fun W => ?_) ?_
      rotate_left
      · (go_simp; try rfl)
      simp only [Act.put, List.setIfInBounds_toArray, List.set_cons_zero, List.set_cons_succ]
      refine regK_take (v := ?_) 1 (some 33) rfl rfl (by kernel_rfl) (by kernel_rfl) (by kernel_rfl) (fun _ _ _ h => h) (by rfl) (by kernel_rfl) HS.out (fun W => ?_) ?_
      rotate_left
      · (go_simp; try rfl)
      simp only [Act.put, List.setIfInBounds_toArray, List.set_cons_zero, List.set_cons_succ]
      refine regK_take (v := ?_) 2 (some 34) rfl rfl (by kernel_rfl) (by kernel_rfl) (by kernel_rfl) (fun _ _ _ h => h) (by rfl) (by kernel_rfl) HS.out (fun W => ?_) ?_
      rotate_left
      · (go_simp; try rfl)
      simp only [Act.put, List.setIfInBounds_toArray, List.set_cons_zero, List.set_cons_succ]
      refine regK_take (v := ?_) 3 (some 35) rfl rfl (by kernel_rfl) (by kernel_rfl) (by kernel_rfl) (fun _ _ _ h => h) (by rfl) (by kernel_rfl) HS.out (fun W => ?_) ?_
      rotate_left
      · (go_simp; try rfl)
      simp only [Act.put, List.setIfInBounds_toArray, List.set_cons_zero, List.set_cons_succ]
      refine regK_take (v := ?_) 4 (some 36) rfl rfl (by kernel_rfl) (by kernel_rfl) (by kernel_rfl) (fun _ _ _ h => h) (by rfl) (by kernel_rfl) HS.out (fun W => ?_) ?_
      rotate_left
      · (go_simp; try rfl)
      simp only [Act.put, List.setIfInBounds_toArray, List.set_cons_zero, List.set_cons_succ]
      refine regK_take (v := ?_) 5 (some 37) rfl rfl (by kernel_rfl) (by kernel_rfl) (by kernel_rfl) (fun _ _ _ h => h) (by rfl) (by kernel_rfl) HS.out (fun W => ?_) ?_
      rotate_left
      · (go_simp; try rfl)
      simp only [Act.put, List.setIfInBounds_toArray, List.set_cons_zero, List.set_cons_succ]
      refine regK_load 6 (some 38) (fun W hW => load_cell Tryz.underlying68 (cell_eq hW c0.out)) rfl rfl rfl rfl (by kernel_rfl) (by kernel_rfl) (by kernel_rfl) (fun _ _ _ h => h) (by rfl) (by kernel_rfl) HS.out ?_
      simp only [Act.put, List.setIfInBounds_toArray, List.set_cons_zero, List.set_cons_succ]
      refine regK_take (v := ?_) 7 (some 39) rfl rfl (by kernel_rfl) (by kernel_rfl) (by kernel_rfl) (fun _ _ _ h => h) (by rfl) (by kernel_rfl) HS.out (fun W => ?_) ?_
      rotate_left
      · (go_simp; try rfl)
      simp only [Act.put, List.setIfInBounds_toArray, List.set_cons_zero, List.set_cons_succ]
      refine regK_take (v := ?_) 8 (some 40) rfl rfl (by kernel_rfl) (by kernel_rfl) (by kernel_rfl) (fun _ _ _ h => h) (by rfl) (by kernel_rfl) HS.out (fun W => ?_) ?_
      rotate_left
      · (go_simp; try rfl)
      simp only [Act.put, List.setIfInBounds_toArray, List.set_cons_zero, List.set_cons_succ]
      refine regK_load 9 (some 41) (fun W hW => load_cell Tryz.underlying68 (cell_eq hW c1.out)) rfl rfl rfl rfl (by kernel_rfl) (by kernel_rfl) (by kernel_rfl) (fun _ _ _ h => h) (by rfl) (by kernel_rfl) HS.out ?_
      simp only [Act.put, List.setIfInBounds_toArray, List.set_cons_zero, List.set_cons_succ]
      refine regK_take (v := ?_) 10 (some 42) rfl rfl (by kernel_rfl) (by kernel_rfl) (by kernel_rfl) (fun _ _ _ h => h) (by rfl) (by kernel_rfl) HS.out (fun W => ?_) ?_
      rotate_left
      · (go_simp; try rfl)
      simp only [Act.put, List.setIfInBounds_toArray, List.set_cons_zero, List.set_cons_succ]
      refine regK_take (v := ?_) 11 (some 43) rfl rfl (by kernel_rfl) (by kernel_rfl) (by kernel_rfl) (fun _ _ _ h => h) (by rfl) (by kernel_rfl) HS.out (fun W => ?_) ?_
      rotate_left
      · (go_simp; try rfl)
      simp only [Act.put, List.setIfInBounds_toArray, List.set_cons_zero, List.set_cons_succ]
      refine regK_load 12 (some 44) (fun W hW => load_cell Tryz.underlying68 (cell_eq hW c2.out)) rfl rfl rfl rfl (by kernel_rfl) (by kernel_rfl) (by kernel_rfl) (fun _ _ _ h => h) (by rfl) (by kernel_rfl) HS.out ?_
      simp only [Act.put, List.setIfInBounds_toArray, List.set_cons_zero, List.set_cons_succ]
      refine regK_take (v := ?_) 13 (some 45) rfl rfl (by kernel_rfl) (by kernel_rfl) (by kernel_rfl) (fun _ _ _ h => h) (by rfl) (by kernel_rfl) HS.out (fun W => ?_) ?_
      rotate_left
      · (go_simp; try rfl)
      simp only [Act.put, List.setIfInBounds_toArray, List.set_cons_zero, List.set_cons_succ]
      refine regK_take (v := ?_) 14 (some 46) rfl rfl (by kernel_rfl) (by kernel_rfl) (by kernel_rfl) (fun _ _ _ h => h) (by rfl) (by kernel_rfl) HS.out (fun W => ?_) ?_
      rotate_left
      · (go_simp; try rfl)
      simp only [Act.put, List.setIfInBounds_toArray, List.set_cons_zero, List.set_cons_succ]
      refine regK_load 15 (some 47) (fun W hW => load_cell Tryz.underlying68 (cell_eq hW c3.out)) rfl rfl rfl rfl (by kernel_rfl) (by kernel_rfl) (by kernel_rfl) (fun _ _ _ h => h) (by rfl) (by kernel_rfl) HS.out ?_
      simp only [Act.put, List.setIfInBounds_toArray, List.set_cons_zero, List.set_cons_succ]
      refine regK_bar 16 rfl (by kernel_rfl) (by kernel_rfl) (fun K hK => ?_)
      go_simp
      refine (quarter_any a b c d _).mono ?_
      rintro ee w3 ⟨rfl, rfl⟩
      refine hK.out _ _ trivial ?_
      clear hK K
      try simp only [Act.put, List.setIfInBounds_toArray, List.set_cons_zero, List.set_cons_succ]
      refine regS_take (v := ?_) 17 (some 31) rfl rfl (by kernel_rfl) (by kernel_rfl) (by kernel_rfl) (fun _ _ _ h => h) (by rfl) (fun W hW => ?_) ?_
      rotate_left
      · (go_simp; try rfl)
      simp only [Act.put, List.setIfInBounds_toArray, List.set_cons_zero, List.set_cons_succ]
      refine regS_take (v := ?_) 18 (some 49) rfl rfl (by kernel_rfl) (by kernel_rfl) (by kernel_rfl) (fun _ _ _ h => h) (by rfl) (fun W hW => ?_) ?_
      rotate_left
      · (go_simp; try rfl)
      simp only [Act.put, List.setIfInBounds_toArray, List.set_cons_zero, List.set_cons_succ]
      refine regS_take (v := ?_) 19 (some 50) rfl rfl (by kernel_rfl) (by kernel_rfl) (by kernel_rfl) (fun _ _ _ h => h) (by rfl) (fun W hW => ?_) ?_
      rotate_left
      · (go_simp; try rfl)
      simp only [Act.put, List.setIfInBounds_toArray, List.set_cons_zero, List.set_cons_succ]
      refine regS_take (v := ?_) 20 (some 51) rfl rfl (by kernel_rfl) (by kernel_rfl) (by kernel_rfl) (fun _ _ _ h => h) (by rfl) (fun W hW => ?_) ?_
      rotate_left
      · (go_simp; try rfl)
      simp only [Act.put, List.setIfInBounds_toArray, List.set_cons_zero, List.set_cons_succ]
      refine regS_take (v := ?_) 21 (some 52) rfl rfl (by kernel_rfl) (by kernel_rfl) (by kernel_rfl) (fun _ _ _ h => h) (by rfl) (fun W hW => ?_) ?_
      rotate_left
      · (go_simp; try rfl)
      simp only [Act.put, List.setIfInBounds_toArray, List.set_cons_zero, List.set_cons_succ]
      refine regS_take (v := ?_) 22 (some 53) rfl rfl (by kernel_rfl) (by kernel_rfl) (by kernel_rfl) (fun _ _ _ h => h) (by rfl) (fun W hW => ?_) ?_
      rotate_left
      · (go_simp; try rfl)
      simp only [Act.put, List.setIfInBounds_toArray, List.set_cons_zero, List.set_cons_succ]
      refine regS_eff 23 rfl (by kernel_rfl) (fun K hK => ?_)
      refine step_st1 rfl 68 (.tmp 53) (.tmp 49) rfl (store_cell (k := .u32) Tryz.underlying68 s32 (w := wr.drew) c0.out (frozen_of_heap D0.out _)) ?_
      generalize hV : World.setCell _ _ _ = W1
      obtain ⟨m1, m2, m3⟩ := st_row (B := w.heap.size) hV (Nat.le_refl _) D0.out
      have M1 := Lib.hid m1; have N1 := Lib.hid (DB.out.trans m2); have E1 := Lib.hid ((m3 (w.heap.size + 1) (Nat.succ_ne_self _)).trans D1.out)
      clear m1 m2 m3 hV
      refine hK.out _ _ trivial ?_
      clear hK K
      try simp only [Act.put, List.setIfInBounds_toArray, List.set_cons_zero, List.set_cons_succ]
      refine regS_take (v := ?_) 24 (some 54) rfl rfl (by kernel_rfl) (by kernel_rfl) (by kernel_rfl) (fun _ _ _ h => h) (by rfl) (fun W hW => ?_) ?_
      rotate_left
      · (go_simp; try rfl)
      simp only [Act.put, List.setIfInBounds_toArray, List.set_cons_zero, List.set_cons_succ]
      refine regS_eff 25 rfl (by kernel_rfl) (fun K hK => ?_)
      refine step_st1 rfl 68 (.tmp 54) (.tmp 50) rfl (store_cell (k := .u32) Tryz.underlying68 s32 (w := W1) (wcell M1.out y (by rw [List.length_set, H16.out]; have := HO.out; omega)) (frozen_of_heap M1.out _)) ?_
      generalize hV : World.setCell _ _ _ = W2
      obtain ⟨m1, m2, m3⟩ := st_row (B := w.heap.size) hV (Nat.le_refl _) M1.out
      have M2 := Lib.hid m1; have N2 := Lib.hid (N1.out.trans m2); have E2 := Lib.hid ((m3 (w.heap.size + 1) (Nat.succ_ne_self _)).trans E1.out)
      clear m1 m2 m3 hV
      refine hK.out _ _ trivial ?_
      clear hK K
      try simp only [Act.put, List.setIfInBounds_toArray, List.set_cons_zero, List.set_cons_succ]
      refine regS_take (v := ?_) 26 (some 55) rfl rfl (by kernel_rfl) (by kernel_rfl) (by kernel_rfl) (fun _ _ _ h => h) (by rfl) (fun W hW => ?_) ?_
      rotate_left
      · (go_simp; try rfl)
      simp only [Act.put, List.setIfInBounds_toArray, List.set_cons_zero, List.set_cons_succ]
      refine regS_eff 27 rfl (by kernel_rfl) (fun K hK => ?_)
      refine step_st1 rfl 68 (.tmp 55) (.tmp 51) rfl (store_cell (k := .u32) Tryz.underlying68 s32 (w := W2) (wcell M2.out z (by rw [List.length_set, List.length_set, H16.out]; have := HO.out; omega)) (frozen_of_heap M2.out _)) ?_
      generalize hV : World.setCell _ _ _ = W3
      obtain ⟨m1, m2, m3⟩ := st_row (B := w.heap.size) hV (Nat.le_refl _) M2.out
      have M3 := Lib.hid m1; have N3 := Lib.hid (N2.out.trans m2); have E3 := Lib.hid ((m3 (w.heap.size + 1) (Nat.succ_ne_self _)).trans E2.out)
      clear m1 m2 m3 hV
      refine hK.out _ _ trivial ?_
      clear hK K
      try simp only [Act.put, List.setIfInBounds_toArray, List.set_cons_zero, List.set_cons_succ]
      refine regS_take (v := ?_) 28 (some 56) rfl rfl (by kernel_rfl) (by kernel_rfl) (by kernel_rfl) (fun _ _ _ h => h) (by rfl) (fun W hW => ?_) ?_
      rotate_left
      · (go_simp; try rfl)
      simp only [Act.put, List.setIfInBounds_toArray, List.set_cons_zero, List.set_cons_succ]
      refine regS_eff 29 rfl (by kernel_rfl) (fun K hK => ?_)
      refine step_st1 rfl 68 (.tmp 56) (.tmp 52) rfl (store_cell (k := .u32) Tryz.underlying68 s32 (w := W3) (wcell M3.out u (by rw [List.length_set, List.length_set, List.length_set, H16.out]; have := HO.out; omega)) (frozen_of_heap M3.out _)) ?_
      generalize hV : World.setCell _ _ _ = W4
      obtain ⟨m1, m2, m3⟩ := st_row (B := w.heap.size) hV (Nat.le_refl _) M3.out
      have M4 := Lib.hid m1; have N4 := Lib.hid (N3.out.trans m2); have E4 := Lib.hid ((m3 (w.heap.size + 1) (Nat.succ_ne_self _)).trans E3.out)
      clear m1 m2 m3 hV
      refine hK.out _ _ trivial ?_
      clear hK K
      try simp only [Act.put, List.setIfInBounds_toArray, List.set_cons_zero, List.set_cons_succ]
      refine regS_done (by kernel_rfl) ?_
      go_wp2
      go_roundw
      case rel => exact ⟨i + 1, by omega, by go_num, N4, by have := M4.out; rw [HST.out] at this; exact this, E4⟩
      case measure => simp [intOf]; omega
    · have H0' : Hid (wr.heap[w.heap.size]? = some (.cells ((roundN t s 4).map wv).toArray 190 (0, 0))) := by have := H0.out; rw [show i = 4 by omega] at this; exact this
      have hl4 : Hid (((roundN t s 4).map wv).length = 16) := by show _ = _; rw [List.length_map, roundN_len]; exact HSL.out
      clear H0
      obtain ⟨L, HLL⟩ : ∃ L, Hid ((roundN t s 4).map wv = L) := ⟨_, rfl⟩
      have hone : Hid (∀ v ∈ L, v.oneCell' = true) := by show ∀ v ∈ L, _; rw [← HLL.out]; exact wv_one _
      rw [HLL.out] at H0' hl4
      go_wp2_with (first
        | (refine wpList_ld rfl 190 (.tmp 2) rfl (load_arr arrSt rfl (by rw [hl4.out]; exact iSt) H0'.out) ?_)
        | (refine wpList_st rfl 190 (.tmp 4) (.tmp 58) rfl (store_arr (cs := L) (by rw [hl4.out]; exact iSt) hone.out H1.out (by rw [hl4.out]; simp)) ?_))
      have hres := setRow_heap wr (w.heap.size + 1) _ L.toArray 190 _ H1.out
      exact bodyPost_ret (results_cell_row (P := Tryz.prog) rfl _ _ (w.heap.size + 1) 190 L.toArray (0, 0) _ rfl hres arrSt rfl (by rw [List.size_toArray, hl4.out]; exact iSt)) rfl ⟨by rw [HLL.out], HB.out.trans (grown_below (grown_setRow _ _ _) (Nat.le_succ _) HB.out.size)⟩
end Go.Proofs.YtnhhgiebnhlfcaaGreatDoor

/- The contract of chacha.start. -/
namespace Go.Proofs.YtnhhgiebnhlfcaaGreatDoor
open Go.RowKit
set_option maxRecDepth 100000
set_option linter.unusedVariables false
set_option linter.unusedSimpArgs false
/-- the i-th number of a row, the lowest byte first -/
def wordLE (b : List UInt8) (i : Nat) : W32 := BitVec.ofNat 32 (littleN ((b.drop (4 * i)).take 4))
def chaC : List W32 := [1634760805#32, 857760878#32, 2036477234#32, 1797285236#32]
def rowK (key : List UInt8) (j : Nat) : List W32 := chaC ++ (List.range j).map (wordLE key) ++ List.replicate (12 - j) 0
def rowN (key nonce : List UInt8) (n : W32) (j : Nat) : List W32 := chaC ++ (List.range 8).map (wordLE key) ++ [n] ++ (List.range j).map (wordLE nonce) ++ List.replicate (3 - j) 0
def startC (key nonce : List UInt8) (n : W32) : List W32 := chaC ++ (List.range 8).map (wordLE key) ++ [n] ++ (List.range 3).map (wordLE nonce)
theorem rowK_len (key : List UInt8) (j : Nat) (hj : j ≤ 12) : (rowK key j).length = 16 := by simp [rowK, chaC]; omega
theorem rowN_len (key nonce : List UInt8) (n : W32) (j : Nat) (hj : j ≤ 3) : (rowN key nonce n j).length = 16 := by simp [rowN, chaC]; omega
theorem startC_len (key nonce : List UInt8) (n : W32) : (startC key nonce n).length = 16 := by simp [startC, chaC]
theorem set_at {α : Type} (A : List α) (x y : α) (C : List α) (k : Nat) (hk : k = A.length) : (A ++ x :: C).set k y = A ++ y :: C := by
  subst hk; rw [List.set_append_right _ _ (Nat.le_refl _)]; simp
theorem rowK_step (key : List UInt8) (j : Nat) (hj : j < 12) : (rowK key j).set (4 + j) (wordLE key j) = rowK key (j + 1) := by
  unfold rowK
  rw [show 12 - j = (12 - (j + 1)) + 1 by omega, List.replicate_succ, set_at _ _ _ _ _ (by simp [chaC]; omega), List.range_succ, List.map_append]
  simp
theorem rowK_n (key nonce : List UInt8) (n : W32) : (rowK key 8).set 12 n = rowN key nonce n 0 := by
  unfold rowK
  rw [show 12 - 8 = 3 + 1 from rfl, List.replicate_succ, set_at _ _ _ _ _ (by simp [chaC])]
  simp [rowN]
theorem rowN_step (key nonce : List UInt8) (n : W32) (j : Nat) (hj : j < 3) : (rowN key nonce n j).set (13 + j) (wordLE nonce j) = rowN key nonce n (j + 1) := by
  unfold rowN
  rw [show 3 - j = (3 - (j + 1)) + 1 by omega, List.replicate_succ, set_at _ _ _ _ _ (by simp [chaC]; omega), List.range_succ (n := j), List.map_append]
  simp
theorem rowN_end (key nonce : List UInt8) (n : W32) : rowN key nonce n 3 = startC key nonce n := by simp [rowN, startC]
theorem word_le (b : List UInt8) (i : Nat) : littleN (((b.drop (4 * i)).take 4).take 8) = (wordLE b i).toNat := by
  have hl : ((b.drop (4 * i)).take 4).length ≤ 4 := by simp; omega
  have h := littleN_lt ((b.drop (4 * i)).take 4)
  have h4 : 256 ^ ((b.drop (4 * i)).take 4).length ≤ 256 ^ 4 := Nat.pow_le_pow_right (by decide) hl
  unfold wordLE
  rw [List.take_of_length_le (by omega), BitVec.toNat_ofNat, Nat.mod_eq_of_lt]
  exact Nat.lt_of_lt_of_le h (Nat.le_trans h4 (by decide))
theorem arr32K : Tryz.prog.underlying 107 = some (.array 32 5) := Tryz.underlying107
theorem i32K : (Tryz.prog.info? 107).map (·.size) = some 32 := by kernel_rfl
theorem arr12B : Tryz.prog.underlying 123 = some (.array 12 5) := Tryz.underlying123
theorem i12B : (Tryz.prog.info? 123).map (·.size) = some 12 := by kernel_rfl
theorem rowK_zero (key : List UInt8) : [Value.int .u32 1634760805, .int .u32 857760878, .int .u32 2036477234, .int .u32 1797285236, .int .u32 0, .int .u32 0, .int .u32 0, .int .u32 0, .int .u32 0, .int .u32 0, .int .u32 0, .int .u32 0, .int .u32 0, .int .u32 0, .int .u32 0, .int .u32 0] = (rowK key 0).map wv := by
  simp [rowK, chaC, wv]
theorem heap4c (w : World) (o1 o2 o3 o4 : Obj) : ((((w.alloc o1).alloc o2).alloc o3).alloc o4).heap[w.heap.size]? = some o1 ∧ ((((w.alloc o1).alloc o2).alloc o3).alloc o4).heap[w.heap.size + 1]? = some o2 ∧
    ((((w.alloc o1).alloc o2).alloc o3).alloc o4).heap[w.heap.size + 1 + 1]? = some o3 ∧ ((((w.alloc o1).alloc o2).alloc o3).alloc o4).heap[w.heap.size + 1 + 1 + 1]? = some o4 ∧ Below w.heap.size w ((((w.alloc o1).alloc o2).alloc o3).alloc o4) := by
  obtain ⟨h1, h2, h3, h4⟩ := heap3 w o1 o2 o3
  have e3 : (((w.alloc o1).alloc o2).alloc o3).heap.size = w.heap.size + 1 + 1 + 1 := by simp
  refine ⟨?_, ?_, ?_, ?_, h4.alloc (by omega) _⟩
  · rw [Below.heap_alloc _ _ _ (by omega)]; exact h1
  · rw [Below.heap_alloc _ _ _ (by omega)]; exact h2
  · rw [Below.heap_alloc _ _ _ (by omega)]; exact h3
  · have := heap_alloc_new' (((w.alloc o1).alloc o2).alloc o3) o4; rwa [e3] at this
/-- where a state is being laid: the key, the nonce, the answer's noughts, the row so far -/
def StH (w W : World) (key nonce : List UInt8) (l : List W32) : Prop :=
  Below w.heap.size w W ∧ W.heap[w.heap.size]? = some (.cells (key.map bv).toArray 107 (0, 0)) ∧ W.heap[w.heap.size + 1]? = some (.cells (nonce.map bv).toArray 123 (0, 0)) ∧
    W.heap[w.heap.size + 1 + 1]? = some (.cells (List.replicate 16 (Value.int .u32 0)).toArray 190 (0, 0)) ∧ W.heap[w.heap.size + 1 + 1 + 1]? = some (.cells (l.map wv).toArray 190 (0, 0))
theorem StH.step {w W W' : World} {key nonce : List UInt8} {l : List W32} (h : StH w W key nonce l) (hb : Below W.heap.size W W') : StH w W' key nonce l :=
  ⟨h.1.step hb, (hb.block _ (lt_of_heap h.2.1)).trans h.2.1, (hb.block _ (lt_of_heap h.2.2.1)).trans h.2.2.1, (hb.block _ (lt_of_heap h.2.2.2.1)).trans h.2.2.2.1, (hb.block _ (lt_of_heap h.2.2.2.2)).trans h.2.2.2.2⟩
theorem StH.put {w W : World} {key nonce : List UInt8} {l : List W32} (h : StH w W key nonce l) (p : Nat) (x : W32) : StH w (W.setCell ⟨w.heap.size + 1 + 1 + 1, p, none⟩ (.int .u32 (x.toNat : Int))) key nonce (l.set p x) := by
  obtain ⟨m1, m2, m3⟩ := st_row (B := w.heap.size) rfl (by omega) h.2.2.2.2
  exact ⟨h.1.trans m2, (m3 _ (by omega)).trans h.2.1, (m3 _ (by omega)).trans h.2.2.1, (m3 _ (by omega)).trans h.2.2.2.1, m1⟩
set_option maxHeartbeats 2000000 in
theorem cstart_any (key nonce : List UInt8) (n : W32) (w : World) (hk : key.length = 32) (hn : nonce.length = 12) :
    Calls Tryz.prog 178 #[.agg (key.map bv).toArray, .agg (nonce.map bv).toArray, .int .u32 (n.toNat : Int)] w fun e w' => e = .returned (.agg ((startC key nonce n).map wv).toArray) ∧ Below w.heap.size w w' := by
  have HK := Lib.hid hk; have HN := Lib.hid hn
  clear hk hn
  go_enter Tryz.func178, Tryz.ntmps178
  go_wp2_with fail
  generalize hV : (((w.alloc _).alloc _).alloc _).alloc _ = W0
  have FH : Hid (StH w W0 key nonce (rowK key 0)) := by
    have h := heap4c w (.cells (key.map bv).toArray 107) (.cells (nonce.map bv).toArray 123) (.cells (List.replicate 16 (Value.int .u32 0)).toArray 190) (.cells ((rowK key 0).map wv).toArray 190)
    rw [← rowK_zero] at h
    have e : W0 = _ := hV.symm
    rw [e]
    refine ⟨h.2.2.2.2, h.1, h.2.1, h.2.2.1, ?_⟩
    rw [← rowK_zero]
    exact h.2.2.2.1
  clear hV
  go_loopw [11] (fun vi wr => ∃ (i : Nat), i ≤ 8 ∧ vi = .int .i64 (i : Int) ∧ Hid (StH w wr key nonce (rowK key i))) (fun i _ => 8 - (intOf i).toNat)
  case atStart => exact ⟨0, by omega, rfl, FH⟩
  case round =>
    obtain ⟨i, hi, rfl, H⟩ := hrel
    by_cases hlt : i < 8
    · have e1 : (i : Int) < 8 := by omega
      have sl := arr_mid arr32K s8 ⟨w.heap.size, 0, none⟩ .i64 .i64 (4 * (i : Int)) (4 * (i : Int) + 4) (by omega) (by omega) (by omega)
      have e2 : (4 * (i : Int)).toNat = 4 * i := by omega
      have e3 : (4 * (i : Int) + 4).toNat = 4 * i + 4 := by omega
      rw [e2, e3, show 4 * i + 4 - 4 * i = 4 by omega, show cutA ⟨w.heap.size, 0, none⟩ 32 (4 * i) = ⟨w.heap.size, 4 * i, none⟩ from by unfold cutA; rw [if_neg (by omega), Addr.add_mid, Nat.zero_add]] at sl
      clear e2 e3
      have HWB := Lib.hid (word_le key i)
      have HST := Lib.hid (rowK_step key i (by omega))
      obtain ⟨p, hp⟩ : ∃ p, p = 4 + i := ⟨_, rfl⟩
      rw [← hp] at HST
      have hpi : 4 + (i : Int) = (p : Int) := by omega
      have hp16 : p < 16 := by omega
      have HPI := Lib.hid hpi; have HP16 := Lib.hid hp16
      have q2 : 4 + (i : Int) < 16 := by omega
      clear hp hpi hp16
      go_wp2_with fail
      refine (little_n (some ⟨w.heap.size, 4 * i, none⟩) 4 (32 - 4 * i) ((key.drop (4 * i)).take 4) wr ?_ ?_ ?_ ?_).mono ?_
      · rw [List.length_take, List.length_drop, HK.out]; omega
      · omega
      · simp [maxLen]; omega
      · exact row_sub H.out.2.1 (4 * i) 4 (lt_of_heap H.out.2.1)
      rintro e w1 ⟨rfl, hb1⟩
      rw [HWB.out]
      generalize wordLE key i = x at HST
      have hx := x.isLt
      have H' := Lib.hid (H.out.step hb1)
      have hmod : (x.toNat : Int) % 4294967296 = (x.toNat : Int) := by omega
      have c1 := wcell H'.out.2.2.2.2 p (by rw [rowK_len _ _ (by omega)]; exact HP16.out)
      have fz := frozen_of_heap H'.out.2.2.2.2 p
      have hq : (4 + (i : Int)).toNat = p := by have := HPI.out; omega
      clear hb1 H HWB
      go_wp2
      go_roundw
      case rel =>
        refine ⟨i + 1, by omega, by go_num, ?_⟩
        have := H'.out.put p x
        rw [HST.out] at this
        exact this
      case measure => simp [intOf]; omega
    · have hi8 : i = 8 := by omega
      have H := H.out
      rw [hi8] at H
      have H := Lib.hid H
      clear hi8
      have c1 := wcell H.out.2.2.2.2 12 (by rw [rowK_len _ _ (by omega)]; omega)
      have fz := frozen_of_heap H.out.2.2.2.2 12
      obtain ⟨wo, hwo⟩ : ∃ x, x = wr := ⟨_, rfl⟩
      subst hwo
      have FN : Hid (StH w (wo.setCell ⟨w.heap.size + 1 + 1 + 1, 12, none⟩ (.int .u32 (n.toNat : Int))) key nonce (rowN key nonce n 0)) := by
        have := H.out.put 12 n
        rw [rowK_n key nonce n] at this
        exact this
      clear FH
      go_wp2_with fail
      generalize World.setCell _ _ _ = W1 at FN ⊢
      clear c1 fz
      go_loopw [28] (fun vi wr => ∃ (j : Nat), j ≤ 3 ∧ vi = .int .i64 (j : Int) ∧ Hid (StH w wr key nonce (rowN key nonce n j))) (fun j _ => 3 - (intOf j).toNat)
      case atStart => exact ⟨0, by omega, rfl, FN⟩
      case round =>
        clear FN
        obtain ⟨j, hi, rfl, H⟩ := hrel
        by_cases hlt : j < 3
        · have e1 : (j : Int) < 3 := by omega
          have sl := arr_mid arr12B s8 ⟨w.heap.size + 1, 0, none⟩ .i64 .i64 (4 * (j : Int)) (4 * (j : Int) + 4) (by omega) (by omega) (by omega)
          have e2 : (4 * (j : Int)).toNat = 4 * j := by omega
          have e3 : (4 * (j : Int) + 4).toNat = 4 * j + 4 := by omega
          rw [e2, e3, show 4 * j + 4 - 4 * j = 4 by omega, show cutA ⟨w.heap.size + 1, 0, none⟩ 12 (4 * j) = ⟨w.heap.size + 1, 4 * j, none⟩ from by unfold cutA; rw [if_neg (by omega), Addr.add_mid, Nat.zero_add]] at sl
          clear e2 e3
          have HWB := Lib.hid (word_le nonce j)
          have HST := Lib.hid (rowN_step key nonce n j (by omega))
          obtain ⟨p, hp⟩ : ∃ p, p = 13 + j := ⟨_, rfl⟩
          rw [← hp] at HST
          have hpi : 13 + (j : Int) = (p : Int) := by omega
          have hp16 : p < 16 := by omega
          have HPI := Lib.hid hpi; have HP16 := Lib.hid hp16
          have q2 : 13 + (j : Int) < 16 := by omega
          clear hp hpi hp16
          go_wp2_with fail
          refine (little_n (some ⟨w.heap.size + 1, 4 * j, none⟩) 4 (12 - 4 * j) ((nonce.drop (4 * j)).take 4) wr ?_ ?_ ?_ ?_).mono ?_
          · rw [List.length_take, List.length_drop, HN.out]; omega
          · omega
          · simp [maxLen]; omega
          · exact row_sub H.out.2.2.1 (4 * j) 4 (lt_of_heap H.out.2.2.1)
          rintro e w1 ⟨rfl, hb1⟩
          rw [HWB.out]
          generalize wordLE nonce j = x at HST
          have hx := x.isLt
          have H' := Lib.hid (H.out.step hb1)
          have hmod : (x.toNat : Int) % 4294967296 = (x.toNat : Int) := by omega
          have c1 := wcell H'.out.2.2.2.2 p (by rw [rowN_len _ _ _ _ (by omega)]; exact HP16.out)
          have fz := frozen_of_heap H'.out.2.2.2.2 p
          have hq : (13 + (j : Int)).toNat = p := by have := HPI.out; omega
          clear hb1 H HWB
          go_wp2
          go_roundw
          case rel =>
            refine ⟨j + 1, by omega, by go_num, ?_⟩
            have := H'.out.put p x
            rw [HST.out] at this
            exact this
          case measure => simp [intOf]; omega
        · have H' : Hid (StH w wr key nonce (startC key nonce n)) := by have := H.out; rw [show j = 3 by omega, rowN_end] at this; exact this
          have hl4 : Hid (((startC key nonce n).map wv).length = 16) := by show _ = _; rw [List.length_map, startC_len]
          clear H
          obtain ⟨H1, H2, H3, H4, H5⟩ := H'.out
          have HB := Lib.hid H1; have HZ := Lib.hid H4; have HR := Lib.hid H5
          clear H1 H2 H3 H4 H5 H'
          obtain ⟨L, HLL⟩ : ∃ L, Hid ((startC key nonce n).map wv = L) := ⟨_, rfl⟩
          have hone : Hid (∀ v ∈ L, v.oneCell' = true) := by show ∀ v ∈ L, _; rw [← HLL.out]; exact wv_one _
          rw [HLL.out] at HR hl4
          go_wp2_with (first
            | (refine wpList_ld rfl 190 (.tmp 7) rfl (load_arr arrSt rfl (by rw [hl4.out]; exact iSt) HR.out) ?_)
            | (refine wpList_st rfl 190 (.tmp 6) (.tmp 43) rfl (store_arr (cs := L) (by rw [hl4.out]; exact iSt) hone.out HZ.out (by rw [hl4.out]; simp)) ?_))
          have hres := setRow_heap wr (w.heap.size + 1 + 1) _ L.toArray 190 _ HZ.out
          exact bodyPost_ret (results_cell_row (P := Tryz.prog) rfl _ _ (w.heap.size + 1 + 1) 190 L.toArray (0, 0) _ rfl hres arrSt rfl (by rw [List.size_toArray, hl4.out]; exact iSt)) rfl ⟨by rw [HLL.out], HB.out.trans (grown_below (grown_setRow _ _ _) (by omega) HB.out.size)⟩
end Go.Proofs.YtnhhgiebnhlfcaaGreatDoor

/- The contract of (state).flat. -/
namespace Go.Proofs.YtnhhgiebnhlfcaaGreatDoor
open Go.RowKit
set_option maxRecDepth 100000
set_option linter.unusedVariables false
set_option linter.unusedSimpArgs false
/-- a state's words as bytes -/
def outLE (h : List W32) : List UInt8 := h.flatMap fun x => putLittle x.toNat 4
theorem outLE_len (h : List W32) : (outLE h).length = 4 * h.length := by
  induction h with
  | nil => rfl
  | cons x h ih => simp only [outLE, List.flatMap_cons, List.length_append, List.length_cons] at ih ⊢; rw [ih]; simp [putLittle]; omega
def cflatN (h : List W32) (i : Nat) : List UInt8 := outLE (h.take i) ++ List.replicate (64 - 4 * i) 0
theorem cflatN_len (h : List W32) (i : Nat) (hh : h.length = 16) (hi : i ≤ 16) : (cflatN h i).length = 64 := by
  simp [cflatN, outLE_len, hh]; omega
theorem cflatN_step (h : List W32) (i : Nat) (hh : h.length = 16) (hi : i < 16) : splice ((cflatN h i).map bv) (4 * i) ((putLittle (h.getD i 0).toNat 4).map bv) = (cflatN h (i + 1)).map bv := by
  have e0 : List.replicate (64 - 4 * i) (0 : UInt8) = List.replicate 4 0 ++ List.replicate (64 - 4 * (i + 1)) 0 := by
    rw [List.replicate_append_replicate]; congr 1; omega
  have e1 : (cflatN h i).map bv = (outLE (h.take i)).map bv ++ (List.replicate 4 (0 : UInt8)).map bv ++ (List.replicate (64 - 4 * (i + 1)) (0 : UInt8)).map bv := by
    rw [cflatN, e0, List.map_append, List.map_append, List.append_assoc]
  have hl : ((outLE (h.take i)).map bv).length = 4 * i := by rw [List.length_map, outLE_len, List.length_take, hh]; omega
  have e2 : outLE (h.take (i + 1)) = outLE (h.take i) ++ putLittle (h.getD i 0).toNat 4 := by
    have hi' : i < h.length := by omega
    rw [List.take_succ_eq_append_getElem hi', outLE, List.flatMap_append]
    simp [outLE, List.getD, hi']
  rw [e1, ← hl, splice_split _ _ _ _ (by simp [putLittle_len]), cflatN, e2, List.map_append, List.map_append]
theorem cflatN_end (h : List W32) (hh : h.length = 16) : cflatN h 16 = outLE h := by
  simp [cflatN, List.take_of_length_le, hh]
theorem i64Bc : (Tryz.prog.info? 157).map (·.size) = some 64 := by kernel_rfl
set_option maxHeartbeats 2000000 in
theorem cflat_any (h : List W32) (w : World) (hh : h.length = 16) :
    Calls Tryz.prog 180 #[.agg (h.map wv).toArray] w fun e w' => e = .returned (.agg ((outLE h).map bv).toArray) ∧ Below w.heap.size w w' := by
  have HH := Lib.hid hh
  clear hh
  go_enter Tryz.func180, Tryz.ntmps180
  go_wp2_with fail
  generalize hV : ((w.alloc _).alloc _).alloc _ = W0
  have F0 : Hid (W0.heap[w.heap.size]? = some (.cells (h.map wv).toArray 190 (0, 0))) := by rw [← hV]; exact (heap3 w _ _ _).1
  have F1 : Hid (W0.heap[w.heap.size + 1]? = some (.cells (List.replicate 64 (Value.int .u8 0)).toArray 157 (0, 0))) := by rw [← hV]; exact (heap3 w _ _ _).2.1
  have F2 : Hid (W0.heap[w.heap.size + 1 + 1]? = some (.cells ((cflatN h 0).map bv).toArray 157 (0, 0))) := by rw [← hV]; exact (heap3 w _ _ _).2.2.1
  have FB : Hid (Below w.heap.size w W0) := by rw [← hV]; exact (heap3 w _ _ _).2.2.2
  clear hV
  generalize hg2 : w.heap.size + 1 + 1 = g2 at F2 ⊢
  generalize hg1 : w.heap.size + 1 = g1 at F1 ⊢
  have HG2 : Hid (w.heap.size + 1 + 1 = g2) := hg2
  have HG1 : Hid (w.heap.size + 1 = g1) := hg1
  clear hg1 hg2
  go_loopw [5] (fun vi wr => ∃ (i : Nat), i ≤ 16 ∧ vi = .int .i64 (i : Int) ∧ Hid (Below w.heap.size w wr) ∧ Hid (wr.heap[w.heap.size]? = some (.cells (h.map wv).toArray 190 (0, 0))) ∧ Hid (wr.heap[g1]? = some (.cells (List.replicate 64 (Value.int .u8 0)).toArray 157 (0, 0))) ∧
     Hid (wr.heap[g2]? = some (.cells ((cflatN h i).map bv).toArray 157 (0, 0)))) (fun i _ => 16 - (intOf i).toNat)
  case atStart => exact ⟨0, by omega, rfl, FB, F0, F1, F2⟩
  case round =>
    clear F0 F1 F2 FB
    obtain ⟨i, hi, rfl, HB, H0, H1, H2⟩ := hrel
    by_cases hlt : i < 16
    · have e1 : (i : Int) < 16 := by omega
      obtain ⟨q, hq⟩ : ∃ q, q = 4 * i := ⟨_, rfl⟩
      have sl := arr_from arr64B s8 ⟨g2, 0, none⟩ .i64 (q : Int) (by omega) (by omega)
      rw [Int.toNat_natCast, show cutA ⟨g2, 0, none⟩ 64 q = ⟨g2, q, none⟩ from by unfold cutA; rw [if_neg (by omega), Addr.add_mid, Nat.zero_add]] at sl
      have u1 : IntKind.i64.wrap (4 * (i : Int)) = (q : Int) := by rw [IntKind.wrap_i64]; omega
      have c0 := wcell H0.out i (by rw [HH.out]; exact hlt)
      have HST := Lib.hid (cflatN_step h i HH.out hlt)
      rw [← hq] at HST
      generalize h.getD i 0 = x at c0 HST
      have hx := x.isLt
      have u2 : IntKind.u64.wrap (x.toNat : Int) = (x.toNat : Int) := by rw [IntKind.wrap_u64]; omega
      have HQ : Hid (q + 4 ≤ 64) := by show _ ≤ _; omega
      have HL32 := Lib.hid (cflatN_len h i HH.out hi)
      clear hq
      have HX : Hid (Below g2 wr wr.drew) := (Below.refl _ _).drew
      have q2 : w.heap.size < g2 := by have := HG2.out; omega
      have hg2w : Hid (g2 ≤ wr.heap.size) := Nat.le_of_lt (lt_of_heap H2.out)
      go_wp2_with fail
      refine regB_start (g2) (by kernel_rfl) ?_
      try simp only [Act.put, List.setIfInBounds_toArray, List.set_cons_zero, List.set_cons_succ]
      refine regB_take (v := ?_) 0 (some 8) rfl rfl (by kernel_rfl) (by kernel_rfl) (by kernel_rfl) (fun _ _ _ h => h) (by rfl) (fun W hW => ?_) ?_
      rotate_left
      · (go_simp; try rfl)
      simp only [Act.put, List.setIfInBounds_toArray, List.set_cons_zero, List.set_cons_succ]
      refine regB_take (v := ?_) 1 (some 9) rfl rfl (by kernel_rfl) (by kernel_rfl) (by kernel_rfl) (fun _ _ _ h => h) (by rfl) (fun W hW => ?_) ?_
      rotate_left
      · (go_simp; try rfl)
      simp only [Act.put, List.setIfInBounds_toArray, List.set_cons_zero, List.set_cons_succ]
      refine regB_take (v := ?_) 2 (some 10) rfl rfl (by kernel_rfl) (by kernel_rfl) (by kernel_rfl) (fun _ _ _ h => h) (by rfl) (fun W hW => ?_) ?_
      rotate_left
      · (go_simp; try rfl)
      simp only [Act.put, List.setIfInBounds_toArray, List.set_cons_zero, List.set_cons_succ]
      refine regB_take (v := ?_) 3 (some 11) rfl rfl (by kernel_rfl) (by kernel_rfl) (by kernel_rfl) (fun _ _ _ h => h) (by rfl) (fun W hW => ?_) ?_
      rotate_left
      · (go_simp; try rfl)
      simp only [Act.put, List.setIfInBounds_toArray, List.set_cons_zero, List.set_cons_succ]
      refine regB_take (v := ?_) 4 (some 12) rfl rfl (by kernel_rfl) (by kernel_rfl) (by kernel_rfl) (fun _ _ _ h => h) (by rfl) (fun W hW => ?_) ?_
      rotate_left
      · (go_simp; try rfl)
      simp only [Act.put, List.setIfInBounds_toArray, List.set_cons_zero, List.set_cons_succ]
      refine regB_load 5 (some 13) (fun W hW => load_cell Tryz.underlying68 ((hW.cell q2).trans c0)) rfl rfl rfl rfl (by kernel_rfl) (by kernel_rfl) (by kernel_rfl) (fun _ _ _ h => h) (by rfl) ?_
      simp only [Act.put, List.setIfInBounds_toArray, List.set_cons_zero, List.set_cons_succ]
      refine regB_take (v := ?_) 6 (some 14) rfl rfl (by kernel_rfl) (by kernel_rfl) (by kernel_rfl) (fun _ _ _ h => h) (by rfl) (fun W hW => ?_) ?_
      rotate_left
      · (go_simp; try rfl)
      simp only [Act.put, List.setIfInBounds_toArray, List.set_cons_zero, List.set_cons_succ]
      refine regB_eff 7 rfl (by kernel_rfl) (fun K hK => ?_)
      go_simp
      refine (putLittle_any x.toNat 4 _ (by omega) (by omega)).mono ?_
      rintro e w3 ⟨g3, hg3, rfl, hk3, hE0⟩
      have F3 : Hid (w3.heap[g2]? = _) := (hE0.block _ (lt_of_heap (w := wr.drew) H2.out)).trans H2.out
      have F1' : Hid (w3.heap[g1]? = _) := (hE0.block _ (lt_of_heap (w := wr.drew) H1.out)).trans H1.out
      have F0' : Hid (w3.heap[w.heap.size]? = _) := (hE0.block _ (lt_of_heap (w := wr.drew) H0.out)).trans H0.out
      have FB' : Hid (Below w.heap.size w w3) := Below.step (w1 := wr.drew) HB.out.drew hE0
      have R3 := Lib.hid (row_of_heap hk3 (Nat.lt_succ_self g3))
      have hE : Below g2 wr.drew w3 := RowKit.Below.mono hE0 hg2w.out
      clear hE0 hk3 hg3
      refine hK.out _ _ hE ?_
      have HX := Lib.hid (Below.trans HX.out hE)
      clear hE hK K
      try simp only [Act.put, List.setIfInBounds_toArray, List.set_cons_zero, List.set_cons_succ]
      refine regB_eff 8 rfl (by kernel_rfl) (fun K hK => ?_)
      obtain ⟨w5, hrun, hblk, _, hgr⟩ := copy_run uT s8 (sT := 22) 3 w3 g2 q ((cflatN h i).map bv) 157 F3.out (some ⟨g2, q, none⟩) (some ⟨g3, 0, none⟩) (64 - q) (64 - q) 4 4 (g3 + 1) ((putLittle x.toNat 4).map bv) (by have := HQ.out; simp [putLittle_len]; omega) (fun _ => rfl) R3.out (by have := HQ.out; have := HL32.out; simp [putLittle_len]; omega) (bv_one _)
      rw [HST.out] at hblk
      have E2 := Lib.hid hblk
      have EG := Lib.hid hgr
      refine step_cpy rfl (.tmp 10) (.tmp 15) 22 22 rfl hrun ?_
      have hE : Below g2 w3 w5 := grown_below hgr (Nat.le_refl _) (Nat.le_of_lt (lt_of_heap F3.out))
      clear hrun hblk hgr
      refine hK.out _ _ hE ?_
      have HX := Lib.hid (Below.trans HX.out hE)
      clear hE hK K
      try simp only [Act.put, List.setIfInBounds_toArray, List.set_cons_zero, List.set_cons_succ]
      refine regB_done (by kernel_rfl) ?_
      clear u1 u2
      go_wp2
      go_roundw
      case rel =>
        have q3 := HG2.out
        have q1 := HG1.out
        refine ⟨i + 1, by omega, by go_num, ?_, ?_, ?_, E2⟩
        · exact FB'.out.trans (grown_below EG.out (by omega) FB'.out.size)
        · exact (EG.out.block _ (lt_of_heap F0'.out) (by simp; omega)).trans F0'.out
        · exact (EG.out.block _ (lt_of_heap F1'.out) (by simp; omega)).trans F1'.out
      case measure => simp [intOf]; omega
    · have H2' : Hid (wr.heap[g2]? = some (.cells ((outLE h).map bv).toArray 157 (0, 0))) := by have := H2.out; rw [show i = 16 by omega, cflatN_end h HH.out] at this; exact this
      have hl : Hid (((outLE h).map bv).length = 64) := by show _ = _; rw [List.length_map, outLE_len, HH.out]
      obtain ⟨L, HL⟩ : ∃ L, Hid (outLE h = L) := ⟨_, rfl⟩
      rw [HL.out] at hl H2'
      go_wp2_with (first
        | (refine wpList_ld rfl 157 (.tmp 3) rfl (load_arr arr64B rfl (by rw [hl.out]; exact i64Bc) H2'.out) ?_)
        | (refine wpList_st rfl 157 (.tmp 2) (.tmp 18) rfl (store_arr (cs := L.map bv) (by rw [hl.out]; exact i64Bc) (bv_one _) H1.out (by rw [hl.out]; simp)) ?_))
      have hres := setRow_heap wr g1 _ (L.map bv).toArray 157 _ H1.out
      rw [HL.out]
      exact bodyPost_ret (results_cell_row (P := Tryz.prog) rfl _ _ g1 157 (L.map bv).toArray (0, 0) _ rfl hres arr64B rfl (by rw [List.size_toArray, hl.out]; exact i64Bc)) rfl ⟨rfl, HB.out.trans (grown_below (grown_setRow _ _ _) (by have := HG1.out; omega) HB.out.size)⟩
end Go.Proofs.YtnhhgiebnhlfcaaGreatDoor

/- The contract of chacha.Block. -/
namespace Go.Proofs.YtnhhgiebnhlfcaaGreatDoor
open Go.RowKit
set_option maxRecDepth 100000
set_option linter.unusedVariables false
set_option linter.unusedSimpArgs false
/-- two rounds, over columns and over diagonals -/
def dblL (l : List W32) : List W32 := roundN 1 (roundN 0 l 4) 4
def dblN (l : List W32) : Nat → List W32
  | 0 => l
  | i + 1 => dblL (dblN l i)
theorem dblL_len (l : List W32) : (dblL l).length = l.length := by rw [dblL, roundN_len, roundN_len]
theorem dblN_len (l : List W32) (i : Nat) : (dblN l i).length = l.length := by
  induction i with
  | zero => rfl
  | succ i ih => rw [dblN, dblL_len, ih]
def csumL (a b : List W32) : List W32 := List.zipWith (· + ·) a b
def csumN (a b : List W32) (i : Nat) : List W32 := (csumL a b).take i ++ a.drop i
theorem csumL_len (a b : List W32) (h : a.length = b.length) : (csumL a b).length = a.length := by simp [csumL, h]
theorem csumN_len (a b : List W32) (i : Nat) (h : a.length = b.length) : (csumN a b i).length = a.length := by
  simp [csumN, csumL_len a b h]; omega
theorem csumN_get (a b : List W32) (i : Nat) (h : a.length = b.length) (hi : i < a.length) : (csumN a b i).getD i 0 = a.getD i 0 := by
  have hl : ((csumL a b).take i).length = i := by rw [List.length_take, csumL_len a b h]; omega
  rw [csumN, List.getD_eq_getElem?_getD, List.getElem?_append_right (by omega), hl, List.getElem?_drop, List.getD_eq_getElem?_getD]; simp
theorem csumN_step (a b : List W32) (i : Nat) (h : a.length = b.length) (hi : i < a.length) : (csumN a b i).set i (a.getD i 0 + b.getD i 0) = csumN a b (i + 1) := by
  have hl : ((csumL a b).take i).length = i := by rw [List.length_take, csumL_len a b h]; omega
  have ha : i < (csumL a b).length := by rw [csumL_len a b h]; exact hi
  unfold csumN
  rw [List.set_append_right _ _ (by omega), hl, Nat.sub_self, List.drop_eq_getElem_cons (by omega), List.set_cons_zero, List.take_succ_eq_append_getElem ha, List.append_assoc]
  congr 1
  simp [csumL, List.getD, hi, show i < b.length by omega]
theorem csumN_end (a b : List W32) (h : a.length = b.length) : csumN a b a.length = csumL a b := by
  rw [csumN, List.take_of_length_le (by rw [csumL_len a b h]; omega), List.drop_of_length_le (by omega), List.append_nil]
/-- the block of a key, a nonce and a counter -/
def blockC (key nonce : List UInt8) (n : W32) : List UInt8 := outLE (csumL (dblN (startC key nonce n) 10) (startC key nonce n))
theorem blockC_len (key nonce : List UInt8) (n : W32) : (blockC key nonce n).length = 64 := by
  rw [blockC, outLE_len, csumL_len _ _ (by rw [dblN_len]), dblN_len, startC_len]
def BlH (w W : World) (p q : Nat) (first l : List W32) : Prop :=
  Below w.heap.size w W ∧ W.heap[w.heap.size + 1 + 1]? = some (.cells (List.replicate 64 (Value.int .u8 0)).toArray 157 (0, 0)) ∧ W.heap[p]? = some (.cells (first.map wv).toArray 190 (0, 0)) ∧ W.heap[q]? = some (.cells (l.map wv).toArray 190 (0, 0))
theorem BlH.step {w W W' : World} {p q : Nat} {first l : List W32} (h : BlH w W p q first l) (hb : Below W.heap.size W W') : BlH w W' p q first l :=
  ⟨h.1.step hb, (hb.block _ (lt_of_heap h.2.1)).trans h.2.1, (hb.block _ (lt_of_heap h.2.2.1)).trans h.2.2.1, (hb.block _ (lt_of_heap h.2.2.2)).trans h.2.2.2⟩
theorem BlH.put {w W : World} {p q : Nat} {first l : List W32} (h : BlH w W p q first l) (hp : w.heap.size + 1 + 1 < p ∧ p < q) (i : Nat) (x : W32) : BlH w (W.setCell ⟨q, i, none⟩ (.int .u32 (x.toNat : Int))) p q first (l.set i x) := by
  obtain ⟨m1, m2, m3⟩ := st_row (B := w.heap.size) rfl (by omega) h.2.2.2
  exact ⟨h.1.trans m2, (m3 _ (by omega)).trans h.2.1, (m3 _ (by omega)).trans h.2.2.1, m1⟩
theorem BlH.row {w W W' : World} {p q : Nat} {first l : List W32} {l' : List W32} (h : BlH w W p q first l) (hp : w.heap.size + 1 + 1 < p ∧ p < q) (hV : W.setRow q (l'.map wv).toArray = W') : BlH w W' p q first l' := by
  have hg := grown_setRow W q (l'.map wv).toArray
  rw [hV] at hg
  refine ⟨h.1.trans (grown_below hg (by omega) h.1.size), (hg.block _ (lt_of_heap h.2.1) (by simp; omega)).trans h.2.1, (hg.block _ (lt_of_heap h.2.2.1) (by simp; omega)).trans h.2.2.1, ?_⟩
  exact heap_of_setRow hV h.2.2.2
set_option maxHeartbeats 4000000 in
theorem cblock_any (key nonce : List UInt8) (n : W32) (w : World) (hk : key.length = 32) (hn : nonce.length = 12) :
    Calls Tryz.prog 137 #[.agg (key.map bv).toArray, .agg (nonce.map bv).toArray, .int .u32 (n.toNat : Int)] w fun e w' => e = .returned (.agg ((blockC key nonce n).map bv).toArray) ∧ Below w.heap.size w w' := by
  have ST := Lib.hid (fun W => cstart_any key nonce n W hk hn)
  have HK := Lib.hid hk; have HN := Lib.hid hn
  have HSL := Lib.hid (startC_len key nonce n)
  obtain ⟨ten, HT⟩ : ∃ t : Nat, Hid (t = 10) := ⟨_, rfl⟩
  obtain ⟨R, HR⟩ : ∃ R, Hid (outLE (csumL (dblN (startC key nonce n) ten) (startC key nonce n)) = R) := ⟨_, rfl⟩
  have hbR : blockC key nonce n = R := by rw [← HR.out, HT.out]; rfl
  rw [hbR]
  clear hk hn hbR
  generalize startC key nonce n = L0 at ST HSL HR
  go_enter Tryz.func137, Tryz.ntmps137
  go_wp2_with (first
    | (refine wpList_ld rfl 107 (.tmp 3) rfl (load_arr arr32K rfl (by rw [List.length_map, HK.out]; exact i32K) (heap3 w _ _ _).1) ?_)
    | (refine wpList_ld rfl 123 (.tmp 4) rfl (load_arr arr12B rfl (by rw [List.length_map, HN.out]; exact i12B) (heap3 w _ _ _).2.1) ?_))
  generalize hV : ((w.alloc _).alloc _).alloc _ = W0
  have FZ : Hid (W0.heap[w.heap.size + 1 + 1]? = some (.cells (List.replicate 64 (Value.int .u8 0)).toArray 157 (0, 0))) := by rw [← hV]; exact (heap3 w _ _ _).2.2.1
  have FB : Hid (Below w.heap.size w W0) := by rw [← hV]; exact (heap3 w _ _ _).2.2.2
  clear hV
  refine (ST.out W0).mono ?_
  rintro e w1 ⟨rfl, hb1⟩
  have GZ : Hid (w1.heap[w.heap.size + 1 + 1]? = _) := (hb1.block _ (lt_of_heap FZ.out)).trans FZ.out
  have GB : Hid (Below w.heap.size w w1) := FB.out.step hb1
  have hl0 : Hid ((L0.map wv).length = 16) := by show _ = _; rw [List.length_map]; exact HSL.out
  have HP : Hid (w.heap.size + 1 + 1 < w1.heap.size) := lt_of_heap GZ.out
  clear hb1 FZ FB ST
  go_wp2_with (first
    | (refine wpList_st rfl 190 (.tmp 7) (.tmp 13) rfl (store_arr (cs := L0.map wv) (old := List.replicate 16 (Value.int .u32 0)) (by rw [hl0.out]; exact iSt) (wv_one _) (heap_alloc_new' w1 _) (by rw [hl0.out]; simp)) ?_
       generalize hV : World.setRow _ _ _ = W2
       have M0 := Lib.hid (heap_of_setRow hV (heap_alloc_new' w1 _))
       have MB := Lib.hid (((Below.refl w1.heap.size w1).alloc (Nat.le_refl _) _).trans (below_of_setRow hV (Nat.le_refl w1.heap.size) (by simp)))
       have hsz : Hid (W2.heap.size = w1.heap.size + 1) := by rw [← hV]; show _ = _; simp
       clear hV)
    | (refine wpList_ld rfl 190 (.tmp 7) rfl (load_arr arrSt rfl (by rw [hl0.out]; exact iSt) M0.out) ?_)
    | (refine wpList_st rfl 190 (.tmp 8) (.tmp 14) rfl (store_arr (cs := L0.map wv) (old := List.replicate 16 (Value.int .u32 0)) (by rw [hl0.out]; exact iSt) (wv_one _) (heap_alloc_new' W2 _) (by rw [hl0.out]; simp)) ?_
       generalize hV : World.setRow _ _ _ = W3
       have M1 := Lib.hid (heap_of_setRow hV (heap_alloc_new' W2 _))
       have MC := Lib.hid (((Below.refl W2.heap.size W2).alloc (Nat.le_refl _) _).trans (below_of_setRow hV (Nat.le_refl W2.heap.size) (by simp)))
       clear hV))
  have IH : Hid (BlH w W3 w1.heap.size W2.heap.size L0 L0) := by
    have z2 := (MB.out.block _ (lt_of_heap GZ.out)).trans GZ.out
    exact ⟨(GB.out.step MB.out).step MC.out, (MC.out.block _ (lt_of_heap z2)).trans z2, (MC.out.block _ (lt_of_heap M0.out)).trans M0.out, M1.out⟩
  have HPQ : Hid (w.heap.size + 1 + 1 < w1.heap.size ∧ w1.heap.size < W2.heap.size) := ⟨HP.out, by have := hsz.out; omega⟩
  clear hsz M0 M1 MB MC HP GZ GB hl0
  generalize w1.heap.size = p at IH HPQ ⊢
  generalize W2.heap.size = q at IH HPQ ⊢
  go_loopw [15] (fun vi wr => ∃ (i : Nat), i ≤ 10 ∧ vi = .int .i64 (i : Int) ∧ Hid (BlH w wr p q L0 (dblN L0 i))) (fun i _ => 10 - (intOf i).toNat)
  case atStart => exact ⟨0, by omega, rfl, IH⟩
  case round =>
    clear IH
    obtain ⟨i, hi, rfl, H⟩ := hrel
    by_cases hlt : i < 10
    · have e1 : (i : Int) < 10 := by omega
      have hst : Hid (roundN 1 (roundN 0 (dblN L0 i) 4) 4 = dblN L0 (i + 1)) := rfl
      have hl1 : Hid ((dblN L0 i).length = 16) := by show _ = _; rw [dblN_len]; exact HSL.out
      generalize dblN L0 i = A at H hst hl1
      have hl2 : Hid ((roundN 0 A 4).length = 16) := by show _ = _; rw [roundN_len]; exact hl1.out
      have R1 := Lib.hid (fun W => round_any 0 A W hl1.out (by omega))
      generalize roundN 0 A 4 = B at hst hl2 R1
      have hl3 : Hid ((roundN 1 B 4).length = 16) := by show _ = _; rw [roundN_len]; exact hl2.out
      have R2 := Lib.hid (fun W => round_any 1 B W hl2.out (by omega))
      generalize roundN 1 B 4 = C at hst hl3 R2
      go_wp2_with (first
        | (refine wpList_ld rfl 190 (.tmp 8) rfl (load_arr arrSt rfl (by rw [List.length_map, hl1.out]; exact iSt) H.out.2.2.2) ?_)
        | fail)
      refine (R1.out wr).mono ?_
      rintro e w2 ⟨rfl, hb2⟩
      have H2 := Lib.hid (H.out.step hb2)
      clear H hb2 R1
      go_wp2_with fail
      refine (R2.out w2).mono ?_
      rintro e w3 ⟨rfl, hb3⟩
      have H3 := Lib.hid (H2.out.step hb3)
      clear H2 hb3 R2
      go_wp2_with (first
        | (refine wpList_st rfl 190 (.tmp 8) (.tmp 19) rfl (store_arr (cs := C.map wv) (by rw [List.length_map, hl3.out]; exact iSt) (wv_one _) H3.out.2.2.2 (by rw [List.length_map, List.length_map, hl3.out, hl1.out])) ?_
           generalize hV : World.setRow _ _ _ = W4
           have H4 := Lib.hid (H3.out.row HPQ.out hV)
           clear hV H3)
        | fail)
      go_roundw
      case rel => exact ⟨i + 1, by omega, by go_num, by rw [← hst.out]; exact H4⟩
      case measure => simp [intOf]; omega
    · have e0 : csumN (dblN L0 ten) L0 0 = dblN L0 ten := by simp [csumN]
      have H' : Hid (BlH w wr p q L0 (csumN (dblN L0 ten) L0 0)) := by have := H.out; rw [show i = ten by rw [HT.out]; omega] at this; rw [e0]; exact this
      clear e0
      clear H
      have hl1 : Hid ((dblN L0 ten).length = 16) := by show _ = _; rw [dblN_len]; exact HSL.out
      generalize dblN L0 ten = A at H' hl1 HR
      have hAL : Hid (A.length = L0.length) := by show _ = _; rw [hl1.out, HSL.out]
      obtain ⟨wo, hwo⟩ : ∃ x, x = wr := ⟨_, rfl⟩
      subst hwo
      go_wp2_with fail
      go_loopw [21] (fun vi wr => ∃ (j : Nat), j ≤ 16 ∧ vi = .int .i64 (j : Int) ∧ Hid (BlH w wr p q L0 (csumN A L0 j))) (fun i _ => 16 - (intOf i).toNat)
      case atStart => exact ⟨0, by omega, rfl, H'⟩
      case round =>
        clear H'
        obtain ⟨j, hj, rfl, H⟩ := hrel
        by_cases hlt : j < 16
        · have q1 : (j : Int) < 16 := by omega
          have c0 := wcell H.out.2.2.2 j (by rw [csumN_len A L0 j hAL.out, hl1.out]; exact hlt)
          rw [csumN_get A L0 j hAL.out (by rw [hl1.out]; exact hlt)] at c0
          have c1 := wcell H.out.2.2.1 j (by rw [HSL.out]; exact hlt)
          have fz := frozen_of_heap H.out.2.2.2 j
          have HST := Lib.hid (csumN_step A L0 j hAL.out (by rw [hl1.out]; exact hlt))
          generalize A.getD j 0 = x at c0 HST
          generalize L0.getD j 0 = y at c1 HST
          have u1 : ((x.toNat : Int) + (y.toNat : Int)) % 4294967296 = ((x + y).toNat : Int) := add32 x y
          have U1 := Lib.hid u1
          clear u1
          go_wp2_with fail
          go_still_tail 8, (by kernel_rfl)
          change wpList _ _ _ _ _ wr.drew
          go_wp2
          go_roundw
          case rel =>
            refine ⟨j + 1, by omega, by go_num, ?_⟩
            have hd : BlH w wr.drew p q L0 (csumN A L0 j) := ⟨H.out.1.drew, H.out.2⟩
            have := hd.put HPQ.out j (x + y)
            rw [HST.out, ← U1.out] at this
            exact this
          case measure => simp [intOf]; omega
        · have H' : Hid (BlH w wr p q L0 (csumL A L0)) := by have := H.out; rw [show j = A.length by rw [hl1.out]; omega, csumN_end A L0 hAL.out] at this; exact this
          clear H
          have hl2 : Hid ((csumL A L0).length = 16) := by show _ = _; rw [csumL_len A L0 hAL.out]; exact hl1.out
          obtain ⟨S, HS⟩ : ∃ S, Hid (csumL A L0 = S) := ⟨_, rfl⟩
          rw [HS.out] at H' hl2
          have FL : Hid (∀ W, Calls Tryz.prog 180 #[.agg (S.map wv).toArray] W fun e w' => e = .returned (.agg ((outLE S).map bv).toArray) ∧ Below W.heap.size W w') := fun W => cflat_any S W hl2.out
          have ho : Hid ((outLE S).length = 64) := by show _ = _; rw [outLE_len, hl2.out]
          obtain ⟨O, HO⟩ : ∃ O, Hid (outLE S = O) := ⟨_, rfl⟩
          rw [HO.out] at FL ho
          go_wp2_with (first
            | (refine wpList_ld rfl 190 (.tmp 8) rfl (load_arr arrSt rfl (by rw [List.length_map, hl2.out]; exact iSt) H'.out.2.2.2) ?_)
            | fail)
          refine (FL.out wr).mono ?_
          rintro e w2 ⟨rfl, hb2⟩
          have H2 := Lib.hid (H'.out.step hb2)
          have HZ := Lib.hid H2.out.2.1
          clear hb2 FL
          go_wp2_with (first
            | (refine wpList_st rfl 157 (.tmp 6) (.tmp 34) rfl (store_arr (cs := O.map bv) (old := List.replicate 64 (Value.int .u8 0)) (by rw [List.length_map, ho.out]; exact i64Bc) (bv_one _) HZ.out (by rw [List.length_map, ho.out]; exact List.length_replicate)) ?_)
            | fail)
          have hres := setRow_heap w2 (w.heap.size + 1 + 1) _ (O.map bv).toArray 157 _ HZ.out
          exact bodyPost_ret (results_cell_row (P := Tryz.prog) rfl _ _ (w.heap.size + 1 + 1) 157 (O.map bv).toArray (0, 0) _ rfl hres arr64B rfl (by rw [List.size_toArray, List.length_map, ho.out]; exact i64Bc)) rfl ⟨by rw [← HR.out, HS.out, HO.out], H2.out.1.trans (grown_below (grown_setRow _ _ _) (by omega) H2.out.1.size)⟩
end Go.Proofs.YtnhhgiebnhlfcaaGreatDoor

/- The contracts of chacha.Stream and chacha.Crypt. -/
namespace Go.Proofs.YtnhhgiebnhlfcaaGreatDoor
open Go.RowKit
set_option maxRecDepth 100000
set_option linter.unusedVariables false
set_option linter.unusedSimpArgs false
def ctrAt (n : W32) (i : Nat) : W32 := n + BitVec.ofNat 32 i
/-- the first k blocks from a counter on -/
def blocksC (key nonce : List UInt8) (n : W32) (k : Nat) : List UInt8 := (List.range k).flatMap fun i => blockC key nonce (ctrAt n i)
theorem blocksC_succ (key nonce : List UInt8) (n : W32) (k : Nat) : blocksC key nonce n (k + 1) = blocksC key nonce n k ++ blockC key nonce (ctrAt n k) := by
  simp [blocksC, List.range_succ, List.flatMap_append]
theorem blocksC_len (key nonce : List UInt8) (n : W32) (k : Nat) : (blocksC key nonce n k).length = 64 * k := by
  induction k with
  | zero => rfl
  | succ k ih => rw [blocksC_succ, List.length_append, ih, blockC_len]; omega
def streamC (key nonce : List UInt8) (n : W32) (m : Nat) : List UInt8 := (blocksC key nonce n ((m + 63) / 64)).take m
theorem streamC_len (key nonce : List UInt8) (n : W32) (m : Nat) : (streamC key nonce n m).length = m := by
  rw [streamC, List.length_take, blocksC_len]; omega
def streamN (key nonce : List UInt8) (n : W32) (m k : Nat) : List UInt8 := (blocksC key nonce n k).take m ++ List.replicate (m - 64 * k) 0
theorem streamN_len (key nonce : List UInt8) (n : W32) (m k : Nat) : (streamN key nonce n m k).length = m := by
  rw [streamN, List.length_append, List.length_take, blocksC_len, List.length_replicate]; omega
theorem streamN_zero (key nonce : List UInt8) (n : W32) (m : Nat) : (streamN key nonce n m 0).map bv = List.replicate m (Value.int .u8 0) := by
  simp [streamN, blocksC, bv]
theorem streamN_end (key nonce : List UInt8) (n : W32) (m : Nat) : streamN key nonce n m ((m + 63) / 64) = streamC key nonce n m := by
  rw [streamN, streamC, show m - 64 * ((m + 63) / 64) = 0 by omega]; simp
theorem streamN_step (key nonce : List UInt8) (n : W32) (m k : Nat) (hk : 64 * k < m) :
    splice ((streamN key nonce n m k).map bv) (64 * k) (((blockC key nonce (ctrAt n k)).take (min 64 (m - 64 * k))).map bv) = (streamN key nonce n m (k + 1)).map bv := by
  have hl := blocksC_len key nonce n k
  have hb := blockC_len key nonce (ctrAt n k)
  have h1 := blocksC_succ key nonce n k
  unfold streamN
  rw [h1]
  generalize blocksC key nonce n k = A at hl ⊢
  generalize blockC key nonce (ctrAt n k) = X at hb ⊢
  obtain ⟨c, hc⟩ : ∃ c, c = min 64 (m - 64 * k) := ⟨_, rfl⟩
  rw [← hc, List.take_of_length_le (by omega), List.take_append, List.take_of_length_le (i := m) (by omega), hl]
  have e1 : List.replicate (m - 64 * k) (0 : UInt8) = List.replicate c 0 ++ List.replicate (m - 64 * (k + 1)) 0 := by
    rw [List.replicate_append_replicate]; congr 1; omega
  have e2 : X.take (m - 64 * k) = X.take c := by
    rcases Nat.le_total 64 (m - 64 * k) with h | h
    · rw [List.take_of_length_le (by omega), List.take_of_length_le (by omega)]
    · rw [hc, Nat.min_eq_right h]
  rw [e1, e2, List.map_append, List.map_append, ← List.append_assoc, List.map_append, List.map_append]
  have := splice_split (A.map bv) ((List.replicate c (0 : UInt8)).map bv) ((List.replicate (m - 64 * (k + 1)) (0 : UInt8)).map bv) ((X.take c).map bv) (by simp; omega)
  rw [List.length_map, hl] at this
  exact this
theorem ctr_wrap (n : W32) (i : Nat) : ((n.toNat : Int) + (i : Int)) % 4294967296 = ((ctrAt n i).toNat : Int) := by
  unfold ctrAt; rw [BitVec.toNat_add, BitVec.toNat_ofNat]; omega
/-- where a stream is being laid -/
def StrH (w W : World) (g : Nat) (key nonce : List UInt8) (l : List Value) : Prop :=
  Below w.heap.size w W ∧ W.heap[w.heap.size]? = some (.cells (key.map bv).toArray 107 (0, 0)) ∧ W.heap[w.heap.size + 1]? = some (.cells (nonce.map bv).toArray 123 (0, 0)) ∧ W.heap[g]? = some (.cells l.toArray 5 (0, 0))
theorem StrH.step {w W W' : World} {g : Nat} {key nonce : List UInt8} {l : List Value} (h : StrH w W g key nonce l) (hb : Below W.heap.size W W') : StrH w W' g key nonce l :=
  ⟨h.1.step hb, (hb.block _ (lt_of_heap h.2.1)).trans h.2.1, (hb.block _ (lt_of_heap h.2.2.1)).trans h.2.2.1, (hb.block _ (lt_of_heap h.2.2.2)).trans h.2.2.2⟩
theorem StrH.put {w W W' : World} {g : Nat} {key nonce : List UInt8} {l l' : List Value} (h : StrH w W g key nonce l) (hg : w.heap.size + 1 < g) (hb : W.grownBy W' (some g)) (hl : W'.heap[g]? = some (.cells l'.toArray 5 (0, 0))) : StrH w W' g key nonce l' :=
  ⟨h.1.trans (grown_below hb (by omega) h.1.size), (hb.block _ (lt_of_heap h.2.1) (by simp; omega)).trans h.2.1, (hb.block _ (lt_of_heap h.2.2.1) (by simp; omega)).trans h.2.2.1, hl⟩
set_option maxHeartbeats 4000000 in
theorem stream_any (key nonce : List UInt8) (n : W32) (many : Int) (m : Nat) (w : World) (hk : key.length = 32) (hn : nonce.length = 12) (hm : m = many.toNat) (h31 : m ≤ 100000) :
    Calls Tryz.prog 136 #[.agg (key.map bv).toArray, .agg (nonce.map bv).toArray, .int .u32 (n.toNat : Int), .int .i64 many] w (NewRow w m (streamC key nonce n m)) := by
  have BL := Lib.hid (fun i W => cblock_any key nonce (ctrAt n i) W hk hn)
  have HK := Lib.hid hk; have HN := Lib.hid hn
  have hmax : (if many < 0 then (0 : Int) else many) = (m : Int) := by split <;> omega
  clear hk hn hm
  have hmk := make_run (P := Tryz.prog) uT made8 rfl .i64 .i64 m (by omega) (by omega) ((w.alloc (.cells (key.map bv).toArray 107)).alloc (.cells (nonce.map bv).toArray 123))
  obtain ⟨W0, hW0⟩ : ∃ x, x = ((w.alloc (.cells (key.map bv).toArray 107)).alloc (.cells (nonce.map bv).toArray 123)).alloc (.cells (List.replicate m (Value.int .u8 0)).toArray 5) := ⟨_, rfl⟩
  rw [← hW0] at hmk
  have F := heap3 w (.cells (key.map bv).toArray 107) (.cells (nonce.map bv).toArray 123) (.cells (List.replicate m (Value.int .u8 0)).toArray 5)
  rw [← hW0] at F
  have F := Lib.hid F
  clear hW0
  go_enter Tryz.func136, Tryz.ntmps136
  go_wp2_with fail
  obtain ⟨K, hK⟩ : ∃ K, K = (m + 63) / 64 := ⟨_, rfl⟩
  have hKi : ((m : Int) + 63) / 64 = (K : Int) := by omega
  rw [hKi]
  have HKE : Hid (streamN key nonce n m K = streamC key nonce n m) := by rw [hK]; exact streamN_end _ _ _ _
  have hKm : Hid (∀ k, k < K → 64 * k < m ∧ k < 10000) := by intro k h; omega
  clear hK hKi
  generalize hg : w.heap.size + 1 + 1 = g at ⊢
  have HG := Lib.hid hg
  have IH : Hid (StrH w W0 g key nonce ((streamN key nonce n m 0).map bv)) := by
    rw [streamN_zero]
    have f3 := F.out.2.2.1
    rw [show w.heap.size + 2 = g by omega] at f3
    exact ⟨F.out.2.2.2, F.out.1, F.out.2.1, f3⟩
  clear hg F
  go_loopw [19] (fun vi wr => ∃ (i : Nat), i ≤ K ∧ vi = .int .i64 (i : Int) ∧ Hid (StrH w wr g key nonce ((streamN key nonce n m i).map bv))) (fun i _ => K - (intOf i).toNat)
  case atStart => exact ⟨0, by omega, rfl, IH⟩
  case round =>
    clear IH
    obtain ⟨i, hi, rfl, H⟩ := hrel
    by_cases hlt : i < K
    · have e1 : (i : Int) < (K : Int) := by omega
      have him := hKm.out i hlt
      have HCW := Lib.hid (ctr_wrap n i)
      have HST := Lib.hid (streamN_step key nonce n m i him.1)
      have HSN := Lib.hid (streamN_len key nonce n m i)
      have hbl : Hid ((blockC key nonce (ctrAt n i)).length = 64) := blockC_len _ _ _
      have BL := Lib.hid (BL.out i)
      obtain ⟨q, hq⟩ : ∃ q, q = 64 * i := ⟨_, rfl⟩
      have hqi : 64 * (i : Int) = (q : Int) := by omega
      have hqm : q < m := by omega
      have u1 : IntKind.i64.wrap (64 * (i : Int)) = (q : Int) := by rw [IntKind.wrap_i64]; omega
      rw [← hq] at HST
      have hi64 : (i : Int) < 10000 := by omega
      clear hq him hqi
      go_wp2_with (first
        | (refine wpList_ld rfl 107 (.tmp 4) rfl (load_arr arr32K rfl (by rw [List.length_map, HK.out]; exact i32K) H.out.2.1) ?_)
        | (refine wpList_ld rfl 123 (.tmp 5) rfl (load_arr arr12B rfl (by rw [List.length_map, HN.out]; exact i12B) H.out.2.2.1) ?_))
      rw [HCW.out]
      refine (BL.out wr).mono ?_
      rintro e w2 ⟨rfl, hb2⟩
      have H2 := Lib.hid (H.out.step hb2)
      clear H hb2 HCW BL
      generalize blockC key nonce (ctrAt n i) = X at hbl HST ⊢
      have sl := cut_from uT s8 (some ⟨g, 0, none⟩) m m .i64 (q : Int) (by omega) (by omega)
      rw [Int.toNat_natCast, show cutS (some ⟨g, 0, none⟩) m q = some ⟨g, q, none⟩ from by unfold cutS; rw [if_neg (by omega)]; simp [Addr.add_mid]] at sl
      have ar := arr_all arr64B s8 ⟨w2.heap.size, 0, none⟩
      go_wp2_with (first
        | (refine wpList_st rfl 157 (.tmp 11) (.tmp 28) rfl (store_arr (cs := X.map bv) (old := List.replicate 64 (Value.int .u8 0)) (by rw [List.length_map, hbl.out]; exact i64Bc) (bv_one _) (heap_alloc_new' w2 _) (by rw [List.length_map, hbl.out]; exact List.length_replicate)) ?_
           generalize hV : World.setRow _ _ _ = W4
           have M0 := Lib.hid (heap_of_setRow hV (heap_alloc_new' w2 _))
           have MB := Lib.hid (((Below.refl w2.heap.size w2).alloc (Nat.le_refl _) _).trans (below_of_setRow hV (Nat.le_refl w2.heap.size) (by simp)))
           clear hV)
        | fail)
      have H4 := Lib.hid (H2.out.step MB.out)
      clear H2 MB
      generalize w2.heap.size = b at M0 ar ⊢
      have H5 : Hid (StrH w W4.drew g key nonce ((streamN key nonce n m i).map bv)) := ⟨H4.out.1.drew, H4.out.2⟩
      have HX : Hid (Below w.heap.size W4 W4.drew) := (Below.refl _ _).drew
      have R3 := Lib.hid (row_sub (w := W4.drew) M0.out 0 (min 64 (m - q)) (lt_of_heap (w := W4.drew) M0.out))
      rw [List.drop_zero] at R3
      refine regB_start (w.heap.size) (by kernel_rfl) ?_
      try simp only [Act.put, List.setIfInBounds_toArray, List.set_cons_zero, List.set_cons_succ]
      refine regB_take (v := ?_) 0 (some 29) rfl rfl (by kernel_rfl) (by kernel_rfl) (by kernel_rfl) (fun _ _ _ h => h) (by rfl) (fun W hW => ?_) ?_
      rotate_left
      · (go_simp; try rfl)
      simp only [Act.put, List.setIfInBounds_toArray, List.set_cons_zero, List.set_cons_succ]
      refine regB_take (v := ?_) 1 (some 30) rfl rfl (by kernel_rfl) (by kernel_rfl) (by kernel_rfl) (fun _ _ _ h => h) (by rfl) (fun W hW => ?_) ?_
      rotate_left
      · (go_simp; try rfl)
      simp only [Act.put, List.setIfInBounds_toArray, List.set_cons_zero, List.set_cons_succ]
      refine regB_take (v := ?_) 2 (some 31) rfl rfl (by kernel_rfl) (by kernel_rfl) (by kernel_rfl) (fun _ _ _ h => h) (by rfl) (fun W hW => ?_) ?_
      rotate_left
      · (go_simp; try rfl)
      simp only [Act.put, List.setIfInBounds_toArray, List.set_cons_zero, List.set_cons_succ]
      refine regB_take (v := ?_) 3 (some 32) rfl rfl (by kernel_rfl) (by kernel_rfl) (by kernel_rfl) (fun _ _ _ h => h) (by rfl) (fun W hW => ?_) ?_
      rotate_left
      · (go_simp; try rfl)
      simp only [Act.put, List.setIfInBounds_toArray, List.set_cons_zero, List.set_cons_succ]
      refine regB_take (v := ?_) 4 (some 33) rfl rfl (by kernel_rfl) (by kernel_rfl) (by kernel_rfl) (fun _ _ _ h => h) (by rfl) (fun W hW => ?_) ?_
      rotate_left
      · (go_simp; try rfl)
      simp only [Act.put, List.setIfInBounds_toArray, List.set_cons_zero, List.set_cons_succ]
      refine regB_eff 5 rfl (by kernel_rfl) (fun K hK => ?_)
      obtain ⟨w5, hrun, hblk, _, hgr⟩ := copy_run uT s8 (sT := 22) 3 W4.drew g q ((streamN key nonce n m i).map bv) 5 H5.out.2.2.2 (some ⟨g, q, none⟩) (some ⟨b, 0, none⟩) (m - q) (m - q) 64 64 _ ((X.take (min 64 (m - q))).map bv) (by have := hbl.out; simp; omega) (fun _ => rfl) R3.out (by have := hbl.out; have := HSN.out; simp; omega) (bv_one _)
      rw [HST.out] at hblk
      have E2 := Lib.hid hblk
      have EG := Lib.hid hgr
      refine step_cpy rfl (.tmp 32) (.tmp 33) 22 22 rfl hrun ?_
      have hE : Below w.heap.size W4.drew w5 := grown_below hgr (by have := HG.out; omega) H5.out.1.size
      clear hrun hblk hgr
      refine hK.out _ _ hE ?_
      have HX := Lib.hid (Below.trans HX.out hE)
      clear hE hK K
      try simp only [Act.put, List.setIfInBounds_toArray, List.set_cons_zero, List.set_cons_succ]
      refine regB_done (by kernel_rfl) ?_
      clear u1 sl ar
      go_wp2
      go_roundw
      case rel => exact ⟨i + 1, by omega, by go_num, H5.out.put (by have := HG.out; omega) EG.out E2.out⟩
      case measure => simp [intOf]; omega
    · have H' : Hid (StrH w wr g key nonce ((streamC key nonce n m).map bv)) := by have := H.out; rw [show i = K by omega, HKE.out] at this; exact this
      clear H
      go_wp2
      go_ret
      exact ⟨g, by have := HG.out; omega, rfl, H'.out.2.2.2, H'.out.1⟩
/-- bytes, and the stream from a counter on -/
def cryptC (key nonce : List UInt8) (n : W32) (b : List UInt8) : List UInt8 := xorL b (streamC key nonce n b.length)
theorem cryptC_len (key nonce : List UInt8) (n : W32) (b : List UInt8) : (cryptC key nonce n b).length = b.length := by
  rw [cryptC, xorL_len, streamC_len, Nat.min_self]
theorem crypt_any (key nonce : List UInt8) (n : W32) (A : Option Addr) (m c : Nat) (b : List UInt8) (w : World) (hk : key.length = 32) (hn : nonce.length = 12) (hm : b.length = m) (h31 : m ≤ 100000) (hb : Sl w A c b) :
    Calls Tryz.prog 104 #[.agg (key.map bv).toArray, .agg (nonce.map bv).toArray, .int .u32 (n.toNat : Int), .slice A m c] w (NewRow w m (cryptC key nonce n b)) := by
  have HS := Lib.hid (fun W => stream_any key nonce n (m : Int) m W hk hn (by simp) h31)
  have HK := Lib.hid hk; have HN := Lib.hid hn; have HM := Lib.hid hm; have HB := Lib.hid hb
  have hc : Hid (cryptC key nonce n b = xorL b (streamC key nonce n m)) := by rw [cryptC, hm]; rfl
  rw [hc.out]
  have hsl : Hid ((streamC key nonce n m).length = m) := streamC_len _ _ _ _
  generalize streamC key nonce n m = X at HS hsl ⊢
  clear hk hn hm hb hc
  go_enter Tryz.func104, Tryz.ntmps104
  go_wp2_with (first
    | (refine wpList_ld rfl 107 (.tmp 4) rfl (load_arr arr32K rfl (by rw [List.length_map, HK.out]; exact i32K) (heap2c w _ _).1) ?_)
    | (refine wpList_ld rfl 123 (.tmp 5) rfl (load_arr arr12B rfl (by rw [List.length_map, HN.out]; exact i12B) (heap2c w _ _).2.1) ?_))
  generalize hV : (w.alloc _).alloc _ = W0
  have FB : Hid (Below w.heap.size w W0) := by rw [← hV]; exact (heap2c w _ _).2.2
  clear hV
  refine (HS.out W0).mono ?_
  rintro e w1 ⟨g, hg, rfl, hg1, hb1⟩
  have B1 := Lib.hid (FB.out.step hb1)
  have G1 := Lib.hid hg1
  have S1 : Hid (Sl w1 A c b) := ⟨HB.out.1, HB.out.2.1, HB.out.2.2.after B1.out⟩
  have S2 : Hid (Sl w1 (some ⟨g, 0, none⟩) m X) := sl_row hsl.out (by omega) hg1
  clear hg hg1 hb1 FB HS
  go_wp2_with fail
  refine (xor_n A (some ⟨g, 0, none⟩) m m m c m b X w1 HM.out hsl.out (Nat.min_self m) S1.out S2.out (by omega) (by omega)).mono ?_
  rintro e w2 ⟨g2, hg2, rfl, hk2, hb2⟩
  have B2 := Lib.hid (B1.out.step hb2)
  have K2 := Lib.hid hk2
  have hge : Hid (w.heap.size ≤ g2) := Nat.le_trans B1.out.size hg2
  clear hb2 hk2 hg2
  go_wp2
  go_ret
  exact ⟨g2, hge.out, rfl, K2.out, B2.out⟩
end Go.Proofs.YtnhhgiebnhlfcaaGreatDoor

/- Rows of integers within a struct. -/
namespace Go.Proofs.YtnhhgiebnhlfcaaGreatDoor
open Go.RowKit Go.ChangeShapes Go.WideShapes Go.ChangeAt
set_option maxRecDepth 100000
set_option linter.unusedVariables false
set_option linter.unusedSimpArgs false
/-- cells that read as a row of integers -/
theorem cells_ints {H : Type} {enc : TypeId × Value → H} {P : Program} {W : World} {b0 : Nat} {sp : Nat → Bool} {held : Bool} {t e : TypeId} {n : Nat} {k : IntKind} {cs : List Value} {fuel : Nat} {x : DataW H × List MemPlace}
    (ht : P.underlying t = some (.array n e)) (he : P.underlying e = some (.int k)) (hce : P.cellsOf e = 1) (hct : P.cellsOf t = n)
    (hf : DataW.trod enc P W b0 sp held fuel t cs = some x) :
    ∃ zs : List Int, cs = zs.map (Value.int k) ∧ zs.length = n ∧ ∀ z ∈ zs, (Lit.int k z).wf = true := by
  obtain ⟨xs, m, _, _, hl, hxl, hget⟩ := DataW.trod_array ht hf
  rw [hce] at hget
  have hcl : cs.length = n := by rw [hl, hct]
  have key : ∀ i, i < n → ∃ z, cs[i]? = some (.int k z) ∧ (Lit.int k z).wf = true := by
    intro i hi
    have h1 := hget i hi
    have hx : ∃ y, xs[i]? = some y := ⟨xs[i], List.getElem?_eq_getElem (by omega)⟩
    obtain ⟨y, hy⟩ := hx
    rw [hy] at h1
    obtain ⟨z, hz, _, hw⟩ := DataW.trod_int he h1
    refine ⟨z, ?_, hw⟩
    rw [Nat.mul_one] at hz
    have := congrArg (fun l => l[0]?) hz
    simpa [List.getElem?_take] using this
  refine ⟨cs.map (fun v => match v with | .int _ z => z | _ => 0), ?_, by rw [List.length_map, hcl], ?_⟩
  · rw [List.map_map]
    apply List.ext_getElem?
    intro i
    by_cases hi : i < n
    · obtain ⟨z, hz, _⟩ := key i hi
      simp [hz]
    · rw [List.getElem?_eq_none (by omega), List.getElem?_eq_none (by simp; omega)]
  · intro z hz
    obtain ⟨v, hv, rfl⟩ := List.mem_map.1 hz
    obtain ⟨i, hi, rfl⟩ := List.mem_iff_getElem.1 hv
    obtain ⟨z, hz, hw⟩ := key i (by omega)
    rw [List.getElem?_eq_getElem hi, Option.some.injEq] at hz
    rw [hz]; exact hw
end Go.Proofs.YtnhhgiebnhlfcaaGreatDoor

/- A key, a nonce and a counter that come in (layer 4). -/
namespace Go.Proofs.YtnhhgiebnhlfcaaGreatDoor
open Go.RowKit Go.ChangeShapes Go.WideShapes Go.ChangeAt
set_option maxRecDepth 100000
set_option linter.unusedVariables false
set_option linter.unusedSimpArgs false
def zCells (k n : List UInt8) (c : BitVec 32) : List Value := k.map bv ++ (n.map bv ++ [.int .u32 (c.toNat : Int)])
theorem split45 (L : List Value) (h : L.length = 45) : L = L.take 32 ++ ((L.drop 32).take 12 ++ (L.drop 44).take 1) := by
  have h1 := List.take_append_drop 32 L
  have h2 := List.take_append_drop 12 (L.drop 32)
  rw [List.drop_drop] at h2
  have h4 : (L.drop 44).take 1 = L.drop 44 := List.take_of_length_le (by simp; omega)
  rw [h4, show L.drop 44 = L.drop (32 + 12) from rfl, h2, h1]
end Go.Proofs.YtnhhgiebnhlfcaaGreatDoor

/- Laws of layer 4: the example; Crypt twice is what it was. -/
namespace Go.Proofs.YtnhhgiebnhlfcaaGreatDoor
open Go.RowKit
set_option maxRecDepth 100000
set_option linter.unusedVariables false
set_option linter.unusedSimpArgs false
theorem quarter_ex (w : World) : Calls Tryz.prog 197 #[.int .u32 286331153, .int .u32 16909060, .int .u32 2609737539, .int .u32 19088743] w fun e w' =>
    e = .returned (.tuple #[.int .u32 3928658676, .int .u32 3407673550, .int .u32 1166100270, .int .u32 1484899515]) ∧ w = w' := by
  have h := quarter_any 286331153#32 16909060#32 2609737539#32 19088743#32 w
  have e1 : qA 286331153#32 16909060#32 2609737539#32 19088743#32 = 3928658676#32 := by decide +kernel
  have e2 : qB 286331153#32 16909060#32 2609737539#32 19088743#32 = 3407673550#32 := by decide +kernel
  have e3 : qC 286331153#32 16909060#32 2609737539#32 19088743#32 = 1166100270#32 := by decide +kernel
  have e4 : qD 286331153#32 16909060#32 2609737539#32 19088743#32 = 1484899515#32 := by decide +kernel
  rw [e1, e2, e3, e4] at h
  exact h
theorem strOf_beq' (a b : List UInt8) : ((strOf a).toList == (strOf b).toList) = decide (a = b) := by
  have h : ∀ l : List UInt8, (strOf l).toList = l := fun l => by rw [ByteArray.toList_eq]; rfl
  rw [h, h]; rw [Bool.eq_iff_iff]; simp
theorem Sl.ext' {w w' : World} {A : Option Addr} {c : Nat} {bs : List UInt8} (h : Sl w A c bs) (hb : Ext w w') : Sl w' A c bs := h.below hb
theorem xorL_twice (b s : List UInt8) (h : b.length = s.length) : xorL (xorL b s) s = b := by
  unfold xorL
  apply List.ext_getElem
  · simp; omega
  · intro i h1 h2
    simp only [List.getElem_zipWith]
    rw [UInt8.xor_assoc, UInt8.xor_self, UInt8.xor_zero]
theorem crypt_back (key nonce : List UInt8) (n : W32) (b : List UInt8) : cryptC key nonce n (cryptC key nonce n b) = b := by
  have h : cryptC key nonce n (cryptC key nonce n b) = xorL (cryptC key nonce n b) (streamC key nonce n (cryptC key nonce n b).length) := rfl
  rw [h, cryptC_len, cryptC, xorL_twice _ _ (by rw [streamC_len])]
/-- the three fields of a key that came in -/
theorem z_cell {W : World} {g : Nat} {k n : List UInt8} {c : W32} {t : TypeId} {fr : Nat × Nat} (h : W.heap[g]? = some (.cells (zCells k n c).toArray t fr)) (hk : k.length = 32) (hn : n.length = 12) :
    W.rangeAt g 0 (k.map bv) ∧ W.rangeAt g 32 (n.map bv) ∧ W.cell? ⟨g, 44, none⟩ = some (.int .u32 (c.toNat : Int)) := by
  refine ⟨fun j v hv => ?_, fun j v hv => ?_, ?_⟩
  · have hj := (List.getElem?_eq_some_iff.1 hv).1
    rw [cell_of_heap h, zCells, Nat.zero_add, List.getElem?_append_left hj]; exact hv
  · have hj := (List.getElem?_eq_some_iff.1 hv).1
    rw [cell_of_heap h, zCells, List.getElem?_append_right (by simp [hk]), List.length_map, hk, show 32 + j - 32 = j by omega, List.getElem?_append_left hj]; exact hv
  · rw [cell_of_heap h, zCells, List.getElem?_append_right (by simp [hk]), List.length_map, hk, List.getElem?_append_right (by simp [hn]), List.length_map, hn]; rfl
theorem range_ext {W W' : World} {g o : Nat} {cs : List Value} (h : W.rangeAt g o cs) (hg : g < W.heap.size) (hE : Ext W W') : W'.rangeAt g o cs := fun j v hv => (hE.cell hg).trans (h j v hv)
def ZAt (W : World) (g : Nat) (k n : List UInt8) (c : W32) : Prop := g < W.heap.size ∧ W.rangeAt g 0 (k.map bv) ∧ W.rangeAt g 32 (n.map bv) ∧ W.cell? ⟨g, 44, none⟩ = some (.int .u32 (c.toNat : Int))
theorem ZAt.ext {W W' : World} {g : Nat} {k n : List UInt8} {c : W32} (h : ZAt W g k n c) (hE : Ext W W') : ZAt W' g k n c :=
  ⟨Nat.lt_of_lt_of_le h.1 hE.size, range_ext h.2.1 h.1 hE, range_ext h.2.2.1 h.1 hE, (hE.cell h.1).trans h.2.2.2⟩
theorem zat_new (w : World) (k n : List UInt8) (c : W32) (t : TypeId) (hk : k.length = 32) (hn : n.length = 12) : ZAt (w.alloc (.cells (zCells k n c).toArray t)) w.heap.size k n c :=
  ⟨by simp, z_cell (heap_alloc_new' w _) hk hn⟩
theorem i32K' (bs : List UInt8) (h : bs.length = 32) : (Tryz.prog.info? 107).map (·.size) = some (bs.map bv).length := by rw [List.length_map, h]; exact i32K
theorem i12B' (bs : List UInt8) (h : bs.length = 12) : (Tryz.prog.info? 123).map (·.size) = some (bs.map bv).length := by rw [List.length_map, h]; exact i12B
end Go.Proofs.YtnhhgiebnhlfcaaGreatDoor

/- aead: both (key and nonce are looked at, and what is done is handed them as arrays). -/
namespace Go.Proofs.YtnhhgiebnhlfcaaGreatDoor
open Go.RowKit
set_option linter.unusedVariables false
set_option linter.unusedSimpArgs false
set_option maxRecDepth 100000
theorem arr_ptr32 (A : Option Addr) (n c : Nat) (hn : 32 ≤ n) (W : World) : (Instr.arrayAt 107 (.slice A n c)).run Tryz.prog W = .ok (.pointer A) W :=
  run_arrayAt W _ _ _ A n c arr32K hn
theorem arr_ptr12 (A : Option Addr) (n c : Nat) (hn : 12 ≤ n) (W : World) : (Instr.arrayAt 123 (.slice A n c)).run Tryz.prog W = .ok (.pointer A) W :=
  run_arrayAt W _ _ _ A n c arr12B hn
set_option maxHeartbeats 1000000 in
theorem aboth_any (F : FuncId) (cap : Array Value) (R : Value → Int → World → Prop) (key nonce : List UInt8) (A1 A2 : Option Addr) (c1 c2 : Nat) (w : World) (hk : key.length = 32) (hn : nonce.length = 12) (S1 : Sl w A1 c1 key) (S2 : Sl w A2 c2 nonce)
    (hcall : ∀ args W, (callFunc F args).run Tryz.prog W = .ok (.enter F args) W)
    (hF : ∀ W, Ext w W → Calls Tryz.prog F (#[.agg (key.map bv).toArray, .agg (nonce.map bv).toArray] ++ cap) W fun e W' => ∃ v x, e = .returned (.tuple #[v, .int .i64 x]) ∧ Ext W W' ∧ R v x W') :
    Calls Tryz.prog 102 #[.slice A1 32 c1, .slice A2 12 c2, .func (.func F) #[] cap] w fun e w' => ∃ v x, e = .returned (.tuple #[v, .int .i64 x]) ∧ Ext w w' ∧ R v x w' := by
  obtain ⟨b1, o1, rfl, hb1, hr1⟩ := S1.2.2.at_ (by rw [List.length_map, hk]; omega)
  obtain ⟨b2, o2, rfl, hb2, hr2⟩ := S2.2.2.at_ (by rw [List.length_map, hn]; omega)
  have p1 := arr_ptr32 (some ⟨b1, o1, none⟩) 32 c1 (by omega)
  have p2 := arr_ptr12 (some ⟨b2, o2, none⟩) 12 c2 (by omega)
  have HK := Lib.hid hk; have HN := Lib.hid hn; have HF := Lib.hid hF
  have R1 := Lib.hid hr1; have R2 := Lib.hid hr2; have B1 := Lib.hid hb1; have B2 := Lib.hid hb2
  clear hk hn S1 S2 hF hr1 hr2 hb1 hb2
  go_enter Tryz.func102, Tryz.ntmps102
  go_wp2_with fail
  have HX : Hid (Ext w w.drew) := (Below.refl _ _).drew
  refine reg_start (by kernel_rfl) ?_
  try simp only [Act.put, List.setIfInBounds_toArray, List.set_cons_zero, List.set_cons_succ]
  refine reg_take (v := ?_) 0 (some 16) rfl rfl (by kernel_rfl) (by kernel_rfl) (by kernel_rfl) (fun _ _ _ h => h) (by rfl) (fun W hW => ?_) ?_
  rotate_left
  · (go_simp; try rfl)
  simp only [Act.put, List.setIfInBounds_toArray, List.set_cons_zero, List.set_cons_succ]
  refine reg_take (v := ?_) 1 (some 17) rfl rfl (by kernel_rfl) (by kernel_rfl) (by kernel_rfl) (fun _ _ _ h => h) (by rfl) (fun W hW => ?_) ?_
  rotate_left
  · (go_simp; try rfl)
  simp only [Act.put, List.setIfInBounds_toArray, List.set_cons_zero, List.set_cons_succ]
  refine reg_take (v := ?_) 2 (some 18) rfl rfl (by kernel_rfl) (by kernel_rfl) (by kernel_rfl) (fun _ _ _ h => h) (by rfl) (fun W hW => ?_) ?_
  rotate_left
  · (go_simp; try rfl)
  simp only [Act.put, List.setIfInBounds_toArray, List.set_cons_zero, List.set_cons_succ]
  refine reg_load 3 (some 19) (fun W hW => run_loadAt_mid W b1 o1 107 (key.map bv) _ (range_ext R1.out B1.out (HX.out.trans hW)) arr32K rfl (i32K' key HK.out)) rfl rfl rfl rfl (by kernel_rfl) (by kernel_rfl) (by kernel_rfl) (fun _ _ _ h => h) (by rfl) ?_
  simp only [Act.put, List.setIfInBounds_toArray, List.set_cons_zero, List.set_cons_succ]
  refine reg_take (v := ?_) 4 (some 20) rfl rfl (by kernel_rfl) (by kernel_rfl) (by kernel_rfl) (fun _ _ _ h => h) (by rfl) (fun W hW => ?_) ?_
  rotate_left
  · (go_simp; try rfl)
  simp only [Act.put, List.setIfInBounds_toArray, List.set_cons_zero, List.set_cons_succ]
  refine reg_take (v := ?_) 5 (some 21) rfl rfl (by kernel_rfl) (by kernel_rfl) (by kernel_rfl) (fun _ _ _ h => h) (by rfl) (fun W hW => ?_) ?_
  rotate_left
  · (go_simp; try rfl)
  simp only [Act.put, List.setIfInBounds_toArray, List.set_cons_zero, List.set_cons_succ]
  refine reg_load 6 (some 22) (fun W hW => run_loadAt_mid W b2 o2 123 (nonce.map bv) _ (range_ext R2.out B2.out (HX.out.trans hW)) arr12B rfl (i12B' nonce HN.out)) rfl rfl rfl rfl (by kernel_rfl) (by kernel_rfl) (by kernel_rfl) (fun _ _ _ h => h) (by rfl) ?_
  simp only [Act.put, List.setIfInBounds_toArray, List.set_cons_zero, List.set_cons_succ]
  refine reg_eff 7 rfl (by kernel_rfl) (fun K hK => ?_)
  go_simp
  refine (HF.out _ HX.out).mono ?_
  rintro e w1 ⟨v, x, rfl, hE, hR⟩
  refine hK.out _ _ hE ?_
  have HX := Lib.hid (Ext.trans HX.out hE)
  clear hE hK K
  try simp only [Act.put, List.setIfInBounds_toArray, List.set_cons_zero, List.set_cons_succ]
  refine reg_take (v := ?_) 8 (some 24) rfl rfl (by kernel_rfl) (by kernel_rfl) (by kernel_rfl) (fun _ _ _ h => h) (by rfl) (fun W hW => ?_) ?_
  rotate_left
  · (go_simp; try rfl)
  simp only [Act.put, List.setIfInBounds_toArray, List.set_cons_zero, List.set_cons_succ]
  refine reg_take (v := ?_) 9 (some 25) rfl rfl (by kernel_rfl) (by kernel_rfl) (by kernel_rfl) (fun _ _ _ h => h) (by rfl) (fun W hW => ?_) ?_
  rotate_left
  · (go_simp; try rfl)
  simp only [Act.put, List.setIfInBounds_toArray, List.set_cons_zero, List.set_cons_succ]
  refine reg_take (v := ?_) 10 (some 6) rfl rfl (by kernel_rfl) (by kernel_rfl) (by kernel_rfl) (fun _ _ _ h => h) (by rfl) (fun W hW => ?_) ?_
  rotate_left
  · (go_simp; try rfl)
  simp only [Act.put, List.setIfInBounds_toArray, List.set_cons_zero, List.set_cons_succ]
  refine reg_take (v := ?_) 11 (some 7) rfl rfl (by kernel_rfl) (by kernel_rfl) (by kernel_rfl) (fun _ _ _ h => h) (by rfl) (fun W hW => ?_) ?_
  rotate_left
  · (go_simp; try rfl)
  simp only [Act.put, List.setIfInBounds_toArray, List.set_cons_zero, List.set_cons_succ]
  refine reg_done (by kernel_rfl) ?_
  go_wp2
  go_ret2
  exact ⟨v, x, rfl, HX.out, hR⟩
set_option maxHeartbeats 1000000 in
theorem aboth_key (F : FuncId) (cap : Array Value) (A1 A2 : Option Addr) (n1 n2 c1 c2 : Nat) (w : World) (hk : n1 ≠ 32) :
    Calls Tryz.prog 102 #[.slice A1 n1 c1, .slice A2 n2 c2, .func (.func F) #[] cap] w fun e w' => e = .returned (.tuple #[.slice none 0 0, .int .i64 5]) ∧ w = w' := by
  have t1 : ((n1 : Int) != 32) = true := by simp; omega
  clear hk
  go_enter Tryz.func102, Tryz.ntmps102
  go_wp2
  go_ret2
  exact ⟨rfl, rfl⟩
set_option maxHeartbeats 1000000 in
theorem aboth_iv (F : FuncId) (cap : Array Value) (A1 A2 : Option Addr) (n2 c1 c2 : Nat) (w : World) (hk : n2 ≠ 12) :
    Calls Tryz.prog 102 #[.slice A1 32 c1, .slice A2 n2 c2, .func (.func F) #[] cap] w fun e w' => e = .returned (.tuple #[.slice none 0 0, .int .i64 6]) ∧ w = w' := by
  have t1 : ((n2 : Int) != 12) = true := by simp; omega
  clear hk
  go_enter Tryz.func102, Tryz.ntmps102
  go_wp2
  go_ret2
  exact ⟨rfl, rfl⟩
end Go.Proofs.YtnhhgiebnhlfcaaGreatDoor

/- Words of 64 bits: sums and products with what is carried (math/bits.Add64, Mul64; poly.onto). -/
namespace Go.Proofs.YtnhhgiebnhlfcaaGreatDoor
open Go.RowKit
set_option maxRecDepth 100000
set_option linter.unusedVariables false
set_option linter.unusedSimpArgs false
theorem add64_run (x y c : Int) (hx : 0 ≤ x) (hy : 0 ≤ y) (hc0 : 0 ≤ c) (hc : c ≤ 1) (w : World) :
    (callFunc 199 #[.int .u64 x, .int .u64 y, .int .u64 c]).run Tryz.prog w =
      .ok (.value (.tuple #[.int .u64 ((x + y + c) % 18446744073709551616), .int .u64 ((x + y + c) / 18446744073709551616)])) w := by
  rw [run_callFunc_extern (P := Tryz.prog) (e := add64Entry) Tryz.func199 (by kernel_rfl) (by kernel_rfl) (by kernel_rfl) (by kernel_rfl), run_add64 x y c hx hy hc0 hc]
  rfl
theorem mul_math (x y x0 x1 y0 y1 : Nat) (hx : x = x0 + 4294967296 * x1) (hy : y = y0 + 4294967296 * y1) (h0 : x0 < 4294967296) (h1 : x1 < 4294967296) (h2 : y0 < 4294967296) (h3 : y1 < 4294967296) :
    let t := x1 * y0 + x0 * y0 / 4294967296
    let u := t % 4294967296 + x0 * y1
    t < 18446744073709551616 ∧ u < 18446744073709551616 ∧ x1 * y1 + t / 4294967296 + u / 4294967296 = x * y / 18446744073709551616 ∧ x0 * y0 < 18446744073709551616 ∧ x * y / 18446744073709551616 < 18446744073709551616 ∧ x1 * y1 + t / 4294967296 < 18446744073709551616 ∧ x1 * y0 < 18446744073709551616 ∧ x0 * y1 < 18446744073709551616 ∧ x1 * y1 < 18446744073709551616 := by
  have e : x * y = x0 * y0 + 4294967296 * (x1 * y0 + x0 * y1) + 18446744073709551616 * (x1 * y1) := by
    rw [hx, hy, Nat.add_mul, Nat.mul_add, Nat.mul_add]
    have e1 : x0 * (4294967296 * y1) = 4294967296 * (x0 * y1) := by rw [Nat.mul_left_comm]
    have e2 : 4294967296 * x1 * y0 = 4294967296 * (x1 * y0) := Nat.mul_assoc _ _ _
    have e3 : 4294967296 * x1 * (4294967296 * y1) = 18446744073709551616 * (x1 * y1) := by rw [Nat.mul_assoc, Nat.mul_left_comm x1, ← Nat.mul_assoc]
    rw [e1, e2, e3]; omega
  have b : ∀ a c, a < 4294967296 → c < 4294967296 → a * c ≤ 18446744065119617025 := by
    intro a c ha hc
    calc a * c ≤ 4294967295 * 4294967295 := Nat.mul_le_mul (by omega) (by omega)
      _ = 18446744065119617025 := by decide
  have b0 := b x0 y0 h0 h2
  have b1 := b x1 y0 h1 h2
  have b2 := b x0 y1 h0 h3
  have b3 := b x1 y1 h1 h3
  rw [e]
  generalize x0 * y0 = p0 at *
  generalize x1 * y0 = p1 at *
  generalize x0 * y1 = p2 at *
  generalize x1 * y1 = p3 at *
  simp only
  omega
theorem mask32 (x : Nat) (hx : x < 18446744073709551616) : bits .and .u64 (x : Int) 4294967295 = ((x % 4294967296 : Nat) : Int) := by
  rw [u64_and _ _ (by omega) (by omega) (by decide) (by decide)]
  have : (4294967295 : Int).toNat = 2 ^ 32 - 1 := by decide
  rw [this, Int.toNat_natCast, Nat.and_two_pow_sub_one_eq_mod]
set_option maxHeartbeats 2000000 in
theorem mul64_any (x y : Nat) (w : World) (hx : x < 18446744073709551616) (hy : y < 18446744073709551616) :
    Calls Tryz.prog 205 #[.int .u64 (x : Int), .int .u64 (y : Int)] w fun e w' =>
      e = .returned (.tuple #[.int .u64 ((x * y / 18446744073709551616 : Nat) : Int), .int .u64 ((x * y % 18446744073709551616 : Nat) : Int)]) ∧ w = w' := by
  obtain ⟨x0, hx0⟩ : ∃ a, a = x % 4294967296 := ⟨_, rfl⟩
  obtain ⟨x1, hx1⟩ : ∃ a, a = x / 4294967296 := ⟨_, rfl⟩
  obtain ⟨y0, hy0⟩ : ∃ a, a = y % 4294967296 := ⟨_, rfl⟩
  obtain ⟨y1, hy1⟩ : ∃ a, a = y / 4294967296 := ⟨_, rfl⟩
  have hm := mul_math x y x0 x1 y0 y1 (by omega) (by omega) (by omega) (by omega) (by omega) (by omega)
  simp only at hm
  obtain ⟨m1, m2, m3, m4, m5, m6, m7, m8, m9⟩ := hm
  obtain ⟨lo, hlo⟩ : ∃ a, a = x * y % 18446744073709551616 := ⟨_, rfl⟩
  obtain ⟨hi, hhi⟩ : ∃ a, a = x * y / 18446744073709551616 := ⟨_, rfl⟩
  have w0 : IntKind.u64.wrap ((x : Int) * (y : Int)) = (lo : Int) := by rw [IntKind.wrap_u64, hlo, ← Int.natCast_mul]; omega
  rw [← hlo, ← hhi]
  rw [← hhi] at m3 m5
  have a1 : bits .and .u64 (x : Int) 4294967295 = (x0 : Int) := by rw [mask32 x hx, hx0]
  have a2 : bits .and .u64 (y : Int) 4294967295 = (y0 : Int) := by rw [mask32 y hy, hy0]
  have a3 : (x : Int) / 4294967296 = (x1 : Int) := by omega
  have a4 : (y : Int) / 4294967296 = (y1 : Int) := by omega
  clear hlo hhi hx0 hx1 hy0 hy1 hx hy
  have w1 : IntKind.u64.wrap ((x0 : Int) * (y0 : Int)) = ((x0 * y0 : Nat) : Int) := by rw [IntKind.wrap_u64, ← Int.natCast_mul]; omega
  have w2 : IntKind.u64.wrap ((x1 : Int) * (y0 : Int)) = ((x1 * y0 : Nat) : Int) := by rw [IntKind.wrap_u64, ← Int.natCast_mul]; omega
  have w3 : IntKind.u64.wrap ((x0 : Int) * (y1 : Int)) = ((x0 * y1 : Nat) : Int) := by rw [IntKind.wrap_u64, ← Int.natCast_mul]; omega
  have w4 : IntKind.u64.wrap ((x1 : Int) * (y1 : Int)) = ((x1 * y1 : Nat) : Int) := by rw [IntKind.wrap_u64, ← Int.natCast_mul]; omega
  generalize x0 * y0 = p0 at *
  generalize x1 * y0 = p1 at *
  generalize x0 * y1 = p2 at *
  generalize x1 * y1 = p3 at *
  obtain ⟨q0, hq0⟩ : ∃ a, a = p0 / 4294967296 := ⟨_, rfl⟩
  rw [← hq0] at m1 m2 m3 m6
  have b1 : (p0 : Int) / 4294967296 = (q0 : Int) := by omega
  obtain ⟨t, ht⟩ : ∃ a, a = p1 + q0 := ⟨_, rfl⟩
  rw [← ht] at m1 m2 m3 m6
  have b2 : IntKind.u64.wrap ((p1 : Int) + (q0 : Int)) = (t : Int) := by rw [IntKind.wrap_u64]; omega
  obtain ⟨t0, ht0⟩ : ∃ a, a = t % 4294967296 := ⟨_, rfl⟩
  obtain ⟨t1, ht1⟩ : ∃ a, a = t / 4294967296 := ⟨_, rfl⟩
  have b3 : bits .and .u64 (t : Int) 4294967295 = (t0 : Int) := by rw [mask32 t m1, ht0]
  have b4 : (t : Int) / 4294967296 = (t1 : Int) := by omega
  obtain ⟨u, hu⟩ : ∃ a, a = t0 + p2 := ⟨_, rfl⟩
  rw [← ht0, ← hu] at m2 m3
  rw [← ht1] at m3 m6
  have b5 : IntKind.u64.wrap ((t0 : Int) + (p2 : Int)) = (u : Int) := by rw [IntKind.wrap_u64]; omega
  obtain ⟨v, hv⟩ : ∃ a, a = p3 + t1 := ⟨_, rfl⟩
  have b6 : IntKind.u64.wrap ((p3 : Int) + (t1 : Int)) = (v : Int) := by rw [IntKind.wrap_u64]; omega
  obtain ⟨u1, hu1⟩ : ∃ a, a = u / 4294967296 := ⟨_, rfl⟩
  have b7 : (u : Int) / 4294967296 = (u1 : Int) := by omega
  have b8 : IntKind.u64.wrap ((v : Int) + (u1 : Int)) = (hi : Int) := by rw [IntKind.wrap_u64]; omega
  clear hq0 ht ht0 ht1 hu hv hu1 m1 m2 m3 m4 m5 m6 m7 m8 m9
  go_enter Tryz.func205, Tryz.ntmps205
  go_wp2
  exact bodyPost_ret (results_tmp2 rfl _ _ _) rfl ⟨rfl, rfl⟩
theorem onto_math (a x y b : Nat) (ha : a < 18446744073709551616) (hb : b < 18446744073709551616) (hx : x < 18446744073709551616) (hy : y < 18446744073709551616) : a + x * y + b < 340282366920938463463374607431768211456 := by
  have : x * y ≤ 18446744073709551615 * 18446744073709551615 := Nat.mul_le_mul (by omega) (by omega)
  omega
set_option maxHeartbeats 2000000 in
theorem onto_any (a x y b : Nat) (w : World) (ha : a < 18446744073709551616) (hx : x < 18446744073709551616) (hy : y < 18446744073709551616) (hb : b < 18446744073709551616) :
    Calls Tryz.prog 208 #[.int .u64 (a : Int), .int .u64 (x : Int), .int .u64 (y : Int), .int .u64 (b : Int)] w fun e w' =>
      e = .returned (.tuple #[.int .u64 (((a + x * y + b) % 18446744073709551616 : Nat) : Int), .int .u64 (((a + x * y + b) / 18446744073709551616 : Nat) : Int)]) ∧ w = w' := by
  have hm := onto_math a x y b ha hb hx hy
  have M := Lib.hid (mul64_any x y w hx hy)
  generalize x * y = p at M hm ⊢
  obtain ⟨l0, hl0⟩ : ∃ z, z = p % 18446744073709551616 := ⟨_, rfl⟩
  obtain ⟨h0, hh0⟩ : ∃ z, z = p / 18446744073709551616 := ⟨_, rfl⟩
  rw [← hl0, ← hh0] at M
  obtain ⟨l1, hl1⟩ : ∃ z, z = (l0 + a) % 18446744073709551616 := ⟨_, rfl⟩
  obtain ⟨c1, hc1⟩ : ∃ z, z = (l0 + a) / 18446744073709551616 := ⟨_, rfl⟩
  have A1 := fun W => add64_run (l0 : Int) (a : Int) 0 (by omega) (by omega) (by omega) (by omega) W
  rw [show ((l0 : Int) + (a : Int) + 0) % 18446744073709551616 = (l1 : Int) by omega, show ((l0 : Int) + (a : Int) + 0) / 18446744073709551616 = (c1 : Int) by omega] at A1
  obtain ⟨h1, hh1⟩ : ∃ z, z = h0 + c1 := ⟨_, rfl⟩
  have w1 : IntKind.u64.wrap ((h0 : Int) + (c1 : Int)) = (h1 : Int) := by rw [IntKind.wrap_u64]; omega
  obtain ⟨l2, hl2⟩ : ∃ z, z = (l1 + b) % 18446744073709551616 := ⟨_, rfl⟩
  obtain ⟨c2, hc2⟩ : ∃ z, z = (l1 + b) / 18446744073709551616 := ⟨_, rfl⟩
  have A2 := fun W => add64_run (l1 : Int) (b : Int) 0 (by omega) (by omega) (by omega) (by omega) W
  rw [show ((l1 : Int) + (b : Int) + 0) % 18446744073709551616 = (l2 : Int) by omega, show ((l1 : Int) + (b : Int) + 0) / 18446744073709551616 = (c2 : Int) by omega] at A2
  obtain ⟨h2, hh2⟩ : ∃ z, z = h1 + c2 := ⟨_, rfl⟩
  have w2 : IntKind.u64.wrap ((h1 : Int) + (c2 : Int)) = (h2 : Int) := by rw [IntKind.wrap_u64]; omega
  rw [show (a + p + b) % 18446744073709551616 = l2 by omega, show (a + p + b) / 18446744073709551616 = h2 by omega]
  clear hm hl0 hh0 hl1 hc1 hh1 hl2 hc2 hh2
  go_enter Tryz.func208, Tryz.ntmps208
  go_wp2_with fail
  refine M.out.mono ?_
  rintro e w' ⟨rfl, rfl⟩
  go_wp2
  exact bodyPost_ret (results_tmp2 rfl _ _ _) rfl ⟨rfl, rfl⟩
end Go.Proofs.YtnhhgiebnhlfcaaGreatDoor

/- Numbers of three words: plus. -/
namespace Go.Proofs.YtnhhgiebnhlfcaaGreatDoor
open Go.RowKit
set_option maxRecDepth 100000
set_option linter.unusedVariables false
set_option linter.unusedSimpArgs false
def uv (n : Nat) : Value := .int .u64 (n : Int)
theorem uv_one (l : List Nat) : ∀ v ∈ l.map uv, v.oneCell' = true := by
  intro v hv
  obtain ⟨b, _, rfl⟩ := List.mem_map.1 hv
  rfl
theorem ucell {w : World} {g : Nat} {l : List Nat} {t : TypeId} {fr : Nat × Nat} (h : w.heap[g]? = some (.cells (l.map uv).toArray t fr)) (i : Nat) (hi : i < l.length) : w.cell? ⟨g, i, none⟩ = some (.int .u64 ((l.getD i 0 : Nat) : Int)) := by
  rw [cell_of_heap h, List.getElem?_map]
  simp [List.getD, hi, uv]
theorem ust_row {W W' : World} {g i B : Nat} {l : List Nat} {t : TypeId} {v : Nat} (hW : W.setCell ⟨g, i, none⟩ (.int .u64 (v : Int)) = W') (hB : B ≤ g) (H : W.heap[g]? = some (.cells (l.map uv).toArray t (0, 0))) :
    W'.heap[g]? = some (.cells ((l.set i v).map uv).toArray t (0, 0)) ∧ Below B W W' ∧ ∀ k, k ≠ g → W'.heap[k]? = W.heap[k]? := by
  subst hW
  refine ⟨?_, (Below.refl _ _).setCell hB _, fun k hk => Below.heap_setCell W _ _ _ hk⟩
  have := heap_set H i (uv v)
  rw [← List.map_set] at this
  exact this
theorem cell_eq' {W W0 : World} (h : W = W0) {a : Addr} {v : Value} (hc : W0.cell? a = some v) : W.cell? a = some v := by rw [h]; exact hc
theorem arr3 : Tryz.prog.underlying 195 = some (.array 3 79) := Tryz.underlying195
theorem i3 : (Tryz.prog.info? 195).map (·.size) = some 3 := by kernel_rfl
theorem s64 : (Tryz.prog.info? 79).map (·.size) = some 1 := by kernel_rfl
/-- a number's three words, the lowest one first -/
def numL (n : Nat) : List Nat := [n % 18446744073709551616, n / 18446744073709551616 % 18446744073709551616, n / 340282366920938463463374607431768211456 % 18446744073709551616]
def plusN (x y : Nat) : Nat → List Nat
  | 0 => numL x
  | 1 => [(x + y) % 18446744073709551616, x / 18446744073709551616 % 18446744073709551616, x / 340282366920938463463374607431768211456 % 18446744073709551616]
  | 2 => [(x + y) % 18446744073709551616, (x + y) / 18446744073709551616 % 18446744073709551616, x / 340282366920938463463374607431768211456 % 18446744073709551616]
  | _ => numL (x + y)
def carryN (x y : Nat) : Nat → Nat
  | 0 => 0
  | 1 => (x % 18446744073709551616 + y % 18446744073709551616) / 18446744073709551616
  | 2 => (x % 340282366920938463463374607431768211456 + y % 340282366920938463463374607431768211456) / 340282366920938463463374607431768211456
  | _ => (x % 6277101735386680763835789423207666416102355444464034512896 + y % 6277101735386680763835789423207666416102355444464034512896) / 6277101735386680763835789423207666416102355444464034512896
theorem plusN_len (x y i : Nat) : (plusN x y i).length = 3 := by
  match i with
  | 0 => rfl
  | 1 => rfl
  | 2 => rfl
  | _ + 3 => rfl
theorem plus_math (x y i : Nat) (hi : i < 3) : ∃ a b c s c', (plusN x y i).getD i 0 = a ∧ (numL y).getD i 0 = b ∧ carryN x y i = c ∧ c ≤ 1 ∧ (a + b + c) % 18446744073709551616 = s ∧ (a + b + c) / 18446744073709551616 = c' ∧
    carryN x y (i + 1) = c' ∧ (plusN x y i).set i s = plusN x y (i + 1) := by
  match i, hi with
  | 0, _ =>
    refine ⟨_, _, _, _, _, rfl, rfl, rfl, by simp [carryN], rfl, rfl, ?_, ?_⟩
    · simp only [carryN, plusN, numL, List.getD_cons_zero]; omega
    · simp only [carryN, plusN, numL, List.getD_cons_zero, List.set_cons_zero]
      congr 1; omega
  | 1, _ =>
    refine ⟨_, _, _, _, _, rfl, rfl, rfl, by simp only [carryN]; omega, rfl, rfl, ?_, ?_⟩
    · simp only [carryN, plusN, numL, List.getD_cons_zero, List.getD_cons_succ]; omega
    · simp only [carryN, plusN, numL, List.getD_cons_zero, List.getD_cons_succ, List.set_cons_zero, List.set_cons_succ]
      congr 2; omega
  | 2, _ =>
    refine ⟨_, _, _, _, _, rfl, rfl, rfl, by simp only [carryN]; omega, rfl, rfl, ?_, ?_⟩
    · simp only [carryN, plusN, numL, List.getD_cons_zero, List.getD_cons_succ]; omega
    · simp only [carryN, plusN, numL, List.getD_cons_zero, List.getD_cons_succ, List.set_cons_zero, List.set_cons_succ]
      congr 3; omega
theorem heap3p (w : World) (o1 o2 o3 : Obj) : (((w.alloc o1).alloc o2).alloc o3).heap[w.heap.size]? = some o1 ∧ (((w.alloc o1).alloc o2).alloc o3).heap[w.heap.size + 1]? = some o2 ∧ (((w.alloc o1).alloc o2).alloc o3).heap[w.heap.size + 2]? = some o3 ∧
    Below w.heap.size w (((w.alloc o1).alloc o2).alloc o3) := heap3 w o1 o2 o3
def zeros3 : List Value := List.replicate 3 (Value.int .u64 0)
set_option maxHeartbeats 4000000 in
theorem plus_any (x y : Nat) (w : World) :
    Calls Tryz.prog 188 #[.agg ((numL x).map uv).toArray, .agg ((numL y).map uv).toArray] w fun e w' => e = .returned (.agg ((numL (x + y)).map uv).toArray) ∧ Below w.heap.size w w' := by
  have hz : ∀ W, (zeroValue 195).run Tryz.prog W = .ok (.agg zeros3.toArray) W := fun W => by kernel_rfl
  have hlz : Hid (zeros3.length = 3) := rfl
  generalize zeros3 = Z3 at hz hlz
  have ly : Hid ((numL y).length = 3) := rfl
  have P0 : Hid ((numL x) = plusN x y 0) := rfl
  have C0 : Hid (carryN x y 0 = 0) := rfl
  have P3 : Hid (numL (x + y) = plusN x y 3) := rfl
  have PM := Lib.hid (plus_math x y)
  rw [P0.out, P3.out]
  obtain ⟨Y, HY⟩ : ∃ Y, Hid (numL y = Y) := ⟨_, rfl⟩
  rw [HY.out] at ly PM ⊢
  clear P0 P3
  obtain ⟨p, HP⟩ : ∃ p, Hid (w.heap.size = p) := ⟨_, rfl⟩
  go_enter Tryz.func188, Tryz.ntmps188
  go_wp2_with fail
  generalize hV : ((w.alloc _).alloc _).alloc _ = W0
  obtain ⟨f0, f1, f2, fb⟩ := heap3p w (.cells ((plusN x y 0).map uv).toArray 195) (.cells (Y.map uv).toArray 195) (.cells Z3.toArray 195)
  rw [hV] at f0 f1 f2 fb
  have F0 := Lib.hid f0; have F1 := Lib.hid f1; have F2 := Lib.hid f2; have FB := Lib.hid fb
  clear f0 f1 f2 fb hV
  go_loopw [5, 7] (fun vc vi wr => ∃ (i c : Nat), i ≤ 3 ∧ vi = .int .i64 (i : Int) ∧ vc = .int .u64 (c : Int) ∧ Hid (c = carryN x y i) ∧ Hid (Below w.heap.size w wr) ∧ Hid (wr.heap[w.heap.size]? = some (.cells ((plusN x y i).map uv).toArray 195 (0, 0))) ∧
      Hid (wr.heap[w.heap.size + 1]? = some (.cells (Y.map uv).toArray 195 (0, 0))) ∧ Hid (wr.heap[w.heap.size + 2]? = some (.cells Z3.toArray 195 (0, 0)))) (fun _ i _ => 3 - (intOf i).toNat)
  case atStart => exact ⟨0, 0, by omega, rfl, rfl, rfl, FB, F0, F1, F2⟩
  case round =>
    clear FB F0 F1 F2
    obtain ⟨i, c, hi, rfl, rfl, HC, HB, H0, H1, H2⟩ := hrel
    by_cases hlt : i < 3
    · have e1 : (i : Int) < 3 := by omega
      obtain ⟨a, b, c0, s, c', ha, hb, hc0, hc1, hs, hc', hcn, hset⟩ := PM.out i hlt
      obtain rfl : c = c0 := HC.out.trans hc0
      have k0 := ucell (w := wr.drew) H0.out i (by rw [plusN_len]; exact hlt)
      have k1 := ucell (w := wr.drew) H1.out i (by rw [ly.out]; exact hlt)
      rw [ha] at k0
      rw [hb] at k1
      have A1 := fun W => add64_run (a : Int) (b : Int) (c : Int) (by omega) (by omega) (by omega) (by omega) W
      rw [show ((a : Int) + (b : Int) + (c : Int)) % 18446744073709551616 = (s : Int) by omega, show ((a : Int) + (b : Int) + (c : Int)) / 18446744073709551616 = (c' : Int) by omega] at A1
      have K0 := Lib.hid k0; have K1 := Lib.hid k1; have HSET := Lib.hid hset; have HCN := Lib.hid hcn
      clear ha hb hc0 hc1 hs hc' hcn hset k0 k1 HC
      go_wp2_with fail
      have HS : Hid (wr.drew = wr.drew) := rfl
      have D0 : Hid (wr.drew.heap[w.heap.size]? = some (.cells ((plusN x y i).map uv).toArray 195 (0, 0))) := H0.out
      have D1 : Hid (wr.drew.heap[w.heap.size + 1]? = some (.cells (Y.map uv).toArray 195 (0, 0))) := H1.out
      have D2 : Hid (wr.drew.heap[w.heap.size + 2]? = some (.cells Z3.toArray 195 (0, 0))) := H2.out
      have DB : Hid (Below w.heap.size w wr.drew) := HB.out.drew
      refine regK_start (8) (fun W => W = wr.drew) (by kernel_rfl) ?_
      try simp only [Act.put, List.setIfInBounds_toArray, List.set_cons_zero, List.set_cons_succ]
      refine regK_take (v := ?_) 0 (some 11) rfl rfl (by kernel_rfl) (by kernel_rfl) (by kernel_rfl) (fun _ _ _ h => h) (by rfl) (by kernel_rfl) HS.out (fun W => ?_) ?_
      rotate_left
      · (go_simp; try rfl)
      simp only [Act.put, List.setIfInBounds_toArray, List.set_cons_zero, List.set_cons_succ]
      refine regK_take (v := ?_) 1 (some 12) rfl rfl (by kernel_rfl) (by kernel_rfl) (by kernel_rfl) (fun _ _ _ h => h) (by rfl) (by kernel_rfl) HS.out (fun W => ?_) ?_
      rotate_left
      · (go_simp; try rfl)
      simp only [Act.put, List.setIfInBounds_toArray, List.set_cons_zero, List.set_cons_succ]
      refine regK_take (v := ?_) 2 (some 13) rfl rfl (by kernel_rfl) (by kernel_rfl) (by kernel_rfl) (fun _ _ _ h => h) (by rfl) (by kernel_rfl) HS.out (fun W => ?_) ?_
      rotate_left
      · (go_simp; try rfl)
      simp only [Act.put, List.setIfInBounds_toArray, List.set_cons_zero, List.set_cons_succ]
      refine regK_load 3 (some 14) (fun W hW => load_cell Tryz.underlying79 (cell_eq' hW K0.out)) rfl rfl rfl rfl (by kernel_rfl) (by kernel_rfl) (by kernel_rfl) (fun _ _ _ h => h) (by rfl) (by kernel_rfl) HS.out ?_
      simp only [Act.put, List.setIfInBounds_toArray, List.set_cons_zero, List.set_cons_succ]
      refine regK_take (v := ?_) 4 (some 15) rfl rfl (by kernel_rfl) (by kernel_rfl) (by kernel_rfl) (fun _ _ _ h => h) (by rfl) (by kernel_rfl) HS.out (fun W => ?_) ?_
      rotate_left
      · (go_simp; try rfl)
      simp only [Act.put, List.setIfInBounds_toArray, List.set_cons_zero, List.set_cons_succ]
      refine regK_take (v := ?_) 5 (some 16) rfl rfl (by kernel_rfl) (by kernel_rfl) (by kernel_rfl) (fun _ _ _ h => h) (by rfl) (by kernel_rfl) HS.out (fun W => ?_) ?_
      rotate_left
      · (go_simp; try rfl)
      simp only [Act.put, List.setIfInBounds_toArray, List.set_cons_zero, List.set_cons_succ]
      refine regK_load 6 (some 17) (fun W hW => load_cell Tryz.underlying79 (cell_eq' hW K1.out)) rfl rfl rfl rfl (by kernel_rfl) (by kernel_rfl) (by kernel_rfl) (fun _ _ _ h => h) (by rfl) (by kernel_rfl) HS.out ?_
      simp only [Act.put, List.setIfInBounds_toArray, List.set_cons_zero, List.set_cons_succ]
      refine regK_take (v := ?_) 7 (some 18) rfl rfl (by kernel_rfl) (by kernel_rfl) (by kernel_rfl) (fun _ _ _ h => h) (by rfl) (by kernel_rfl) HS.out (fun W => ?_) ?_
      rotate_left
      · (go_simp; try rfl)
      simp only [Act.put, List.setIfInBounds_toArray, List.set_cons_zero, List.set_cons_succ]
      refine regK_bar 8 rfl (by kernel_rfl) (by kernel_rfl) (fun K hK => ?_)
      go_simp
      refine hK.out _ _ trivial ?_
      clear hK K
      try simp only [Act.put, List.setIfInBounds_toArray, List.set_cons_zero, List.set_cons_succ]
      refine regS_take (v := ?_) 9 (some 10) rfl rfl (by kernel_rfl) (by kernel_rfl) (by kernel_rfl) (fun _ _ _ h => h) (by rfl) (fun W hW => ?_) ?_
      rotate_left
      · (go_simp; try rfl)
      simp only [Act.put, List.setIfInBounds_toArray, List.set_cons_zero, List.set_cons_succ]
      refine regS_take (v := ?_) 10 (some 20) rfl rfl (by kernel_rfl) (by kernel_rfl) (by kernel_rfl) (fun _ _ _ h => h) (by rfl) (fun W hW => ?_) ?_
      rotate_left
      · (go_simp; try rfl)
      simp only [Act.put, List.setIfInBounds_toArray, List.set_cons_zero, List.set_cons_succ]
      refine regS_take (v := ?_) 11 (some 21) rfl rfl (by kernel_rfl) (by kernel_rfl) (by kernel_rfl) (fun _ _ _ h => h) (by rfl) (fun W hW => ?_) ?_
      rotate_left
      · (go_simp; try rfl)
      simp only [Act.put, List.setIfInBounds_toArray, List.set_cons_zero, List.set_cons_succ]
      refine regS_take (v := ?_) 12 (some 22) rfl rfl (by kernel_rfl) (by kernel_rfl) (by kernel_rfl) (fun _ _ _ h => h) (by rfl) (fun W hW => ?_) ?_
      rotate_left
      · (go_simp; try rfl)
      simp only [Act.put, List.setIfInBounds_toArray, List.set_cons_zero, List.set_cons_succ]
      refine regS_eff 13 rfl (by kernel_rfl) (fun K hK => ?_)
      refine step_st1 rfl 79 (.tmp 22) (.tmp 20) rfl (store_cell (k := .u64) Tryz.underlying79 s64 (w := wr.drew) K0.out (frozen_of_heap D0.out _)) ?_
      generalize hV : World.setCell _ _ _ = W1
      obtain ⟨m1, m2, m3⟩ := ust_row (B := w.heap.size) hV (Nat.le_refl _) D0.out
      rw [HSET.out] at m1
      have M1 := Lib.hid m1; have N1 := Lib.hid (DB.out.trans m2); have E1 := Lib.hid ((m3 (w.heap.size + 1) (Nat.succ_ne_self _)).trans D1.out); have E2 := Lib.hid ((m3 (w.heap.size + 2) (by omega)).trans D2.out)
      clear m1 m2 m3 hV
      refine hK.out _ _ trivial ?_
      clear hK K
      try simp only [Act.put, List.setIfInBounds_toArray, List.set_cons_zero, List.set_cons_succ]
      refine regS_take (v := ?_) 14 (some 5) rfl rfl (by kernel_rfl) (by kernel_rfl) (by kernel_rfl) (fun _ _ _ h => h) (by rfl) (fun W hW => ?_) ?_
      rotate_left
      · (go_simp; try rfl)
      simp only [Act.put, List.setIfInBounds_toArray, List.set_cons_zero, List.set_cons_succ]
      refine regS_done (by kernel_rfl) ?_
      go_wp2
      go_roundw
      case rel => exact ⟨i + 1, c', by omega, by go_num, rfl, HCN.out.symm, N1, M1, E1, E2⟩
      case measure => simp [intOf]; omega
    · have H0' : Hid (wr.heap[w.heap.size]? = some (.cells ((plusN x y 3).map uv).toArray 195 (0, 0))) := by have := H0.out; rw [show i = 3 by omega] at this; exact this
      have hl4 : Hid (((plusN x y 3).map uv).length = 3) := rfl
      clear H0 HC
      obtain ⟨L, HLL⟩ : ∃ L, Hid ((plusN x y 3).map uv = L) := ⟨_, rfl⟩
      have hone : Hid (∀ v ∈ L, v.oneCell' = true) := by show ∀ v ∈ L, _; rw [← HLL.out]; exact uv_one _
      rw [HLL.out] at H0' hl4
      have e1 : ¬ ((i : Int) < 3) := by omega
      go_wp2_with (first
        | (refine wpList_ld rfl 195 (.tmp 2) rfl (load_arr arr3 rfl (by rw [hl4.out]; exact i3) H0'.out) ?_)
        | (refine wpList_st rfl 195 (.tmp 4) (.tmp 24) rfl (store_arr (cs := L) (by rw [hl4.out]; exact i3) hone.out H2.out (by rw [hl4.out]; exact hlz.out)) ?_))
      have hres := setRow_heap wr (w.heap.size + 2) _ L.toArray 195 _ H2.out
      exact bodyPost_ret (results_cell_row (P := Tryz.prog) rfl _ _ (w.heap.size + 2) 195 L.toArray (0, 0) _ rfl hres arr3 rfl (by rw [List.size_toArray, hl4.out]; exact i3)) rfl ⟨by rw [← HLL.out], HB.out.trans (grown_below (grown_setRow _ _ _) (by omega) HB.out.size)⟩
end Go.Proofs.YtnhhgiebnhlfcaaGreatDoor

/- Numbers of five words, brought to three: fold. -/
namespace Go.Proofs.YtnhhgiebnhlfcaaGreatDoor
open Go.RowKit
set_option maxRecDepth 100000
set_option linter.unusedVariables false
set_option linter.unusedSimpArgs false
/-- all blocks but g are as they were -/
def Grow (g : Nat) (w W : World) : Prop := w.grownBy W (some g)
instance (g : Nat) : Pre (Grow g) where
  refl w := World.grownBy.refl w _
  trans h k := ⟨k.os.trans h.os, k.tape.trans h.tape, k.output.trans h.output, Nat.le_trans h.size k.size, fun i hi hn => (k.block i (Nat.lt_of_lt_of_le hi h.size) hn).trans (h.block i hi hn)⟩
theorem Grow.trans {g : Nat} {a b c : World} (h : Grow g a b) (k : Grow g b c) : Grow g a c := Pre.trans h k
theorem Grow.of_ext {g : Nat} {w W : World} (h : Ext w W) : Grow g w W := ⟨h.os, h.tape, h.output, h.size, fun k hk _ => h.block k hk⟩
theorem Grow.heap {g b : Nat} {w W : World} {o : Obj} (h : Grow g w W) (hb : b ≠ g) (hc : w.heap[b]? = some o) : W.heap[b]? = some o :=
  (h.block b (lt_of_heap hc) (fun e => hb (by injection e))).trans hc
theorem Grow.setRow (g : Nat) (W : World) (cs : Array Value) : Grow g W (W.setRow g cs) := grown_setRow W g cs
theorem Grow.below {g B : Nat} {w W : World} (h : Grow g w W) (hB : B ≤ g) (hs : B ≤ w.heap.size) : Below B w W := grown_below h hB hs
theorem Grow.drew (g : Nat) (w : World) : Grow g w w.drew := Grow.of_ext (Below.refl _ _).drew
/-- the words of a number, five of them -/
def numL5 (n : Nat) : List Nat := [n % 18446744073709551616, n / 18446744073709551616 % 18446744073709551616, n / 340282366920938463463374607431768211456 % 18446744073709551616, n / 6277101735386680763835789423207666416102355444464034512896 % 18446744073709551616, n / 115792089237316195423570985008687907853269984665640564039457584007913129639936 % 18446744073709551616]
theorem andNot3 (x : Nat) (hx : x < 18446744073709551616) : bits .andNot .u64 (x : Int) 3 = ((4 * (x / 4) : Nat) : Int) := by
  have h := u64_andNot_nat x 3 hx (by decide)
  have e : x &&& (18446744073709551615 - 3) = 4 * (x / 4) := by
    have e1 : (18446744073709551615 - 3 : Nat) = (2 ^ 62 - 1) <<< 2 := by decide
    have e2 : 4 * (x / 4) = (x >>> 2) <<< 2 := by rw [Nat.shiftRight_eq_div_pow, Nat.shiftLeft_eq]; omega
    rw [e1, e2]
    apply Nat.eq_of_testBit_eq
    intro i
    simp only [Nat.testBit_and, Nat.testBit_shiftLeft, Nat.testBit_two_pow_sub_one, Nat.testBit_shiftRight]
    by_cases h2 : 2 ≤ i
    · have e3 : 2 + (i - 2) = i := by omega
      rw [e3]
      by_cases h64 : i < 64
      · have : i - 2 < 62 := by omega
        simp [h2, this]
      · have hf : x.testBit i = false := Nat.testBit_lt_two_pow (Nat.lt_of_lt_of_le hx (Nat.le_trans (by decide : 18446744073709551616 ≤ 2 ^ 64) (Nat.pow_le_pow_right (by decide) (by omega))))
        simp [hf]
    · simp [h2]
  rw [e] at h
  exact h
theorem and3 (x : Nat) (hx : x < 18446744073709551616) : bits .and .u64 (x : Int) 3 = ((x % 4 : Nat) : Int) := by
  have h := u64_and_nat x 3 hx (by decide)
  have e : x &&& 3 = x % 4 := Nat.and_two_pow_sub_one_eq_mod x 2
  rw [e] at h
  exact h
theorem or62 (a b : Nat) (ha : a < 4611686018427387904) : bits .or .u64 (a : Int) (((b * 4611686018427387904 % 18446744073709551616 : Nat)) : Int) = ((a + b % 4 * 4611686018427387904 : Nat) : Int) := by
  have e : b * 4611686018427387904 % 18446744073709551616 = b % 4 * 4611686018427387904 := by omega
  have hb1 : b % 4 * 4611686018427387904 < 18446744073709551616 := by omega
  have ha1 : a < 18446744073709551616 := by omega
  have hj : ∀ i, (2 : Nat) ^ i = 4611686018427387904 → (b % 4 * 4611686018427387904) ||| a = b % 4 * 4611686018427387904 + a := fun i hi => nat_join i _ a (by rw [hi]; exact Nat.mul_mod_left _ _) (by rw [hi]; exact ha)
  rw [e, u64_or_nat _ _ ha1 hb1, Nat.or_comm, hj 62 (by decide), Nat.add_comm]
/-- what stands above the lowest 130 bits is taken five times -/
def foldN (n : Nat) : Nat := n % 1361129467683753853853498429727072845824 + 5 * (n / 1361129467683753853853498429727072845824)
theorem fold_math (n x0 x1 x2 x3 : Nat) (hn : n < 115792089237316195423570985008687907853269984665640564039457584007913129639936) (h0 : x0 = n % 18446744073709551616) (h1 : x1 = n / 18446744073709551616 % 18446744073709551616) (h2 : x2 = n / 340282366920938463463374607431768211456 % 18446744073709551616)
    (h3 : x3 = n / 6277101735386680763835789423207666416102355444464034512896 % 18446744073709551616) :
    [x0, x1, x2 % 4] = numL (n % 1361129467683753853853498429727072845824) ∧ [4 * (x2 / 4), x3, 0] = numL (4 * (n / 1361129467683753853853498429727072845824)) ∧
      [x2 / 4 + x3 % 4 * 4611686018427387904, x3 / 4, 0] = numL (n / 1361129467683753853853498429727072845824) ∧ n % 1361129467683753853853498429727072845824 + (4 * (n / 1361129467683753853853498429727072845824) + n / 1361129467683753853853498429727072845824) = foldN n := by
  refine ⟨?_, ?_, ?_, ?_⟩
  · unfold numL; congr 1
    · omega
    · congr 1
      · omega
      · congr 1; omega
  · unfold numL; congr 1
    · omega
    · congr 1
      · omega
      · congr 1; omega
  · unfold numL; congr 1
    · omega
    · congr 1
      · omega
      · congr 1; omega
  · unfold foldN; omega
theorem exec_bld {P : Program} {o : Oper} {a : Act} {W : World} {t : TypeId} {parts : Array (Nat × Operand)} {v : Value} (ho : o.op = .build t parts) (hrun : (Instr.build t (parts.map fun (i, x) => (i, a.eval x))).run P W = .ok v W) :
    (execOp a.eval o).run P W = .ok (.value v) W := by
  unfold execOp
  simp only [ho, Sem.run_bind, hrun, Result.andThen_ok, Sem.run_pure]
theorem arr5 : Tryz.prog.underlying 225 = some (.array 5 79) := Tryz.underlying225
theorem i5 : (Tryz.prog.info? 225).map (·.size) = some 5 := by kernel_rfl
theorem i3l (l : List Nat) (h : l.length = 3) : (Tryz.prog.info? 195).map (·.size) = some (l.map uv).length := by rw [List.length_map, h]; exact i3
theorem heap2p (w : World) (o1 o2 : Obj) : ((w.alloc o1).alloc o2).heap[w.heap.size]? = some o1 ∧ ((w.alloc o1).alloc o2).heap[w.heap.size + 1]? = some o2 ∧ Below w.heap.size w ((w.alloc o1).alloc o2) := by
  have h := heap3 w o1 o2 o1
  refine ⟨?_, ?_, two_below w o1 o2⟩
  · rw [← h.1]; exact (Below.heap_alloc ((w.alloc o1).alloc o2) o1 _ (by simp; omega)).symm
  · rw [← h.2.1]; exact (Below.heap_alloc ((w.alloc o1).alloc o2) o1 _ (by simp)).symm
set_option maxHeartbeats 4000000 in
theorem fold_any (n : Nat) (w : World) (hn : n < 115792089237316195423570985008687907853269984665640564039457584007913129639936) :
    Calls Tryz.prog 209 #[.agg ((numL5 n).map uv).toArray] w fun e w' => e = .returned (.agg ((numL (foldN n)).map uv).toArray) ∧ Below w.heap.size w w' := by
  have hz : ∀ W, (zeroValue 195).run Tryz.prog W = .ok (.agg zeros3.toArray) W := fun W => by kernel_rfl
  have hlz : Hid (zeros3.length = 3) := rfl
  generalize zeros3 = Z3 at hz hlz
  obtain ⟨x0, h0⟩ : ∃ x0, x0 = n % 18446744073709551616 := ⟨_, rfl⟩
  obtain ⟨x1, h1⟩ : ∃ x0, x0 = n / 18446744073709551616 % 18446744073709551616 := ⟨_, rfl⟩
  obtain ⟨x2, h2⟩ : ∃ x0, x0 = n / 340282366920938463463374607431768211456 % 18446744073709551616 := ⟨_, rfl⟩
  obtain ⟨x3, h3⟩ : ∃ x0, x0 = n / 6277101735386680763835789423207666416102355444464034512896 % 18446744073709551616 := ⟨_, rfl⟩
  obtain ⟨x4, h4⟩ : ∃ x0, x0 = n / 115792089237316195423570985008687907853269984665640564039457584007913129639936 % 18446744073709551616 := ⟨_, rfl⟩
  obtain ⟨f1, f2, f3, f4⟩ := fold_math n x0 x1 x2 x3 hn h0 h1 h2 h3
  have e5 : numL5 n = [x0, x1, x2, x3, x4] := by rw [h0, h1, h2, h3, h4]; rfl
  rw [e5, ← f4]
  have b2 : x2 < 18446744073709551616 := by omega
  have b3 : x3 < 18446744073709551616 := by omega
  clear h0 h1 h2 h3 h4 e5 f4 hn
  generalize n % 1361129467683753853853498429727072845824 = A at f1 ⊢
  generalize 4 * (n / 1361129467683753853853498429727072845824) = B at f2 ⊢
  generalize n / 1361129467683753853853498429727072845824 = C at f3 ⊢
  have k1 := andNot3 x2 b2
  have k2 := and3 x2 b2
  have k3 := or62 (x2 / 4) x3 (by omega)
  obtain ⟨y2, hy2⟩ : ∃ y, y = 4 * (x2 / 4) := ⟨_, rfl⟩
  obtain ⟨z2, hz2⟩ : ∃ y, y = x2 / 4 := ⟨_, rfl⟩
  obtain ⟨z3, hz3⟩ : ∃ y, y = x3 / 4 := ⟨_, rfl⟩
  obtain ⟨u2, hu2⟩ : ∃ y, y = x2 % 4 := ⟨_, rfl⟩
  obtain ⟨v2, hv2⟩ : ∃ y, y = x2 / 4 + x3 % 4 * 4611686018427387904 := ⟨_, rfl⟩
  obtain ⟨s3, hs3⟩ : ∃ y, y = x3 * 4611686018427387904 % 18446744073709551616 := ⟨_, rfl⟩
  rw [← hy2] at k1 f2
  rw [← hu2] at k2 f1
  rw [← hv2] at k3 f3
  rw [← hz3] at f3
  rw [← hz2, ← hs3] at k3
  have d2 : (x2 : Int) / 4 = (z2 : Int) := by omega
  have d3 : (x3 : Int) / 4 = (z3 : Int) := by omega
  have d4 : IntKind.u64.wrap ((x3 : Int) * 4611686018427387904) = (s3 : Int) := by rw [IntKind.wrap_u64]; omega
  clear hy2 hz2 hz3 hu2 hv2 hs3 b2 b3
  have PL := Lib.hid (fun X Y W => plus_any X Y W)
  have hb1 : ∀ W, (Instr.build 195 #[(0, .int .u64 (y2 : Int)), (1, .int .u64 (x3 : Int))]).run Tryz.prog W = .ok (.agg (([y2, x3, 0] : List Nat).map uv).toArray) W := fun W => by kernel_rfl
  have hb2 : ∀ W, (Instr.build 195 #[(0, .int .u64 (v2 : Int)), (1, .int .u64 (z3 : Int))]).run Tryz.prog W = .ok (.agg (([v2, z3, 0] : List Nat).map uv).toArray) W := fun W => by kernel_rfl
  have hb3 : ∀ W, (Instr.build 195 #[(0, .int .u64 (x0 : Int)), (1, .int .u64 (x1 : Int)), (2, .int .u64 (u2 : Int))]).run Tryz.prog W = .ok (.agg (([x0, x1, u2] : List Nat).map uv).toArray) W := fun W => by kernel_rfl
  rw [f1] at hb3
  rw [f2] at hb1
  rw [f3] at hb2
  clear f1 f2 f3
  have HB1 := Lib.hid hb1; have HB2 := Lib.hid hb2; have HB3 := Lib.hid hb3
  clear hb1 hb2 hb3
  have LB : Hid ((numL B).length = 3) := rfl
  have LC : Hid ((numL C).length = 3) := rfl
  have LS : Hid ((numL (A + (B + C))).length = 3) := rfl
  have P1 := Lib.hid (fun W => plus_any B C W)
  have P2 := Lib.hid (fun W => plus_any A (B + C) W)
  generalize numL (A + (B + C)) = NS at P2 LS ⊢
  generalize numL (B + C) = NT at P1 P2
  generalize numL A = NA at P2 HB3
  generalize numL B = NB at P1 HB1 LB
  generalize numL C = NC at P1 HB2 LC
  clear PL A B C
  have G0 := Lib.hid (heap2p w (.cells ([x0, x1, x2, x3, x4].map uv).toArray 225) (.cells Z3.toArray 195))
  generalize hX : ([x0, x1, x2, x3, x4].map uv).toArray = X5 at G0 ⊢
  have HX5 := Lib.hid hX
  clear hX
  go_enter Tryz.func209, Tryz.ntmps209
  go_upto_region 1 with (fail)
  generalize hV : (w.alloc _).alloc _ = W0 at G0 ⊢
  clear hV
  have hc : ∀ (i v : Nat), [x0, x1, x2, x3, x4][i]? = some v → W0.cell? ⟨w.heap.size, i, none⟩ = some (.int .u64 (v : Int)) := by
    intro i v h
    have h1 := G0.out.1
    rw [← HX5.out] at h1
    rw [cell_of_heap h1 i, List.getElem?_map, h]; rfl
  have c2 := hc 2 x2 rfl
  have c3 := hc 3 x3 rfl
  have HC := Lib.hid hc
  have hsz : Hid (w.heap.size + 1 < W0.heap.size) := lt_of_heap G0.out.2.1
  clear hc
  go_upto_region 2 with (first
    | (refine wpList_run (o := ⟨some 10, _, _, _, _, _⟩) rfl (v := .agg (NB.map uv).toArray) (w' := W0) (exec_bld rfl (by simp only [List.map_toArray, List.map_cons, List.map_nil]; exact HB1.out W0)) ?_)
    | (refine wpList_st rfl 195 (.tmp 3) (.tmp 10) rfl (store_arr (cs := NB.map uv) (i3l NB LB.out) (uv_one _) (heap_alloc_new' W0 _) (by rw [List.length_map, LB.out]; exact hlz.out)) ?_
       generalize hV : World.setRow _ _ _ = W1
       have M1 := Lib.hid (heap_of_setRow hV (heap_alloc_new' W0 _))
       have MB := Lib.hid (((Below.refl W0.heap.size W0).alloc (Nat.le_refl _) _).trans (below_of_setRow hV (Nat.le_refl W0.heap.size) (by simp)))
       clear hV)
    | fail)
  clear c2 c3
  have c2 := (MB.out.cell (p := ⟨w.heap.size, 2, none⟩) (by have := hsz.out; show w.heap.size < _; omega)).trans (HC.out 2 x2 rfl)
  have c3 := (MB.out.cell (p := ⟨w.heap.size, 3, none⟩) (by have := hsz.out; show w.heap.size < _; omega)).trans (HC.out 3 x3 rfl)
  go_upto_region 3 with (first
    | (refine wpList_run (o := ⟨some 21, _, _, _, _, _⟩) rfl (v := .agg (NC.map uv).toArray) (w' := W1) (exec_bld rfl (by simp only [List.map_toArray, List.map_cons, List.map_nil]; exact HB2.out W1)) ?_)
    | (refine wpList_st rfl 195 (.tmp 4) (.tmp 21) rfl (store_arr (cs := NC.map uv) (i3l NC LC.out) (uv_one _) (heap_alloc_new' W1 _) (by rw [List.length_map, LC.out]; exact hlz.out)) ?_
       generalize hV : World.setRow _ _ _ = W2
       have M2 := Lib.hid (heap_of_setRow hV (heap_alloc_new' W1 _))
       have MB2 := Lib.hid (((Below.refl W1.heap.size W1).alloc (Nat.le_refl _) _).trans (below_of_setRow hV (Nat.le_refl W1.heap.size) (by simp)))
       clear hV)
    | fail)
  have E2 : Hid (Ext W0 W2) := Ext.trans MB.out MB2.out
  have N1 : Hid (W2.heap[W0.heap.size]? = some (.cells (NB.map uv).toArray 195 (0, 0))) := (MB2.out.block _ (lt_of_heap M1.out)).trans M1.out
  have N0 : Hid (W2.heap[w.heap.size + 1]? = some (.cells Z3.toArray 195 (0, 0))) := (E2.out.block _ hsz.out).trans G0.out.2.1
  have NX : Hid (W2.heap[w.heap.size]? = some (.cells X5 225 (0, 0))) := (E2.out.block _ (by have := hsz.out; omega)).trans G0.out.1
  have FB : Hid (Below w.heap.size w W2) := G0.out.2.2.trans (E2.out.mono G0.out.2.2.size)
  have hg1 : Hid (w.heap.size + 1 < W1.heap.size) := Nat.lt_of_lt_of_le hsz.out MB.out.size
  have HCX : Hid (∀ (W : World) (i v : Nat), W.heap[w.heap.size]? = some (.cells X5 225 (0, 0)) → [x0, x1, x2, x3, x4][i]? = some v → W.cell? ⟨w.heap.size, i, none⟩ = some (.int .u64 (v : Int))) := by
    intro W i v h1 h
    rw [← HX5.out] at h1
    rw [cell_of_heap h1 i, List.getElem?_map, h]; rfl
  clear c2 c3 MB MB2 M1 G0 HC HX5 E2
  generalize hq0 : W0.heap.size = q0 at N1 hsz ⊢
  generalize hq1 : W1.heap.size = q1 at M2 hg1 ⊢
  clear hq0 hq1
  have HX : Hid (Grow (w.heap.size + 1) W2 W2.drew) := Grow.drew _ _
  have hne0 : Hid (w.heap.size ≠ w.heap.size + 1) := by show _ ≠ _; omega
  have hne1 : Hid (q0 ≠ w.heap.size + 1) := by have := hsz.out; show _ ≠ _; omega
  have hne2 : Hid (q1 ≠ w.heap.size + 1) := by have := hg1.out; show _ ≠ _; omega
  refine regS_start (Grow (w.heap.size + 1)) (by kernel_rfl) ?_
  try simp only [Act.put, List.setIfInBounds_toArray, List.set_cons_zero, List.set_cons_succ]
  refine regS_take (v := ?_) 0 (some 22) rfl rfl (by kernel_rfl) (by kernel_rfl) (by kernel_rfl) (fun _ _ _ h => h) (by rfl) (fun W hW => ?_) ?_
  rotate_left
  · (go_simp; try rfl)
  simp only [Act.put, List.setIfInBounds_toArray, List.set_cons_zero, List.set_cons_succ]
  refine regS_load 1 (some 23) (fun W hW => load_cell Tryz.underlying79 (HCX.out W 0 x0 (hW.heap hne0.out (HX.out.heap hne0.out NX.out)) rfl)) rfl rfl rfl rfl (by kernel_rfl) (by kernel_rfl) (by kernel_rfl) (fun _ _ _ h => h) (by rfl) ?_
  simp only [Act.put, List.setIfInBounds_toArray, List.set_cons_zero, List.set_cons_succ]
  refine regS_take (v := ?_) 2 (some 24) rfl rfl (by kernel_rfl) (by kernel_rfl) (by kernel_rfl) (fun _ _ _ h => h) (by rfl) (fun W hW => ?_) ?_
  rotate_left
  · (go_simp; try rfl)
  simp only [Act.put, List.setIfInBounds_toArray, List.set_cons_zero, List.set_cons_succ]
  refine regS_load 3 (some 25) (fun W hW => load_cell Tryz.underlying79 (HCX.out W 1 x1 (hW.heap hne0.out (HX.out.heap hne0.out NX.out)) rfl)) rfl rfl rfl rfl (by kernel_rfl) (by kernel_rfl) (by kernel_rfl) (fun _ _ _ h => h) (by rfl) ?_
  simp only [Act.put, List.setIfInBounds_toArray, List.set_cons_zero, List.set_cons_succ]
  refine regS_take (v := ?_) 4 (some 26) rfl rfl (by kernel_rfl) (by kernel_rfl) (by kernel_rfl) (fun _ _ _ h => h) (by rfl) (fun W hW => ?_) ?_
  rotate_left
  · (go_simp; try rfl)
  simp only [Act.put, List.setIfInBounds_toArray, List.set_cons_zero, List.set_cons_succ]
  refine regS_load 5 (some 27) (fun W hW => load_cell Tryz.underlying79 (HCX.out W 2 x2 (hW.heap hne0.out (HX.out.heap hne0.out NX.out)) rfl)) rfl rfl rfl rfl (by kernel_rfl) (by kernel_rfl) (by kernel_rfl) (fun _ _ _ h => h) (by rfl) ?_
  simp only [Act.put, List.setIfInBounds_toArray, List.set_cons_zero, List.set_cons_succ]
  refine regS_take (v := ?_) 6 (some 28) rfl rfl (by kernel_rfl) (by kernel_rfl) (by kernel_rfl) (fun _ _ _ h => h) (by rfl) (fun W hW => ?_) ?_
  rotate_left
  · (go_simp; try rfl)
  simp only [Act.put, List.setIfInBounds_toArray, List.set_cons_zero, List.set_cons_succ]
  refine regS_take (v := ?_) 7 (some 29) rfl rfl (by kernel_rfl) (by kernel_rfl) (by kernel_rfl) (fun _ _ _ h => h) (by rfl) (fun W hW => ?_) ?_
  rotate_left
  · exact exec_bld rfl (by simp only [List.map_toArray, List.map_cons, List.map_nil]; exact HB3.out W)
  simp only [Act.put, List.setIfInBounds_toArray, List.set_cons_zero, List.set_cons_succ]
  refine regS_load 8 (some 30) (fun W hW => load_arr arr3 rfl (i3l NB LB.out) (hW.heap hne1.out (HX.out.heap hne1.out N1.out))) rfl rfl rfl rfl (by kernel_rfl) (by kernel_rfl) (by kernel_rfl) (fun _ _ _ h => h) (by rfl) ?_
  simp only [Act.put, List.setIfInBounds_toArray, List.set_cons_zero, List.set_cons_succ]
  refine regS_load 9 (some 31) (fun W hW => load_arr arr3 rfl (i3l NC LC.out) (hW.heap hne2.out (HX.out.heap hne2.out M2.out))) rfl rfl rfl rfl (by kernel_rfl) (by kernel_rfl) (by kernel_rfl) (fun _ _ _ h => h) (by rfl) ?_
  simp only [Act.put, List.setIfInBounds_toArray, List.set_cons_zero, List.set_cons_succ]
  refine regS_eff 10 rfl (by kernel_rfl) (fun K hK => ?_)
  go_simp
  refine (P1.out _).mono ?_
  rintro e w3 ⟨rfl, hb⟩
  have N3 := Lib.hid ((hb.block _ (lt_of_heap (w := W2.drew) N0.out)).trans N0.out)
  have hE := Grow.of_ext (g := w.heap.size + 1) hb
  clear hb
  refine hK.out _ _ hE ?_
  have HX := Lib.hid (Pre.trans HX.out hE)
  clear hE hK K
  try simp only [Act.put, List.setIfInBounds_toArray, List.set_cons_zero, List.set_cons_succ]
  refine regS_eff 11 rfl (by kernel_rfl) (fun K hK => ?_)
  go_simp
  refine (P2.out _).mono ?_
  rintro e w4 ⟨rfl, hb⟩
  have N4 := Lib.hid ((hb.block _ (lt_of_heap N3.out)).trans N3.out)
  have hE := Grow.of_ext (g := w.heap.size + 1) hb
  clear hb
  refine hK.out _ _ hE ?_
  have HX := Lib.hid (Pre.trans HX.out hE)
  clear hE hK K
  try simp only [Act.put, List.setIfInBounds_toArray, List.set_cons_zero, List.set_cons_succ]
  refine regS_eff 12 rfl (by kernel_rfl) (fun K hK => ?_)
  refine step_st1 rfl 195 (.tmp 2) (.tmp 33) rfl (store_arr (cs := NS.map uv) (i3l NS LS.out) (uv_one _) N4.out (by rw [List.length_map, LS.out]; exact hlz.out)) ?_
  generalize hV : World.setRow _ _ _ = W5
  have hres := Lib.hid (heap_of_setRow hV N4.out)
  have hE : Grow (w.heap.size + 1) w4 W5 := by rw [← hV]; exact Grow.setRow _ _ _
  clear hV
  refine hK.out _ _ hE ?_
  have HX := Lib.hid (Pre.trans HX.out hE)
  clear hE hK K
  try simp only [Act.put, List.setIfInBounds_toArray, List.set_cons_zero, List.set_cons_succ]
  refine regS_done (by kernel_rfl) ?_
  go_wp2
  exact bodyPost_ret (results_cell_row (P := Tryz.prog) rfl _ _ (w.heap.size + 1) 195 (NS.map uv).toArray (0, 0) _ rfl hres.out arr3 rfl (by rw [List.size_toArray]; exact i3l NS LS.out)) rfl ⟨rfl, FB.out.trans (HX.out.below (Nat.le_succ _) FB.out.size)⟩
end Go.Proofs.YtnhhgiebnhlfcaaGreatDoor

/- Numbers of three words: times. -/
namespace Go.Proofs.YtnhhgiebnhlfcaaGreatDoor
open Go.RowKit
set_option maxRecDepth 100000
set_option linter.unusedVariables false
set_option linter.unusedSimpArgs false
def tval (X R L : List Nat) (i j : Nat) : Nat := L.getD (i + j) 0 + X.getD j 0 * R.getD i 0 + L.getD (i + 3) 0
def tstep (X R L : List Nat) (i j : Nat) : List Nat := (L.set (i + j) (tval X R L i j % 18446744073709551616)).set (i + 3) (tval X R L i j / 18446744073709551616)
def outK (X R : List Nat) : Nat → List Nat
  | 0 => [0, 0, 0, 0, 0]
  | k + 1 => tstep X R (outK X R k) (k / 3) (k % 3)
theorem outK_len (X R : List Nat) (k : Nat) : (outK X R k).length = 5 := by
  induction k with
  | zero => rfl
  | succ k ih => simp [outK, tstep, ih]
theorem set_lt (L : List Nat) (i v B : Nat) (hv : v < B) (h : ∀ m, L.getD m 0 < B) : ∀ m, (L.set i v).getD m 0 < B := by
  intro m
  have := h m
  simp only [List.getD, List.getElem?_set] at this ⊢
  split
  · split <;> simp <;> omega
  · exact this
theorem outK_lt (X R : List Nat) (hX : ∀ m, X.getD m 0 < 18446744073709551616) (hR : ∀ m, R.getD m 0 < 18446744073709551616) (k : Nat) : ∀ m, (outK X R k).getD m 0 < 18446744073709551616 := by
  induction k with
  | zero =>
    intro m
    match m with
    | 0 => show (0 : Nat) < _; decide
    | 1 => show (0 : Nat) < _; decide
    | 2 => show (0 : Nat) < _; decide
    | 3 => show (0 : Nat) < _; decide
    | 4 => show (0 : Nat) < _; decide
    | m + 5 => simp [outK]
  | succ k ih =>
    have ht := onto_math _ _ _ _ (ih (k / 3 + k % 3)) (ih (k / 3 + 3)) (hX (k % 3)) (hR (k / 3))
    have hv : tval X R (outK X R k) (k / 3) (k % 3) < 340282366920938463463374607431768211456 := ht
    exact set_lt _ _ _ _ (by omega) (set_lt _ _ _ _ (by omega) ih)
theorem numL_lt (n : Nat) : ∀ m, (numL n).getD m 0 < 18446744073709551616 := by
  intro m
  match m with
  | 0 => exact Nat.mod_lt _ (by decide)
  | 1 => exact Nat.mod_lt _ (by decide)
  | 2 => exact Nat.mod_lt _ (by decide)
  | m + 3 => simp [numL]
theorem out_six (x0 x1 x2 r0 r1 r2 : Nat) : ∃ a b c d e, outK [x0, x1, x2] [r0, r1, r2] 6 = [a, b, c, d, e] ∧ a < 18446744073709551616 ∧ b < 18446744073709551616 ∧ c < 18446744073709551616 ∧ d < 18446744073709551616 ∧
    a + 18446744073709551616 * b + 340282366920938463463374607431768211456 * c + 6277101735386680763835789423207666416102355444464034512896 * d + 115792089237316195423570985008687907853269984665640564039457584007913129639936 * e =
      x0 * r0 + 18446744073709551616 * (x1 * r0 + x0 * r1) + 340282366920938463463374607431768211456 * (x2 * r0 + x1 * r1) + 6277101735386680763835789423207666416102355444464034512896 * (x2 * r1) := by
  have s0 : outK [x0, x1, x2] [r0, r1, r2] 0 = [0, 0, 0, 0, 0] := rfl
  obtain ⟨t1, h1⟩ : ∃ t, t = 0 + x0 * r0 + 0 := ⟨_, rfl⟩
  have s1 : outK [x0, x1, x2] [r0, r1, r2] 1 = [t1 % 18446744073709551616, 0, 0, t1 / 18446744073709551616, 0] := by rw [outK, s0, h1]; rfl
  obtain ⟨t2, h2⟩ : ∃ t, t = 0 + x1 * r0 + t1 / 18446744073709551616 := ⟨_, rfl⟩
  have s2 : outK [x0, x1, x2] [r0, r1, r2] 2 = [t1 % 18446744073709551616, t2 % 18446744073709551616, 0, t2 / 18446744073709551616, 0] := by rw [outK, s1, h2]; rfl
  obtain ⟨t3, h3⟩ : ∃ t, t = 0 + x2 * r0 + t2 / 18446744073709551616 := ⟨_, rfl⟩
  have s3 : outK [x0, x1, x2] [r0, r1, r2] 3 = [t1 % 18446744073709551616, t2 % 18446744073709551616, t3 % 18446744073709551616, t3 / 18446744073709551616, 0] := by rw [outK, s2, h3]; rfl
  obtain ⟨t4, h4⟩ : ∃ t, t = t2 % 18446744073709551616 + x0 * r1 + 0 := ⟨_, rfl⟩
  have s4 : outK [x0, x1, x2] [r0, r1, r2] 4 = [t1 % 18446744073709551616, t4 % 18446744073709551616, t3 % 18446744073709551616, t3 / 18446744073709551616, t4 / 18446744073709551616] := by rw [outK, s3, h4]; rfl
  obtain ⟨t5, h5⟩ : ∃ t, t = t3 % 18446744073709551616 + x1 * r1 + t4 / 18446744073709551616 := ⟨_, rfl⟩
  have s5 : outK [x0, x1, x2] [r0, r1, r2] 5 = [t1 % 18446744073709551616, t4 % 18446744073709551616, t5 % 18446744073709551616, t3 / 18446744073709551616, t5 / 18446744073709551616] := by rw [outK, s4, h5]; rfl
  obtain ⟨t6, h6⟩ : ∃ t, t = t3 / 18446744073709551616 + x2 * r1 + t5 / 18446744073709551616 := ⟨_, rfl⟩
  have s6 : outK [x0, x1, x2] [r0, r1, r2] 6 = [t1 % 18446744073709551616, t4 % 18446744073709551616, t5 % 18446744073709551616, t6 % 18446744073709551616, t6 / 18446744073709551616] := by rw [outK, s5, h6]; rfl
  refine ⟨_, _, _, _, _, s6, Nat.mod_lt _ (by decide), Nat.mod_lt _ (by decide), Nat.mod_lt _ (by decide), Nat.mod_lt _ (by decide), ?_⟩
  clear s0 s1 s2 s3 s4 s5 s6
  generalize x0 * r0 = p00 at *
  generalize x1 * r0 = p10 at *
  generalize x2 * r0 = p20 at *
  generalize x0 * r1 = p01 at *
  generalize x1 * r1 = p11 at *
  generalize x2 * r1 = p21 at *
  omega
theorem words5 (n a b c d e : Nat) (ha : a < 18446744073709551616) (hb : b < 18446744073709551616) (hc : c < 18446744073709551616) (hd : d < 18446744073709551616) (he : e < 18446744073709551616)
    (h : a + 18446744073709551616 * b + 340282366920938463463374607431768211456 * c + 6277101735386680763835789423207666416102355444464034512896 * d + 115792089237316195423570985008687907853269984665640564039457584007913129639936 * e = n) : [a, b, c, d, e] = numL5 n := by
  unfold numL5
  have h0 : a = n % 18446744073709551616 := by omega
  have h1 : b = n / 18446744073709551616 % 18446744073709551616 := by omega
  have h2 : c = n / 340282366920938463463374607431768211456 % 18446744073709551616 := by omega
  have h3 : d = n / 6277101735386680763835789423207666416102355444464034512896 % 18446744073709551616 := by omega
  have h4 : e = n / 115792089237316195423570985008687907853269984665640564039457584007913129639936 % 18446744073709551616 := by omega
  rw [← h0, ← h1, ← h2, ← h3, ← h4]
theorem out_math (x r : Nat) (hx : x < 6277101735386680763835789423207666416102355444464034512896) (hr : r < 340282366920938463463374607431768211456) : outK (numL x) (numL r) 6 = numL5 (x * r) := by
  obtain ⟨x0, h0⟩ : ∃ a, a = x % 18446744073709551616 := ⟨_, rfl⟩
  obtain ⟨x1, h1⟩ : ∃ a, a = x / 18446744073709551616 % 18446744073709551616 := ⟨_, rfl⟩
  obtain ⟨x2, h2⟩ : ∃ a, a = x / 340282366920938463463374607431768211456 % 18446744073709551616 := ⟨_, rfl⟩
  obtain ⟨r0, h3⟩ : ∃ a, a = r % 18446744073709551616 := ⟨_, rfl⟩
  obtain ⟨r1, h4⟩ : ∃ a, a = r / 18446744073709551616 % 18446744073709551616 := ⟨_, rfl⟩
  obtain ⟨r2, h5⟩ : ∃ a, a = r / 340282366920938463463374607431768211456 % 18446744073709551616 := ⟨_, rfl⟩
  have ex : numL x = [x0, x1, x2] := by rw [h0, h1, h2]; rfl
  have er : numL r = [r0, r1, r2] := by rw [h3, h4, h5]; rfl
  have e1 : x = x0 + 18446744073709551616 * x1 + 340282366920938463463374607431768211456 * x2 := by omega
  have e2 : r = r0 + 18446744073709551616 * r1 := by omega
  have hlt := outK_lt (numL x) (numL r) (numL_lt x) (numL_lt r) 6 4
  rw [ex, er] at hlt ⊢
  obtain ⟨a, b, c, d, e, hs, ha, hb, hc, hd, hv⟩ := out_six x0 x1 x2 r0 r1 r2
  rw [hs] at hlt ⊢
  refine words5 _ a b c d e ha hb hc hd hlt (hv.trans ?_)
  rw [e1, e2]
  clear hs hv ex er e1 e2 h0 h1 h2 h3 h4 h5 hlt
  have q : ∀ u v : Nat, (18446744073709551616 * u) * v = 18446744073709551616 * (u * v) := fun u v => Nat.mul_assoc _ _ _
  have q' : ∀ u v : Nat, u * (18446744073709551616 * v) = 18446744073709551616 * (u * v) := fun u v => Nat.mul_left_comm _ _ _
  have q2 : ∀ u v : Nat, (340282366920938463463374607431768211456 * u) * v = 340282366920938463463374607431768211456 * (u * v) := fun u v => Nat.mul_assoc _ _ _
  simp only [Nat.add_mul, Nat.mul_add, q, q', q2]
  omega
def TH (w W : World) (X R : List Nat) (Z : List Value) (L : List Nat) : Prop :=
  Below w.heap.size w W ∧ W.heap[w.heap.size]? = some (.cells (X.map uv).toArray 195 (0, 0)) ∧ W.heap[w.heap.size + 1]? = some (.cells (R.map uv).toArray 195 (0, 0)) ∧ W.heap[w.heap.size + 2]? = some (.cells Z.toArray 195 (0, 0)) ∧ W.heap[w.heap.size + 3]? = some (.cells (L.map uv).toArray 225 (0, 0))
theorem TH.drew {w W : World} {X R L : List Nat} {Z : List Value} (h : TH w W X R Z L) : TH w W.drew X R Z L := ⟨h.1.drew, h.2⟩
theorem TH.set {w W W' : World} {X R L : List Nat} {Z : List Value} {i v : Nat} (h : TH w W X R Z L) (hV : W.setCell ⟨w.heap.size + 3, i, none⟩ (.int .u64 (v : Int)) = W') : TH w W' X R Z (L.set i v) := by
  obtain ⟨m1, m2, m3⟩ := ust_row (B := w.heap.size) hV (by omega) h.2.2.2.2
  exact ⟨h.1.trans m2, (m3 _ (by omega)).trans h.2.1, (m3 _ (by omega)).trans h.2.2.1, (m3 _ (by omega)).trans h.2.2.2.1, m1⟩
theorem th_new (w : World) (X R L : List Nat) (Z : List Value) : TH w ((((w.alloc (.cells (X.map uv).toArray 195)).alloc (.cells (R.map uv).toArray 195)).alloc (.cells Z.toArray 195)).alloc (.cells (L.map uv).toArray 225)) X R Z L := by
  have h := heap3 w (.cells (X.map uv).toArray 195) (.cells (R.map uv).toArray 195) (.cells Z.toArray 195)
  generalize hV : ((w.alloc _).alloc _).alloc _ = W at h ⊢
  have hs : W.heap.size = w.heap.size + 3 := by rw [← hV]; simp
  have ho := fun k hk => Below.heap_alloc W (.cells (L.map uv).toArray 225) k hk
  refine ⟨h.2.2.2.alloc h.2.2.2.size _, (ho _ (by omega)).trans h.1, (ho _ (by omega)).trans h.2.1, (ho _ (by omega)).trans h.2.2.1, ?_⟩
  rw [← hs]; exact heap_alloc_new' W _
set_option maxHeartbeats 4000000 in
theorem times_any (x r : Nat) (w : World) (hx : x < 6277101735386680763835789423207666416102355444464034512896) (hr : r < 340282366920938463463374607431768211456) (hxr : x * r < 115792089237316195423570985008687907853269984665640564039457584007913129639936) :
    Calls Tryz.prog 198 #[.agg ((numL x).map uv).toArray, .agg ((numL r).map uv).toArray] w fun e w' => e = .returned (.agg ((numL (foldN (x * r))).map uv).toArray) ∧ Below w.heap.size w w' := by
  have hz : ∀ W, (zeroValue 195).run Tryz.prog W = .ok (.agg zeros3.toArray) W := fun W => by kernel_rfl
  have hz5 : ∀ W, (zeroValue 225).run Tryz.prog W = .ok (.agg ((outK (numL x) (numL r) 0).map uv).toArray) W := fun W => by kernel_rfl
  have hlz : Hid (zeros3.length = 3) := rfl
  have FO := Lib.hid (fun W => fold_any (x * r) W hxr)
  have OM := Lib.hid (out_math x r hx hr)
  have LF : Hid ((numL (foldN (x * r))).length = 3) := rfl
  have LX : Hid ((numL x).length = 3) := rfl
  have LR : Hid ((numL r).length = 3) := rfl
  have BX := Lib.hid (numL_lt x)
  have BR := Lib.hid (numL_lt r)
  clear hx hr hxr
  generalize numL (foldN (x * r)) = NF at FO LF ⊢
  generalize numL5 (x * r) = N5 at FO OM
  generalize numL x = X at hz5 OM LX BX ⊢
  generalize numL r = R at hz5 OM LR BR ⊢
  generalize zeros3 = Z3 at hz hlz
  have T0 := Lib.hid (th_new w X R (outK X R 0) Z3)
  obtain ⟨L0, HL0⟩ : ∃ L0, Hid (outK X R 0 = L0) := ⟨_, rfl⟩
  rw [HL0.out] at hz5 T0
  go_enter Tryz.func198, Tryz.ntmps198
  go_wp2_with fail
  generalize hV : (((w.alloc _).alloc _).alloc _).alloc _ = W0 at T0 ⊢
  clear hV hz hz5
  go_loopw [8] (fun vi wr => ∃ (i : Nat), i ≤ 2 ∧ vi = .int .i64 (i : Int) ∧ Hid (TH w wr X R Z3 (outK X R (3 * i)))) (fun i _ => 2 - (intOf i).toNat)
  case atStart => exact ⟨0, by omega, rfl, by show TH _ _ _ _ _ _; rw [Nat.mul_zero, HL0.out]; exact T0.out⟩
  case round =>
    clear T0 HL0
    obtain ⟨i, hi, rfl, H⟩ := hrel
    by_cases hlt : i < 2
    · have e1 : (i : Int) < 2 := by omega
      obtain ⟨wo, hwo⟩ : ∃ x, x = wr := ⟨_, rfl⟩
      subst hwo
      go_wp2_with fail
      go_loopw [11] (fun vi wr => ∃ (j : Nat), j ≤ 3 ∧ vi = .int .i64 (j : Int) ∧ Hid (TH w wr X R Z3 (outK X R (3 * i + j)))) (fun i _ => 3 - (intOf i).toNat)
      case atStart => exact ⟨0, by omega, rfl, H⟩
      case round =>
        clear H
        obtain ⟨j, hj, rfl, H⟩ := hrel
        by_cases hjt : j < 3
        · have e2 : (j : Int) < 3 := by omega
          obtain ⟨p, hp⟩ : ∃ p, p = i + j := ⟨_, rfl⟩
          obtain ⟨q, hq⟩ : ∃ q, q = i + 3 := ⟨_, rfl⟩
          have u1 : IntKind.i64.wrap ((i : Int) + (j : Int)) = (p : Int) := by rw [IntKind.wrap_i64]; omega
          have u2 : IntKind.i64.wrap ((i : Int) + 3) = (q : Int) := by rw [IntKind.wrap_i64]; omega
          have b1 : (p : Int) < 5 := by omega
          have b2 : (q : Int) < 5 := by omega
          have b3 : (i : Int) < 3 := by omega
          have hlo := outK_len X R (3 * i + j)
          have hbo := outK_lt X R BX.out BR.out (3 * i + j)
          have hst : outK X R (3 * i + j + 1) = tstep X R (outK X R (3 * i + j)) i j := by
            have h1 : (3 * i + j) / 3 = i := by omega
            have h2 : (3 * i + j) % 3 = j := by omega
            rw [outK, h1, h2]
          have T := H.out.drew
          obtain ⟨L, hL⟩ : ∃ L, L = outK X R (3 * i + j) := ⟨_, rfl⟩
          rw [← hL] at hlo hbo hst T
          unfold tstep tval at hst
          rw [← hp, ← hq] at hst
          have k0 := ucell T.2.2.2.2 p (by omega)
          have k1 := ucell T.2.1 j (by rw [LX.out]; exact hjt)
          have k2 := ucell T.2.2.1 i (by rw [LR.out]; omega)
          have k3 := ucell T.2.2.2.2 q (by omega)
          have g0 := hbo p
          have g1 := BX.out j
          have g2 := BR.out i
          have g3 := hbo q
          generalize L.getD p 0 = a at k0 g0 hst
          generalize X.getD j 0 = xx at k1 g1 hst
          generalize R.getD i 0 = rr at k2 g2 hst
          generalize L.getD q 0 = b at k3 g3 hst
          have ON := Lib.hid (fun W => onto_any a xx rr b W g0 g1 g2 g3)
          have K0 := Lib.hid k0; have K1 := Lib.hid k1; have K2 := Lib.hid k2; have K3 := Lib.hid k3
          have HT := Lib.hid T; have HLO := Lib.hid hlo; have HST := Lib.hid hst
          have HPQ : Hid (p < 5 ∧ q < 5) := by constructor <;> omega
          generalize (a + xx * rr + b) % 18446744073709551616 = lo at ON HST
          generalize (a + xx * rr + b) / 18446744073709551616 = hi at ON HST
          clear k0 k1 k2 k3 g0 g1 g2 g3 T hlo hbo hst hL hp hq H
          go_wp2_with fail
          have HS : Hid (wr.drew = wr.drew) := rfl
          refine regK_start (20) (fun W => W = wr.drew) (by kernel_rfl) ?_
          try simp only [Act.put, List.setIfInBounds_toArray, List.set_cons_zero, List.set_cons_succ]
          refine regK_take (v := ?_) 0 (some 15) rfl rfl (by kernel_rfl) (by kernel_rfl) (by kernel_rfl) (fun _ _ _ h => h) (by rfl) (by kernel_rfl) HS.out (fun W => ?_) ?_
          rotate_left
          · (go_simp; try rfl)
          simp only [Act.put, List.setIfInBounds_toArray, List.set_cons_zero, List.set_cons_succ]
          refine regK_take (v := ?_) 1 (some 16) rfl rfl (by kernel_rfl) (by kernel_rfl) (by kernel_rfl) (fun _ _ _ h => h) (by rfl) (by kernel_rfl) HS.out (fun W => ?_) ?_
          rotate_left
          · (go_simp; try rfl)
          simp only [Act.put, List.setIfInBounds_toArray, List.set_cons_zero, List.set_cons_succ]
          refine regK_take (v := ?_) 2 (some 17) rfl rfl (by kernel_rfl) (by kernel_rfl) (by kernel_rfl) (fun _ _ _ h => h) (by rfl) (by kernel_rfl) HS.out (fun W => ?_) ?_
          rotate_left
          · (go_simp; try rfl)
          simp only [Act.put, List.setIfInBounds_toArray, List.set_cons_zero, List.set_cons_succ]
          refine regK_take (v := ?_) 3 (some 18) rfl rfl (by kernel_rfl) (by kernel_rfl) (by kernel_rfl) (fun _ _ _ h => h) (by rfl) (by kernel_rfl) HS.out (fun W => ?_) ?_
          rotate_left
          · (go_simp; try rfl)
          simp only [Act.put, List.setIfInBounds_toArray, List.set_cons_zero, List.set_cons_succ]
          refine regK_take (v := ?_) 4 (some 19) rfl rfl (by kernel_rfl) (by kernel_rfl) (by kernel_rfl) (fun _ _ _ h => h) (by rfl) (by kernel_rfl) HS.out (fun W => ?_) ?_
          rotate_left
          · (go_simp; try rfl)
          simp only [Act.put, List.setIfInBounds_toArray, List.set_cons_zero, List.set_cons_succ]
          refine regK_take (v := ?_) 5 (some 20) rfl rfl (by kernel_rfl) (by kernel_rfl) (by kernel_rfl) (fun _ _ _ h => h) (by rfl) (by kernel_rfl) HS.out (fun W => ?_) ?_
          rotate_left
          · (go_simp; try rfl)
          simp only [Act.put, List.setIfInBounds_toArray, List.set_cons_zero, List.set_cons_succ]
          refine regK_take (v := ?_) 6 (some 21) rfl rfl (by kernel_rfl) (by kernel_rfl) (by kernel_rfl) (fun _ _ _ h => h) (by rfl) (by kernel_rfl) HS.out (fun W => ?_) ?_
          rotate_left
          · (go_simp; try rfl)
          simp only [Act.put, List.setIfInBounds_toArray, List.set_cons_zero, List.set_cons_succ]
          refine regK_take (v := ?_) 7 (some 22) rfl rfl (by kernel_rfl) (by kernel_rfl) (by kernel_rfl) (fun _ _ _ h => h) (by rfl) (by kernel_rfl) HS.out (fun W => ?_) ?_
          rotate_left
          · (go_simp; try rfl)
          simp only [Act.put, List.setIfInBounds_toArray, List.set_cons_zero, List.set_cons_succ]
          refine regK_take (v := ?_) 8 (some 23) rfl rfl (by kernel_rfl) (by kernel_rfl) (by kernel_rfl) (fun _ _ _ h => h) (by rfl) (by kernel_rfl) HS.out (fun W => ?_) ?_
          rotate_left
          · (go_simp; try rfl)
          simp only [Act.put, List.setIfInBounds_toArray, List.set_cons_zero, List.set_cons_succ]
          refine regK_load 9 (some 24) (fun W hW => load_cell Tryz.underlying79 (cell_eq' hW K0.out)) rfl rfl rfl rfl (by kernel_rfl) (by kernel_rfl) (by kernel_rfl) (fun _ _ _ h => h) (by rfl) (by kernel_rfl) HS.out ?_
          simp only [Act.put, List.setIfInBounds_toArray, List.set_cons_zero, List.set_cons_succ]
          refine regK_take (v := ?_) 10 (some 25) rfl rfl (by kernel_rfl) (by kernel_rfl) (by kernel_rfl) (fun _ _ _ h => h) (by rfl) (by kernel_rfl) HS.out (fun W => ?_) ?_
          rotate_left
          · (go_simp; try rfl)
          simp only [Act.put, List.setIfInBounds_toArray, List.set_cons_zero, List.set_cons_succ]
          refine regK_take (v := ?_) 11 (some 26) rfl rfl (by kernel_rfl) (by kernel_rfl) (by kernel_rfl) (fun _ _ _ h => h) (by rfl) (by kernel_rfl) HS.out (fun W => ?_) ?_
          rotate_left
          · (go_simp; try rfl)
          simp only [Act.put, List.setIfInBounds_toArray, List.set_cons_zero, List.set_cons_succ]
          refine regK_load 12 (some 27) (fun W hW => load_cell Tryz.underlying79 (cell_eq' hW K1.out)) rfl rfl rfl rfl (by kernel_rfl) (by kernel_rfl) (by kernel_rfl) (fun _ _ _ h => h) (by rfl) (by kernel_rfl) HS.out ?_
          simp only [Act.put, List.setIfInBounds_toArray, List.set_cons_zero, List.set_cons_succ]
          refine regK_take (v := ?_) 13 (some 28) rfl rfl (by kernel_rfl) (by kernel_rfl) (by kernel_rfl) (fun _ _ _ h => h) (by rfl) (by kernel_rfl) HS.out (fun W => ?_) ?_
          rotate_left
          · (go_simp; try rfl)
          simp only [Act.put, List.setIfInBounds_toArray, List.set_cons_zero, List.set_cons_succ]
          refine regK_take (v := ?_) 14 (some 29) rfl rfl (by kernel_rfl) (by kernel_rfl) (by kernel_rfl) (fun _ _ _ h => h) (by rfl) (by kernel_rfl) HS.out (fun W => ?_) ?_
          rotate_left
          · (go_simp; try rfl)
          simp only [Act.put, List.setIfInBounds_toArray, List.set_cons_zero, List.set_cons_succ]
          refine regK_load 15 (some 30) (fun W hW => load_cell Tryz.underlying79 (cell_eq' hW K2.out)) rfl rfl rfl rfl (by kernel_rfl) (by kernel_rfl) (by kernel_rfl) (fun _ _ _ h => h) (by rfl) (by kernel_rfl) HS.out ?_
          simp only [Act.put, List.setIfInBounds_toArray, List.set_cons_zero, List.set_cons_succ]
          refine regK_take (v := ?_) 16 (some 31) rfl rfl (by kernel_rfl) (by kernel_rfl) (by kernel_rfl) (fun _ _ _ h => h) (by rfl) (by kernel_rfl) HS.out (fun W => ?_) ?_
          rotate_left
          · (go_simp; try rfl)
          simp only [Act.put, List.setIfInBounds_toArray, List.set_cons_zero, List.set_cons_succ]
          refine regK_take (v := ?_) 17 (some 32) rfl rfl (by kernel_rfl) (by kernel_rfl) (by kernel_rfl) (fun _ _ _ h => h) (by rfl) (by kernel_rfl) HS.out (fun W => ?_) ?_
          rotate_left
          · (go_simp; try rfl)
          simp only [Act.put, List.setIfInBounds_toArray, List.set_cons_zero, List.set_cons_succ]
          refine regK_take (v := ?_) 18 (some 33) rfl rfl (by kernel_rfl) (by kernel_rfl) (by kernel_rfl) (fun _ _ _ h => h) (by rfl) (by kernel_rfl) HS.out (fun W => ?_) ?_
          rotate_left
          · (go_simp; try rfl)
          simp only [Act.put, List.setIfInBounds_toArray, List.set_cons_zero, List.set_cons_succ]
          refine regK_load 19 (some 34) (fun W hW => load_cell Tryz.underlying79 (cell_eq' hW K3.out)) rfl rfl rfl rfl (by kernel_rfl) (by kernel_rfl) (by kernel_rfl) (fun _ _ _ h => h) (by rfl) (by kernel_rfl) HS.out ?_
          simp only [Act.put, List.setIfInBounds_toArray, List.set_cons_zero, List.set_cons_succ]
          refine regK_bar 20 rfl (by kernel_rfl) (by kernel_rfl) (fun K hK => ?_)
          go_simp
          refine (ON.out _).mono ?_
          rintro ee w3 ⟨rfl, rfl⟩
          refine hK.out _ _ trivial ?_
          clear hK K
          try simp only [Act.put, List.setIfInBounds_toArray, List.set_cons_zero, List.set_cons_succ]
          refine regS_take (v := ?_) 21 (some 14) rfl rfl (by kernel_rfl) (by kernel_rfl) (by kernel_rfl) (fun _ _ _ h => h) (by rfl) (fun W hW => ?_) ?_
          rotate_left
          · (go_simp; try rfl)
          simp only [Act.put, List.setIfInBounds_toArray, List.set_cons_zero, List.set_cons_succ]
          refine regS_take (v := ?_) 22 (some 36) rfl rfl (by kernel_rfl) (by kernel_rfl) (by kernel_rfl) (fun _ _ _ h => h) (by rfl) (fun W hW => ?_) ?_
          rotate_left
          · (go_simp; try rfl)
          simp only [Act.put, List.setIfInBounds_toArray, List.set_cons_zero, List.set_cons_succ]
          refine regS_take (v := ?_) 23 (some 37) rfl rfl (by kernel_rfl) (by kernel_rfl) (by kernel_rfl) (fun _ _ _ h => h) (by rfl) (fun W hW => ?_) ?_
          rotate_left
          · (go_simp; try rfl)
          simp only [Act.put, List.setIfInBounds_toArray, List.set_cons_zero, List.set_cons_succ]
          refine regS_take (v := ?_) 24 (some 38) rfl rfl (by kernel_rfl) (by kernel_rfl) (by kernel_rfl) (fun _ _ _ h => h) (by rfl) (fun W hW => ?_) ?_
          rotate_left
          · (go_simp; try rfl)
          simp only [Act.put, List.setIfInBounds_toArray, List.set_cons_zero, List.set_cons_succ]
          refine regS_eff 25 rfl (by kernel_rfl) (fun K hK => ?_)
          refine step_st1 rfl 79 (.tmp 38) (.tmp 36) rfl (store_cell (k := .u64) Tryz.underlying79 s64 (w := wr.drew) K0.out (frozen_of_heap HT.out.2.2.2.2 _)) ?_
          generalize hV : World.setCell _ _ _ = W1
          have T1 := Lib.hid (HT.out.set hV)
          clear hV
          refine hK.out _ _ trivial ?_
          clear hK K
          try simp only [Act.put, List.setIfInBounds_toArray, List.set_cons_zero, List.set_cons_succ]
          refine regS_take (v := ?_) 26 (some 39) rfl rfl (by kernel_rfl) (by kernel_rfl) (by kernel_rfl) (fun _ _ _ h => h) (by rfl) (fun W hW => ?_) ?_
          rotate_left
          · (go_simp; try rfl)
          simp only [Act.put, List.setIfInBounds_toArray, List.set_cons_zero, List.set_cons_succ]
          refine regS_eff 27 rfl (by kernel_rfl) (fun K hK => ?_)
          refine step_st1 rfl 79 (.tmp 39) (.tmp 37) rfl (store_cell (k := .u64) Tryz.underlying79 s64 (w := W1) (ucell T1.out.2.2.2.2 q (by rw [List.length_set, HLO.out]; exact HPQ.out.2)) (frozen_of_heap T1.out.2.2.2.2 _)) ?_
          generalize hV : World.setCell _ _ _ = W2
          have T2 := Lib.hid (T1.out.set hV)
          clear hV
          refine hK.out _ _ trivial ?_
          clear hK K
          try simp only [Act.put, List.setIfInBounds_toArray, List.set_cons_zero, List.set_cons_succ]
          refine regS_done (by kernel_rfl) ?_
          rw [← HST.out] at T2
          go_wp2
          go_roundw
          case rel => exact ⟨j + 1, by omega, by go_num, T2⟩
          case measure => simp [intOf]; omega
        · have e2 : ¬ ((j : Int) < 3) := by omega
          have H' : Hid (TH w wr X R Z3 (outK X R (3 * (i + 1)))) := by have := H.out; rw [show 3 * i + j = 3 * (i + 1) by omega] at this; exact this
          clear H
          go_wp2
          go_roundw
          case rel => exact ⟨i + 1, by omega, by go_num, H'⟩
          case measure => simp [intOf]; omega
    · have e1 : ¬ ((i : Int) < 2) := by omega
      have H' : Hid (TH w wr X R Z3 N5) := by have := H.out; rw [show 3 * i = 6 by omega, OM.out] at this; exact this
      have L5 : Hid (N5.length = 5) := by show _ = _; rw [← OM.out]; exact outK_len _ _ _
      clear H
      go_wp2_with (first
        | (refine wpList_ld rfl 225 (.tmp 5) rfl (load_arr arr5 rfl (by rw [List.length_map, L5.out]; exact i5) H'.out.2.2.2.2) ?_))
      refine (FO.out wr).mono ?_
      rintro e w3 ⟨rfl, hb⟩
      have HB : Hid (Below w.heap.size w w3) := H'.out.1.trans (hb.mono H'.out.1.size)
      have N3 := Lib.hid ((hb.block _ (lt_of_heap H'.out.2.2.2.1)).trans H'.out.2.2.2.1)
      clear hb
      go_wp2_with (first
        | (refine wpList_st rfl 195 (.tmp 4) (.tmp 43) rfl (store_arr (cs := NF.map uv) (i3l NF LF.out) (uv_one _) N3.out (by rw [List.length_map, LF.out]; exact hlz.out)) ?_))
      have hres := setRow_heap w3 (w.heap.size + 2) _ (NF.map uv).toArray 195 _ N3.out
      exact bodyPost_ret (results_cell_row (P := Tryz.prog) rfl _ _ (w.heap.size + 2) 195 (NF.map uv).toArray (0, 0) _ rfl hres arr3 rfl (by rw [List.size_toArray]; exact i3l NF LF.out)) rfl ⟨rfl, HB.out.trans (grown_below (grown_setRow _ _ _) (by omega) HB.out.size)⟩
end Go.Proofs.YtnhhgiebnhlfcaaGreatDoor

/- poly: least, value, step. -/
namespace Go.Proofs.YtnhhgiebnhlfcaaGreatDoor
open Go.RowKit
set_option maxRecDepth 100000
set_option linter.unusedVariables false
set_option linter.unusedSimpArgs false
/-- what x is modulo 2^130 - 5, of its lowest 128 bits -/
def leastN (x : Nat) : Nat := x + 5 * ((x + 5) / 1361129467683753853853498429727072845824)
set_option maxHeartbeats 2000000 in
theorem least_any (x : Nat) (w : World) (hx : x < 2722258935367507707706996859454145691648) :
    Calls Tryz.prog 187 #[.agg ((numL x).map uv).toArray] w fun e w' => e = .returned (.agg ((numL (leastN x)).map uv).toArray) ∧ Below w.heap.size w w' := by
  have hz : ∀ W, (zeroValue 195).run Tryz.prog W = .ok (.agg zeros3.toArray) W := fun W => by kernel_rfl
  have hlz : Hid (zeros3.length = 3) := rfl
  have B1 : Hid (∀ W, (Instr.build 195 #[(0, .int .u64 5)]).run Tryz.prog W = .ok (.agg ((numL 5).map uv).toArray) W) := fun W => by kernel_rfl
  have P1 := Lib.hid (fun W => plus_any x 5 W)
  obtain ⟨q, hq⟩ : ∃ q, q = (x + 5) / 1361129467683753853853498429727072845824 := ⟨_, rfl⟩
  obtain ⟨c, hc⟩ : ∃ c, c = (x + 5) / 340282366920938463463374607431768211456 % 18446744073709551616 := ⟨_, rfl⟩
  have hcq : (c : Int) / 4 = (q : Int) := by omega
  have e1 : ((numL (x + 5)).map uv).toArray = #[.int .u64 (((x + 5) % 18446744073709551616 : Nat) : Int), .int .u64 (((x + 5) / 18446744073709551616 % 18446744073709551616 : Nat) : Int), .int .u64 (c : Int)] := by rw [hc]; rfl
  obtain ⟨z, hzz⟩ : ∃ z, z = 5 * q := ⟨_, rfl⟩
  have hz64 : z < 18446744073709551616 := by omega
  have w5 : IntKind.u64.wrap (5 * (q : Int)) = (z : Int) := by rw [IntKind.wrap_u64]; omega
  have hnz : numL z = [z, 0, 0] := by unfold numL; rw [Nat.mod_eq_of_lt hz64, Nat.div_eq_of_lt hz64, Nat.div_eq_of_lt (Nat.lt_of_lt_of_le hz64 (by decide))]
  have B2 : Hid (∀ W, (Instr.build 195 #[(0, .int .u64 (z : Int))]).run Tryz.prog W = .ok (.agg ((numL z).map uv).toArray) W) := by rw [hnz]; intro W; kernel_rfl
  have P2 := Lib.hid (fun W => plus_any x z W)
  have hl : leastN x = x + z := by unfold leastN; rw [← hq, ← hzz]
  rw [hl]
  rw [e1] at P1
  generalize (((x + 5) % 18446744073709551616 : Nat) : Int) = s0 at P1
  generalize (((x + 5) / 18446744073709551616 % 18446744073709551616 : Nat) : Int) = s1 at P1
  have LX : Hid ((numL x).length = 3) := rfl
  have LS : Hid ((numL (x + z)).length = 3) := rfl
  generalize numL (x + z) = NS at P2 LS ⊢
  generalize numL z = NZ at P2 B2
  generalize numL 5 = N5 at P1 B1
  generalize numL x = NX at P1 P2 LX ⊢
  generalize zeros3 = Z3 at hz hlz
  clear hq hc e1 hzz hz64 hnz hl hx
  have hix : ∀ W, (Instr.index 195 (.agg #[.int .u64 s0, .int .u64 s1, .int .u64 (c : Int)]) (.int .i64 2)).run Tryz.prog W = .ok (.int .u64 (c : Int)) W := fun W => by kernel_rfl
  have G0 := Lib.hid (heap2p w (.cells (NX.map uv).toArray 195) (.cells Z3.toArray 195))
  go_enter Tryz.func187, Tryz.ntmps187
  go_upto_region 1 with (fail)
  generalize hV : (w.alloc _).alloc _ = W0 at G0 ⊢
  clear hV
  go_wp2_with (first
    | (refine wpList_ld rfl 195 (.tmp 1) rfl (load_arr arr3 rfl (i3l NX LX.out) G0.out.1) ?_)
    | (refine wpList_run (o := ⟨some 5, _, _, _, _, _⟩) rfl (v := .agg (N5.map uv).toArray) (w' := W0) (exec_bld rfl (by simp only [List.map_toArray, List.map_cons, List.map_nil]; exact B1.out W0)) ?_))
  refine (P1.out W0).mono ?_
  rintro e w1 ⟨rfl, hb⟩
  have FB : Hid (Below w.heap.size w w1) := G0.out.2.2.trans (hb.mono G0.out.2.2.size)
  have N0 := Lib.hid ((hb.block _ (lt_of_heap G0.out.1)).trans G0.out.1)
  have N1 := Lib.hid ((hb.block _ (lt_of_heap G0.out.2.1)).trans G0.out.2.1)
  clear hb G0 P1 B1
  go_wp2_with (first
    | (refine wpList_ld rfl 195 (.tmp 1) rfl (load_arr arr3 rfl (i3l NX LX.out) N0.out) ?_)
    | (refine wpList_run (o := ⟨some 12, _, _, _, _, _⟩) rfl (v := .agg (NZ.map uv).toArray) (w' := w1) (exec_bld rfl (by simp only [List.map_toArray, List.map_cons, List.map_nil]; exact B2.out w1)) ?_))
  refine (P2.out w1).mono ?_
  rintro e w2 ⟨rfl, hb⟩
  have FB2 : Hid (Below w.heap.size w w2) := FB.out.trans (hb.mono FB.out.size)
  have N2 := Lib.hid ((hb.block _ (lt_of_heap N1.out)).trans N1.out)
  clear hb N0 N1 P2 B2 FB
  go_wp2_with (first
    | (refine wpList_st rfl 195 (.tmp 2) (.tmp 13) rfl (store_arr (cs := NS.map uv) (i3l NS LS.out) (uv_one _) N2.out (by rw [List.length_map, LS.out]; exact hlz.out)) ?_))
  have hres := setRow_heap w2 (w.heap.size + 1) _ (NS.map uv).toArray 195 _ N2.out
  exact bodyPost_ret (results_cell_row (P := Tryz.prog) rfl _ _ (w.heap.size + 1) 195 (NS.map uv).toArray (0, 0) _ rfl hres arr3 rfl (by rw [List.size_toArray]; exact i3l NS LS.out)) rfl ⟨rfl, FB2.out.trans (grown_below (grown_setRow _ _ _) (by omega) FB2.out.size)⟩
theorem littleN_append (a b : List UInt8) : littleN (a ++ b) = littleN a + 256 ^ a.length * littleN b := by
  unfold littleN
  rw [List.reverse_append, bigN_append, List.length_reverse, Nat.mul_comm, Nat.add_comm]
theorem value_math (bs : List UInt8) (h1 : 16 ≤ bs.length) (h2 : bs.length ≤ 24) : numL (littleN bs) = [littleN ((bs.take 8).take 8), littleN (((bs.drop 8).take 8).take 8), littleN ((bs.drop 16).take 8)] := by
  have e : bs = bs.take 8 ++ ((bs.drop 8).take 8 ++ bs.drop 16) := by
    have h1 := List.take_append_drop 8 bs
    have h2 := List.take_append_drop 8 (bs.drop 8)
    rw [List.drop_drop] at h2
    rw [h2, h1]
  have p8 : (256 : Nat) ^ 8 = 18446744073709551616 := by decide
  have la : (bs.take 8).length = 8 := by rw [List.length_take]; omega
  have lb : ((bs.drop 8).take 8).length = 8 := by rw [List.length_take, List.length_drop]; omega
  have lc : (bs.drop 16).length ≤ 8 := by rw [List.length_drop]; omega
  have ha := littleN_lt (bs.take 8)
  have hb := littleN_lt ((bs.drop 8).take 8)
  have hc := littleN_lt (bs.drop 16)
  have hc' : littleN (bs.drop 16) < 256 ^ 8 := Nat.lt_of_lt_of_le hc (Nat.pow_le_pow_right (by decide) lc)
  rw [List.take_of_length_le (l := bs.take 8) (by omega), List.take_of_length_le (l := (bs.drop 8).take 8) (by omega), List.take_of_length_le (l := bs.drop 16) lc]
  have hv : littleN bs = littleN (bs.take 8) + 18446744073709551616 * littleN ((bs.drop 8).take 8) + 340282366920938463463374607431768211456 * littleN (bs.drop 16) := by
    conv => lhs; rw [e]
    rw [littleN_append, littleN_append, la, lb, p8, Nat.mul_add, ← Nat.mul_assoc]
    omega
  rw [la, p8] at ha
  rw [lb, p8] at hb
  rw [p8] at hc'
  generalize littleN (bs.take 8) = a at *
  generalize littleN ((bs.drop 8).take 8) = b at *
  generalize littleN (bs.drop 16) = c at *
  rw [hv]
  clear hc
  unfold numL
  have q0 : (a + 18446744073709551616 * b + 340282366920938463463374607431768211456 * c) % 18446744073709551616 = a := by omega
  have q1 : (a + 18446744073709551616 * b + 340282366920938463463374607431768211456 * c) / 18446744073709551616 % 18446744073709551616 = b := by omega
  have q2 : (a + 18446744073709551616 * b + 340282366920938463463374607431768211456 * c) / 340282366920938463463374607431768211456 % 18446744073709551616 = c := by omega
  rw [q0, q1, q2]
theorem sl_take' {w : World} {A : Option Addr} {c q : Nat} {b : List UInt8} (h : Sl w A c b) : Sl w A c (b.take q) := by
  have := h.2.2.take q
  rw [← List.map_take] at this
  exact ⟨by have := h.1; rw [List.length_take]; omega, h.2.1, this⟩
theorem sl_drop' {w : World} {A : Option Addr} {c k : Nat} {l : List UInt8} (h : Sl w A c l) (hk : k ≤ l.length) : Sl w (cutS A c k) (c - k) (l.drop k) := by
  have h1 := h.1
  have h2 := h.2.1
  refine ⟨by rw [List.length_drop]; omega, by omega, ?_⟩
  have := h.2.2.cut (c := c) (l := k) (by simpa using hk) (by simpa using h1)
  rwa [← List.map_drop] at this
theorem little_s (A : Option Addr) (n c : Nat) (bs : List UInt8) (W : World) (hl : bs.length = n) (h : Sl W A c bs) :
    Calls Tryz.prog 196 #[.slice A n c] W fun e w' => e = .returned (.int .u64 (littleN (bs.take 8) : Int)) ∧ Below W.heap.size W w' :=
  little_n A n c bs W hl (by have := h.1; omega) h.2.1 h.2.2
set_option maxHeartbeats 2000000 in
theorem value_any (A : Option Addr) (n c : Nat) (bs : List UInt8) (w : World) (hl : bs.length = n) (h1 : 16 ≤ n) (h2 : n ≤ 17) (hs : Sl w A c bs) :
    Calls Tryz.prog 182 #[.slice A n c] w fun e w' => e = .returned (.agg ((numL (littleN bs)).map uv).toArray) ∧ Below w.heap.size w w' := by
  have hz : ∀ W, (zeroValue 195).run Tryz.prog W = .ok (.agg zeros3.toArray) W := fun W => by kernel_rfl
  have hlz : Hid (zeros3.length = 3) := rfl
  have hnc : n ≤ c := by have := hs.1; omega
  have VM := value_math bs (by omega) (by omega)
  have C1 := Lib.hid (fun W (h : Sl W A c bs) => little_s A 8 c (bs.take 8) W (by rw [List.length_take]; omega) (sl_take' h))
  have C2 := Lib.hid (fun W (h : Sl W A c bs) => little_s (cutS A c 8) 8 (c - 8) ((bs.drop 8).take 8) W (by rw [List.length_take, List.length_drop]; omega) (sl_take' (sl_drop' h (by omega))))
  have C3 := Lib.hid (fun W (h : Sl W A c bs) => little_s (cutS A c 16) (n - 16) (c - 16) (bs.drop 16) W (by rw [List.length_drop]; omega) (sl_drop' h (by omega)))
  generalize littleN ((bs.take 8).take 8) = v0 at VM C1
  generalize littleN (((bs.drop 8).take 8).take 8) = v1 at VM C2
  generalize littleN ((bs.drop 16).take 8) = v2 at VM C3
  have B1 : Hid (∀ W, (Instr.build 195 #[(0, .int .u64 (v0 : Int)), (1, .int .u64 (v1 : Int)), (2, .int .u64 (v2 : Int))]).run Tryz.prog W = .ok (.agg ((numL (littleN bs)).map uv).toArray) W) := by rw [VM]; intro W; kernel_rfl
  have LS : Hid ((numL (littleN bs)).length = 3) := rfl
  generalize numL (littleN bs) = NS at B1 LS ⊢
  generalize zeros3 = Z3 at hz hlz
  have sl1 := cut_to uT s8 A n c .i64 8 (by omega) (by omega)
  have sl2 := cut_mid uT s8 A n c .i64 .i64 8 16 (by omega) (by omega) (by omega)
  have sl3 := cut_from uT s8 A n c .i64 16 (by omega) (by omega)
  rw [show (8 : Int).toNat = 8 from rfl] at sl1 sl2
  rw [show (16 : Int).toNat = 16 from rfl] at sl2 sl3
  rw [show 16 - 8 = 8 from rfl] at sl2
  have HS := Lib.hid hs
  clear hs VM hl h1 h2 hnc
  have N0 := Lib.hid (heap_alloc_new' w (.cells Z3.toArray 195))
  have FB : Hid (Below w.heap.size w (w.alloc (.cells Z3.toArray 195))) := (Below.refl _ _).alloc (Nat.le_refl _) _
  go_enter Tryz.func182, Tryz.ntmps182
  go_wp2_with fail
  generalize hV : w.alloc _ = W0 at N0 FB ⊢
  clear hV
  have HX : Hid (Grow w.heap.size W0 W0.drew) := Grow.drew _ _
  have S0 : Hid (Sl W0.drew A c bs) := HS.out.below FB.out.drew
  refine regS_start (Grow w.heap.size) (by kernel_rfl) ?_
  try simp only [Act.put, List.setIfInBounds_toArray, List.set_cons_zero, List.set_cons_succ]
  refine regS_take (v := ?_) 0 (some 3) rfl rfl (by kernel_rfl) (by kernel_rfl) (by kernel_rfl) (fun _ _ _ h => h) (by rfl) (fun W hW => ?_) ?_
  rotate_left
  · (go_simp; try rfl)
  simp only [Act.put, List.setIfInBounds_toArray, List.set_cons_zero, List.set_cons_succ]
  refine regS_take (v := ?_) 1 (some 4) rfl rfl (by kernel_rfl) (by kernel_rfl) (by kernel_rfl) (fun _ _ _ h => h) (by rfl) (fun W hW => ?_) ?_
  rotate_left
  · (go_simp; try rfl)
  simp only [Act.put, List.setIfInBounds_toArray, List.set_cons_zero, List.set_cons_succ]
  refine regS_take (v := ?_) 3 (some 6) rfl rfl (by kernel_rfl) (by kernel_rfl) (by kernel_rfl) (fun _ _ _ h => h) (by rfl) (fun W hW => ?_) ?_
  rotate_left
  · (go_simp; try rfl)
  simp only [Act.put, List.setIfInBounds_toArray, List.set_cons_zero, List.set_cons_succ]
  refine regS_take (v := ?_) 4 (some 7) rfl rfl (by kernel_rfl) (by kernel_rfl) (by kernel_rfl) (fun _ _ _ h => h) (by rfl) (fun W hW => ?_) ?_
  rotate_left
  · (go_simp; try rfl)
  simp only [Act.put, List.setIfInBounds_toArray, List.set_cons_zero, List.set_cons_succ]
  refine regS_take (v := ?_) 6 (some 9) rfl rfl (by kernel_rfl) (by kernel_rfl) (by kernel_rfl) (fun _ _ _ h => h) (by rfl) (fun W hW => ?_) ?_
  rotate_left
  · (go_simp; try rfl)
  simp only [Act.put, List.setIfInBounds_toArray, List.set_cons_zero, List.set_cons_succ]
  refine regS_take (v := ?_) 7 (some 10) rfl rfl (by kernel_rfl) (by kernel_rfl) (by kernel_rfl) (fun _ _ _ h => h) (by rfl) (fun W hW => ?_) ?_
  rotate_left
  · (go_simp; try rfl)
  simp only [Act.put, List.setIfInBounds_toArray, List.set_cons_zero, List.set_cons_succ]
  refine regS_eff 2 rfl (by kernel_rfl) (fun K hK => ?_)
  go_simp
  refine (C1.out _ S0.out).mono ?_
  rintro e w1 ⟨rfl, hb⟩
  have N1 := Lib.hid ((hb.block _ (lt_of_heap (w := W0.drew) N0.out)).trans N0.out)
  have S1 := Lib.hid (S0.out.below hb)
  have hE := Grow.of_ext (g := w.heap.size) hb
  clear hb
  refine hK.out _ _ hE ?_
  have HX := Lib.hid (Pre.trans HX.out hE)
  clear hE hK K
  try simp only [Act.put, List.setIfInBounds_toArray, List.set_cons_zero, List.set_cons_succ]
  refine regS_eff 5 rfl (by kernel_rfl) (fun K hK => ?_)
  go_simp
  refine (C2.out _ S1.out).mono ?_
  rintro e w2 ⟨rfl, hb⟩
  have N2 := Lib.hid ((hb.block _ (lt_of_heap N1.out)).trans N1.out)
  have S2 := Lib.hid (S1.out.below hb)
  have hE := Grow.of_ext (g := w.heap.size) hb
  clear hb
  refine hK.out _ _ hE ?_
  have HX := Lib.hid (Pre.trans HX.out hE)
  clear hE hK K
  try simp only [Act.put, List.setIfInBounds_toArray, List.set_cons_zero, List.set_cons_succ]
  refine regS_eff 8 rfl (by kernel_rfl) (fun K hK => ?_)
  go_simp
  refine (C3.out _ S2.out).mono ?_
  rintro e w3 ⟨rfl, hb⟩
  have N3 := Lib.hid ((hb.block _ (lt_of_heap N2.out)).trans N2.out)
  have hE := Grow.of_ext (g := w.heap.size) hb
  clear hb
  refine hK.out _ _ hE ?_
  have HX := Lib.hid (Pre.trans HX.out hE)
  clear hE hK K
  try simp only [Act.put, List.setIfInBounds_toArray, List.set_cons_zero, List.set_cons_succ]
  refine regS_take (v := ?_) 9 (some 12) rfl rfl (by kernel_rfl) (by kernel_rfl) (by kernel_rfl) (fun _ _ _ h => h) (by rfl) (fun W hW => ?_) ?_
  rotate_left
  · exact exec_bld rfl (by simp only [List.map_toArray, List.map_cons, List.map_nil]; exact B1.out W)
  simp only [Act.put, List.setIfInBounds_toArray, List.set_cons_zero, List.set_cons_succ]
  refine regS_eff 10 rfl (by kernel_rfl) (fun K hK => ?_)
  refine step_st1 rfl 195 (.tmp 2) (.tmp 12) rfl (store_arr (cs := NS.map uv) (i3l NS LS.out) (uv_one _) N3.out (by rw [List.length_map, LS.out]; exact hlz.out)) ?_
  generalize hV : World.setRow _ _ _ = W5
  have hres := Lib.hid (heap_of_setRow hV N3.out)
  have hE : Grow w.heap.size w3 W5 := by rw [← hV]; exact Grow.setRow _ _ _
  clear hV
  refine hK.out _ _ hE ?_
  have HX := Lib.hid (Pre.trans HX.out hE)
  clear hE hK K
  try simp only [Act.put, List.setIfInBounds_toArray, List.set_cons_zero, List.set_cons_succ]
  refine regS_done (by kernel_rfl) ?_
  go_wp2
  exact bodyPost_ret (results_cell_row (P := Tryz.prog) rfl _ _ w.heap.size 195 (NS.map uv).toArray (0, 0) _ rfl hres.out arr3 rfl (by rw [List.size_toArray]; exact i3l NS LS.out)) rfl ⟨rfl, FB.out.trans (HX.out.below (Nat.le_refl _) FB.out.size)⟩
end Go.Proofs.YtnhhgiebnhlfcaaGreatDoor

/- The contract of sha.whole once more: what it hands back lies in what it was handed. -/
namespace Go.Proofs.YtnhhgiebnhlfcaaGreatDoor
open Go.RowKit
set_option maxRecDepth 100000
set_option linter.unusedVariables false
set_option linter.unusedSimpArgs false
/-- nothing at A lies in block g -/
def ApartG (A : Option Addr) (g : Nat) : Prop := ∀ a, A = some a → a.block ≠ g
theorem apart_cut {A : Option Addr} {g c k : Nat} (h : ApartG A g) : ApartG (cutS A c k) g := by
  intro a ha
  unfold cutS at ha
  split at ha
  · exact h a ha
  · cases A with
    | none => simp at ha
    | some x =>
      simp only [Option.map_some, Option.some.injEq] at ha
      rw [← ha]
      have : (x.add k).block = x.block := by unfold Addr.add; split <;> rfl
      rw [this]; exact h x rfl
set_option maxHeartbeats 2000000 in
theorem whole_ap (h : List W32) (A : Option Addr) (n c : Nat) (bs : List UInt8) (w : World) (hh : h.length = 8) (hl : bs.length = n) (hS : Sl w A c bs) (hR : Rnd w) :
    Calls Tryz.prog 117 #[.agg (h.map wv).toArray, .slice A n c] w fun e w' => ∃ A' c', e = .returned (.tuple #[.agg ((wholeN h bs (n / 64)).map wv).toArray, .slice A' (n % 64) c']) ∧ Sl w A' c' (bs.drop (64 * (n / 64))) ∧ (∀ g, ApartG A g → ApartG A' g) ∧ Below w.heap.size w w' := by
  have HH := Lib.hid hh; have HL := Lib.hid hl; have HS := Lib.hid hS; have HR := Lib.hid hR
  clear hh hl hS hR
  go_enter Tryz.func117, Tryz.ntmps117
  go_wp2
  refine wp_scope_label 0 (fun a' w' => ∃ (j : Nat) (A' : Option Addr) (m c' : Nat) (u6 u7 u8 u9 u10 u11 u12 u13 u14 u15 u16 u17 u18 u19 : Value),
      a' = { tmps := #[.agg (h.map wv).toArray, .slice A' m c', .pointer (some ⟨w.heap.size, 0, none⟩), undef, .pointer (some ⟨w.heap.size + 1, 0, none⟩), .slice none 0 0, u6, u7, u8, u9, u10, u11, u12, u13, u14, u15, u16, u17, u18, u19], defers := [] } ∧
      Hid (64 * j + m = n) ∧ Hid (Sl w A' c' (bs.drop (64 * j))) ∧ Hid (Below w.heap.size w w') ∧ Hid (w'.heap[w.heap.size]? = some (.cells ((wholeN h bs j).map wv).toArray 69 (0, 0))) ∧
      Hid (w'.heap[w.heap.size + 1]? = some (.cells (List.replicate 8 (Value.int .u32 0)).toArray 69 (0, 0))) ∧ Hid (∀ g, ApartG A g → ApartG A' g)) (fun a' _ => (sliceLen (a'.tmps.getD 1 undef))) rfl ?first ?pass
  case first =>
    refine ⟨0, A, n, c, _, _, _, _, _, _, _, _, _, _, _, _, _, _, rfl, ?_, HS, ?_, ?_, ?_, fun g h => h⟩
    · show _ = _; omega
    · exact (heap2 w _ _).2.2
    · exact (heap2 w _ _).1
    · exact (heap2 w _ _).2.1
  case pass =>
    rintro a' w' ⟨j, A', m, c', u6, u7, u8, u9, u10, u11, u12, u13, u14, u15, u16, u17, u18, u19, rfl, HJ, HA, HB, H0, H1, HAP⟩
    generalize hg1 : w.heap.size + 1 = g1 at H1 ⊢
    have HG1 := Lib.hid hg1
    clear hg1
    have hdl : (bs.drop (64 * j)).length = m := by have h1 := HL.out; have h2 := HJ.out; rw [List.length_drop]; omega
    by_cases hm : 64 ≤ m
    · have e1 : (64 : Int) ≤ (m : Int) := by omega
      obtain ⟨W1, hW1⟩ : ∃ W1, W1 = w'.alloc (.cells (List.replicate 64 (Value.int .u8 0)).toArray 157) := ⟨_, rfl⟩
      have F6 : W1.heap[w'.heap.size]? = some (.cells (List.replicate 64 (Value.int .u8 0)).toArray 157 (0, 0)) := by rw [hW1]; exact heap_alloc_new' w' _
      have B1 : Below w'.heap.size w' W1 := by rw [hW1]; exact (Below.refl _ _).alloc (Nat.le_refl _) _
      have B1' := HB.out.step B1
      obtain ⟨X, hX⟩ : ∃ X, X = (bs.drop (64 * j)).take 64 := ⟨_, rfl⟩
      have hXl : X.length = 64 := by rw [hX, List.length_take, hdl]; omega
      have hrow : RowAt W1 w.heap.size A' (X.map bv) := by
        have := ((HA.out.2.2.below B1').take 64); rw [← List.map_take, ← hX] at this; exact this
      obtain ⟨w2, hrun, hblk, hsz, hgr⟩ := copy_run uT s8 (sT := 22) 3 W1 w'.heap.size 0 (List.replicate 64 (Value.int .u8 0)) 157 F6 (some ⟨w'.heap.size, 0, none⟩) A' 64 64 m c' w.heap.size (X.map bv) (by simp [hXl]; omega) (fun _ => rfl) hrow (by simp [hXl]) (bv_one _)
      have hsp : splice (List.replicate 64 (Value.int .u8 0)) 0 (X.map bv) = X.map bv := by
        have := splice_first (Value.int .u8 0) 64 0 (X.map bv) (by simp [hXl]); simpa using this
      rw [hsp] at hblk
      have HRUN := Lib.hid hrun
      have K6 := Lib.hid hblk
      have h0lt := lt_of_heap H0.out
      have h1lt := lt_of_heap H1.out
      have K0 : Hid (w2.heap[w.heap.size]? = _) := (hgr.block _ (Nat.lt_of_lt_of_le h0lt B1.size) (by simp; omega)).trans ((B1.block _ h0lt).trans H0.out)
      have K1 : Hid (w2.heap[g1]? = _) := (hgr.block _ (Nat.lt_of_lt_of_le h1lt B1.size) (by simp; omega)).trans ((B1.block _ h1lt).trans H1.out)
      have KB : Hid (Below w.heap.size w w2) := B1'.trans (grown_below hgr (Nat.le_of_lt h0lt) B1'.size)
      have HW1 := Lib.hid hW1
      have HX := Lib.hid hX; have HXL := Lib.hid hXl
      have hcut := cut_from uT s8 A' m c' .i64 64 (by omega) e1
      rw [show (64 : Int).toNat = 64 from rfl] at hcut
      clear hrun hblk hgr hsp hrow B1 B1' F6 hXl hX hdl h0lt h1lt hW1
      have HRUN' := HRUN.out
      rw [HW1.out] at HRUN'
      have HRUN2 := Lib.hid HRUN'
      clear HRUN HRUN' HW1 hsz W1
      go_wp2_with (first
        | (refine wpList_cpy rfl (.tmp 10) (.tmp 11) 22 22 rfl HRUN2.out ?_)
        | fail)
      have hwl := Lib.hid (wholeN_len h bs j HH.out)
      have HRW : Hid (Rnd w2) := HR.out.ext KB.out
      have HBL : Hid (blockL (wholeN h bs j) X = wholeN h bs (j + 1)) := by show _ = _; rw [HX.out]; rfl
      have hbl : Hid ((blockL (wholeN h bs j) X).length = 8) := blockL_len _ _ hwl.out
      obtain ⟨Y, HY⟩ : ∃ Y, Hid (blockL (wholeN h bs j) X = Y) := ⟨_, rfl⟩
      rw [HY.out] at HBL hbl
      have HXO := HX
      clear HX
      have N0 : Hid (w2.drew.heap[w.heap.size]? = some (.cells ((wholeN h bs j).map wv).toArray 69 (0, 0))) := K0.out
      have N1 : Hid (w2.drew.heap[g1]? = some (.cells (List.replicate 8 (Value.int .u32 0)).toArray 69 (0, 0))) := K1.out
      have N6 : Hid (w2.drew.heap[w'.heap.size]? = some (.cells (X.map bv).toArray 157 (0, 0))) := K6.out
      have NB : Hid (Below w.heap.size w w2.drew) := KB.out.drew
      have NR : Hid (Rnd w2.drew) := HR.out.ext NB.out
      clear K0 K1 K6 KB HRW HRUN2
      refine regS_start (AnyR) (by kernel_rfl) ?_
      try simp only [Act.put, List.setIfInBounds_toArray, List.set_cons_zero, List.set_cons_succ]
      generalize w2.drew = W3 at N0 N1 N6 NB NR ⊢
      have HX : Hid (AnyR W3 W3) := trivial
      refine regS_take (v := ?_) 3 (some 16) rfl rfl (by kernel_rfl) (by kernel_rfl) (by kernel_rfl) (fun _ _ _ h => h) (by rfl) (fun W hW => ?_) ?_
      rotate_left
      · (go_simp; try rfl)
      simp only [Act.put, List.setIfInBounds_toArray, List.set_cons_zero, List.set_cons_succ]
      refine regS_take (v := ?_) 4 (some 17) rfl rfl (by kernel_rfl) (by kernel_rfl) (by kernel_rfl) (fun _ _ _ h => h) (by rfl) (fun W hW => ?_) ?_
      rotate_left
      · (go_simp; try rfl)
      simp only [Act.put, List.setIfInBounds_toArray, List.set_cons_zero, List.set_cons_succ]
      refine regS_eff2 0 1 rfl rfl (by kernel_rfl) (fun K hK => ?_) (fun K hK => ?_)
      · skip
        refine step_ld rfl 69 (.tmp 2) rfl (load_arr arr8W rfl (by rw [List.length_map, hwl.out]; exact i8W) N0.out) ?_
        have hE : AnyR W3 W3 := trivial
        refine hK.out _ _ hE ?_
        have HX := Lib.hid (Pre.trans HX.out hE)
        clear hE hK K
        try simp only [Act.put, List.setIfInBounds_toArray, List.set_cons_zero, List.set_cons_succ]
        refine regS_eff 1 rfl (by kernel_rfl) (fun K hK => ?_)
        refine step_ld rfl 157 (.tmp 6) rfl (load_arr arr64B rfl (by rw [List.length_map, HXL.out]; exact i64B) N6.out) ?_
        have hE : AnyR W3 W3 := trivial
        refine hK.out _ _ hE ?_
        have HX := Lib.hid (Pre.trans HX.out hE)
        clear hE hK K
        try simp only [Act.put, List.setIfInBounds_toArray, List.set_cons_zero, List.set_cons_succ]
        refine regS_eff 2 rfl (by kernel_rfl) (fun K hK => ?_)
        go_simp
        refine (block_any (wholeN h bs j) X W3 hwl.out HXL.out NR.out).mono ?_
        rw [HY.out]
        rintro e w4 ⟨rfl, hE0⟩
        have L0 := Lib.hid ((hE0.block _ (lt_of_heap N0.out)).trans N0.out)
        have L1 := Lib.hid ((hE0.block _ (lt_of_heap N1.out)).trans N1.out)
        have LB := Lib.hid (NB.out.step hE0)
        have hE : AnyR W3 w4 := trivial
        clear hE0
        refine hK.out _ _ hE ?_
        have HX := Lib.hid (Pre.trans HX.out hE)
        clear hE hK K
        try simp only [Act.put, List.setIfInBounds_toArray, List.set_cons_zero, List.set_cons_succ]
        refine regS_eff 5 rfl (by kernel_rfl) (fun K hK => ?_)
        refine step_st1 rfl 69 (.tmp 2) (.tmp 15) rfl (store_arr (cs := Y.map wv) (by rw [List.length_map, hbl.out]; exact i8W) (wv_one _) L0.out (by rw [List.length_map, List.length_map, hbl.out, hwl.out])) ?_
        generalize hV : World.setRow _ _ _ = W5
        have M0 := Lib.hid (heap_of_setRow hV L0.out)
        have M1 := Lib.hid (heap_of_other hV (by have := HG1.out; omega) L1.out)
        have MB := Lib.hid (LB.out.trans (below_of_setRow hV (Nat.le_refl _) LB.out.size))
        have hE : AnyR w4 W5 := trivial
        clear hV
        refine hK.out _ _ hE ?_
        have HX := Lib.hid (Pre.trans HX.out hE)
        clear hE hK K
        try simp only [Act.put, List.setIfInBounds_toArray, List.set_cons_zero, List.set_cons_succ]
        refine regS_take (v := ?_) 6 (some 1) rfl rfl (by kernel_rfl) (by kernel_rfl) (by kernel_rfl) (fun _ _ _ h => h) (by rfl) (fun W hW => ?_) ?_
        rotate_left
        · (go_simp; try rfl)
        simp only [Act.put, List.setIfInBounds_toArray, List.set_cons_zero, List.set_cons_succ]
        refine regS_done (by kernel_rfl) ?_
        go_wp2
        go_step3
        have hg := HG1.out
        subst hg
        rw [HBL.out] at M0
        have hA := sl_cut HA.out (k := 64) (by have h1 := HL.out; have h2 := HJ.out; rw [List.length_drop]; omega)
        rw [List.drop_drop] at hA
        refine ⟨rfl, ⟨j + 1, cutS A' c' 64, m - 64, c' - 64, _, _, _, _, _, _, _, _, _, _, _, _, _, _, rfl, ?_, ?_, MB, M0, M1, fun g h => apart_cut (HAP.out g h)⟩, ?_⟩
        · have h2 := HJ.out; show _ = _; omega
        · exact hA
        · show m - 64 < m; omega
      · skip
        refine step_ld rfl 157 (.tmp 6) rfl (load_arr arr64B rfl (by rw [List.length_map, HXL.out]; exact i64B) N6.out) ?_
        have hE : AnyR W3 W3 := trivial
        refine hK.out _ _ hE ?_
        have HX := Lib.hid (Pre.trans HX.out hE)
        clear hE hK K
        try simp only [Act.put, List.setIfInBounds_toArray, List.set_cons_zero, List.set_cons_succ]
        refine regS_eff 0 rfl (by kernel_rfl) (fun K hK => ?_)
        refine step_ld rfl 69 (.tmp 2) rfl (load_arr arr8W rfl (by rw [List.length_map, hwl.out]; exact i8W) N0.out) ?_
        have hE : AnyR W3 W3 := trivial
        refine hK.out _ _ hE ?_
        have HX := Lib.hid (Pre.trans HX.out hE)
        clear hE hK K
        try simp only [Act.put, List.setIfInBounds_toArray, List.set_cons_zero, List.set_cons_succ]
        refine regS_eff 2 rfl (by kernel_rfl) (fun K hK => ?_)
        go_simp
        refine (block_any (wholeN h bs j) X W3 hwl.out HXL.out NR.out).mono ?_
        rw [HY.out]
        rintro e w4 ⟨rfl, hE0⟩
        have L0 := Lib.hid ((hE0.block _ (lt_of_heap N0.out)).trans N0.out)
        have L1 := Lib.hid ((hE0.block _ (lt_of_heap N1.out)).trans N1.out)
        have LB := Lib.hid (NB.out.step hE0)
        have hE : AnyR W3 w4 := trivial
        clear hE0
        refine hK.out _ _ hE ?_
        have HX := Lib.hid (Pre.trans HX.out hE)
        clear hE hK K
        try simp only [Act.put, List.setIfInBounds_toArray, List.set_cons_zero, List.set_cons_succ]
        refine regS_eff 5 rfl (by kernel_rfl) (fun K hK => ?_)
        refine step_st1 rfl 69 (.tmp 2) (.tmp 15) rfl (store_arr (cs := Y.map wv) (by rw [List.length_map, hbl.out]; exact i8W) (wv_one _) L0.out (by rw [List.length_map, List.length_map, hbl.out, hwl.out])) ?_
        generalize hV : World.setRow _ _ _ = W5
        have M0 := Lib.hid (heap_of_setRow hV L0.out)
        have M1 := Lib.hid (heap_of_other hV (by have := HG1.out; omega) L1.out)
        have MB := Lib.hid (LB.out.trans (below_of_setRow hV (Nat.le_refl _) LB.out.size))
        have hE : AnyR w4 W5 := trivial
        clear hV
        refine hK.out _ _ hE ?_
        have HX := Lib.hid (Pre.trans HX.out hE)
        clear hE hK K
        try simp only [Act.put, List.setIfInBounds_toArray, List.set_cons_zero, List.set_cons_succ]
        refine regS_take (v := ?_) 6 (some 1) rfl rfl (by kernel_rfl) (by kernel_rfl) (by kernel_rfl) (fun _ _ _ h => h) (by rfl) (fun W hW => ?_) ?_
        rotate_left
        · (go_simp; try rfl)
        simp only [Act.put, List.setIfInBounds_toArray, List.set_cons_zero, List.set_cons_succ]
        refine regS_done (by kernel_rfl) ?_
        go_wp2
        go_step3
        have hg := HG1.out
        subst hg
        rw [HBL.out] at M0
        have hA := sl_cut HA.out (k := 64) (by have h1 := HL.out; have h2 := HJ.out; rw [List.length_drop]; omega)
        rw [List.drop_drop] at hA
        refine ⟨rfl, ⟨j + 1, cutS A' c' 64, m - 64, c' - 64, _, _, _, _, _, _, _, _, _, _, _, _, _, _, rfl, ?_, ?_, MB, M0, M1, fun g h => apart_cut (HAP.out g h)⟩, ?_⟩
        · have h2 := HJ.out; show _ = _; omega
        · exact hA
        · show m - 64 < m; omega
    · have hq : n / 64 = j ∧ n % 64 = m := by have h2 := HJ.out; omega
      have HQ1 := Lib.hid hq.1; have HQ2 := Lib.hid hq.2
      have hwl := Lib.hid (wholeN_len h bs j HH.out)
      clear hq hdl
      have e1 : ¬ ((64 : Int) ≤ (m : Int)) := by omega
      obtain ⟨Y, HY⟩ : ∃ Y, Hid (wholeN h bs j = Y) := ⟨_, rfl⟩
      rw [HY.out] at H0 hwl
      go_wp2_with (first
        | (refine wpList_ld rfl 69 (.tmp 2) rfl (load_arr arr8W rfl (by rw [List.length_map, hwl.out]; exact i8W) H0.out) ?_)
        | (refine wpList_st rfl 69 (.tmp 4) (.tmp 18) rfl (store_arr (cs := Y.map wv) (by rw [List.length_map, hwl.out]; exact i8W) (wv_one _) H1.out (by rw [List.length_map, hwl.out]; simp)) ?_))
      have hres := setRow_heap w' g1 _ (Y.map wv).toArray 69 _ H1.out
      simp only [Exit.jump]
      refine bodyPost_ret (results_row_tmp (P := Tryz.prog) rfl _ _ g1 69 (Y.map wv).toArray (0, 0) _ rfl hres arr8W rfl (by rw [List.size_toArray, List.length_map, hwl.out]; exact i8W)) rfl ?_
      rw [HQ1.out, HQ2.out, HY.out]
      exact ⟨A', c', rfl, HA.out, HAP.out, HB.out.trans (grown_below (grown_setRow _ _ _) (by have := HG1.out; omega) HB.out.size)⟩
end Go.Proofs.YtnhhgiebnhlfcaaGreatDoor

/- poly: step, whole. -/
namespace Go.Proofs.YtnhhgiebnhlfcaaGreatDoor
open Go.RowKit
set_option maxRecDepth 100000
set_option linter.unusedVariables false
set_option linter.unusedSimpArgs false
theorem heap_eq' {W W0 : World} (h : W = W0) {g : Nat} {o : Obj} (hc : W0.heap[g]? = some o) : W.heap[g]? = some o := by rw [h]; exact hc
theorem heap4 (w : World) (o1 o2 o3 o4 : Obj) : ∀ W, (((w.alloc o1).alloc o2).alloc o3).alloc o4 = W → W.heap[w.heap.size]? = some o1 ∧ W.heap[w.heap.size + 1]? = some o2 ∧ W.heap[w.heap.size + 2]? = some o3 ∧ W.heap[w.heap.size + 3]? = some o4 ∧ Below w.heap.size w W := by
  rintro W rfl
  have h := heap3 w o1 o2 o3
  generalize hV : ((w.alloc _).alloc _).alloc _ = W at h ⊢
  have hs : W.heap.size = w.heap.size + 3 := by rw [← hV]; simp
  have ho := fun k hk => Below.heap_alloc W o4 k hk
  refine ⟨(ho _ (by omega)).trans h.1, (ho _ (by omega)).trans h.2.1, (ho _ (by omega)).trans h.2.2.1, ?_, h.2.2.2.alloc h.2.2.2.size _⟩
  rw [← hs]; exact heap_alloc_new' W _
/-- the sum so far, gone on by a part -/
def stepN (r h : Nat) (part : List UInt8) : Nat := foldN ((h + littleN (part ++ [1])) * r)
theorem foldN_lt (n : Nat) (hn : n < 115792089237316195423570985008687907853269984665640564039457584007913129639936) : foldN n < 2722258935367507707706996859454145691648 := by unfold foldN; omega
theorem mark_lt (part : List UInt8) (h : part.length ≤ 16) : littleN (part ++ [1]) < 680564733841876926926749214863536422912 := by
  rw [littleN_snoc]
  have h1 := littleN_lt part
  have h2 : 256 ^ part.length ≤ 256 ^ 16 := Nat.pow_le_pow_right (by decide) h
  have h3 : (256 : Nat) ^ 16 = 340282366920938463463374607431768211456 := by decide
  rw [h3] at h2
  have h4 : (1 : UInt8).toNat = 1 := rfl
  rw [h4, Nat.mul_one]
  omega
theorem step_lt (r h : Nat) (part : List UInt8) (hp : part.length ≤ 16) (hh : h < 2722258935367507707706996859454145691648) (hr : r < 21267647932558653966460912964485513216) :
    h + littleN (part ++ [1]) < 6277101735386680763835789423207666416102355444464034512896 ∧ (h + littleN (part ++ [1])) * r < 115792089237316195423570985008687907853269984665640564039457584007913129639936 := by
  have h1 := mark_lt part hp
  refine ⟨by omega, ?_⟩
  have h2 : (h + littleN (part ++ [1])) * r ≤ 3402823669209384634633746074317682114560 * 21267647932558653966460912964485513216 := Nat.mul_le_mul (by omega) (by omega)
  exact Nat.lt_of_le_of_lt h2 (by decide)
theorem stepN_lt (r h : Nat) (part : List UInt8) (hp : part.length ≤ 16) (hh : h < 2722258935367507707706996859454145691648) (hr : r < 21267647932558653966460912964485513216) : stepN r h part < 2722258935367507707706996859454145691648 :=
  foldN_lt _ (step_lt r h part hp hh hr).2
theorem arr17 : Tryz.prog.underlying 215 = some (.array 17 5) := Tryz.underlying215
def zeros17 : List Value := List.replicate 17 (Value.int .u8 0)
set_option maxHeartbeats 4000000 in
theorem step_any (h r : Nat) (A : Option Addr) (m c : Nat) (part : List UInt8) (w : World) (hm : part.length = m) (hm16 : m ≤ 16) (hh : h < 2722258935367507707706996859454145691648) (hr : r < 21267647932558653966460912964485513216) (hS : Sl w A c part) :
    Calls Tryz.prog 183 #[.agg ((numL h).map uv).toArray, .agg ((numL r).map uv).toArray, .slice A m c] w fun e w' => e = .returned (.agg ((numL (stepN r h part)).map uv).toArray) ∧ Below w.heap.size w w' := by
  have hz : ∀ W, (zeroValue 195).run Tryz.prog W = .ok (.agg zeros3.toArray) W := fun W => by kernel_rfl
  have hz17 : ∀ W, (zeroValue 215).run Tryz.prog W = .ok (.agg zeros17.toArray) W := fun W => by kernel_rfl
  have hlz : Hid (zeros3.length = 3) := rfl
  have H17 : Hid (zeros17 = List.replicate 17 (Value.int .u8 0)) := rfl
  have hsl := step_lt r h part (by omega) hh hr
  obtain ⟨mk, hmk⟩ : ∃ mk, mk = part ++ [1] ++ List.replicate (16 - m) (0 : UInt8) := ⟨_, rfl⟩
  have lmk : Hid (mk.length = 17) := by show _ = _; rw [hmk]; simp; omega
  have hvm : littleN mk = littleN (part ++ [1]) := by rw [hmk, littleN_zeros]
  have VA := Lib.hid (fun g W (hk : W.heap[g]? = some (.cells (mk.map bv).toArray 215 (0, 0))) => value_any (some ⟨g, 0, none⟩) 17 17 mk W lmk.out (by omega) (by omega) (sl_row lmk.out (by omega) hk))
  rw [hvm] at VA
  have PA := Lib.hid (fun W => plus_any h (littleN (part ++ [1])) W)
  have TA := Lib.hid (fun W => times_any (h + littleN (part ++ [1])) r W hsl.1 (by omega) hsl.2)
  have hset : Hid ((part.map bv ++ List.replicate (17 - m) (Value.int .u8 0)).set m (.int .u8 1) = mk.map bv) := by
    show _ = _
    rw [hmk, show 17 - m = (16 - m) + 1 by omega, set_mid _ _ _ _ _ (by rw [List.length_map, hm])]
    simp [bv]
  have hst : stepN r h part = foldN ((h + littleN (part ++ [1])) * r) := rfl
  rw [hst]
  have LS : Hid ((numL (foldN ((h + littleN (part ++ [1])) * r))).length = 3) := rfl
  have LH : Hid ((numL h).length = 3) := rfl
  have LR : Hid ((numL r).length = 3) := rfl
  generalize numL (foldN ((h + littleN (part ++ [1])) * r)) = NS at TA LS ⊢
  generalize numL (h + littleN (part ++ [1])) = NQ at TA PA
  generalize numL (littleN (part ++ [1])) = NV at PA VA
  generalize numL h = NH at PA LH ⊢
  generalize numL r = NR at TA LR ⊢
  generalize zeros3 = Z3 at hz hlz
  generalize zeros17 = Z17 at hz17 H17
  have HM := Lib.hid hm; have HS := Lib.hid hS
  have e17 : (m : Int) < 17 := by omega
  have ar := arr_all arr17 s8 ⟨w.heap.size + 3, 0, none⟩
  have G := Lib.hid (heap4 w (.cells (NH.map uv).toArray 195) (.cells (NR.map uv).toArray 195) (.cells Z3.toArray 195) (.cells Z17.toArray 215) _ rfl)
  clear hm hS hst hsl hvm hmk hh hr
  go_enter Tryz.func183, Tryz.ntmps183
  go_upto_region 2 with (fail)
  generalize hV : (((w.alloc _).alloc _).alloc _).alloc _ = W0 at G ⊢
  clear hV hz hz17
  have S0 := Lib.hid (HS.out.below G.out.2.2.2.2)
  obtain ⟨w2, hrun, hblk, hsz, hgr⟩ := copy_run uT s8 (sT := 22) 3 W0 (w.heap.size + 3) 0 Z17 215 G.out.2.2.2.1 (some ⟨w.heap.size + 3, 0, none⟩) A 17 17 m c W0.heap.size (part.map bv) (by rw [List.length_map, HM.out]; omega) (fun _ => rfl) S0.out.2.2 (by rw [H17.out]; simp [HM.out]; omega) (bv_one _)
  have hsp : splice Z17 0 (part.map bv) = part.map bv ++ List.replicate (17 - m) (Value.int .u8 0) := by
    have := splice_first (Value.int .u8 0) m (17 - m) (part.map bv) (by rw [List.length_map, HM.out])
    rw [show m + (17 - m) = 17 by omega] at this
    rw [H17.out]; exact this
  rw [hsp] at hblk
  have HRUN := Lib.hid hrun
  have K7 := Lib.hid hblk
  have K0 := Lib.hid ((hgr.block _ (lt_of_heap G.out.1) (by simp)).trans G.out.1)
  have K1 := Lib.hid ((hgr.block _ (lt_of_heap G.out.2.1) (by simp)).trans G.out.2.1)
  have K2 := Lib.hid ((hgr.block _ (lt_of_heap G.out.2.2.1) (by simp)).trans G.out.2.2.1)
  have KB : Hid (Below w.heap.size w w2) := G.out.2.2.2.2.trans (grown_below hgr (by omega) G.out.2.2.2.2.size)
  have c7 : w2.cell? ⟨w.heap.size + 3, m, none⟩ = some (.int .u8 0) := by
    rw [cell_of_heap K7.out, List.getElem?_append_right (by rw [List.length_map, HM.out]; exact Nat.le_refl _), List.length_map, HM.out]
    rw [Nat.sub_self, List.getElem?_replicate, if_pos (by omega)]
  have fz := frozen_of_heap K7.out m
  clear hrun hblk hsz hgr hsp G S0 H17
  go_upto_region 4 with (first
    | (refine wpList_cpy rfl (.tmp 8) (.tmp 9) 22 22 rfl HRUN.out ?_)
    | fail)
  generalize hV : w2.setCell _ _ = W3
  have M7 : Hid (W3.heap[w.heap.size + 3]? = some (.cells (mk.map bv).toArray 215 (0, 0))) := by
    have := heap_set K7.out m (Value.int .u8 1)
    rw [hset.out] at this
    rw [← hV]; exact this
  have hoth : ∀ k, k ≠ w.heap.size + 3 → W3.heap[k]? = w2.heap[k]? := by intro k hk; rw [← hV]; exact Below.heap_setCell w2 _ _ _ hk
  have M0 := Lib.hid ((hoth _ (by omega)).trans K0.out)
  have M1 := Lib.hid ((hoth _ (by omega)).trans K1.out)
  have M2 := Lib.hid ((hoth _ (by omega)).trans K2.out)
  have MB : Hid (Below w.heap.size w W3) := by rw [← hV]; exact KB.out.setCell (by show w.heap.size ≤ w.heap.size + 1 + 1 + 1; omega) _
  clear hV hoth K0 K1 K2 K7 KB c7 fz HRUN hset
  have HX : Hid (Grow (w.heap.size + 2) W3 W3.drew) := Grow.drew _ _
  have hne0 : Hid (w.heap.size ≠ w.heap.size + 2) := by show _ ≠ _; omega
  have hne1 : Hid (w.heap.size + 1 ≠ w.heap.size + 2) := by show _ ≠ _; omega
  refine regS_start (Grow (w.heap.size + 2)) (by kernel_rfl) ?_
  try simp only [Act.put, List.setIfInBounds_toArray, List.set_cons_zero, List.set_cons_succ]
  refine regS_load 0 (some 14) (fun W hW => load_arr arr3 rfl (i3l NH LH.out) (hW.heap hne0.out (HX.out.heap hne0.out M0.out))) rfl rfl rfl rfl (by kernel_rfl) (by kernel_rfl) (by kernel_rfl) (fun _ _ _ h => h) (by rfl) ?_
  simp only [Act.put, List.setIfInBounds_toArray, List.set_cons_zero, List.set_cons_succ]
  refine regS_take (v := ?_) 1 (some 15) rfl rfl (by kernel_rfl) (by kernel_rfl) (by kernel_rfl) (fun _ _ _ h => h) (by rfl) (fun W hW => ?_) ?_
  rotate_left
  · (go_simp; try rfl)
  simp only [Act.put, List.setIfInBounds_toArray, List.set_cons_zero, List.set_cons_succ]
  refine regS_load 4 (some 18) (fun W hW => load_arr arr3 rfl (i3l NR LR.out) (hW.heap hne1.out (HX.out.heap hne1.out M1.out))) rfl rfl rfl rfl (by kernel_rfl) (by kernel_rfl) (by kernel_rfl) (fun _ _ _ h => h) (by rfl) ?_
  simp only [Act.put, List.setIfInBounds_toArray, List.set_cons_zero, List.set_cons_succ]
  refine regS_eff 2 rfl (by kernel_rfl) (fun K hK => ?_)
  go_simp
  refine (VA.out _ W3.drew M7.out).mono ?_
  rintro e w4 ⟨rfl, hb⟩
  have N4 := Lib.hid ((hb.block _ (lt_of_heap (w := W3.drew) M2.out)).trans M2.out)
  have hE := Grow.of_ext (g := w.heap.size + 2) hb
  clear hb
  refine hK.out _ _ hE ?_
  have HX := Lib.hid (Pre.trans HX.out hE)
  clear hE hK K
  try simp only [Act.put, List.setIfInBounds_toArray, List.set_cons_zero, List.set_cons_succ]
  refine regS_eff 3 rfl (by kernel_rfl) (fun K hK => ?_)
  go_simp
  refine (PA.out _).mono ?_
  rintro e w5 ⟨rfl, hb⟩
  have N5 := Lib.hid ((hb.block _ (lt_of_heap N4.out)).trans N4.out)
  have hE := Grow.of_ext (g := w.heap.size + 2) hb
  clear hb
  refine hK.out _ _ hE ?_
  have HX := Lib.hid (Pre.trans HX.out hE)
  clear hE hK K
  try simp only [Act.put, List.setIfInBounds_toArray, List.set_cons_zero, List.set_cons_succ]
  refine regS_eff 5 rfl (by kernel_rfl) (fun K hK => ?_)
  go_simp
  refine (TA.out _).mono ?_
  rintro e w6 ⟨rfl, hb⟩
  have N6 := Lib.hid ((hb.block _ (lt_of_heap N5.out)).trans N5.out)
  have hE := Grow.of_ext (g := w.heap.size + 2) hb
  clear hb
  refine hK.out _ _ hE ?_
  have HX := Lib.hid (Pre.trans HX.out hE)
  clear hE hK K
  try simp only [Act.put, List.setIfInBounds_toArray, List.set_cons_zero, List.set_cons_succ]
  refine regS_eff 6 rfl (by kernel_rfl) (fun K hK => ?_)
  refine step_st1 rfl 195 (.tmp 6) (.tmp 19) rfl (store_arr (cs := NS.map uv) (i3l NS LS.out) (uv_one _) N6.out (by rw [List.length_map, LS.out]; exact hlz.out)) ?_
  generalize hV : World.setRow _ _ _ = W7
  have hres := Lib.hid (heap_of_setRow hV N6.out)
  have hE : Grow (w.heap.size + 2) w6 W7 := by rw [← hV]; exact Grow.setRow _ _ _
  clear hV
  refine hK.out _ _ hE ?_
  have HX := Lib.hid (Pre.trans HX.out hE)
  clear hE hK K
  try simp only [Act.put, List.setIfInBounds_toArray, List.set_cons_zero, List.set_cons_succ]
  refine regS_done (by kernel_rfl) ?_
  go_wp2
  exact bodyPost_ret (results_cell_row (P := Tryz.prog) rfl _ _ (w.heap.size + 2) 195 (NS.map uv).toArray (0, 0) _ rfl hres.out arr3 rfl (by rw [List.size_toArray]; exact i3l NS LS.out)) rfl ⟨rfl, MB.out.trans (HX.out.below (by omega) MB.out.size)⟩
/-- the sum so far, gone on by the first j whole parts -/
def partsN (r h : Nat) (bs : List UInt8) : Nat → Nat
  | 0 => h
  | j + 1 => stepN r (partsN r h bs j) ((bs.drop (16 * j)).take 16)
theorem partsN_lt (r h : Nat) (bs : List UInt8) (j : Nat) (hh : h < 2722258935367507707706996859454145691648) (hr : r < 21267647932558653966460912964485513216) : partsN r h bs j < 2722258935367507707706996859454145691648 := by
  induction j with
  | zero => exact hh
  | succ j ih => exact stepN_lt r _ _ (by rw [List.length_take]; omega) ih hr
set_option maxHeartbeats 4000000 in
theorem pwhole_any (h r : Nat) (A : Option Addr) (n c : Nat) (bs : List UInt8) (w : World) (hl : bs.length = n) (hh : h < 2722258935367507707706996859454145691648) (hr : r < 21267647932558653966460912964485513216) (hS : Sl w A c bs) :
    Calls Tryz.prog 184 #[.agg ((numL h).map uv).toArray, .agg ((numL r).map uv).toArray, .slice A n c] w fun e w' => ∃ A' c', e = .returned (.tuple #[.agg ((numL (partsN r h bs (n / 16))).map uv).toArray, .slice A' (n % 16) c']) ∧ Sl w A' c' (bs.drop (16 * (n / 16))) ∧ (∀ g, ApartG A g → ApartG A' g) ∧ Below w.heap.size w w' := by
  have hz : ∀ W, (zeroValue 195).run Tryz.prog W = .ok (.agg zeros3.toArray) W := fun W => by kernel_rfl
  have hlz : Hid (zeros3.length = 3) := rfl
  have HH := Lib.hid hh; have HL := Lib.hid hl; have HS := Lib.hid hS; have HR := Lib.hid hr
  have PB := Lib.hid (fun j => partsN_lt r h bs j hh hr)
  have LR : Hid ((numL r).length = 3) := rfl
  have SA := Lib.hid (fun x A m c part W hm hm16 hx hS => step_any x r A m c part W hm hm16 hx HR.out hS)
  generalize numL r = NR at SA LR ⊢
  generalize zeros3 = Z3 at hz hlz
  obtain ⟨NH, HNH⟩ : ∃ NH, Hid (numL h = NH) := ⟨_, rfl⟩
  rw [HNH.out]
  clear hh hl hS hr
  have G := Lib.hid (heap3 w (.cells (NH.map uv).toArray 195) (.cells (NR.map uv).toArray 195) (.cells Z3.toArray 195))
  go_enter Tryz.func184, Tryz.ntmps184
  go_wp2
  refine wp_scope_label 0 (fun a' w' => ∃ (j : Nat) (A' : Option Addr) (m c' : Nat) (u8 u9 u10 u11 u12 u13 u14 u15 u16 u17 u18 u19 : Value),
      a' = { tmps := #[.agg (NH.map uv).toArray, .agg (NR.map uv).toArray, .slice A' m c', .pointer (some ⟨w.heap.size, 0, none⟩), .pointer (some ⟨w.heap.size + 1, 0, none⟩), undef, .pointer (some ⟨w.heap.size + 1 + 1, 0, none⟩), .slice none 0 0, u8, u9, u10, u11, u12, u13, u14, u15, u16, u17, u18, u19], defers := [] } ∧
      Hid (16 * j + m = n) ∧ Hid (Sl w A' c' (bs.drop (16 * j))) ∧ Hid (Below w.heap.size w w') ∧ Hid (w'.heap[w.heap.size]? = some (.cells ((numL (partsN r h bs j)).map uv).toArray 195 (0, 0))) ∧
      Hid (w'.heap[w.heap.size + 1]? = some (.cells (NR.map uv).toArray 195 (0, 0))) ∧ Hid (w'.heap[w.heap.size + 2]? = some (.cells Z3.toArray 195 (0, 0))) ∧ Hid (∀ g, ApartG A g → ApartG A' g)) (fun a' _ => (sliceLen (a'.tmps.getD 2 undef))) rfl ?first ?pass
  case first =>
    refine ⟨0, A, n, c, _, _, _, _, _, _, _, _, _, _, _, _, rfl, ?_, HS, ?_, ?_, ?_, ?_, fun g h => h⟩
    · show _ = _; omega
    · exact G.out.2.2.2
    · show _ = _; rw [show partsN r h bs 0 = h from rfl, HNH.out]; exact G.out.1
    · exact G.out.2.1
    · exact G.out.2.2.1
  case pass =>
    clear G
    rintro a' w' ⟨j, A', m, c', u8, u9, u10, u11, u12, u13, u14, u15, u16, u17, u18, u19, rfl, HJ, HA, HB, H0, H1, H2, HAP⟩
    have hpl := PB.out j
    have hdl : (bs.drop (16 * j)).length = m := by have h1 := HL.out; have h2 := HJ.out; rw [List.length_drop]; omega
    by_cases hm : 16 ≤ m
    · have e1 : (16 : Int) ≤ (m : Int) := by omega
      have hcut := cut_from uT s8 A' m c' .i64 16 (by omega) e1
      have hto := cut_to uT s8 A' m c' .i64 16 (by omega) (by have := HA.out.1; omega)
      rw [show (16 : Int).toNat = 16 from rfl] at hcut hto
      have LP : Hid ((numL (partsN r h bs j)).length = 3) := rfl
      have LN : Hid ((numL (partsN r h bs (j + 1))).length = 3) := rfl
      have hx16 : ((bs.drop (16 * j)).take 16).length = 16 := by rw [List.length_take, hdl]; omega
      have SJ := Lib.hid (fun W hS => SA.out (partsN r h bs j) A' 16 c' ((bs.drop (16 * j)).take 16) W hx16 (by omega) hpl hS)
      have HPN : Hid (stepN r (partsN r h bs j) ((bs.drop (16 * j)).take 16) = partsN r h bs (j + 1)) := rfl
      rw [HPN.out] at SJ
      have HXA : Hid (Sl w A' c' ((bs.drop (16 * j)).take 16)) := sl_take' HA.out
      generalize (bs.drop (16 * j)).take 16 = X at SJ HXA
      generalize numL (partsN r h bs j) = NP at SJ LP H0
      obtain ⟨NN, HNN⟩ : ∃ NN, Hid (numL (partsN r h bs (j + 1)) = NN) := ⟨_, rfl⟩
      rw [HNN.out] at SJ LN
      have hc16 : (16 : Int) ≤ (c' : Int) := by have := HA.out.1; omega
      clear hdl hx16 hpl HPN
      go_wp2_with fail
      have HS' : Hid (w'.drew = w'.drew) := rfl
      have D0 : Hid (w'.drew.heap[w.heap.size]? = some (.cells (NP.map uv).toArray 195 (0, 0))) := H0.out
      have D1 : Hid (w'.drew.heap[w.heap.size + 1]? = some (.cells (NR.map uv).toArray 195 (0, 0))) := H1.out
      have D2 : Hid (w'.drew.heap[w.heap.size + 2]? = some (.cells Z3.toArray 195 (0, 0))) := H2.out
      have DB : Hid (Below w.heap.size w w'.drew) := HB.out.drew
      have HS := HS'
      refine regK_start (4) (fun W => W = w'.drew) (by kernel_rfl) ?_
      try simp only [Act.put, List.setIfInBounds_toArray, List.set_cons_zero, List.set_cons_succ]
      refine regK_load 0 (some 11) (fun W hW => load_arr arr3 rfl (i3l NP LP.out) (heap_eq' hW D0.out)) rfl rfl rfl rfl (by kernel_rfl) (by kernel_rfl) (by kernel_rfl) (fun _ _ _ h => h) (by rfl) (by kernel_rfl) HS.out ?_
      simp only [Act.put, List.setIfInBounds_toArray, List.set_cons_zero, List.set_cons_succ]
      refine regK_load 1 (some 12) (fun W hW => load_arr arr3 rfl (i3l NR LR.out) (heap_eq' hW D1.out)) rfl rfl rfl rfl (by kernel_rfl) (by kernel_rfl) (by kernel_rfl) (fun _ _ _ h => h) (by rfl) (by kernel_rfl) HS.out ?_
      simp only [Act.put, List.setIfInBounds_toArray, List.set_cons_zero, List.set_cons_succ]
      refine regK_take (v := ?_) 2 (some 13) rfl rfl (by kernel_rfl) (by kernel_rfl) (by kernel_rfl) (fun _ _ _ h => h) (by rfl) (by kernel_rfl) HS.out (fun W => ?_) ?_
      rotate_left
      · (go_simp; try rfl)
      simp only [Act.put, List.setIfInBounds_toArray, List.set_cons_zero, List.set_cons_succ]
      refine regK_take (v := ?_) 3 (some 14) rfl rfl (by kernel_rfl) (by kernel_rfl) (by kernel_rfl) (fun _ _ _ h => h) (by rfl) (by kernel_rfl) HS.out (fun W => ?_) ?_
      rotate_left
      · (go_simp; try rfl)
      simp only [Act.put, List.setIfInBounds_toArray, List.set_cons_zero, List.set_cons_succ]
      refine regK_take (v := ?_) 5 (some 16) rfl rfl (by kernel_rfl) (by kernel_rfl) (by kernel_rfl) (fun _ _ _ h => h) (by rfl) (by kernel_rfl) HS.out (fun W => ?_) ?_
      rotate_left
      · (go_simp; try rfl)
      simp only [Act.put, List.setIfInBounds_toArray, List.set_cons_zero, List.set_cons_succ]
      refine regK_take (v := ?_) 6 (some 17) rfl rfl (by kernel_rfl) (by kernel_rfl) (by kernel_rfl) (fun _ _ _ h => h) (by rfl) (by kernel_rfl) HS.out (fun W => ?_) ?_
      rotate_left
      · (go_simp; try rfl)
      simp only [Act.put, List.setIfInBounds_toArray, List.set_cons_zero, List.set_cons_succ]
      refine regK_bar 4 rfl (by kernel_rfl) (by kernel_rfl) (fun K hK => ?_)
      go_simp
      refine (SJ.out _ (HXA.out.below DB.out)).mono ?_
      rintro e w4 ⟨rfl, hb⟩
      have L0 := Lib.hid ((hb.block _ (lt_of_heap D0.out)).trans D0.out)
      have L1 := Lib.hid ((hb.block _ (lt_of_heap D1.out)).trans D1.out)
      have L2 := Lib.hid ((hb.block _ (lt_of_heap D2.out)).trans D2.out)
      have LB := Lib.hid (DB.out.step hb)
      clear hb
      refine hK.out _ _ trivial ?_
      clear hK K
      try simp only [Act.put, List.setIfInBounds_toArray, List.set_cons_zero, List.set_cons_succ]
      refine regS_eff 7 rfl (by kernel_rfl) (fun K hK => ?_)
      refine step_st1 rfl 195 (.tmp 3) (.tmp 15) rfl (store_arr (cs := NN.map uv) (i3l NN LN.out) (uv_one _) L0.out (by rw [List.length_map, List.length_map, LP.out, LN.out])) ?_
      generalize hV : World.setRow _ _ _ = W5
      have M0 := Lib.hid (heap_of_setRow hV L0.out)
      have M1 := Lib.hid (heap_of_other hV (by omega) L1.out)
      have M2 := Lib.hid (heap_of_other hV (by omega) L2.out)
      have MB := Lib.hid (LB.out.trans (below_of_setRow hV (Nat.le_refl _) LB.out.size))
      clear hV
      refine hK.out _ _ trivial ?_
      clear hK K
      try simp only [Act.put, List.setIfInBounds_toArray, List.set_cons_zero, List.set_cons_succ]
      refine regS_take (v := ?_) 8 (some 2) rfl rfl (by kernel_rfl) (by kernel_rfl) (by kernel_rfl) (fun _ _ _ h => h) (by rfl) (fun W hW => ?_) ?_
      rotate_left
      · (go_simp; try rfl)
      simp only [Act.put, List.setIfInBounds_toArray, List.set_cons_zero, List.set_cons_succ]
      refine regS_done (by kernel_rfl) ?_
      go_wp2
      go_step3
      rw [← HNN.out] at M0
      have hA := sl_cut HA.out (k := 16) (by have h1 := HL.out; have h2 := HJ.out; rw [List.length_drop]; omega)
      rw [List.drop_drop] at hA
      refine ⟨rfl, ⟨j + 1, cutS A' c' 16, m - 16, c' - 16, _, _, _, _, _, _, _, _, _, _, _, _, rfl, ?_, ?_, MB, M0, M1, M2, fun g hg => apart_cut (HAP.out g hg)⟩, ?_⟩
      · have h2 := HJ.out; show _ = _; omega
      · exact hA
      · show m - 16 < m; omega
    · have hq : n / 16 = j ∧ n % 16 = m := by have h2 := HJ.out; omega
      have HQ1 := Lib.hid hq.1; have HQ2 := Lib.hid hq.2
      clear hq hdl hpl
      have e1 : ¬ ((16 : Int) ≤ (m : Int)) := by omega
      have LP : Hid ((numL (partsN r h bs j)).length = 3) := rfl
      obtain ⟨Y, HY⟩ : ∃ Y, Hid (numL (partsN r h bs j) = Y) := ⟨_, rfl⟩
      rw [HY.out] at H0 LP
      go_wp2_with (first
        | (refine wpList_ld rfl 195 (.tmp 3) rfl (load_arr arr3 rfl (i3l Y LP.out) H0.out) ?_)
        | (refine wpList_st rfl 195 (.tmp 6) (.tmp 18) rfl (store_arr (cs := Y.map uv) (i3l Y LP.out) (uv_one _) H2.out (by rw [List.length_map, LP.out]; exact hlz.out)) ?_))
      have hres := setRow_heap w' (w.heap.size + 2) _ (Y.map uv).toArray 195 _ H2.out
      simp only [Exit.jump]
      refine bodyPost_ret (results_row_tmp (P := Tryz.prog) rfl _ _ (w.heap.size + 2) 195 (Y.map uv).toArray (0, 0) _ rfl hres arr3 rfl (by rw [List.size_toArray]; exact i3l Y LP.out)) rfl ?_
      rw [HQ1.out, HQ2.out, HY.out]
      exact ⟨A', c', rfl, HA.out, HAP.out, HB.out.trans (grown_below (grown_setRow _ _ _) (by omega) HB.out.size)⟩
end Go.Proofs.YtnhhgiebnhlfcaaGreatDoor

/- poly: Clamp, New; a state in memory. -/
namespace Go.Proofs.YtnhhgiebnhlfcaaGreatDoor
open Go.RowKit
set_option maxRecDepth 100000
set_option linter.unusedVariables false
set_option linter.unusedSimpArgs false
def clampA (l : List UInt8) : Nat → List UInt8
  | 0 => l
  | i + 1 => (clampA l i).set (4 * i + 3) ((clampA l i).getD (4 * i + 3) 0 &&& 15)
def clampB (l : List UInt8) : Nat → List UInt8
  | 0 => l
  | i + 1 => (clampB l i).set (4 * i + 4) ((clampB l i).getD (4 * i + 4) 0 &&& 252)
theorem clampA_len (l : List UInt8) (i : Nat) : (clampA l i).length = l.length := by
  induction i with
  | zero => rfl
  | succ i ih => rw [clampA, List.length_set, ih]
theorem clampB_len (l : List UInt8) (i : Nat) : (clampB l i).length = l.length := by
  induction i with
  | zero => rfl
  | succ i ih => rw [clampB, List.length_set, ih]
/-- the first half of a key, clamped -/
def clampL (l : List UInt8) : List UInt8 := clampB (clampA l 4) 3
theorem clampL_len (l : List UInt8) : (clampL l).length = l.length := by rw [clampL, clampB_len, clampA_len]
theorem bcell {w : World} {g : Nat} {l : List UInt8} {t : TypeId} {fr : Nat × Nat} (h : w.heap[g]? = some (.cells (l.map bv).toArray t fr)) (i : Nat) (hi : i < l.length) : w.cell? ⟨g, i, none⟩ = some (.int .u8 ((l.getD i 0).toNat : Int)) := by
  rw [cell_of_heap h, List.getElem?_map]
  simp [List.getD, hi, bv]
theorem bst_row {W W' : World} {g i B : Nat} {l : List UInt8} {t : TypeId} {v : UInt8} (hW : W.setCell ⟨g, i, none⟩ (.int .u8 (v.toNat : Int)) = W') (hB : B ≤ g) (H : W.heap[g]? = some (.cells (l.map bv).toArray t (0, 0))) :
    W'.heap[g]? = some (.cells ((l.set i v).map bv).toArray t (0, 0)) ∧ Below B W W' ∧ ∀ k, k ≠ g → W'.heap[k]? = W.heap[k]? := by
  subst hW
  refine ⟨?_, (Below.refl _ _).setCell hB _, fun k hk => Below.heap_setCell W _ _ _ hk⟩
  have := heap_set H i (bv v)
  rw [← List.map_set] at this
  exact this
theorem arr16P : Tryz.prog.underlying 60 = some (.array 16 5) := Tryz.underlying60
theorem arr32P : Tryz.prog.underlying 107 = some (.array 32 5) := Tryz.underlying107
theorem i16P : (Tryz.prog.info? 60).map (·.size) = some 16 := by kernel_rfl
theorem i32P : (Tryz.prog.info? 107).map (·.size) = some 32 := by kernel_rfl
theorem i16p (l : List UInt8) (h : l.length = 16) : (Tryz.prog.info? 60).map (·.size) = some (l.map bv).length := by rw [List.length_map, h]; exact i16P
theorem i32p (l : List UInt8) (h : l.length = 32) : (Tryz.prog.info? 107).map (·.size) = some (l.map bv).length := by rw [List.length_map, h]; exact i32P
def zer16 : List Value := List.replicate 16 (Value.int .u8 0)
set_option maxHeartbeats 2000000 in
theorem clamp_any (r : List UInt8) (w : World) (hr : r.length = 16) :
    Calls Tryz.prog 181 #[.agg (r.map bv).toArray] w fun e w' => e = .returned (.agg ((clampL r).map bv).toArray) ∧ Below w.heap.size w w' := by
  have hz : ∀ W, (zeroValue 60).run Tryz.prog W = .ok (.agg zer16.toArray) W := fun W => by kernel_rfl
  have hlz : Hid (zer16.length = 16) := rfl
  have LA := Lib.hid (fun i => (clampA_len r i).trans hr)
  have LB := Lib.hid (fun i => (clampB_len (clampA r 4) i).trans (LA.out 4))
  have HA0 : Hid (r = clampA r 0) := rfl
  have HC : Hid (clampL r = clampB (clampA r 4) 3) := rfl
  have HN : Hid (clampA r 4 = clampB (clampA r 4) 0) := rfl
  rw [HC.out]
  generalize zer16 = Z at hz hlz
  have G := Lib.hid (heap2p w (.cells (r.map bv).toArray 60) (.cells Z.toArray 60))
  clear hr
  go_enter Tryz.func181, Tryz.ntmps181
  go_wp2_with fail
  generalize hV : (w.alloc _).alloc _ = W0 at G ⊢
  clear hV
  go_loopw [5] (fun vi wr => ∃ (i : Nat), i ≤ 4 ∧ vi = .int .i64 (i : Int) ∧ Hid (Below w.heap.size w wr) ∧ Hid (wr.heap[w.heap.size]? = some (.cells ((clampA r i).map bv).toArray 60 (0, 0))) ∧ Hid (wr.heap[w.heap.size + 1]? = some (.cells Z.toArray 60 (0, 0)))) (fun i _ => 4 - (intOf i).toNat)
  case atStart => exact ⟨0, by omega, rfl, G.out.2.2, G.out.1, G.out.2.1⟩
  case round =>
    clear G
    obtain ⟨i, hi, rfl, HB, H0, H1⟩ := hrel
    by_cases hlt : i < 4
    · have e1 : (i : Int) < 4 := by omega
      obtain ⟨p, hp⟩ : ∃ p, p = 4 * i + 3 := ⟨_, rfl⟩
      have hp16 : p < 16 := by omega
      have u1 : 4 * (i : Int) + 3 = (p : Int) := by omega
      have e2 : (p : Int) < 16 := by omega
      have c0 := bcell H0.out p (by rw [LA.out]; exact hp16)
      have fz := frozen_of_heap H0.out p
      have HST : Hid ((clampA r i).set p ((clampA r i).getD p 0 &&& 15) = clampA r (i + 1)) := by rw [hp]; rfl
      have a1 : bits .and .u8 (((clampA r i).getD p 0).toNat : Int) 15 = (((clampA r i).getD p 0 &&& 15).toNat : Int) := and8 _ 15
      generalize (clampA r i).getD p 0 &&& 15 = v at a1 HST
      generalize (clampA r i).getD p 0 = x at a1 c0
      clear hp
      go_wp2_with fail
      go_roundw
      case rel =>
        obtain ⟨m1, m2, m3⟩ := bst_row (B := w.heap.size) rfl (Nat.le_refl _) H0.out (i := p) (v := v)
        rw [HST.out] at m1
        exact ⟨i + 1, by omega, by go_num, HB.out.trans m2, m1, (m3 _ (by omega)).trans H1.out⟩
      case measure => simp [intOf]; omega
    · have e1 : ¬ ((i : Int) < 4) := by omega
      have H0' : Hid (wr.heap[w.heap.size]? = some (.cells ((clampB (clampA r 4) 0).map bv).toArray 60 (0, 0))) := by have := H0.out; rw [show i = 4 by omega] at this; exact this
      clear H0
      obtain ⟨wo, hwo⟩ : ∃ x, x = wr := ⟨_, rfl⟩
      subst hwo
      obtain ⟨q, HQ⟩ : ∃ q, Hid (clampA r 4 = q) := ⟨_, rfl⟩
      rw [HQ.out] at H0' LB
      go_wp2_with fail
      go_loopw [16] (fun vi wr => ∃ (i : Nat), i ≤ 3 ∧ vi = .int .i64 (i : Int) ∧ Hid (Below w.heap.size w wr) ∧ Hid (wr.heap[w.heap.size]? = some (.cells ((clampB q i).map bv).toArray 60 (0, 0))) ∧ Hid (wr.heap[w.heap.size + 1]? = some (.cells Z.toArray 60 (0, 0)))) (fun i _ => 3 - (intOf i).toNat)
      case atStart => exact ⟨0, by omega, rfl, HB, H0', H1⟩
      case round =>
        clear HB H0' H1
        obtain ⟨i, hi, rfl, HB, H0, H1⟩ := hrel
        by_cases hlt : i < 3
        · have e1 : (i : Int) < 3 := by omega
          obtain ⟨p, hp⟩ : ∃ p, p = 4 * i + 4 := ⟨_, rfl⟩
          have hp16 : p < 16 := by omega
          have u1 : 4 * (i : Int) + 4 = (p : Int) := by omega
          have e2 : (p : Int) < 16 := by omega
          have c0 := bcell H0.out p (by rw [LB.out]; exact hp16)
          have fz := frozen_of_heap H0.out p
          have HST : Hid ((clampB q i).set p ((clampB q i).getD p 0 &&& 252) = clampB q (i + 1)) := by rw [hp]; rfl
          have a1 : bits .and .u8 (((clampB q i).getD p 0).toNat : Int) 252 = (((clampB q i).getD p 0 &&& 252).toNat : Int) := and8 _ 252
          generalize (clampB q i).getD p 0 &&& 252 = v at a1 HST
          generalize (clampB q i).getD p 0 = x at a1 c0
          clear hp
          go_wp2_with fail
          go_roundw
          case rel =>
            obtain ⟨m1, m2, m3⟩ := bst_row (B := w.heap.size) rfl (Nat.le_refl _) H0.out (i := p) (v := v)
            rw [HST.out] at m1
            exact ⟨i + 1, by omega, by go_num, HB.out.trans m2, m1, (m3 _ (by omega)).trans H1.out⟩
          case measure => simp [intOf]; omega
        · have e1 : ¬ ((i : Int) < 3) := by omega
          have H0' : Hid (wr.heap[w.heap.size]? = some (.cells ((clampB q 3).map bv).toArray 60 (0, 0))) := by have := H0.out; rw [show i = 3 by omega] at this; exact this
          clear H0
          have hl := Lib.hid (LB.out 3)
          obtain ⟨Y, HY⟩ : ∃ Y, Hid (clampB q 3 = Y) := ⟨_, rfl⟩
          rw [HY.out] at H0' hl
          go_wp2_with (first
            | (refine wpList_ld rfl 60 (.tmp 1) rfl (load_arr arr16P rfl (i16p Y hl.out) H0'.out) ?_)
            | (refine wpList_st rfl 60 (.tmp 2) (.tmp 27) rfl (store_arr (cs := Y.map bv) (i16p Y hl.out) (bv_one _) H1.out (by rw [List.length_map, hl.out]; exact hlz.out)) ?_))
          have hres := setRow_heap wr (w.heap.size + 1) _ (Y.map bv).toArray 60 _ H1.out
          exact bodyPost_ret (results_cell_row (P := Tryz.prog) rfl _ _ (w.heap.size + 1) 60 (Y.map bv).toArray (0, 0) _ rfl hres arr16P rfl (by rw [List.size_toArray]; exact i16p Y hl.out)) rfl ⟨by rw [HQ.out, HY.out], HB.out.trans (grown_below (grown_setRow _ _ _) (by omega) HB.out.size)⟩
theorem getD_setU (l : List UInt8) (i j : Nat) (v : UInt8) (hi : i < l.length) : (l.set i v).getD j 0 = if i = j then v else l.getD j 0 := by
  simp only [List.getD, List.getElem?_set]
  split <;> simp [hi]
theorem and15_lt (x : UInt8) : (x &&& 15).toNat < 16 := by
  have h : (x &&& 15).toNat = x.toNat &&& 15 := UInt8.toNat_and _ _
  rw [h]
  have := Nat.and_two_pow_sub_one_eq_mod x.toNat 4
  have e : x.toNat &&& 15 = x.toNat % 16 := this
  omega
theorem clamp_top (l : List UInt8) (h : l.length = 16) : ((clampL l).getD 15 0).toNat < 16 := by
  have e3 : (clampL l).getD 15 0 = (clampA l 4).getD 15 0 := by
    unfold clampL
    simp only [clampB]
    rw [getD_setU _ _ _ _ (by simp [clampA_len, h]), if_neg (by decide), getD_setU _ _ _ _ (by simp [clampA_len, h]), if_neg (by decide), getD_setU _ _ _ _ (by simp [clampA_len, h]), if_neg (by decide)]
  have e4 : (clampA l 4).getD 15 0 = (clampA l 3).getD 15 0 &&& 15 := by
    rw [clampA, getD_setU _ _ _ _ (by rw [clampA_len, h]; decide), if_pos rfl]
  rw [e3, e4]; exact and15_lt _
theorem clamp_lt (l : List UInt8) (h : l.length = 16) : littleN (clampL l) < 21267647932558653966460912964485513216 := by
  have ht := clamp_top l h
  have hl : (clampL l).length = 16 := (clampL_len l).trans h
  generalize clampL l = c at ht hl
  have e : c = c.take 15 ++ [c.getD 15 0] := by
    have h1 := List.take_append_drop 15 c
    have h2 : c.drop 15 = [c.getD 15 0] := by
      rw [List.drop_eq_getElem_cons (by omega), List.drop_of_length_le (by omega)]
      simp [List.getD, hl]
    rw [h2] at h1; exact h1.symm
  have hl15 : (c.take 15).length = 15 := by rw [List.length_take, hl]; rfl
  rw [e, littleN_snoc, hl15]
  have h1 := littleN_lt (c.take 15)
  rw [hl15] at h1
  have p : (256 : Nat) ^ 15 = 1329227995784915872903807060280344576 := by decide
  rw [p] at h1 ⊢
  generalize (c.getD 15 0).toNat = x at ht
  generalize littleN (c.take 15) = y at h1
  omega
/-- a state's cells: both halves of the key, the sum so far, the bytes behind it, and how many they are -/
def pCells (R S H : List Nat) (T : List UInt8) (n : Nat) : List Value := R.map uv ++ (S.map uv ++ (H.map uv ++ (T.map bv ++ [.int .i64 (n : Int)])))
def rOf (key : List UInt8) : Nat := littleN (clampL (key.take 16))
def sOf (key : List UInt8) : Nat := littleN (key.drop 16)
def ptail (m : List UInt8) : List UInt8 := m.drop (16 * (m.length / 16)) ++ List.replicate (16 - m.length % 16) 0
/-- the state of the bytes m -/
def PAt (w : World) (g : Nat) (r s : Nat) (m : List UInt8) : Prop :=
  w.heap[g]? = some (.cells (pCells (numL r) (numL s) (numL (partsN r 0 m (m.length / 16))) (ptail m) (m.length % 16)).toArray 198 (0, 0))
theorem rOf_lt (key : List UInt8) (h : key.length = 32) : rOf key < 21267647932558653966460912964485513216 := clamp_lt _ (by rw [List.length_take, h]; rfl)
set_option maxHeartbeats 2000000 in
theorem pnew_any (key : List UInt8) (w : World) (hk : key.length = 32) :
    Calls Tryz.prog 138 #[.agg (key.map bv).toArray] w fun e w' => ∃ g, w.heap.size ≤ g ∧ e = .returned (.pointer (some ⟨g, 0, none⟩)) ∧ PAt w' g (rOf key) (sOf key) [] ∧ Below w.heap.size w w' := by
  have hz : ∀ W, (zeroValue 60).run Tryz.prog W = .ok (.agg zer16.toArray) W := fun W => by kernel_rfl
  have hlz : Hid (zer16.length = 16) := rfl
  have l1 : Hid ((key.take 16).length = 16) := by show _ = _; rw [List.length_take, hk]; rfl
  have l2 : Hid ((key.drop 16).length = 16) := by show _ = _; rw [List.length_drop, hk]
  have l3 : Hid ((clampL (key.take 16)).length = 16) := (clampL_len _).trans l1.out
  have CA := Lib.hid (fun W => clamp_any (key.take 16) W l1.out)
  have V1 := Lib.hid (fun A W hS => value_any A 16 16 (clampL (key.take 16)) W l3.out (by omega) (by omega) hS)
  have V2 := Lib.hid (fun A W hS => value_any A 16 16 (key.drop 16) W l2.out (by omega) (by omega) hS)
  have BD : Hid (∀ W, (Instr.build 198 #[(0, .agg ((numL (rOf key)).map uv).toArray), (1, .agg ((numL (sOf key)).map uv).toArray)]).run Tryz.prog W = .ok (.agg (pCells (numL (rOf key)) (numL (sOf key)) (numL 0) (List.replicate 16 0) 0).toArray) W) := fun W => by kernel_rfl
  have HR : Hid (rOf key = littleN (clampL (key.take 16))) := rfl
  have HSS : Hid (sOf key = littleN (key.drop 16)) := rfl
  rw [← HR.out] at V1
  rw [← HSS.out] at V2
  have HP : Hid (pCells (numL (rOf key)) (numL (sOf key)) (numL (partsN (rOf key) 0 [] (([] : List UInt8).length / 16))) (ptail []) (([] : List UInt8).length % 16) = pCells (numL (rOf key)) (numL (sOf key)) (numL 0) (List.replicate 16 0) 0) := rfl
  have HPA : Hid (∀ W g, W.heap[g]? = some (.cells (pCells (numL (rOf key)) (numL (sOf key)) (numL 0) (List.replicate 16 0) 0).toArray 198 (0, 0)) → PAt W g (rOf key) (sOf key) []) := by
    intro W g h
    unfold PAt
    rw [HP.out]; exact h
  generalize pCells (numL (rOf key)) (numL (sOf key)) (numL 0) (List.replicate 16 0) 0 = PC at BD HPA
  generalize numL (rOf key) = NR at BD V1
  generalize numL (sOf key) = NS at BD V2
  generalize zer16 = Z at hz hlz
  obtain ⟨X, HX⟩ : ∃ X, Hid (clampL (key.take 16) = X) := ⟨_, rfl⟩
  rw [HX.out] at CA V1 l3
  obtain ⟨K, HKT⟩ : ∃ K, Hid (key.take 16 = K) := ⟨_, rfl⟩
  rw [HKT.out] at CA l1
  clear HX HP HR HSS
  have HKL := Lib.hid hk
  clear hk
  have G := Lib.hid (heap_alloc_new' w (.cells (key.map bv).toArray 107))
  have GB : Hid (Below w.heap.size w (w.alloc (.cells (key.map bv).toArray 107))) := (Below.refl _ _).alloc (Nat.le_refl _) _
  have ar1 := arr_to arr32P s8 ⟨w.heap.size, 0, none⟩ .i64 16 (by omega) (by omega)
  rw [show (16 : Int).toNat = 16 from rfl] at ar1
  have aat : ∀ W, (Instr.arrayAt 60 (.slice (some ⟨w.heap.size, 0, none⟩) 16 32)).run Tryz.prog W = .ok (.pointer (some ⟨w.heap.size, 0, none⟩)) W := fun W => by kernel_rfl
  go_enter Tryz.func138, Tryz.ntmps138
  go_upto_region 1 with (fail)
  generalize hV : w.alloc _ = W0 at G GB ⊢
  clear hV
  have R0 : Hid (W0.rangeAt w.heap.size 0 (K.map bv)) := by
    intro j v hv
    rw [← HKT.out] at hv l1
    have hj := (List.getElem?_eq_some_iff.1 hv).1
    rw [List.length_map, l1.out] at hj
    rw [Nat.zero_add, cell_of_heap G.out, ← hv, List.map_take, List.getElem?_take_of_lt hj]
  go_wp2_with (first
    | (refine wpList_ld rfl 60 (.tmp 5) rfl (run_loadAt_mid _ w.heap.size 0 60 (K.map bv) _ R0.out arr16P rfl (i16p K l1.out)) ?_))
  refine (CA.out W0).mono ?_
  rintro e w1 ⟨rfl, hb⟩
  have G1 := Lib.hid ((hb.block _ (lt_of_heap G.out)).trans G.out)
  have GB1 : Hid (Below w.heap.size w w1) := GB.out.trans (hb.mono GB.out.size)
  clear hb G GB R0 ar1
  go_upto_region 2 with (first
    | (refine wpList_st rfl 60 (.tmp 3) (.tmp 7) rfl (store_arr (cs := X.map bv) (i16p X l3.out) (bv_one _) (heap_alloc_new' w1 _) (by rw [List.length_map, l3.out]; exact hlz.out)) ?_
       generalize hV : World.setRow _ _ _ = W2
       have M1 := Lib.hid (heap_of_setRow hV (heap_alloc_new' w1 _))
       have MB := Lib.hid (((Below.refl w1.heap.size w1).alloc (Nat.le_refl _) _).trans (below_of_setRow hV (Nat.le_refl w1.heap.size) (by simp)))
       clear hV)
    | fail)
  have G2 := Lib.hid ((MB.out.block _ (lt_of_heap G1.out)).trans G1.out)
  have GB2 : Hid (Below w.heap.size w W2) := GB1.out.trans (MB.out.mono GB1.out.size)
  clear MB G1 GB1
  generalize w1.heap.size = g1 at M1 ⊢
  have SX : Hid (Sl W2 (some ⟨g1, 0, none⟩) 16 X) := sl_row l3.out (by omega) M1.out
  have SY : Hid (Sl W2 (some ⟨w.heap.size, 16, none⟩) 16 (key.drop 16)) := by
    have h := row_sub G2.out 16 16 (lt_of_heap G2.out)
    rw [List.take_of_length_le (by rw [l2.out]; omega)] at h
    exact ⟨by rw [l2.out]; omega, by decide, h⟩
  have ar2 := arr_all arr16P s8 ⟨g1, 0, none⟩
  have ar3 := arr_from arr32P s8 ⟨w.heap.size, 0, none⟩ .i64 16 (by omega) (by omega)
  rw [show (16 : Int).toNat = 16 from rfl, show cutA ⟨w.heap.size, 0, none⟩ 32 16 = ⟨w.heap.size, 16, none⟩ from by unfold cutA; rw [if_neg (by omega), Addr.add_mid]] at ar3
  have HX : Hid (Ext W2 W2.drew) := (Below.refl _ _).drew
  refine reg_start (by kernel_rfl) ?_
  try simp only [Act.put, List.setIfInBounds_toArray, List.set_cons_zero, List.set_cons_succ]
  refine reg_take (v := ?_) 0 (some 8) rfl rfl (by kernel_rfl) (by kernel_rfl) (by kernel_rfl) (fun _ _ _ h => h) (by rfl) (fun W hW => ?_) ?_
  rotate_left
  · (go_simp; try rfl)
  simp only [Act.put, List.setIfInBounds_toArray, List.set_cons_zero, List.set_cons_succ]
  refine reg_take (v := ?_) 2 (some 10) rfl rfl (by kernel_rfl) (by kernel_rfl) (by kernel_rfl) (fun _ _ _ h => h) (by rfl) (fun W hW => ?_) ?_
  rotate_left
  · (go_simp; try rfl)
  simp only [Act.put, List.setIfInBounds_toArray, List.set_cons_zero, List.set_cons_succ]
  refine reg_eff 1 rfl (by kernel_rfl) (fun K hK => ?_)
  go_simp
  refine (V1.out _ _ (SX.out.below HX.out)).mono ?_
  rintro e w3 ⟨rfl, hE⟩
  refine hK.out _ _ hE ?_
  have HX := Lib.hid (Ext.trans HX.out hE)
  clear hE hK K
  try simp only [Act.put, List.setIfInBounds_toArray, List.set_cons_zero, List.set_cons_succ]
  refine reg_eff 3 rfl (by kernel_rfl) (fun K hK => ?_)
  go_simp
  refine (V2.out _ _ (SY.out.below HX.out)).mono ?_
  rintro e w4 ⟨rfl, hE⟩
  refine hK.out _ _ hE ?_
  have HX := Lib.hid (Ext.trans HX.out hE)
  clear hE hK K
  try simp only [Act.put, List.setIfInBounds_toArray, List.set_cons_zero, List.set_cons_succ]
  refine reg_take (v := ?_) 4 (some 12) rfl rfl (by kernel_rfl) (by kernel_rfl) (by kernel_rfl) (fun _ _ _ h => h) (by rfl) (fun W hW => ?_) ?_
  rotate_left
  · exact exec_bld rfl (by simp only [List.map_toArray, List.map_cons, List.map_nil]; exact BD.out W)
  simp only [Act.put, List.setIfInBounds_toArray, List.set_cons_zero, List.set_cons_succ]
  refine reg_eff 5 rfl (by kernel_rfl) (fun K hK => ?_)
  go_simp
  have hE : Ext w4 (w4.alloc (.cells PC.toArray 198)) := (Below.refl _ _).alloc (Nat.le_refl _) _
  have GN := Lib.hid (heap_alloc_new' w4 (.cells PC.toArray 198))
  have HS4 : Hid (w.heap.size ≤ w4.heap.size) := Nat.le_trans GB2.out.size HX.out.size
  refine hK.out _ _ hE ?_
  have HX := Lib.hid (Ext.trans HX.out hE)
  clear hE hK K
  try simp only [Act.put, List.setIfInBounds_toArray, List.set_cons_zero, List.set_cons_succ]
  refine reg_take (v := ?_) 6 (some 2) rfl rfl (by kernel_rfl) (by kernel_rfl) (by kernel_rfl) (fun _ _ _ h => h) (by rfl) (fun W hW => ?_) ?_
  rotate_left
  · (go_simp; try rfl)
  simp only [Act.put, List.setIfInBounds_toArray, List.set_cons_zero, List.set_cons_succ]
  refine reg_done (by kernel_rfl) ?_
  go_wp2
  go_ret
  exact ⟨_, HS4.out, rfl, HPA.out _ _ GN.out, GB2.out.step HX.out⟩
end Go.Proofs.YtnhhgiebnhlfcaaGreatDoor
