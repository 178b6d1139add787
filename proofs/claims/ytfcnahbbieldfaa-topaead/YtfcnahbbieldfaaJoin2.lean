/- Joined: Aes3 Aes4 Aes6 Aes10 KeyZ TopK TopC LawsY3. -/
import Derived.Test.YtfcnahbbieldfaaJoin1
import Derived.StillTailTactics
import Derived.Test.YtfcnahbbieldfaaBits3
/- The contract of aes.flat. -/
namespace Go.Proofs.Ytfcnahbbieldfaa
open Go.RowKit
set_option linter.unusedVariables false
set_option maxRecDepth 100000
set_option linter.unusedSimpArgs false
def flatN (h : List W32) (i : Nat) : List UInt8 := outL (h.take i) ++ List.replicate (16 - 4 * i) 0
theorem flatN_len (h : List W32) (i : Nat) (hh : h.length = 4) (hi : i ≤ 4) : (flatN h i).length = 16 := by
  simp [flatN, outL_len, hh]; omega
theorem flatN_step (h : List W32) (i : Nat) (hh : h.length = 4) (hi : i < 4) : splice ((flatN h i).map bv) (4 * i) ((putBig (h.getD i 0).toNat 4).map bv) = (flatN h (i + 1)).map bv := by
  have e0 : List.replicate (16 - 4 * i) (0 : UInt8) = List.replicate 4 0 ++ List.replicate (16 - 4 * (i + 1)) 0 := by
    rw [List.replicate_append_replicate]; congr 1; omega
  have e1 : (flatN h i).map bv = (outL (h.take i)).map bv ++ (List.replicate 4 (0 : UInt8)).map bv ++ (List.replicate (16 - 4 * (i + 1)) (0 : UInt8)).map bv := by
    rw [flatN, e0, List.map_append, List.map_append, List.append_assoc]
  have hl : ((outL (h.take i)).map bv).length = 4 * i := by rw [List.length_map, outL_len, List.length_take, hh]; omega
  have e2 : outL (h.take (i + 1)) = outL (h.take i) ++ putBig (h.getD i 0).toNat 4 := by
    have hi' : i < h.length := by omega
    rw [List.take_succ_eq_append_getElem hi', outL, List.flatMap_append]
    simp [outL, List.getD, hi']
  rw [e1, ← hl, splice_split _ _ _ _ (by simp [putBig_len]), flatN, e2, List.map_append, List.map_append]
theorem flatN_end (h : List W32) (hh : h.length = 4) : flatN h 4 = outL h := by
  simp [flatN, List.take_of_length_le, hh]
theorem arr16B : Try.prog.underlying 23 = some (.array 16 5) := Try.underlying23
theorem i16B : (Try.prog.info? 23).map (·.size) = some 16 := by kernel_rfl
set_option maxHeartbeats 2000000 in
theorem flat_any (h : List W32) (w : World) (hh : h.length = 4) :
    Calls Try.prog 59 #[.agg (h.map wv).toArray] w fun e w' => e = .returned (.agg ((outL h).map bv).toArray) ∧ Below w.heap.size w w' := by
  have HH := Lib.hid hh
  clear hh
  go_enter Try.func59, Try.ntmps59
  go_wp2_with fail
  generalize hV : ((w.alloc _).alloc _).alloc _ = W0
  have F0 : Hid (W0.heap[w.heap.size]? = some (.cells (h.map wv).toArray 99 (0, 0))) := by rw [← hV]; exact (heap3 w _ _ _).1
  have F1 : Hid (W0.heap[w.heap.size + 1]? = some (.cells (List.replicate 16 (Value.int .u8 0)).toArray 23 (0, 0))) := by rw [← hV]; exact (heap3 w _ _ _).2.1
  have F2 : Hid (W0.heap[w.heap.size + 1 + 1]? = some (.cells ((flatN h 0).map bv).toArray 23 (0, 0))) := by rw [← hV]; exact (heap3 w _ _ _).2.2.1
  have FB : Hid (Below w.heap.size w W0) := by rw [← hV]; exact (heap3 w _ _ _).2.2.2
  clear hV
  generalize hg2 : w.heap.size + 1 + 1 = g2 at F2 ⊢
  generalize hg1 : w.heap.size + 1 = g1 at F1 ⊢
  have HG2 : Hid (w.heap.size + 1 + 1 = g2) := hg2
  have HG1 : Hid (w.heap.size + 1 = g1) := hg1
  clear hg1 hg2
  go_loopw [5] (fun vi wr => ∃ (i : Nat), i ≤ 4 ∧ vi = .int .i64 (i : Int) ∧ Hid (Below w.heap.size w wr) ∧ Hid (wr.heap[w.heap.size]? = some (.cells (h.map wv).toArray 99 (0, 0))) ∧ Hid (wr.heap[g1]? = some (.cells (List.replicate 16 (Value.int .u8 0)).toArray 23 (0, 0))) ∧
     Hid (wr.heap[g2]? = some (.cells ((flatN h i).map bv).toArray 23 (0, 0)))) (fun i _ => 4 - (intOf i).toNat)
  case atStart => exact ⟨0, by omega, rfl, FB, F0, F1, F2⟩
  case round =>
    clear F0 F1 F2 FB
    obtain ⟨i, hi, rfl, HB, H0, H1, H2⟩ := hrel
    by_cases hlt : i < 4
    · have e1 : (i : Int) < 4 := by omega
      obtain ⟨q, hq⟩ : ∃ q, q = 4 * i := ⟨_, rfl⟩
      have sl := arr_from arr16B s8 ⟨g2, 0, none⟩ .i64 (q : Int) (by omega) (by omega)
      rw [Int.toNat_natCast, show cutA ⟨g2, 0, none⟩ 16 q = ⟨g2, q, none⟩ from by unfold cutA; rw [if_neg (by omega), Addr.add_mid, Nat.zero_add]] at sl
      have u1 : IntKind.i64.wrap (4 * (i : Int)) = (q : Int) := by rw [IntKind.wrap_i64]; omega
      have c0 := wcell H0.out i (by rw [HH.out]; exact hlt)
      have HST := Lib.hid (flatN_step h i HH.out hlt)
      rw [← hq] at HST
      generalize h.getD i 0 = x at c0 HST
      have hx := x.isLt
      have u2 : IntKind.u64.wrap (x.toNat : Int) = (x.toNat : Int) := by rw [IntKind.wrap_u64]; omega
      have HQ : Hid (q + 4 ≤ 16) := by show _ ≤ _; omega
      have HL32 := Lib.hid (flatN_len h i HH.out hi)
      clear hq
      have HX : Hid (Below g2 wr wr.drew) := (Below.refl _ _).drew
      have q2 : w.heap.size < g2 := by have := HG2.out; omega
      have hg2w : Hid (g2 ≤ wr.heap.size) := Nat.le_of_lt (lt_of_heap H2.out)
      go_wp2_with fail
      refine regB_start (g2) (by kernel_rfl) ?_
      try simp only [Act.put, List.setIfInBounds_toArray, List.set_cons_zero, List.set_cons_succ]
      refine regB_take (v := ?_) 0 (some 8) rfl rfl (by kernel_rfl) (by kernel_rfl) (by kernel_rfl) (fun _ _ _ h => h) (by rfl) (fun W hW => ?_) ?_
      rotate_left
      · (go_simp; try rfl)
      simp only [Act.put, List.setIfInBounds_toArray, List.set_cons_zero, List.set_cons_succ]
      refine regB_take (v := ?_) 1 (some 9) rfl rfl (by kernel_rfl) (by kernel_rfl) (by kernel_rfl) (fun _ _ _ h => h) (by rfl) (fun W hW => ?_) ?_
      rotate_left
      · (go_simp; try rfl)
      simp only [Act.put, List.setIfInBounds_toArray, List.set_cons_zero, List.set_cons_succ]
      refine regB_take (v := ?_) 2 (some 10) rfl rfl (by kernel_rfl) (by kernel_rfl) (by kernel_rfl) (fun _ _ _ h => h) (by rfl) (fun W hW => ?_) ?_
      rotate_left
      · (go_simp; try rfl)
      simp only [Act.put, List.setIfInBounds_toArray, List.set_cons_zero, List.set_cons_succ]
      refine regB_take (v := ?_) 3 (some 11) rfl rfl (by kernel_rfl) (by kernel_rfl) (by kernel_rfl) (fun _ _ _ h => h) (by rfl) (fun W hW => ?_) ?_
      rotate_left
      · (go_simp; try rfl)
      simp only [Act.put, List.setIfInBounds_toArray, List.set_cons_zero, List.set_cons_succ]
      refine regB_take (v := ?_) 4 (some 12) rfl rfl (by kernel_rfl) (by kernel_rfl) (by kernel_rfl) (fun _ _ _ h => h) (by rfl) (fun W hW => ?_) ?_
      rotate_left
      · (go_simp; try rfl)
      simp only [Act.put, List.setIfInBounds_toArray, List.set_cons_zero, List.set_cons_succ]
      refine regB_load 5 (some 13) (fun W hW => load_cell Try.underlying33 ((hW.cell q2).trans c0)) rfl rfl rfl rfl (by kernel_rfl) (by kernel_rfl) (by kernel_rfl) (fun _ _ _ h => h) (by rfl) ?_
      simp only [Act.put, List.setIfInBounds_toArray, List.set_cons_zero, List.set_cons_succ]
      refine regB_take (v := ?_) 6 (some 14) rfl rfl (by kernel_rfl) (by kernel_rfl) (by kernel_rfl) (fun _ _ _ h => h) (by rfl) (fun W hW => ?_) ?_
      rotate_left
      · (go_simp; try rfl)
      simp only [Act.put, List.setIfInBounds_toArray, List.set_cons_zero, List.set_cons_succ]
      refine regB_eff 7 rfl (by kernel_rfl) (fun K hK => ?_)
      go_simp
      refine (putBig_any x.toNat 4 _ (by omega) (by omega)).mono ?_
      rintro e w3 ⟨g3, hg3, rfl, hk3, hE0⟩
      have F3 : Hid (w3.heap[g2]? = _) := (hE0.block _ (lt_of_heap (w := wr.drew) H2.out)).trans H2.out
      have F1' : Hid (w3.heap[g1]? = _) := (hE0.block _ (lt_of_heap (w := wr.drew) H1.out)).trans H1.out
      have F0' : Hid (w3.heap[w.heap.size]? = _) := (hE0.block _ (lt_of_heap (w := wr.drew) H0.out)).trans H0.out
      have FB' : Hid (Below w.heap.size w w3) := Below.step (w1 := wr.drew) HB.out.drew hE0
      have R3 := Lib.hid (row_of_heap hk3 (Nat.lt_succ_self g3))
      have hE : Below g2 wr.drew w3 := RowKit.Below.mono hE0 hg2w.out
      clear hE0 hk3 hg3
      refine hK.out _ _ hE ?_
      have HX := Lib.hid (Below.trans HX.out hE)
      clear hE hK K
      try simp only [Act.put, List.setIfInBounds_toArray, List.set_cons_zero, List.set_cons_succ]
      refine regB_eff 8 rfl (by kernel_rfl) (fun K hK => ?_)
      obtain ⟨w5, hrun, hblk, _, hgr⟩ := copy_run uT s8 (sT := 26) 3 w3 g2 q ((flatN h i).map bv) 23 F3.out (some ⟨g2, q, none⟩) (some ⟨g3, 0, none⟩) (16 - q) (16 - q) 4 4 (g3 + 1) ((putBig x.toNat 4).map bv) (by have := HQ.out; simp [putBig_len]; omega) (fun _ => rfl) R3.out (by have := HQ.out; have := HL32.out; simp [putBig_len]; omega) (bv_one _)
      rw [HST.out] at hblk
      have E2 := Lib.hid hblk
      have EG := Lib.hid hgr
      refine step_cpy rfl (.tmp 10) (.tmp 15) 26 26 rfl hrun ?_
      have hE : Below g2 w3 w5 := grown_below hgr (Nat.le_refl _) (Nat.le_of_lt (lt_of_heap F3.out))
      clear hrun hblk hgr
      refine hK.out _ _ hE ?_
      have HX := Lib.hid (Below.trans HX.out hE)
      clear hE hK K
      try simp only [Act.put, List.setIfInBounds_toArray, List.set_cons_zero, List.set_cons_succ]
      refine regB_done (by kernel_rfl) ?_
      clear u1 u2
      go_wp2
      go_roundw
      case rel =>
        have q3 := HG2.out
        have q1 := HG1.out
        refine ⟨i + 1, by omega, by go_num, ?_, ?_, ?_, E2⟩
        · exact FB'.out.trans (grown_below EG.out (by omega) FB'.out.size)
        · exact (EG.out.block _ (lt_of_heap F0'.out) (by simp; omega)).trans F0'.out
        · exact (EG.out.block _ (lt_of_heap F1'.out) (by simp; omega)).trans F1'.out
      case measure => simp [intOf]; omega
    · have H2' : Hid (wr.heap[g2]? = some (.cells ((outL h).map bv).toArray 23 (0, 0))) := by have := H2.out; rw [show i = 4 by omega, flatN_end h HH.out] at this; exact this
      have hl : Hid (((outL h).map bv).length = 16) := by show _ = _; rw [List.length_map, outL_len, HH.out]
      obtain ⟨L, HL⟩ : ∃ L, Hid (outL h = L) := ⟨_, rfl⟩
      rw [HL.out] at hl H2'
      go_wp2_with (first
        | (refine wpList_ld rfl 23 (.tmp 3) rfl (load_arr arr16B rfl (by rw [hl.out]; exact i16B) H2'.out) ?_)
        | (refine wpList_st rfl 23 (.tmp 2) (.tmp 18) rfl (store_arr (cs := L.map bv) (by rw [hl.out]; exact i16B) (bv_one _) H1.out (by rw [hl.out]; simp)) ?_))
      have hres := setRow_heap wr g1 _ (L.map bv).toArray 23 _ H1.out
      rw [HL.out]
      exact bodyPost_ret (results_cell_row (P := Try.prog) rfl _ _ g1 23 (L.map bv).toArray (0, 0) _ rfl hres arr16B rfl (by rw [List.size_toArray, hl.out]; exact i16B)) rfl ⟨rfl, HB.out.trans (grown_below (grown_setRow _ _ _) (by have := HG1.out; omega) HB.out.size)⟩
end Go.Proofs.Ytfcnahbbieldfaa

/- The contract of aes.columns. -/
namespace Go.Proofs.Ytfcnahbbieldfaa
open Go.RowKit
set_option linter.unusedVariables false
set_option maxRecDepth 100000
set_option linter.unusedSimpArgs false
/-- a block as its four columns -/
def colsL (b : List UInt8) : List W32 := (List.range 4).map (wordAt b)
def colN (b : List UInt8) (i : Nat) : List W32 := (List.range i).map (wordAt b) ++ List.replicate (4 - i) 0
theorem colN_step (b : List UInt8) (i : Nat) (hi : i < 4) : (colN b i).set i (wordAt b i) = colN b (i + 1) := by
  unfold colN
  rw [List.range_succ, List.map_append, List.append_assoc, show 4 - i = (4 - (i + 1)) + 1 by omega, List.replicate_succ]
  rw [List.set_append_right _ _ (by simp)]
  simp
theorem colN_len (b : List UInt8) (i : Nat) (hi : i ≤ 4) : (colN b i).length = 4 := by simp [colN]; omega
theorem colN_zero (b : List UInt8) : ((colN b 0).map wv) = List.replicate 4 (Value.int .u32 0) := by simp [colN, wv]
theorem colN_end (b : List UInt8) : colN b 4 = colsL b := by simp [colN, colsL]
theorem colsL_len (b : List UInt8) : (colsL b).length = 4 := by simp [colsL]
set_option maxHeartbeats 2000000 in
theorem columns_any (b : List UInt8) (w : World) (hb : b.length = 16) :
    Calls Try.prog 54 #[.agg (b.map bv).toArray] w fun e w' => e = .returned (.agg ((colsL b).map wv).toArray) ∧ Below w.heap.size w w' := by
  have HBL := Lib.hid hb
  clear hb
  go_enter Try.func54, Try.ntmps54
  go_wp2_with fail
  generalize hV : ((w.alloc _).alloc _).alloc _ = W0
  have F0 : Hid (W0.heap[w.heap.size]? = some (.cells (b.map bv).toArray 23 (0, 0))) := by rw [← hV]; exact (heap3 w _ _ _).1
  have F1 : Hid (W0.heap[w.heap.size + 1]? = some (.cells (List.replicate 4 (Value.int .u32 0)).toArray 99 (0, 0))) := by rw [← hV]; exact (heap3 w _ _ _).2.1
  have F2 : Hid (W0.heap[w.heap.size + 1 + 1]? = some (.cells ((colN b 0).map wv).toArray 99 (0, 0))) := by rw [← hV, colN_zero]; exact (heap3 w _ _ _).2.2.1
  have FB : Hid (Below w.heap.size w W0) := by rw [← hV]; exact (heap3 w _ _ _).2.2.2
  clear hV
  generalize hg2 : w.heap.size + 1 + 1 = g2 at F2 ⊢
  generalize hg1 : w.heap.size + 1 = g1 at F1 ⊢
  have HG2 : Hid (w.heap.size + 1 + 1 = g2) := hg2
  have HG1 : Hid (w.heap.size + 1 = g1) := hg1
  clear hg1 hg2
  go_loopw [5] (fun vi wr => ∃ (i : Nat), i ≤ 4 ∧ vi = .int .i64 (i : Int) ∧ Hid (Below w.heap.size w wr) ∧ Hid (wr.heap[w.heap.size]? = some (.cells (b.map bv).toArray 23 (0, 0))) ∧ Hid (wr.heap[g1]? = some (.cells (List.replicate 4 (Value.int .u32 0)).toArray 99 (0, 0))) ∧
     Hid (wr.heap[g2]? = some (.cells ((colN b i).map wv).toArray 99 (0, 0)))) (fun i _ => 4 - (intOf i).toNat)
  case atStart => exact ⟨0, by omega, rfl, FB, F0, F1, F2⟩
  case round =>
    obtain ⟨i, hi, rfl, HB, H0, H1, H2⟩ := hrel
    by_cases hlt : i < 4
    · have e1 : (i : Int) < 4 := by omega
      have sl := arr_mid arr16B s8 ⟨w.heap.size, 0, none⟩ .i64 .i64 (4 * (i : Int)) (4 * (i : Int) + 4) (by omega) (by omega) (by omega)
      have e2 : (4 * (i : Int)).toNat = 4 * i := by omega
      have e3 : (4 * (i : Int) + 4).toNat = 4 * i + 4 := by omega
      rw [e2, e3, show 4 * i + 4 - 4 * i = 4 by omega, show cutA ⟨w.heap.size, 0, none⟩ 16 (4 * i) = ⟨w.heap.size, 4 * i, none⟩ from by unfold cutA; rw [if_neg (by omega), Addr.add_mid, Nat.zero_add]] at sl
      clear e2 e3
      have HWB := Lib.hid (word_big b i)
      have HST := Lib.hid (colN_step b i (by omega))
      go_wp2_with fail
      refine (big_n (some ⟨w.heap.size, 4 * i, none⟩) 4 (16 - 4 * i) ((b.drop (4 * i)).take 4) wr ?_ ?_ ?_ ?_).mono ?_
      · rw [List.length_take, List.length_drop, HBL.out]; omega
      · omega
      · simp [maxLen]; omega
      · exact row_sub H0.out (4 * i) 4 (lt_of_heap H0.out)
      rintro e w1 ⟨rfl, hb1⟩
      rw [HWB.out]
      generalize wordAt b i = x at HST
      have hx := x.isLt
      have H0' : Hid (w1.heap[w.heap.size]? = _) := (hb1.block _ (lt_of_heap H0.out)).trans H0.out
      have H1' : Hid (w1.heap[g1]? = _) := (hb1.block _ (lt_of_heap H1.out)).trans H1.out
      have H2' : Hid (w1.heap[g2]? = _) := (hb1.block _ (lt_of_heap H2.out)).trans H2.out
      have HB' : Hid (Below w.heap.size w w1) := HB.out.step hb1
      have c1 := wcell H2'.out i (by rw [colN_len _ _ (by omega)]; omega)
      have fz := frozen_of_heap H2'.out i
      have hmod : (x.toNat : Int) % 4294967296 = (x.toNat : Int) := by omega
      clear hb1 H0 H1 H2 HB HWB
      go_wp2
      go_roundw
      case rel =>
        have q2 := HG2.out
        have q1 := HG1.out
        refine ⟨i + 1, by omega, by go_num, ?_, ?_, ?_, ?_⟩
        · exact HB'.out.setCell (show w.heap.size ≤ g2 by omega) _
        · exact (Below.heap_setCell w1 _ _ _ (show w.heap.size ≠ g2 by omega)).trans H0'.out
        · exact (Below.heap_setCell w1 _ _ _ (show g1 ≠ g2 by omega)).trans H1'.out
        · have := heap_set H2'.out i (wv x)
          rw [← List.map_set, HST.out] at this
          exact this
      case measure => simp [intOf]; omega
    · have H2' : Hid (wr.heap[g2]? = some (.cells ((colsL b).map wv).toArray 99 (0, 0))) := by have := H2.out; rw [show i = 4 by omega, colN_end] at this; exact this
      have hl : Hid (((colsL b).map wv).length = 4) := by show _ = _; rw [List.length_map, colsL_len]
      obtain ⟨L, HL⟩ : ∃ L, Hid (colsL b = L) := ⟨_, rfl⟩
      rw [HL.out] at hl H2'
      go_wp2_with (first
        | (refine wpList_ld rfl 99 (.tmp 3) rfl (load_arr arr4W rfl (by rw [hl.out]; exact i4W) H2'.out) ?_)
        | (refine wpList_st rfl 99 (.tmp 2) (.tmp 19) rfl (store_arr (cs := L.map wv) (by rw [hl.out]; exact i4W) (wv_one _) H1.out (by rw [hl.out]; simp)) ?_))
      have hres := setRow_heap wr g1 _ (L.map wv).toArray 99 _ H1.out
      rw [HL.out]
      exact bodyPost_ret (results_cell_row (P := Try.prog) rfl _ _ g1 99 (L.map wv).toArray (0, 0) _ rfl hres arr4W rfl (by rw [List.size_toArray, hl.out]; exact i4W)) rfl ⟨rfl, HB.out.trans (grown_below (grown_setRow _ _ _) (by have := HG1.out; omega) HB.out.size)⟩
end Go.Proofs.Ytfcnahbbieldfaa

/- The contract of aes.shifted. -/
namespace Go.Proofs.Ytfcnahbbieldfaa
open Go.RowKit
set_option linter.unusedVariables false
set_option maxRecDepth 100000
set_option linter.unusedSimpArgs false
/-- column c of the block s, each row turned round by n columns, the first r rows of it -/
def shCol (n : Nat) (s : List W32) (c : Nat) : Nat → W32
  | 0 => 0
  | r + 1 => shCol n s c r ||| (s.getD ((c + n * r) % 4) 0 &&& (4278190080#32 >>> (8 * r)))
def shiftW (n : Nat) (s : List W32) : List W32 := (List.range 4).map fun c => shCol n s c 4
def shN (n : Nat) (s : List W32) (c r : Nat) : List W32 := (List.range c).map (fun j => shCol n s j 4) ++ (shCol n s c r :: List.replicate (3 - c) 0)
def shD (n : Nat) (s : List W32) (c : Nat) : List W32 := (List.range c).map (fun j => shCol n s j 4) ++ List.replicate (4 - c) 0
theorem shD_N (n : Nat) (s : List W32) (c : Nat) (hc : c < 4) : shD n s c = shN n s c 0 := by
  unfold shD shN; rw [show 4 - c = (3 - c) + 1 by omega, List.replicate_succ]; rfl
theorem shN_D (n : Nat) (s : List W32) (c : Nat) (hc : c < 4) : shN n s c 4 = shD n s (c + 1) := by
  unfold shD shN; rw [List.range_succ, List.map_append, List.append_assoc, show 4 - (c + 1) = 3 - c by omega]; rfl
theorem shN_step (n : Nat) (s : List W32) (c r : Nat) : (shN n s c r).set c (shCol n s c (r + 1)) = shN n s c (r + 1) := by
  unfold shN; rw [List.set_append_right _ _ (by simp)]; simp
theorem shN_get (n : Nat) (s : List W32) (c r : Nat) : (shN n s c r).getD c 0 = shCol n s c r := by
  unfold shN; rw [List.getD_eq_getElem?_getD, List.getElem?_append_right (by simp)]; simp
theorem shN_len (n : Nat) (s : List W32) (c r : Nat) (hc : c < 4) : (shN n s c r).length = 4 := by simp [shN]; omega
theorem shD_len (n : Nat) (s : List W32) (c : Nat) (hc : c ≤ 4) : (shD n s c).length = 4 := by simp [shD]; omega
theorem shD_end (n : Nat) (s : List W32) : shD n s 4 = shiftW n s := by simp [shD, shiftW]
theorem shiftW_len (n : Nat) (s : List W32) : (shiftW n s).length = 4 := by simp [shiftW]
theorem shrK (e : Nat) (he : e ≤ 24) : (4278190080 : Int) / 2 ^ e = ((4278190080#32 >>> e).toNat : Int) := by
  rw [shr32]; rfl
set_option maxHeartbeats 2000000 in
theorem shifted_any (n : Nat) (s : List W32) (w : World) (hn : n ≤ 3) (hs : s.length = 4) :
    Calls Try.prog 57 #[.int .i64 (n : Int), .agg (s.map wv).toArray] w fun e w' => e = .returned (.agg ((shiftW n s).map wv).toArray) ∧ Below w.heap.size w w' := by
  have HSL := Lib.hid hs
  clear hs
  go_enter Try.func57, Try.ntmps57
  go_wp2_with fail
  generalize hV : ((w.alloc _).alloc _).alloc _ = W0
  have F0 : Hid (W0.heap[w.heap.size]? = some (.cells (s.map wv).toArray 99 (0, 0))) := by rw [← hV]; exact (heap3 w _ _ _).1
  have F1 : Hid (W0.heap[w.heap.size + 1]? = some (.cells (List.replicate 4 (Value.int .u32 0)).toArray 99 (0, 0))) := by rw [← hV]; exact (heap3 w _ _ _).2.1
  have F2 : Hid (W0.heap[w.heap.size + 1 + 1]? = some (.cells ((shD n s 0).map wv).toArray 99 (0, 0))) := by rw [← hV]; exact (heap3 w _ _ _).2.2.1
  have FB : Hid (Below w.heap.size w W0) := by rw [← hV]; exact (heap3 w _ _ _).2.2.2
  clear hV
  generalize hg2 : w.heap.size + 1 + 1 = g2 at F2 ⊢
  generalize hg1 : w.heap.size + 1 = g1 at F1 ⊢
  have HG2 : Hid (w.heap.size + 1 + 1 = g2) := hg2
  have HG1 : Hid (w.heap.size + 1 = g1) := hg1
  clear hg1 hg2
  go_loopw [8] (fun vi wr => ∃ (c : Nat), c ≤ 4 ∧ vi = .int .i64 (c : Int) ∧ Hid (Below w.heap.size w wr) ∧ Hid (wr.heap[w.heap.size]? = some (.cells (s.map wv).toArray 99 (0, 0))) ∧ Hid (wr.heap[g1]? = some (.cells (List.replicate 4 (Value.int .u32 0)).toArray 99 (0, 0))) ∧
     Hid (wr.heap[g2]? = some (.cells ((shD n s c).map wv).toArray 99 (0, 0)))) (fun i _ => 4 - (intOf i).toNat)
  case atStart => exact ⟨0, by omega, rfl, FB, F0, F1, F2⟩
  case round =>
    clear F0 F1 F2 FB
    obtain ⟨c, hc, rfl, HB, H0, H1, H2⟩ := hrel
    by_cases hlc : c < 4
    · have q1 : (c : Int) < 4 := by omega
      rw [shD_N n s c hlc] at H2
      obtain ⟨wo, hwo⟩ : ∃ x, x = wr := ⟨_, rfl⟩
      subst hwo
      go_wp2_with fail
      go_loopw [11] (fun vi wr => ∃ (r : Nat), r ≤ 4 ∧ vi = .int .i64 (r : Int) ∧ Hid (Below w.heap.size w wr) ∧ Hid (wr.heap[w.heap.size]? = some (.cells (s.map wv).toArray 99 (0, 0))) ∧ Hid (wr.heap[g1]? = some (.cells (List.replicate 4 (Value.int .u32 0)).toArray 99 (0, 0))) ∧
         Hid (wr.heap[g2]? = some (.cells ((shN n s c r).map wv).toArray 99 (0, 0)))) (fun i _ => 4 - (intOf i).toNat)
      case atStart => exact ⟨0, by omega, rfl, HB, H0, H1, H2⟩
      case round =>
        clear HB H0 H1 H2
        obtain ⟨r, hr, rfl, HB, H0, H1, H2⟩ := hrel
        by_cases hlr : r < 4
        · have q2 : (r : Int) < 4 := by omega
          have c2 := wcell H2.out c (by rw [shN_len n s c r hlc]; exact hlc)
          rw [shN_get] at c2
          have fz := frozen_of_heap H2.out c
          have HST := Lib.hid (shN_step n s c r)
          obtain ⟨p, hp⟩ : ∃ p, p = n * r := ⟨_, rfl⟩
          have hp9 : p ≤ 9 := by
            rw [hp]
            exact Nat.le_trans (Nat.mul_le_mul hn (show r ≤ 3 by omega)) (by decide)
          obtain ⟨q, hq⟩ : ∃ q, q = c + p := ⟨_, rfl⟩
          obtain ⟨m, hm⟩ : ∃ m, m = q % 4 := ⟨_, rfl⟩
          obtain ⟨e, he⟩ : ∃ e, e = 8 * r := ⟨_, rfl⟩
          obtain ⟨K, hK⟩ : ∃ K, K = 4278190080#32 >>> e := ⟨_, rfl⟩
          have hco : shCol n s c (r + 1) = shCol n s c r ||| (s.getD m 0 &&& K) := by rw [hm, hq, hp, hK, he]; rfl
          rw [hco] at HST
          have c0 := wcell H0.out m (by rw [HSL.out]; omega)
          have o1 : IntKind.i64.wrap ((n : Int) * (r : Int)) = (p : Int) := by rw [hp, IntKind.wrap_i64, ← Int.natCast_mul]; rw [hp] at hp9; omega
          have o2 : IntKind.i64.wrap ((c : Int) + (p : Int)) = (q : Int) := by rw [IntKind.wrap_i64]; omega
          have o3 : (q : Int).tmod 4 = (m : Int) := by rw [Int.tmod_eq_emod_of_nonneg (by omega)]; omega
          have o3' : (q : Int) % 4 = (m : Int) := by omega
          have o4 : IntKind.i64.wrap (8 * (r : Int)) = (e : Int) := by rw [IntKind.wrap_i64]; omega
          have o5 : IntKind.u64.wrap (e : Int) = (e : Int) := by rw [IntKind.wrap_u64]; omega
          have o6 : IntKind.i64.wrap (m : Int) = (m : Int) := by rw [IntKind.wrap_i64]; omega
          have q3 : (m : Int) < 4 := by omega
          have he32 : min e 32 = e := by omega
          have o7 : (4278190080 : Int) / 2 ^ e = (K.toNat : Int) := by rw [hK]; exact shrK e (by omega)
          generalize s.getD m 0 = y at c0 HST
          generalize shCol n s c r = z at c2 HST
          clear hp hq hm he hK hco hp9
          go_wp2_with fail
          go_still_tail 18, (by kernel_rfl)
          change wpList _ _ _ _ _ wr.drew
          clear o1 o2 o3 o3' o4 o5 o6 o7 he32
          go_wp2
          go_roundw
          case rel =>
            have k2 := HG2.out
            have k1 := HG1.out
            refine ⟨r + 1, by omega, by go_num, ?_, ?_, ?_, ?_⟩
            · exact HB.out.drew.setCell (show w.heap.size ≤ g2 by omega) _
            · exact (Below.heap_setCell wr.drew _ _ _ (show w.heap.size ≠ g2 by omega)).trans H0.out
            · exact (Below.heap_setCell wr.drew _ _ _ (show g1 ≠ g2 by omega)).trans H1.out
            · have h1 : ((shN n s c r).map wv).set c (Value.int .u32 (bits .or .u32 (z.toNat : Int) (bits .and .u32 (y.toNat : Int) (K.toNat : Int)))) = (shN n s c (r + 1)).map wv := by
                rw [and32, or32, ← HST.out, List.map_set]; rfl
              have := heap_set (w := wr.drew) H2.out c (Value.int .u32 (bits .or .u32 (z.toNat : Int) (bits .and .u32 (y.toNat : Int) (K.toNat : Int))))
              rw [h1] at this
              exact this
          case measure => simp [intOf]; omega
        · have H2' := H2.out
          rw [show r = 4 by omega, shN_D n s c hlc] at H2'
          have K2 := Lib.hid H2'
          clear H2' H2
          go_wp2
          go_roundw
          case rel => exact ⟨c + 1, by omega, by go_num, HB, H0, H1, K2⟩
          case measure => simp [intOf]; omega
    · have H2' : Hid (wr.heap[g2]? = some (.cells ((shiftW n s).map wv).toArray 99 (0, 0))) := by have := H2.out; rw [show c = 4 by omega, shD_end] at this; exact this
      have hl4 : Hid (((shiftW n s).map wv).length = 4) := by show _ = _; rw [List.length_map, shiftW_len]
      clear H2
      obtain ⟨L, HLL⟩ : ∃ L, Hid ((shiftW n s).map wv = L) := ⟨_, rfl⟩
      have hone : Hid (∀ v ∈ L, v.oneCell' = true) := by show ∀ v ∈ L, _; rw [← HLL.out]; exact wv_one _
      rw [HLL.out] at H2' hl4
      go_wp2_with (first
        | (refine wpList_ld rfl 99 (.tmp 5) rfl (load_arr arr4W rfl (by rw [hl4.out]; exact i4W) H2'.out) ?_)
        | (refine wpList_st rfl 99 (.tmp 4) (.tmp 34) rfl (store_arr (cs := L) (by rw [hl4.out]; exact i4W) hone.out H1.out (by rw [hl4.out]; simp)) ?_))
      have hres := setRow_heap wr g1 _ L.toArray 99 _ H1.out
      exact bodyPost_ret (results_cell_row (P := Try.prog) rfl _ _ g1 99 L.toArray (0, 0) _ rfl hres arr4W rfl (by rw [List.size_toArray, hl4.out]; exact i4W)) rfl ⟨by rw [HLL.out], HB.out.trans (grown_below (grown_setRow _ _ _) (by have := HG1.out; omega) HB.out.size)⟩
end Go.Proofs.Ytfcnahbbieldfaa

/- The contract of (*Keys).Encrypt. -/
namespace Go.Proofs.Ytfcnahbbieldfaa
open Go.RowKit
set_option linter.unusedVariables false
set_option maxRecDepth 100000
set_option linter.unusedSimpArgs false
/-- a block behind i rounds -/
def encN (T : List UInt8) (ws : List W32) (b : List UInt8) : Nat → List W32
  | 0 => addW ws 0 (colsL b)
  | i + 1 => addW ws (i + 1) ((shiftW 1 ((encN T ws b i).map (subW T))).map mixW)
def encT (T : List UInt8) (ws : List W32) (n : Nat) (b : List UInt8) : List UInt8 := outL (addW ws n (shiftW 1 ((encN T ws b (n - 1)).map (subW T))))
def encL (ws : List W32) (n : Nat) (b : List UInt8) : List UInt8 := encT sboxL ws n b
theorem encN_len (T : List UInt8) (ws : List W32) (b : List UInt8) (i : Nat) (hw : ws.length = 60) (hi : i ≤ 14) : (encN T ws b i).length = 4 := by
  cases i with
  | zero => exact addW_len _ _ _ (colsL_len b) (by omega)
  | succ i => exact addW_len _ _ _ (by rw [List.length_map]; exact shiftW_len _ _) (by omega)
def zeros16 : List Value := (List.replicate 16 (0 : UInt8)).map bv
theorem zeros16_len : zeros16.length = 16 := rfl
set_option maxHeartbeats 2000000 in
theorem enc_none (v : Value) (b : List UInt8) (w : World) (hb : b.length = 16) (hr : ∀ W, Below w.heap.size w W → Calls Try.prog 52 #[v] W fun e w' => e = .returned (.int .i64 0) ∧ W = w') :
    Calls Try.prog 38 #[v, .agg (b.map bv).toArray] w fun e w' => e = .returned (.agg ((List.replicate 16 (0 : UInt8)).map bv).toArray) ∧ Below w.heap.size w w' := by
  have HR := Lib.hid hr
  have hz : ∀ W, (zeroValue 23).run Try.prog W = .ok (.agg zeros16.toArray) W := fun W => by kernel_rfl
  have hone : Hid (∀ v ∈ zeros16, v.oneCell' = true) := bv_one _
  clear hr
  go_enter Try.func38, Try.ntmps38
  go_upto_region 1 with (fail)
  generalize hV : (w.alloc _).alloc _ = W0
  have F1 : Hid (W0.heap[w.heap.size + 1]? = some (.cells zeros16.toArray 23 (0, 0))) := by rw [← hV]; exact (heap2 w _ _).2.1
  have FB : Hid (Below w.heap.size w W0) := by rw [← hV]; exact (heap2 w _ _).2.2
  clear hV
  go_wp2_with fail
  refine (HR.out W0 FB.out).mono ?_
  rintro e w1 ⟨rfl, rfl⟩
  go_wp2_with (first
    | (refine wpList_run (o := ⟨some 13, _, _, _, _, _⟩) rfl (v := .agg zeros16.toArray) (w' := W0) (by kernel_rfl) ?_
       generalize hZ : zeros16 = Z at F1 hone ⊢)
    | (refine wpList_st rfl 23 (.tmp 4) (.tmp 13) rfl (store_arr (cs := Z) (old := Z) (by rw [← hZ]; exact i16B) hone.out F1.out rfl) ?_))
  have hres := setRow_heap W0 (w.heap.size + 1) _ Z.toArray 23 _ F1.out
  refine bodyPost_ret (results_cell_row (P := Try.prog) rfl _ _ (w.heap.size + 1) 23 Z.toArray (0, 0) _ rfl hres arr16B rfl (by rw [← hZ]; exact i16B)) rfl ⟨by rw [← hZ]; rfl, FB.out.trans (grown_below (grown_setRow _ _ _) (Nat.le_succ _) FB.out.size)⟩
set_option maxHeartbeats 4000000 in
theorem encIn_any (g n : Nat) (ws : List W32) (b : List UInt8) (w : World) (hb : b.length = 16) (hn : 1 ≤ n) (hn2 : n ≤ 14) (H : KeyIn w g ws n) :
    Calls Try.prog 38 #[.pointer (some ⟨g, 0, none⟩), .agg (b.map bv).toArray] w fun e w' => e = .returned (.agg ((encL ws n b).map bv).toArray) ∧ Below w.heap.size w w' := by
  have HBL := Lib.hid hb; have HK := Lib.hid H
  have HKX : Hid (∀ W, Below w.heap.size w W → KeyIn W g ws n) := fun W hW => H.ext hW
  have HW : Hid (ws.length = 60) := H.1
  have hz : ∀ W, (zeroValue 23).run Try.prog W = .ok (.agg zeros16.toArray) W := fun W => by kernel_rfl
  have hz2 := zeroTb
  have e0 : ((n : Int) == 0) = false := by simp; omega
  obtain ⟨n1, hn1⟩ : ∃ n1, n1 = n - 1 := ⟨_, rfl⟩
  have u1 : (n : Int) - 1 = (n1 : Int) := by omega
  have HN1 := Lib.hid hn1
  have HF := Lib.hid (fun W => forward_any W)
  have hsl := Lib.hid sboxL_len
  have HI : Hid ((Try.prog.info? 92).map (·.size) = some (sboxL.map bv).length) := by show _ = _; rw [subCells]; exact iTb
  have HE : Hid (zeros256.length = (sboxL.map bv).length) := by show _ = _; rw [subCells, zeros256_len]
  unfold encL
  generalize sboxL = T at HF hsl HI HE ⊢
  have hi16 : Hid ((Try.prog.info? 23).map (·.size) = some (b.map bv).length) := by show _ = _; rw [List.length_map, hb]; exact i16B
  have hn14 : n1 ≤ 13 := by omega
  clear hb H hn1
  go_enter Try.func38, Try.ntmps38
  go_upto_region 1 with (fail)
  generalize hV : (w.alloc _).alloc _ = W0
  have F0 : Hid (W0.heap[w.heap.size]? = some (.cells (b.map bv).toArray 23 (0, 0))) := by rw [← hV]; exact (heap2 w _ _).1
  have F1 : Hid (W0.heap[w.heap.size + 1]? = some (.cells zeros16.toArray 23 (0, 0))) := by rw [← hV]; exact (heap2 w _ _).2.1
  have FB : Hid (Below w.heap.size w W0) := by rw [← hV]; exact (heap2 w _ _).2.2
  clear hV
  generalize hg1 : w.heap.size + 1 = g1 at F1 ⊢
  have HG1 : Hid (w.heap.size + 1 = g1) := hg1
  clear hg1
  go_wp2_with fail
  refine (roundsIn_any g ws n W0 (HKX.out _ FB.out)).mono ?_
  rintro e w1 ⟨rfl, rfl⟩
  go_wp2_with fail
  refine (HF.out W0).mono ?_
  rintro e w1 ⟨rfl, hB1⟩
  have P0 := Lib.hid ((hB1.block _ (lt_of_heap F0.out)).trans F0.out)
  have P1 := Lib.hid ((hB1.block _ (lt_of_heap F1.out)).trans F1.out)
  have PB := Lib.hid (FB.out.step hB1)
  have hl0 := Lib.hid (lt_of_heap P0.out)
  have hl1 := Lib.hid (lt_of_heap P1.out)
  clear hB1 F0 F1 FB
  go_upto_region 5 with (first
    | (refine wpList_st rfl 92 (.tmp 6) (.tmp 14) rfl (store_arr (cs := T.map bv) (old := zeros256) HI.out (bv_one _) (heap_alloc_new' w1 _) HE.out) ?_
       generalize hV : World.setRow _ _ _ = W5
       have M6 := Lib.hid (heap_of_setRow hV (heap_alloc_new' w1 _))
       have MB := Lib.hid (((Below.refl w1.heap.size w1).alloc (Nat.le_refl _) _).trans (below_of_setRow hV (Nat.le_refl w1.heap.size) (by simp)))
       clear hV)
    | fail)
  have N0 := Lib.hid ((MB.out.block _ hl0.out).trans P0.out)
  have N1 := Lib.hid ((MB.out.block _ hl1.out).trans P1.out)
  have NB := Lib.hid (PB.out.step MB.out)
  clear P0 P1 PB MB hl0
  generalize hg6 : w1.heap.size = g6 at M6 hl1 ⊢
  clear hg6
  have hS0 : Hid ((encN T ws b 0).length = 4) := encN_len T ws b 0 HW.out (by omega)
  have HE0 : Hid (addW ws 0 (colsL b) = encN T ws b 0) := rfl
  go_wp2_with (first
    | (refine wpList_ld rfl 23 (.tmp 3) rfl (load_arr arr16B rfl hi16.out N0.out) ?_)
    | fail)
  refine (columns_any b W5 HBL.out).mono ?_
  rintro e w2 ⟨rfl, hB2⟩
  have HB2 := Lib.hid hB2
  clear hB2
  go_wp2_with fail
  refine (add_any g ws n 0 (colsL b) w2 (colsL_len b) HW.out (by omega) (HKX.out _ (NB.out.step HB2.out)).2).mono ?_
  rw [HE0.out]
  rintro e w3 ⟨rfl, hB3⟩
  have HB3 := Lib.hid (HB2.out.step hB3)
  have Q1 := Lib.hid ((HB3.out.block _ (lt_of_heap N1.out)).trans N1.out)
  have Q6 := Lib.hid ((HB3.out.block _ (lt_of_heap M6.out)).trans M6.out)
  have QB := Lib.hid (NB.out.step HB3.out)
  have hq1 := Lib.hid (lt_of_heap Q1.out)
  have hq6 := Lib.hid (lt_of_heap Q6.out)
  clear hB3 HB2 HB3 N0 N1 NB M6
  generalize hY0 : encN T ws b 0 = Y0 at hS0 HE0 ⊢
  have HY0 := Lib.hid hY0
  clear hY0
  have hi4 : Hid ((Try.prog.info? 99).map (·.size) = some (Y0.map wv).length) := by show _ = _; rw [List.length_map, hS0.out]; exact i4W
  have hle4 : Hid ((List.replicate 4 (Value.int .u32 0)).length = (Y0.map wv).length) := by show _ = _; rw [List.length_map, hS0.out]; rfl
  go_upto_region 6 with (first
    | (refine wpList_st rfl 99 (.tmp 7) (.tmp 18) rfl (store_arr (cs := Y0.map wv) (old := List.replicate 4 (Value.int .u32 0)) hi4.out (wv_one _) (heap_alloc_new' w3 _) hle4.out) ?_
       generalize hV : World.setRow _ _ _ = W7
       have M7 := Lib.hid (heap_of_setRow hV (heap_alloc_new' w3 _))
       have MB := Lib.hid (((Below.refl w3.heap.size w3).alloc (Nat.le_refl _) _).trans (below_of_setRow hV (Nat.le_refl w3.heap.size) (by simp)))
       clear hV)
    | fail)
  have R1 := Lib.hid ((MB.out.block _ hq1.out).trans Q1.out)
  have R6 := Lib.hid ((MB.out.block _ hq6.out).trans Q6.out)
  have RB := Lib.hid (QB.out.step MB.out)
  have hwg : Hid (w.heap.size ≤ w3.heap.size) := QB.out.size
  clear Q1 Q6 QB MB
  generalize hg7 : w3.heap.size = g7 at M7 hq1 hq6 hwg ⊢
  clear hg7
  rw [← HY0.out] at M7
  go_wp2_with fail
  go_loopw [21] (fun vi wr => ∃ (i : Nat), i ≤ n1 ∧ vi = .int .i64 (i : Int) ∧ Hid (Below w.heap.size w wr) ∧ Hid (wr.heap[g1]? = some (.cells zeros16.toArray 23 (0, 0))) ∧ Hid (wr.heap[g6]? = some (.cells (T.map bv).toArray 92 (0, 0))) ∧
     Hid (wr.heap[g7]? = some (.cells ((encN T ws b i).map wv).toArray 99 (0, 0)))) (fun i _ => n1 - (intOf i).toNat)
  case atStart => exact ⟨0, by omega, rfl, RB, R1, R6, M7⟩
  case round =>
    clear RB R1 R6 M7 hi4 hle4 hS0 HY0 HE0
    obtain ⟨i, hi, rfl, HB, H1, H6, H7⟩ := hrel
    have hSl := Lib.hid (encN_len T ws b i HW.out (by omega))
    by_cases hlt : i < n1
    · have q1 : (i : Int) < (n1 : Int) := by omega
      obtain ⟨i1, hi1⟩ : ∃ i1, i1 = i + 1 := ⟨_, rfl⟩
      have u2 : (i : Int) + 1 = (i1 : Int) := by omega
      have HST : Hid (addW ws i1 ((shiftW 1 ((encN T ws b i).map (subW T))).map mixW) = encN T ws b (i + 1)) := by show _ = _; rw [hi1]; rfl
      have hSl1 := Lib.hid (encN_len T ws b (i + 1) HW.out (by omega))
      have HI1 := Lib.hid hi1
      have hi14 : Hid (i1 ≤ 14) := by show _ ≤ _; omega
      clear hi1
      generalize encN T ws b i = Y at HST hSl H7
      obtain ⟨Y1, HY1⟩ : ∃ Y1, Hid (encN T ws b (i + 1) = Y1) := ⟨_, rfl⟩
      rw [HY1.out] at HST hSl1
      have hi4 : Hid ((Try.prog.info? 99).map (·.size) = some (Y.map wv).length) := by show _ = _; rw [List.length_map, hSl.out]; exact i4W
      go_wp2_with (first
        | (refine wpList_ld rfl 99 (.tmp 7) rfl (load_arr arr4W rfl hi4.out H7.out) ?_)
        | fail)
      refine (all_any g6 T Y wr hSl.out hsl.out H6.out).mono ?_
      have hl2 : Hid ((Y.map (subW T)).length = 4) := by show _ = _; rw [List.length_map, hSl.out]
      generalize Y.map (subW T) = Y2 at HST hl2 ⊢
      rintro e w2 ⟨rfl, hB2⟩
      have HB2 := Lib.hid hB2
      clear hB2
      go_wp2_with fail
      refine (shifted_any 1 Y2 w2 (by omega) hl2.out).mono ?_
      have hl3 := Lib.hid (shiftW_len 1 Y2)
      generalize shiftW 1 Y2 = Y3 at HST hl3 ⊢
      rintro e w3' ⟨rfl, hB3⟩
      have HB3 := Lib.hid (HB2.out.step hB3)
      clear hB3 HB2
      go_wp2_with fail
      refine (each_mix Y3 w3' hl3.out).mono ?_
      have hl4 : Hid ((Y3.map mixW).length = 4) := by show _ = _; rw [List.length_map, hl3.out]
      generalize Y3.map mixW = Y4 at HST hl4 ⊢
      rintro e w4 ⟨rfl, hB4⟩
      have HB4 := Lib.hid (HB3.out.step hB4)
      clear hB4 HB3
      go_wp2_with fail
      refine (add_any g ws n i1 Y4 w4 hl4.out HW.out hi14.out (HKX.out _ (HB.out.step HB4.out)).2).mono ?_
      rw [HST.out]
      rintro e w5 ⟨rfl, hB5⟩
      have HB5 := Lib.hid (HB4.out.step hB5)
      have K1 := Lib.hid ((HB5.out.block _ (lt_of_heap H1.out)).trans H1.out)
      have K6 := Lib.hid ((HB5.out.block _ (lt_of_heap H6.out)).trans H6.out)
      have K7 := Lib.hid ((HB5.out.block _ (lt_of_heap H7.out)).trans H7.out)
      have KB := Lib.hid (HB.out.step HB5.out)
      have hi4b : Hid ((Try.prog.info? 99).map (·.size) = some (Y1.map wv).length) := by show _ = _; rw [List.length_map, hSl1.out]; exact i4W
      have hle : Hid ((Y.map wv).length = (Y1.map wv).length) := by show _ = _; rw [List.length_map, List.length_map, hSl.out, hSl1.out]
      clear hB5 HB4 HB5 H1 H6 H7 HB
      go_wp2_with (first
        | (refine wpList_st rfl 99 (.tmp 7) (.tmp 31) rfl (store_arr (cs := Y1.map wv) hi4b.out (wv_one _) K7.out hle.out) ?_
           generalize hV : World.setRow _ _ _ = W8
           have L7 := Lib.hid (heap_of_setRow hV K7.out)
           have L1 := Lib.hid (heap_of_other hV (Nat.ne_of_lt hq1.out) K1.out)
           have L6 := Lib.hid (heap_of_other hV (Nat.ne_of_lt hq6.out) K6.out)
           have LB := Lib.hid (KB.out.trans (below_of_setRow hV hwg.out KB.out.size))
           clear hV)
        | fail)
      go_roundw
      case rel =>
        refine ⟨i + 1, by omega, by go_num, LB, L1, L6, ?_⟩
        rw [HY1.out]; exact L7
      case measure => simp [intOf]; omega
    · have q1 : ¬ ((i : Int) < (n1 : Int)) := by omega
      have HEN : Hid (outL (addW ws n (shiftW 1 ((encN T ws b i).map (subW T)))) = encT T ws n b) := by show _ = _; unfold encT; rw [← HN1.out, show i = n1 by omega]
      obtain ⟨R, hR⟩ : ∃ R, Hid (encT T ws n b = R) := ⟨_, rfl⟩
      rw [hR.out] at HEN
      generalize encN T ws b i = Y at HEN hSl H7
      have hi4 : Hid ((Try.prog.info? 99).map (·.size) = some (Y.map wv).length) := by show _ = _; rw [List.length_map, hSl.out]; exact i4W
      go_wp2_with (first
        | (refine wpList_ld rfl 99 (.tmp 7) rfl (load_arr arr4W rfl hi4.out H7.out) ?_)
        | fail)
      refine (all_any g6 T Y wr hSl.out hsl.out H6.out).mono ?_
      have hl2 : Hid ((Y.map (subW T)).length = 4) := by show _ = _; rw [List.length_map, hSl.out]
      generalize Y.map (subW T) = Y2 at HEN hl2 ⊢
      rintro e w2 ⟨rfl, hB2⟩
      have HB2 := Lib.hid hB2
      clear hB2
      go_wp2_with fail
      refine (shifted_any 1 Y2 w2 (by omega) hl2.out).mono ?_
      have hl3 := Lib.hid (shiftW_len 1 Y2)
      generalize shiftW 1 Y2 = Y3 at HEN hl3 ⊢
      rintro e w3' ⟨rfl, hB3⟩
      have HB3 := Lib.hid (HB2.out.step hB3)
      clear hB3 HB2
      go_wp2_with fail
      refine (add_any g ws n n Y3 w3' hl3.out HW.out hn2 (HKX.out _ (HB.out.step HB3.out)).2).mono ?_
      have hl4 := Lib.hid (addW_len ws n Y3 hl3.out (by rw [HW.out]; omega))
      generalize addW ws n Y3 = Y4 at HEN hl4 ⊢
      rintro e w4 ⟨rfl, hB4⟩
      have HB4 := Lib.hid (HB3.out.step hB4)
      clear hB4 HB3
      go_wp2_with fail
      refine (flat_any Y4 w4 hl4.out).mono ?_
      have hZl : Hid (((outL Y4).map bv).length = 16) := by show _ = _; rw [List.length_map, outL_len, hl4.out]
      rw [HEN.out]
      rw [HEN.out] at hZl
      rintro e w5 ⟨rfl, hB5⟩
      have HB5 := Lib.hid (HB4.out.step hB5)
      have K1 := Lib.hid ((HB5.out.block _ (lt_of_heap H1.out)).trans H1.out)
      have KB := Lib.hid (HB.out.step HB5.out)
      have hi16b : Hid ((Try.prog.info? 23).map (·.size) = some (R.map bv).length) := by show _ = _; rw [hZl.out]; exact i16B
      have hle : Hid (zeros16.length = (R.map bv).length) := by show _ = _; rw [hZl.out]; rfl
      clear hB5 HB4 HB5 H1 H6 H7 HB
      go_wp2_with (first
        | (refine wpList_st rfl 23 (.tmp 4) (.tmp 39) rfl (store_arr (cs := R.map bv) (old := zeros16) hi16b.out (bv_one _) K1.out hle.out) ?_)
        | fail)
      have hres := setRow_heap w5 g1 _ (R.map bv).toArray 23 _ K1.out
      exact bodyPost_ret (results_cell_row (P := Try.prog) rfl _ _ g1 23 (R.map bv).toArray (0, 0) _ rfl hres arr16B rfl (by rw [List.size_toArray, hZl.out]; exact i16B)) rfl ⟨by rw [hR.out], KB.out.trans (grown_below (grown_setRow _ _ _) (by have := HG1.out; omega) KB.out.size)⟩
theorem enc_any (g n : Nat) (ws : List W32) (b : List UInt8) (w : World) (hb : b.length = 16) (hn : 1 ≤ n) (hn2 : n ≤ 14) (H : KeyAt w g ws n) :
    Calls Try.prog 38 #[.pointer (some ⟨g, 0, none⟩), .agg (b.map bv).toArray] w fun e w' => e = .returned (.agg ((encL ws n b).map bv).toArray) ∧ Below w.heap.size w w' := encIn_any g n ws b w hb hn hn2 H.toIn
end Go.Proofs.Ytfcnahbbieldfaa

/- A key with its IV in memory, and its round keys (the laws' own functions bytes, keys). -/
namespace Go.Proofs.Ytfcnahbbieldfaa
open Go.RowKit
set_option linter.unusedVariables false
set_option maxRecDepth 100000
set_option linter.unusedSimpArgs false
theorem k_strOf_beq (a b : List UInt8) : ((strOf a).toList == (strOf b).toList) = decide (a = b) := by
  have h : ∀ l : List UInt8, (strOf l).toList = l := fun l => by rw [ByteArray.toList_eq]; rfl
  rw [h, h]; rw [Bool.eq_iff_iff]; simp
theorem k_strOf_size (a : List UInt8) : (strOf a).size = a.length := by simp [strOf, ByteArray.size]
theorem k_strOf_append (a b : List UInt8) : strOf a ++ strOf b = strOf (a ++ b) := by
  apply ByteArray.ext; simp [strOf]
theorem Sl.extk {w w' : World} {A : Option Addr} {c : Nat} {bs : List UInt8} (h : Sl w A c bs) (hb : Ext w w') : Sl w' A c bs := h.below hb
theorem k_range_ext {W W' : World} {g o : Nat} {cs : List Value} (h : W.rangeAt g o cs) (hg : g < W.heap.size) (hE : Ext W W') : W'.rangeAt g o cs := fun j v hv => (hE.cell hg).trans (h j v hv)
/-- which bytes of it are the key -/
def keyB (k : List UInt8) (b : Bool) : List UInt8 := if b then k else k.take 16
def keyW (b : Bool) : Nat := if b then 8 else 4
theorem keyB_len (k : List UInt8) (b : Bool) (hk : k.length = 32) : (keyB k b).length = 4 * keyW b := by
  cases b <;> simp [keyB, keyW, hk]
def KZ (W : World) (g : Nat) (k : List UInt8) (b : Bool) (n : List UInt8) : Prop := g < W.heap.size ∧ W.rangeAt g 0 (k.map bv) ∧ W.cell? ⟨g, 32, none⟩ = some (.bool b) ∧ W.rangeAt g 33 (n.map bv)
theorem KZ.ext {W W' : World} {g : Nat} {k n : List UInt8} {b : Bool} (h : KZ W g k b n) (hE : Ext W W') : KZ W' g k b n :=
  ⟨Nat.lt_of_lt_of_le h.1 hE.size, k_range_ext h.2.1 h.1 hE, (hE.cell h.1).trans h.2.2.1, k_range_ext h.2.2.2 h.1 hE⟩
theorem kz_of {W : World} {g : Nat} {k n : List UInt8} {b : Bool} {post : List Value} {t : TypeId} {fr : Nat × Nat} (h : W.heap[g]? = some (.cells (kCells k b n ++ post).toArray t fr)) (hk : k.length = 32) (hn : n.length = 16) : KZ W g k b n := by
  refine ⟨lt_of_heap h, fun j v hv => ?_, ?_, fun j v hv => ?_⟩
  · have hj := (List.getElem?_eq_some_iff.1 hv).1
    rw [cell_of_heap h, kCells, Nat.zero_add, List.append_assoc, List.getElem?_append_left hj]; exact hv
  · rw [cell_of_heap h, kCells, List.append_assoc, List.getElem?_append_right (by simp [hk]), List.length_map, hk]; rfl
  · have hj := (List.getElem?_eq_some_iff.1 hv).1
    rw [cell_of_heap h, kCells, List.append_assoc, List.getElem?_append_right (by simp [hk]; omega), List.length_map, hk, List.append_assoc, List.getElem?_append_right (by simp; omega), List.getElem?_append_left (by simp at hj ⊢; omega)]
    rw [show 33 + j - 32 - [Value.bool b].length = j by simp; omega]; exact hv
theorem kz_new (w : World) (k n : List UInt8) (b : Bool) (t : TypeId) (hk : k.length = 32) (hn : n.length = 16) : KZ (w.alloc (.cells (kCells k b n).toArray t)) w.heap.size k b n :=
  kz_of (post := []) (by rw [List.append_nil]; exact heap_alloc_new' w _) hk hn
theorem kCells_len (k n : List UInt8) (b : Bool) (hk : k.length = 32) (hn : n.length = 16) : (kCells k b n).length = 49 := by simp [kCells, hk, hn]
theorem KZ.key {W : World} {g : Nat} {k n : List UInt8} {b : Bool} (h : KZ W g k b n) (hk : k.length = 32) : Sl W (some ⟨g, 0, none⟩) 32 (keyB k b) := by
  refine ⟨by rw [keyB_len k b hk]; cases b <;> simp [keyW], by simp [maxLen], .inr ⟨g, 0, rfl, h.1, fun j u hu => ?_⟩⟩
  refine h.2.1 j u ?_
  cases b
  · simp only [keyB, Bool.false_eq_true, if_false, List.map_take] at hu
    rw [List.getElem?_take] at hu
    split at hu
    · exact hu
    · cases hu
  · exact hu
theorem arr32Z : Try.prog.underlying 22 = some (.array 32 5) := Try.underlying22
theorem i16z (l : List UInt8) (h : l.length = 16) : (Try.prog.info? 23).map (·.size) = some (l.map bv).length := by rw [List.length_map, h]; exact i16B
end Go.Proofs.Ytfcnahbbieldfaa

/- The key of the laws through the layers: what comes in, its bytes; awake. -/
namespace Go.Proofs.Ytfcnahbbieldfaa
open Go.RowKit Go.ChangeShapes Go.WideShapes Go.ChangeAt
set_option maxRecDepth 100000
set_option linter.unusedVariables false
set_option linter.unusedSimpArgs false
theorem t_of_cells {H : Type} {enc : TypeId × Value → H} {W : World} {b0 : Nat} {sp : Nat → Bool} {held : Bool} {cs : List Value} {fuel : Nat} {x : DataW H × List MemPlace}
    (hf : DataW.trod enc Try.prog W b0 sp held fuel 25 cs = some x) : ∃ k b n, cs = kCells k b n ∧ k.length = 32 ∧ n.length = 16 := by
  obtain ⟨y0, y1, y2, m, _, hl, h0, h1, h2⟩ := Go.Deep.trod_struct3 Try.underlying25 hf
  have hc : Try.prog.cellsOf 25 = 49 := by kernel_rfl
  have c0 : Try.prog.cellsOf 22 = 32 := by kernel_rfl
  have c1 : Try.prog.cellsOf 4 = 1 := by kernel_rfl
  have c2 : Try.prog.cellsOf 23 = 16 := by kernel_rfl
  rw [hc] at hl
  rw [c0] at h0
  rw [c1] at h1
  rw [c2] at h2
  obtain ⟨z0, e0, hz0, w0⟩ := cells_ints Try.underlying22 Try.underlying5 (by kernel_rfl) c0 h0
  obtain ⟨b, e1, _⟩ := DataW.trod_bool Try.underlying4 h1
  obtain ⟨z2, e2, hz2, w2⟩ := cells_ints Try.underlying23 Try.underlying5 (by kernel_rfl) c2 h2
  obtain ⟨k, rfl⟩ := bytes_of w0
  obtain ⟨n, rfl⟩ := bytes_of w2
  refine ⟨k, b, n, ?_, by simpa using hz0, by simpa using hz2⟩
  have hs := split49 cs hl
  simp only [List.drop_zero] at e0
  rw [e0, e1, e2] at hs
  rw [hs]
  simp [kCells, Function.comp_def]
  rfl
theorem open_palfreytop_Key {H : Type} {enc : TypeId × Value → H} {W : World} {base b0 : Nat} {sp : Nat → Bool} {held : Bool} {v : Value} {d : DataW H} {p : List MemPlace}
    (hv : Value.okWide Try.prog W .any base 25 v) (h : DataW.Trod enc Try.prog W b0 sp held 25 v d p) :
    ∃ y : List UInt8 × Bool × List UInt8, v = .agg (kCells y.1 y.2.1 y.2.2).toArray ∧ y.1.length = 32 ∧ y.2.2.length = 16 := by
  obtain ⟨cs, rfl, hsz⟩ := okWide_struct Try.underlying25 hv
  obtain ⟨fuel, hf⟩ := h
  simp only [Value.cells] at hf
  obtain ⟨k, b, n, e, hk, hn⟩ := t_of_cells hf
  refine ⟨(k, b, n), ?_, hk, hn⟩
  congr 1
  apply Array.ext'
  rw [e]
set_option maxHeartbeats 1000000 in
theorem tbytes_any (k : List UInt8) (b : Bool) (n : List UInt8) (w : World) (hk : k.length = 32) (hn : n.length = 16) :
    Calls Try.prog 14 #[.agg (kCells k b n).toArray] w fun e w' => e = .returned (.slice (some ⟨w.heap.size, 0, none⟩) (4 * keyW b) 32) ∧ Sl w' (some ⟨w.heap.size, 0, none⟩) 32 (keyB k b) ∧ Below w.heap.size w w' := by
  have Z0 := kz_new w k n b 25 hk hn
  have HS := Lib.hid (Z0.key hk)
  have hc := Z0.2.2.1
  have sl := arr_to arr32Z s8 ⟨w.heap.size, 0, none⟩ .i64 16 (by omega) (by omega)
  rw [show (16 : Int).toNat = 16 from rfl] at sl
  have sl2 := arr_all arr32Z s8 ⟨w.heap.size, 0, none⟩
  clear Z0
  generalize (kCells k b n).toArray = Z at HS hc ⊢
  generalize keyB k b = KB at HS ⊢
  cases b
  · go_enter Try.func14, Try.ntmps14
    go_wp2
    go_ret
    exact ⟨rfl, HS.out, (Below.refl _ _).alloc (Nat.le_refl _) _⟩
  · go_enter Try.func14, Try.ntmps14
    go_wp2
    go_ret
    exact ⟨rfl, HS.out, (Below.refl _ _).alloc (Nat.le_refl _) _⟩
theorem iKeyT : (Try.prog.info? 25).map (·.size) = some 49 := by kernel_rfl
theorem ld_keyT {W : World} {g : Nat} {k n : List UInt8} {b : Bool} (h : W.heap[g]? = some (.cells (kCells k b n).toArray 25 (0, 0))) (hk : k.length = 32) (hn : n.length = 16) : (Instr.loadAt 25 (.pointer (some ⟨g, 0, none⟩))).run Try.prog W = .ok (.agg (kCells k b n).toArray) W :=
  load_arr Try.underlying25 rfl (by rw [kCells_len k n b hk hn]; exact iKeyT) h
set_option maxHeartbeats 1000000 in
theorem tawake_any (w : World) : Calls Try.prog 12 #[] w fun e w' => e = .returned (.bool true) ∧ Below w.heap.size w w' := by
  have BG := Lib.hid (fun W (hS : Sl W (some ⟨w.heap.size, 0, none⟩) 2 [1, 2]) => big_n (some ⟨w.heap.size, 0, none⟩) 2 2 [1, 2] W rfl hS.1 hS.2.1 hS.2.2)
  have hb : Hid (big [1, 2] = 258) := by show _ = _; decide
  rw [hb.out] at BG
  have N0 := Lib.hid (heap_alloc_new' w (.cells (([1, 2] : List UInt8).map bv).toArray 5))
  have B0 : Hid (Below w.heap.size w (w.alloc (.cells (([1, 2] : List UInt8).map bv).toArray 5))) := (Below.refl _ _).alloc (Nat.le_refl _) _
  have e1 : (([1, 2] : List UInt8).map bv).toArray = #[.int .u8 1, .int .u8 2] := rfl
  rw [e1] at N0 B0
  go_enter Try.func12, Try.ntmps12
  go_wp2_with fail
  generalize w.alloc _ = W0 at N0 B0 ⊢
  refine (BG.out W0 (sl_row (bs := [1, 2]) rfl (by omega) N0.out)).mono ?_
  rintro e w1 ⟨rfl, hb1⟩
  have B1 : Hid (Below w.heap.size w w1) := B0.out.step hb1
  clear hb1
  go_wp2
  go_ret
  exact ⟨rfl, B1.out⟩
end Go.Proofs.Ytfcnahbbieldfaa

/- Bytes copied onto noughts, one by one (the laws through the layers). -/
namespace Go.Proofs.Ytfcnahbbieldfaa
open Go.RowKit
set_option maxRecDepth 100000
set_option linter.unusedVariables false
set_option linter.unusedSimpArgs false
/-- the first i of N bytes, copied onto noughts -/
def copyT (src : List UInt8) (N i : Nat) : List UInt8 := src.take i ++ List.replicate (N - i) 0
theorem copyT_len (src : List UInt8) (N i : Nat) (h : i ≤ src.length) (hi : i ≤ N) : (copyT src N i).length = N := by simp [copyT]; omega
theorem copyT_step (src : List UInt8) (N i : Nat) (hi : i < N) (h : i < src.length) : ((copyT src N i).map bv).set i (.int .u8 ((src.getD i 0).toNat : Int)) = (copyT src N (i + 1)).map bv := by
  have e : copyT src N i = src.take i ++ (0 :: List.replicate (N - (i + 1)) 0) := by
    rw [copyT, show N - i = (N - (i + 1)) + 1 by omega, List.replicate_succ]
  have hl : ((src.take i).map bv).length = i := by simp; omega
  rw [e, List.map_append, List.set_append_right _ _ (by omega), hl, Nat.sub_self, copyT, List.take_succ_eq_append_getElem h]
  simp only [List.map_append, List.map_cons, List.map_nil, List.set_cons_zero, List.append_assoc, List.singleton_append]
  simp only [List.getD, List.getElem?_eq_getElem h, Option.getD_some, bv]
theorem copyT_end (src : List UInt8) (N : Nat) : copyT src N N = src.take N := by simp [copyT]
theorem getT_map_bv {l : List UInt8} {i : Nat} (h : i < l.length) : (l.map bv)[i]? = some (.int .u8 ((l.getD i 0).toNat : Int)) := by
  simp [List.getD, h, bv]
theorem kz_set {W : World} {g q o : Nat} {k n : List UInt8} {b : Bool} {v : Value} (h : KZ W g k b n) (hq : g < q) : KZ (W.setCell ⟨q, o, none⟩ v) g k b n := by
  have hc : ∀ j, (W.setCell ⟨q, o, none⟩ v).cell? ⟨g, j, none⟩ = W.cell? ⟨g, j, none⟩ := fun j => World.cell?_setCell_other _ _ _ _ (fun e => by injection e with e1; omega)
  exact ⟨by simpa using h.1, fun j u hu => (hc _).trans (h.2.1 j u hu), (hc _).trans h.2.2.1, fun j u hu => (hc _).trans (h.2.2.2 j u hu)⟩
end Go.Proofs.Ytfcnahbbieldfaa

/- Laws through the layers: ChaCha20-Poly1305 is the stream from the first count on, and the sum by the block of count nought. -/
namespace Go.Proofs.Ytfcnahbbieldfaa
open Go.RowKit
set_option maxRecDepth 100000
set_option linter.unusedVariables false
set_option linter.unusedSimpArgs false
theorem y3_take {w : World} {A : Option Addr} {c q : Nat} {b : List UInt8} (h : Sl w A c b) : Sl w A c (b.take q) := by
  have := h.2.2.take q
  rw [← List.map_take] at this
  exact ⟨by have := h.1; rw [List.length_take]; omega, h.2.1, this⟩
theorem kz_k {W : World} {g : Nat} {k n : List UInt8} {b : Bool} (h : KZ W g k b n) (hk : k.length = 32) : Sl W (some ⟨g, 0, none⟩) 32 k := by
  refine ⟨by omega, by simp [maxLen], .inr ⟨g, 0, rfl, h.1, fun j u hu => h.2.1 j u hu⟩⟩
theorem whZ_whole (b : List UInt8) (h : b.length % 16 = 0) : whZ b = b := by
  have : padZ b.length = 0 := by unfold padZ; omega
  rw [whZ, this]; simp
theorem copyT_zero (src : List UInt8) (N : Nat) : copyT src N 0 = List.replicate N 0 := by simp [copyT]
set_option maxHeartbeats 8000000 in
theorem topAead_walk (w : World) (y : List UInt8 × Bool × List UInt8) (l : y.1.length = 32 ∧ y.2.2.length = 16) (A : Option Addr) (c : Nat) (b : List UInt8) (h : Sl w A c b) (A' : Option Addr) (c' : Nat) (b' : List UInt8) (h' : Sl w A' c' b') :
    Calls Try.prog 3 #[.agg (kCells y.1 y.2.1 y.2.2).toArray, .slice A b.length c, .slice A' b'.length c'] w fun e w' => e = .returned (.bool true) ∧ Below w.heap.size w w' := by
  obtain ⟨k, lg, n⟩ := y
  obtain ⟨lk, ln⟩ := l
  simp only at lk ln ⊢
  have q1 : b.length ≤ 9223372036854775807 := by have := h.1; have := h.2.1; simp [maxLen] at this; omega
  have q1' : b'.length ≤ 9223372036854775807 := by have := h'.1; have := h'.2.1; simp [maxLen] at this; omega
  have H := Lib.hid h; have H' := Lib.hid h'
  obtain ⟨m, hm⟩ : ∃ m, b.length = m := ⟨_, rfl⟩
  have HM := Lib.hid hm
  rw [hm] at q1 ⊢
  obtain ⟨m', hm'⟩ : ∃ m', b'.length = m' := ⟨_, rfl⟩
  have HM' := Lib.hid hm'
  rw [hm'] at q1' ⊢
  have N0 := Lib.hid (heap_alloc_new' w (.cells (kCells k lg n).toArray 25))
  have B0 : Hid (Below w.heap.size w (w.alloc (.cells (kCells k lg n).toArray 25))) := (Below.refl _ _).alloc (Nat.le_refl _) _
  have Z0 := Lib.hid (kz_new w k n lg 25 lk ln)
  have HLK := Lib.hid lk; have HLN := Lib.hid ln
  obtain ⟨iv, hiv⟩ : ∃ iv, n.take 12 = iv := ⟨_, rfl⟩
  have hivl : iv.length = 12 := by rw [← hiv, List.length_take, ln]; rfl
  have HI := Lib.hid hiv; have HIL := Lib.hid hivl
  obtain ⟨ZC, HZ⟩ : ∃ ZC, Hid ((kCells k lg n).toArray = ZC) := ⟨_, rfl⟩
  rw [HZ.out] at N0 B0 Z0 ⊢
  clear HZ h h' lk ln hm hm' hiv hivl
  by_cases hb : 96 < m'
  · have e1' : (96 : Int) < (m' : Int) := by omega
    go_enter Try.func3, Try.ntmps3
    go_wp2
    go_ret
    exact ⟨rfl, B0.out⟩
  have e1' : ¬ ((96 : Int) < (m' : Int)) := by omega
  have hb2' : m' ≤ 96 := by omega
  clear hb
  by_cases hb : 96 < m
  · have e1 : (96 : Int) < (m : Int) := by omega
    go_enter Try.func3, Try.ntmps3
    go_wp2
    go_ret
    exact ⟨rfl, B0.out⟩
  have e1 : ¬ ((96 : Int) < (m : Int)) := by omega
  have hb2 : m ≤ 96 := by omega
  clear hb
  obtain ⟨r', hr'⟩ : ∃ r', r' = m' % 16 := ⟨_, rfl⟩
  obtain ⟨r, hr⟩ : ∃ r, r = m % 16 := ⟨_, rfl⟩
  have f1 : (m' : Int) % 16 = (r' : Int) := by omega
  have f2 : (m' : Int).tmod 16 = (r' : Int) := by rw [Int.tmod_eq_emod_of_nonneg (by omega)]; exact f1
  have f3 : (m : Int) % 16 = (r : Int) := by omega
  have f4 : (m : Int).tmod 16 = (r : Int) := by rw [Int.tmod_eq_emod_of_nonneg (by omega)]; exact f3
  have HR' := Lib.hid hr'; have HRR := Lib.hid hr
  clear hr hr'
  by_cases hb : r' ≠ 0
  · have f5 : ((r' : Int) != 0) = true := by simp; omega
    go_enter Try.func3, Try.ntmps3
    go_wp2
    go_ret
    exact ⟨rfl, B0.out⟩
  have f5 : ((r' : Int) != 0) = false := by simp; omega
  have h16' : Hid (m' % 16 = 0) := by have := HR'.out; show _ = _; omega
  clear hb
  by_cases hb : r ≠ 0
  · have f6 : ((r : Int) != 0) = true := by simp; omega
    go_enter Try.func3, Try.ntmps3
    go_wp2
    go_ret
    exact ⟨rfl, B0.out⟩
  have f6 : ((r : Int) != 0) = false := by simp; omega
  have h16 : Hid (m % 16 = 0) := by have := HRR.out; show _ = _; omega
  clear hb
  have hz12 : ∀ W, (zeroValue 27).run Try.prog W = .ok (.agg ((copyT n 12 0).map bv).toArray) W := fun W => by
    have : copyT n 12 0 = List.replicate 12 0 := by simp [copyT]
    rw [this]; rfl
  go_enter Try.func3, Try.ntmps3
  go_upto_region 3 with (fail)
  clear f1 f2 f3 f4 f5 f6 e1 e1'
  generalize w.alloc _ = W0 at N0 B0 Z0 ⊢
  obtain ⟨q, HQ⟩ : ∃ q, Hid (W0.heap.size = q) := ⟨_, rfl⟩
  go_upto_region 5 with (fail)
  have M0 := Lib.hid (heap_alloc_new' W0 (.cells ((copyT n 12 0).map bv).toArray 27))
  have E0 : Hid (Ext W0 (W0.alloc (.cells ((copyT n 12 0).map bv).toArray 27))) := (Below.refl _ _).alloc (Nat.le_refl _) _
  have HGQ : Hid (w.heap.size < q) := by show _ < _; rw [← HQ.out]; exact Z0.out.1
  have IB : Hid (Below w.heap.size w (W0.alloc (.cells ((copyT n 12 0).map bv).toArray 27))) := B0.out.step E0.out
  have IZ := Lib.hid (Z0.out.ext E0.out)
  rw [HQ.out] at M0 ⊢
  generalize W0.alloc _ = W1 at M0 IB IZ ⊢
  clear E0 Z0 B0 N0 hz12
  go_loopw [8] (fun vi wr => ∃ (i : Nat), i ≤ 12 ∧ vi = .int .i64 (i : Int) ∧ Hid (Below w.heap.size w wr) ∧ Hid (KZ wr w.heap.size k lg n) ∧ Hid (wr.heap[q]? = some (.cells ((copyT n 12 i).map bv).toArray 27 (0, 0)))) (fun i _ => 12 - (intOf i).toNat)
  case atStart => exact ⟨0, by omega, rfl, IB, IZ, M0⟩
  case round =>
    clear IB IZ M0
    obtain ⟨i, hi, rfl, HB, HZ, HM0⟩ := hrel
    by_cases hlt : i < 12
    · have q2 : (i : Int) < 12 := by omega
      have q3 : (i : Int) < 16 := by omega
      have c1 := HZ.out.2.2.2 i (.int .u8 ((n.getD i 0).toNat : Int)) (getT_map_bv (by rw [HLN.out]; omega))
      have c2 := cell_of_heap HM0.out i
      rw [getT_map_bv (by rw [copyT_len _ _ _ (by rw [HLN.out]; omega) (by omega)]; exact hlt)] at c2
      have fz := frozen_of_heap HM0.out i
      have HST := Lib.hid (copyT_step n 12 i hlt (by rw [HLN.out]; omega))
      generalize n.getD i 0 = x at c1 HST
      generalize (copyT n 12 i).getD i 0 = x0 at c2
      have hx8 : x.toNat < 256 := x.toNat_lt
      go_wp2
      go_roundw
      case rel =>
        have hm := heap_set HM0.out i (.int .u8 (x.toNat : Int))
        rw [HST.out] at hm
        exact ⟨i + 1, by omega, by go_num, HB.out.setCell (Nat.le_of_lt HGQ.out) _, kz_set HZ.out HGQ.out, hm⟩
      case measure => simp [intOf]; omega
    · have q2 : ¬ ((i : Int) < 12) := by omega
      obtain rfl : i = 12 := by omega
      have MN := HM0
      rw [copyT_end, HI.out] at MN
      have HK := HLK; have HN := HIL
      have HMm := Lib.hid HM.out
      clear hlt hi HM0
      -- what is sealed
      have HCL : Hid ((cryptC k iv 1#32 b').length = m') := by show _ = _; rw [cryptC_len]; exact HM'.out
      have HXL : Hid ((sealE k iv b b').length = m' + 16) := by show _ = _; rw [sealE_len, HM'.out]
      have HQL := Lib.hid (tagL_len k iv b (cryptC k iv 1#32 b'))
      have TX1 : Hid ((sealE k iv b b').take m' = cryptC k iv 1#32 b') := by show _ = _; rw [sealE, List.take_left' HCL.out]
      have TX2 : Hid ((sealE k iv b b').drop m' = tagL k iv b (cryptC k iv 1#32 b')) := by show _ = _; rw [sealE, List.drop_left' HCL.out]
      have SE := Lib.hid (fun W S1 S2 S3 S4 => aseal_any k iv b b' (some ⟨w.heap.size, 0, none⟩) (some ⟨q, 0, none⟩) A A' 32 12 m c m' c' W HK.out HN.out HM.out HM'.out (by omega) (by omega) S1 S2 S3 S4)
      have BL : Hid (∀ W, Calls Try.prog 6 #[.agg (k.map bv).toArray, .agg (iv.map bv).toArray, .int .u32 0] W fun e w' => e = .returned (.agg ((blockC k iv 0#32).map bv).toArray) ∧ Below W.heap.size W w') := fun W => cblock_any k iv 0#32 W HK.out HN.out
      have CR : Hid (∀ W, Sl W A' c' b' → Calls Try.prog 11 #[.agg (k.map bv).toArray, .agg (iv.map bv).toArray, .int .u32 1, .slice A' m' c'] W (NewRow W m' (cryptC k iv 1#32 b'))) := fun W hS => crypt_any k iv 1#32 A' m' c' b' W HK.out HN.out HM'.out (by omega) hS
      have HBL : Hid ((blockC k iv 0#32).length = 64) := blockC_len _ _ _
      have HOE : Hid ((blockC k iv 0#32).take 32 = oneL k iv) := rfl
      have HOL := Lib.hid (oneL_len k iv)
      have HTG : Hid ([] ++ b ++ cryptC k iv 1#32 b' ++ putLittle m 8 ++ putLittle m' 8 = taggedL b (cryptC k iv 1#32 b')) := by
        show _ = _
        rw [taggedL, whZ_whole b (by rw [HM.out]; exact h16.out), whZ_whole _ (by rw [HCL.out]; exact h16'.out), HM.out, HCL.out]
        simp only [List.nil_append]
      have HTE : Hid (psumL (rOf (oneL k iv)) (sOf (oneL k iv)) (taggedL b (cryptC k iv 1#32 b')) = tagL k iv b (cryptC k iv 1#32 b')) := rfl
      rw [← HTG.out] at HTE
      generalize tagL k iv b (cryptC k iv 1#32 b') = Q at HQL TX2 HTE
      generalize cryptC k iv 1#32 b' = C at HCL TX1 CR HTG HTE
      generalize sealE k iv b b' = X at SE HXL TX1 TX2
      generalize blockC k iv 0#32 = Bk at BL HBL HOE
      obtain ⟨one, hone⟩ : ∃ one, oneL k iv = one := ⟨_, rfl⟩
      rw [hone] at HOE HOL HTE
      clear hone HTG
      have hr := rOf_lt one HOL.out
      have NA := Lib.hid (fun W => pnew_any one W HOL.out)
      generalize rOf one = r1 at hr NA HTE
      generalize sOf one = s1 at NA HTE
      have W1 := Lib.hid (fun g mm W hA hS H => pwrite_any g r1 s1 mm A m c b W hr HM.out (by omega) hA hS H)
      have W2 := Lib.hid (fun g mm A4 c4 W hA hS H => pwrite_any g r1 s1 mm A4 m' c4 C W hr HCL.out (by omega) hA hS H)
      have PL3 := Lib.hid (fun W => putLittle_any m 8 W (by omega) (by omega))
      have PL4 := Lib.hid (fun W => putLittle_any m' 8 W (by omega) (by omega))
      have LL3 := Lib.hid (putLittle_len m 8)
      have LL4 := Lib.hid (putLittle_len m' 8)
      have WL3 := Lib.hid (fun g mm A W hA hS H => pwrite_any g r1 s1 mm A 8 8 (putLittle m 8) W hr (putLittle_len m 8) (by omega) hA hS H)
      have WL4 := Lib.hid (fun g mm A W hA hS H => pwrite_any g r1 s1 mm A 8 8 (putLittle m' 8) W hr (putLittle_len m' 8) (by omega) hA hS H)
      have SA := Lib.hid (fun g mm W H => pstSum_any g r1 s1 mm W hr H)
      generalize putLittle m 8 = L3 at PL3 LL3 WL3 HTE
      generalize putLittle m' 8 = L4 at PL4 LL4 WL4 HTE
      clear hr
      have KS := Lib.hid (kz_k HZ.out HLK.out)
      have NS := Lib.hid (sl_row HIL.out (by omega) MN.out)
      have B2 := HB
      have Z2 := HZ
      clear HB HZ HRR HR'
      have ar1 := arr_all arr32Z s8 ⟨w.heap.size, 0, none⟩
      have ar2 := arr_all arr12B s8 ⟨q, 0, none⟩
      go_wp2_with fail
      have HX : Hid (Ext wr wr.drew) := (Below.refl _ _).drew
      refine reg_start (by kernel_rfl) ?_
      try simp only [Act.put, List.setIfInBounds_toArray, List.set_cons_zero, List.set_cons_succ]
      refine reg_take (v := ?_) 0 (some 47) rfl rfl (by kernel_rfl) (by kernel_rfl) (by kernel_rfl) (fun _ _ _ h => h) (by rfl) (fun W hW => ?_) ?_
      rotate_left
      · (go_simp; try rfl)
      simp only [Act.put, List.setIfInBounds_toArray, List.set_cons_zero, List.set_cons_succ]
      refine reg_take (v := ?_) 1 (some 48) rfl rfl (by kernel_rfl) (by kernel_rfl) (by kernel_rfl) (fun _ _ _ h => h) (by rfl) (fun W hW => ?_) ?_
      rotate_left
      · (go_simp; try rfl)
      simp only [Act.put, List.setIfInBounds_toArray, List.set_cons_zero, List.set_cons_succ]
      refine reg_take (v := ?_) 2 (some 49) rfl rfl (by kernel_rfl) (by kernel_rfl) (by kernel_rfl) (fun _ _ _ h => h) (by rfl) (fun W hW => ?_) ?_
      rotate_left
      · (go_simp; try rfl)
      simp only [Act.put, List.setIfInBounds_toArray, List.set_cons_zero, List.set_cons_succ]
      refine reg_take (v := ?_) 3 (some 50) rfl rfl (by kernel_rfl) (by kernel_rfl) (by kernel_rfl) (fun _ _ _ h => h) (by rfl) (fun W hW => ?_) ?_
      rotate_left
      · (go_simp; try rfl)
      simp only [Act.put, List.setIfInBounds_toArray, List.set_cons_zero, List.set_cons_succ]
      refine reg_take (v := ?_) 4 (some 51) rfl rfl (by kernel_rfl) (by kernel_rfl) (by kernel_rfl) (fun _ _ _ h => h) (by rfl) (fun W hW => ?_) ?_
      rotate_left
      · (go_simp; try rfl)
      simp only [Act.put, List.setIfInBounds_toArray, List.set_cons_zero, List.set_cons_succ]
      refine reg_eff 5 rfl (by kernel_rfl) (fun K hK => ?_)
      go_simp
      refine (SE.out _ (KS.out.below HX.out) (NS.out.below HX.out) ((H.out.below B2.out).below HX.out) ((H'.out.below B2.out).below HX.out)).mono ?_
      rintro e w3 ⟨v3, rfl, hO, hE⟩
      obtain ⟨A4, c4, rfl, hl3, h31, h32, hr3⟩ := own_read hO
      have S3 := Lib.hid (sl_mk hl3 h31 h32 hr3)
      have C4 := Lib.hid h31
      clear hl3 h31 h32 hr3 hO
      refine hK.out _ _ hE ?_
      have HX := Lib.hid (Ext.trans HX.out hE)
      clear hE hK K
      try simp only [Act.put, List.setIfInBounds_toArray, List.set_cons_zero, List.set_cons_succ]
      refine reg_take (v := ?_) 6 (some 46) rfl rfl (by kernel_rfl) (by kernel_rfl) (by kernel_rfl) (fun _ _ _ h => h) (by rfl) (fun W hW => ?_) ?_
      rotate_left
      · (go_simp; try rfl)
      simp only [Act.put, List.setIfInBounds_toArray, List.set_cons_zero, List.set_cons_succ]
      refine reg_take (v := ?_) 7 (some 53) rfl rfl (by kernel_rfl) (by kernel_rfl) (by kernel_rfl) (fun _ _ _ h => h) (by rfl) (fun W hW => ?_) ?_
      rotate_left
      · (go_simp; try rfl)
      simp only [Act.put, List.setIfInBounds_toArray, List.set_cons_zero, List.set_cons_succ]
      refine reg_take (v := ?_) 8 (some 54) rfl rfl (by kernel_rfl) (by kernel_rfl) (by kernel_rfl) (fun _ _ _ h => h) (by rfl) (fun W hW => ?_) ?_
      rotate_left
      · (go_simp; try rfl)
      simp only [Act.put, List.setIfInBounds_toArray, List.set_cons_zero, List.set_cons_succ]
      refine reg_take (v := ?_) 9 (some 9) rfl rfl (by kernel_rfl) (by kernel_rfl) (by kernel_rfl) (fun _ _ _ h => h) (by rfl) (fun W hW => ?_) ?_
      rotate_left
      · (go_simp; try rfl)
      simp only [Act.put, List.setIfInBounds_toArray, List.set_cons_zero, List.set_cons_succ]
      refine reg_take (v := ?_) 10 (some 10) rfl rfl (by kernel_rfl) (by kernel_rfl) (by kernel_rfl) (fun _ _ _ h => h) (by rfl) (fun W hW => ?_) ?_
      rotate_left
      · (go_simp; try rfl)
      simp only [Act.put, List.setIfInBounds_toArray, List.set_cons_zero, List.set_cons_succ]
      refine reg_done (by kernel_rfl) ?_
      have B3 : Hid (Below w.heap.size w w3) := B2.out.step HX.out
      have Z3 := Lib.hid (Z2.out.ext HX.out)
      have MN3 := Lib.hid ((HX.out.block _ (lt_of_heap MN.out)).trans MN.out)
      clear ar1 ar2 HX KS NS B2 Z2 MN SE
      have hc4 : m' ≤ c4 := by have := C4.out; omega
      have P3 := Lib.hid (y3_take (q := m') S3.out)
      have P4 := Lib.hid (sl_cut (k := m') S3.out (by rw [HXL.out]; omega))
      rw [TX1.out] at P3
      rw [TX2.out] at P4
      clear S3 C4
      go_upto_region 11 with (fail)
      go_upto_region 12 with (first
        | (refine wpList_ld rfl 22 (.tmp 65) rfl (run_loadAt_mid w3 w.heap.size 0 22 (k.map bv) _ Z3.out.2.1 arr32K rfl (i32K' k HLK.out)) ?_)
        | (refine wpList_ld rfl 27 (.tmp 7) rfl (load_arr arr12B rfl (i12B' iv HIL.out) MN3.out) ?_))
      refine (BL.out w3).mono ?_
      rintro e w4 ⟨rfl, hb1⟩
      have B4 : Hid (Below w.heap.size w w4) := B3.out.step hb1
      have Z4 := Lib.hid (Z3.out.ext hb1)
      have MN4 := Lib.hid ((hb1.block _ (lt_of_heap MN3.out)).trans MN3.out)
      have P3' := Lib.hid (P3.out.below hb1); have P4' := Lib.hid (P4.out.below hb1)
      clear hb1 B3 Z3 MN3 P3 P4 BL
      go_upto_region 12 with (first
        | (refine wpList_st rfl 31 (.tmp 11) (.tmp 68) rfl (store_arr (cs := Bk.map bv) (old := List.replicate 64 (Value.int .u8 0)) (by rw [List.length_map, HBL.out]; exact i64Bc) (bv_one _) (heap_alloc_new' w4 _) (by rw [List.length_map, HBL.out]; exact List.length_replicate)) ?_
           generalize hV : World.setRow _ _ _ = W5
           have M5 := Lib.hid (heap_of_setRow hV (heap_alloc_new' w4 _))
           have MB := Lib.hid (((Below.refl w4.heap.size w4).alloc (Nat.le_refl _) _).trans (below_of_setRow hV (Nat.le_refl w4.heap.size) (by simp)))
           clear hV)
        | fail)
      have B5 : Hid (Below w.heap.size w W5) := B4.out.step MB.out
      have Z5 := Lib.hid (Z4.out.ext MB.out)
      have MN5 := Lib.hid ((MB.out.block _ (lt_of_heap MN4.out)).trans MN4.out)
      have P5 := Lib.hid (P3'.out.below MB.out); have P6 := Lib.hid (P4'.out.below MB.out)
      clear MB B4 Z4 MN4 P3' P4'
      generalize w4.heap.size = q5 at M5 ⊢
      have hz32 : ∀ W, (zeroValue 22).run Try.prog W = .ok (.agg ((copyT Bk 32 0).map bv).toArray) W := fun W => by
        rw [copyT_zero]; rfl
      go_upto_region 14 with (fail)
      obtain ⟨q6, HQ6⟩ : ∃ q6, Hid (W5.heap.size = q6) := ⟨_, rfl⟩
      have M0 := Lib.hid (heap_alloc_new' W5 (.cells ((copyT Bk 32 0).map bv).toArray 22))
      have E0 : Hid (Ext W5 (W5.alloc (.cells ((copyT Bk 32 0).map bv).toArray 22))) := (Below.refl _ _).alloc (Nat.le_refl _) _
      rw [HQ6.out] at M0 ⊢
      generalize W5.alloc _ = W6 at M0 E0 ⊢
      clear hz32
      go_loopw [13] (fun vi wr => ∃ (i : Nat), i ≤ 32 ∧ vi = .int .i64 (i : Int) ∧ Hid (Ext W5 wr) ∧ Hid (wr.heap[q6]? = some (.cells ((copyT Bk 32 i).map bv).toArray 22 (0, 0)))) (fun i _ => 32 - (intOf i).toNat)
      case atStart => exact ⟨0, by omega, rfl, E0, M0⟩
      case round =>
        clear E0 M0
        obtain ⟨i, hi, rfl, HE, HM0⟩ := hrel
        by_cases hlt : i < 32
        · have u2 : (i : Int) < 32 := by omega
          have u3 : (i : Int) < 64 := by omega
          have c1 := cell_of_heap ((HE.out.block _ (lt_of_heap M5.out)).trans M5.out) i
          rw [getT_map_bv (by rw [HBL.out]; omega)] at c1
          have c2 := cell_of_heap HM0.out i
          rw [getT_map_bv (by rw [copyT_len _ _ _ (by rw [HBL.out]; omega) (by omega)]; exact hlt)] at c2
          have fz := frozen_of_heap HM0.out i
          have HST := Lib.hid (copyT_step Bk 32 i hlt (by rw [HBL.out]; omega))
          generalize Bk.getD i 0 = x at c1 HST
          generalize (copyT Bk 32 i).getD i 0 = x0 at c2
          have hx8 : x.toNat < 256 := x.toNat_lt
          go_wp2
          go_roundw
          case rel =>
            have hm := heap_set HM0.out i (.int .u8 (x.toNat : Int))
            rw [HST.out] at hm
            exact ⟨i + 1, by omega, by go_num, HE.out.setCell (Nat.le_of_eq HQ6.out) _, hm⟩
          case measure => simp [intOf]; omega
        · have u2 : ¬ ((i : Int) < 32) := by omega
          obtain rfl : i = 32 := by omega
          have MO := HM0
          rw [copyT_end, HOE.out] at MO
          clear hlt hi HM0
          have B7 : Hid (Below w.heap.size w wr) := B5.out.step HE.out
          have Z7 := Lib.hid (Z5.out.ext HE.out)
          have MN7 := Lib.hid ((HE.out.block _ (lt_of_heap MN5.out)).trans MN5.out)
          have P7 := Lib.hid (P5.out.below HE.out)
          have R7 := Lib.hid (P6.out.below HE.out)
          have SA7 := Lib.hid (H.out.below B7.out)
          clear HE B5 Z5 MN5 P5 P6 M5
          go_wp2_with (first
            | (refine wpList_ld rfl 22 (.tmp 12) rfl (load_arr arr32K rfl (i32K' one HOL.out) MO.out) ?_)
            | fail)
          refine (NA.out wr).mono ?_
          rintro e w8 ⟨g, hg, rfl, hP, hb8⟩
          have ST8 := Lib.hid hP
          have HG := Lib.hid hg
          have EX8 : Hid (Ext wr w8) := hb8
          have HA3 := Lib.hid (apart_ge (g := g) SA7.out HM.out hg)
          have HA4 := Lib.hid (apart_ge (g := g) P7.out HCL.out hg)
          clear hP hg hb8 NA MO
          go_wp2_with fail
          refine (W1.out g [] w8 HA3.out (SA7.out.below EX8.out) ST8.out).mono ?_
          rintro e w9 ⟨⟨v9, rfl⟩, hP, hgr⟩
          have ST9 := Lib.hid hP
          have EX9 : Hid (Ext wr w9) := Below.trans (show Below wr.heap.size wr w8 from EX8.out) (grown_below hgr HG.out EX8.out.size)
          clear hP hgr EX8 ST8 HA3 W1 SA7
          have sl1 := cut_to uT s8 A4 (m' + 16) c4 .i64 (m' : Int) (by omega) (by omega)
          rw [Int.toNat_natCast] at sl1
          go_wp2_with fail
          refine (W2.out g _ A4 c4 w9 HA4.out (P7.out.below EX9.out) ST9.out).mono ?_
          rintro e w10 ⟨⟨v10, rfl⟩, hP, hgr⟩
          have ST10 := Lib.hid hP
          have EX10 : Hid (Ext wr w10) := Below.trans (show Below wr.heap.size wr w9 from EX9.out) (grown_below hgr HG.out EX9.out.size)
          clear hP hgr EX9 ST9 HA4 W2
          have q3 : (m : Int) ≤ 2147000000 := by omega
          have q4 : (m' : Int) ≤ 2147000000 := by omega
          go_wp2_with fail
          refine (PL3.out w10).mono ?_
          rintro e w11 ⟨q11, hq, rfl, hk, hb⟩
          have S11 := Lib.hid (sl_row LL3.out (by omega) hk)
          have A11 : Hid (0 < 8 → ApartG (some ⟨q11, 0, none⟩) g) := fun _ a ha => by
            injection ha with ha; rw [← ha]; have := ST10.out.lt'; show q11 ≠ g; omega
          have ST11 := Lib.hid (ST10.out.ext hb)
          have EX11 : Hid (Ext wr w11) := EX10.out.step hb
          clear hq hk hb ST10 EX10 PL3
          go_wp2_with fail
          refine (WL3.out g _ (some ⟨q11, 0, none⟩) w11 A11.out S11.out ST11.out).mono ?_
          rintro e w12 ⟨⟨v12, rfl⟩, hP, hgr⟩
          have ST12 := Lib.hid hP
          have EX12 : Hid (Ext wr w12) := Below.trans (show Below wr.heap.size wr w11 from EX11.out) (grown_below hgr HG.out EX11.out.size)
          clear hP hgr EX11 ST11 S11 A11 WL3
          go_wp2_with fail
          refine (PL4.out w12).mono ?_
          rintro e w13 ⟨q13, hq, rfl, hk, hb⟩
          have S13 := Lib.hid (sl_row LL4.out (by omega) hk)
          have A13 : Hid (0 < 8 → ApartG (some ⟨q13, 0, none⟩) g) := fun _ a ha => by
            injection ha with ha; rw [← ha]; have := ST12.out.lt'; show q13 ≠ g; omega
          have ST13 := Lib.hid (ST12.out.ext hb)
          have EX13 : Hid (Ext wr w13) := EX12.out.step hb
          clear hq hk hb ST12 EX12 PL4
          go_wp2_with fail
          refine (WL4.out g _ (some ⟨q13, 0, none⟩) w13 A13.out S13.out ST13.out).mono ?_
          rintro e w14 ⟨⟨v14, rfl⟩, hP, hgr⟩
          have ST14 := Lib.hid hP
          have EX14 : Hid (Ext wr w14) := Below.trans (show Below wr.heap.size wr w13 from EX13.out) (grown_below hgr HG.out EX13.out.size)
          clear hP hgr EX13 ST13 S13 A13 WL4
          have hz16 : ∀ W, (zeroValue 23).run Try.prog W = .ok (.agg zer16.toArray) W := fun W => by kernel_rfl
          have HLZ : Hid (zer16.length = 16) := rfl
          generalize zer16 = ZZ at hz16 HLZ
          go_wp2_with fail
          refine (SA.out g _ w14 ST14.out).mono ?_
          rw [HTE.out]
          rintro e w15 ⟨rfl, hb⟩
          have EX15 : Hid (Ext wr w15) := EX14.out.step hb
          clear hb EX14 ST14 SA HTE
          go_upto_region 23 with (first
            | (refine wpList_st rfl 23 (.tmp 15) (.tmp 102) rfl (store_arr (cs := Q.map bv) (i16p Q HQL.out) (bv_one _) (heap_alloc_new' w15 _) (by rw [List.length_map, HQL.out]; exact HLZ.out)) ?_
               generalize hV : World.setRow _ _ _ = W16
               have M16 := Lib.hid (heap_of_setRow hV (heap_alloc_new' w15 _))
               have MB := Lib.hid (((Below.refl w15.heap.size w15).alloc (Nat.le_refl _) _).trans (below_of_setRow hV (Nat.le_refl w15.heap.size) (by simp)))
               clear hV)
            | fail)
          have EX16 : Hid (Ext wr W16) := EX15.out.step MB.out
          clear MB EX15
          have B16 : Hid (Below w.heap.size w W16) := B7.out.step EX16.out
          have Z16 := Lib.hid (Z7.out.ext EX16.out)
          have MN16 := Lib.hid ((EX16.out.block _ (lt_of_heap MN7.out)).trans MN7.out)
          have P16 := Lib.hid (P7.out.below EX16.out)
          have R16 := Lib.hid (R7.out.below EX16.out)
          clear B7 Z7 MN7 P7 R7 EX16 hz16 q3 q4
          generalize w15.heap.size = qt at M16 ⊢
          have sl2 := cut_from uT s8 A4 (m' + 16) c4 .i64 (m' : Int) (by omega) (by omega)
          rw [Int.toNat_natCast, show m' + 16 - m' = 16 by omega] at sl2
          generalize cutS A4 c4 m' = AC at sl2 R16
          generalize c4 - m' = cc at sl2 R16
          have ar5 := arr_all arr16B s8 ⟨qt, 0, none⟩
          have hxx : ((strOf C).toList == (strOf C).toList) = true := by simp
          have hqq : ((strOf Q).toList == (strOf Q).toList) = true := by simp
          have HX : Hid (Ext W16 W16.drew) := (Below.refl _ _).drew
          refine reg_start (by kernel_rfl) ?_
          try simp only [Act.put, List.setIfInBounds_toArray, List.set_cons_zero, List.set_cons_succ]
          refine reg_take (v := ?_) 0 (some 103) rfl rfl (by kernel_rfl) (by kernel_rfl) (by kernel_rfl) (fun _ _ _ h => h) (by rfl) (fun W hW => ?_) ?_
          rotate_left
          · (go_simp; try rfl)
          simp only [Act.put, List.setIfInBounds_toArray, List.set_cons_zero, List.set_cons_succ]
          refine reg_take (v := ?_) 1 (some 104) rfl rfl (by kernel_rfl) (by kernel_rfl) (by kernel_rfl) (fun _ _ _ h => h) (by rfl) (fun W hW => ?_) ?_
          rotate_left
          · (go_simp; try rfl)
          simp only [Act.put, List.setIfInBounds_toArray, List.set_cons_zero, List.set_cons_succ]
          refine reg_take (v := ?_) 2 (some 105) rfl rfl (by kernel_rfl) (by kernel_rfl) (by kernel_rfl) (fun _ _ _ h => h) (by rfl) (fun W hW => ?_) ?_
          rotate_left
          · (go_simp; try rfl)
          simp only [Act.put, List.setIfInBounds_toArray, List.set_cons_zero, List.set_cons_succ]
          refine reg_take (v := ?_) 3 (some 106) rfl rfl (by kernel_rfl) (by kernel_rfl) (by kernel_rfl) (fun _ _ _ h => h) (by rfl) (fun W hW => ?_) ?_
          rotate_left
          · (go_simp; try rfl)
          simp only [Act.put, List.setIfInBounds_toArray, List.set_cons_zero, List.set_cons_succ]
          refine reg_conv 4 (some 107) (fun W hW => conv_string W A4 m' c4 C HCL.out (P16.out.below (HX.out.trans hW))) rfl rfl rfl rfl (by kernel_rfl) (by kernel_rfl) (by kernel_rfl) (fun _ _ _ h => h) (by rfl) ?_
          simp only [Act.put, List.setIfInBounds_toArray, List.set_cons_zero, List.set_cons_succ]
          refine reg_take (v := ?_) 5 (some 108) rfl rfl (by kernel_rfl) (by kernel_rfl) (by kernel_rfl) (fun _ _ _ h => h) (by rfl) (fun W hW => ?_) ?_
          rotate_left
          · (go_simp; try rfl)
          simp only [Act.put, List.setIfInBounds_toArray, List.set_cons_zero, List.set_cons_succ]
          refine reg_load 6 (some 109) (fun W hW => run_loadAt_mid W w.heap.size 0 22 (k.map bv) _ (Z16.out.ext (HX.out.trans hW)).2.1 arr32K rfl (i32K' k HLK.out)) rfl rfl rfl rfl (by kernel_rfl) (by kernel_rfl) (by kernel_rfl) (fun _ _ _ h => h) (by rfl) ?_
          simp only [Act.put, List.setIfInBounds_toArray, List.set_cons_zero, List.set_cons_succ]
          refine reg_load 7 (some 110) (fun W hW => load_arr arr12B rfl (i12B' iv HIL.out) (((HX.out.trans hW).block _ (lt_of_heap MN16.out)).trans MN16.out)) rfl rfl rfl rfl (by kernel_rfl) (by kernel_rfl) (by kernel_rfl) (fun _ _ _ h => h) (by rfl) ?_
          simp only [Act.put, List.setIfInBounds_toArray, List.set_cons_zero, List.set_cons_succ]
          refine reg_take (v := ?_) 8 (some 111) rfl rfl (by kernel_rfl) (by kernel_rfl) (by kernel_rfl) (fun _ _ _ h => h) (by rfl) (fun W hW => ?_) ?_
          rotate_left
          · (go_simp; try rfl)
          simp only [Act.put, List.setIfInBounds_toArray, List.set_cons_zero, List.set_cons_succ]
          refine reg_eff 9 rfl (by kernel_rfl) (fun K hK => ?_)
          go_simp
          refine (CR.out _ ((H'.out.below B16.out).below HX.out)).mono ?_
          rintro e w17 ⟨g7, hg7, rfl, hk7, hE⟩
          have S7 := Lib.hid (sl_row HCL.out (by omega) hk7)
          clear hg7 hk7
          refine hK.out _ _ hE ?_
          have HX := Lib.hid (Ext.trans HX.out hE)
          clear hE hK K
          try simp only [Act.put, List.setIfInBounds_toArray, List.set_cons_zero, List.set_cons_succ]
          refine reg_conv 10 (some 113) (fun W hW => conv_string W (some ⟨g7, 0, none⟩) m' m' C HCL.out (S7.out.below hW)) rfl rfl rfl rfl (by kernel_rfl) (by kernel_rfl) (by kernel_rfl) (fun _ _ _ h => h) (by rfl) ?_
          simp only [Act.put, List.setIfInBounds_toArray, List.set_cons_zero, List.set_cons_succ]
          refine reg_take (v := ?_) 11 (some 114) rfl rfl (by kernel_rfl) (by kernel_rfl) (by kernel_rfl) (fun _ _ _ h => h) (by rfl) (fun W hW => ?_) ?_
          rotate_left
          · (go_simp; try rfl)
          simp only [Act.put, List.setIfInBounds_toArray, List.set_cons_zero, List.set_cons_succ]
          refine reg_take (v := ?_) 12 (some 115) rfl rfl (by kernel_rfl) (by kernel_rfl) (by kernel_rfl) (fun _ _ _ h => h) (by rfl) (fun W hW => ?_) ?_
          rotate_left
          · (go_simp; try rfl)
          simp only [Act.put, List.setIfInBounds_toArray, List.set_cons_zero, List.set_cons_succ]
          refine reg_take (v := ?_) 13 (some 116) rfl rfl (by kernel_rfl) (by kernel_rfl) (by kernel_rfl) (fun _ _ _ h => h) (by rfl) (fun W hW => ?_) ?_
          rotate_left
          · (go_simp; try rfl)
          simp only [Act.put, List.setIfInBounds_toArray, List.set_cons_zero, List.set_cons_succ]
          refine reg_take (v := ?_) 14 (some 117) rfl rfl (by kernel_rfl) (by kernel_rfl) (by kernel_rfl) (fun _ _ _ h => h) (by rfl) (fun W hW => ?_) ?_
          rotate_left
          · (go_simp; try rfl)
          simp only [Act.put, List.setIfInBounds_toArray, List.set_cons_zero, List.set_cons_succ]
          refine reg_take (v := ?_) 15 (some 118) rfl rfl (by kernel_rfl) (by kernel_rfl) (by kernel_rfl) (fun _ _ _ h => h) (by rfl) (fun W hW => ?_) ?_
          rotate_left
          · (go_simp; try rfl)
          simp only [Act.put, List.setIfInBounds_toArray, List.set_cons_zero, List.set_cons_succ]
          refine reg_take (v := ?_) 16 (some 119) rfl rfl (by kernel_rfl) (by kernel_rfl) (by kernel_rfl) (fun _ _ _ h => h) (by rfl) (fun W hW => ?_) ?_
          rotate_left
          · (go_simp; try rfl)
          simp only [Act.put, List.setIfInBounds_toArray, List.set_cons_zero, List.set_cons_succ]
          refine reg_conv 17 (some 120) (fun W hW => conv_string W AC 16 cc Q HQL.out (R16.out.below (HX.out.trans hW))) rfl rfl rfl rfl (by kernel_rfl) (by kernel_rfl) (by kernel_rfl) (fun _ _ _ h => h) (by rfl) ?_
          simp only [Act.put, List.setIfInBounds_toArray, List.set_cons_zero, List.set_cons_succ]
          refine reg_take (v := ?_) 18 (some 121) rfl rfl (by kernel_rfl) (by kernel_rfl) (by kernel_rfl) (fun _ _ _ h => h) (by rfl) (fun W hW => ?_) ?_
          rotate_left
          · (go_simp; try rfl)
          simp only [Act.put, List.setIfInBounds_toArray, List.set_cons_zero, List.set_cons_succ]
          refine reg_conv 19 (some 122) (fun W hW => conv_string W (some ⟨qt, 0, none⟩) 16 16 Q HQL.out ((sl_row HQL.out (by omega) M16.out).below (HX.out.trans hW))) rfl rfl rfl rfl (by kernel_rfl) (by kernel_rfl) (by kernel_rfl) (fun _ _ _ h => h) (by rfl) ?_
          simp only [Act.put, List.setIfInBounds_toArray, List.set_cons_zero, List.set_cons_succ]
          refine reg_take (v := ?_) 20 (some 123) rfl rfl (by kernel_rfl) (by kernel_rfl) (by kernel_rfl) (fun _ _ _ h => h) (by rfl) (fun W hW => ?_) ?_
          rotate_left
          · (go_simp; try rfl)
          simp only [Act.put, List.setIfInBounds_toArray, List.set_cons_zero, List.set_cons_succ]
          refine reg_take (v := ?_) 21 (some 124) rfl rfl (by kernel_rfl) (by kernel_rfl) (by kernel_rfl) (fun _ _ _ h => h) (by rfl) (fun W hW => ?_) ?_
          rotate_left
          · (go_simp; try rfl)
          simp only [Act.put, List.setIfInBounds_toArray, List.set_cons_zero, List.set_cons_succ]
          refine reg_take (v := ?_) 22 (some 125) rfl rfl (by kernel_rfl) (by kernel_rfl) (by kernel_rfl) (fun _ _ _ h => h) (by rfl) (fun W hW => ?_) ?_
          rotate_left
          · (go_simp; try rfl)
          simp only [Act.put, List.setIfInBounds_toArray, List.set_cons_zero, List.set_cons_succ]
          refine reg_eff 23 rfl (by kernel_rfl) (fun K hK => ?_)
          go_simp
          refine (tawake_any _).mono ?_
          rintro e w18 ⟨rfl, hE⟩
          have S7 := Lib.hid (S7.out.below hE)
          refine hK.out _ _ hE ?_
          have HX := Lib.hid (Ext.trans HX.out hE)
          clear hE hK K
          try simp only [Act.put, List.setIfInBounds_toArray, List.set_cons_zero, List.set_cons_succ]
          refine reg_take (v := ?_) 24 (some 127) rfl rfl (by kernel_rfl) (by kernel_rfl) (by kernel_rfl) (fun _ _ _ h => h) (by rfl) (fun W hW => ?_) ?_
          rotate_left
          · (go_simp; try rfl)
          simp only [Act.put, List.setIfInBounds_toArray, List.set_cons_zero, List.set_cons_succ]
          refine reg_take (v := ?_) 25 (some 6) rfl rfl (by kernel_rfl) (by kernel_rfl) (by kernel_rfl) (fun _ _ _ h => h) (by rfl) (fun W hW => ?_) ?_
          rotate_left
          · (go_simp; try rfl)
          simp only [Act.put, List.setIfInBounds_toArray, List.set_cons_zero, List.set_cons_succ]
          refine reg_done (by kernel_rfl) ?_
          have B18 : Hid (Below w.heap.size w w18) := B16.out.step HX.out
          go_wp2
          go_ret
          exact ⟨rfl, B18.out⟩
end Go.Proofs.Ytfcnahbbieldfaa
