/- Contract of bits.Count. -/
import Derived.Test.YtjmpbcfbfbjenaaBits3
namespace Go.Proofs.Ytjmpbcfbfbjenaa
open Go.RowKit
set_option linter.unusedVariables false
set_option maxRecDepth 100000

/-- an array of bytes as a value -/
def aggB (bs : List UInt8) : Value := .agg (bs.map bv).toArray
theorem arr16T : Try.prog.underlying 23 = some (.array 16 5) := Try.underlying23
theorem i16 : (Try.prog.info? 23).map (·.size) = some 16 := by kernel_rfl

theorem count_any (c : List UInt8) (n : Nat) (w : World) (hc : c.length = 16) (hn : n < 18446744073709551616) :
    Calls Try.prog 64 #[.agg (c.map bv).toArray, .int .u64 (n : Int)] w fun e w' => e = .returned (.agg ((countL c n).map bv).toArray) ∧ Below w.heap.size w w' := by
  have harr1 := arr_to arr16T s8 ⟨w.heap.size, 0, none⟩ .i64 8 (by omega) (by omega)
  have harr2 := arr_from arr16T s8 ⟨w.heap.size, 0, none⟩ .i64 8 (by omega) (by omega)
  simp only [show (8 : Int).toNat = 8 from rfl, show cutA ⟨w.heap.size, 0, none⟩ 16 8 = ⟨w.heap.size, 8, none⟩ from rfl, Nat.reduceSub] at harr1 harr2
  obtain ⟨hi, lo, low, e1, e2, hhi, hlow, hwl, high, hlt, hm, hcase⟩ := count_cases c n hc hn
  have HLT := Lib.hid hlt; have HM := Lib.hid hm
  have HE1 := Lib.hid e1; have HE2 := Lib.hid e2; have HHI := Lib.hid hhi; have HLOW := Lib.hid hlow
  have HCASE := Lib.hid hcase
  have HC := Lib.hid hc
  clear hn hc e1 e2 hhi hlow hcase hlt hm
  go_enter Try.func64, Try.ntmps64
  go_wp2_with fail
  generalize hW : (w.alloc _).alloc _ = W0
  have F0 : W0.heap[w.heap.size]? = some (.cells (c.map bv).toArray 23 (0, 0)) := by rw [← hW]; exact heap_alloc2_old w _ _
  have F1 : W0.heap[w.heap.size + 1]? = some (.cells (List.replicate 16 (Value.int .u8 0)).toArray 23 (0, 0)) := by rw [← hW]; exact heap_alloc2_new w _ _
  have FB : Below w.heap.size w W0 := by rw [← hW]; exact two_below w _ _
  have G0 := Lib.hid F0
  have G1 := Lib.hid F1
  have GB := Lib.hid FB
  clear F0 F1 FB hW
  go_region_law (first
    | (go_simp; go_at_call 89; first
        | ((with_reducible refine (big_n (some ⟨w.heap.size, 0, none⟩) 8 16 (c.take 8) W0.drew ?_ ?_ ?_ ?_).mono ?_)
           · rw [List.length_take, HC.out]; rfl
           · omega
           · simp [maxLen]
           · exact row_sub (w := W0.drew) G0.out 0 8 (lt_of_heap G0.out)
           rintro e w1 ⟨rfl, hb1⟩
           rw [HE1.out]
           have HB1 := Lib.hid hb1; clear hb1)
        | ((with_reducible refine (big_n (some ⟨w.heap.size, 8, none⟩) 8 8 (c.drop 8) w1 ?_ ?_ ?_ ?_).mono ?_)
           · rw [List.length_drop, HC.out]
           · omega
           · simp [maxLen]
           · have := row_sub ((HB1.out.block _ (lt_of_heap (w := W0.drew) G0.out)).trans G0.out) 8 8 (Nat.lt_of_lt_of_le (lt_of_heap G0.out) HB1.out.size)
             rwa [List.take_of_length_le (by rw [List.length_drop, HC.out]; omega)] at this
           rintro e w2 ⟨rfl, hb2⟩
           rw [HE2.out]
           have HB2 := Lib.hid hb2; clear hb2)))
  have G1' := Lib.hid ((HB2.out.block _ (Nat.lt_of_lt_of_le (lt_of_heap G1.out) HB1.out.size)).trans ((HB1.out.block _ (lt_of_heap (w := W0.drew) G1.out)).trans G1.out))
  have GB' := Lib.hid ((Below.step (w1 := W0.drew) GB.out.drew HB1.out).step HB2.out)
  clear G0 G1 GB HB1 HB2 HE1 HE2
  rcases HCASE.out with ⟨hcar, hw⟩ | ⟨hcar, rfl⟩
  all_goals
    clear HCASE HHI
    go_wp2_with fail
    generalize hW3 : w2.alloc _ = W3
    have T2 : W3.heap[w2.heap.size]? = some (.cells (List.replicate 16 (Value.int .u8 0)).toArray 23 (0, 0)) := by rw [← hW3]; exact heap_alloc_new' w2 _
    have T1 : W3.heap[w.heap.size + 1]? = some (.cells (List.replicate 16 (Value.int .u8 0)).toArray 23 (0, 0)) := by rw [← hW3]; exact (Below.heap_alloc w2 _ _ (lt_of_heap G1'.out)).trans G1'.out
    have TB : Below w.heap.size w W3 := by rw [← hW3]; exact GB'.out.alloc GB'.out.size _
    have hle : w.heap.size ≤ w2.heap.size := GB'.out.size
    have hne : w.heap.size + 1 ≠ w2.heap.size := by have := lt_of_heap G1'.out; omega
    have HNE := Lib.hid hne; have HLE := Lib.hid hle
    have D1 := Lib.hid T1; have D2 := Lib.hid T2; have DB := Lib.hid TB
    clear T1 T2 TB hW3 G1' GB' hle hne
    have harr3 := arr_to arr16T s8 ⟨w2.heap.size, 0, none⟩ .i64 8 (by omega) (by omega)
    have harr4 := arr_from arr16T s8 ⟨w2.heap.size, 0, none⟩ .i64 8 (by omega) (by omega)
    simp only [show (8 : Int).toNat = 8 from rfl, show cutA ⟨w2.heap.size, 0, none⟩ 16 8 = ⟨w2.heap.size, 8, none⟩ from rfl, Nat.reduceSub] at harr3 harr4
    go_region_law (first
      | (go_simp; go_at_call 93; refine (putBig_any high 8 _ HLT.out (by omega)).mono ?_; rintro e w4 ⟨g4, hg4, rfl, hk4, hb4⟩; have HK4 := Lib.hid hk4; have HB4 := Lib.hid hb4; clear hk4 hb4 hg4)
      | (have D2' := (HB4.out.block _ (lt_of_heap (w := W3.drew) D2.out)).trans D2.out
         have D1' := (HB4.out.block _ (lt_of_heap (w := W3.drew) D1.out)).trans D1.out
         have DB' := Below.step (w1 := W3.drew) DB.out.drew HB4.out
         obtain ⟨w5, hrun, hblk, _, hgr⟩ := copy_run uT s8 (sT := 26) 3 w4 w2.heap.size 0 (List.replicate 16 (Value.int .u8 0)) 23 D2' (some ⟨w2.heap.size, 0, none⟩) (some ⟨g4, 0, none⟩) 8 16 8 8 (g4 + 1) ((putBig high 8).map bv)
           (by simp [putBig_len]) (fun _ => rfl) (row_of_heap HK4.out (Nat.lt_succ_self _)) (by simp [putBig_len]) (bv_one _)
         have E2 := Lib.hid hblk
         have E1 := Lib.hid ((hgr.block _ (lt_of_heap D1') (by have := HNE.out; simp; omega)).trans D1')
         have EB := Lib.hid (DB'.trans (grown_below hgr HLE.out DB'.size))
         refine step_cpy rfl (.tmp 19) (.tmp 21) 26 26 rfl hrun ?_
         clear hrun hblk hgr D1 D2 DB D1' D2' DB' HB4 HK4))
    have sp1 := splice_first (Value.int .u8 0) 8 8 ((putBig high 8).map bv) (by simp [putBig_len])
    have E2' := E2.out
    rw [show (16 : Nat) = 8 + 8 from rfl, sp1] at E2'
    have F2 := Lib.hid E2'
    clear E2 E2' sp1
    go_wp2_with fail
    go_region_law (first
      | (go_simp; go_at_call 93; refine (putBig_any low 8 _ HLOW.out (by omega)).mono ?_; rintro e w6 ⟨g6, hg6, rfl, hk6, hb6⟩; have HK6 := Lib.hid hk6; have HB6 := Lib.hid hb6; clear hk6 hb6 hg6)
      | (have D2' := (HB6.out.block _ (lt_of_heap (w := w5.drew) F2.out)).trans F2.out
         have D1' := (HB6.out.block _ (lt_of_heap (w := w5.drew) E1.out)).trans E1.out
         have DB' := Below.step (w1 := w5.drew) EB.out.drew HB6.out
         obtain ⟨w7, hrun, hblk, _, hgr⟩ := copy_run uT s8 (sT := 26) 3 w6 w2.heap.size 8 ((putBig high 8).map bv ++ List.replicate 8 (Value.int .u8 0)) 23 D2' (some ⟨w2.heap.size, 8, none⟩) (some ⟨g6, 0, none⟩) 8 8 8 8 (g6 + 1) ((putBig low 8).map bv)
           (by simp [putBig_len]) (fun _ => rfl) (row_of_heap HK6.out (Nat.lt_succ_self _)) (by simp [putBig_len]) (bv_one _)
         rw [splice_last (Value.int .u8 0) 8 8 ((putBig high 8).map bv) ((putBig low 8).map bv) (by simp [putBig_len]) (by simp [putBig_len]), ← List.map_append, HM.out] at hblk
         have E3 := Lib.hid hblk
         have E4 := Lib.hid ((hgr.block _ (lt_of_heap D1') (by have := HNE.out; simp; omega)).trans D1')
         have EB2 := Lib.hid (DB'.trans (grown_below hgr HLE.out DB'.size))
         refine step_cpy rfl (.tmp 23) (.tmp 25) 26 26 rfl hrun ?_
         clear hrun hblk hgr F2 E1 EB D1' D2' DB' HB6 HK6))
    have hl16 : (countL c n).length = 16 := by simp [countL, putBig_len]
    have HL := Lib.hid hl16
    clear hl16
    go_wp2_with (first
      | (refine wpList_ld rfl 23 (.tmp 7) rfl (load_arr arr16T rfl (by rw [List.length_map, HL.out]; exact i16) E3.out) ?_)
      | (refine wpList_st rfl 23 (.tmp 4) (.tmp 27) rfl (store_arr (by rw [List.length_map, HL.out]; exact i16) (bv_one _) E4.out (by simp [HL.out])) ?_))
    have hres := setRow_heap w7 (w.heap.size + 1) _ ((countL c n).map bv).toArray 23 _ E4.out
    exact bodyPost_ret (results_cell_row (P := Try.prog) rfl _ _ (w.heap.size + 1) 23 ((countL c n).map bv).toArray (0, 0) _ rfl hres arr16T rfl (by simp [HL.out, i16])) rfl ⟨rfl, EB2.out.trans (grown_below (grown_setRow _ _ _) (by omega) EB2.out.size)⟩
end Go.Proofs.Ytjmpbcfbfbjenaa
