/- Contract of the document's own Count. -/
import Derived.Test.YtobadceiokncnaaRef2
namespace Go.Proofs.Ytobadceiokncnaa
open Go.RowKit
set_option linter.unusedVariables false
set_option linter.unusedSimpArgs false

theorem w64_in (n : Int) (h : -9223372036854775808 ≤ n ∧ n ≤ 9223372036854775807) : wrap64 n = n := by unfold wrap64; omega

theorem cnt_facts (x y : UInt8) (ca : Nat) (hca : ca ≤ 1) : ∃ s : Nat, s = x.toNat + y.toNat + ca ∧ s < 1024 ∧ Hid (IntKind.i64.wrap (x.toNat : Int) = (x.toNat : Int)) ∧ Hid (IntKind.i64.wrap (y.toNat : Int) = (y.toNat : Int)) ∧
    Hid (IntKind.i64.wrap ((x.toNat : Int) + (y.toNat : Int)) = (x.toNat : Int) + (y.toNat : Int)) ∧ Hid (IntKind.i64.wrap ((x.toNat : Int) + (y.toNat : Int) + (ca : Int)) = (s : Int)) := by
  have hx : x.toNat < 256 := x.toNat_lt
  have hy : y.toNat < 256 := y.toNat_lt
  generalize x.toNat = x at *
  generalize y.toNat = y at *
  exact ⟨x + y + ca, rfl, by omega, IntWalk.i64_in _ (by omega), IntWalk.i64_in _ (by omega), IntWalk.i64_in _ (by omega), (IntWalk.i64_in _ (by omega)).trans (by omega)⟩

set_option maxHeartbeats 2000000 in
theorem refCount_any (c : List UInt8) (n : Nat) (w : World) (hc : c.length = 16) (hn : n < 18446744073709551616) :
    Calls Try.prog 26 #[.agg (c.map bv).toArray, .int .u64 (n : Int)] w fun e w' => e = .returned (.agg ((countL c n).map bv).toArray) ∧ Below w.heap.size w w' := by
  have HC := Lib.hid hc
  have HN := Lib.hid hn
  clear hc hn
  go_enter Try.func26, Try.ntmps26
  go_wp2_with fail
  generalize hW : (w.alloc _).alloc _ = W0
  have F0 : W0.heap[w.heap.size]? = some (.cells (c.map bv).toArray 32 (0, 0)) := by rw [← hW]; exact heap_alloc2_old w _ _
  have F1 : W0.heap[w.heap.size + 1]? = some (.cells (List.replicate 16 (Value.int .u8 0)).toArray 32 (0, 0)) := by rw [← hW]; exact heap_alloc2_new w _ _
  have FB : Below w.heap.size w W0 := by rw [← hW]; exact two_below w _ _
  have G0 := Lib.hid F0
  have G1 := Lib.hid F1
  have GB := Lib.hid FB
  clear F0 F1 FB hW
  refine (refPutBig_any n 16 _ HN.out (by omega)).mono ?_
  rintro e w1 ⟨v, rfl, hO, hB1⟩
  obtain ⟨A, cp, rfl, hl, _, _, hr⟩ := own_read hO
  have hdl := putBig_len n 16
  have HD : Hid (cntRow c (putBig n 16) 16 = countL c n) := cnt_end c n HC.out HN.out
  generalize putBig n 16 = d at hr hdl HD hO hl
  obtain ⟨b, o, rfl, hbl, r⟩ := hr.at_ (by simp [hdl])
  have hbW : W0.heap.size ≤ b := by
    have := (hO.lt b rfl).1; exact this
  have R := Lib.hid r
  have HDL := Lib.hid hdl
  have K0 := Lib.hid ((hB1.block _ (lt_of_heap G0.out)).trans G0.out)
  have K1 := Lib.hid ((hB1.block _ (lt_of_heap G1.out)).trans G1.out)
  have KB := Lib.hid (GB.out.step hB1)
  have hbne : b ≠ w.heap.size := by have := lt_of_heap G0.out; omega
  have HBNE := Lib.hid hbne
  clear hr r hdl hl hO hB1 G0 G1 GB hbW hbne
  go_wp2_with fail
  go_loopw [6, 7, 8] (fun cv iv sv wr => ∃ (j : Nat), j ≤ 16 ∧ iv = .int .i64 (15 - (j : Int)) ∧ cv = .int .i64 ((cnt c d j / 256 ^ j : Nat) : Int) ∧
      Hid (wr.heap[w.heap.size]? = some (.cells ((cntRow c d j).map bv).toArray 32 (0, 0))) ∧ Hid (wr.heap[w.heap.size + 1]? = some (.cells (List.replicate 16 (Value.int .u8 0)).toArray 32 (0, 0))) ∧
      Hid (Below w.heap.size w wr) ∧ Hid (wr.heap[b]? = w1.heap[b]?)) (fun _ i _ _ => (intOf i + 1).toNat)
  case atStart => exact ⟨0, by omega, by simp, by simp [cnt, lastL, bigN], by simpa [cntRow, putBig, List.take_of_length_le, HC.out] using K0, K1, KB, rfl⟩
  case round =>
    obtain ⟨j, hj, rfl, rfl, L0, L1, LB, LD⟩ := hrel
    by_cases hlt : j < 16
    · have hst := cnt_step c d j HC.out HDL.out hlt
      have hca := cnt_carry c d j HC.out HDL.out hj
      have c1 : wr.cell? ⟨w.heap.size, 15 - j, none⟩ = some (.int .u8 ((c.getD (15 - j) 0).toNat : Int)) := by
        rw [cell_of_heap L0.out, List.getElem?_map, cntRow_get c d j HC.out hlt]; rfl
      have c2 : wr.cell? ⟨b, o + (15 - j), none⟩ = some (.int .u8 ((d.getD (15 - j) 0).toNat : Int)) := by
        have := R.out (15 - j) (bv (d.getD (15 - j) 0)) (by simp [List.getD, HDL.out, show 15 - j < 16 by omega])
        rw [World.cell?_of_block (w := w1) (w' := wr) LD.out]; exact this
      have fz : wr.frozen? ⟨w.heap.size, 15 - j, none⟩ = false := frozen_of_heap L0.out _
      generalize cnt c d j / 256 ^ j = ca at hst hca ⊢
      generalize c.getD (15 - j) 0 = x at c1 hst
      generalize d.getD (15 - j) 0 = y at c2 hst
      have hx : x.toNat < 256 := x.toNat_lt
      have hy : y.toNat < 256 := y.toNat_lt
      obtain ⟨s, hs, hsb, U1, U2, U3, U4⟩ := cnt_facts x y ca hca
      simp only [← hs] at hst
      have HST := Lib.hid hst
      clear hs
      have e1 : (15 - (j : Int)).toNat = 15 - j := by omega
      have e2 : 0 ≤ 15 - (j : Int) := by omega
      have e3 : 15 - (j : Int) < 16 := by omega
      have HX : Hid (Ext wr wr.drew) := (Below.refl _ _).drew
      have hbw : b < wr.heap.size := block_lt_of_cell c2
      clear hst
      go_wp2_with fail
      have u4 := U4.out
      have u3 := U3.out
      have u2 := U2.out
      have u1 := U1.out
      refine reg_start (by kernel_rfl) ?_
      try simp only [Act.put, List.setIfInBounds_toArray, List.set_cons_zero, List.set_cons_succ]
      refine reg_take (v := ?_) 0 (some 15) rfl rfl (by kernel_rfl) (by kernel_rfl) (by kernel_rfl) (fun _ _ _ h => h) (by rfl) (fun W hW => ?_) ?_
      rotate_left
      · (go_simp; try rfl)
      simp only [Act.put, List.setIfInBounds_toArray, List.set_cons_zero, List.set_cons_succ]
      refine reg_take (v := ?_) 1 (some 16) rfl rfl (by kernel_rfl) (by kernel_rfl) (by kernel_rfl) (fun _ _ _ h => h) (by rfl) (fun W hW => ?_) ?_
      rotate_left
      · (go_simp; try rfl)
      simp only [Act.put, List.setIfInBounds_toArray, List.set_cons_zero, List.set_cons_succ]
      refine reg_load 2 (some 17) (fun W hW => load_cell Try.underlying5 ((hW.cell (lt_of_heap L0.out)).trans c1)) rfl rfl rfl rfl (by kernel_rfl) (by kernel_rfl) (by kernel_rfl) (fun _ _ _ h => h) (by rfl) ?_
      simp only [Act.put, List.setIfInBounds_toArray, List.set_cons_zero, List.set_cons_succ]
      refine reg_take (v := ?_) 3 (some 18) rfl rfl (by kernel_rfl) (by kernel_rfl) (by kernel_rfl) (fun _ _ _ h => h) (by rfl) (fun W hW => ?_) ?_
      rotate_left
      · (go_simp; try rfl)
      simp only [Act.put, List.setIfInBounds_toArray, List.set_cons_zero, List.set_cons_succ]
      refine reg_take (v := ?_) 4 (some 19) rfl rfl (by kernel_rfl) (by kernel_rfl) (by kernel_rfl) (fun _ _ _ h => h) (by rfl) (fun W hW => ?_) ?_
      rotate_left
      · (go_simp; try rfl)
      simp only [Act.put, List.setIfInBounds_toArray, List.set_cons_zero, List.set_cons_succ]
      refine reg_take (v := ?_) 5 (some 20) rfl rfl (by kernel_rfl) (by kernel_rfl) (by kernel_rfl) (fun _ _ _ h => h) (by rfl) (fun W hW => ?_) ?_
      rotate_left
      · (go_simp; try rfl)
      simp only [Act.put, List.setIfInBounds_toArray, List.set_cons_zero, List.set_cons_succ]
      refine reg_take (v := ?_) 6 (some 21) rfl rfl (by kernel_rfl) (by kernel_rfl) (by kernel_rfl) (fun _ _ _ h => h) (by rfl) (fun W hW => ?_) ?_
      rotate_left
      · (go_simp; try rfl)
      simp only [Act.put, List.setIfInBounds_toArray, List.set_cons_zero, List.set_cons_succ]
      refine reg_load 7 (some 22) (fun W hW => load_cell Try.underlying5 ((hW.cell hbw).trans c2)) rfl rfl rfl rfl (by kernel_rfl) (by kernel_rfl) (by kernel_rfl) (fun _ _ _ h => h) (by rfl) ?_
      simp only [Act.put, List.setIfInBounds_toArray, List.set_cons_zero, List.set_cons_succ]
      refine reg_take (v := ?_) 8 (some 23) rfl rfl (by kernel_rfl) (by kernel_rfl) (by kernel_rfl) (fun _ _ _ h => h) (by rfl) (fun W hW => ?_) ?_
      rotate_left
      · (go_simp; try rfl)
      simp only [Act.put, List.setIfInBounds_toArray, List.set_cons_zero, List.set_cons_succ]
      refine reg_take (v := ?_) 9 (some 24) rfl rfl (by kernel_rfl) (by kernel_rfl) (by kernel_rfl) (fun _ _ _ h => h) (by rfl) (fun W hW => ?_) ?_
      rotate_left
      · (go_simp; try rfl)
      simp only [Act.put, List.setIfInBounds_toArray, List.set_cons_zero, List.set_cons_succ]
      refine reg_take (v := ?_) 10 (some 25) rfl rfl (by kernel_rfl) (by kernel_rfl) (by kernel_rfl) (fun _ _ _ h => h) (by rfl) (fun W hW => ?_) ?_
      rotate_left
      · (go_simp; try rfl)
      simp only [Act.put, List.setIfInBounds_toArray, List.set_cons_zero, List.set_cons_succ]
      refine reg_take (v := ?_) 11 (some 26) rfl rfl (by kernel_rfl) (by kernel_rfl) (by kernel_rfl) (fun _ _ _ h => h) (by rfl) (fun W hW => ?_) ?_
      rotate_left
      · (go_simp; try rfl)
      simp only [Act.put, List.setIfInBounds_toArray, List.set_cons_zero, List.set_cons_succ]
      refine reg_take (v := ?_) 12 (some 8) rfl rfl (by kernel_rfl) (by kernel_rfl) (by kernel_rfl) (fun _ _ _ h => h) (by rfl) (fun W hW => ?_) ?_
      rotate_left
      · (go_simp; try rfl)
      simp only [Act.put, List.setIfInBounds_toArray, List.set_cons_zero, List.set_cons_succ]
      refine reg_done (by kernel_rfl) ?_
      clear u1 u2 u3 u4
      have hb8 : (s : Int) % 256 = ((UInt8.ofNat (s % 256)).toNat : Int) := by rw [UInt8.toNat_ofNat']; omega
      generalize UInt8.ofNat (s % 256) = z at hb8 HST
      have hz : z.toNat < 256 := z.toNat_lt
      go_wp2
      go_roundw
      case rel =>
        refine ⟨j + 1, by omega, by congr 1; omega, ?_, ?_, ?_, ?_, ?_⟩
        · rw [HST.out.1]; congr 1
        · have := heap_set (w := wr.drew) L0.out (15 - j) (bv z)
          rw [← List.map_set, HST.out.2] at this
          exact this
        · exact (Below.heap_setCell wr.drew _ _ _ (by simp)).trans L1.out
        · exact LB.out.drew.setCell (Nat.le_refl _) _
        · exact (Below.heap_setCell wr.drew _ _ _ HBNE.out).trans LD.out
      case measure => simp [intOf]; omega
    · have t1 : ¬ ((0 : Int) ≤ 15 - (j : Int)) := by omega
      have hj16 : j = 16 := by omega
      have L0' := L0.out
      rw [hj16, HD.out] at L0'
      have M0 := Lib.hid L0'
      clear L0 L0' hj16
      have hl16 : (countL c n).length = 16 := by simp [countL, putBig_len]
      have HL := Lib.hid hl16
      clear hl16
      go_wp2_with (first
        | (refine wpList_ld rfl 32 (.tmp 2) rfl (load_arr arr16T rfl (by rw [List.length_map, HL.out]; exact i16) M0.out) ?_)
        | (refine wpList_st rfl 32 (.tmp 4) (.tmp 34) rfl (store_arr (by rw [List.length_map, HL.out]; exact i16) (bv_one _) L1.out (by simp [HL.out])) ?_))
      have hres := setRow_heap wr (w.heap.size + 1) _ ((countL c n).map bv).toArray 32 _ L1.out
      exact bodyPost_ret (results_cell_row (P := Try.prog) rfl _ _ (w.heap.size + 1) 32 ((countL c n).map bv).toArray (0, 0) _ rfl hres arr16T rfl (by simp [HL.out, i16])) rfl ⟨rfl, LB.out.trans (grown_below (grown_setRow _ _ _) (by omega) LB.out.size)⟩
end Go.Proofs.Ytobadceiokncnaa
