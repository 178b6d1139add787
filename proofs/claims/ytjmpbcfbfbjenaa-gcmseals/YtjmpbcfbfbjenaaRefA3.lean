/- palfreyref03.Table, plus. -/
import Derived.Test.YtjmpbcfbfbjenaaRefA2
namespace Go.Proofs.Ytjmpbcfbfbjenaa
open Go.RowKit
set_option maxRecDepth 100000
set_option linter.unusedVariables false
set_option linter.unusedSimpArgs false
/-- the table so far -/
def tabN (i : Nat) : List UInt8 := sboxL.take i ++ List.replicate (256 - i) 0
theorem tabN_len (i : Nat) (hi : i ≤ 256) : (tabN i).length = 256 := by
  rw [tabN, List.length_append, List.length_take, sboxL_len, List.length_replicate]; omega
theorem tabN_end : tabN 256 = sboxL := by
  rw [tabN, List.take_of_length_le (by rw [sboxL_len]; omega), show 256 - 256 = 0 from rfl, List.replicate_zero, List.append_nil]
theorem tabN_zero : (tabN 0).map bv = zeros256 := by
  rw [tabN, List.take_zero, List.nil_append, List.map_replicate]; unfold zeros256; rfl
theorem tabN_step (i : Nat) (hi : i < 256) : (tabN i).set i (sboxL.getD i 0) = tabN (i + 1) := by
  have hl : (sboxL.take i).length = i := by rw [List.length_take, sboxL_len]; omega
  unfold tabN
  rw [List.set_append_right _ _ (by omega), hl, Nat.sub_self, List.take_succ_eq_append_getElem (by rw [sboxL_len]; exact hi)]
  rw [show 256 - i = (256 - (i + 1)) + 1 by omega, List.replicate_succ, List.set_cons_zero, List.append_assoc]
  rw [List.getD_eq_getElem?_getD, List.getElem?_eq_getElem (by rw [sboxL_len]; exact hi)]; rfl
theorem arr256B : Try.prog.underlying 48 = some (.array 256 5) := Try.underlying48
theorem i256B : (Try.prog.info? 48).map (·.size) = some 256 := by kernel_rfl
theorem zero256B (W : World) : (zeroValue 48).run Try.prog W = .ok (.agg zeros256.toArray) W := by kernel_rfl
set_option maxRecDepth 100000 in
set_option maxHeartbeats 2000000 in
theorem refTable_any (w : World) : Calls Try.prog 25 #[] w fun e w' => e = .returned (.agg (sboxL.map bv).toArray) ∧ Below w.heap.size w w' := by
  have hz := zero256B
  have HTL := Lib.hid tabN_len
  have HT0 := Lib.hid tabN_zero
  have HTE := Lib.hid tabN_end
  have HTS := Lib.hid tabN_step
  have HZL := Lib.hid zeros256_len
  have HSB := Lib.hid (fun (i : Nat) W (hi : i < 256) => (by
    have h := refSub_any (UInt8.ofNat i) W
    rw [sub_ref, show (UInt8.ofNat i).toNat = i from by rw [UInt8.toNat_ofNat', Nat.mod_eq_of_lt (by omega)]] at h
    rw [subL, show (UInt8.ofNat i).toNat = i from by rw [UInt8.toNat_ofNat', Nat.mod_eq_of_lt (by omega)]] at h
    exact h : Calls Try.prog 53 #[.int .u8 (i : Int)] W fun e w' => e = .returned (.int .u8 ((sboxL.getD i 0).toNat : Int)) ∧ W = w'))
  generalize zeros256 = Z at hz HT0 HZL
  generalize tabN = TN at HTL HT0 HTE HTS
  obtain ⟨bl, hbl⟩ : ∃ bl, sboxL = bl := ⟨_, rfl⟩
  rw [hbl] at HTE HTS HSB ⊢
  clear hbl
  go_enter Try.func25, Try.ntmps25
  go_wp2_with fail
  generalize hV : (w.alloc _).alloc _ = W0
  have F0 : Hid (W0.heap[w.heap.size]? = some (.cells Z.toArray 48 (0, 0))) := by rw [← hV]; exact (heap2 w _ _).1
  have F1 : Hid (W0.heap[w.heap.size + 1]? = some (.cells ((TN 0).map bv).toArray 48 (0, 0))) := by rw [← hV, HT0.out]; exact (heap2 w _ _).2.1
  have FB : Hid (Below w.heap.size w W0) := by rw [← hV]; exact (heap2 w _ _).2.2
  clear hV
  obtain ⟨g1, hg1⟩ : ∃ g, w.heap.size + 1 = g := ⟨_, rfl⟩
  rw [hg1] at F1 ⊢
  have HG1 := Lib.hid hg1
  clear hg1
  go_loopw [2] (fun vi wr => ∃ (i : Nat), i ≤ 256 ∧ vi = .int .i64 (i : Int) ∧ Hid (Below w.heap.size w wr) ∧ Hid (wr.heap[w.heap.size]? = some (.cells Z.toArray 48 (0, 0))) ∧ Hid (wr.heap[g1]? = some (.cells ((TN i).map bv).toArray 48 (0, 0)))) (fun i _ => 256 - (intOf i).toNat)
  case atStart => exact ⟨0, by omega, rfl, FB, F0, F1⟩
  case round =>
    clear FB F0 F1
    obtain ⟨i, hi, rfl, HB, H0, H1⟩ := hrel
    by_cases hlt : i < 256
    · have q1 : (i : Int) < 256 := by omega
      have e1 : (i : Int) % 256 = (i : Int) := by omega
      have HS := Lib.hid (HSB.out i wr hlt)
      have HST := HTS.out i hlt
      generalize bl.getD i 0 = z at HS HST
      have HST := Lib.hid HST
      go_wp2_with fail
      refine HS.out.mono ?_
      rintro e w1 ⟨rfl, rfl⟩
      have c1 := bcellT H1.out i (by rw [HTL.out i hi]; exact hlt)
      generalize (TN i).getD i 0 = old at c1
      have fz := frozen_of_heap H1.out i
      go_wp2
      go_roundw
      case rel =>
        have k1 := HG1.out
        refine ⟨i + 1, by omega, by go_num, ?_, ?_, ?_⟩
        · exact HB.out.setCell (show w.heap.size ≤ g1 by omega) _
        · exact (Below.heap_setCell wr _ _ _ (show w.heap.size ≠ g1 by omega)).trans H0.out
        · have := heap_set H1.out i (bv z)
          rw [← List.map_set, HST.out] at this
          exact this
      case measure => simp [intOf]; omega
    · have q1 : ¬ ((i : Int) < 256) := by omega
      have H2 : Hid (wr.heap[g1]? = some (.cells (bl.map bv).toArray 48 (0, 0))) := by have := H1.out; rw [show i = 256 by omega, HTE.out] at this; exact this
      have hl : Hid ((bl.map bv).length = 256) := by show _ = _; rw [List.length_map, ← HTE.out]; exact HTL.out 256 (Nat.le_refl _)
      have hone : Hid (∀ v ∈ bl.map bv, v.oneCell' = true) := bv_one _
      obtain ⟨L, HL⟩ : ∃ L, Hid (bl.map bv = L) := ⟨_, rfl⟩
      rw [HL.out] at hl H2 hone
      have hi1 : Hid ((Try.prog.info? 48).map (·.size) = some L.length) := by show _ = _; rw [hl.out]; exact i256B
      have hle : Hid (Z.length = L.length) := by show _ = _; rw [hl.out, HZL.out]
      clear H1
      go_wp2_with (first
        | (refine wpList_ld rfl 48 (.tmp 1) rfl (load_arr arr256B rfl hi1.out H2.out) ?_)
        | (refine wpList_st rfl 48 (.tmp 0) (.tmp 12) rfl (store_arr (cs := L) (old := Z) hi1.out hone.out H0.out hle.out) ?_))
      have hres := setRow_heap wr w.heap.size _ L.toArray 48 _ H0.out
      rw [HL.out]
      exact bodyPost_ret (results_cell_row (P := Try.prog) rfl _ _ w.heap.size 48 L.toArray (0, 0) _ rfl hres arr256B rfl (by rw [List.size_toArray, hl.out]; exact i256B)) rfl ⟨rfl, HB.out.trans (grown_below (grown_setRow _ _ _) (Nat.le_refl _) HB.out.size)⟩
def plN (a b : List UInt8) (i : Nat) : List UInt8 := (xorL a b).take i ++ a.drop i
theorem plN_len (a b : List UInt8) (i : Nat) (ha : a.length = 16) (hb : b.length = 16) (hi : i ≤ 16) : (plN a b i).length = 16 := by simp [plN, xorL_len, ha, hb]; omega
theorem plN_get (a b : List UInt8) (i : Nat) (ha : a.length = 16) (hb : b.length = 16) (hi : i < 16) : (plN a b i).getD i 0 = a.getD i 0 := by
  have hl : ((xorL a b).take i).length = i := by rw [List.length_take, xorL_len, ha, hb]; omega
  rw [plN, List.getD_eq_getElem?_getD, List.getElem?_append_right (by omega), hl, List.getElem?_drop, List.getD_eq_getElem?_getD]; simp
theorem plN_step (a b : List UInt8) (i : Nat) (ha : a.length = 16) (hb : b.length = 16) (hi : i < 16) : (plN a b i).set i (a.getD i 0 ^^^ b.getD i 0) = plN a b (i + 1) := by
  have hl : ((xorL a b).take i).length = i := by rw [List.length_take, xorL_len, ha, hb]; omega
  have hx : i < (xorL a b).length := by rw [xorL_len, ha, hb]; omega
  unfold plN
  rw [List.set_append_right _ _ (by omega), hl, Nat.sub_self, List.drop_eq_getElem_cons (by omega), List.set_cons_zero, List.take_succ_eq_append_getElem hx, List.append_assoc]
  congr 1
  simp [xorL, List.getD, ha, hb, hi]
theorem plN_end (a b : List UInt8) (ha : a.length = 16) (hb : b.length = 16) : plN a b 16 = xorL a b := by
  rw [plN, List.take_of_length_le (by rw [xorL_len, ha, hb]; omega), List.drop_of_length_le (by omega), List.append_nil]
theorem r_i16 (l : List UInt8) (h : l.length = 16) : (Try.prog.info? 23).map (·.size) = some (l.map bv).length := by rw [List.length_map, h]; exact i16B
set_option maxHeartbeats 2000000 in
theorem refPlus_any (a b : List UInt8) (w : World) (ha : a.length = 16) (hb : b.length = 16) :
    Calls Try.prog 66 #[.agg (a.map bv).toArray, .agg (b.map bv).toArray] w fun e w' => e = .returned (.agg ((xorL a b).map bv).toArray) ∧ Below w.heap.size w w' := by
  have HA := Lib.hid ha; have HB := Lib.hid hb
  have hz16 : ∀ W, (zeroValue 23).run Try.prog W = .ok (.agg zeros16.toArray) W := fun W => by kernel_rfl
  have HZL := Lib.hid zeros16_len
  generalize zeros16 = Z at hz16 HZL
  have HXL : Hid ((xorL a b).length = 16) := by show _ = _; rw [xorL_len, ha, hb]; rfl
  have HPE := Lib.hid (plN_end a b ha hb)
  obtain ⟨X, HX⟩ : ∃ X, Hid (xorL a b = X) := ⟨_, rfl⟩
  rw [HX.out] at HXL HPE ⊢
  clear ha hb
  go_enter Try.func66, Try.ntmps66
  go_wp2_with fail
  generalize hV : ((w.alloc _).alloc _).alloc _ = W0
  have F2 : Hid (W0.heap[w.heap.size]? = some (.cells ((plN a b 0).map bv).toArray 23 (0, 0))) := by rw [← hV]; exact (heap3 w _ _ _).1
  have F3 : Hid (W0.heap[w.heap.size + 1]? = some (.cells (b.map bv).toArray 23 (0, 0))) := by rw [← hV]; exact (heap3 w _ _ _).2.1
  have F4 : Hid (W0.heap[w.heap.size + 2]? = some (.cells Z.toArray 23 (0, 0))) := by rw [← hV]; exact (heap3 w _ _ _).2.2.1
  have FB : Hid (Below w.heap.size w W0) := by rw [← hV]; exact (heap3 w _ _ _).2.2.2
  clear hV
  go_loopw [5] (fun vi wr => ∃ (i : Nat), i ≤ 16 ∧ vi = .int .i64 (i : Int) ∧ Hid (Below w.heap.size w wr) ∧ Hid (wr.heap[w.heap.size]? = some (.cells ((plN a b i).map bv).toArray 23 (0, 0))) ∧ Hid (wr.heap[w.heap.size + 1]? = some (.cells (b.map bv).toArray 23 (0, 0))) ∧ Hid (wr.heap[w.heap.size + 2]? = some (.cells Z.toArray 23 (0, 0)))) (fun i _ => 16 - (intOf i).toNat)
  case atStart => exact ⟨0, by omega, rfl, FB, F2, F3, F4⟩
  case round =>
    clear FB F2 F3 F4
    obtain ⟨i, hi, rfl, HBW, H2, H3, H4⟩ := hrel
    by_cases hlt : i < 16
    · have q1 : (i : Int) < 16 := by omega
      have c2 := bcellT H2.out i (by rw [plN_len a b i HA.out HB.out hi]; exact hlt)
      rw [plN_get a b i HA.out HB.out hlt] at c2
      have c3 := bcellT H3.out i (by rw [HB.out]; exact hlt)
      have HST := plN_step a b i HA.out HB.out hlt
      generalize a.getD i 0 = x at c2 HST
      generalize b.getD i 0 = y at c3 HST
      obtain ⟨z, hz⟩ : ∃ z : UInt8, z = x ^^^ y := ⟨_, rfl⟩
      have hzz : bits .xor .u8 (x.toNat : Int) (y.toNat : Int) = (z.toNat : Int) := by rw [hz]; exact xor8 x y
      rw [← hz] at HST
      have HST := Lib.hid HST
      have fz := frozen_of_heap H2.out i
      clear hz
      go_wp2_with fail
      go_still_tail 9, (by kernel_rfl)
      change wpList _ _ _ _ _ wr.drew
      go_wp2
      go_roundw
      case rel =>
        refine ⟨i + 1, by omega, by go_num, ?_, ?_, ?_, ?_⟩
        · exact HBW.out.drew.setCell (Nat.le_refl _) _
        · have := heap_set (w := wr.drew) H2.out i (bv z)
          rw [← List.map_set, HST.out] at this
          first | exact this | (rw [hzz]; exact this)
        · exact (Below.heap_setCell wr.drew _ _ _ (Nat.succ_ne_self _)).trans H3.out
        · exact (Below.heap_setCell wr.drew _ _ _ (show w.heap.size + 2 ≠ w.heap.size by omega)).trans H4.out
      case measure => simp [intOf]; omega
    · have q1 : ¬ ((i : Int) < 16) := by omega
      have H2' : Hid (wr.heap[w.heap.size]? = some (.cells (X.map bv).toArray 23 (0, 0))) := by have := H2.out; rw [show i = 16 by omega, HPE.out] at this; exact this
      have hi1 := Lib.hid (r_i16 X HXL.out)
      clear H2
      go_wp2_with (first
        | (refine wpList_ld rfl 23 (.tmp 2) rfl (load_arr arr16B rfl hi1.out H2'.out) ?_)
        | (refine wpList_st rfl 23 (.tmp 4) (.tmp 19) rfl (store_arr (cs := X.map bv) (old := Z) hi1.out (bv_one _) H4.out (by rw [List.length_map, HXL.out, HZL.out])) ?_)
        | fail)
      have hres := setRow_heap wr (w.heap.size + 2) _ (X.map bv).toArray 23 _ H4.out
      exact bodyPost_ret (results_cell_row (P := Try.prog) rfl _ _ (w.heap.size + 2) 23 (X.map bv).toArray (0, 0) _ rfl hres arr16B rfl (by rw [List.size_toArray, List.length_map, HXL.out]; exact i16B)) rfl ⟨rfl, HBW.out.trans (grown_below (grown_setRow _ _ _) (by omega) HBW.out.size)⟩
end Go.Proofs.Ytjmpbcfbfbjenaa
