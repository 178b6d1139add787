/- The walk of the law ShaWhole. -/
import Derived.Test.YtefhaaofcibdcaaDoorSha11
namespace Go.Proofs.YtefhaaofcibdcaaDoor
open Go.RowKit
set_option linter.unusedVariables false
set_option linter.unusedSimpArgs false
theorem wholeN_add (h : List W32) (bs : List UInt8) (q m : Nat) : wholeN h bs (q + m) = wholeN (wholeN h bs q) (bs.drop (64 * q)) m := by
  induction m with
  | zero => rfl
  | succ m ih =>
    show blockL (wholeN h bs (q + m)) _ = blockL _ _
    rw [ih, List.drop_drop, show 64 * (q.add m) = 64 * q + 64 * m from by show 64 * (q + m) = _; omega]
theorem wholeN_app (h : List W32) (a b : List UInt8) (q : Nat) (hq : 64 * q ≤ a.length) : wholeN h (a ++ b) q = wholeN h a q := by
  induction q with
  | zero => rfl
  | succ q ih =>
    show blockL (wholeN h (a ++ b) q) _ = blockL _ _
    rw [ih (by omega), List.drop_append_of_le_length (by omega), List.take_append_of_le_length (by rw [List.length_drop]; omega)]
theorem padN_mod (n : Nat) : (n + (padK n + 8)) % 64 = 0 := by unfold padK; omega
theorem sumL_whole (bs : List UInt8) (n : Nat) (hl : bs.length = n) : outL (wholeN startL (bs ++ padL n) ((n + (padK n + 8)) / 64)) = sumL bs := by
  subst hl
  have e : (bs.length + (padK bs.length + 8)) / 64 = bs.length / 64 + ((bs.drop (64 * (bs.length / 64))).length + (padK bs.length + 8)) / 64 := by
    rw [List.length_drop]; omega
  rw [e, wholeN_add, wholeN_app _ _ _ _ (by omega), List.drop_append_of_le_length (by omega)]
  rfl
theorem bcell8 {w : World} {g : Nat} {bs : List UInt8} {t : TypeId} {fr : Nat × Nat} (h : w.heap[g]? = some (.cells (bs.map bv).toArray t fr)) (i : Nat) (hi : i < bs.length) : w.cell? ⟨g, i, none⟩ = some (.int .u8 ((bs.getD i 0).toNat : Int)) := by
  rw [cell_of_heap h, List.getElem?_map]; simp [hi, List.getD, bv]
theorem fillB_len (X : List UInt8) (k : Nat) (hX : X.length = 64) (hk : k ≤ 64) : (X.take k ++ List.replicate (64 - k) (0 : UInt8)).length = 64 := by simp [hX]; omega
def fillB (X : List UInt8) (k : Nat) : List UInt8 := X.take k ++ List.replicate (64 - k) 0
theorem fillB_step (X : List UInt8) (k : Nat) (hX : X.length = 64) (hk : k < 64) : ((fillB X k).map bv).set k (bv (X.getD k 0)) = (fillB X (k + 1)).map bv := by
  have hl : (X.take k).length = k := by rw [List.length_take]; omega
  rw [← List.map_set, fillB, show 64 - k = (64 - (k + 1)) + 1 by omega, set_mid _ _ _ _ _ hl, fillB, take_snoc8 X k (by omega)]
theorem fillB_end (X : List UInt8) (hX : X.length = 64) : fillB X 64 = X := by simp [fillB, List.take_of_length_le, hX]
set_option maxHeartbeats 4000000 in
theorem shaWhole_walk (w : World) (A : Option Addr) (c : Nat) (bs : List UInt8) (hS : Sl w A c bs) (hR : Rnd w) :
    Calls Tryd.prog 7 #[.slice A bs.length c] w fun e w' => e = .returned (.bool true) ∧ Below w.heap.size w w' := by
  obtain ⟨n, hn⟩ : ∃ n, bs.length = n := ⟨_, rfl⟩
  rw [hn]
  by_cases hbig : 1000 < n
  · have e1 : (1000 : Int) < (n : Int) := by omega
    clear hn hS hR
    go_enter Tryd.func7, Tryd.ntmps7
    go_wp2
    go_ret
    exact ⟨rfl, Below.refl _ _⟩
  have e1 : ¬ ((1000 : Int) < (n : Int)) := by omega
  have HL := Lib.hid hn; have HS := Lib.hid hS; have HR := Lib.hid hR
  have HN : Hid (n ≤ 1000) := by show n ≤ 1000; omega
  clear hn hS hR hbig
  have hm31 : 0 + n ≤ 2147483647 := by have := HN.out; omega
  go_enter Tryd.func7, Tryd.ntmps7
  go_wp2_with (
    at_builtin
    refine wpList_app8 rfl (.tmp 11) (.tmp 12) rfl w.heap.size _ 0 [] rfl ?_ A n c w.heap.size bs rfl ?_ ?_ ?_ ?_ ?_
    · exact own_heap (g := w.heap.size) (heap_alloc_new' w _) (Nat.le_refl _) rfl (Nat.zero_le _)
    · exact HS.out.2.2.below ((Below.refl _ _).alloc (Nat.le_refl _) _)
    · exact HL.out
    · exact hm31
    · simp
    rintro v1 w1 hown hgr
    have HO1 := Lib.hid hown
    have FB := Lib.hid (((Below.refl w.heap.size w).alloc (Nat.le_refl _) _).grown hgr (by simp) (ge_own w.heap.size 0))
    clear hown hgr)
  refine (pad_any n w1 (by have := HN.out; omega)).mono ?_
  rintro e w2 ⟨v2, rfl, hO2, hB2⟩
  obtain ⟨A2, c2, rfl, hl2, _, _, hr2⟩ := own_read hO2
  have HO2 := Lib.hid hr2
  have HL2 := Lib.hid hl2
  have HO1' := Lib.hid (own_below HO1.out hB2)
  have GB := Lib.hid (FB.out.step hB2)
  clear hO2 hr2 hl2 hB2 HO1 FB
  have hk31 : 0 + n + (padK n + 8) ≤ 2147483647 := by have := HN.out; have := padK_pos n; omega
  have hge : Hid (∀ g, v1.ownBlock = some g → w.heap.size ≤ g) := fun g hq => (HO1'.out.lt g hq).1
  have hmod := Lib.hid (padN_mod n)
  have hsum := Lib.hid (sumL_whole bs n HL.out)
  have hpk : Hid (padK n + 8 ≤ 72) := by have := padK_pos n; show _ ≤ _; omega
  generalize hkk : padK n + 8 = k at HL2 HO2 hk31 hmod hsum hpk ⊢
  have HKK := Lib.hid hkk
  clear hkk
  obtain ⟨N, hNN⟩ : ∃ N, N = 0 + n + k := ⟨_, rfl⟩
  have HNN := Lib.hid hNN
  have hz64 : ((N : Int) % 64 != 0) = false := by have := hmod.out; simp; omega
  have hN2 : N ≤ 1072 := by have := HN.out; have := hpk.out; omega
  clear hNN
  go_wp2_with (first
    | (at_builtin
       refine wpList_app8 rfl (.tmp 13) (.tmp 16) rfl w.heap.size _ (0 + n) ([] ++ bs) rfl ?_ A2 k c2 w2.heap.size (padL n) rfl ?_ ?_ ?_ ?_ ?_
       · exact HO1'.out
       · exact HO2.out
       · exact HL2.out
       · exact hk31
       · exact GB.out.size
       rintro v3 w3 hown hgr
       have KB := Lib.hid (GB.out.grown hgr GB.out.size hge.out)
       clear hgr
       obtain ⟨A3, c3, rfl, hl3, h31, h32, hr3⟩ := own_read hown
       obtain ⟨R, hRR⟩ : ∃ R, R = [] ++ bs ++ padL n := ⟨_, rfl⟩
       rw [← hRR] at hl3 hr3
       rw [← HNN.out] at hl3 h31 ⊢
       have HS3 := Lib.hid (sl_mk hl3 h31 h32 hr3)
       have HL3 := Lib.hid hl3
       have HRR := Lib.hid hRR
       clear hl3 h31 h32 hr3 hRR hown)
    | fail)
  refine (start_any w3).mono ?_
  rintro e w4 ⟨rfl, hB4⟩
  have HB4 := Lib.hid (KB.out.step hB4)
  have HS4 := Lib.hid (HS3.out.below hB4)
  clear HO1' HO2 HL2 GB hge KB HS3 hB4
  have hi8 : Hid ((Tryd.prog.info? 30).map (·.size) = some (startL.map wv).length) := i8W
  go_wp2_with (first
    | (refine wpList_st rfl 30 (.tmp 4) (.tmp 22) rfl (store_arr (cs := startL.map wv) (old := List.replicate 8 (Value.int .u32 0)) hi8.out (wv_one _) (heap_alloc_new' w4 _) rfl) ?_
       generalize hV : World.setRow _ _ _ = W5
       have M0 := Lib.hid (heap_of_setRow hV (heap_alloc_new' w4 _))
       have MB := Lib.hid (((Below.refl w4.heap.size w4).alloc (Nat.le_refl _) _).trans (below_of_setRow hV (Nat.le_refl w4.heap.size) (by simp)))
       clear hV)
    | fail)
  clear hz64 hmod
  go_loopw [5] (fun vi wr => ∃ (j p : Nat), vi = .int .i64 (p : Int) ∧ p ≤ N ∧ Hid (p = 64 * j) ∧ Hid (Below w4.heap.size w4 wr) ∧ Hid (wr.heap[w4.heap.size]? = some (.cells ((wholeN startL R j).map wv).toArray 30 (0, 0)))) (fun i _ => N - (intOf i).toNat)
  case atStart => exact ⟨0, 0, rfl, Nat.zero_le _, rfl, MB, M0⟩
  case round =>
    clear M0 MB
    obtain ⟨j, p, rfl, hpN, HP, HB, H0⟩ := hrel
    obtain ⟨wo, hwo⟩ : ∃ x, x = wr := ⟨_, rfl⟩
    subst hwo
    by_cases hlt : p < N
    · have e2 : (p : Int) < (N : Int) := by omega
      obtain ⟨X, hX⟩ : ∃ X, X = (R.drop (64 * j)).take 64 := ⟨_, rfl⟩
      have h64 : p + 64 ≤ N := by have h1 := HP.out; have h2 := HNN.out; have h3 := padN_mod n; rw [HKK.out] at h3; omega
      have hXl : X.length = 64 := by rw [hX, List.length_take, List.length_drop, HL3.out, ← HP.out]; omega
      have HX := Lib.hid hX; have HXL := Lib.hid hXl
      clear hX hXl
      obtain ⟨b, o, rfl, hbb, hcell⟩ := HS4.out.2.2.at_ (by rw [List.length_map, HL3.out]; omega)
      have HC := Lib.hid hcell
      have HBB := Lib.hid hbb
      clear hcell hbb
      go_wp2_with fail
      generalize hV : wo.alloc _ = W1
      have F1 : Hid (W1.heap[wo.heap.size]? = some (.cells ((fillB X 0).map bv).toArray 31 (0, 0))) := heap_of_alloc hV
      have FB1 := Lib.hid (below_of_alloc hV (Nat.le_refl wo.heap.size))
      clear hV
      go_loopw [7] (fun vk wr => ∃ (k : Nat), vk = .int .i64 (k : Int) ∧ k ≤ 64 ∧ Hid (Below wo.heap.size wo wr) ∧ Hid (wr.heap[wo.heap.size]? = some (.cells ((fillB X k).map bv).toArray 31 (0, 0)))) (fun i _ => 64 - (intOf i).toNat)
      case atStart => exact ⟨0, rfl, Nat.zero_le _, FB1, F1⟩
      case round =>
        clear F1 FB1
        obtain ⟨k, rfl, hk, KB, K1⟩ := hrel
        by_cases hlk : k < 64
        · have e3 : (k : Int) < 64 := by omega
          have c1 : wr.cell? ⟨b, o + (p + k), none⟩ = some (.int .u8 ((X.getD k 0).toNat : Int)) := by
            have hj : p + k < R.length := by have := HL3.out; omega
            have hd : X.getD k 0 = R[p + k] := by
              rw [HX.out, ← HP.out, List.getD_eq_getElem?_getD, List.getElem?_take_of_lt hlk, List.getElem?_drop, List.getElem?_eq_getElem hj]; rfl
            have hlt4 : b < wo.heap.size := Nat.lt_of_lt_of_le HBB.out HB.out.size
            rw [KB.out.cell (p := ⟨b, o + (p + k), none⟩) hlt4, HB.out.cell (p := ⟨b, o + (p + k), none⟩) HBB.out, hd]
            exact HC.out (p + k) _ (by rw [List.getElem?_map, List.getElem?_eq_getElem hj]; rfl)
          have e4 : ((p : Int) + (k : Int)).toNat = p + k := by omega
          have e5 : (p : Int) + (k : Int) < (N : Int) := by omega
          have fz := frozen_of_heap K1.out k
          have c0 := bcell8 K1.out k (by unfold fillB; rw [fillB_len X k HXL.out hk]; exact hlk)
          have HST := Lib.hid (fillB_step X k HXL.out hlk)
          generalize (fillB X k).getD k 0 = z0 at c0
          generalize X.getD k 0 = x at c1 HST
          go_wp2
          go_roundw
          case rel =>
            refine ⟨k + 1, by go_num, by omega, KB.out.setCell (Nat.le_refl _) _, ?_⟩
            have := heap_set K1.out k (bv x)
            rw [HST.out] at this
            exact this
          case measure => simp [intOf]; omega
        · have K2 : Hid (wr.heap[wo.heap.size]? = some (.cells (X.map bv).toArray 31 (0, 0))) := by
            have := K1.out; rw [show k = 64 by omega, fillB_end X HXL.out] at this; exact this
          have hwl := Lib.hid (wholeN_len startL R j rfl)
          have H0' := Lib.hid ((KB.out.block _ (lt_of_heap H0.out)).trans H0.out)
          have HR' : Hid (Rnd wr) := HR.out.ext ((HB4.out.step HB.out).step KB.out)
          have HBL : Hid (blockL (wholeN startL R j) X = wholeN startL R (j + 1)) := by show _ = _; rw [HX.out]; rfl
          have hbl : Hid ((blockL (wholeN startL R j) X).length = 8) := blockL_len _ _ hwl.out
          clear K1 H0
          generalize wholeN startL R j = Y0 at HBL hbl hwl H0'
          have hi8a : Hid ((Tryd.prog.info? 30).map (·.size) = some (Y0.map wv).length) := by show _ = _; rw [List.length_map, hwl.out]; exact i8W
          have hi64 : Hid ((Tryd.prog.info? 31).map (·.size) = some (X.map bv).length) := by show _ = _; rw [List.length_map, HXL.out]; exact i64B
          go_wp2_with (first
            | (refine wpList_ld rfl 30 (.tmp 4) rfl (load_arr arr8W rfl hi8a.out H0'.out) ?_)
            | (refine wpList_ld rfl 31 (.tmp 6) rfl (load_arr arr64B rfl hi64.out K2.out) ?_))
          refine (block_any Y0 X wr hwl.out HXL.out HR'.out).mono ?_
          rw [HBL.out]
          rw [HBL.out] at hbl
          obtain ⟨Y1, HY1⟩ : ∃ Y, Hid (wholeN startL R (j + 1) = Y) := ⟨_, rfl⟩
          rw [HY1.out]
          rw [HY1.out] at hbl
          clear HBL
          rintro e w6 ⟨rfl, hB6⟩
          have L0 := Lib.hid ((hB6.block _ (lt_of_heap H0'.out)).trans H0'.out)
          have LB := Lib.hid ((HB.out.step KB.out).step hB6)
          have hi8b : Hid ((Tryd.prog.info? 30).map (·.size) = some (Y1.map wv).length) := by show _ = _; rw [List.length_map, hbl.out]; exact i8W
          have hle : Hid ((Y0.map wv).length = (Y1.map wv).length) := by show _ = _; rw [List.length_map, List.length_map, hbl.out, hwl.out]
          clear hB6 K2 H0' KB HR'
          go_wp2_with (first
            | (refine wpList_st rfl 30 (.tmp 4) (.tmp 43) rfl (store_arr (cs := Y1.map wv) hi8b.out (wv_one _) L0.out hle.out) ?_
               generalize hV : World.setRow _ _ _ = W7
               have M0 := Lib.hid (heap_of_setRow hV L0.out)
               have MB := Lib.hid (LB.out.trans (below_of_setRow hV (Nat.le_refl w4.heap.size) LB.out.size))
               clear hV)
            | fail)
          go_roundw
          case rel =>
            refine ⟨j + 1, p + 64, by go_num, h64, ?_, MB, ?_⟩
            · have := HP.out; show _ = _; omega
            · rw [HY1.out]; exact M0
          case measure => simp [intOf]; omega
    · have hpN' : p = N := by omega
      have hj : j = (n + k) / 64 := by have h1 := HP.out; have h2 := HNN.out; omega
      have HZ : Hid (outL (wholeN startL R j) = sumL bs) := by
        have h1 := hsum.out
        show _ = _
        rw [HRR.out, List.nil_append, hj]; exact h1
      have hwl := Lib.hid (wholeN_len startL R j rfl)
      have HR' : Hid (Rnd wo) := HR.out.ext (HB4.out.step HB.out)
      have HS' : Hid (Sl wo A c bs) := HS.out.below (HB4.out.step HB.out)
      have FB := Lib.hid (HB4.out.step HB.out)
      have e2 : ¬ ((p : Int) < (N : Int)) := by omega
      clear hpN' hj HS4 HB HB4 hsum
      generalize wholeN startL R j = Y0 at HZ hwl H0
      have hi8a : Hid ((Tryd.prog.info? 30).map (·.size) = some (Y0.map wv).length) := by show _ = _; rw [List.length_map, hwl.out]; exact i8W
      go_wp2_with (first
        | (refine wpList_ld rfl 30 (.tmp 4) rfl (load_arr arr8W rfl hi8a.out H0.out) ?_)
        | fail)
      refine (out_any Y0 wo hwl.out).mono ?_
      rw [HZ.out]
      have hq := eql_bytes (P := Tryd.prog) arr32B Tryd.underlying5 s8 (sumL bs) (sumL bs) (sumL_len bs) (sumL_len bs)
      rw [show decide (sumL bs = sumL bs) = true from by simp] at hq
      have HSA := Lib.hid (fun W hW hS => sum_any A n c bs W HL.out hS hW)
      generalize sumL bs = Z at hq HSA ⊢
      rintro e w7 ⟨rfl, hB7⟩
      have HR7 : Hid (Rnd w7) := HR'.out.ext hB7
      have HS7 : Hid (Sl w7 A c bs) := HS'.out.below hB7
      have FB7 := Lib.hid (FB.out.step hB7)
      clear hB7 HZ
      go_wp2_with fail
      refine (HSA.out w7 HR7.out HS7.out).mono ?_
      rintro e w8 ⟨rfl, hB8⟩
      have HR8 : Hid (Rnd w8) := HR7.out.ext hB8
      have FB8 := Lib.hid (FB7.out.step hB8)
      clear hB8
      go_wp2_with fail
      refine (awake2_any w8 HR8.out).mono ?_
      rintro e w9 ⟨rfl, hB9⟩
      have FB9 := Lib.hid (FB8.out.step hB9)
      clear hB9
      go_wp2
      go_ret
      exact ⟨rfl, FB9.out⟩
end Go.Proofs.YtefhaaofcibdcaaDoor
