/- The reference's Sum of layer 2. -/
import Derived.Test.YtdmdjgmkhoahmaaDoorRefS3
import Derived.Test.YtdmdjgmkhoahmaaDoorSha12
namespace Go.Proofs.YtdmdjgmkhoahmaaDoor
open Go.RowKit
set_option linter.unusedVariables false
set_option linter.unusedSimpArgs false
set_option maxHeartbeats 2000000 in
theorem refSum_any (A : Option Addr) (n c : Nat) (bs : List UInt8) (w : World) (hl : bs.length = n) (hn : n ≤ 2147000000) (hS : Sl w A c bs) :
    Calls Tryd.prog 15 #[.slice A n c] w fun e w' => ∃ v, e = .returned v ∧ w'.ownsRow w.heap.size 5 1 v 32 ((sumL bs).map bv) ∧ Below w.heap.size w w' := by
  have HL := Lib.hid hl; have HN := Lib.hid hn; have HS := Lib.hid hS
  have hsum := Lib.hid (sumL_whole bs n hl)
  have hmod := Lib.hid (padN_mod n)
  have hpk : Hid (padK n + 8 ≤ 72) := by have := padK_pos n; show _ ≤ _; omega
  clear hl hn hS
  go_enter Tryd.func15, Tryd.ntmps15
  go_wp2_with fail
  refine (refPadded_any A n c bs w HL.out HN.out HS.out).mono ?_
  rintro e w1 ⟨v1, rfl, hO1, hB1⟩
  obtain ⟨A3, c3, rfl, hl3, h31, h32, hr3⟩ := own_read hO1
  obtain ⟨N, hNN⟩ : ∃ N, N = n + (padK n + 8) := ⟨_, rfl⟩
  obtain ⟨R, hRR⟩ : ∃ R, R = bs ++ padL n := ⟨_, rfl⟩
  rw [← hRR] at hl3 hr3
  rw [← hNN] at hl3 h31 ⊢
  rw [← hNN] at hmod
  have hsum' : Hid (outL (wholeN startL R (N / 64)) = sumL bs) := by show _ = _; rw [hRR, hNN]; exact hsum.out
  have hN31 : N ≤ 2147400000 := by have := HN.out; have := hpk.out; omega
  have HS3 := Lib.hid (sl_mk hl3 h31 h32 hr3)
  have HL3 := Lib.hid hl3
  have HB1 := Lib.hid hB1
  have HC3 := Lib.hid h31
  clear hO1 hl3 h31 h32 hr3 hRR hNN hB1 hsum hpk
  go_wp2_with fail
  refine (refStart_any w1).mono ?_
  rintro e w4 ⟨rfl, hB4⟩
  have HB4 := Lib.hid (HB1.out.step hB4)
  have HS4 := Lib.hid (HS3.out.below hB4)
  clear HB1 HS3 hB4
  have hi8 : Hid ((Tryd.prog.info? 40).map (·.size) = some (startL.map wv).length) := i8W
  go_wp2_with (first
    | (refine wpList_st rfl 40 (.tmp 4) (.tmp 8) rfl (store_arr (cs := startL.map wv) (old := List.replicate 8 (Value.int .u32 0)) hi8.out (wv_one _) (heap_alloc_new' w4 _) rfl) ?_
       generalize hV : World.setRow _ _ _ = W5
       have M0 := Lib.hid (heap_of_setRow hV (heap_alloc_new' w4 _))
       have MB := Lib.hid (((Below.refl w4.heap.size w4).alloc (Nat.le_refl _) _).trans (below_of_setRow hV (Nat.le_refl w4.heap.size) (by simp)))
       clear hV)
    | fail)
  go_loopw [5] (fun vi wr => ∃ (j p : Nat), vi = .int .i64 (p : Int) ∧ p ≤ N ∧ Hid (p = 64 * j) ∧ Hid (Below w4.heap.size w4 wr) ∧ Hid (wr.heap[w4.heap.size]? = some (.cells ((wholeN startL R j).map wv).toArray 40 (0, 0)))) (fun i _ => N - (intOf i).toNat)
  case atStart => exact ⟨0, 0, rfl, Nat.zero_le _, rfl, MB, M0⟩
  case round =>
    clear M0 MB
    obtain ⟨j, p, rfl, hpN, HP, HB, H0⟩ := hrel
    by_cases hlt : p < N
    · have e2 : (p : Int) < (N : Int) := by omega
      obtain ⟨X, hX⟩ : ∃ X, X = (R.drop p).take 64 := ⟨_, rfl⟩
      have h64 : p + 64 ≤ N := by have h1 := HP.out; have h3 := hmod.out; omega
      have hXl : X.length = 64 := by rw [hX, List.length_take, List.length_drop, HL3.out]; omega
      have HXL := Lib.hid hXl
      have HX' : Hid (X = (R.drop (64 * j)).take 64) := by show _ = _; rw [hX, HP.out]
      obtain ⟨q, hq⟩ : ∃ q, q = p + 64 := ⟨_, rfl⟩
      have u1 : IntKind.i64.wrap ((p : Int) + 64) = (q : Int) := by rw [IntKind.wrap_i64]; omega
      have sl := cut_mid uT s8 A3 N c3 .i64 .i64 (p : Int) (q : Int) (by omega) (by omega) (by have := HC3.out; omega)
      rw [Int.toNat_natCast, Int.toNat_natCast, show q - p = 64 by omega] at sl
      have HSX : Hid (Sl wr (cutS A3 c3 p) (c3 - p) X) := by
        have h1 := sl_cut (HS4.out.below HB.out) (k := p) (by have := HL3.out; omega)
        refine ⟨?_, h1.2.1, ?_⟩
        · have := HC3.out; omega
        · have := h1.2.2.take 64; rw [← List.map_take, ← hX] at this; exact this
      have HQ := Lib.hid hq
      clear hX hXl hq
      have hwl := Lib.hid (wholeN_len startL R j rfl)
      have HBL : Hid (blockL (wholeN startL R j) X = wholeN startL R (j + 1)) := by show _ = _; rw [HX'.out]; rfl
      have hbl : Hid ((blockL (wholeN startL R j) X).length = 8) := blockL_len _ _ hwl.out
      generalize wholeN startL R j = Y0 at HBL hbl hwl H0
      rw [HBL.out] at hbl
      obtain ⟨Y1, HY1⟩ : ∃ Y, Hid (wholeN startL R (j + 1) = Y) := ⟨_, rfl⟩
      rw [HY1.out] at hbl HBL
      have hi8a : Hid ((Tryd.prog.info? 40).map (·.size) = some (Y0.map wv).length) := by show _ = _; rw [List.length_map, hwl.out]; exact i8W
      have hi8b : Hid ((Tryd.prog.info? 40).map (·.size) = some (Y1.map wv).length) := by show _ = _; rw [List.length_map, hbl.out]; exact i8W
      have hle : Hid ((Y0.map wv).length = (Y1.map wv).length) := by show _ = _; rw [List.length_map, List.length_map, hbl.out, hwl.out]
      have N0 : Hid (wr.drew.heap[w4.heap.size]? = some (.cells (Y0.map wv).toArray 40 (0, 0))) := H0.out
      have NB : Hid (Below w4.heap.size w4 wr.drew) := HB.out.drew
      have NS : Hid (Sl wr.drew (cutS A3 c3 p) (c3 - p) X) := HSX.out
      clear H0 HB HSX
      go_wp2_with fail
      refine regS_start (AnyR) (by kernel_rfl) ?_
      try simp only [Act.put, List.setIfInBounds_toArray, List.set_cons_zero, List.set_cons_succ]
      generalize wr.drew = W3 at N0 NB NS ⊢
      have HX : Hid (AnyR W3 W3) := trivial
      refine regS_take (v := ?_) 1 (some 16) rfl rfl (by kernel_rfl) (by kernel_rfl) (by kernel_rfl) (fun _ _ _ h => h) (by rfl) (fun W hW => ?_) ?_
      rotate_left
      · (go_simp; try rfl)
      simp only [Act.put, List.setIfInBounds_toArray, List.set_cons_zero, List.set_cons_succ]
      refine regS_take (v := ?_) 2 (some 17) rfl rfl (by kernel_rfl) (by kernel_rfl) (by kernel_rfl) (fun _ _ _ h => h) (by rfl) (fun W hW => ?_) ?_
      rotate_left
      · (go_simp; try rfl)
      simp only [Act.put, List.setIfInBounds_toArray, List.set_cons_zero, List.set_cons_succ]
      refine regS_take (v := ?_) 3 (some 18) rfl rfl (by kernel_rfl) (by kernel_rfl) (by kernel_rfl) (fun _ _ _ h => h) (by rfl) (fun W hW => ?_) ?_
      rotate_left
      · (go_simp; try rfl)
      simp only [Act.put, List.setIfInBounds_toArray, List.set_cons_zero, List.set_cons_succ]
      refine regS_take (v := ?_) 4 (some 19) rfl rfl (by kernel_rfl) (by kernel_rfl) (by kernel_rfl) (fun _ _ _ h => h) (by rfl) (fun W hW => ?_) ?_
      rotate_left
      · (go_simp; try rfl)
      simp only [Act.put, List.setIfInBounds_toArray, List.set_cons_zero, List.set_cons_succ]
      refine regS_take (v := ?_) 5 (some 20) rfl rfl (by kernel_rfl) (by kernel_rfl) (by kernel_rfl) (fun _ _ _ h => h) (by rfl) (fun W hW => ?_) ?_
      rotate_left
      · (go_simp; try rfl)
      simp only [Act.put, List.setIfInBounds_toArray, List.set_cons_zero, List.set_cons_succ]
      refine regS_eff 0 rfl (by kernel_rfl) (fun K hK => ?_)
      refine step_ld rfl 40 (.tmp 4) rfl (load_arr arr8W rfl hi8a.out N0.out) ?_
      have hE : AnyR W3 W3 := trivial
      refine hK.out _ _ hE ?_
      have HX := Lib.hid (Pre.trans HX.out hE)
      clear hE hK K
      try simp only [Act.put, List.setIfInBounds_toArray, List.set_cons_zero, List.set_cons_succ]
      refine regS_eff 6 rfl (by kernel_rfl) (fun K hK => ?_)
      go_simp
      refine (refBlock_any Y0 (cutS A3 c3 p) (c3 - p) X W3 hwl.out HXL.out NS.out).mono ?_
      rw [HBL.out]
      rintro e w6 ⟨rfl, hE0⟩
      have L0 := Lib.hid ((hE0.block _ (lt_of_heap N0.out)).trans N0.out)
      have LB := Lib.hid (NB.out.step hE0)
      have hE : AnyR W3 w6 := trivial
      clear hE0
      refine hK.out _ _ hE ?_
      have HX := Lib.hid (Pre.trans HX.out hE)
      clear hE hK K
      try simp only [Act.put, List.setIfInBounds_toArray, List.set_cons_zero, List.set_cons_succ]
      refine regS_eff 7 rfl (by kernel_rfl) (fun K hK => ?_)
      refine step_st1 rfl 40 (.tmp 4) (.tmp 21) rfl (store_arr (cs := Y1.map wv) hi8b.out (wv_one _) L0.out hle.out) ?_
      generalize hV : World.setRow _ _ _ = W7
      have M0 := Lib.hid (heap_of_setRow hV L0.out)
      have MB := Lib.hid (LB.out.trans (below_of_setRow hV (Nat.le_refl w4.heap.size) LB.out.size))
      have hE : AnyR w6 W7 := trivial
      clear hV
      refine hK.out _ _ hE ?_
      have HX := Lib.hid (Pre.trans HX.out hE)
      clear hE hK K
      try simp only [Act.put, List.setIfInBounds_toArray, List.set_cons_zero, List.set_cons_succ]
      refine regS_done (by kernel_rfl) ?_
      clear u1
      go_wp2
      go_roundw
      case rel =>
        refine ⟨j + 1, p + 64, by go_num, h64, ?_, MB, ?_⟩
        · have := HP.out; show _ = _; omega
        · rw [HY1.out]; exact M0
      case measure => simp [intOf]; omega
    · have hj : j = N / 64 := by have h1 := HP.out; omega
      have HZ : Hid (outL (wholeN startL R j) = sumL bs) := by show _ = _; rw [hj]; exact hsum'.out
      have hwl := Lib.hid (wholeN_len startL R j rfl)
      have FB := Lib.hid (HB4.out.step HB.out)
      have e2 : ¬ ((p : Int) < (N : Int)) := by omega
      clear hj HS4 HB HB4 hsum'
      generalize wholeN startL R j = Y0 at HZ hwl H0
      have hi8a : Hid ((Tryd.prog.info? 40).map (·.size) = some (Y0.map wv).length) := by show _ = _; rw [List.length_map, hwl.out]; exact i8W
      go_wp2_with (first
        | (refine wpList_ld rfl 40 (.tmp 4) rfl (load_arr arr8W rfl hi8a.out H0.out) ?_)
        | fail)
      refine (refOut_any Y0 wr hwl.out).mono ?_
      rw [HZ.out]
      rintro e w7 ⟨v7, rfl, hO7, hB7⟩
      have HO7 := Lib.hid (Joins.ownsRow_le hO7 FB.out.size)
      have FB7 := Lib.hid (FB.out.step hB7)
      clear hB7 hO7
      go_wp2
      go_ret
      exact ⟨_, rfl, HO7.out, FB7.out⟩
end Go.Proofs.YtdmdjgmkhoahmaaDoor
