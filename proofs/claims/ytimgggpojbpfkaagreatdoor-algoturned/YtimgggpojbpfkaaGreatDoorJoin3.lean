/- Joined: Poly9 Poly10 Aed2 Aed3 Own Aed4 Aed5 LiftP LiftE Aed6 Alg13 Alg14 Alg15 LiftN KeyZ Ctr2 GhaM1 GhaM2 Gha1 Gha2 Gha3 Gha4 LawsG3 RefG1 RefG2 Ref1 RefG3 Gcm1. -/
import Derived.Test.YtimgggpojbpfkaaGreatDoorPoly8
import Derived.Test.YtimgggpojbpfkaaGreatDoorJoin1
import Derived.Test.YtimgggpojbpfkaaGreatDoorBits3
import Derived.Test.YtimgggpojbpfkaaGreatDoorJoin2
import Derived.Test.YtimgggpojbpfkaaGreatDoorSha8
import Derived.Test.YtimgggpojbpfkaaGreatDoorLift
import Derived.Deep.Strs
import Derived.Lib.UnsafeStr
import Derived.Lib.SmallJoins
import Derived.Test.YtimgggpojbpfkaaGreatDoorNum
import Derived.Test.YtimgggpojbpfkaaGreatDoorPoly7
import Derived.StillTailTactics
import Derived.Test.YtimgggpojbpfkaaGreatDoorReg
/- poly: (*State).Sum, Sum. -/
namespace Go.Proofs.YtimgggpojbpfkaaGreatDoor
open Go.RowKit
set_option maxRecDepth 100000
set_option linter.unusedVariables false
set_option linter.unusedSimpArgs false
/-- the sum of the parts of m, whole ones and the last one -/
def polyN (r : Nat) (m : List UInt8) : Nat := if m.length % 16 = 0 then partsN r 0 m (m.length / 16) else stepN r (partsN r 0 m (m.length / 16)) (m.drop (16 * (m.length / 16)))
theorem polyN_lt (r : Nat) (m : List UInt8) (hr : r < 21267647932558653966460912964485513216) : polyN r m < 2722258935367507707706996859454145691648 := by
  unfold polyN
  split
  · exact partsN_lt r 0 m _ (by omega) hr
  · exact stepN_lt r _ _ (by rw [List.length_drop]; omega) (partsN_lt r 0 m _ (by omega) hr) hr
def psumL (r s : Nat) (m : List UInt8) : List UInt8 :=
  putLittle ((leastN (polyN r m) + s) % 18446744073709551616) 8 ++ putLittle ((leastN (polyN r m) + s) / 18446744073709551616 % 18446744073709551616) 8
theorem psumL_len (r s : Nat) (m : List UInt8) : (psumL r s m).length = 16 := by simp [psumL, putLittle_len]
theorem psum_nil (w : World) : Calls Tryz.prog 83 #[.pointer none] w fun e w' => e = .returned (.agg ((List.replicate 16 (0 : UInt8)).map bv).toArray) ∧ Below w.heap.size w w' := by
  have hz : ∀ W, (zeroValue 64).run Tryz.prog W = .ok (.agg zer16.toArray) W := fun W => by kernel_rfl
  have hZ : Hid ((List.replicate 16 (0 : UInt8)).map bv = zer16) := rfl
  have hlz : Hid (zer16.length = 16) := rfl
  have h1 : Hid (∀ v ∈ zer16, v.oneCell' = true) := bv_one (List.replicate 16 0)
  rw [hZ.out]
  have BD : Hid (∀ W, (Instr.build 64 #[]).run Tryz.prog W = .ok (.agg zer16.toArray) W) := fun W => by kernel_rfl
  generalize zer16 = Z at hz hlz h1 BD ⊢
  clear hZ
  have G := Lib.hid (heap_alloc_new' w (.cells Z.toArray 64))
  have GB : Hid (Below w.heap.size w (w.alloc (.cells Z.toArray 64))) := (Below.refl _ _).alloc (Nat.le_refl _) _
  go_enter Tryz.func83, Tryz.ntmps83
  go_upto_region 1 with (fail)
  generalize hV : w.alloc _ = W0 at G GB ⊢
  clear hV
  go_wp2_with (first
    | (refine wpList_run (o := ⟨some 7, _, _, _, _, _⟩) rfl (v := .agg Z.toArray) (w' := W0) (exec_bld rfl (by simp only [List.map_toArray, List.map_nil]; exact BD.out W0)) ?_)
    | (refine wpList_st rfl 64 (.tmp 2) (.tmp 7) rfl (store_arr (cs := Z) (by rw [hlz.out]; exact i16P) h1.out G.out rfl) ?_))
  have hres := setRow_heap W0 w.heap.size _ Z.toArray 64 _ G.out
  exact bodyPost_ret (results_cell_row (P := Tryz.prog) rfl _ _ w.heap.size 64 Z.toArray (0, 0) _ rfl hres arr16P rfl (by rw [List.size_toArray, hlz.out]; exact i16P)) rfl ⟨rfl, GB.out.trans (grown_below (grown_setRow _ _ _) (by omega) GB.out.size)⟩
set_option maxHeartbeats 4000000 in
theorem pstSum_any (g r s : Nat) (m : List UInt8) (w : World) (hr : r < 21267647932558653966460912964485513216) (H : PAt w g r s m) :
    Calls Tryz.prog 83 #[.pointer (some ⟨g, 0, none⟩)] w fun e w' => e = .returned (.agg ((psumL r s m).map bv).toArray) ∧ Below w.heap.size w w' := by
  unfold PAt at H
  obtain ⟨p, hp⟩ : ∃ p, m.length % 16 = p := ⟨_, rfl⟩
  have hp16 : p < 16 := by omega
  have HP := Lib.hid hp; have HR := Lib.hid hr
  have hyl := polyN_lt r m hr
  have hpl := partsN_lt r 0 m (m.length / 16) (by omega) hr
  obtain ⟨y, hy⟩ : ∃ y, polyN r m = y := ⟨_, rfl⟩
  have hlen : (m.drop (16 * (m.length / 16))).length = p := by rw [List.length_drop]; omega
  have hyd : y = if p = 0 then partsN r 0 m (m.length / 16) else stepN r (partsN r 0 m (m.length / 16)) (m.drop (16 * (m.length / 16))) := by rw [← hy, ← hp]; rfl
  have hps : psumL r s m = putLittle ((leastN y + s) % 18446744073709551616) 8 ++ putLittle ((leastN y + s) / 18446744073709551616 % 18446744073709551616) 8 := by rw [← hy]; rfl
  have hlp := psumL_len r s m
  rw [hy] at hyl
  have htl := ptail_len m
  have htk : (ptail m).take p = m.drop (16 * (m.length / 16)) := by unfold ptail; rw [← hlen]; exact List.take_left' rfl
  rw [hp] at H
  generalize m.drop (16 * (m.length / 16)) = D at hlen hyd htk
  generalize partsN r 0 m (m.length / 16) = x at H hyd hpl
  generalize ptail m = T at H htl htk
  generalize psumL r s m = Q at hps hlp ⊢
  have LR : Hid ((numL r).length = 3) := rfl
  have LS : Hid ((numL s).length = 3) := rfl
  have LX : Hid ((numL x).length = 3) := rfl
  have LY : Hid ((numL y).length = 3) := rfl
  have LT : Hid ((numL (leastN y + s)).length = 3) := rfl
  have SA := Lib.hid (fun A c W hS => step_any x r A p c D W hlen (by omega) hpl hr hS)
  have LA := Lib.hid (fun W => least_any y W hyl)
  have PA := Lib.hid (fun W => plus_any (leastN y) s W)
  obtain ⟨u0, hu0⟩ : ∃ u, (leastN y + s) % 18446744073709551616 = u := ⟨_, rfl⟩
  obtain ⟨u1, hu1⟩ : ∃ u, (leastN y + s) / 18446744073709551616 % 18446744073709551616 = u := ⟨_, rfl⟩
  have P0 := Lib.hid (fun W => putLittle_any u0 8 W (by omega) (by omega))
  have P1 := Lib.hid (fun W => putLittle_any u1 8 W (by omega) (by omega))
  have g0 : Hid ((numL (leastN y + s)).getD 0 0 = u0) := hu0
  have g1 : Hid ((numL (leastN y + s)).getD 1 0 = u1) := hu1
  rw [hu0, hu1] at hps
  generalize numL (leastN y + s) = NT at PA LT g0 g1
  generalize numL (leastN y) = NL at LA PA
  obtain ⟨NY, HNY⟩ : ∃ NY, Hid (numL y = NY) := ⟨_, rfl⟩
  obtain ⟨NX, HNX⟩ : ∃ NX, Hid (numL x = NX) := ⟨_, rfl⟩
  rw [HNY.out] at LA LY
  rw [HNX.out] at SA LX H
  have HSY : Hid (¬ p = 0 → stepN r x D = y) := by intro h; rw [hyd, if_neg h]
  have HEY : Hid (p = 0 → NX = NY) := by intro h; rw [← HNX.out, ← HNY.out, hyd, if_pos h]
  generalize numL r = NR at SA LR H
  generalize numL s = NS at PA LS H
  have HQ := Lib.hid hps; have HQL := Lib.hid hlp
  have HTL := Lib.hid htl; have HTK := Lib.hid htk; have HDL := Lib.hid hlen
  have hz : ∀ W, (zeroValue 64).run Tryz.prog W = .ok (.agg zer16.toArray) W := fun W => by kernel_rfl
  have hzn : ∀ W, (zeroValue 154).run Tryz.prog W = .ok (.agg zeros3.toArray) W := fun W => by kernel_rfl
  have hlz : Hid (zer16.length = 16) := rfl
  have HZ16 : Hid (zer16 = List.replicate 16 (Value.int .u8 0)) := rfl
  have hln : Hid (zeros3.length = 3) := rfl
  generalize zer16 = Z at hz hlz HZ16
  generalize zeros3 = Z3 at hzn hln
  have hgl := Lib.hid (lt_of_heap H)
  have LO : Hid (∀ W, Below w.heap.size w W → W.heap[g]? = some (.cells (pCells NR NS NX T p).toArray 157 (0, 0))) := by
    have h0 := H
    intro W hW
    exact (hW.block _ (lt_of_heap h0)).trans h0
  clear H hp hr hyl hpl hlen hyd hps hlp htl htk hu0 hu1 hy
  have G := Lib.hid (heap_alloc_new' w (.cells Z.toArray 64))
  have GB : Hid (Below w.heap.size w (w.alloc (.cells Z.toArray 64))) := (Below.refl _ _).alloc (Nat.le_refl _) _
  have hs0 : Hid ((w.alloc (.cells Z.toArray 64)).heap.size = w.heap.size + 1) := by show _ = _; simp
  go_enter Tryz.func83, Tryz.ntmps83
  go_upto_region 1 with (fail)
  generalize hV : w.alloc _ = W0 at G GB hs0 ⊢
  clear hV
  have RH := Lib.hid (prange_H (LO.out _ GB.out) LR.out LS.out)
  go_upto_region 4 with (first
    | (refine wpList_ld rfl 154 (.tmp 10) rfl (run_loadAt_mid _ g 6 154 (NX.map uv) _ RH.out arr3 rfl (i3l NX LX.out)) ?_)
    | (refine wpList_st rfl 154 (.tmp 3) (.tmp 11) rfl (store_arr (cs := NX.map uv) (i3l NX LX.out) (uv_one _) (heap_alloc_new' W0 _) (by rw [List.length_map, LX.out]; exact hln.out)) ?_
       generalize hV : World.setRow _ _ _ = W1
       have M1 := Lib.hid (heap_of_setRow hV (heap_alloc_new' W0 _))
       have MB := Lib.hid (((Below.refl W0.heap.size W0).alloc (Nat.le_refl _) _).trans (below_of_setRow hV (Nat.le_refl W0.heap.size) (by simp)))
       clear hV)
    | fail)
  have G1 := Lib.hid ((MB.out.block _ (lt_of_heap G.out)).trans G.out)
  have GB1 : Hid (Below w.heap.size w W1) := GB.out.trans (MB.out.mono GB.out.size)
  rw [hs0.out] at M1 ⊢
  clear MB RH G GB hs0
  have c25 := pcell_n (LO.out _ GB1.out) LR.out LS.out LX.out HTL.out
  go_upto_if 16 with (fail)
  clear c25
  go_cut [16] from 17 to 30 (fun v16 wx => Hid (Below w.heap.size w wx) ∧ Hid (wx.heap[w.heap.size]? = some (.cells Z.toArray 64 (0, 0))) ∧ Hid (wx.heap[w.heap.size + 1]? = some (.cells (NY.map uv).toArray 154 (0, 0))))
  case first =>
    by_cases h0 : p = 0
    · have e0 : ¬ ((0 : Int) < (p : Int)) := by omega
      have M2 : Hid (W1.heap[w.heap.size + 1]? = some (.cells (NY.map uv).toArray 154 (0, 0))) := by have := M1.out; rw [HEY.out h0] at this; exact this
      clear h0
      go_wp2_with fail
      go_meet
      exact ⟨GB1, G1, M2⟩
    · have e0 : (0 : Int) < (p : Int) := by omega
      have SY := SA.out
      rw [HSY.out h0, HNY.out] at SY
      have SY := Lib.hid SY
      have sl := arr_to arr16P s8 ⟨g, 9, none⟩ .i64 (p : Int) (by omega) (by omega)
      rw [Int.toNat_natCast] at sl
      have SX : Hid (∀ W, Below w.heap.size w W → Sl W (some ⟨g, 9, none⟩) 16 D) := by
        intro W hW
        have := sl_take' (q := p) (sl_range (prange_T (LO.out W hW) LR.out LS.out LX.out) (lt_of_heap (LO.out W hW)) (c := 16) (by rw [HTL.out]; omega) (by simp [maxLen]))
        rw [HTK.out] at this; exact this
      have HX : Hid (Grow (w.heap.size + 1) W1 W1.drew) := Grow.drew _ _
      have LG : Hid (∀ W, Grow (w.heap.size + 1) W1 W → Below w.heap.size w W) := fun W hW => GB1.out.trans (hW.below (Nat.le_succ _) GB1.out.size)
      go_wp2_with fail
      refine regS_start (Grow (w.heap.size + 1)) (by kernel_rfl) ?_
      try simp only [Act.put, List.setIfInBounds_toArray, List.set_cons_zero, List.set_cons_succ]
      refine regS_take (v := ?_) 1 (some 18) rfl rfl (by kernel_rfl) (by kernel_rfl) (by kernel_rfl) (fun _ _ _ h => h) (by rfl) (fun W hW => ?_) ?_
      rotate_left
      · (go_simp; try rfl)
      simp only [Act.put, List.setIfInBounds_toArray, List.set_cons_zero, List.set_cons_succ]
      refine regS_take (v := ?_) 2 (some 19) rfl rfl (by kernel_rfl) (by kernel_rfl) (by kernel_rfl) (fun _ _ _ h => h) (by rfl) (fun W hW => ?_) ?_
      rotate_left
      · (go_simp; try rfl)
      simp only [Act.put, List.setIfInBounds_toArray, List.set_cons_zero, List.set_cons_succ]
      refine regS_take (v := ?_) 3 (some 20) rfl rfl (by kernel_rfl) (by kernel_rfl) (by kernel_rfl) (fun _ _ _ h => h) (by rfl) (fun W hW => ?_) ?_
      rotate_left
      · (go_simp; try rfl)
      simp only [Act.put, List.setIfInBounds_toArray, List.set_cons_zero, List.set_cons_succ]
      refine regS_load 4 (some 21) (fun W hW => run_loadAt_mid W g 0 154 (NR.map uv) _ (prange_R (LO.out W (LG.out W (HX.out.trans hW)))) arr3 rfl (i3l NR LR.out)) rfl rfl rfl rfl (by kernel_rfl) (by kernel_rfl) (by kernel_rfl) (fun _ _ _ h => h) (by rfl) ?_
      simp only [Act.put, List.setIfInBounds_toArray, List.set_cons_zero, List.set_cons_succ]
      refine regS_take (v := ?_) 5 (some 22) rfl rfl (by kernel_rfl) (by kernel_rfl) (by kernel_rfl) (fun _ _ _ h => h) (by rfl) (fun W hW => ?_) ?_
      rotate_left
      · (go_simp; try rfl)
      simp only [Act.put, List.setIfInBounds_toArray, List.set_cons_zero, List.set_cons_succ]
      refine regS_take (v := ?_) 6 (some 23) rfl rfl (by kernel_rfl) (by kernel_rfl) (by kernel_rfl) (fun _ _ _ h => h) (by rfl) (fun W hW => ?_) ?_
      rotate_left
      · (go_simp; try rfl)
      simp only [Act.put, List.setIfInBounds_toArray, List.set_cons_zero, List.set_cons_succ]
      refine regS_take (v := ?_) 7 (some 24) rfl rfl (by kernel_rfl) (by kernel_rfl) (by kernel_rfl) (fun _ _ _ h => h) (by rfl) (fun W hW => ?_) ?_
      rotate_left
      · (go_simp; try rfl)
      simp only [Act.put, List.setIfInBounds_toArray, List.set_cons_zero, List.set_cons_succ]
      refine regS_take (v := ?_) 8 (some 25) rfl rfl (by kernel_rfl) (by kernel_rfl) (by kernel_rfl) (fun _ _ _ h => h) (by rfl) (fun W hW => ?_) ?_
      rotate_left
      · (go_simp; try rfl)
      simp only [Act.put, List.setIfInBounds_toArray, List.set_cons_zero, List.set_cons_succ]
      refine regS_take (v := ?_) 9 (some 26) rfl rfl (by kernel_rfl) (by kernel_rfl) (by kernel_rfl) (fun _ _ _ h => h) (by rfl) (fun W hW => ?_) ?_
      rotate_left
      · (go_simp; try rfl)
      simp only [Act.put, List.setIfInBounds_toArray, List.set_cons_zero, List.set_cons_succ]
      refine regS_take (v := ?_) 10 (some 27) rfl rfl (by kernel_rfl) (by kernel_rfl) (by kernel_rfl) (fun _ _ _ h => h) (by rfl) (fun W hW => ?_) ?_
      rotate_left
      · (go_simp; try rfl)
      simp only [Act.put, List.setIfInBounds_toArray, List.set_cons_zero, List.set_cons_succ]
      refine regS_load 11 (some 28) (fun W hW => load_cell Tryz.underlying3 (pcell_n (LO.out W (LG.out W (HX.out.trans hW))) LR.out LS.out LX.out HTL.out)) rfl rfl rfl rfl (by kernel_rfl) (by kernel_rfl) (by kernel_rfl) (fun _ _ _ h => h) (by rfl) ?_
      simp only [Act.put, List.setIfInBounds_toArray, List.set_cons_zero, List.set_cons_succ]
      refine regS_take (v := ?_) 12 (some 29) rfl rfl (by kernel_rfl) (by kernel_rfl) (by kernel_rfl) (fun _ _ _ h => h) (by rfl) (fun W hW => ?_) ?_
      rotate_left
      · (go_simp; try rfl)
      simp only [Act.put, List.setIfInBounds_toArray, List.set_cons_zero, List.set_cons_succ]
      refine regS_eff 0 rfl (by kernel_rfl) (fun K hK => ?_)
      refine step_ld rfl 154 (.tmp 3) rfl (load_arr arr3 rfl (i3l NX LX.out) (W := W1.drew) M1.out) ?_
      have hE : Grow (w.heap.size + 1) W1.drew W1.drew := Pre.refl _
      refine hK.out _ _ hE ?_
      have HX := Lib.hid (Pre.trans HX.out hE)
      clear hE hK K
      try simp only [Act.put, List.setIfInBounds_toArray, List.set_cons_zero, List.set_cons_succ]
      refine regS_eff 13 rfl (by kernel_rfl) (fun K hK => ?_)
      go_simp
      refine (SY.out _ _ _ (SX.out _ (LG.out _ HX.out))).mono ?_
      rintro e w2 ⟨rfl, hb⟩
      have N2 := Lib.hid ((hb.block _ (lt_of_heap (w := W1.drew) M1.out)).trans M1.out)
      have hE := Grow.of_ext (g := w.heap.size + 1) hb
      clear hb
      refine hK.out _ _ hE ?_
      have HX := Lib.hid (Pre.trans HX.out hE)
      clear hE hK K
      try simp only [Act.put, List.setIfInBounds_toArray, List.set_cons_zero, List.set_cons_succ]
      refine regS_eff 14 rfl (by kernel_rfl) (fun K hK => ?_)
      refine step_st1 rfl 154 (.tmp 3) (.tmp 30) rfl (store_arr (cs := NY.map uv) (i3l NY LY.out) (uv_one _) N2.out (by rw [List.length_map, List.length_map, LX.out, LY.out])) ?_
      generalize hV : World.setRow _ _ _ = W3
      have N3 := Lib.hid (heap_of_setRow hV N2.out)
      have hE : Grow (w.heap.size + 1) w2 W3 := by rw [← hV]; exact Grow.setRow _ _ _
      clear hV
      refine hK.out _ _ hE ?_
      have HX := Lib.hid (Pre.trans HX.out hE)
      clear hE hK K
      try simp only [Act.put, List.setIfInBounds_toArray, List.set_cons_zero, List.set_cons_succ]
      refine regS_done (by kernel_rfl) ?_
      have G3 := Lib.hid (HX.out.heap (by omega) G1.out)
      have GB3 := Lib.hid (LG.out _ HX.out)
      go_wp2_with fail
      go_meet
      exact ⟨GB3, G3, N3⟩
  case rest =>
    obtain ⟨GB2, G2, M2⟩ := hcut
    clear GB1 G1 M1
    go_upto_region 6 with (fail)
    have LG : Hid (∀ W, Grow (w.heap.size + 1) wc W → Below w.heap.size w W) := fun W hW => GB2.out.trans (hW.below (Nat.le_succ _) GB2.out.size)
    have HX : Hid (Grow (w.heap.size + 1) wc wc.drew) := Grow.drew _ _
    refine regS_start (Grow (w.heap.size + 1)) (by kernel_rfl) ?_
    try simp only [Act.put, List.setIfInBounds_toArray, List.set_cons_zero, List.set_cons_succ]
    refine regS_take (v := ?_) 2 (some 33) rfl rfl (by kernel_rfl) (by kernel_rfl) (by kernel_rfl) (fun _ _ _ h => h) (by rfl) (fun W hW => ?_) ?_
    rotate_left
    · (go_simp; try rfl)
    simp only [Act.put, List.setIfInBounds_toArray, List.set_cons_zero, List.set_cons_succ]
    refine regS_take (v := ?_) 3 (some 34) rfl rfl (by kernel_rfl) (by kernel_rfl) (by kernel_rfl) (fun _ _ _ h => h) (by rfl) (fun W hW => ?_) ?_
    rotate_left
    · (go_simp; try rfl)
    simp only [Act.put, List.setIfInBounds_toArray, List.set_cons_zero, List.set_cons_succ]
    refine regS_take (v := ?_) 4 (some 35) rfl rfl (by kernel_rfl) (by kernel_rfl) (by kernel_rfl) (fun _ _ _ h => h) (by rfl) (fun W hW => ?_) ?_
    rotate_left
    · (go_simp; try rfl)
    simp only [Act.put, List.setIfInBounds_toArray, List.set_cons_zero, List.set_cons_succ]
    refine regS_load 5 (some 36) (fun W hW => run_loadAt_mid W g 3 154 (NS.map uv) _ (prange_S (LO.out W (LG.out W (HX.out.trans hW))) LR.out) arr3 rfl (i3l NS LS.out)) rfl rfl rfl rfl (by kernel_rfl) (by kernel_rfl) (by kernel_rfl) (fun _ _ _ h => h) (by rfl) ?_
    simp only [Act.put, List.setIfInBounds_toArray, List.set_cons_zero, List.set_cons_succ]
    refine regS_eff 0 rfl (by kernel_rfl) (fun K hK => ?_)
    refine step_ld rfl 154 (.tmp 3) rfl (load_arr arr3 rfl (i3l NY LY.out) (W := wc.drew) M2.out) ?_
    have hE : Grow (w.heap.size + 1) wc.drew wc.drew := Pre.refl _
    refine hK.out _ _ hE ?_
    have HX := Lib.hid (Pre.trans HX.out hE)
    clear hE hK K
    try simp only [Act.put, List.setIfInBounds_toArray, List.set_cons_zero, List.set_cons_succ]
    refine regS_eff 1 rfl (by kernel_rfl) (fun K hK => ?_)
    go_simp
    refine (LA.out _).mono ?_
    rintro e w2 ⟨rfl, hb⟩
    have N2 := Lib.hid ((hb.block _ (lt_of_heap (w := wc.drew) M2.out)).trans M2.out)
    have hE := Grow.of_ext (g := w.heap.size + 1) hb
    clear hb
    refine hK.out _ _ hE ?_
    have HX := Lib.hid (Pre.trans HX.out hE)
    clear hE hK K
    try simp only [Act.put, List.setIfInBounds_toArray, List.set_cons_zero, List.set_cons_succ]
    refine regS_eff 6 rfl (by kernel_rfl) (fun K hK => ?_)
    go_simp
    refine (PA.out _).mono ?_
    rintro e w3 ⟨rfl, hb⟩
    have N3 := Lib.hid ((hb.block _ (lt_of_heap N2.out)).trans N2.out)
    have hE := Grow.of_ext (g := w.heap.size + 1) hb
    clear hb
    refine hK.out _ _ hE ?_
    have HX := Lib.hid (Pre.trans HX.out hE)
    clear hE hK K
    try simp only [Act.put, List.setIfInBounds_toArray, List.set_cons_zero, List.set_cons_succ]
    refine regS_eff 7 rfl (by kernel_rfl) (fun K hK => ?_)
    refine step_st1 rfl 154 (.tmp 3) (.tmp 37) rfl (store_arr (cs := NT.map uv) (i3l NT LT.out) (uv_one _) N3.out (by rw [List.length_map, List.length_map, LT.out, LY.out])) ?_
    generalize hV : World.setRow _ _ _ = W4
    have N4 := Lib.hid (heap_of_setRow hV N3.out)
    have hE : Grow (w.heap.size + 1) w3 W4 := by rw [← hV]; exact Grow.setRow _ _ _
    clear hV
    refine hK.out _ _ hE ?_
    have HX := Lib.hid (Pre.trans HX.out hE)
    clear hE hK K
    try simp only [Act.put, List.setIfInBounds_toArray, List.set_cons_zero, List.set_cons_succ]
    refine regS_done (by kernel_rfl) ?_
    have G4 := Lib.hid (HX.out.heap (by omega) G2.out)
    have GB4 := Lib.hid (LG.out _ HX.out)
    clear HX LG G2 GB2 M2 N2 N3 LA PA
    go_upto_region 8 with (fail)
    generalize hV : World.alloc _ _ = W5
    have F5 := Lib.hid (heap_of_alloc hV)
    have B5 := Lib.hid (below_of_alloc hV (Nat.le_refl _))
    clear hV
    have N5 := Lib.hid ((B5.out.block _ (lt_of_heap N4.out)).trans N4.out)
    have G5 := Lib.hid ((B5.out.block _ (lt_of_heap G4.out)).trans G4.out)
    have GB5 : Hid (Below w.heap.size w W5) := GB4.out.trans (B5.out.mono GB4.out.size)
    have hg4 := Lib.hid (lt_of_heap N4.out)
    generalize W4.heap.size = g4 at F5 hg4 ⊢
    clear B5 N4 G4 GB4
    have ar1 := arr_to arr16P s8 ⟨g4, 0, none⟩ .i64 8 (by omega) (by omega)
    have ar2 := arr_from arr16P s8 ⟨g4, 0, none⟩ .i64 8 (by omega) (by omega)
    rw [show (8 : Int).toNat = 8 from rfl] at ar1 ar2
    rw [show cutA ⟨g4, 0, none⟩ 16 8 = ⟨g4, 8, none⟩ from by unfold cutA; rw [if_neg (by omega), Addr.add_mid]] at ar2
    have hne : Hid (w.heap.size + 1 ≠ g4) := by have := hg4.out; show _ ≠ _; omega
    have hne0 : Hid (w.heap.size ≠ g4) := by have := hg4.out; show _ ≠ _; omega
    have hge : Hid (w.heap.size ≤ g4) := by have := hg4.out; show _ ≤ _; omega
    have HX : Hid (Grow g4 W5 W5.drew) := Grow.drew _ _
    have lp0 : Hid ((putLittle u0 8).length = 8) := putLittle_len _ _
    have lp1 : Hid ((putLittle u1 8).length = 8) := putLittle_len _ _
    have C0 : Hid (∀ W, Grow g4 W5 W → W.cell? ⟨w.heap.size + 1, 0, none⟩ = some (.int .u64 (u0 : Int))) := by
      intro W hW
      have := ucell (hW.heap hne.out N5.out) 0 (by rw [LT.out]; omega)
      rw [g0.out] at this; exact this
    have C1 : Hid (∀ W, Grow g4 W5 W → W.cell? ⟨w.heap.size + 1, 1, none⟩ = some (.int .u64 (u1 : Int))) := by
      intro W hW
      have := ucell (hW.heap hne.out N5.out) 1 (by rw [LT.out]; omega)
      rw [g1.out] at this; exact this
    generalize putLittle u0 8 = B0 at P0 lp0 HQ
    generalize putLittle u1 8 = B1 at P1 lp1 HQ
    have hsp0 : Hid (splice Z 0 (B0.map bv) = B0.map bv ++ List.replicate 8 (Value.int .u8 0)) := by
      show _ = _
      rw [HZ16.out]; exact splice_first (Value.int .u8 0) 8 8 (B0.map bv) (by rw [List.length_map, lp0.out])
    have hsp1 : Hid (splice (B0.map bv ++ List.replicate 8 (Value.int .u8 0)) 8 (B1.map bv) = Q.map bv) := by
      show _ = _
      rw [splice_last (Value.int .u8 0) 8 8 (B0.map bv) (B1.map bv) (by rw [List.length_map, lp0.out]) (by rw [List.length_map, lp1.out]), HQ.out, List.map_append]
    have hlz2 : Hid ((B0.map bv ++ List.replicate 8 (Value.int .u8 0)).length = 16) := by show _ = _; simp [lp0.out]
    refine regS_start (Grow g4) (by kernel_rfl) ?_
    try simp only [Act.put, List.setIfInBounds_toArray, List.set_cons_zero, List.set_cons_succ]
    refine regS_take (v := ?_) 0 (some 38) rfl rfl (by kernel_rfl) (by kernel_rfl) (by kernel_rfl) (fun _ _ _ h => h) (by rfl) (fun W hW => ?_) ?_
    rotate_left
    · (go_simp; try rfl)
    simp only [Act.put, List.setIfInBounds_toArray, List.set_cons_zero, List.set_cons_succ]
    refine regS_take (v := ?_) 1 (some 39) rfl rfl (by kernel_rfl) (by kernel_rfl) (by kernel_rfl) (fun _ _ _ h => h) (by rfl) (fun W hW => ?_) ?_
    rotate_left
    · (go_simp; try rfl)
    simp only [Act.put, List.setIfInBounds_toArray, List.set_cons_zero, List.set_cons_succ]
    refine regS_load 2 (some 40) (fun W hW => load_cell Tryz.underlying115 (C0.out W (HX.out.trans hW))) rfl rfl rfl rfl (by kernel_rfl) (by kernel_rfl) (by kernel_rfl) (fun _ _ _ h => h) (by rfl) ?_
    simp only [Act.put, List.setIfInBounds_toArray, List.set_cons_zero, List.set_cons_succ]
    refine regS_eff 3 rfl (by kernel_rfl) (fun K hK => ?_)
    go_simp
    refine (P0.out _).mono ?_
    rintro e w6 ⟨g6, hg6, rfl, hk6, hb⟩
    have K6 := Lib.hid hk6
    have F6 := Lib.hid ((hb.block _ (lt_of_heap (w := W5.drew) F5.out)).trans F5.out)
    have hE := Grow.of_ext (g := g4) hb
    clear hb hk6 hg6
    refine hK.out _ _ hE ?_
    have HX := Lib.hid (Pre.trans HX.out hE)
    clear hE hK K
    try simp only [Act.put, List.setIfInBounds_toArray, List.set_cons_zero, List.set_cons_succ]
    refine regS_eff 4 rfl (by kernel_rfl) (fun K hK => ?_)
    obtain ⟨w7, hrun, hblk, _, hgr⟩ := copy_run uT s8 (sT := 22) 3 w6 g4 0 Z 64 F6.out (some ⟨g4, 0, none⟩) (some ⟨g6, 0, none⟩) 8 16 8 8 w6.heap.size (B0.map bv) (by rw [List.length_map, lp0.out]; rfl) (fun _ => rfl) (row_of_heap K6.out (lt_of_heap K6.out)) (by rw [List.length_map, lp0.out, hlz.out]; decide) (bv_one _)
    rw [hsp0.out] at hblk
    have F7 := Lib.hid hblk
    refine step_cpy rfl (.tmp 38) (.tmp 41) 22 22 rfl hrun ?_
    have hE : Grow g4 w6 w7 := hgr
    clear hrun hblk hgr
    refine hK.out _ _ hE ?_
    have HX := Lib.hid (Pre.trans HX.out hE)
    clear hE hK K
    try simp only [Act.put, List.setIfInBounds_toArray, List.set_cons_zero, List.set_cons_succ]
    refine regS_done (by kernel_rfl) ?_
    clear F5 K6 F6
    go_upto_region 9 with (fail)
    have HX0 := HX
    clear HX
    have HX : Hid (Grow g4 W5 w7.drew) := HX0.out.trans (Grow.drew _ _)
    refine regS_start (Grow g4) (by kernel_rfl) ?_
    try simp only [Act.put, List.setIfInBounds_toArray, List.set_cons_zero, List.set_cons_succ]
    refine regS_take (v := ?_) 0 (some 43) rfl rfl (by kernel_rfl) (by kernel_rfl) (by kernel_rfl) (fun _ _ _ h => h) (by rfl) (fun W hW => ?_) ?_
    rotate_left
    · (go_simp; try rfl)
    simp only [Act.put, List.setIfInBounds_toArray, List.set_cons_zero, List.set_cons_succ]
    refine regS_take (v := ?_) 1 (some 44) rfl rfl (by kernel_rfl) (by kernel_rfl) (by kernel_rfl) (fun _ _ _ h => h) (by rfl) (fun W hW => ?_) ?_
    rotate_left
    · (go_simp; try rfl)
    simp only [Act.put, List.setIfInBounds_toArray, List.set_cons_zero, List.set_cons_succ]
    refine regS_load 2 (some 45) (fun W hW => load_cell Tryz.underlying115 (C1.out W (HX.out.trans hW))) rfl rfl rfl rfl (by kernel_rfl) (by kernel_rfl) (by kernel_rfl) (fun _ _ _ h => h) (by rfl) ?_
    simp only [Act.put, List.setIfInBounds_toArray, List.set_cons_zero, List.set_cons_succ]
    refine regS_eff 3 rfl (by kernel_rfl) (fun K hK => ?_)
    go_simp
    refine (P1.out _).mono ?_
    rintro e w8 ⟨g8, hg8, rfl, hk8, hb⟩
    have K8 := Lib.hid hk8
    have F8 := Lib.hid ((hb.block _ (lt_of_heap (w := w7.drew) F7.out)).trans F7.out)
    have hE := Grow.of_ext (g := g4) hb
    clear hb hk8 hg8
    refine hK.out _ _ hE ?_
    have HX := Lib.hid (Pre.trans HX.out hE)
    clear hE hK K
    try simp only [Act.put, List.setIfInBounds_toArray, List.set_cons_zero, List.set_cons_succ]
    refine regS_eff 4 rfl (by kernel_rfl) (fun K hK => ?_)
    obtain ⟨w9, hrun, hblk, _, hgr⟩ := copy_run uT s8 (sT := 22) 3 w8 g4 8 (B0.map bv ++ List.replicate 8 (Value.int .u8 0)) 64 F8.out (some ⟨g4, 8, none⟩) (some ⟨g8, 0, none⟩) 8 8 8 8 w8.heap.size (B1.map bv) (by rw [List.length_map, lp1.out]; rfl) (fun _ => rfl) (row_of_heap K8.out (lt_of_heap K8.out)) (by rw [List.length_map, lp1.out, hlz2.out]; decide) (bv_one _)
    rw [hsp1.out] at hblk
    have F9 := Lib.hid hblk
    refine step_cpy rfl (.tmp 43) (.tmp 46) 22 22 rfl hrun ?_
    have hE : Grow g4 w8 w9 := hgr
    clear hrun hblk hgr
    refine hK.out _ _ hE ?_
    have HX := Lib.hid (Pre.trans HX.out hE)
    clear hE hK K
    try simp only [Act.put, List.setIfInBounds_toArray, List.set_cons_zero, List.set_cons_succ]
    refine regS_done (by kernel_rfl) ?_
    simp only [List.getElem_toArray, List.getElem_cons_succ, List.getElem_cons_zero, List.set_cons_zero, List.set_cons_succ]
    have GB9 : Hid (Below w.heap.size w w9) := GB5.out.trans (HX.out.below hge.out GB5.out.size)
    have G9 := Lib.hid (HX.out.heap hne0.out G5.out)
    clear HX HX0 C0 C1 N5 G5 GB5 F7 F8 K8
    go_wp2_with (first
      | (refine wpList_ld rfl 64 (.tmp 4) rfl (load_arr arr16P rfl (i16p Q HQL.out) F9.out) ?_)
      | (refine wpList_st rfl 64 (.tmp 2) (.tmp 48) rfl (store_arr (cs := Q.map bv) (i16p Q HQL.out) (bv_one _) G9.out (by rw [List.length_map, HQL.out]; exact hlz.out)) ?_))
    have hres := setRow_heap w9 w.heap.size _ (Q.map bv).toArray 64 _ G9.out
    exact bodyPost_ret (results_cell_row (P := Tryz.prog) rfl _ _ w.heap.size 64 (Q.map bv).toArray (0, 0) _ rfl hres arr16P rfl (by rw [List.size_toArray]; exact i16p Q HQL.out)) rfl ⟨rfl, GB9.out.trans (grown_below (grown_setRow _ _ _) (Nat.le_refl _) GB9.out.size)⟩
end Go.Proofs.YtimgggpojbpfkaaGreatDoor

/- poly: Sum; the law's example. -/
namespace Go.Proofs.YtimgggpojbpfkaaGreatDoor
open Go.RowKit
set_option maxRecDepth 100000
set_option linter.unusedVariables false
set_option linter.unusedSimpArgs false
theorem PAt.ext {w w' : World} {g r s : Nat} {m : List UInt8} (h : PAt w g r s m) (hb : Ext w w') : PAt w' g r s m := (hb.block _ (lt_of_heap h)).trans h
/-- the sum of bytes by a key -/
def polyL (key b : List UInt8) : List UInt8 := psumL (rOf key) (sOf key) b
theorem polyL_len (key b : List UInt8) : (polyL key b).length = 16 := psumL_len _ _ _
def keyEx : List UInt8 := [2, 0, 0, 0, 0, 0, 0, 0, 0, 0, 0, 0, 0, 0, 0, 0, 7, 0, 0, 0, 0, 0, 0, 0, 0, 0, 0, 0, 0, 0, 0, 0]
def sumEx1 : List UInt8 := [7, 0, 0, 0, 0, 0, 0, 0, 0, 0, 0, 0, 0, 0, 0, 0]
def sumEx2 : List UInt8 := [13, 2, 0, 0, 0, 0, 0, 0, 0, 0, 0, 0, 0, 0, 0, 0]
theorem polyEx1 : polyL keyEx [] = sumEx1 := by decide +kernel
theorem polyEx2 : polyL keyEx [3] = sumEx2 := by decide +kernel
end Go.Proofs.YtimgggpojbpfkaaGreatDoor

/- aead: writeWhole (bytes with noughts behind, to whole 16 bytes). -/
namespace Go.Proofs.YtimgggpojbpfkaaGreatDoor
open Go.RowKit
set_option linter.unusedVariables false
set_option linter.unusedSimpArgs false
set_option maxRecDepth 100000
def padZ (n : Nat) : Nat := (16 - n % 16) % 16
/-- bytes with noughts behind, to whole 16 bytes -/
def whZ (b : List UInt8) : List UInt8 := b ++ List.replicate (padZ b.length) 0
theorem apart_of {w : World} {A : Option Addr} {c g : Nat} {b : List UInt8} (hS : Sl w A c b) (hg : 0 < b.length → ∀ x, A = some x → x.block ≠ g) : 0 < b.length → ApartG A g := hg
set_option maxHeartbeats 2000000 in
theorem writeWhole_any (g r s : Nat) (m : List UInt8) (A : Option Addr) (k c : Nat) (b : List UInt8) (w : World) (hr : r < 21267647932558653966460912964485513216) (hb : b.length = k) (hk : k ≤ 2147000000) (hA : 0 < k → ApartG A g) (hS : Sl w A c b) (H : PAt w g r s m) :
    Calls Tryz.prog 80 #[.pointer (some ⟨g, 0, none⟩), .slice A k c] w fun e w' => (∃ v, e = .returned v) ∧ PAt w' g r s (m ++ whZ b) ∧ w.grownBy w' (some g) := by
  have WA := Lib.hid (pwrite_any g r s m A k c b w hr hb hk hA hS H)
  obtain ⟨p, hp⟩ : ∃ p, p = padZ k := ⟨_, rfl⟩
  have hp16 : p < 16 := by rw [hp, padZ]; omega
  have WZ := Lib.hid (fun A c W hA hS H => pwrite_any g r s (m ++ b) A p c (List.replicate p 0) W hr (List.length_replicate) (by omega) hA hS H)
  have hmk : ∀ W, (Instr.makeSlice 22 (.int .i64 (p : Int)) (.int .i64 (p : Int))).run Tryz.prog W = .ok (.slice (some ⟨W.heap.size, 0, none⟩) p p) (W.alloc (.cells ((List.replicate p (0 : UInt8)).map bv).toArray 5)) := fun W => by
    rw [List.map_replicate]; exact make_run (P := Tryz.prog) uT made8 rfl .i64 .i64 p (by omega) (by omega) W
  have u1 : (16 - (k : Int) % 16) % 16 = (p : Int) := by rw [hp, padZ]; omega
  have HG : Hid (g < w.heap.size) := lt_of_heap H
  have HW : Hid (m ++ b ++ List.replicate p 0 = m ++ whZ b) := by show _ = _; rw [whZ, hb, ← hp, List.append_assoc]
  rw [HW.out] at WZ
  obtain ⟨Z, HZ⟩ : ∃ Z, Hid (List.replicate p (0 : UInt8) = Z) := ⟨_, rfl⟩
  rw [HZ.out] at WZ hmk
  have HZL : Hid (Z.length = p) := by show _ = _; rw [← HZ.out, List.length_replicate]
  clear hb hk hA hS H hr HZ HW hp
  go_enter Tryz.func80, Tryz.ntmps80
  go_wp2_with fail
  refine WA.out.mono ?_
  rintro e w1 ⟨⟨v1, rfl⟩, hP, hg1⟩
  have P1 := Lib.hid hP; have G1 := Lib.hid hg1
  clear hP hg1 WA
  go_wp2_with fail
  have HN := Lib.hid (heap_alloc_new' w1 (.cells (Z.map bv).toArray 5))
  have HB : Hid (Ext w1 (w1.alloc (.cells (Z.map bv).toArray 5))) := (Below.refl _ _).alloc (Nat.le_refl _) _
  have HGN : Hid (g ≠ w1.heap.size) := by have := HG.out; have := G1.out.size; show _ ≠ _; omega
  generalize hV : w1.alloc _ = W1 at HN HB ⊢
  clear hV
  generalize w1.heap.size = q at HN HGN ⊢
  refine (WZ.out (some ⟨q, 0, none⟩) p W1 (fun _ a ha => by injection ha with ha; rw [← ha]; exact HGN.out.symm) (sl_row HZL.out (by omega) HN.out) (P1.out.ext HB.out)).mono ?_
  rintro e w2 ⟨⟨v2, rfl⟩, hP, hg2⟩
  have P2 := Lib.hid hP; have G2 := Lib.hid hg2
  clear hP hg2
  go_wp2
  exact bodyPost_end (v := .tuple #[]) (by simp [results, Tryz.results80, go_sem]) rfl ⟨⟨_, rfl⟩, P2.out, gr_trans (gr_trans G1.out (gr_of HB.out)) G2.out⟩
end Go.Proofs.YtimgggpojbpfkaaGreatDoor

/- aead: tag. -/
namespace Go.Proofs.YtimgggpojbpfkaaGreatDoor
open Go.RowKit
set_option linter.unusedVariables false
set_option linter.unusedSimpArgs false
set_option maxRecDepth 100000
/-- the one key of a key and a nonce -/
def oneL (key nonce : List UInt8) : List UInt8 := (blockC key nonce 0#32).take 32
theorem oneL_len (key nonce : List UInt8) : (oneL key nonce).length = 32 := by rw [oneL, List.length_take, blockC_len]; rfl
/-- what is summed -/
def taggedL (aad x : List UInt8) : List UInt8 := whZ aad ++ whZ x ++ putLittle aad.length 8 ++ putLittle x.length 8
def tagL (key nonce aad x : List UInt8) : List UInt8 := polyL (oneL key nonce) (taggedL aad x)
theorem tagL_len (key nonce aad x : List UInt8) : (tagL key nonce aad x).length = 16 := polyL_len _ _
theorem PAt.lt' {w : World} {g r s : Nat} {m : List UInt8} (H : PAt w g r s m) : g < w.heap.size := lt_of_heap H
theorem apart_ge {w : World} {A : Option Addr} {c k g : Nat} {b : List UInt8} (hS : Sl w A c b) (hb : b.length = k) (hg : w.heap.size ≤ g) : 0 < k → ApartG A g := by
  intro h0 a ha
  obtain ⟨b1, o1, he, hb1, _⟩ := hS.2.2.at_ (by rw [List.length_map, hb]; exact h0)
  rw [he] at ha
  injection ha with ha
  rw [← ha]; show b1 ≠ g; omega
set_option maxHeartbeats 4000000 in
theorem atag_any (key nonce : List UInt8) (A3 A4 : Option Addr) (k3 c3 k4 c4 : Nat) (aad x : List UInt8) (w : World) (hk : key.length = 32) (hn : nonce.length = 12) (h3 : aad.length = k3) (h4 : x.length = k4) (h31 : k3 ≤ 2147000000) (h41 : k4 ≤ 2147000000)
    (S3 : Sl w A3 c3 aad) (S4 : Sl w A4 c4 x) :
    Calls Tryz.prog 53 #[.agg (key.map bv).toArray, .agg (nonce.map bv).toArray, .slice A3 k3 c3, .slice A4 k4 c4] w fun e w' => e = .returned (.agg ((tagL key nonce aad x).map bv).toArray) ∧ Below w.heap.size w w' := by
  have hz : ∀ W, (zeroValue 64).run Tryz.prog W = .ok (.agg zer16.toArray) W := fun W => by kernel_rfl
  have hlz : Hid (zer16.length = 16) := rfl
  have BL : Hid (∀ W, Calls Tryz.prog 78 #[.agg (key.map bv).toArray, .agg (nonce.map bv).toArray, .int .u32 0] W fun e w' => e = .returned (.agg ((blockC key nonce 0#32).map bv).toArray) ∧ Below W.heap.size W w') := fun W => cblock_any key nonce 0#32 W hk hn
  have HOL := Lib.hid (oneL_len key nonce)
  have HOE : Hid ((blockC key nonce 0#32).take 32 = oneL key nonce) := rfl
  have HXL : Hid ((blockC key nonce 0#32).length = 64) := blockC_len _ _ _
  have HTE : Hid (psumL (rOf (oneL key nonce)) (sOf (oneL key nonce)) (taggedL aad x) = tagL key nonce aad x) := rfl
  have LP := Lib.hid (tagL_len key nonce aad x)
  generalize tagL key nonce aad x = Q at HTE LP ⊢
  generalize blockC key nonce 0#32 = X at BL HOE HXL
  obtain ⟨one, hone⟩ : ∃ one, oneL key nonce = one := ⟨_, rfl⟩
  rw [hone] at HOL HOE HTE
  clear hone
  have hr := rOf_lt one HOL.out
  have HR := Lib.hid hr
  have NA := Lib.hid (fun W => pnew_any one W HOL.out)
  have HK := Lib.hid hk; have HN := Lib.hid hn; have H3 := Lib.hid h3; have H4 := Lib.hid h4; have HS3 := Lib.hid S3; have HS4 := Lib.hid S4
  generalize rOf one = r at hr NA HR HTE
  generalize sOf one = s at NA HTE
  have WW3 := Lib.hid (fun g m A W hA hS H => writeWhole_any g r s m A k3 c3 aad W hr h3 h31 hA hS H)
  have WW4 := Lib.hid (fun g m A W hA hS H => writeWhole_any g r s m A k4 c4 x W hr h4 h41 hA hS H)
  have HA3 := Lib.hid (fun g hg => apart_ge (g := g) S3 h3 hg)
  have HA4 := Lib.hid (fun g hg => apart_ge (g := g) S4 h4 hg)
  have PL3 := Lib.hid (fun W => putLittle_any k3 8 W (by omega) (by omega))
  have PL4 := Lib.hid (fun W => putLittle_any k4 8 W (by omega) (by omega))
  have LL3 := Lib.hid (putLittle_len k3 8)
  have LL4 := Lib.hid (putLittle_len k4 8)
  have WL3 := Lib.hid (fun g m A W hA hS H => pwrite_any g r s m A 8 8 (putLittle k3 8) W hr (putLittle_len k3 8) (by omega) hA hS H)
  have WL4 := Lib.hid (fun g m A W hA hS H => pwrite_any g r s m A 8 8 (putLittle k4 8) W hr (putLittle_len k4 8) (by omega) hA hS H)
  have SA := Lib.hid (fun g m W H => pstSum_any g r s m W hr H)
  have HM : Hid ([] ++ whZ aad ++ whZ x ++ putLittle k3 8 ++ putLittle k4 8 = taggedL aad x) := by show _ = _; rw [taggedL, h3, h4]; simp only [List.nil_append]
  generalize putLittle k3 8 = L3 at PL3 LL3 WL3 HM
  generalize putLittle k4 8 = L4 at PL4 LL4 WL4 HM
  have q3 : (k3 : Int) ≤ 2147000000 := by omega
  have q4 : (k4 : Int) ≤ 2147000000 := by omega
  generalize zer16 = Z at hz hlz
  clear hk hn h3 h4 S3 S4 hr h31 h41
  have G := Lib.hid (heap3 w (.cells (key.map bv).toArray 65) (.cells (nonce.map bv).toArray 74) (.cells Z.toArray 64))
  go_enter Tryz.func53, Tryz.ntmps53
  go_upto_region 1 with (fail)
  generalize hV : ((w.alloc _).alloc _).alloc _ = W0 at G ⊢
  clear hV
  have GB : Hid (Below w.heap.size w W0) := G.out.2.2.2
  have GN : Hid (W0.heap[w.heap.size + 2]? = some (.cells Z.toArray 64 (0, 0))) := G.out.2.2.1
  go_upto_region 2 with (first
    | (refine wpList_ld rfl 65 (.tmp 4) rfl (load_arr arr32K rfl (i32K' key HK.out) G.out.1) ?_)
    | (refine wpList_ld rfl 74 (.tmp 5) rfl (load_arr arr12B rfl (i12B' nonce HN.out) G.out.2.1) ?_))
  refine (BL.out W0).mono ?_
  rintro e w1 ⟨rfl, hb1⟩
  have GB1 : Hid (Below w.heap.size w w1) := GB.out.step hb1
  have GN1 := Lib.hid ((hb1.block _ (lt_of_heap GN.out)).trans GN.out)
  clear hb1 G GB GN BL
  go_upto_region 2 with (first
    | (refine wpList_st rfl 109 (.tmp 9) (.tmp 13) rfl (store_arr (cs := X.map bv) (old := List.replicate 64 (Value.int .u8 0)) (by rw [List.length_map, HXL.out]; exact i64Bc) (bv_one _) (heap_alloc_new' w1 _) (by rw [List.length_map, HXL.out]; exact List.length_replicate)) ?_
       generalize hV : World.setRow _ _ _ = W2
       have M1 := Lib.hid (heap_of_setRow hV (heap_alloc_new' w1 _))
       have MB := Lib.hid (((Below.refl w1.heap.size w1).alloc (Nat.le_refl _) _).trans (below_of_setRow hV (Nat.le_refl w1.heap.size) (by simp)))
       clear hV)
    | fail)
  have GB2 : Hid (Below w.heap.size w W2) := GB1.out.step MB.out
  have GN2 := Lib.hid ((MB.out.block _ (lt_of_heap GN1.out)).trans GN1.out)
  clear GB1 GN1 MB
  generalize w1.heap.size = q at M1 ⊢
  have ar1 := arr_to arr64B s8 ⟨q, 0, none⟩ .i64 32 (by omega) (by omega)
  rw [show (32 : Int).toNat = 32 from rfl] at ar1
  have ar2 := arr_ptr32 (some ⟨q, 0, none⟩) 32 64 (by omega)
  have RO : Hid (W2.rangeAt q 0 (one.map bv)) := by
    intro j v hv
    rw [← HOE.out] at hv
    have hj := (List.getElem?_eq_some_iff.1 hv).1
    rw [List.length_map, List.length_take] at hj
    rw [Nat.zero_add, cell_of_heap M1.out, ← hv, List.map_take, List.getElem?_take_of_lt (by omega)]
  go_wp2_with (first
    | (refine wpList_ld rfl 65 (.tmp 15) rfl (run_loadAt_mid _ q 0 65 (one.map bv) _ RO.out arr32K rfl (i32K' one HOL.out)) ?_))
  refine (NA.out W2).mono ?_
  rintro e w3 ⟨g, hg, rfl, hP, hb3⟩
  have ST3 := Lib.hid hP
  have HG : Hid (w.heap.size + 2 < g) := Nat.lt_of_lt_of_le (lt_of_heap GN2.out) hg
  have GB3 : Hid (Below w.heap.size w w3) := GB2.out.step hb3
  have GN3 := Lib.hid ((hb3.block _ (lt_of_heap GN2.out)).trans GN2.out)
  have HGE : Hid (w.heap.size ≤ g) := by have := HG.out; show _ ≤ _; omega
  clear hP hg hb3 GB2 GN2 RO M1 ar1 ar2 NA HXL HOE
  go_wp2_with fail
  refine (WW3.out g [] A3 w3 (HA3.out g HGE.out) (HS3.out.below GB3.out) ST3.out).mono ?_
  rintro e w4 ⟨⟨v4, rfl⟩, hP, hgr⟩
  have ST4 := Lib.hid hP
  have GB4 : Hid (Below w.heap.size w w4) := GB3.out.trans (grown_below hgr HGE.out GB3.out.size)
  have GN4 := Lib.hid ((hgr.block _ (lt_of_heap GN3.out) (by have := HG.out; simp; omega)).trans GN3.out)
  clear hP hgr GB3 GN3 ST3
  go_wp2_with fail
  refine (WW4.out g _ A4 w4 (HA4.out g HGE.out) (HS4.out.below GB4.out) ST4.out).mono ?_
  rintro e w5 ⟨⟨v5, rfl⟩, hP, hgr⟩
  have ST5 := Lib.hid hP
  have GB5 : Hid (Below w.heap.size w w5) := GB4.out.trans (grown_below hgr HGE.out GB4.out.size)
  have GN5 := Lib.hid ((hgr.block _ (lt_of_heap GN4.out) (by have := HG.out; simp; omega)).trans GN4.out)
  clear hP hgr GB4 GN4 ST4
  go_wp2_with fail
  refine (PL3.out w5).mono ?_
  rintro e w6 ⟨q6, hq, rfl, hk, hb⟩
  have S6 := Lib.hid (sl_row LL3.out (by omega) hk)
  have A6 : Hid (0 < 8 → ApartG (some ⟨q6, 0, none⟩) g) := fun _ a ha => by
    injection ha with ha; rw [← ha]; have := ST5.out.lt'; show q6 ≠ g; omega
  have ST6 := Lib.hid (ST5.out.ext hb)
  have GB6 : Hid (Below w.heap.size w w6) := GB5.out.step hb
  have GN6 := Lib.hid ((hb.block _ (lt_of_heap GN5.out)).trans GN5.out)
  clear hq hk hb ST5 GB5 GN5
  go_wp2_with fail
  refine (WL3.out g _ (some ⟨q6, 0, none⟩) w6 A6.out S6.out ST6.out).mono ?_
  rintro e w7 ⟨⟨v7, rfl⟩, hP, hgr⟩
  have ST7 := Lib.hid hP
  have GB7 : Hid (Below w.heap.size w w7) := GB6.out.trans (grown_below hgr HGE.out GB6.out.size)
  have GN7 := Lib.hid ((hgr.block _ (lt_of_heap GN6.out) (by have := HG.out; simp; omega)).trans GN6.out)
  clear hP hgr GB6 GN6 ST6 S6 A6
  go_wp2_with fail
  refine (PL4.out w7).mono ?_
  rintro e w8 ⟨q8, hq, rfl, hk, hb⟩
  have S8 := Lib.hid (sl_row LL4.out (by omega) hk)
  have A8 : Hid (0 < 8 → ApartG (some ⟨q8, 0, none⟩) g) := fun _ a ha => by
    injection ha with ha; rw [← ha]; have := ST7.out.lt'; show q8 ≠ g; omega
  have ST8 := Lib.hid (ST7.out.ext hb)
  have GB8 : Hid (Below w.heap.size w w8) := GB7.out.step hb
  have GN8 := Lib.hid ((hb.block _ (lt_of_heap GN7.out)).trans GN7.out)
  clear hq hk hb ST7 GB7 GN7
  go_wp2_with fail
  refine (WL4.out g _ (some ⟨q8, 0, none⟩) w8 A8.out S8.out ST8.out).mono ?_
  rintro e w9 ⟨⟨v9, rfl⟩, hP, hgr⟩
  have ST9 := Lib.hid hP
  have GB9 : Hid (Below w.heap.size w w9) := GB8.out.trans (grown_below hgr HGE.out GB8.out.size)
  have GN9 := Lib.hid ((hgr.block _ (lt_of_heap GN8.out) (by have := HG.out; simp; omega)).trans GN8.out)
  clear hP hgr GB8 GN8 ST8 S8 A8
  go_wp2_with fail
  have ST9' := ST9.out
  rw [HM.out] at ST9'
  refine (SA.out g _ w9 ST9').mono ?_
  rw [HTE.out]
  rintro e w10 ⟨rfl, hb⟩
  have B10 : Hid (Below w.heap.size w w10) := GB9.out.step hb
  have N10 := Lib.hid ((hb.block _ (lt_of_heap GN9.out)).trans GN9.out)
  clear hb GB9 GN9 ST9 ST9'
  go_wp2_with (first
    | (refine wpList_st rfl 64 (.tmp 8) (.tmp 37) rfl (store_arr (cs := Q.map bv) (i16p Q LP.out) (bv_one _) N10.out (by rw [List.length_map, LP.out]; exact hlz.out)) ?_))
  have hres := setRow_heap w10 (w.heap.size + 2) _ (Q.map bv).toArray 64 _ N10.out
  exact bodyPost_ret (results_cell_row (P := Tryz.prog) rfl _ _ (w.heap.size + 2) 64 (Q.map bv).toArray (0, 0) _ rfl hres arr16P rfl (by rw [List.size_toArray]; exact i16p Q LP.out)) rfl ⟨rfl, B10.out.trans (grown_below (grown_setRow _ _ _) (by omega) B10.out.size)⟩
end Go.Proofs.YtimgggpojbpfkaaGreatDoor

/- Own rows of bytes, opened, and turned at one place. -/
namespace Go.Proofs.YtimgggpojbpfkaaGreatDoor
open Go.RowKit
set_option maxRecDepth 100000
set_option linter.unusedVariables false
set_option linter.unusedSimpArgs false
theorem o_sl_set {w : World} {g c k : Nat} {bs : List UInt8} {cur : Array Value} {t : TypeId} {fr : Nat × Nat} {x : UInt8} (h : Sl w (some ⟨g, 0, none⟩) c bs) (hc : w.heap[g]? = some (.cells cur t fr)) (hk : k < bs.length) :
    Sl (w.setCell ⟨g, k, none⟩ (.int .u8 (x.toNat : Int))) (some ⟨g, 0, none⟩) c (bs.set k x) := by
  obtain ⟨h1, h2, h3⟩ := h
  obtain ⟨b, o, he, hb, hcell⟩ := h3.at_ (by simpa using (by omega : 0 < bs.length))
  injection he with he
  injection he with he1 he2
  subst he1; subst he2
  refine ⟨by simpa using h1, h2, .inr ⟨g, 0, rfl, by simpa using hb, fun j u hu => ?_⟩⟩
  rw [List.getElem?_map, List.getElem?_set] at hu
  by_cases hj : k = j
  · subst hj
    simp [hk] at hu
    have hck := hcell k (bv bs[k]) (by simp [hk])
    rw [Nat.zero_add] at hck ⊢
    have hsz : k < cur.size := by
      simp only [World.cell?, hc] at hck
      rcases Nat.lt_or_ge k cur.size with h | h
      · exact h
      · simp [Array.getElem?_eq_none h] at hck
    simp [World.cell?, World.setCell, Array.getElem?_modify, hc, hsz, ← hu, bv]
  · rw [if_neg hj, ← List.getElem?_map] at hu
    rw [World.cell?_setCell_other _ _ _ _ (fun e => hj (by injection e with e1 e2; omega))]
    exact hcell j u hu
theorem o_open {w : World} {base : Nat} {v : Value} {n : Nat} {bs : List UInt8} (h : w.ownsRow base 5 1 v n (bs.map bv)) (hn : 0 < n) :
    ∃ g cap cur, v = .slice (some ⟨g, 0, none⟩) n cap ∧ base ≤ g ∧ w.heap[g]? = some (.cells cur 5 (0, 0)) ∧ Sl w (some ⟨g, 0, none⟩) cap bs ∧ bs.length = n := by
  obtain ⟨h0, ⟨rfl, h00⟩ | ⟨g, cap, cur, rfl, hg, hcur, hnc, hcm, hcs, htk⟩⟩ := h
  · omega
  rw [Nat.mul_one] at htk
  rw [List.length_map, Nat.mul_one] at h0
  refine ⟨g, cap, cur, rfl, hg, hcur, ⟨by omega, hcm, .inr ⟨g, 0, rfl, lt_of_heap hcur, fun j u hu => ?_⟩⟩, h0⟩
  have hj : j < n := by have h1 := (List.getElem?_eq_some_iff.1 hu).1; rw [List.length_map] at h1; omega
  rw [← htk, List.getElem?_take_of_lt hj] at hu
  rw [Nat.zero_add]
  simpa [World.cell?, hcur] using hu
theorem o_sl_cell {w : World} {g c k : Nat} {b : List UInt8} (h : Sl w (some ⟨g, 0, none⟩) c b) (hk : k < b.length) : w.cell? ⟨g, k, none⟩ = some (.int .u8 ((b.getD k 0).toNat : Int)) := by
  obtain ⟨b1, o1, he, _, hc⟩ := h.2.2.at_ (by rw [List.length_map]; omega)
  injection he with he
  injection he with he1 he2
  subst he1; subst he2
  have := hc k (bv b[k]) (by simp [hk])
  rw [Nat.zero_add] at this
  rw [this]; simp [List.getD, hk, bv]
theorem o_load_slice {P : Program} {ty e : TypeId} (hu : P.underlying ty = some (.slice e)) {W : World} {a : Addr} {v : Value} (h : W.cell? a = some v) :
    (Instr.loadAt ty (.pointer (some a))).run P W = .ok v W := by
  simp [Instr.loadAt, Instr.sureAddr, loadVar, isAgg, run_underlying hu, h]
theorem o_open' {w : World} {base : Nat} {v : Value} {n : Nat} {bs : List UInt8} (h : w.ownsRow base 5 1 v n (bs.map bv)) (hn : 0 < n) :
    ∃ g cap cur, v = .slice (some ⟨g, 0, none⟩) n cap ∧ base ≤ g ∧ w.heap[g]? = some (.cells cur 5 (0, 0)) ∧ Sl w (some ⟨g, 0, none⟩) cap bs ∧ n ≤ cap ∧ cur.size = cap ∧ bs.length = n := by
  obtain ⟨h0, ⟨rfl, h00⟩ | ⟨g, cap, cur, rfl, hg, hcur, hnc, hcm, hcs, htk⟩⟩ := h
  · omega
  rw [Nat.mul_one] at htk
  rw [List.length_map, Nat.mul_one] at h0
  refine ⟨g, cap, cur, rfl, hg, hcur, ⟨by omega, hcm, .inr ⟨g, 0, rfl, lt_of_heap hcur, fun j u hu => ?_⟩⟩, hnc, by simpa using hcs, h0⟩
  have hj : j < n := by have h1 := (List.getElem?_eq_some_iff.1 hu).1; rw [List.length_map] at h1; omega
  rw [← htk, List.getElem?_take_of_lt hj] at hu
  rw [Nat.zero_add]
  simpa [World.cell?, hcur] using hu
end Go.Proofs.YtimgggpojbpfkaaGreatDoor

/- aead: what Seal and Open hand to both. -/
namespace Go.Proofs.YtimgggpojbpfkaaGreatDoor
open Go.RowKit
set_option linter.unusedVariables false
set_option linter.unusedSimpArgs false
set_option maxRecDepth 100000
/-- bytes, sealed -/
def sealE (key nonce aad b : List UInt8) : List UInt8 := cryptC key nonce 1#32 b ++ tagL key nonce aad (cryptC key nonce 1#32 b)
theorem sealE_len (key nonce aad b : List UInt8) : (sealE key nonce aad b).length = b.length + 16 := by rw [sealE, List.length_append, cryptC_len, tagL_len]
/-- what a box of a slice holds -/
theorem box_ext {W W' : World} {g : Nat} {v : Value} {t : TypeId} {fr : Nat × Nat} (h : W.heap[g]? = some (.cells #[v] t fr)) (hE : Below W.heap.size W W') : W'.heap[g]? = some (.cells #[v] t fr) := (hE.block _ (lt_of_heap h)).trans h
theorem box_cell {W : World} {g : Nat} {v : Value} {t : TypeId} {fr : Nat × Nat} (h : W.heap[g]? = some (.cells #[v] t fr)) : W.cell? ⟨g, 0, none⟩ = some v := by rw [cell_of_heap (cs := [v]) h]; rfl
theorem ge_ownE {a g : Nat} (h : a ≤ g) {n c : Nat} : ∀ k, (Value.slice (some ⟨g, 0, none⟩) n c).ownBlock = some k → a ≤ k := by
  intro k hk
  simp [Value.ownBlock] at hk
  omega
set_option maxHeartbeats 4000000 in
theorem seal1_any (key nonce : List UInt8) (g2 g3 : Nat) (A3 A4 : Option Addr) (k3 c3 k4 c4 : Nat) (aad x : List UInt8) (w : World) (hk : key.length = 32) (hn : nonce.length = 12) (h3 : aad.length = k3) (h4 : x.length = k4) (h31 : k3 ≤ 100000) (h41 : k4 ≤ 100000)
    (S3 : Sl w A3 c3 aad) (S4 : Sl w A4 c4 x) (H2 : w.heap[g2]? = some (.cells #[.slice A4 k4 c4] 22 (0, 0))) (H3 : w.heap[g3]? = some (.cells #[.slice A3 k3 c3] 22 (0, 0))) :
    Calls Tryz.prog 51 #[.agg (key.map bv).toArray, .agg (nonce.map bv).toArray, .pointer (some ⟨g2, 0, none⟩), .pointer (some ⟨g3, 0, none⟩)] w fun e w' =>
      ∃ v, e = .returned (.tuple #[v, .int .i64 0]) ∧ w'.ownsRow w.heap.size 5 1 v (k4 + 16) ((sealE key nonce aad x).map bv) ∧ Below w.heap.size w w' := by
  have hz : ∀ W, (zeroValue 64).run Tryz.prog W = .ok (.agg zer16.toArray) W := fun W => by kernel_rfl
  have hlz : Hid (zer16.length = 16) := rfl
  have HK := Lib.hid hk; have HN := Lib.hid hn; have HS3 := Lib.hid S3; have HS4 := Lib.hid S4; have HH2 := Lib.hid H2; have HH3 := Lib.hid H3
  have CR : Hid (∀ W, Sl W A4 c4 x → Calls Tryz.prog 52 #[.agg (key.map bv).toArray, .agg (nonce.map bv).toArray, .int .u32 1, .slice A4 k4 c4] W (NewRow W k4 (cryptC key nonce 1#32 x))) := fun W hS => crypt_any key nonce 1#32 A4 k4 c4 x W hk hn h4 h41 hS
  have HCL : Hid ((cryptC key nonce 1#32 x).length = k4) := by show _ = _; rw [cryptC_len]; exact h4
  have TA := Lib.hid (fun A W hS3 hS => atag_any key nonce A3 A k3 c3 k4 k4 aad (cryptC key nonce 1#32 x) W hk hn h3 HCL.out (by omega) (by omega) hS3 hS)
  have HSE : Hid (cryptC key nonce 1#32 x ++ tagL key nonce aad (cryptC key nonce 1#32 x) = sealE key nonce aad x) := rfl
  have HTL := Lib.hid (tagL_len key nonce aad (cryptC key nonce 1#32 x))
  generalize tagL key nonce aad (cryptC key nonce 1#32 x) = T at TA HSE HTL
  generalize cryptC key nonce 1#32 x = C at CR HCL TA HSE
  generalize sealE key nonce aad x = R at HSE ⊢
  generalize zer16 = Z at hz hlz
  have G := Lib.hid (heap2c w (.cells (key.map bv).toArray 65) (.cells (nonce.map bv).toArray 74))
  have q4 : (k4 : Int) + 16 ≤ 2147483647 := by omega
  clear hk hn h3 h4 S3 S4 H2 H3 h31
  go_enter Tryz.func51, Tryz.ntmps51
  go_upto_region 1 with (fail)
  generalize hV : (w.alloc _).alloc _ = W0 at G ⊢
  clear hV
  have B0 : Hid (Below w.heap.size w W0) := G.out.2.2
  have K0 := Lib.hid G.out.1
  have N0 := Lib.hid G.out.2.1
  clear G
  have c2 := box_cell (box_ext HH2.out B0.out)
  go_upto_region 2 with (first
    | (refine wpList_ld rfl 65 (.tmp 4) rfl (load_arr arr32K rfl (i32K' key HK.out) K0.out) ?_)
    | (refine wpList_ld rfl 74 (.tmp 5) rfl (load_arr arr12B rfl (i12B' nonce HN.out) N0.out) ?_))
  refine (CR.out W0 (HS4.out.below B0.out)).mono ?_
  rintro e w1 ⟨g, hg, rfl, hk1, hb1⟩
  have B1 : Hid (Below w.heap.size w w1) := B0.out.step hb1
  have K1 := Lib.hid ((hb1.block _ (lt_of_heap K0.out)).trans K0.out)
  have N1 := Lib.hid ((hb1.block _ (lt_of_heap N0.out)).trans N0.out)
  have C1 := Lib.hid hk1
  have HG : Hid (w.heap.size ≤ g) := Nat.le_trans B0.out.size hg
  clear hg hk1 hb1 B0 K0 N0 c2 CR
  have c3' := box_cell (box_ext HH3.out B1.out)
  go_wp2_with (first
    | (refine wpList_ld rfl 65 (.tmp 4) rfl (load_arr arr32K rfl (i32K' key HK.out) K1.out) ?_)
    | (refine wpList_ld rfl 74 (.tmp 5) rfl (load_arr arr12B rfl (i12B' nonce HN.out) N1.out) ?_))
  refine (TA.out (some ⟨g, 0, none⟩) w1 (HS3.out.below B1.out) (sl_row HCL.out (by omega) C1.out)).mono ?_
  rintro e w2 ⟨rfl, hb2⟩
  have B2 : Hid (Below w.heap.size w w2) := B1.out.step hb2
  have C2 := Lib.hid ((hb2.block _ (lt_of_heap C1.out)).trans C1.out)
  clear hb2 B1 K1 N1 C1 c3' TA
  have ar := arr_all arr16P s8 ⟨w2.heap.size, 0, none⟩
  go_wp2_with (first
    | (refine wpList_st rfl 64 (.tmp 9) (.tmp 18) rfl (store_arr (cs := T.map bv) (i16p T HTL.out) (bv_one _) (heap_alloc_new' w2 _) (by rw [List.length_map, HTL.out]; exact hlz.out)) ?_
       generalize hV : World.setRow _ _ _ = W3
       have M3 := Lib.hid (heap_of_setRow hV (heap_alloc_new' w2 _))
       have MB := Lib.hid (((Below.refl w2.heap.size w2).alloc (Nat.le_refl _) _).trans (below_of_setRow hV (Nat.le_refl w2.heap.size) (by simp)))
       clear hV)
    | (at_builtin
       refine wpList_app8 rfl (.tmp 19) (.tmp 20) rfl w.heap.size _ k4 C rfl ?_ (some ⟨w2.heap.size, 0, none⟩) 16 16 W3.heap.size T rfl ?_ ?_ ?_ ?_ ?_
       · exact own_heap ((MB.out.block _ (lt_of_heap C2.out)).trans C2.out) HG.out HCL.out (by unfold maxLen; omega)
       · exact (sl_row HTL.out (by omega) M3.out).2.2
       · exact HTL.out
       · omega
       · exact (B2.out.step MB.out).size
       rintro v4 w4 hown hgr
       have HO4 := Lib.hid hown
       have B4 : Hid (Below w.heap.size w w4) := (B2.out.step MB.out).grown hgr (B2.out.step MB.out).size (ge_ownE HG.out)
       clear hown hgr)
    | fail)
  go_ret2
  exact ⟨_, rfl, by rw [← HSE.out]; exact HO4.out, B4.out⟩
end Go.Proofs.YtimgggpojbpfkaaGreatDoor

/- aead: Open's own function; Seal and Open. -/
namespace Go.Proofs.YtimgggpojbpfkaaGreatDoor
open Go.RowKit
set_option linter.unusedVariables false
set_option linter.unusedSimpArgs false
set_option maxRecDepth 100000
theorem own_monoE {w : World} {base b' : Nat} {e : TypeId} {s : Nat} {v : Value} {n : Nat} {xs : List Value} (h : w.ownsRow base e s v n xs) (hb : b' ≤ base) : w.ownsRow b' e s v n xs := by
  obtain ⟨h0, h | ⟨g, cap, cur, hv, hg, r⟩⟩ := h
  · exact ⟨h0, .inl h⟩
  · exact ⟨h0, .inr ⟨g, cap, cur, hv, Nat.le_trans hb hg, r⟩⟩
/-- what opening comes to -/
def OpenE (w : World) (key nonce aad b : List UInt8) (m : Nat) (v : Value) (x : Int) (w' : World) : Prop :=
  if tagL key nonce aad (b.take m) = b.drop m then x = 0 ∧ w'.ownsRow w.heap.size 5 1 v m ((cryptC key nonce 1#32 (b.take m)).map bv) else v = .slice none 0 0 ∧ x = 7
set_option maxHeartbeats 4000000 in
theorem open1_short (key nonce : List UInt8) (g2 g3 : Nat) (A4 : Option Addr) (k4 c4 : Nat) (w : World) (h41 : k4 < 16)
    (H2 : w.heap[g2]? = some (.cells #[.slice A4 k4 c4] 22 (0, 0))) :
    Calls Tryz.prog 54 #[.agg (key.map bv).toArray, .agg (nonce.map bv).toArray, .pointer (some ⟨g2, 0, none⟩), .pointer (some ⟨g3, 0, none⟩)] w fun e w' =>
      e = .returned (.tuple #[.slice none 0 0, .int .i64 17]) ∧ Below w.heap.size w w' := by
  have HH2 := Lib.hid H2
  have G := Lib.hid (heap2c w (.cells (key.map bv).toArray 65) (.cells (nonce.map bv).toArray 74))
  have u1 : (k4 : Int) - 16 < 0 := by omega
  clear H2
  go_enter Tryz.func54, Tryz.ntmps54
  go_upto_region 1 with (fail)
  generalize hV : (w.alloc _).alloc _ = W0 at G ⊢
  clear hV
  have B0 : Hid (Below w.heap.size w W0) := G.out.2.2
  clear G
  have c2 := box_cell (box_ext HH2.out B0.out)
  go_wp2_with fail
  go_ret2
  exact ⟨rfl, B0.out⟩
set_option maxHeartbeats 8000000 in
theorem open1_any (key nonce : List UInt8) (g2 g3 : Nat) (A3 A4 : Option Addr) (k3 c3 k4 c4 m : Nat) (aad x : List UInt8) (w : World) (hk : key.length = 32) (hn : nonce.length = 12) (h3 : aad.length = k3) (h4 : x.length = k4) (h31 : k3 ≤ 100000) (h41 : k4 ≤ 100000) (hm : k4 = m + 16)
    (S3 : Sl w A3 c3 aad) (S4 : Sl w A4 c4 x) (H2 : w.heap[g2]? = some (.cells #[.slice A4 k4 c4] 22 (0, 0))) (H3 : w.heap[g3]? = some (.cells #[.slice A3 k3 c3] 22 (0, 0))) :
    Calls Tryz.prog 54 #[.agg (key.map bv).toArray, .agg (nonce.map bv).toArray, .pointer (some ⟨g2, 0, none⟩), .pointer (some ⟨g3, 0, none⟩)] w fun e w' =>
      ∃ v y, e = .returned (.tuple #[v, .int .i64 y]) ∧ Below w.heap.size w w' ∧ OpenE w key nonce aad x m v y w' := by
  have hz : ∀ W, (zeroValue 64).run Tryz.prog W = .ok (.agg zer16.toArray) W := fun W => by kernel_rfl
  have hlz : Hid (zer16.length = 16) := rfl
  have HK := Lib.hid hk; have HN := Lib.hid hn; have HS3 := Lib.hid S3; have HS4 := Lib.hid S4; have HH2 := Lib.hid H2; have HH3 := Lib.hid H3
  have htl : (x.take m).length = m := by rw [List.length_take, h4]; omega
  have hdl : (x.drop m).length = 16 := by rw [List.length_drop, h4]; omega
  have HDL := Lib.hid hdl
  have ST := Lib.hid (sl_take' (q := m) S4)
  have SD := Lib.hid (sl_cut (k := m) S4 (by omega))
  have CR : Hid (∀ W, Sl W A4 c4 (x.take m) → Calls Tryz.prog 52 #[.agg (key.map bv).toArray, .agg (nonce.map bv).toArray, .int .u32 1, .slice A4 m c4] W (NewRow W m (cryptC key nonce 1#32 (x.take m)))) := fun W hS => crypt_any key nonce 1#32 A4 m c4 (x.take m) W hk hn htl (by omega) hS
  have HCL : Hid ((cryptC key nonce 1#32 (x.take m)).length = m) := by show _ = _; rw [cryptC_len]; exact htl
  have TA := Lib.hid (fun W hS3 hS => atag_any key nonce A3 A4 k3 c3 m c4 aad (x.take m) W hk hn h3 htl (by omega) (by omega) hS3 hS)
  have HTL := Lib.hid (tagL_len key nonce aad (x.take m))
  have EQ := Lib.hid (fun A W hS hS' => equal_n A (cutS A4 c4 m) 16 16 16 (c4 - m) (tagL key nonce aad (x.take m)) (x.drop m) W HTL.out hdl hS hS' (by omega) (by omega))
  unfold OpenE
  generalize tagL key nonce aad (x.take m) = T at TA HTL EQ ⊢
  generalize cryptC key nonce 1#32 (x.take m) = C at CR HCL ⊢
  generalize x.take m = X1 at ST TA CR
  generalize x.drop m = X2 at SD EQ HDL ⊢
  generalize zer16 = Z at hz hlz
  have sl1 := cut_to uT s8 A4 k4 c4 .i64 (m : Int) (by omega) (by have := S4.1; omega)
  have sl2 := cut_from uT s8 A4 k4 c4 .i64 (m : Int) (by omega) (by omega)
  rw [Int.toNat_natCast] at sl1 sl2
  rw [show k4 - m = 16 by omega] at sl2
  have u1 : (k4 : Int) - 16 = (m : Int) := by omega
  have hmc : m ≤ c4 := by have := S4.1; omega
  have hmk : m ≤ k4 := by omega
  have G := Lib.hid (heap2c w (.cells (key.map bv).toArray 65) (.cells (nonce.map bv).toArray 74))
  have hkm : k4 ≤ 100000 ∧ m ≤ 100000 := by omega
  clear hk hn h3 h4 S3 S4 H2 H3 h31 htl hdl hm
  go_enter Tryz.func54, Tryz.ntmps54
  go_upto_region 1 with (fail)
  generalize hV : (w.alloc _).alloc _ = W0 at G ⊢
  clear hV
  have B0 : Hid (Below w.heap.size w W0) := G.out.2.2
  have K0 := Lib.hid G.out.1
  have N0 := Lib.hid G.out.2.1
  clear G
  have c2 := box_cell (box_ext HH2.out B0.out)
  go_upto_region 4 with (fail)
  clear c2
  have BX : Hid (Below w.heap.size w W0.drew) := B0.out.drew
  have HX : Hid (Below W0.heap.size W0.drew W0.drew) := Below.refl _ _
  have K0 : Hid (W0.drew.heap[w.heap.size]? = _) := K0.out
  have N0 : Hid (W0.drew.heap[w.heap.size + 1]? = _) := N0.out
  have hsz : Hid (W0.drew.heap.size = W0.heap.size) := rfl
  have LK : w.heap.size < W0.heap.size := lt_of_heap K0.out
  have LN : w.heap.size + 1 < W0.heap.size := lt_of_heap N0.out
  refine regB_start (W0.heap.size) (by kernel_rfl) ?_
  try simp only [Act.put, List.setIfInBounds_toArray, List.set_cons_zero, List.set_cons_succ]
  generalize W0.drew = WD at HX BX K0 N0 hsz ⊢
  refine regB_load 0 (some 15) (fun W hW => load_arr arr32K rfl (i32K' key HK.out) ((hW.block _ LK).trans K0.out)) rfl rfl rfl rfl (by kernel_rfl) (by kernel_rfl) (by kernel_rfl) (fun _ _ _ h => h) (by rfl) ?_
  simp only [Act.put, List.setIfInBounds_toArray, List.set_cons_zero, List.set_cons_succ]
  refine regB_load 1 (some 16) (fun W hW => load_arr arr12B rfl (i12B' nonce HN.out) ((hW.block _ LN).trans N0.out)) rfl rfl rfl rfl (by kernel_rfl) (by kernel_rfl) (by kernel_rfl) (fun _ _ _ h => h) (by rfl) ?_
  simp only [Act.put, List.setIfInBounds_toArray, List.set_cons_zero, List.set_cons_succ]
  refine regB_load 2 (some 17) (fun W hW => o_load_slice uT (box_cell (box_ext HH3.out (BX.out.trans (hW.mono B0.out.size))))) rfl rfl rfl rfl (by kernel_rfl) (by kernel_rfl) (by kernel_rfl) (fun _ _ _ h => h) (by rfl) ?_
  simp only [Act.put, List.setIfInBounds_toArray, List.set_cons_zero, List.set_cons_succ]
  refine regB_load 3 (some 18) (fun W hW => o_load_slice uT (box_cell (box_ext HH2.out (BX.out.trans (hW.mono B0.out.size))))) rfl rfl rfl rfl (by kernel_rfl) (by kernel_rfl) (by kernel_rfl) (fun _ _ _ h => h) (by rfl) ?_
  simp only [Act.put, List.setIfInBounds_toArray, List.set_cons_zero, List.set_cons_succ]
  refine regB_take (v := ?_) 4 (some 19) rfl rfl (by kernel_rfl) (by kernel_rfl) (by kernel_rfl) (fun _ _ _ h => h) (by rfl) (fun W hW => ?_) ?_
  rotate_left
  · (go_simp; try rfl)
  simp only [Act.put, List.setIfInBounds_toArray, List.set_cons_zero, List.set_cons_succ]
  refine regB_take (v := ?_) 5 (some 20) rfl rfl (by kernel_rfl) (by kernel_rfl) (by kernel_rfl) (fun _ _ _ h => h) (by rfl) (fun W hW => ?_) ?_
  rotate_left
  · (go_simp; try rfl)
  simp only [Act.put, List.setIfInBounds_toArray, List.set_cons_zero, List.set_cons_succ]
  refine regB_join 6 7 21 9 (fun v1 v2 W => v1 = .agg (T.map bv).toArray ∧ ∃ p, W0.heap.size ≤ p ∧ v2 = .pointer (some ⟨p, 0, none⟩) ∧ W.heap[p]? = some (.cells Z.toArray 64 (0, 0))) rfl rfl (by decide) (by decide) (by kernel_rfl) (by kernel_rfl) (by kernel_rfl) (fun K hK => ?_) (fun K hK => ?_) ?_
  · unfold Does
    go_simp
    refine (TA.out WD (HS3.out.below BX.out) (ST.out.below BX.out)).mono ?_
    rintro e w5 ⟨rfl, hE⟩
    refine hK.out (.agg (T.map bv).toArray) w5 (hE.mono (Nat.le_of_eq hsz.out.symm)) fun K2 hK2 => ?_
    unfold Does
    go_simp
    exact hK2.out (.pointer (some ⟨w5.heap.size, 0, none⟩)) _ ((Below.refl _ w5).alloc (by have := hE.size; have := hsz.out; omega) _) ⟨rfl, _, by have := hE.size; have := hsz.out; omega, rfl, heap_alloc_new' w5 _⟩
  · unfold Does
    go_simp
    have HE1 : Below W0.heap.size WD (WD.alloc (.cells Z.toArray 64)) := (Below.refl _ WD).alloc (Nat.le_of_eq hsz.out.symm) _
    refine hK.out (.pointer (some ⟨WD.heap.size, 0, none⟩)) _ HE1 fun K2 hK2 => ?_
    have BX1 : Below w.heap.size w (WD.alloc (.cells Z.toArray 64)) := BX.out.trans (HE1.mono B0.out.size)
    have HP1 : W0.heap.size ≤ WD.heap.size := Nat.le_of_eq hsz.out.symm
    have HS1 : W0.heap.size ≤ (WD.alloc (.cells Z.toArray 64)).heap.size := by have := hsz.out; simp; omega
    have N1 := heap_alloc_new' WD (.cells Z.toArray 64)
    unfold Does
    go_simp
    generalize WD.alloc (.cells Z.toArray 64) = W1 at HE1 BX1 N1 HS1 hK2 ⊢
    refine (TA.out W1 (HS3.out.below BX1) (ST.out.below BX1)).mono ?_
    rintro e w5 ⟨rfl, hE⟩
    exact hK2.out (.agg (T.map bv).toArray) w5 (hE.mono HS1) ⟨rfl, _, HP1, rfl, (hE.block _ (lt_of_heap N1)).trans N1⟩
  rintro v1 v2 w5 hE ⟨rfl, p, hp, rfl, hN⟩
  have B5 : Hid (Below w.heap.size w w5) := BX.out.trans (hE.mono B0.out.size)
  have P5 := Lib.hid hN
  have K5 := Lib.hid ((hE.block _ LK).trans K0.out)
  have N5 := Lib.hid ((hE.block _ LN).trans N0.out)
  have HP := Lib.hid hp
  have HZ5 : Hid (W0.heap.size ≤ w5.heap.size) := by have := hE.size; have := hsz.out; show _ ≤ _; omega
  clear hE hp hN
  simp only [Act.put, List.setIfInBounds_toArray, List.set_cons_zero, List.set_cons_succ]
  refine regB_eff 8 rfl (by kernel_rfl) (fun K hK => ?_)
  refine step_st1 rfl 64 (.tmp 9) (.tmp 21) rfl (store_arr (cs := T.map bv) (i16p T HTL.out) (bv_one _) P5.out (by rw [List.length_map, HTL.out]; exact hlz.out)) ?_
  generalize hV : World.setRow _ _ _ = W6
  have P6 := Lib.hid (heap_of_setRow hV P5.out)
  have hE6 : Below W0.heap.size w5 W6 := below_of_setRow hV HP.out HZ5.out
  have B6 : Hid (Below w.heap.size w W6) := B5.out.trans (hE6.mono B0.out.size)
  have K6 := Lib.hid ((hE6.block _ LK).trans K5.out)
  have N6 := Lib.hid ((hE6.block _ LN).trans N5.out)
  clear hV
  refine hK.out _ _ hE6 ?_
  clear hK K hE6 P5 B5 HZ5
  simp only [Act.put, List.setIfInBounds_toArray, List.set_cons_zero, List.set_cons_succ]
  refine regB_done (by kernel_rfl) ?_
  clear BX HX hsz
  have ar := arr_all arr16P s8 ⟨p, 0, none⟩
  have HX : Hid (Ext W6 W6.drew) := (Below.refl _ _).drew
  go_upto_region 5 with (fail)
  refine reg_start (by kernel_rfl) ?_
  try simp only [Act.put, List.setIfInBounds_toArray, List.set_cons_zero, List.set_cons_succ]
  refine reg_take (v := ?_) 0 (some 22) rfl rfl (by kernel_rfl) (by kernel_rfl) (by kernel_rfl) (fun _ _ _ h => h) (by rfl) (fun W hW => ?_) ?_
  rotate_left
  · (go_simp; try rfl)
  simp only [Act.put, List.setIfInBounds_toArray, List.set_cons_zero, List.set_cons_succ]
  refine reg_load 1 (some 23) (fun W hW => o_load_slice uT (box_cell (box_ext HH2.out (B6.out.step (HX.out.trans hW))))) rfl rfl rfl rfl (by kernel_rfl) (by kernel_rfl) (by kernel_rfl) (fun _ _ _ h => h) (by rfl) ?_
  simp only [Act.put, List.setIfInBounds_toArray, List.set_cons_zero, List.set_cons_succ]
  refine reg_take (v := ?_) 2 (some 24) rfl rfl (by kernel_rfl) (by kernel_rfl) (by kernel_rfl) (fun _ _ _ h => h) (by rfl) (fun W hW => ?_) ?_
  rotate_left
  · (go_simp; try rfl)
  simp only [Act.put, List.setIfInBounds_toArray, List.set_cons_zero, List.set_cons_succ]
  refine reg_take (v := ?_) 3 (some 25) rfl rfl (by kernel_rfl) (by kernel_rfl) (by kernel_rfl) (fun _ _ _ h => h) (by rfl) (fun W hW => ?_) ?_
  rotate_left
  · (go_simp; try rfl)
  simp only [Act.put, List.setIfInBounds_toArray, List.set_cons_zero, List.set_cons_succ]
  refine reg_eff 4 rfl (by kernel_rfl) (fun K hK => ?_)
  go_simp
  refine (EQ.out _ _ ((sl_row HTL.out (by omega) P6.out).below HX.out) ((SD.out.below B6.out).below HX.out)).mono ?_
  rintro e w7 ⟨rfl, hE⟩
  refine hK.out _ _ hE ?_
  have HX := Lib.hid (Ext.trans HX.out hE)
  clear hE hK K
  try simp only [Act.put, List.setIfInBounds_toArray, List.set_cons_zero, List.set_cons_succ]
  refine reg_take (v := ?_) 5 (some 27) rfl rfl (by kernel_rfl) (by kernel_rfl) (by kernel_rfl) (fun _ _ _ h => h) (by rfl) (fun W hW => ?_) ?_
  rotate_left
  · (go_simp; try rfl)
  simp only [Act.put, List.setIfInBounds_toArray, List.set_cons_zero, List.set_cons_succ]
  refine reg_done (by kernel_rfl) ?_
  have B7 : Hid (Below w.heap.size w w7) := B6.out.step HX.out
  have K7 := Lib.hid ((HX.out.block _ (lt_of_heap K6.out)).trans K6.out)
  have N7 := Lib.hid ((HX.out.block _ (lt_of_heap N6.out)).trans N6.out)
  clear P6 B6 HX ar EQ TA SD
  generalize hbb : decide (T = X2) = bb
  cases bb with
  | false =>
    have hne : ¬ T = X2 := of_decide_eq_false hbb
    have HNE := Lib.hid hne
    clear hbb hne
    go_wp2_with fail
    go_ret2
    exact ⟨_, _, rfl, B7.out, ⟨rfl, rfl⟩⟩
  | true =>
    have HEQ := Lib.hid (of_decide_eq_true hbb)
    clear hbb
    have HX : Hid (Ext w7 w7.drew) := (Below.refl _ _).drew
    go_upto_region 7 with (fail)
    refine reg_start (by kernel_rfl) ?_
    try simp only [Act.put, List.setIfInBounds_toArray, List.set_cons_zero, List.set_cons_succ]
    refine reg_load 0 (some 28) (fun W hW => load_arr arr32K rfl (i32K' key HK.out) (((HX.out.trans hW).block _ (lt_of_heap K7.out)).trans K7.out)) rfl rfl rfl rfl (by kernel_rfl) (by kernel_rfl) (by kernel_rfl) (fun _ _ _ h => h) (by rfl) ?_
    simp only [Act.put, List.setIfInBounds_toArray, List.set_cons_zero, List.set_cons_succ]
    refine reg_load 1 (some 29) (fun W hW => load_arr arr12B rfl (i12B' nonce HN.out) (((HX.out.trans hW).block _ (lt_of_heap N7.out)).trans N7.out)) rfl rfl rfl rfl (by kernel_rfl) (by kernel_rfl) (by kernel_rfl) (fun _ _ _ h => h) (by rfl) ?_
    simp only [Act.put, List.setIfInBounds_toArray, List.set_cons_zero, List.set_cons_succ]
    refine reg_load 2 (some 30) (fun W hW => o_load_slice uT (box_cell (box_ext HH2.out (B7.out.step (HX.out.trans hW))))) rfl rfl rfl rfl (by kernel_rfl) (by kernel_rfl) (by kernel_rfl) (fun _ _ _ h => h) (by rfl) ?_
    simp only [Act.put, List.setIfInBounds_toArray, List.set_cons_zero, List.set_cons_succ]
    refine reg_take (v := ?_) 3 (some 31) rfl rfl (by kernel_rfl) (by kernel_rfl) (by kernel_rfl) (fun _ _ _ h => h) (by rfl) (fun W hW => ?_) ?_
    rotate_left
    · (go_simp; try rfl)
    simp only [Act.put, List.setIfInBounds_toArray, List.set_cons_zero, List.set_cons_succ]
    refine reg_take (v := ?_) 4 (some 32) rfl rfl (by kernel_rfl) (by kernel_rfl) (by kernel_rfl) (fun _ _ _ h => h) (by rfl) (fun W hW => ?_) ?_
    rotate_left
    · (go_simp; try rfl)
    simp only [Act.put, List.setIfInBounds_toArray, List.set_cons_zero, List.set_cons_succ]
    refine reg_eff 5 rfl (by kernel_rfl) (fun K hK => ?_)
    go_simp
    refine (CR.out _ ((ST.out.below B7.out).below HX.out)).mono ?_
    rintro e w8 ⟨g, hg, rfl, hk8, hE⟩
    have C8 := Lib.hid hk8
    have HG := Lib.hid hg
    clear hg hk8
    refine hK.out _ _ hE ?_
    have HX := Lib.hid (Ext.trans HX.out hE)
    clear hE hK K
    try simp only [Act.put, List.setIfInBounds_toArray, List.set_cons_zero, List.set_cons_succ]
    refine reg_take (v := ?_) 6 (some 6) rfl rfl (by kernel_rfl) (by kernel_rfl) (by kernel_rfl) (fun _ _ _ h => h) (by rfl) (fun W hW => ?_) ?_
    rotate_left
    · (go_simp; try rfl)
    simp only [Act.put, List.setIfInBounds_toArray, List.set_cons_zero, List.set_cons_succ]
    refine reg_take (v := ?_) 7 (some 7) rfl rfl (by kernel_rfl) (by kernel_rfl) (by kernel_rfl) (fun _ _ _ h => h) (by rfl) (fun W hW => ?_) ?_
    rotate_left
    · (go_simp; try rfl)
    simp only [Act.put, List.setIfInBounds_toArray, List.set_cons_zero, List.set_cons_succ]
    refine reg_done (by kernel_rfl) ?_
    have B8 : Hid (Below w.heap.size w w8) := B7.out.step HX.out
    go_wp2
    go_ret2
    exact ⟨_, _, rfl, B8.out, ⟨rfl, own_heap C8.out (Nat.le_trans B7.out.size HG.out) HCL.out (by have := hkm.2; unfold maxLen; omega)⟩⟩
theorem callSealE : ∀ args W, (callFunc 51 args).run Tryz.prog W = .ok (.enter 51 args) W := fun _ _ => by kernel_rfl
theorem callOpenE : ∀ args W, (callFunc 54 args).run Tryz.prog W = .ok (.enter 54 args) W := fun _ _ => by kernel_rfl
theorem heap_two (w : World) (o1 o2 : Obj) : ((w.alloc o1).alloc o2).heap[w.heap.size]? = some o1 ∧ ((w.alloc o1).alloc o2).heap[w.heap.size + 1]? = some o2 ∧ Below w.heap.size w ((w.alloc o1).alloc o2) := heap2c w o1 o2
set_option maxHeartbeats 2000000 in
theorem aseal_any (key nonce aad x : List UInt8) (A1 A2 A3 A4 : Option Addr) (c1 c2 k3 c3 k4 c4 : Nat) (w : World) (hk : key.length = 32) (hn : nonce.length = 12) (h3 : aad.length = k3) (h4 : x.length = k4) (h31 : k3 ≤ 100000) (h41 : k4 ≤ 100000)
    (S1 : Sl w A1 c1 key) (S2 : Sl w A2 c2 nonce) (S3 : Sl w A3 c3 aad) (S4 : Sl w A4 c4 x) :
    Calls Tryz.prog 28 #[.slice A1 32 c1, .slice A2 12 c2, .slice A3 k3 c3, .slice A4 k4 c4] w fun e w' =>
      ∃ v, e = .returned (.tuple #[v, .int .i64 0]) ∧ w'.ownsRow w.heap.size 5 1 v (k4 + 16) ((sealE key nonce aad x).map bv) ∧ Below w.heap.size w w' := by
  have G := heap_two w (.cells #[.slice A3 k3 c3] 22) (.cells #[.slice A4 k4 c4] 22)
  have BA : Hid (Calls Tryz.prog 50 #[.slice A1 32 c1, .slice A2 12 c2, .func (.func 51) #[] #[.pointer (some ⟨w.heap.size + 1, 0, none⟩), .pointer (some ⟨w.heap.size, 0, none⟩)]] ((w.alloc (.cells #[.slice A3 k3 c3] 22)).alloc (.cells #[.slice A4 k4 c4] 22)) fun e w' =>
      ∃ v y, e = .returned (.tuple #[v, .int .i64 y]) ∧ Ext ((w.alloc (.cells #[.slice A3 k3 c3] 22)).alloc (.cells #[.slice A4 k4 c4] 22)) w' ∧ (y = 0 ∧ w'.ownsRow w.heap.size 5 1 v (k4 + 16) ((sealE key nonce aad x).map bv))) := by
    generalize (w.alloc _).alloc _ = W0 at G ⊢
    refine aboth_any 51 _ (fun v y w' => y = 0 ∧ w'.ownsRow w.heap.size 5 1 v (k4 + 16) ((sealE key nonce aad x).map bv)) key nonce A1 A2 c1 c2 W0 hk hn (S1.below G.2.2) (S2.below G.2.2) callSealE fun W hW => ?_
    have hb := G.2.2.step hW
    refine (seal1_any key nonce (w.heap.size + 1) w.heap.size A3 A4 k3 c3 k4 c4 aad x W hk hn h3 h4 h31 h41 (S3.below hb) (S4.below hb) (box_ext G.2.1 hW) (box_ext G.1 hW)).mono ?_
    rintro e w' ⟨v, rfl, hO, hB⟩
    exact ⟨v, 0, rfl, hB, rfl, own_monoE hO hb.size⟩
  have GB := Lib.hid G.2.2
  clear G hk hn h3 h4 S1 S2 S3 S4
  generalize sealE key nonce aad x = R at BA ⊢
  go_enter Tryz.func28, Tryz.ntmps28
  go_wp2_with fail
  refine BA.out.mono ?_
  rintro e w' ⟨v, y, rfl, hE, rfl, hO⟩
  have HO := Lib.hid hO
  have HB : Hid (Below w.heap.size w w') := GB.out.step hE
  clear hO hE
  go_wp2
  go_ret2
  exact ⟨_, rfl, HO.out, HB.out⟩
set_option maxHeartbeats 2000000 in
theorem aopen_any (key nonce aad x : List UInt8) (A1 A2 A3 A4 : Option Addr) (c1 c2 k3 c3 k4 c4 m : Nat) (w : World) (hk : key.length = 32) (hn : nonce.length = 12) (h3 : aad.length = k3) (h4 : x.length = k4) (h31 : k3 ≤ 100000) (h41 : k4 ≤ 100000) (hm : k4 = m + 16)
    (S1 : Sl w A1 c1 key) (S2 : Sl w A2 c2 nonce) (S3 : Sl w A3 c3 aad) (S4 : Sl w A4 c4 x) :
    Calls Tryz.prog 29 #[.slice A1 32 c1, .slice A2 12 c2, .slice A3 k3 c3, .slice A4 k4 c4] w fun e w' =>
      ∃ v y, e = .returned (.tuple #[v, .int .i64 y]) ∧ OpenE w key nonce aad x m v y w' ∧ Below w.heap.size w w' := by
  have G := heap_two w (.cells #[.slice A3 k3 c3] 22) (.cells #[.slice A4 k4 c4] 22)
  have BA : Hid (Calls Tryz.prog 50 #[.slice A1 32 c1, .slice A2 12 c2, .func (.func 54) #[] #[.pointer (some ⟨w.heap.size + 1, 0, none⟩), .pointer (some ⟨w.heap.size, 0, none⟩)]] ((w.alloc (.cells #[.slice A3 k3 c3] 22)).alloc (.cells #[.slice A4 k4 c4] 22)) fun e w' =>
      ∃ v y, e = .returned (.tuple #[v, .int .i64 y]) ∧ Ext ((w.alloc (.cells #[.slice A3 k3 c3] 22)).alloc (.cells #[.slice A4 k4 c4] 22)) w' ∧ OpenE w key nonce aad x m v y w') := by
    generalize (w.alloc _).alloc _ = W0 at G ⊢
    refine aboth_any 54 _ (fun v y w' => OpenE w key nonce aad x m v y w') key nonce A1 A2 c1 c2 W0 hk hn (S1.below G.2.2) (S2.below G.2.2) callOpenE fun W hW => ?_
    have hb := G.2.2.step hW
    refine (open1_any key nonce (w.heap.size + 1) w.heap.size A3 A4 k3 c3 k4 c4 m aad x W hk hn h3 h4 h31 h41 hm (S3.below hb) (S4.below hb) (box_ext G.2.1 hW) (box_ext G.1 hW)).mono ?_
    rintro e w' ⟨v, y, rfl, hB, hO⟩
    refine ⟨v, y, rfl, hB, ?_⟩
    unfold OpenE at hO ⊢
    split
    · rename_i h; rw [if_pos h] at hO; exact ⟨hO.1, own_monoE hO.2 hb.size⟩
    · rename_i h; rw [if_neg h] at hO; exact hO
  have GB := Lib.hid G.2.2
  clear G hk hn h3 h4 S1 S2 S3 S4 hm
  generalize OpenE w key nonce aad x m = R at BA ⊢
  go_enter Tryz.func29, Tryz.ntmps29
  go_wp2_with fail
  refine BA.out.mono ?_
  rintro e w' ⟨v, y, rfl, hE, hO⟩
  have HO := Lib.hid hO
  have HB : Hid (Below w.heap.size w w') := GB.out.step hE
  clear hO hE
  go_wp2
  go_ret2
  exact ⟨_, _, rfl, HO.out, HB.out⟩
end Go.Proofs.YtimgggpojbpfkaaGreatDoor

/- Rows of rows of bytes that come in. -/
namespace Go.Proofs.YtimgggpojbpfkaaGreatDoor
open Go.RowKit Go.ChangeShapes Go.WideShapes Go.ChangeAt
set_option maxRecDepth 100000
set_option linter.unusedVariables false
theorem open_bytes_cs {H : Type} {enc : TypeId × Value → H} {W : World} {fuel : Nat} {cs : List Value} {x : DataW H × List MemPlace}
    (hf : DataW.trod enc Tryz.prog W 0 (fun _ => true) true fuel 22 cs = some x) : ∃ A c bs, cs = [.slice A (bs : List UInt8).length c] ∧ Sl W A c bs := by
  rcases open_ints Tryz.underlying22 Tryz.underlying5 (by kernel_rfl) hf with ⟨hcs, _⟩ | ⟨x, l, c, zs, hcs, _, hl, hm, hz, hp, hcell, hwz⟩
  · exact ⟨none, 0, [], hcs, by simp, by simp [maxLen], .inl rfl⟩
  · obtain ⟨bs, rfl⟩ := bytes_of hwz
    have hlen : bs.length = c := by simpa using hz
    refine ⟨_, c, bs.take l, by rw [hcs, List.length_take, Nat.min_eq_left (by omega)], by rw [List.length_take]; omega, hm, ?_⟩
    by_cases h0 : l = 0
    · subst h0; exact .inl (by simp)
    · have hc0 := hcell 0 (by simp; omega)
      obtain ⟨b, o, spot⟩ := x
      have hspot : spot = none := by simpa [Addr.add] using World.cell?_spot hc0
      subst hspot
      refine .inr ⟨b, o, rfl, ?_, fun j u hu => ?_⟩
      · rcases Nat.lt_or_ge b W.heap.size with hlt | hge
        · exact hlt
        · rw [add_none] at hc0
          simp [World.cell?, Array.getElem?_eq_none hge] at hc0
      · rw [List.getElem?_map, List.getElem?_take] at hu
        split at hu
        · rename_i hj
          have hjl : j < bs.length := by omega
          have hc := hcell j (by simpa using hjl)
          rw [add_none] at hc
          rw [hc]
          rw [List.getElem?_eq_getElem hjl] at hu
          simp [hjl, List.getD] at hu ⊢
          exact hu
        · simp at hu
abbrev Part := Option Addr × Nat × List UInt8
def partV (q : Part) : Value := .slice q.1 q.2.2.length q.2.1
/-- what a walk is told of a row of rows of bytes that came in -/
def PartsAt (w : World) (y : Option Addr × Nat × List Part) : Prop :=
  y.2.2.length ≤ y.2.1 ∧ y.2.1 ≤ maxLen ∧ (∀ q ∈ y.2.2, Sl w q.1 q.2.1 q.2.2) ∧ RowAt w w.heap.size y.1 (y.2.2.map partV)
theorem build_parts {α : Type} {P : Nat → α → Prop} (n : Nat) (h : ∀ i, i < n → ∃ q, P i q) : ∃ l : List α, l.length = n ∧ ∀ i q, l[i]? = some q → P i q := by
  induction n with
  | zero => exact ⟨[], rfl, fun i q hq => by simp at hq⟩
  | succ n ih =>
    obtain ⟨l, hl, hP⟩ := ih (fun i hi => h i (by omega))
    obtain ⟨q, hq⟩ := h n (by omega)
    refine ⟨l ++ [q], by simp [hl], fun i r hr => ?_⟩
    by_cases hi : i < n
    · rw [List.getElem?_append_left (by omega)] at hr; exact hP i r hr
    · have hlt := (List.getElem?_eq_some_iff.1 hr).1
      simp at hlt
      have : i = n := by omega
      subst this
      rw [List.getElem?_append_right (by omega), hl, Nat.sub_self] at hr
      simp at hr; rw [← hr]; exact hq
theorem open_____uint8 {H : Type} {enc : TypeId × Value → H} {W : World} {base : Nat} {v : Value} {d : DataW H} {p : List MemPlace}
    (hv : Value.okWide Tryz.prog W .any base 143 v) (h : DataW.Trod enc Tryz.prog W 0 (fun _ => true) true 143 v d p) :
    ∃ y : Option Addr × Nat × List Part, v = .slice y.1 y.2.2.length y.2.1 ∧ PartsAt W y := by
  obtain ⟨a0, len0, cap0, rfl⟩ := okWide_slice Tryz.underlying143 hv
  obtain ⟨fuel, hf⟩ := h
  have hc1 : Tryz.prog.cellsOf 22 = 1 := by kernel_rfl
  rcases DataW.trod_slice Tryz.underlying143 hf with ⟨hcs, _⟩ | ⟨a, len, cap, elems, rest, n, _, hcs, _, _, hl, hm, hlen, hel, _, _⟩
  · simp [Value.cells] at hcs
    obtain ⟨rfl, rfl, rfl⟩ := hcs
    exact ⟨(none, 0, []), rfl, by simp, by simp [maxLen], by simp, .inl rfl⟩
  · simp [Value.cells] at hcs
    obtain ⟨rfl, rfl, rfl⟩ := hcs
    have each : ∀ i, i < len0 → ∃ q : Part, W.cell? (a.add i) = some (partV q) ∧ Sl W q.1 q.2.1 q.2.2 := by
      intro i hi
      have h1 := hel i hi
      rw [List.getElem?_eq_getElem (by omega), hc1, Nat.mul_one, Option.bind_eq_some_iff] at h1
      obtain ⟨cs', hcs, hy'⟩ := h1
      obtain ⟨A, c, bs, rfl, hs⟩ := open_bytes_cs hy'
      exact ⟨(A, c, bs), cell_of_cells?_one hcs, hs⟩
    obtain ⟨ps, hpl, hps⟩ := build_parts len0 each
    refine ⟨(some a, cap0, ps), by simp [hpl], by simp [hpl]; exact hl, hm, ?_, ?_⟩
    · intro q hq
      obtain ⟨i, hi⟩ := List.getElem?_of_mem hq
      exact (hps i q hi).2
    · by_cases h0 : len0 = 0
      · exact .inl (by simp [List.eq_nil_of_length_eq_zero (l := ps) (by omega)])
      · obtain ⟨q0, hc0, _⟩ := each 0 (by omega)
        obtain ⟨b, o, spot⟩ := a
        have hspot : spot = none := by simpa [Addr.add] using World.cell?_spot hc0
        subst hspot
        refine .inr ⟨b, o, rfl, ?_, fun j u hu => ?_⟩
        · rcases Nat.lt_or_ge b W.heap.size with hlt | hge
          · exact hlt
          · rw [add_none] at hc0
            simp [World.cell?, Array.getElem?_eq_none hge] at hc0
        · rw [List.getElem?_map] at hu
          cases hq : ps[j]? with
          | none => simp [hq] at hu
          | some q =>
            simp [hq] at hu
            rw [← hu, ← add_none]
            exact (hps j q hq).1
end Go.Proofs.YtimgggpojbpfkaaGreatDoor

/- A key, a nonce and an aad that come in (layer 11). -/
namespace Go.Proofs.YtimgggpojbpfkaaGreatDoor
open Go.RowKit Go.ChangeShapes Go.WideShapes Go.ChangeAt
set_option maxRecDepth 100000
set_option linter.unusedVariables false
set_option linter.unusedSimpArgs false
structure KeyE where
  (A1 : Option Addr) (c1 : Nat) (k : List UInt8) (A2 : Option Addr) (c2 : Nat) (n : List UInt8) (A3 : Option Addr) (c3 : Nat) (a : List UInt8)
def KeyE.cells (y : KeyE) : List Value := [.slice y.A1 y.k.length y.c1, .slice y.A2 y.n.length y.c2, .slice y.A3 y.a.length y.c3]
def KeyE.ok (y : KeyE) (w : World) : Prop := Sl w y.A1 y.c1 y.k ∧ Sl w y.A2 y.c2 y.n ∧ Sl w y.A3 y.c3 y.a
theorem split111 (L : List Value) (h : L.length = 3) : L = L.take 1 ++ ((L.drop 1).take 1 ++ (L.drop 2).take 1) := by
  match L, h with
  | [a, b, c], _ => rfl
end Go.Proofs.YtimgggpojbpfkaaGreatDoor

/- Layer 11's laws' own functions: short, wrong, awake. -/
namespace Go.Proofs.YtimgggpojbpfkaaGreatDoor
open Go.RowKit
set_option linter.unusedVariables false
set_option linter.unusedSimpArgs false
set_option maxRecDepth 100000
theorem keyE_cells {W : World} {g : Nat} {y : KeyE} {t : TypeId} {fr : Nat × Nat} (h : W.heap[g]? = some (.cells y.cells.toArray t fr)) :
    W.cell? ⟨g, 0, none⟩ = some (.slice y.A1 y.k.length y.c1) ∧ W.cell? ⟨g, 1, none⟩ = some (.slice y.A2 y.n.length y.c2) ∧ W.cell? ⟨g, 2, none⟩ = some (.slice y.A3 y.a.length y.c3) := by
  refine ⟨?_, ?_, ?_⟩ <;> rw [cell_of_heap h] <;> rfl
def shortB (y : KeyE) : Bool := decide (y.k.length ≤ 100) && (decide (y.n.length ≤ 100) && decide (y.a.length ≤ 200))
def wrongB (y : KeyE) : Int := if y.k.length = 32 then (if y.n.length = 12 then 0 else 6) else 5
def az32 : List UInt8 := List.replicate 32 0
def az12 : List UInt8 := List.replicate 12 0
/-- two new rows -/
def Two12 (Z1 Z2 : List UInt8) (v1 v2 : Value) (W : World) : Prop := ∃ p1 p2, v1 = .slice (some ⟨p1, 0, none⟩) 32 32 ∧ v2 = .slice (some ⟨p2, 0, none⟩) 12 12 ∧ W.heap[p1]? = some (.cells (Z1.map bv).toArray 5 (0, 0)) ∧ W.heap[p2]? = some (.cells (Z2.map bv).toArray 5 (0, 0))
theorem heap_keep' {w : World} {g : Nat} {o : Obj} (h : w.heap[g]? = some o) (o' : Obj) : (w.alloc o').heap[g]? = some o := (((Below.refl w.heap.size w).alloc (Nat.le_refl _) o').block _ (lt_of_heap h)).trans h
theorem size_of_below {B : Nat} {w w' : World} (h : Below B w w') (hB : B ≤ w.heap.size) : w.heap.size ≤ w'.heap.size := h.size
theorem sl_none (W : World) : Sl W none 0 [] := ⟨by simp, by simp [maxLen], .inl rfl⟩
/-- what was sealed is opened to what it was -/
theorem openE_seal {w w' : World} {key nonce aad b : List UInt8} {m : Nat} {v : Value} {y : Int} (hm : b.length = m) (h : OpenE w key nonce aad (sealE key nonce aad b) m v y w') :
    y = 0 ∧ w'.ownsRow w.heap.size 5 1 v m (b.map bv) := by
  have hl : (cryptC key nonce 1#32 b).length = m := by rw [cryptC_len]; exact hm
  have e1 : (sealE key nonce aad b).take m = cryptC key nonce 1#32 b := by rw [sealE, List.take_left' hl]
  have e2 : (sealE key nonce aad b).drop m = tagL key nonce aad (cryptC key nonce 1#32 b) := by rw [sealE, List.drop_left' hl]
  unfold OpenE at h
  rw [e1, e2, if_pos rfl, crypt_back] at h
  exact h
end Go.Proofs.YtimgggpojbpfkaaGreatDoor

/- The law file's own awake (layer 12): a tag comes out. -/
namespace Go.Proofs.YtimgggpojbpfkaaGreatDoor
open Go.RowKit Go.Shelf
set_option linter.unusedVariables false
set_option linter.unusedSimpArgs false
set_option maxRecDepth 100000
/-- a region by what each of its values is, as long as it goes on -/
structure FJ (R : Nat → Value → World → Prop) (W0 : World) (vs : Nat → Value) (L : Nat → Bool) (W : World) : Prop where
  fv : ∀ i, L i = true → R i (vs i) W
  b : Below W0.heap.size W0 W
theorem FJ.step {R : Nat → Value → World → Prop} {W0 W W' : World} {vs : Nat → Value} {L : Nat → Bool} (H : FJ R W0 vs L W) (hR : ∀ i v (A B : World), R i v A → Below A.heap.size A B → R i v B)
    (k : Nat) (hb : Below W.heap.size W W') (x : Value) (hx : R k x W') : FJ R W0 (updv vs k x) (fun j => if j = k then true else L j) W' := by
  refine ⟨fun i hi => ?_, H.b.step hb⟩
  unfold updv
  by_cases e : i = k
  · rw [if_pos e, e]; exact hx
  · rw [if_neg e]
    rw [if_neg e] at hi
    exact hR _ _ _ _ (H.fv i hi) hb
theorem size_freeze (W : World) (a : Addr) (n : Nat) : (W.freeze a n).heap.size = W.heap.size := by
  unfold World.freeze
  split <;> simp
theorem cell_freeze (W : World) (a : Addr) (n : Nat) (p : Addr) : (W.freeze a n).cell? p = W.cell? p := by
  unfold World.freeze
  split
  · rfl
  · simp only [World.cell?, Array.getElem?_modify]
    by_cases h : a.block = p.block
    · rw [if_pos h, ← h]
      cases hh : W.heap[a.block]? with
      | none => rfl
      | some o => cases o <;> first | rfl | (rename_i fr; cases fr; rfl)
    · rw [if_neg h]
theorem heap_freeze {W : World} {g : Nat} {C : Array Value} {e : TypeId} {fr : Nat × Nat} (a : Addr) (n : Nat) (h : W.heap[g]? = some (.cells C e fr)) : ∃ fr', (W.freeze a n).heap[g]? = some (.cells C e fr') := by
  unfold World.freeze
  split
  · exact ⟨fr, h⟩
  · simp only [Array.getElem?_modify]
    split
    · rw [h]
      cases fr
      exact ⟨_, rfl⟩
    · exact ⟨fr, h⟩
theorem Sl.freeze {W : World} {A : Option Addr} {c : Nat} {bs : List UInt8} (h : Sl W A c bs) (a : Addr) (n : Nat) : Sl (W.freeze a n) A c bs := by
  obtain ⟨h1, h2, h3⟩ := h
  refine ⟨h1, h2, ?_⟩
  rcases h3 with h3 | ⟨b, o, e, hb, hc⟩
  · exact .inl h3
  · exact .inr ⟨b, o, e, by rw [size_freeze]; exact hb, fun j u hu => (cell_freeze W a n _).trans (hc j u hu)⟩
theorem conv_mark {P : Program} {W : World} {t e : TypeId} {g n c : Nat} {C : Array Value} {fr : Nat × Nat} (ht : P.underlying t = some (.slice e)) (he : P.underlying e = some (.int .u8)) (hg : W.heap[g]? = some (.cells C e fr)) :
    (convert t t (.slice (some ⟨g, 0, none⟩) n c)).run P W = .ok (.slice (some ⟨g, 0, none⟩) n c) (W.freeze ⟨g, C.size, none⟩ 1) := by
  have hsh : W.shape? g = some (e, C.size) := by
    unfold World.shape?
    rw [hg]
  simp [convert, run_underlying ht, run_underlying he, markStringish, hsh]
theorem FJ.step' {R : Nat → Value → World → Prop} {W0 W W' : World} {vs : Nat → Value} {L : Nat → Bool} (H : FJ R W0 vs L W) (hR : ∀ i v, R i v W → R i v W')
    (k : Nat) (hb : Below W0.heap.size W W') (x : Value) (hx : R k x W') : FJ R W0 (updv vs k x) (fun j => if j = k then true else L j) W' := by
  refine ⟨fun i hi => ?_, H.b.trans hb⟩
  unfold updv
  by_cases e : i = k
  · rw [if_pos e, e]; exact hx
  · rw [if_neg e]
    rw [if_neg e] at hi
    exact hR _ _ (H.fv i hi)
def doR6 (v : Value) (y : Int) (_ : World) : Prop := y = 0 ∧ ∃ A c, v = .slice A 17 c
set_option maxHeartbeats 2000000 in
theorem do6_any (g1 g2 g4 : Nat) (w : World) (S1 : Sl w (some ⟨g1, 0, none⟩) 32 az32) (S2 : Sl w (some ⟨g2, 0, none⟩) 12 az12) (S4 : Sl w (some ⟨g4, 0, none⟩) 1 [97]) :
    Calls Tryz.prog 6 #[.agg (parV 6 false (some ⟨g1, 0, none⟩) 32 32 (some ⟨g2, 0, none⟩) 12 12 none 0 0).toArray, .slice (some ⟨g4, 0, none⟩) 1 1] w fun e w' => ∃ A c, e = .returned (.tuple #[.slice A 17 c, .int .i64 0]) ∧ Below w.heap.size w w' := by
  refine (do_any doR6 6 false (some ⟨g1, 0, none⟩) 32 32 (some ⟨g2, 0, none⟩) 12 12 none 0 0 (some ⟨g4, 0, none⟩) 1 1 w (by omega) (by omega) (by omega) (by omega) ?_).mono ?_
  · intro k n0 d W hx h1 h2 hh hk hi ha hr hD hb
    obtain rfl : k = 6 := by omega
    have hD : ByKey n0 W d 28 := hD
    obtain ⟨g, t, hg, rfl, hcell⟩ := hD
    refine ⟨49, #[.pointer (some ⟨g, 0, none⟩)], rfl, enters_of Tryz.func49 (by kernel_rfl) rfl, ?_⟩
    show Calls Tryz.prog 49 #[.agg (parV 6 false (some ⟨g1, 0, none⟩) 32 32 (some ⟨g2, 0, none⟩) 12 12 none 0 0).toArray, .slice (some ⟨g4, 0, none⟩) 1 1, .pointer (some ⟨g, 0, none⟩)] W _
    refine byKey1_any doR6 28 (enters_of Tryz.func28 (by kernel_rfl) rfl) 6 false (some ⟨g1, 0, none⟩) 32 32 (some ⟨g2, 0, none⟩) 12 12 none 0 0 (some ⟨g4, 0, none⟩) 1 1 g t W hcell ?_
    intro W2 hb2
    have b2 := hb.step hb2
    refine (aseal_any az32 az12 [] [97] (some ⟨g1, 0, none⟩) (some ⟨g2, 0, none⟩) none (some ⟨g4, 0, none⟩) 32 12 0 0 1 1 W2 List.length_replicate List.length_replicate rfl rfl (by omega) (by omega) (S1.below b2) (S2.below b2) (sl_none W2) (S4.below b2)).mono ?_
    rintro e W3 ⟨v, rfl, hO, hb3⟩
    obtain ⟨A, c, rfl, _⟩ := own_read hO
    exact ⟨_, _, rfl, ⟨rfl, A, c, rfl⟩, hb3⟩
  · rintro e w' ⟨v, y, rfl, hD, hb⟩
    have h1 : checkR 6 false 32 12 0 = 0 := by decide
    have h2 : (roomR 6 false ((1 : Nat) : Int)).2 = 0 := by decide
    unfold DoR at hD
    rw [if_neg (by rw [h1]; simp), if_neg (by rw [h2]; simp)] at hD
    obtain ⟨rfl, A, c, rfl⟩ := hD
    exact ⟨A, c, rfl, hb⟩
def awR (n0 : Nat) : Nat → Value → World → Prop
  | 0, v, W => ∃ g, v = .slice (some ⟨g, 0, none⟩) 32 32 ∧ Sl W (some ⟨g, 0, none⟩) 32 az32
  | 1, v, W => ∃ g, v = .slice (some ⟨g, 0, none⟩) 12 12 ∧ Sl W (some ⟨g, 0, none⟩) 12 az12
  | 2, v, W => ∃ g1 g2, v = .agg (parV 6 false (some ⟨g1, 0, none⟩) 32 32 (some ⟨g2, 0, none⟩) 12 12 none 0 0).toArray ∧ Sl W (some ⟨g1, 0, none⟩) 32 az32 ∧ Sl W (some ⟨g2, 0, none⟩) 12 az12
  | 3, v, W => ∃ g, v = .slice (some ⟨g, 0, none⟩) 1 1 ∧ Sl W (some ⟨g, 0, none⟩) 1 [97] ∧ n0 ≤ g ∧ ∃ fr, W.heap[g]? = some (.cells #[.int .u8 97] 5 fr)
  | 4, v, W => ∃ g, v = .slice (some ⟨g, 0, none⟩) 1 1 ∧ Sl W (some ⟨g, 0, none⟩) 1 [97]
  | 5, v, _ => ∃ A c, v = .tuple #[.slice A 17 c, .int .i64 0]
  | 6, v, _ => ∃ A c, v = .tuple #[.slice A 17 c, .int .i64 0]
  | 7, v, _ => ∃ A c, v = .slice A 17 c
  | 8, v, _ => v = .int .i64 0
  | 9, v, _ => ∃ A c, v = .slice A 17 c
  | 10, v, _ => v = .int .i64 0
  | _, _, _ => True
theorem awR_ext (n0 : Nat) : ∀ i v (A B : World), awR n0 i v A → Below A.heap.size A B → awR n0 i v B
  | 0, _, _, _, ⟨g, e, s⟩, hb => ⟨g, e, s.below hb⟩
  | 1, _, _, _, ⟨g, e, s⟩, hb => ⟨g, e, s.below hb⟩
  | 2, _, _, _, ⟨g1, g2, e, s1, s2⟩, hb => ⟨g1, g2, e, s1.below hb, s2.below hb⟩
  | 3, _, _, _, ⟨g, e, s, hn, fr, hg⟩, hb => ⟨g, e, s.below hb, hn, fr, (hb.block _ (lt_of_heap hg)).trans hg⟩
  | 4, _, _, _, ⟨g, e, s⟩, hb => ⟨g, e, s.below hb⟩
  | 5, _, _, _, h, _ => h
  | 6, _, _, _, h, _ => h
  | 7, _, _, _, h, _ => h
  | 8, _, _, _, h, _ => h
  | 9, _, _, _, h, _ => h
  | 10, _, _, _, h, _ => h
  | _ + 11, _, _, _, _, _ => trivial
theorem awR_freeze (n0 : Nat) (a : Addr) (n : Nat) (A : World) : ∀ i v, awR n0 i v A → awR n0 i v (A.freeze a n)
  | 0, _, ⟨g, e, s⟩ => ⟨g, e, s.freeze a n⟩
  | 1, _, ⟨g, e, s⟩ => ⟨g, e, s.freeze a n⟩
  | 2, _, ⟨g1, g2, e, s1, s2⟩ => ⟨g1, g2, e, s1.freeze a n, s2.freeze a n⟩
  | 3, _, ⟨g, e, s, hn, fr, hg⟩ => ⟨g, e, s.freeze a n, hn, heap_freeze a n hg⟩
  | 4, _, ⟨g, e, s⟩ => ⟨g, e, s.freeze a n⟩
  | 5, _, h => h
  | 6, _, h => h
  | 7, _, h => h
  | 8, _, h => h
  | 9, _, h => h
  | 10, _, h => h
  | _ + 11, _, _ => trivial
theorem bldA (g1 g2 : Nat) (W : World) : (Instr.build 28 #[(0, .int .i64 6), (2, .slice (some ⟨g1, 0, none⟩) 32 32), (3, .slice (some ⟨g2, 0, none⟩) 12 12)]).run Tryz.prog W = .ok (.agg (parV 6 false (some ⟨g1, 0, none⟩) 32 32 (some ⟨g2, 0, none⟩) 12 12 none 0 0).toArray) W := by kernel_rfl
set_option maxHeartbeats 4000000 in
theorem awake12_any (w : World) : Calls Tryz.prog 7 #[] w fun e w' => e = .returned (.bool true) ∧ Below w.heap.size w w' := by
  have hmk1 : ∀ W, (Instr.makeSlice 22 (.int .i64 32) (.int .i64 32)).run Tryz.prog W = .ok (.slice (some ⟨W.heap.size, 0, none⟩) 32 32) (W.alloc (.cells (az32.map bv).toArray 5)) := fun W => by
    rw [az32, List.map_replicate]; exact make_run (P := Tryz.prog) uT made8 rfl .i64 .i64 32 (by omega) (by omega) W
  have hmk2 : ∀ W, (Instr.makeSlice 22 (.int .i64 12) (.int .i64 12)).run Tryz.prog W = .ok (.slice (some ⟨W.heap.size, 0, none⟩) 12 12) (W.alloc (.cells (az12.map bv).toArray 5)) := fun W => by
    rw [az12, List.map_replicate]; exact make_run (P := Tryz.prog) uT made8 rfl .i64 .i64 12 (by omega) (by omega) W
  have RM := Lib.hid (fun W => room_any 5 false 5 W (by omega) (by omega))
  rw [show roomR 5 false 5 = (21, 0) by decide] at RM
  have L1 : Hid (az32.length = 32) := List.length_replicate
  have L2 : Hid (az12.length = 12) := List.length_replicate
  go_enter Tryz.func7, Tryz.ntmps7
  go_wp2_with fail
  refine (RM.out w).mono ?_
  rintro e w1 ⟨rfl, hb⟩
  have B1 := Lib.hid hb
  clear hb RM
  go_upto_region 2 with (fail)
  refine reg_inv (fun L a W => ∃ vs : Nat → Value, a = { tmps := #[.bool false, .int .i64 21, .int .i64 0, vs 9, vs 10, .tuple #[.int .i64 21, .int .i64 0], .tuple #[.int .i64 21, .int .i64 0], .int .i64 21, .int .i64 0, vs 6, vs 0, vs 1, vs 2, vs 3, vs 4, vs 5, vs 7, vs 8, undef, undef, undef, undef, undef, undef, undef, undef, undef, undef, undef, undef, undef, undef, undef], defers := [] } ∧ FJ (awR w1.heap.size) w1 vs L W) (by kernel_rfl) (by kernel_rfl) ?_
    (And.intro ?_ (And.intro ?_ (And.intro ?_ (And.intro ?_ (And.intro ?_ (And.intro ?_ (And.intro ?_ (And.intro ?_ (And.intro ?_ (And.intro ?_ (And.intro ?_ trivial))))))))))) ?_
  · intro L hL
    refine ⟨fun _ => undef, rfl, fun i hi => ?_, (Below.refl _ _).drew⟩
    by_cases h : i < 11
    · rw [hL i h] at hi; cases hi
    · obtain ⟨j, rfl⟩ : ∃ j, i = j + 11 := ⟨i - 11, by omega⟩
      trivial
  · rintro L a W ⟨vs, rfl, H⟩ hLi hd K0 hK
    go_simp
    exact hK.out _ _ ⟨updv vs 0 _, rfl, H.step (awR_ext _) 0 ((Below.refl _ _).alloc (Nat.le_refl _) _) _ ⟨_, rfl, sl_row L1.out (by omega) (heap_alloc_new' W _)⟩⟩
  · rintro L a W ⟨vs, rfl, H⟩ hLi hd K0 hK
    go_simp
    exact hK.out _ _ ⟨updv vs 1 _, rfl, H.step (awR_ext _) 1 ((Below.refl _ _).alloc (Nat.le_refl _) _) _ ⟨_, rfl, sl_row L2.out (by omega) (heap_alloc_new' W _)⟩⟩
  · rintro L a W ⟨vs, rfl, H⟩ hLi hd K0 hK
    obtain ⟨g1, e1, s1⟩ := H.fv 0 (hd ⟨0, .data⟩ (by simp) rfl)
    obtain ⟨g2, e2, s2⟩ := H.fv 1 (hd ⟨1, .data⟩ (by simp) rfl)
    refine step_valF rfl (exec_bldF rfl (by
      have hb := bldA g1 g2 W
      rw [← e1, ← e2] at hb
      simp only [List.map_toArray, List.map_cons, List.map_nil]; exact hb)) ?_
    exact hK.out _ _ ⟨updv vs 2 _, rfl, H.step (awR_ext _) 2 (Below.refl _ _) _ ⟨g1, g2, rfl, s1, s2⟩⟩
  · rintro L a W ⟨vs, rfl, H⟩ hLi hd K0 hK
    go_simp
    exact hK.out _ _ ⟨updv vs 3 _, rfl, H.step (awR_ext _) 3 ((Below.refl _ _).alloc (Nat.le_refl _) _) _ ⟨_, rfl, sl_row (bs := [97]) rfl (by omega) (heap_alloc_new' W _), H.b.size, _, heap_alloc_new' W _⟩⟩
  · rintro L a W ⟨vs, rfl, H⟩ hLi hd K0 hK
    obtain ⟨g, e3, s3, hn, fr, hg⟩ := H.fv 3 (hd ⟨3, .data⟩ (by simp) rfl)
    have hcv := conv_mark (P := Tryz.prog) (n := 1) (c := 1) uT Tryz.underlying5 hg
    simp only [e3]
    go_simp
    exact hK.out _ _ ⟨updv vs 4 _, by rw [← e3]; rfl, H.step' (awR_freeze _ _ _ W) 4 (Lib.below_freeze (Below.refl _ _) hn _) _ ⟨g, rfl, s3.freeze _ _⟩⟩
  · rintro L a W ⟨vs, rfl, H⟩ hLi hd K0 hK
    obtain ⟨g1, g2, e2, s1, s2⟩ := H.fv 2 (hd ⟨2, .data⟩ (by simp) rfl)
    obtain ⟨g4, e4, s4⟩ := H.fv 4 (hd ⟨4, .data⟩ (by simp) rfl)
    have hc := do6_any g1 g2 g4 W s1 s2 s4
    rw [← e2, ← e4] at hc
    refine step_callF rfl 6 #[.tmp 12, .tmp 14] _ rfl (enters_of Tryz.func6 (by kernel_rfl) rfl) (by simp only [List.map_toArray, List.map_cons, List.map_nil]; rfl) hc ?_
    rintro e W' ⟨A, c, rfl, hb⟩
    exact ⟨_, rfl, hK.out _ _ ⟨updv vs 5 _, rfl, H.step (awR_ext _) 5 hb _ ⟨A, c, rfl⟩⟩⟩
  · rintro L a W ⟨vs, rfl, H⟩ hLi hd K0 hK
    obtain ⟨A, c, e5⟩ := H.fv 5 (hd ⟨5, .data⟩ (by simp) rfl)
    simp only [e5]
    go_simp
    exact hK.out _ _ ⟨updv vs 6 _, by rw [← e5]; rfl, H.step (awR_ext _) 6 (Below.refl _ _) _ ⟨A, c, rfl⟩⟩
  · rintro L a W ⟨vs, rfl, H⟩ hLi hd K0 hK
    obtain ⟨A, c, e6⟩ := H.fv 6 (hd ⟨6, .data⟩ (by simp) rfl)
    simp only [e6]
    go_simp
    exact hK.out _ _ ⟨updv vs 7 (.slice A 17 c), by rw [← e6]; rfl, H.step (awR_ext _) 7 (Below.refl _ _) _ ⟨A, c, rfl⟩⟩
  · rintro L a W ⟨vs, rfl, H⟩ hLi hd K0 hK
    obtain ⟨A, c, e6⟩ := H.fv 6 (hd ⟨6, .data⟩ (by simp) rfl)
    simp only [e6]
    go_simp
    exact hK.out _ _ ⟨updv vs 8 (.int .i64 0), by rw [← e6]; rfl, H.step (awR_ext _) 8 (Below.refl _ _) _ rfl⟩
  · rintro L a W ⟨vs, rfl, H⟩ hLi hd K0 hK
    obtain ⟨A, c, e7⟩ := H.fv 7 (hd ⟨7, .data⟩ (by simp) rfl)
    simp only [e7]
    go_simp
    exact hK.out _ _ ⟨updv vs 9 (.slice A 17 c), by rw [← e7]; rfl, H.step (awR_ext _) 9 (Below.refl _ _) _ ⟨A, c, rfl⟩⟩
  · rintro L a W ⟨vs, rfl, H⟩ hLi hd K0 hK
    have e8 : vs 8 = _ := H.fv 8 (hd ⟨8, .data⟩ (by simp) rfl)
    simp only [e8]
    go_simp
    exact hK.out _ _ ⟨updv vs 10 (.int .i64 0), by rw [← e8]; rfl, H.step (awR_ext _) 10 (Below.refl _ _) _ rfl⟩
  · rintro L a W hL ⟨vs, rfl, H⟩
    obtain ⟨A, c, e9⟩ := H.fv 9 (hL 9)
    have e10 : vs 10 = _ := H.fv 10 (hL 10)
    simp only [e9, e10]
    have B2 : Hid (Below w.heap.size w W) := B1.out.step H.b
    go_wp2
    go_ret
    exact ⟨rfl, B2.out⟩
end Go.Proofs.YtimgggpojbpfkaaGreatDoor

/- algo: what is done by the key, expanded (byAES$1). -/
namespace Go.Proofs.YtimgggpojbpfkaaGreatDoor
open Go.RowKit Go.Shelf
set_option linter.unusedVariables false
set_option linter.unusedSimpArgs false
set_option maxRecDepth 100000
set_option maxHeartbeats 4000000 in
theorem byAES1_any (R : Value → Int → World → Prop) (F : Nat) (hent : Enters Tryz.prog F) (x : Int) (o : Bool) (Ak : Option Addr) (kn kc : Nat) (Ai : Option Addr) (vn ic : Nat) (Aa : Option Addr) (an ac : Nat) (Ab : Option Addr) (n cb : Nat) (g : Nat) (t : TypeId) (nk : Nat) (key : List UInt8) (w : World)
    (hl : key.length = kn) (hkn : kn = 4 * nk) (hnk : nk = 4 ∨ nk = 8) (hS : Sl w Ak kc key) (hg : w.heap[g]? = some (.cells #[.func (.func F) #[] #[]] t (0, 0)))
    (hcall : ∀ p W, Below w.heap.size w W → KeyAt W p (expandL key) (nk + 6) → Calls Tryz.prog F #[.pointer (some ⟨p, 0, none⟩), .slice Ai vn ic, .slice Aa an ac, .slice Ab n cb] W fun e W' => ∃ v y, e = .returned (.tuple #[v, .int .i64 y]) ∧ R v y W' ∧ Below W.heap.size W W') :
    Calls Tryz.prog 33 #[.agg (parV x o Ak kn kc Ai vn ic Aa an ac).toArray, .slice Ab n cb, .pointer (some ⟨g, 0, none⟩)] w fun e w' => ∃ v y, e = .returned (.tuple #[v, .int .i64 y]) ∧ R v y w' ∧ Below w.heap.size w w' := by
  have PC := Lib.hid (fun (W : World) (g : Nat) (t : TypeId) (fr : Nat × Nat) (h : W.heap[g]? = some (.cells (parV x o Ak kn kc Ai vn ic Aa an ac).toArray t fr)) => par_cells h)
  have HC := Lib.hid hcall
  have HG := Lib.hid hg
  have HS := Lib.hid hS
  have EX := Lib.hid (fun W hS => expand_any Ak kn kc nk key W hl hkn hnk hS)
  have hent : ∀ args W, (callFunc F args).run Tryz.prog W = .ok (.enter F args) W := hent
  generalize parV x o Ak kn kc Ai vn ic Aa an ac = PV at PC ⊢
  clear hcall hg hS hl hkn hnk
  go_enter Tryz.func33, Tryz.ntmps33
  go_upto_region 1 with (fail)
  have HB := Lib.hid (heap_alloc_new' w (.cells PV.toArray 28))
  have B0 : Hid (Below w.heap.size w (w.alloc (.cells PV.toArray 28))) := (Below.refl _ _).alloc (Nat.le_refl _) _
  generalize w.alloc _ = W0 at HB B0 ⊢
  have c2 := (PC.out _ _ _ _ HB.out).2.2.1
  go_wp2_with fail
  clear c2
  refine (EX.out W0 (HS.out.below B0.out)).mono ?_
  rintro e w1 ⟨p, rfl, _, hK, hb⟩
  have B1 : Hid (Below w.heap.size w w1) := B0.out.step hb
  have HB1 : Hid (w1.heap[w.heap.size]? = _) := (hb.block _ (lt_of_heap HB.out)).trans HB.out
  have HG1 : Hid (w1.heap[g]? = _) := (B1.out.block _ (lt_of_heap HG.out)).trans HG.out
  have HK := Lib.hid hK
  have c3 := (PC.out _ _ _ _ HB1.out).2.2.2.1
  have c4 := (PC.out _ _ _ _ HB1.out).2.2.2.2
  have cF : Hid (w1.cell? ⟨g, 0, none⟩ = some (.func (.func F) #[] #[])) := cell_of_heap (cs := [.func (.func F) #[] #[]]) HG1.out 0
  clear PC HB HG HG1 hK hb B0 EX HS HB1
  go_wp2_with (first
    | (refine wpList_ld rfl 54 (.tmp 2) rfl (load_cellW (hu := Tryz.underlying54) (hd := rfl) (v := .func (.func F) #[] #[]) cF.out) ?_)
    | fail)
  refine (HC.out p w1 B1.out HK.out).mono ?_
  rintro e w6 ⟨v6, y6, rfl, hR6, hb6⟩
  have B6 := Lib.hid (B1.out.step hb6)
  have HR6 := Lib.hid hR6
  clear hR6 hb6 c3 c4
  go_wp2
  go_ret2
  exact ⟨_, _, rfl, HR6.out, B6.out⟩
end Go.Proofs.YtimgggpojbpfkaaGreatDoor

/- algo.Do: what is sealed by CHACHA and by GCM. -/
namespace Go.Proofs.YtimgggpojbpfkaaGreatDoor
open Go.RowKit Go.Shelf
set_option linter.unusedVariables false
set_option linter.unusedSimpArgs false
set_option maxRecDepth 100000
def sealRow (w0 : World) (n : Nat) (X : List UInt8) (v : Value) (y : Int) (W : World) : Prop := y = 0 ∧ W.ownsRow w0.heap.size 5 1 v n (X.map bv)
set_option maxHeartbeats 2000000 in
theorem do6s_any (key iv aad b : List UInt8) (Ak Ai Aa Ab : Option Addr) (kc ic an ac n cb : Nat) (w : World) (hk : key.length = 32) (hi : iv.length = 12) (ha : aad.length = an) (hb : b.length = n) (ha2 : an ≤ 1000) (hn : n ≤ 1000)
    (S1 : Sl w Ak kc key) (S2 : Sl w Ai ic iv) (S3 : Sl w Aa ac aad) (S4 : Sl w Ab cb b) :
    Calls Tryz.prog 6 #[.agg (parV 6 false Ak 32 kc Ai 12 ic Aa an ac).toArray, .slice Ab n cb] w fun e w' => ∃ v, e = .returned (.tuple #[v, .int .i64 0]) ∧ w'.ownsRow w.heap.size 5 1 v (n + 16) ((sealE key iv aad b).map bv) ∧ Below w.heap.size w w' := by
  refine (do_any (sealRow w (n + 16) (sealE key iv aad b)) 6 false Ak 32 kc Ai 12 ic Aa an ac Ab n cb w (by omega) (by omega) (by omega) (by omega) ?_).mono ?_
  · intro k n0 d W hx h1 h2 hh hk6 hi6 ha6 hr hD hbb
    obtain rfl : k = 6 := by omega
    have hD : ByKey n0 W d 28 := hD
    obtain ⟨g, t, hg, rfl, hcell⟩ := hD
    refine ⟨49, #[.pointer (some ⟨g, 0, none⟩)], rfl, enters_of Tryz.func49 (by kernel_rfl) rfl, ?_⟩
    show Calls Tryz.prog 49 #[.agg (parV 6 false Ak 32 kc Ai 12 ic Aa an ac).toArray, .slice Ab n cb, .pointer (some ⟨g, 0, none⟩)] W _
    refine byKey1_any _ 28 (enters_of Tryz.func28 (by kernel_rfl) rfl) 6 false Ak 32 kc Ai 12 ic Aa an ac Ab n cb g t W hcell ?_
    intro W2 hb2
    have b2 := hbb.step hb2
    refine (aseal_any key iv aad b Ak Ai Aa Ab kc ic an ac n cb W2 hk hi ha hb (by omega) (by omega) (S1.below b2) (S2.below b2) (S3.below b2) (S4.below b2)).mono ?_
    rintro e W3 ⟨v, rfl, hO, hb3⟩
    exact ⟨_, _, rfl, ⟨rfl, Go.Joins.ownsRow_le hO b2.size⟩, hb3⟩
  · rintro e w' ⟨v, y, rfl, hD, hbb⟩
    have h1 : checkR 6 false 32 12 an = 0 := by
      have : ¬ ((1000 : Int) < (an : Int)) := by omega
      simp [checkR, hasA, hasW, keyP, ivP, aadK, this]
    have h2 : (roomR 6 false (n : Int)).2 = 0 := by
      have : ¬ ((n : Int) < 0) := by omega
      simp [roomR, hasA, hasW, roomP, this]
    unfold DoR at hD
    rw [if_neg (by rw [h1]; simp), if_neg (by rw [h2]; simp)] at hD
    obtain ⟨rfl, hO⟩ := hD
    exact ⟨v, rfl, hO, hbb⟩
end Go.Proofs.YtimgggpojbpfkaaGreatDoor

/- A key, whether it is long, and an IV, that come in (layer 8). -/
namespace Go.Proofs.YtimgggpojbpfkaaGreatDoor
open Go.RowKit Go.ChangeShapes Go.WideShapes Go.ChangeAt
set_option maxRecDepth 100000
set_option linter.unusedVariables false
set_option linter.unusedSimpArgs false
def kCells (k : List UInt8) (b : Bool) (n : List UInt8) : List Value := k.map bv ++ ([.bool b] ++ n.map bv)
theorem split49 (L : List Value) (h : L.length = 49) : L = L.take 32 ++ ((L.drop 32).take 1 ++ (L.drop 33).take 16) := by
  have h1 := List.take_append_drop 32 L
  have h2 := List.take_append_drop 1 (L.drop 32)
  rw [List.drop_drop] at h2
  have h4 : (L.drop 33).take 16 = L.drop 33 := List.take_of_length_le (by simp; omega)
  rw [h4, show L.drop 33 = L.drop (32 + 1) from rfl, h2, h1]
end Go.Proofs.YtimgggpojbpfkaaGreatDoor

/- A key with its IV in memory, and its round keys (the laws' own functions bytes, keys). -/
namespace Go.Proofs.YtimgggpojbpfkaaGreatDoor
open Go.RowKit
set_option linter.unusedVariables false
set_option maxRecDepth 100000
set_option linter.unusedSimpArgs false
theorem k_strOf_beq (a b : List UInt8) : ((strOf a).toList == (strOf b).toList) = decide (a = b) := by
  have h : ∀ l : List UInt8, (strOf l).toList = l := fun l => by rw [ByteArray.toList_eq]; rfl
  rw [h, h]; rw [Bool.eq_iff_iff]; simp
theorem k_strOf_size (a : List UInt8) : (strOf a).size = a.length := by simp [strOf, ByteArray.size]
theorem k_strOf_append (a b : List UInt8) : strOf a ++ strOf b = strOf (a ++ b) := by
  apply ByteArray.ext; simp [strOf]
theorem Sl.extk {w w' : World} {A : Option Addr} {c : Nat} {bs : List UInt8} (h : Sl w A c bs) (hb : Ext w w') : Sl w' A c bs := h.below hb
theorem k_range_ext {W W' : World} {g o : Nat} {cs : List Value} (h : W.rangeAt g o cs) (hg : g < W.heap.size) (hE : Ext W W') : W'.rangeAt g o cs := fun j v hv => (hE.cell hg).trans (h j v hv)
/-- which bytes of it are the key -/
def keyB (k : List UInt8) (b : Bool) : List UInt8 := if b then k else k.take 16
def keyW (b : Bool) : Nat := if b then 8 else 4
theorem keyB_len (k : List UInt8) (b : Bool) (hk : k.length = 32) : (keyB k b).length = 4 * keyW b := by
  cases b <;> simp [keyB, keyW, hk]
def KZ (W : World) (g : Nat) (k : List UInt8) (b : Bool) (n : List UInt8) : Prop := g < W.heap.size ∧ W.rangeAt g 0 (k.map bv) ∧ W.cell? ⟨g, 32, none⟩ = some (.bool b) ∧ W.rangeAt g 33 (n.map bv)
theorem KZ.ext {W W' : World} {g : Nat} {k n : List UInt8} {b : Bool} (h : KZ W g k b n) (hE : Ext W W') : KZ W' g k b n :=
  ⟨Nat.lt_of_lt_of_le h.1 hE.size, k_range_ext h.2.1 h.1 hE, (hE.cell h.1).trans h.2.2.1, k_range_ext h.2.2.2 h.1 hE⟩
theorem kz_of {W : World} {g : Nat} {k n : List UInt8} {b : Bool} {post : List Value} {t : TypeId} {fr : Nat × Nat} (h : W.heap[g]? = some (.cells (kCells k b n ++ post).toArray t fr)) (hk : k.length = 32) (hn : n.length = 16) : KZ W g k b n := by
  refine ⟨lt_of_heap h, fun j v hv => ?_, ?_, fun j v hv => ?_⟩
  · have hj := (List.getElem?_eq_some_iff.1 hv).1
    rw [cell_of_heap h, kCells, Nat.zero_add, List.append_assoc, List.getElem?_append_left hj]; exact hv
  · rw [cell_of_heap h, kCells, List.append_assoc, List.getElem?_append_right (by simp [hk]), List.length_map, hk]; rfl
  · have hj := (List.getElem?_eq_some_iff.1 hv).1
    rw [cell_of_heap h, kCells, List.append_assoc, List.getElem?_append_right (by simp [hk]; omega), List.length_map, hk, List.append_assoc, List.getElem?_append_right (by simp; omega), List.getElem?_append_left (by simp at hj ⊢; omega)]
    rw [show 33 + j - 32 - [Value.bool b].length = j by simp; omega]; exact hv
theorem kz_new (w : World) (k n : List UInt8) (b : Bool) (t : TypeId) (hk : k.length = 32) (hn : n.length = 16) : KZ (w.alloc (.cells (kCells k b n).toArray t)) w.heap.size k b n :=
  kz_of (post := []) (by rw [List.append_nil]; exact heap_alloc_new' w _) hk hn
theorem kCells_len (k n : List UInt8) (b : Bool) (hk : k.length = 32) (hn : n.length = 16) : (kCells k b n).length = 49 := by simp [kCells, hk, hn]
theorem KZ.key {W : World} {g : Nat} {k n : List UInt8} {b : Bool} (h : KZ W g k b n) (hk : k.length = 32) : Sl W (some ⟨g, 0, none⟩) 32 (keyB k b) := by
  refine ⟨by rw [keyB_len k b hk]; cases b <;> simp [keyW], by simp [maxLen], .inr ⟨g, 0, rfl, h.1, fun j u hu => ?_⟩⟩
  refine h.2.1 j u ?_
  cases b
  · simp only [keyB, Bool.false_eq_true, if_false, List.map_take] at hu
    rw [List.getElem?_take] at hu
    split at hu
    · exact hu
    · cases hu
  · exact hu
theorem arr32Z : Tryz.prog.underlying 65 = some (.array 32 5) := Tryz.underlying65
theorem i16z (l : List UInt8) (h : l.length = 16) : (Tryz.prog.info? 64).map (·.size) = some (l.map bv).length := by rw [List.length_map, h]; exact i16B
end Go.Proofs.YtimgggpojbpfkaaGreatDoor

/- The law file's own 'awake' (layer 8). -/
namespace Go.Proofs.YtimgggpojbpfkaaGreatDoor
open Go.RowKit
set_option linter.unusedVariables false
set_option maxRecDepth 100000
set_option linter.unusedSimpArgs false
def nineL : List UInt8 := [0, 0, 0, 0, 0, 0, 0, 0, 0, 0, 0, 0, 0, 0, 0, 9]
def nineV : Array Value := #[.int .u8 0, .int .u8 0, .int .u8 0, .int .u8 0, .int .u8 0, .int .u8 0, .int .u8 0, .int .u8 0, .int .u8 0, .int .u8 0, .int .u8 0, .int .u8 0, .int .u8 0, .int .u8 0, .int .u8 0, .int .u8 9]
theorem nine_lit : (nineL.map bv).toArray = nineV := rfl
theorem xorL_zeros (y : List UInt8) (h : y.length = 16) : xorL (List.replicate 16 0) y = y := by
  apply List.ext_getElem
  · rw [xorL_len, List.length_replicate, h]; rfl
  · intro i h1 h2
    simp only [xorL, List.getElem_zipWith, List.getElem_replicate]
    exact UInt8.zero_xor
theorem ctr_zeros (E : List UInt8 → List UInt8) (x : List UInt8) (hx : x.length = 16) (hE : (E x).length = 16) : ctrL (strmF E x) 0 (List.replicate 16 0) = E x := by
  have h := ctrL_block (fun i => E (countL x i)) 0 (List.replicate 16 0) (by show (E (countL x 0)).length = 16; rw [count_zero x hx]; exact hE)
  simp only [Nat.zero_div, Nat.zero_mod, List.drop_zero, List.length_replicate, Nat.sub_zero, Nat.min_self] at h
  rw [count_zero x hx, xorL_zeros _ hE, List.take_of_length_le (by simp)] at h
  exact h.symm
def zer16c : List UInt8 := List.replicate 16 0
theorem zer16c_len : zer16c.length = 16 := by simp [zer16c]
end Go.Proofs.YtimgggpojbpfkaaGreatDoor

/- The mathematics of layer 6: blocks as numbers of 128 bits, the highest bit for x to the 0th; their products. Nothing of the program. -/
namespace Go.Proofs.YtimgggpojbpfkaaGreatDoor
set_option linter.unusedVariables false
set_option linter.unusedSimpArgs false

/-- v, if c; else nought -/
def sel (c : Bool) (v : Nat) : Nat := if c then v else 0
theorem sel_xor (c : Bool) (v w : Nat) : sel c (v ^^^ w) = sel c v ^^^ sel c w := by cases c <;> simp [sel]
theorem sel_xor_left (c d : Bool) (v : Nat) : sel (c ^^ d) v = sel c v ^^^ sel d v := by cases c <;> cases d <;> simp [sel]
theorem sel_zero (c : Bool) : sel c 0 = 0 := by cases c <;> rfl
theorem sel_true (v : Nat) : sel true v = v := rfl
theorem sel_false (v : Nat) : sel false v = 0 := rfl
theorem sel_lt (c : Bool) {v n : Nat} (h : v < n) : sel c v < n := by cases c <;> simp [sel] <;> omega
theorem xor4N (a b c d : Nat) : (a ^^^ b) ^^^ (c ^^^ d) = (a ^^^ c) ^^^ (b ^^^ d) := by
  rw [Nat.xor_assoc, Nat.xor_assoc, ← Nat.xor_assoc b c d, Nat.xor_comm b c, Nat.xor_assoc c b d]

/-- times x -/
def upV (r : Nat) : Nat := (r >>> 1) ^^^ sel (r.testBit 0) 299076299051606071403356588563077529600
theorem upV_xor (a b : Nat) : upV (a ^^^ b) = upV a ^^^ upV b := by
  unfold upV; rw [Nat.testBit_xor, sel_xor_left, Nat.shiftRight_xor_distrib, xor4N]
theorem upV_zero : upV 0 = 0 := by decide
theorem upV_sel (c : Bool) (v : Nat) : upV (sel c v) = sel c (upV v) := by cases c <;> simp [sel, upV_zero]
theorem upV_lt (r : Nat) (h : r < 2 ^ 128) : upV r < 2 ^ 128 := by
  unfold upV
  refine Nat.xor_lt_two_pow ?_ (sel_lt _ (by decide))
  rw [Nat.shiftRight_eq_div_pow]; omega
/-- times x to the n-th -/
def upN (v : Nat) : Nat → Nat
  | 0 => v
  | n + 1 => upV (upN v n)
theorem upN_xor (a b n : Nat) : upN (a ^^^ b) n = upN a n ^^^ upN b n := by
  induction n with
  | zero => rfl
  | succ n ih => rw [upN, ih, upV_xor]; rfl
theorem upN_zero (n : Nat) : upN 0 n = 0 := by
  induction n with
  | zero => rfl
  | succ n ih => rw [upN, ih, upV_zero]
theorem upN_sel (c : Bool) (v n : Nat) : upN (sel c v) n = sel c (upN v n) := by cases c <;> simp [sel, upN_zero]
theorem upN_lt (v n : Nat) (h : v < 2 ^ 128) : upN v n < 2 ^ 128 := by
  induction n with
  | zero => exact h
  | succ n ih => exact upV_lt _ ih
theorem upN_add (v n m : Nat) : upN v (n + m) = upN (upN v n) m := by
  induction m with
  | zero => rfl
  | succ m ih => rw [← Nat.add_assoc, upN, ih]; rfl
/-- the i-th bit of a block -/
def bitV (a i : Nat) : Bool := a.testBit (127 - i)
theorem bitV_xor (a b i : Nat) : bitV (a ^^^ b) i = (bitV a i ^^ bitV b i) := Nat.testBit_xor ..
theorem bitV_sel (c : Bool) (v i : Nat) : bitV (sel c v) i = (c && bitV v i) := by cases c <;> simp [sel, bitV]
/-- the sum of b times x to the i-th over the first n bits of a -/
def actN (a b : Nat) : Nat → Nat
  | 0 => 0
  | n + 1 => actN a b n ^^^ sel (bitV a n) (upN b n)
def mulV (a b : Nat) : Nat := actN a b 128
theorem actN_xor (a b c n : Nat) : actN a (b ^^^ c) n = actN a b n ^^^ actN a c n := by
  induction n with
  | zero => simp [actN]
  | succ n ih => rw [actN, ih, upN_xor, sel_xor, xor4N]; rfl
theorem actN_xor_left (a b c n : Nat) : actN (a ^^^ b) c n = actN a c n ^^^ actN b c n := by
  induction n with
  | zero => simp [actN]
  | succ n ih => rw [actN, ih, bitV_xor, sel_xor_left, xor4N]; rfl
theorem actN_zero (a n : Nat) : actN a 0 n = 0 := by
  induction n with
  | zero => rfl
  | succ n ih => rw [actN, ih, upN_zero, sel_zero]; rfl
theorem actN_sel (a : Nat) (c : Bool) (v n : Nat) : actN a (sel c v) n = sel c (actN a v n) := by cases c <;> simp [sel, actN_zero]
theorem upV_upN (b n : Nat) : upV (upN b n) = upN (upV b) n := by
  induction n with
  | zero => rfl
  | succ n ih => rw [upN, ih]; rfl
theorem actN_up (a b n : Nat) : upV (actN a b n) = actN a (upV b) n := by
  induction n with
  | zero => exact upV_zero
  | succ n ih => rw [actN, upV_xor, ih, upV_sel, upV_upN]; rfl
theorem actN_upN (a b n m : Nat) : upN (actN a b n) m = actN a (upN b m) n := by
  induction m with
  | zero => rfl
  | succ m ih => rw [upN, ih, actN_up]; rfl
theorem actN_comm (a b c n m : Nat) : actN a (actN b c n) m = actN b (actN a c m) n := by
  induction m with
  | zero => rw [actN, actN, actN_zero]
  | succ m ih => rw [actN, ih, actN_upN, ← actN_sel, ← actN_xor]; rfl
theorem actN_lt (a b n : Nat) (h : b < 2 ^ 128) : actN a b n < 2 ^ 128 := by
  induction n with
  | zero => rw [actN]; decide
  | succ n ih => exact Nat.xor_lt_two_pow ih (sel_lt _ (upN_lt _ _ h))
/-- the block that is one; powers of x -/
def oneV : Nat := 170141183460469231731687303715884105728
def pw (i : Nat) : Nat := upN oneV i
theorem oneV_lt : oneV < 2 ^ 128 := by decide
theorem pw_lt (i : Nat) : pw i < 2 ^ 128 := upN_lt _ _ oneV_lt
theorem pw_eq (i : Nat) (h : i < 128) : pw i = 2 ^ (127 - i) := by
  have : ∀ i : Fin 128, pw i.1 = 2 ^ (127 - i.1) := by decide +kernel
  exact this ⟨i, h⟩
theorem pw128 : pw 128 = pw 0 ^^^ pw 1 ^^^ pw 2 ^^^ pw 7 := by decide +kernel
theorem pw_add (i m : Nat) : pw (i + m) = upN (pw i) m := upN_add _ _ _
theorem pw_over (i : Nat) (h : 128 ≤ i) : pw i = pw (i - 128) ^^^ pw (i - 127) ^^^ pw (i - 126) ^^^ pw (i - 121) := by
  obtain ⟨m, rfl⟩ : ∃ m, i = 128 + m := ⟨i - 128, by omega⟩
  rw [pw_add, pw128, upN_xor, upN_xor, upN_xor, ← pw_add, ← pw_add, ← pw_add, ← pw_add]
  rw [show 128 + m - 128 = 0 + m by omega, show 128 + m - 127 = 1 + m by omega, show 128 + m - 126 = 2 + m by omega, show 128 + m - 121 = 7 + m by omega]
theorem bitV_pw (i j : Nat) (hi : i < 128) (hj : j < 128) : bitV (pw i) j = decide (i = j) := by
  rw [pw_eq i hi, bitV, Nat.testBit_two_pow]
  by_cases h : i = j
  · simp [h]
  · simp [h]; omega
theorem eq_of_bits (a b : Nat) (ha : a < 2 ^ 128) (hb : b < 2 ^ 128) (h : ∀ i, i < 128 → bitV a i = bitV b i) : a = b := by
  apply Nat.eq_of_testBit_eq
  intro i
  by_cases hi : i < 128
  · have := h (127 - i) (by omega)
    unfold bitV at this
    rwa [show 127 - (127 - i) = i by omega] at this
  · rw [Nat.testBit_lt_two_pow (Nat.lt_of_lt_of_le ha (Nat.pow_le_pow_right (by decide) (by omega))), Nat.testBit_lt_two_pow (Nat.lt_of_lt_of_le hb (Nat.pow_le_pow_right (by decide) (by omega)))]
theorem bits_actN_one (a n : Nat) (hn : n ≤ 128) (j : Nat) (hj : j < 128) : bitV (actN a oneV n) j = (decide (j < n) && bitV a j) := by
  induction n with
  | zero => simp [actN, bitV]
  | succ n ih =>
    have hp := bitV_pw n j (by omega) hj
    rw [actN, bitV_xor, ih (by omega), bitV_sel]
    show (_ ^^ (bitV a n && bitV (pw n) j)) = _
    rw [hp]
    by_cases h1 : j < n
    · simp [h1, show ¬ n = j by omega, show j < n + 1 by omega]
    · by_cases h2 : n = j
      · subst h2; simp
      · simp [h1, h2, show ¬ j < n + 1 by omega]
theorem mulV_one (a : Nat) (h : a < 2 ^ 128) : mulV a oneV = a := by
  refine eq_of_bits _ _ (actN_lt _ _ _ oneV_lt) h fun i hi => ?_
  rw [mulV, bits_actN_one a 128 (by omega) i hi]; simp [hi]
theorem mulV_lt (a b : Nat) (h : b < 2 ^ 128) : mulV a b < 2 ^ 128 := actN_lt a b 128 h
theorem mulV_zero (a : Nat) : mulV a 0 = 0 := actN_zero a 128
theorem mulV_xor (a b c : Nat) : mulV a (b ^^^ c) = mulV a b ^^^ mulV a c := actN_xor a b c 128
theorem mulV_xor_left (a b c : Nat) : mulV (a ^^^ b) c = mulV a c ^^^ mulV b c := actN_xor_left a b c 128
theorem mulV_comm (a b : Nat) (ha : a < 2 ^ 128) (hb : b < 2 ^ 128) : mulV a b = mulV b a := by
  have h := actN_comm a b oneV 128 128
  have h1 : actN b oneV 128 = b := mulV_one b hb
  have h2 : actN a oneV 128 = a := mulV_one a ha
  rw [h1, h2] at h
  exact h
theorem mulV_assoc (a b c : Nat) (ha : a < 2 ^ 128) (hb : b < 2 ^ 128) (hc : c < 2 ^ 128) : mulV (mulV a b) c = mulV a (mulV b c) := by
  rw [mulV_comm (mulV a b) c (mulV_lt a b hb) hc, mulV_comm b c hb hc]
  exact actN_comm c a b 128 128
theorem mulV_upN (a b n : Nat) : mulV a (upN b n) = upN (mulV a b) n := (actN_upN a b 128 n).symm
theorem mulV_pw (a n : Nat) (ha : a < 2 ^ 128) : mulV a (pw n) = upN a n := by
  rw [pw, mulV_upN, mulV_one a ha]
theorem pw_mul (n m : Nat) : mulV (pw n) (pw m) = pw (n + m) := by rw [mulV_pw _ _ (pw_lt n), ← pw_add]

/-- two maps that go over sums are the same if they are on the powers of x -/
theorem lin_ext (f g : Nat → Nat) (hf : ∀ a b, a < 2 ^ 128 → b < 2 ^ 128 → f (a ^^^ b) = f a ^^^ f b) (hg : ∀ a b, a < 2 ^ 128 → b < 2 ^ 128 → g (a ^^^ b) = g a ^^^ g b) (h : ∀ i, i < 128 → f (pw i) = g (pw i)) (a : Nat) (ha : a < 2 ^ 128) : f a = g a := by
  have f0 : f 0 = 0 := by have := hf 0 0 (by decide) (by decide); simpa using this
  have g0 : g 0 = 0 := by have := hg 0 0 (by decide) (by decide); simpa using this
  suffices H : ∀ n, n ≤ 128 → f (actN a oneV n) = g (actN a oneV n) by
    have := H 128 (Nat.le_refl _)
    rwa [show actN a oneV 128 = a from mulV_one a ha] at this
  intro n
  induction n with
  | zero => intro _; rw [actN, f0, g0]
  | succ n ih =>
    intro hn
    have hl := sel_lt (bitV a n) (pw_lt n)
    have hs : f (sel (bitV a n) (pw n)) = g (sel (bitV a n) (pw n)) := by
      cases bitV a n
      · rw [sel_false, f0, g0]
      · exact h n (by omega)
    rw [actN]
    show f (actN a oneV n ^^^ sel (bitV a n) (pw n)) = g (actN a oneV n ^^^ sel (bitV a n) (pw n))
    rw [hf _ _ (actN_lt _ _ _ oneV_lt) hl, hg _ _ (actN_lt _ _ _ oneV_lt) hl, ih (by omega)]
    exact congrArg _ hs
end Go.Proofs.YtimgggpojbpfkaaGreatDoor

/- The mathematics of layer 6: blocks that are not nought can be divided by (Berlekamp's test of x^128 + x^7 + x^2 + x + 1). -/
namespace Go.Proofs.YtimgggpojbpfkaaGreatDoor
set_option linter.unusedVariables false
set_option linter.unusedSimpArgs false

/-- squared, and squared n times -/
def sq (a : Nat) : Nat := mulV a a
def sqN (a : Nat) : Nat → Nat
  | 0 => a
  | n + 1 => sq (sqN a n)
theorem sq_lt (a : Nat) (h : a < 2 ^ 128) : sq a < 2 ^ 128 := mulV_lt a a h
theorem sqN_lt (a n : Nat) (h : a < 2 ^ 128) : sqN a n < 2 ^ 128 := by
  induction n with
  | zero => exact h
  | succ n ih => exact sq_lt _ ih
theorem sq_xor (a b : Nat) (ha : a < 2 ^ 128) (hb : b < 2 ^ 128) : sq (a ^^^ b) = sq a ^^^ sq b := by
  unfold sq
  rw [mulV_xor, mulV_xor_left, mulV_xor_left, mulV_comm b a hb ha, xor4N, Nat.xor_comm (mulV a a) (mulV a b), xor4N, Nat.xor_self, Nat.zero_xor]
theorem sqN_xor (a b n : Nat) (ha : a < 2 ^ 128) (hb : b < 2 ^ 128) : sqN (a ^^^ b) n = sqN a n ^^^ sqN b n := by
  induction n with
  | zero => rfl
  | succ n ih => rw [sqN, ih, sq_xor _ _ (sqN_lt a n ha) (sqN_lt b n hb)]; rfl
theorem mul4 (a b c d : Nat) (ha : a < 2 ^ 128) (hb : b < 2 ^ 128) (hc : c < 2 ^ 128) (hd : d < 2 ^ 128) : mulV (mulV a b) (mulV c d) = mulV (mulV a c) (mulV b d) := by
  rw [mulV_assoc a b _ ha hb (mulV_lt c d hd), ← mulV_assoc b c d hb hc hd, mulV_comm b c hb hc, mulV_assoc c b d hc hb hd, ← mulV_assoc a c _ ha hc (mulV_lt b d hd)]
theorem sq_mul (a b : Nat) (ha : a < 2 ^ 128) (hb : b < 2 ^ 128) : sq (mulV a b) = mulV (sq a) (sq b) := mul4 a b a b ha hb ha hb
theorem sqN_mul (a b n : Nat) (ha : a < 2 ^ 128) (hb : b < 2 ^ 128) : sqN (mulV a b) n = mulV (sqN a n) (sqN b n) := by
  induction n with
  | zero => rfl
  | succ n ih => rw [sqN, ih, sq_mul _ _ (sqN_lt a n ha) (sqN_lt b n hb)]; rfl
theorem sqN_x : sqN (pw 1) 128 = pw 1 := by decide +kernel
theorem sqN_one : sqN (pw 0) 128 = pw 0 := by
  have h : ∀ n, sqN (pw 0) n = pw 0 := by
    intro n
    induction n with
    | zero => rfl
    | succ n ih => rw [sqN, ih]; exact pw_mul 0 0
  exact h 128
theorem sqN_pw (i : Nat) : sqN (pw i) 128 = pw i := by
  induction i with
  | zero => exact sqN_one
  | succ i ih => rw [← pw_mul i 1, sqN_mul _ _ _ (pw_lt i) (pw_lt 1), ih, sqN_x]
theorem sqN_all (a : Nat) (ha : a < 2 ^ 128) : sqN a 128 = a :=
  lin_ext (fun a => sqN a 128) (fun a => a) (fun a b ha hb => sqN_xor a b 128 ha hb) (fun _ _ _ _ => rfl) (fun i _ => sqN_pw i) a ha

/-- a map that undoes squaring and taking off, up to the bit of x to the 0th -/
def undoL : List Nat := [22349210433241643211303706255459310228, 42781086895802961305837899807692839847, 127851678626037577171681551665634892711, 64161864867486123575827494532326627698, 85316382760920269238759725736663866279, 114910088095513088234682618273958557012, 42894216934927469609366581567841114482, 32564043359013102798989312672802603315, 95950206727199596221990182218906622887, 46326064391129892899928697286047832434, 109593176112373424743067390032837178708, 142223934881672753734463413618344281941, 45552672926497301355174195688401803634, 94354540392079830942767997527157175399, 33893271354798018671893119733082947891, 133492860460135582475628106552095754965, 96614820725092054158442085749046795175, 123504943270841248069084356367027567956, 45993757392183663931702745520977746290, 84108166368187411435240813705953482624, 109427022612900310258954414150302135636, 65334698174074460006561831602428846656, 142140858131936196492406925677076760405, 26944648382676130012539518143993095923, 45594211301365579976202439659035564402, 34751615226583747878589791662865156403, 94333771204645691632253875541840295015, 58594332839845026287895736368243621554, 33882886761080949016636058740424507699, 49689517202507746048320574050840187699, 133487668163277047647999576055766534869, 87518597506017800282691648887090017190, 96617416873521321572256350997211405223, 123492369287794167071922631989304127700, 123506241345055881775991488991109872980, 88394181544543220452557894239097387942, 45994406429290980785156311833018898802, 49921000057622566873658450198655872755, 84108490886741069861967596861974058880, 35809052500604244266195401481916326771, 109427184872177139472317805728312423764, 79569572989071969373811419141996187585, 65334779303712874613243527391433990720, 4726979706471076424241489524707209152, 142140898696755403795747773571579332437, 58275656592714443450777541729474286387, 26944628100266526360869094196741809907, 140308235276560358896028355552301283989, 45594221442570381802037651632661207410, 44935323831971706514111515550899780402, 34751610155981346965672185676052334899, 115575792119390803779456185938199600469, 94333773739946892088712678535246705767, 159324042485362573657552647614603385767, 58594334107495626516125137864946826930, 153238470225796900814681174335121648678, 33882886127255648902521357992072905011, 59792954277794325190837842541115644722, 49689517519420396105377924425015989043, 72978216601350599591347508359916847681, 133487668004820722619470900868678634197, 163309321578052146805450802438263305319, 87518597585245962796955986480633967526, 6161591008139076220601646446843146177, 96617416833907240315124182200439430055, 67288019353279926038130604499846823936, 123492369307601207700488716387690115284, 72992884249465865451566362034747193217, 123506241354959402090274531190302866772, 93226277353508642900164249188457535015, 88394181539591460295416373139500891046, 6116654749483988959971426010360459777, 45994406431766860863727072382817147250, 113870918609522322281985099445019275925, 49921000058860506912943830473554996979, 161537358671016203777973217828391545831, 84108490886122099842324906724524496768, 63089105448741488643398279942380763954, 35809052500294759256374056413191545715, 96504253903287235160744645914913229863, 109427184872331881977228478262674814292, 9537274821874957483351388617584152641, 79569572988994598121356082874814992321, 122557457634345817322758110469731963540, 65334779303751560239471195525024588352, 161542955870533464563010084267448332775, 4726979706490419237355323591502507968, 53639910565545342273528145980335791795, 142140898696765075202304690604976981845, 51613027339492204128265575524803459891, 58275656592719279154056000246173111091, 81071795988965022717357904530596407232, 26944628100264108509229864938392397555, 92325303522414418149753570460923091879, 140308235276559149970208740923126577813, 100983558286137050684044238585428660711, 45594221442569777339127844318073854322, 132003651752985294974180122299820886164, 44935323831972008745566419208193456946, 100972845268357601278728964017462078439, 34751610155981195849944733847405496627, 133436244703473040169882794575366898389, 115575792119390728221592460023876181333, 161752945482599484730126084874801441767, 94333773739946854309780815578084996199, 149021274876537960721224429182834492454, 159324042485362592547018579093184240551, 5725366257701666555538562805218717057, 58594334107495617071392172125656399538, 127777348636302309636952298273557535380, 153238470225796905537047657204766862374, 133385434108064708788808215410435911893, 33882886127255646541338116557250298163, 275464514806027128612938827324864, 59792954277794326371429463258526948146, 12764899024296983899235621676887115841, 49689517519420395515082114066310337331, 126976600203468727039316187211004055892, 72978216601350599296199603180564021825, 108887185710678174598840578861931466132, 133487668004820722767044853458355047125, 126814247099887467207929949960147586332, 163309321578052146879237778733101511783, 72921817864677867521778898634038080609, 87518597585245962833849474628053070758, 71430717218983613641036104277415506289, 6161591008139076202154902373133594561, 0]
def undoN (v : Nat) : Nat → List Nat → Nat
  | _, [] => 0
  | i, l :: ls => sel (bitV v i) l ^^^ undoN v (i + 1) ls
theorem undoN_xor (a b : Nat) (ls : List Nat) : ∀ i, undoN (a ^^^ b) i ls = undoN a i ls ^^^ undoN b i ls := by
  induction ls with
  | nil => intro i; simp [undoN]
  | cons l ls ih => intro i; rw [undoN, undoN, undoN, bitV_xor, sel_xor_left, ih, xor4N]
def pwsT : Nat → Nat → Nat → Bool
  | 0, _, _ => true
  | k + 1, i, two => undoN (two ^^^ pw i) 0 undoL == sel (!(i == 0)) (pw i) && pwsT k (i + 1) (upV (upV two))
theorem pwsT_ok : pwsT 128 0 oneV = true := by decide +kernel
theorem pwsT_out : ∀ k i two, pwsT k i two = true → two = pw (2 * i) → ∀ j, i ≤ j → j < i + k → undoN (pw (2 * j) ^^^ pw j) 0 undoL = sel (!(j == 0)) (pw j) := by
  intro k
  induction k with
  | zero => intro i two _ _ j h1 h2; omega
  | succ k ih =>
    intro i two h ht j h1 h2
    rw [pwsT, Bool.and_eq_true, beq_iff_eq] at h
    by_cases hj : j = i
    · subst hj; rw [← ht]; exact h.1
    · exact ih (i + 1) _ h.2 (by rw [ht]; rfl) j (by omega) (by omega)
theorem undo_pw (j : Nat) (hj : j < 128) : undoN (sq (pw j) ^^^ pw j) 0 undoL = sel (!(j == 0)) (pw j) := by
  have := pwsT_out 128 0 oneV pwsT_ok rfl j (by omega) (by omega)
  rwa [show sq (pw j) = pw (2 * j) by unfold sq; rw [pw_mul]; congr 1; omega]
/-- only nought and one are their own squares -/
theorem idem (e : Nat) (he : e < 2 ^ 128) (h : sq e = e) : e = 0 ∨ e = oneV := by
  have key := lin_ext (fun e => undoN (sq e ^^^ e) 0 undoL) (fun e => e ^^^ sel (bitV e 0) oneV)
    (fun a b ha hb => by
      show undoN (sq (a ^^^ b) ^^^ (a ^^^ b)) 0 undoL = _
      rw [sq_xor a b ha hb, xor4N, undoN_xor])
    (fun a b ha hb => by
      show (a ^^^ b) ^^^ sel (bitV (a ^^^ b) 0) oneV = _
      rw [bitV_xor, sel_xor_left, xor4N])
    (fun i hi => by
      show undoN (sq (pw i) ^^^ pw i) 0 undoL = pw i ^^^ sel (bitV (pw i) 0) oneV
      rw [undo_pw i hi, bitV_pw i 0 hi (by decide)]
      by_cases h0 : i = 0
      · subst h0; show 0 = pw 0 ^^^ pw 0; simp
      · simp [h0, sel])
    e he
  have key' : undoN (sq e ^^^ e) 0 undoL = e ^^^ sel (bitV e 0) oneV := key
  rw [h, Nat.xor_self] at key'
  have h0 : undoN 0 0 undoL = 0 := by have := undoN_xor 0 0 undoL 0; simpa using this
  rw [h0] at key'
  have hx : e = sel (bitV e 0) oneV := by
    have := congrArg (fun z => z ^^^ sel (bitV e 0) oneV) key'
    simp only [Nat.xor_assoc, Nat.xor_self, Nat.xor_zero, Nat.zero_xor] at this
    exact this.symm
  cases hb : bitV e 0
  · left; rw [hx, hb]; rfl
  · right; rw [hx, hb]; rfl
/-- c to the (2^n - 1)-th, and to the one below -/
def lessN (c : Nat) : Nat → Nat
  | 0 => oneV
  | n + 1 => mulV (lessN c n) (sqN c (n + 1))
theorem lessN_lt (c n : Nat) (hc : c < 2 ^ 128) : lessN c n < 2 ^ 128 := by
  cases n with
  | zero => exact oneV_lt
  | succ n => exact mulV_lt _ _ (sqN_lt c (n + 1) hc)
theorem one_mul (a : Nat) (ha : a < 2 ^ 128) : mulV oneV a = a := by rw [mulV_comm _ _ oneV_lt ha, mulV_one a ha]
theorem lessN_mul (c n : Nat) (hc : c < 2 ^ 128) : mulV (mulV (lessN c n) c) c = sqN c (n + 1) := by
  induction n with
  | zero => rw [lessN, one_mul c hc]; rfl
  | succ n ih =>
    have hl := lessN_lt c n hc
    have hs := sqN_lt c (n + 1) hc
    rw [lessN, mulV_assoc (lessN c n) _ c hl hs hc, mulV_comm (sqN c (n + 1)) c hs hc, ← mulV_assoc (lessN c n) c _ hl hc hs, mulV_assoc (mulV (lessN c n) c) _ c (mulV_lt _ _ hc) hs hc,
      mulV_comm (sqN c (n + 1)) c hs hc, ← mulV_assoc (mulV (lessN c n) c) c _ (mulV_lt _ _ hc) hc hs, ih]
    rfl
/-- a block that is not nought has one by which it is one -/
theorem inverse (c : Nat) (hc : c < 2 ^ 128) (h0 : c ≠ 0) : mulV (lessN c 127) c = oneV := by
  have hl := lessN_lt c 127 hc
  have hg := mulV_lt (lessN c 127) c hc
  have h1 : mulV (mulV (lessN c 127) c) c = c := (lessN_mul c 127 hc).trans (sqN_all c hc)
  rcases idem (mulV (lessN c 127) c) hg (by
    unfold sq
    rw [mulV_assoc (lessN c 127) c _ hl hc hg, mulV_comm c _ hc hg, h1]) with h | h
  · rw [h, mulV_comm 0 c (by decide) hc, mulV_zero] at h1
    exact absurd h1.symm h0
  · exact h
theorem mulV_inj (a b c : Nat) (ha : a < 2 ^ 128) (hb : b < 2 ^ 128) (hc : c < 2 ^ 128) (h0 : c ≠ 0) (h : mulV a c = mulV b c) : a = b := by
  have hl := lessN_lt c 127 hc
  have e : ∀ a, a < 2 ^ 128 → mulV (mulV a c) (lessN c 127) = a := fun a ha => by
    rw [mulV_assoc a c _ ha hc hl, mulV_comm c _ hc hl, inverse c hc h0, mulV_one a ha]
  rw [← e a ha, h, e b hb]
end Go.Proofs.YtimgggpojbpfkaaGreatDoor

/- Package ghash: rows of two words; up, flat. -/
namespace Go.Proofs.YtimgggpojbpfkaaGreatDoor
open Go.RowKit
set_option maxRecDepth 100000
set_option linter.unusedVariables false
set_option linter.unusedSimpArgs false
/-- the two words of a number of 128 bits, the higher one first -/
def hiV (n : Nat) : Nat := n / 18446744073709551616
def loV (n : Nat) : Nat := n % 18446744073709551616
def rowL (n : Nat) : List Nat := [hiV n, loV n]
theorem rowL_len (n : Nat) : (rowL n).length = 2 := rfl
theorem e64 : (2 : Nat) ^ 64 = 18446744073709551616 := by decide
theorem e128 : (2 : Nat) ^ 128 = 340282366920938463463374607431768211456 := by decide
theorem hiV_lt (n : Nat) (h : n < 2 ^ 128) : hiV n < 18446744073709551616 := by rw [e128] at h; unfold hiV; omega
theorem loV_lt (n : Nat) : loV n < 18446744073709551616 := Nat.mod_lt _ (by decide)
theorem hiV_xor (a b : Nat) : hiV (a ^^^ b) = hiV a ^^^ hiV b := by
  have := Nat.xor_div_two_pow (a := a) (b := b) (n := 64)
  rwa [e64] at this
theorem loV_xor (a b : Nat) : loV (a ^^^ b) = loV a ^^^ loV b := by
  have := Nat.xor_mod_two_pow (a := a) (b := b) (n := 64)
  rwa [e64] at this
theorem up_hi (n : Nat) : hiV (upV n) = hiV n / 2 ^^^ sel (decide (loV n % 2 = 1)) 16212958658533785600 := by
  have ht : n.testBit 0 = decide (loV n % 2 = 1) := by
    rw [Nat.testBit_zero]; congr 1; unfold loV; apply propext; omega
  rw [upV, hiV_xor, ht]
  congr 1
  · rw [Nat.shiftRight_eq_div_pow]; unfold hiV; omega
  · cases decide (loV n % 2 = 1) <;> rfl
theorem up_lo (n : Nat) : loV (upV n) = hiV n % 2 * 9223372036854775808 + loV n / 2 := by
  rw [upV, loV_xor]
  have h0 : loV (sel (n.testBit 0) 299076299051606071403356588563077529600) = 0 := by cases n.testBit 0 <;> rfl
  rw [h0, Nat.xor_zero, Nat.shiftRight_eq_div_pow]
  unfold loV hiV; omega
theorem and1 (x : Nat) (hx : x < 18446744073709551616) : bits .and .u64 (x : Int) 1 = ((x % 2 : Nat) : Int) := by
  have h := u64_and_nat x 1 hx (by decide)
  rw [show x &&& 1 = x % 2 from Nat.and_two_pow_sub_one_eq_mod x 1] at h
  exact h
theorem neg1 (b : Nat) (hb : b < 2) : IntKind.u64.wrap (-(b : Int)) = ((sel (decide (b = 1)) 18446744073709551615 : Nat) : Int) := by
  rw [IntKind.wrap_u64]
  by_cases h : b = 1
  · subst h; rfl
  · have : b = 0 := by omega
    subst this; rfl
theorem mask_and (c : Bool) (x : Nat) (hx : x < 18446744073709551616) : bits .and .u64 (x : Int) ((sel c 18446744073709551615 : Nat) : Int) = ((sel c x : Nat) : Int) := by
  rw [u64_and_nat x _ hx (sel_lt c (by decide))]
  cases c
  · simp [sel]
  · have h := Nat.and_two_pow_sub_one_eq_mod x 64
    rw [e64, Nat.mod_eq_of_lt hx] at h
    show ((x &&& 18446744073709551615 : Nat) : Int) = _
    rw [show (18446744073709551616 - 1 : Nat) = 18446744073709551615 from rfl] at h
    rw [h]; rfl
theorem mask_and' (c : Bool) (x : Nat) (hx : x < 18446744073709551616) : bits .and .u64 ((sel c 18446744073709551615 : Nat) : Int) (x : Int) = ((sel c x : Nat) : Int) := by
  rw [u64_and_nat _ x (sel_lt c (by decide)) hx, Nat.and_comm, ← u64_and_nat x _ hx (sel_lt c (by decide))]
  exact mask_and c x hx
theorem or63 (a b : Nat) (hb : b < 9223372036854775808) : bits .or .u64 ((a * 9223372036854775808 % 18446744073709551616 : Nat) : Int) (b : Int) = ((a % 2 * 9223372036854775808 + b : Nat) : Int) := by
  have e : a * 9223372036854775808 % 18446744073709551616 = a % 2 * 9223372036854775808 := by omega
  have h1 : a % 2 * 9223372036854775808 < 18446744073709551616 := by omega
  have h2 : b < 18446744073709551616 := by omega
  have hj : ∀ i, (2 : Nat) ^ i = 9223372036854775808 → (a % 2 * 9223372036854775808) ||| b = a % 2 * 9223372036854775808 + b := fun i hi => nat_join i _ b (by rw [hi]; exact Nat.mul_mod_left _ _) (by rw [hi]; exact hb)
  rw [e, u64_or_nat _ _ h1 h2, hj 63 (by decide)]
theorem up_cases (n : Nat) (hn : n < 2 ^ 128) : ∃ hi lo b h2 l2 s m k : Nat, hiV n = hi ∧ loV n = lo ∧ bits .and .u64 (lo : Int) 1 = (b : Int) ∧ IntKind.u64.wrap (-(b : Int)) = (m : Int) ∧ (hi : Int) / 2 = (h2 : Int) ∧ bits .and .u64 (m : Int) 16212958658533785600 = (k : Int) ∧
    bits .xor .u64 (h2 : Int) (k : Int) = ((hiV (upV n) : Nat) : Int) ∧ IntKind.u64.wrap ((hi : Int) * 9223372036854775808) = (s : Int) ∧ (lo : Int) / 2 = (l2 : Int) ∧ bits .or .u64 (s : Int) (l2 : Int) = ((loV (upV n) : Nat) : Int) := by
  have h1 := hiV_lt n hn
  have h2 := loV_lt n
  refine ⟨hiV n, loV n, loV n % 2, hiV n / 2, loV n / 2, hiV n * 9223372036854775808 % 18446744073709551616, sel (decide (loV n % 2 = 1)) 18446744073709551615, sel (decide (loV n % 2 = 1)) 16212958658533785600, rfl, rfl, and1 _ h2, neg1 _ (by omega), by omega, mask_and' _ _ (by decide), ?_, ?_, by omega, ?_⟩
  · rw [up_hi, u64_xor_nat _ _ (by omega) (sel_lt _ (by decide))]
  · rw [IntKind.wrap_u64]; omega
  · rw [up_lo, or63 _ _ (by omega)]
theorem arr2 : Tryz.prog.underlying 142 = some (.array 2 115) := Tryz.underlying142
theorem i2 : (Tryz.prog.info? 142).map (·.size) = some 2 := by kernel_rfl
theorem i2l (l : List Nat) (h : l.length = 2) : (Tryz.prog.info? 142).map (·.size) = some (l.map uv).length := by rw [List.length_map, h]; exact i2
set_option maxHeartbeats 2000000 in
theorem up_any (n : Nat) (w : World) (hn : n < 2 ^ 128) :
    Calls Tryz.prog 144 #[.agg ((rowL n).map uv).toArray] w fun e w' => e = .returned (.agg ((rowL (upV n)).map uv).toArray) ∧ Below w.heap.size w w' := by
  obtain ⟨hi, lo, b, h2, l2, s, m, k, h_hi, h_lo, hb, hm, hh2, hk, hx, hs, hl2, ho⟩ := up_cases n hn
  have hr : rowL (upV n) = [hiV (upV n), loV (upV n)] := rfl
  rw [hr]
  have hr0 : rowL n = [hi, lo] := by rw [rowL, h_hi, h_lo]
  rw [hr0]
  clear h_hi h_lo hr hr0
  generalize hiV (upV n) = hi' at hx ⊢
  generalize loV (upV n) = lo' at ho ⊢
  have hbd : ∀ W, (Instr.build 142 #[(0, .int .u64 (hi' : Int)), (1, .int .u64 (lo' : Int))]).run Tryz.prog W = .ok (.agg (([hi', lo'] : List Nat).map uv).toArray) W := fun W => by kernel_rfl
  simp only [List.map_cons, List.map_nil, uv] at hbd ⊢
  go_enter Tryz.func144, Tryz.ntmps144
  go_wp2
  have hh := heap2p w (.cells #[.int .u64 (hi : Int), .int .u64 (lo : Int)] 142) (.cells #[.int .u64 (hi' : Int), .int .u64 (lo' : Int)] 142)
  exact bodyPost_ret (results_cell_row (P := Tryz.prog) rfl _ _ (w.heap.size + 1) 142 #[.int .u64 (hi' : Int), .int .u64 (lo' : Int)] (0, 0) _ rfl hh.2.1 arr2 rfl i2) rfl ⟨rfl, hh.2.2⟩

/-- a number of 128 bits as a block -/
def blkL (n : Nat) : List UInt8 := putBig n 16
theorem blkL_len (n : Nat) : (blkL n).length = 16 := putBig_len _ _
def flatR (n : Nat) (i : Nat) : List UInt8 := if i = 0 then List.replicate 16 0 else if i = 1 then putBig (hiV n) 8 ++ List.replicate 8 0 else blkL n
theorem flatR_len (n i : Nat) : (flatR n i).length = 16 := by
  unfold flatR; split
  · simp
  · split
    · simp [putBig_len]
    · exact blkL_len n
theorem flatR_end (n : Nat) : putBig (hiV n) 8 ++ putBig (loV n) 8 = blkL n := by
  unfold blkL
  rw [show (16 : Nat) = 8 + 8 from rfl, putBig_split]
  have m1 := putBig_mod n 8 8 (Nat.le_refl _)
  have h8 : (256 : Nat) ^ 8 = 18446744073709551616 := by decide
  rw [h8] at m1 ⊢
  rw [← m1]; rfl
theorem flatR_step (n i : Nat) (hi : i < 2) : splice ((flatR n i).map bv) (8 * i) ((putBig ((rowL n).getD i 0) 8).map bv) = (flatR n (i + 1)).map bv := by
  match i, hi with
  | 0, _ =>
    have := splice_first (bv 0) 8 8 ((putBig (hiV n) 8).map bv) (by simp [putBig_len])
    simp only [flatR, List.map_append, List.map_replicate]
    exact this
  | 1, _ =>
    have := splice_last (bv 0) 8 8 ((putBig (hiV n) 8).map bv) ((putBig (loV n) 8).map bv) (by simp [putBig_len]) (by simp [putBig_len])
    rw [show flatR n (1 + 1) = blkL n from rfl, ← flatR_end, List.map_append, ← this]
    simp only [flatR, List.map_append, List.map_replicate]
    rfl
set_option maxHeartbeats 2000000 in
theorem gflat_any (n : Nat) (w : World) (hn : n < 2 ^ 128) :
    Calls Tryz.prog 111 #[.agg ((rowL n).map uv).toArray] w fun e w' => e = .returned (.agg ((blkL n).map bv).toArray) ∧ Below w.heap.size w w' := by
  have HN : Hid (∀ i, i < 2 → (rowL n).getD i 0 < 18446744073709551616) := fun i hi => by
    match i, hi with
    | 0, _ => exact hiV_lt n hn
    | 1, _ => exact loV_lt n
  clear hn
  have HRL := Lib.hid (rowL_len n)
  have HFS := Lib.hid (flatR_step n)
  obtain ⟨R, HR⟩ : ∃ R, Hid (rowL n = R) := ⟨_, rfl⟩
  rw [HR.out] at HRL HFS HN ⊢
  go_enter Tryz.func111, Tryz.ntmps111
  go_wp2_with fail
  generalize hV : ((w.alloc _).alloc _).alloc _ = W0
  have F0 : Hid (W0.heap[w.heap.size]? = some (.cells (R.map uv).toArray 142 (0, 0))) := by rw [← hV]; exact (heap3 w _ _ _).1
  have F1 : Hid (W0.heap[w.heap.size + 1]? = some (.cells (List.replicate 16 (Value.int .u8 0)).toArray 64 (0, 0))) := by rw [← hV]; exact (heap3 w _ _ _).2.1
  have F2 : Hid (W0.heap[w.heap.size + 1 + 1]? = some (.cells ((flatR n 0).map bv).toArray 64 (0, 0))) := by rw [← hV]; exact (heap3 w _ _ _).2.2.1
  have FB : Hid (Below w.heap.size w W0) := by rw [← hV]; exact (heap3 w _ _ _).2.2.2
  clear hV
  generalize hg2 : w.heap.size + 1 + 1 = g2 at F2 ⊢
  generalize hg1 : w.heap.size + 1 = g1 at F1 ⊢
  have HG2 : Hid (w.heap.size + 1 + 1 = g2) := hg2
  have HG1 : Hid (w.heap.size + 1 = g1) := hg1
  clear hg1 hg2
  go_loopw [5] (fun vi wr => ∃ (i : Nat), i ≤ 2 ∧ vi = .int .i64 (i : Int) ∧ Hid (Below w.heap.size w wr) ∧ Hid (wr.heap[w.heap.size]? = some (.cells (R.map uv).toArray 142 (0, 0))) ∧ Hid (wr.heap[g1]? = some (.cells (List.replicate 16 (Value.int .u8 0)).toArray 64 (0, 0))) ∧
     Hid (wr.heap[g2]? = some (.cells ((flatR n i).map bv).toArray 64 (0, 0)))) (fun i _ => 2 - (intOf i).toNat)
  case atStart => exact ⟨0, by omega, rfl, FB, F0, F1, F2⟩
  case round =>
    clear F0 F1 F2 FB
    obtain ⟨i, hi, rfl, HB, H0, H1, H2⟩ := hrel
    by_cases hlt : i < 2
    · have e1 : (i : Int) < 2 := by omega
      obtain ⟨q, hq⟩ : ∃ q, q = 8 * i := ⟨_, rfl⟩
      have sl := arr_from arr16B s8 ⟨g2, 0, none⟩ .i64 (q : Int) (by omega) (by omega)
      rw [Int.toNat_natCast, show cutA ⟨g2, 0, none⟩ 16 q = ⟨g2, q, none⟩ from by unfold cutA; rw [if_neg (by omega), Addr.add_mid, Nat.zero_add]] at sl
      have u1 : IntKind.i64.wrap (8 * (i : Int)) = (q : Int) := by rw [IntKind.wrap_i64]; omega
      have c0 := ucell H0.out i (by rw [HRL.out]; exact hlt)
      have HST := Lib.hid (HFS.out i hlt)
      have HX64 := Lib.hid (HN.out i hlt)
      rw [← hq] at HST
      generalize R.getD i 0 = x at c0 HST HX64
      have HQ : Hid (q + 8 ≤ 16) := by show _ ≤ _; omega
      have HL32 := Lib.hid (flatR_len n i)
      clear hq
      have HX : Hid (Below g2 wr wr.drew) := (Below.refl _ _).drew
      have q2 : w.heap.size < g2 := by have := HG2.out; omega
      have hg2w : Hid (g2 ≤ wr.heap.size) := Nat.le_of_lt (lt_of_heap H2.out)
      go_wp2_with fail
      refine regB_start (g2) (by kernel_rfl) ?_
      try simp only [Act.put, List.setIfInBounds_toArray, List.set_cons_zero, List.set_cons_succ]
      refine regB_take (v := ?_) 0 (some 8) rfl rfl (by kernel_rfl) (by kernel_rfl) (by kernel_rfl) (fun _ _ _ h => h) (by rfl) (fun W hW => ?_) ?_
      rotate_left
      · (go_simp; try rfl)
      simp only [Act.put, List.setIfInBounds_toArray, List.set_cons_zero, List.set_cons_succ]
      refine regB_take (v := ?_) 1 (some 9) rfl rfl (by kernel_rfl) (by kernel_rfl) (by kernel_rfl) (fun _ _ _ h => h) (by rfl) (fun W hW => ?_) ?_
      rotate_left
      · (go_simp; try rfl)
      simp only [Act.put, List.setIfInBounds_toArray, List.set_cons_zero, List.set_cons_succ]
      refine regB_take (v := ?_) 2 (some 10) rfl rfl (by kernel_rfl) (by kernel_rfl) (by kernel_rfl) (fun _ _ _ h => h) (by rfl) (fun W hW => ?_) ?_
      rotate_left
      · (go_simp; try rfl)
      simp only [Act.put, List.setIfInBounds_toArray, List.set_cons_zero, List.set_cons_succ]
      refine regB_take (v := ?_) 3 (some 11) rfl rfl (by kernel_rfl) (by kernel_rfl) (by kernel_rfl) (fun _ _ _ h => h) (by rfl) (fun W hW => ?_) ?_
      rotate_left
      · (go_simp; try rfl)
      simp only [Act.put, List.setIfInBounds_toArray, List.set_cons_zero, List.set_cons_succ]
      refine regB_take (v := ?_) 4 (some 12) rfl rfl (by kernel_rfl) (by kernel_rfl) (by kernel_rfl) (fun _ _ _ h => h) (by rfl) (fun W hW => ?_) ?_
      rotate_left
      · (go_simp; try rfl)
      simp only [Act.put, List.setIfInBounds_toArray, List.set_cons_zero, List.set_cons_succ]
      refine regB_load 5 (some 13) (fun W hW => load_cell Tryz.underlying115 ((hW.cell q2).trans c0)) rfl rfl rfl rfl (by kernel_rfl) (by kernel_rfl) (by kernel_rfl) (fun _ _ _ h => h) (by rfl) ?_
      simp only [Act.put, List.setIfInBounds_toArray, List.set_cons_zero, List.set_cons_succ]
      refine regB_eff 6 rfl (by kernel_rfl) (fun K hK => ?_)
      go_simp
      refine (putBig_any x 8 _ HX64.out (by omega)).mono ?_
      rintro e w3 ⟨g3, hg3, rfl, hk3, hE0⟩
      have F3 : Hid (w3.heap[g2]? = _) := (hE0.block _ (lt_of_heap (w := wr.drew) H2.out)).trans H2.out
      have F1' : Hid (w3.heap[g1]? = _) := (hE0.block _ (lt_of_heap (w := wr.drew) H1.out)).trans H1.out
      have F0' : Hid (w3.heap[w.heap.size]? = _) := (hE0.block _ (lt_of_heap (w := wr.drew) H0.out)).trans H0.out
      have FB' : Hid (Below w.heap.size w w3) := Below.step (w1 := wr.drew) HB.out.drew hE0
      have R3 := Lib.hid (row_of_heap hk3 (Nat.lt_succ_self g3))
      have hE : Below g2 wr.drew w3 := RowKit.Below.mono hE0 hg2w.out
      clear hE0 hk3 hg3
      refine hK.out _ _ hE ?_
      have HX := Lib.hid (Below.trans HX.out hE)
      clear hE hK K
      try simp only [Act.put, List.setIfInBounds_toArray, List.set_cons_zero, List.set_cons_succ]
      refine regB_eff 7 rfl (by kernel_rfl) (fun K hK => ?_)
      obtain ⟨w5, hrun, hblk, _, hgr⟩ := copy_run uT s8 (sT := 22) 3 w3 g2 q ((flatR n i).map bv) 64 F3.out (some ⟨g2, q, none⟩) (some ⟨g3, 0, none⟩) (16 - q) (16 - q) 8 8 (g3 + 1) ((putBig x 8).map bv) (by have := HQ.out; simp only [List.length_map, putBig_len]; omega) (fun _ => rfl) R3.out (by have := HQ.out; simp only [List.length_map, putBig_len, HL32.out]; omega) (bv_one _)
      rw [HST.out] at hblk
      have E2 := Lib.hid hblk
      have EG := Lib.hid hgr
      refine step_cpy rfl (.tmp 10) (.tmp 14) 22 22 rfl hrun ?_
      have hE : Below g2 w3 w5 := grown_below hgr (Nat.le_refl _) (Nat.le_of_lt (lt_of_heap F3.out))
      clear hrun hblk hgr
      refine hK.out _ _ hE ?_
      have HX := Lib.hid (Below.trans HX.out hE)
      clear hE hK K
      try simp only [Act.put, List.setIfInBounds_toArray, List.set_cons_zero, List.set_cons_succ]
      refine regB_done (by kernel_rfl) ?_
      clear u1
      go_wp2
      go_roundw
      case rel =>
        have q3 := HG2.out
        have q1 := HG1.out
        refine ⟨i + 1, by omega, by go_num, ?_, ?_, ?_, E2⟩
        · exact FB'.out.trans (grown_below EG.out (by omega) FB'.out.size)
        · exact (EG.out.block _ (lt_of_heap F0'.out) (by simp; omega)).trans F0'.out
        · exact (EG.out.block _ (lt_of_heap F1'.out) (by simp; omega)).trans F1'.out
      case measure => simp [intOf]; omega
    · have H2' : Hid (wr.heap[g2]? = some (.cells ((blkL n).map bv).toArray 64 (0, 0))) := by have := H2.out; rw [show i = 2 by omega] at this; exact this
      have hl : Hid (((blkL n).map bv).length = 16) := by show _ = _; rw [List.length_map, blkL_len]
      obtain ⟨L, HL⟩ : ∃ L, Hid (blkL n = L) := ⟨_, rfl⟩
      rw [HL.out] at hl H2'
      go_wp2_with (first
        | (refine wpList_ld rfl 64 (.tmp 3) rfl (load_arr arr16B rfl (by rw [hl.out]; exact i16B) H2'.out) ?_)
        | (refine wpList_st rfl 64 (.tmp 2) (.tmp 17) rfl (store_arr (cs := L.map bv) (by rw [hl.out]; exact i16B) (bv_one _) H1.out (by rw [hl.out]; simp)) ?_))
      have hres := setRow_heap wr g1 _ (L.map bv).toArray 64 _ H1.out
      rw [HL.out]
      exact bodyPost_ret (results_cell_row (P := Tryz.prog) rfl _ _ g1 64 (L.map bv).toArray (0, 0) _ rfl hres arr16B rfl (by rw [List.size_toArray, hl.out]; exact i16B)) rfl ⟨rfl, HB.out.trans (grown_below (grown_setRow _ _ _) (by have := HG1.out; omega) HB.out.size)⟩
end Go.Proofs.YtimgggpojbpfkaaGreatDoor

/- Package ghash: Mul. -/
namespace Go.Proofs.YtimgggpojbpfkaaGreatDoor
open Go.RowKit
set_option maxRecDepth 100000
set_option linter.unusedVariables false
set_option linter.unusedSimpArgs false
/-- the product of two blocks -/
def gmulL (a b : List UInt8) : List UInt8 := blkL (mulV (bigN a) (bigN b))
theorem gmulL_len (a b : List UInt8) : (gmulL a b).length = 16 := blkL_len _
theorem big16_lt (a : List UInt8) (h : a.length = 16) : bigN a < 2 ^ 128 := by
  have := bigN_lt a
  rw [h] at this
  exact Nat.lt_of_lt_of_eq this (by decide)
theorem bigN_blk (n : Nat) (h : n < 2 ^ 128) : bigN (blkL n) = n := by
  rw [blkL, bigN_put, Nat.mod_eq_of_lt (Nat.lt_of_lt_of_eq h (by decide))]
theorem blk_big (a : List UInt8) (h : a.length = 16) : blkL (bigN a) = a := by
  have := putBig_big a
  rwa [h] at this
theorem byte_bit (n k j : Nat) (hj : j < 8) : (byteAt n k).toNat.testBit j = n.testBit (8 * k + j) := by
  rw [byteAt, UInt8.toNat_ofNat', pow256, show (2 : Nat) ^ 8 = 2 ^ 8 from rfl, Nat.testBit_mod_two_pow, Nat.testBit_div_two_pow]
  simp [hj, Nat.add_comm]
theorem bit_byte (a : List UInt8) (h : a.length = 16) (i : Nat) (hi : i < 128) : bitV (bigN a) i = (a.getD (i / 8) 0).toNat.testBit (7 - i % 8) := by
  have e : a.getD (i / 8) 0 = byteAt (bigN a) (15 - i / 8) := by
    have hb := blk_big a h
    have hk : i / 8 < 16 := by omega
    have : (blkL (bigN a)).getD (i / 8) 0 = byteAt (bigN a) (15 - i / 8) := by
      simp [blkL, putBig, List.getD, hk]
    rwa [hb] at this
  rw [e, byte_bit _ _ _ (by omega), bitV]
  congr 1; omega
theorem and1b (x k : Nat) (hx : x < 256) : bits .and .u8 ((x / 2 ^ k : Nat) : Int) 1 = ((x / 2 ^ k % 2 : Nat) : Int) := by
  have hlt : x / 2 ^ k < 256 := Nat.lt_of_le_of_lt (Nat.div_le_self _ _) hx
  have h := u8_and_nat (x / 2 ^ k) 1 hlt (by decide)
  rw [show x / 2 ^ k &&& 1 = x / 2 ^ k % 2 from Nat.and_two_pow_sub_one_eq_mod _ 1] at h
  exact h
theorem bit_num (x k : Nat) : x.testBit k = decide (x / 2 ^ k % 2 = 1) := Nat.testBit_eq_decide_div_mod_eq
/-- what the loop of Mul reckons in a round -/
theorem mul_cases (a : List UInt8) (h : a.length = 16) (B i : Nat) (hi : i < 128) (hB : B < 2 ^ 128) : ∃ (x : UInt8) (k y b m : Nat) (c : Bool), a.getD (i / 8) 0 = x ∧ k = 7 - i % 8 ∧ k ≤ 7 ∧ (x.toNat : Int) / 2 ^ k = (y : Int) ∧ bits .and .u8 (y : Int) 1 = (b : Int) ∧ b < 2 ∧ IntKind.u64.wrap (-(b : Int)) = (m : Int) ∧
    bitV (bigN a) i = c ∧ (∀ z : Nat, z < 18446744073709551616 → bits .and .u64 (z : Int) (m : Int) = ((sel c z : Nat) : Int)) := by
  refine ⟨a.getD (i / 8) 0, 7 - i % 8, (a.getD (i / 8) 0).toNat / 2 ^ (7 - i % 8), (a.getD (i / 8) 0).toNat / 2 ^ (7 - i % 8) % 2, sel (bitV (bigN a) i) 18446744073709551615, _, rfl, rfl, by omega, by simp, and1b _ _ (a.getD (i / 8) 0).toNat_lt, Nat.mod_lt _ (by decide), ?_, rfl, fun z hz => mask_and _ _ hz⟩
  rw [neg1 _ (Nat.mod_lt _ (by decide)), bit_byte a h i hi, bit_num]
theorem sum_hi (s p : Nat) (c : Bool) (hs : s < 2 ^ 128) (hp : p < 2 ^ 128) : bits .xor .u64 ((hiV s : Nat) : Int) ((sel c (hiV p) : Nat) : Int) = ((hiV (s ^^^ sel c p) : Nat) : Int) := by
  rw [u64_xor_nat _ _ (hiV_lt s hs) (sel_lt c (hiV_lt p hp)), hiV_xor]
  cases c <;> simp [sel, hiV]
theorem sum_lo (s p : Nat) (c : Bool) : bits .xor .u64 ((loV s : Nat) : Int) ((sel c (loV p) : Nat) : Int) = ((loV (s ^^^ sel c p) : Nat) : Int) := by
  rw [u64_xor_nat _ _ (loV_lt s) (sel_lt c (loV_lt p)), loV_xor]
  cases c <;> simp [sel, loV]
theorem row_of_words (a : List UInt8) (h : a.length = 16) : big (a.take 8) = hiV (bigN a) ∧ big (a.drop 8) = loV (bigN a) := by
  have e1 : big (a.take 8) = bigN (a.take 8) := by unfold big; rw [show (a.take 8).length - 8 = 0 by simp [h]]; rfl
  have e2 : big (a.drop 8) = bigN (a.drop 8) := by unfold big; rw [show (a.drop 8).length - 8 = 0 by simp [h]]; rfl
  have e := bigN_append (a.take 8) (a.drop 8)
  rw [List.take_append_drop, show (a.drop 8).length = 8 by simp [h]] at e
  have h8 : (256 : Nat) ^ 8 = 18446744073709551616 := by decide
  have hl := bigN_lt8 (a.drop 8) (by simp [h])
  rw [h8] at e
  rw [e1, e2, e]
  unfold hiV loV
  constructor <;> omega
theorem step_val {P : Program} {w w' : World} {ops : Array Oper} {o : Oper} {a : Act} {K : Act → World → Prop} {Q : Exit → Act → World → Prop} {E : Prop} (hg : o.guard = none) {v : Value}
    (hrun : (execOp a.eval o).run P w = .ok (.value v) w') (h : K (a.put o.dst v) w') : if Region.wanted o (yielded ops a.tmps) = true then Oper.wp P o a w K Q else E := by
  have hw : Region.wanted o (yielded ops a.tmps) = true := by simp [Region.wanted, hg]
  rw [if_pos hw]
  unfold Oper.wp
  simp only [hrun]
  exact h
/-- what holds in the region that makes b's words, whichever operations have come up -/
structure MJ (q : Nat) (R : List Nat) (W0 : World) (L : Nat → Bool) (v6 v9 v10 v11 v12 v13 : Value) (W : World) : Prop where
  b : Below W0.heap.size W0 W
  f0 : L 0 = true → v9 = .slice (some ⟨q + 1, 0, none⟩) 8 16
  f1 : L 1 = true → v10 = .int .u64 ((R.getD 0 0 : Nat) : Int)
  f2 : L 2 = true → v11 = .slice (some ⟨q + 1, 8, none⟩) 8 8
  f3 : L 3 = true → v12 = .int .u64 ((R.getD 1 0 : Nat) : Int)
  f4 : L 4 = true → v13 = .agg (R.map uv).toArray
  f5 : L 5 = true → ∃ (g : Nat) (Y : List Value), v6 = .pointer (some ⟨g, 0, none⟩) ∧ W0.heap.size ≤ g ∧ W.heap[g]? = some (.cells Y.toArray 142 (0, 0)) ∧ Y.length = 2 ∧ (L 6 = true → Y = R.map uv)
  d6 : L 6 = true → L 5 = true
theorem MJ.ext {q : Nat} {R : List Nat} {W0 : World} {L : Nat → Bool} {v6 v9 v10 v11 v12 v13 : Value} {W W' : World} (h : MJ q R W0 L v6 v9 v10 v11 v12 v13 W) (hE : Ext W W') : MJ q R W0 L v6 v9 v10 v11 v12 v13 W' :=
  ⟨h.b.trans (hE.mono h.b.size), h.f0, h.f1, h.f2, h.f3, h.f4, fun a => by
    obtain ⟨g, Y, h1, h2, h3, h4⟩ := h.f5 a
    exact ⟨g, Y, h1, h2, (hE.block _ (lt_of_heap h3)).trans h3, h4⟩, h.d6⟩
def mkM (q : Nat) (v0 v1 v6 v9 v10 v11 v12 v13 : Value) : Act := { tmps := #[v0, v1, .pointer (some ⟨q, 0, none⟩), .pointer (some ⟨q + 1, 0, none⟩), .pointer (some ⟨q + 2, 0, none⟩), .pointer (some ⟨q + 3, 0, none⟩), v6, undef, undef, v9, v10, v11, v12, v13, undef, undef, undef, undef, undef, undef, undef, undef, undef, undef, undef, undef, undef, undef, undef, undef, undef, undef, undef, undef, undef, undef, undef, undef, undef, undef, undef, undef, undef, undef, undef, undef, undef, undef, undef, undef], defers := [] }
set_option maxHeartbeats 4000000 in
theorem gmul_any (a b : List UInt8) (w : World) (ha : a.length = 16) (hb : b.length = 16) :
    Calls Tryz.prog 133 #[.agg (a.map bv).toArray, .agg (b.map bv).toArray] w fun e w' => e = .returned (.agg ((gmulL a b).map bv).toArray) ∧ Below w.heap.size w w' := by
  have HA := Lib.hid ha; have HBL := Lib.hid hb
  have hz : ∀ W, (zeroValue 142).run Tryz.prog W = .ok (.agg ((rowL 0).map uv).toArray) W := fun W => by kernel_rfl
  have hz16 : ∀ W, (zeroValue 64).run Tryz.prog W = .ok (.agg zer16.toArray) W := fun W => by kernel_rfl
  have hlz : Hid (zer16.length = 16) := rfl
  obtain ⟨hhi, hlo⟩ := row_of_words b hb
  have HHI := Lib.hid hhi; have HLO := Lib.hid hlo
  clear ha hb hhi hlo
  obtain ⟨Z0, HZ0⟩ : ∃ Z, Hid (rowL 0 = Z) := ⟨_, rfl⟩
  rw [HZ0.out] at hz
  generalize zer16 = Z at hz16 hlz
  obtain ⟨q, HQ⟩ : ∃ q, Hid (w.heap.size = q) := ⟨_, rfl⟩
  have G := Lib.hid (heap4 w (.cells (a.map bv).toArray 64) (.cells (b.map bv).toArray 64) (.cells Z.toArray 64) (.cells (Z0.map uv).toArray 142) _ rfl)
  go_enter Tryz.func133, Tryz.ntmps133
  go_upto_region 2 with (fail)
  generalize hV : (((w.alloc _).alloc _).alloc _).alloc _ = W0 at G ⊢
  clear hV hz16
  have G1 := G.out.2.1
  have GS : Hid (w.heap.size + 3 < W0.heap.size) := lt_of_heap G.out.2.2.2.1
  rw [HQ.out] at G1 GS G ⊢
  have sl0 := arr_to arr16B s8 ⟨q + 1, 0, none⟩ .i64 8 (by decide) (by decide)
  have sl1 := arr_from arr16B s8 ⟨q + 1, 0, none⟩ .i64 8 (by decide) (by decide)
  rw [show (8 : Int).toNat = 8 from rfl] at sl0 sl1
  rw [show cutA ⟨q + 1, 0, none⟩ 16 8 = ⟨q + 1, 8, none⟩ from by unfold cutA; rw [if_neg (by decide), Addr.add_mid, Nat.zero_add], show 16 - 8 = 8 from rfl] at sl1
  obtain ⟨B, hBN⟩ : ∃ B, B = bigN b := ⟨_, rfl⟩
  have hBlt : Hid (B < 2 ^ 128) := by show _ < _; rw [hBN]; exact big16_lt b HBL.out
  have hbd : Hid (∀ W, (Instr.build 142 #[(0, .int .u64 ((hiV B : Nat) : Int)), (1, .int .u64 ((loV B : Nat) : Int))]).run Tryz.prog W = .ok (.agg ((rowL B).map uv).toArray) W) := fun W => by kernel_rfl
  have HBN := Lib.hid hBN
  rw [← hBN] at HHI HLO
  clear hBN
  have HG1 := Lib.hid G1
  clear G1
  refine reg_inv (fun L a' W => ∃ v6 v9 v10 v11 v12 v13, a' = mkM q (.agg (a.map bv).toArray) (.agg (b.map bv).toArray) v6 v9 v10 v11 v12 v13 ∧ MJ q (rowL B) W0 L v6 v9 v10 v11 v12 v13 W) (by kernel_rfl) (by kernel_rfl) ?_
    (And.intro ?_ (And.intro ?_ (And.intro ?_ (And.intro ?_ (And.intro ?_ (And.intro ?_ (And.intro ?_ trivial))))))) ?_
  · intro L hL
    have hL' : ∀ j, j < 7 → L j = false := hL
    have no : ∀ j, j < 7 → L j = true → False := fun j hj h => by rw [hL' j hj] at h; cases h
    exact ⟨_, _, _, _, _, _, rfl, ⟨(Below.refl _ _).drew, fun h => (no 0 (by decide) h).elim, fun h => (no 1 (by decide) h).elim, fun h => (no 2 (by decide) h).elim, fun h => (no 3 (by decide) h).elim, fun h => (no 4 (by decide) h).elim, fun h => (no 5 (by decide) h).elim, fun h => (no 6 (by decide) h).elim⟩⟩
  · rintro L a' W ⟨v6, v9, v10, v11, v12, v13, rfl, H⟩ hLi hd K0 hK
    simp only [mkM]
    go_simp
    exact hK.out _ _ ⟨v6, _, v10, v11, v12, v13, rfl, ⟨H.b, fun _ => rfl, fun h => H.f1 h, fun h => H.f2 h, fun h => H.f3 h, fun h => H.f4 h, fun h => H.f5 h, fun h => H.d6 h⟩⟩
  · rintro L a' W ⟨v6, v9, v10, v11, v12, v13, rfl, H⟩ hLi hd K0 hK
    obtain rfl := H.f0 (hd ⟨0, .data⟩ (by simp) rfl)
    have hg1 : W.heap[q + 1]? = _ := (H.b.block _ (lt_of_heap HG1.out)).trans HG1.out
    have hr := row_sub hg1 0 8 (lt_of_heap hg1)
    rw [List.drop_zero] at hr
    simp only [mkM]
    go_simp
    refine (big_n (some ⟨q + 1, 0, none⟩) 8 16 (b.take 8) W (by rw [List.length_take, HBL.out]; rfl) (by decide) (by simp [maxLen]) hr).mono ?_
    rintro e W' ⟨rfl, hb⟩
    exact hK.out _ _ ⟨v6, _, _, v11, v12, v13, rfl, ⟨(H.ext hb).b, fun h => rfl, fun _ => by rw [HHI.out]; rfl, fun h => H.f2 h, fun h => H.f3 h, fun h => H.f4 h, fun h => (H.ext hb).f5 h, fun h => H.d6 h⟩⟩
  · rintro L a' W ⟨v6, v9, v10, v11, v12, v13, rfl, H⟩ hLi hd K0 hK
    simp only [mkM]
    go_simp
    exact hK.out _ _ ⟨v6, v9, v10, _, v12, v13, rfl, ⟨H.b, fun h => H.f0 h, fun h => H.f1 h, fun _ => rfl, fun h => H.f3 h, fun h => H.f4 h, fun h => H.f5 h, fun h => H.d6 h⟩⟩
  · rintro L a' W ⟨v6, v9, v10, v11, v12, v13, rfl, H⟩ hLi hd K0 hK
    obtain rfl := H.f2 (hd ⟨2, .data⟩ (by simp) rfl)
    have hg1 : W.heap[q + 1]? = _ := (H.b.block _ (lt_of_heap HG1.out)).trans HG1.out
    have hr := row_sub hg1 8 8 (lt_of_heap hg1)
    rw [List.take_of_length_le (by rw [List.length_drop, HBL.out]; decide)] at hr
    simp only [mkM]
    go_simp
    refine (big_n (some ⟨q + 1, 8, none⟩) 8 8 (b.drop 8) W (by rw [List.length_drop, HBL.out]) (by decide) (by simp [maxLen]) hr).mono ?_
    rintro e W' ⟨rfl, hb⟩
    exact hK.out _ _ ⟨v6, v9, v10, _, _, v13, rfl, ⟨(H.ext hb).b, fun h => H.f0 h, fun h => H.f1 h, fun h => rfl, fun _ => by rw [HLO.out]; rfl, fun h => H.f4 h, fun h => (H.ext hb).f5 h, fun h => H.d6 h⟩⟩
  · rintro L a' W ⟨v6, v9, v10, v11, v12, v13, rfl, H⟩ hLi hd K0 hK
    obtain rfl := H.f1 (hd ⟨1, .data⟩ (by simp) rfl)
    obtain rfl := H.f3 (hd ⟨3, .data⟩ (by simp) rfl)
    refine step_val rfl (v := .agg ((rowL B).map uv).toArray) (w' := W) (exec_bld rfl (by simp only [List.map_toArray, List.map_cons, List.map_nil]; exact hbd.out W)) ?_
    exact hK.out _ _ ⟨v6, v9, _, v11, _, _, rfl, ⟨H.b, fun h => H.f0 h, fun h => rfl, fun h => H.f2 h, fun h => rfl, fun _ => rfl, fun h => H.f5 h, fun h => H.d6 h⟩⟩
  · rintro L a' W ⟨v6, v9, v10, v11, v12, v13, rfl, H⟩ hLi hd K0 hK
    simp only [mkM]
    go_simp
    refine hK.out _ _ ⟨_, v9, v10, v11, v12, v13, rfl, ⟨(H.ext ((Below.refl _ W).alloc (Nat.le_refl _) _)).b, fun h => H.f0 h, fun h => H.f1 h, fun h => H.f2 h, fun h => H.f3 h, fun h => H.f4 h, fun _ => ⟨W.heap.size, Z0.map uv, rfl, H.b.size, heap_alloc_new' W _, by rw [List.length_map, ← HZ0.out]; rfl, fun h => ?_⟩, fun h => rfl⟩⟩
    have h6 : L 6 = true := h
    rw [H.d6 h6] at hLi; cases hLi
  · rintro L a' W ⟨v6, v9, v10, v11, v12, v13, rfl, H⟩ hLi hd K0 hK
    obtain rfl := H.f4 (hd ⟨4, .data⟩ (by simp) rfl)
    obtain ⟨g, Y, rfl, h2, h3, h4, _⟩ := H.f5 (hd ⟨5, .data⟩ (by simp) rfl)
    refine step_st1 rfl 142 (.tmp 6) (.tmp 13) rfl (store_arr (cs := (rowL B).map uv) (i2l (rowL B) rfl) (uv_one _) h3 (by rw [h4]; rfl)) ?_
    generalize hV : World.setRow _ _ _ = W'
    exact hK.out _ _ ⟨_, v9, v10, v11, v12, _, rfl, ⟨H.b.trans (below_of_setRow hV h2 H.b.size), fun h => H.f0 h, fun h => H.f1 h, fun h => H.f2 h, fun h => H.f3 h, fun h => rfl, fun h => ⟨g, _, rfl, h2, heap_of_setRow hV h3, rfl, fun _ => rfl⟩, fun _ => hd ⟨5, .data⟩ (by simp) rfl⟩⟩
  · rintro L a' W hL ⟨v6, v9, v10, v11, v12, v13, rfl, H⟩
    obtain ⟨g, Y, rfl, hg0, hgY, hY2, hYR⟩ := H.f5 (hL 5)
    obtain rfl := hYR (hL 6)
    have N0 : Hid (W.heap[q]? = some (.cells (a.map bv).toArray 64 (0, 0))) := (H.b.block _ (lt_of_heap G.out.1)).trans G.out.1
    have N2 : Hid (W.heap[q + 2]? = some (.cells Z.toArray 64 (0, 0))) := (H.b.block _ (lt_of_heap G.out.2.2.1)).trans G.out.2.2.1
    have N3 : Hid (W.heap[q + 3]? = some (.cells ((rowL 0).map uv).toArray 142 (0, 0))) := by show _ = _; rw [HZ0.out]; exact (H.b.block _ (lt_of_heap G.out.2.2.2.1)).trans G.out.2.2.2.1
    have NG := Lib.hid hgY
    have NB : Hid (Below w.heap.size w W) := by show Below _ _ _; rw [HQ.out]; exact G.out.2.2.2.2.trans (H.b.mono (by rw [← HQ.out]; exact G.out.2.2.2.2.size))
    have hgq : Hid (q + 3 < g) := Nat.lt_of_lt_of_le GS.out hg0
    clear H hL hYR hgY hg0 hY2 G GS HG1 HZ0 hz sl0 sl1 hbd HHI HLO
    obtain ⟨A, HAN⟩ : ∃ A, Hid (A = bigN a) := ⟨_, rfl⟩
    simp only [mkM]
    go_wp2_with fail
    go_loopw [14] (fun vi wr => ∃ (i : Nat), i ≤ 128 ∧ vi = .int .i64 (i : Int) ∧ Hid (Below w.heap.size w wr) ∧ Hid (wr.heap[q]? = some (.cells (a.map bv).toArray 64 (0, 0))) ∧ Hid (wr.heap[q + 2]? = some (.cells Z.toArray 64 (0, 0))) ∧
      Hid (wr.heap[q + 3]? = some (.cells ((rowL (actN A B i)).map uv).toArray 142 (0, 0))) ∧ Hid (wr.heap[g]? = some (.cells ((rowL (upN B i)).map uv).toArray 142 (0, 0)))) (fun i _ => 128 - (intOf i).toNat)
    case atStart => exact ⟨0, by omega, rfl, NB, N0, N2, N3, NG⟩
    case round =>
      clear NB N0 N2 N3 NG
      obtain ⟨i, hi, rfl, HB, H0, H2, H3, HG⟩ := hrel
      by_cases hlt : i < 128
      · have e1 : (i : Int) < 128 := by omega
        obtain ⟨x, k, y, b0, m, c, hx, hk, hk7, hy, hb0, hb2, hm, hc, hmask⟩ := mul_cases a HA.out B i hlt hBlt.out
        obtain ⟨j, hj⟩ : ∃ j, j = i / 8 := ⟨_, rfl⟩
        have c0 : wr.cell? ⟨q, j, none⟩ = some (.int .u8 (x.toNat : Int)) := by
          rw [cell_of_heap H0.out, List.getElem?_map, ← hx, hj]
          simp [List.getD, HA.out, show i / 8 < 16 by omega, bv]
        have hj16 : (j : Int) < 16 := by omega
        have d1 : (i : Int) / 8 = (j : Int) := by omega
        have d2 : 7 - (i : Int) % 8 = (k : Int) := by omega
        have d3 : IntKind.u64.wrap (b0 : Int) = (b0 : Int) := by rw [IntKind.wrap_u64]; omega
        clear hx hk hj
        go_upto_region 7 with (fail)
        obtain ⟨sm, hsm⟩ : ∃ z, z = actN A B i := ⟨_, rfl⟩
        obtain ⟨pt, hpt⟩ : ∃ z, z = upN B i := ⟨_, rfl⟩
        have hsl : sm < 2 ^ 128 := by rw [hsm]; exact actN_lt _ _ _ hBlt.out
        have hpl : pt < 2 ^ 128 := by rw [hpt]; exact upN_lt _ _ hBlt.out
        have HS' : Hid (rowL (actN A B (i + 1)) = rowL (sm ^^^ sel c pt)) := by show _ = _; rw [hsm, hpt, ← hc, HAN.out]; rfl
        have HP' : Hid (rowL (upN B (i + 1)) = rowL (upV pt)) := by show _ = _; rw [hpt]; rfl
        rw [← hsm] at H3
        rw [← hpt] at HG
        have x0 := sum_hi sm pt c hsl hpl
        have x1 := sum_lo sm pt c
        have t0 := hmask (hiV pt) (hiV_lt pt hpl)
        have t1 := hmask (loV pt) (loV_lt pt)
        have UP := Lib.hid (fun W => up_any pt W hpl)
        have HR' : Hid (rowL (sm ^^^ sel c pt) = [hiV (sm ^^^ sel c pt), loV (sm ^^^ sel c pt)]) := rfl
        have HRs : Hid (rowL sm = [hiV sm, loV sm]) := rfl
        have HRp : Hid (rowL pt = [hiV pt, loV pt]) := rfl
        have HUL : Hid ((rowL (upV pt)).length = 2) := rfl
        clear hsm hpt hsl hpl hmask hc hy hb0 hm d1 d2 d3
        generalize rowL (sm ^^^ sel c pt) = RS' at HR' HS'
        generalize hiV (sm ^^^ sel c pt) = r0 at x0 HR'
        generalize loV (sm ^^^ sel c pt) = r1 at x1 HR'
        generalize rowL sm = RS at HRs H3
        generalize rowL (upV pt) = RU at UP HUL HP'
        generalize rowL pt = RP at HRp HG UP
        generalize hiV sm = s0 at x0 HRs
        generalize loV sm = s1 at x1 HRs
        generalize hiV pt = p0 at x0 t0 HRp
        generalize loV pt = p1 at x1 t1 HRp
        generalize sel c p0 = y0 at x0 t0
        generalize sel c p1 = y1 at x1 t1
        obtain rfl := HRs.out
        obtain rfl := HRp.out
        obtain rfl := HR'.out
        have k0 : wr.cell? ⟨q + 3, 0, none⟩ = some (.int .u64 (s0 : Int)) := ucell H3.out 0 (by simp)
        have k1 : wr.cell? ⟨g, 0, none⟩ = some (.int .u64 (p0 : Int)) := ucell HG.out 0 (by simp)
        have fz := frozen_of_heap H3.out 0
        have hne : g ≠ q + 3 := by have := hgq.out; omega
        go_upto_region 8 with (fail)
        generalize hV : World.setCell _ _ _ = W1
        obtain ⟨m1, m2, m3⟩ := ust_row (B := w.heap.size) hV (by have := HQ.out; omega) H3.out
        have M1 : Hid (W1.heap[q + 3]? = some (.cells (([r0, s1] : List Nat).map uv).toArray 142 (0, 0))) := m1
        have MG : Hid (W1.heap[g]? = _) := (m3 g hne).trans HG.out
        have M0 : Hid (W1.heap[q]? = _) := (m3 q (by omega)).trans H0.out
        have M2 : Hid (W1.heap[q + 2]? = _) := (m3 (q + 2) (by omega)).trans H2.out
        have MB := Lib.hid (HB.out.trans m2)
        clear m1 m2 m3 hV k0 k1 fz H3 HG H0 H2 HB c0 x0 t0
        have k0 : W1.cell? ⟨q + 3, 1, none⟩ = some (.int .u64 (s1 : Int)) := ucell M1.out 1 (by simp)
        have k1 : W1.cell? ⟨g, 1, none⟩ = some (.int .u64 (p1 : Int)) := ucell MG.out 1 (by simp)
        have fz := frozen_of_heap M1.out 1
        go_upto_region 9 with (fail)
        generalize hV : World.setCell _ _ _ = W2
        obtain ⟨m1, m2, m3⟩ := ust_row (B := w.heap.size) hV (by have := HQ.out; omega) M1.out
        have N1 : Hid (W2.heap[q + 3]? = some (.cells (([r0, r1] : List Nat).map uv).toArray 142 (0, 0))) := m1
        have NG : Hid (W2.heap[g]? = _) := (m3 g hne).trans MG.out
        have N0 : Hid (W2.heap[q]? = _) := (m3 q (by omega)).trans M0.out
        have N2 : Hid (W2.heap[q + 2]? = _) := (m3 (q + 2) (by omega)).trans M2.out
        have NB := Lib.hid (MB.out.trans m2)
        clear m1 m2 m3 hV k0 k1 fz M1 MG M0 M2 MB x1 t1
        obtain ⟨RP, HRP⟩ : ∃ R, Hid ([p0, p1] = R) := ⟨_, rfl⟩
        have HRL : Hid (RP.length = 2) := by show _ = _; rw [← HRP.out]; rfl
        rw [HRP.out] at NG UP
        go_wp2_with (first
          | (refine wpList_ld rfl 142 (.tmp 6) rfl (load_arr arr2 rfl (i2l RP HRL.out) NG.out) ?_)
          | (refine (UP.out _).mono ?_
             rintro e W3 ⟨rfl, hb3⟩
             have KG : Hid (W3.heap[g]? = _) := (hb3.block _ (lt_of_heap NG.out)).trans NG.out
             have K1 : Hid (W3.heap[q + 3]? = _) := (hb3.block _ (lt_of_heap N1.out)).trans N1.out
             have K0 : Hid (W3.heap[q]? = _) := (hb3.block _ (lt_of_heap N0.out)).trans N0.out
             have K2 : Hid (W3.heap[q + 2]? = _) := (hb3.block _ (lt_of_heap N2.out)).trans N2.out
             have KB := Lib.hid (NB.out.step hb3)
             clear hb3)
          | (refine wpList_st rfl 142 (.tmp 6) (.tmp 46) rfl (store_arr (cs := RU.map uv) (i2l RU HUL.out) (uv_one _) KG.out (by rw [List.length_map, List.length_map, HRL.out, HUL.out])) ?_
             generalize hV : World.setRow _ _ _ = W4
             have J0 := Lib.hid (heap_of_setRow hV KG.out)
             have J1 := Lib.hid (heap_of_other hV (show q + 3 ≠ g from fun e => hne e.symm) K1.out)
             have J2 := Lib.hid (heap_of_other hV (show q ≠ g by have := hgq.out; omega) K0.out)
             have J3 := Lib.hid (heap_of_other hV (show q + 2 ≠ g by have := hgq.out; omega) K2.out)
             have JB := Lib.hid (KB.out.trans (below_of_setRow hV (by have := hgq.out; have := HQ.out; omega) KB.out.size))
             clear hV))
        go_roundw
        case rel => exact ⟨i + 1, by omega, by go_num, JB, J2, J3, by rw [HS'.out]; exact J1, by rw [HP'.out]; exact J0⟩
        case measure => simp [intOf]; omega
      · have H3' : Hid (wr.heap[q + 3]? = some (.cells ((rowL (mulV A B)).map uv).toArray 142 (0, 0))) := by have := H3.out; rw [show i = 128 by omega] at this; exact this
        have hml := Lib.hid (mulV_lt A B hBlt.out)
        have HML : Hid (gmulL a b = blkL (mulV A B)) := by show _ = _; rw [gmulL, HAN.out, HBN.out]
        generalize mulV A B = M at H3' hml HML
        have FL := Lib.hid (fun W => gflat_any M W hml.out)
        have HLB := Lib.hid (blkL_len M)
        generalize blkL M = ML at FL HLB HML
        have HRL := Lib.hid (rowL_len M)
        generalize rowL M = RM at H3' FL HRL
        have e1 : ¬ ((i : Int) < 128) := by omega
        clear H3 HG
        go_wp2_with (first
          | (refine wpList_ld rfl 142 (.tmp 5) rfl (load_arr arr2 rfl (i2l RM HRL.out) H3'.out) ?_)
          | (refine (FL.out _).mono ?_
             rintro e W3 ⟨rfl, hb3⟩
             have K2 : Hid (W3.heap[q + 2]? = _) := (hb3.block _ (lt_of_heap H2.out)).trans H2.out
             have KB := Lib.hid (HB.out.step hb3)
             clear hb3)
          | (refine wpList_st rfl 64 (.tmp 4) (.tmp 49) rfl (store_arr (cs := ML.map bv) (by rw [List.length_map, HLB.out]; exact i16B) (bv_one _) K2.out (by rw [List.length_map, HLB.out]; exact hlz.out)) ?_
             generalize hV : World.setRow _ _ _ = W4
             have hres := heap_of_setRow hV K2.out
             have JB := Lib.hid (KB.out.trans (below_of_setRow hV (by have := HQ.out; omega) KB.out.size))
             clear hV))
        exact bodyPost_ret (results_cell_row (P := Tryz.prog) rfl _ _ (q + 2) 64 (ML.map bv).toArray (0, 0) _ rfl hres arr16B rfl (by rw [List.size_toArray, List.length_map, HLB.out]; exact i16B)) rfl ⟨by rw [HML.out], JB.out⟩
end Go.Proofs.YtimgggpojbpfkaaGreatDoor

/- Layer 6: Pad, the law's example, exclusive or of blocks, powers of x. -/
namespace Go.Proofs.YtimgggpojbpfkaaGreatDoor
open Go.RowKit
set_option maxRecDepth 100000
set_option linter.unusedVariables false
set_option linter.unusedSimpArgs false
/-- how many noughts make n bytes whole blocks -/
def padN (n : Nat) : Nat := (16 - n % 16) % 16
theorem gpad_any (n : Nat) (w : World) (hn : n ≤ 9223372036854775807) : Calls Tryz.prog 112 #[.int .i64 (n : Int)] w fun e w' => e = .returned (.int .i64 (padN n : Int)) ∧ w = w' := by
  by_cases h : n < 1
  · have h0 : n = 0 := by omega
    subst h0
    go_enter Tryz.func112, Tryz.ntmps112
    go_wp2
    go_ret
    exact ⟨rfl, rfl⟩
  · have q1 : ¬ ((n : Int) < 1) := by omega
    have hp : (16 - (n : Int) % 16) % 16 = ((padN n : Nat) : Int) := by unfold padN; omega
    have HP := Lib.hid hp
    clear hp
    go_enter Tryz.func112, Tryz.ntmps112
    go_wp2
    go_ret
    exact ⟨ret_int (by have := HP.out; omega), rfl⟩
theorem gpad_neg (n : Int) (w : World) (hn : n ≤ 0) : Calls Tryz.prog 112 #[.int .i64 n] w fun e w' => e = .returned (.int .i64 0) ∧ w = w' := by
  have q1 : n < 1 := by omega
  go_enter Tryz.func112, Tryz.ntmps112
  go_wp2
  go_ret
  exact ⟨rfl, rfl⟩
def oneB : List UInt8 := [128, 0, 0, 0, 0, 0, 0, 0, 0, 0, 0, 0, 0, 0, 0, 0]
def exB : List UInt8 := [1, 2, 3, 0, 0, 0, 0, 0, 0, 0, 0, 0, 0, 0, 0, 0]
def zerB : List UInt8 := [0, 0, 0, 0, 0, 0, 0, 0, 0, 0, 0, 0, 0, 0, 0, 0]
theorem big_one : bigN oneB = oneV := by decide
theorem big_zer : bigN zerB = 0 := by decide
theorem gmul_one (a : List UInt8) (h : a.length = 16) : gmulL a oneB = a := by
  rw [gmulL, big_one, mulV_one _ (big16_lt a h), blk_big a h]
theorem gmul_zero (a : List UInt8) : gmulL a zerB = zerB := by
  rw [gmulL, big_zer, mulV_zero]; decide
theorem gmul_comm (a b : List UInt8) (ha : a.length = 16) (hb : b.length = 16) : gmulL a b = gmulL b a := by
  rw [gmulL, gmulL, mulV_comm _ _ (big16_lt a ha) (big16_lt b hb)]
theorem big_gmul (a b : List UInt8) (hb : b.length = 16) : bigN (gmulL a b) = mulV (bigN a) (bigN b) := bigN_blk _ (mulV_lt _ _ (big16_lt b hb))
theorem gmul_assoc (a b c : List UInt8) (ha : a.length = 16) (hb : b.length = 16) (hc : c.length = 16) : gmulL (gmulL a b) c = gmulL a (gmulL b c) := by
  rw [gmulL, big_gmul a b hb, gmulL, big_gmul b c hc, mulV_assoc _ _ _ (big16_lt a ha) (big16_lt b hb) (big16_lt c hc)]
theorem blkL_inj (n m : Nat) (hn : n < 2 ^ 128) (hm : m < 2 ^ 128) (h : blkL n = blkL m) : n = m := by
  rw [← bigN_blk n hn, h, bigN_blk m hm]
theorem big_xor (a b : List UInt8) (ha : a.length = 16) (hb : b.length = 16) : bigN (xorL a b) = bigN a ^^^ bigN b := by
  have hx : (xorL a b).length = 16 := by rw [xorL_len, ha, hb]; rfl
  refine eq_of_bits _ _ (big16_lt _ hx) (Nat.xor_lt_two_pow (big16_lt a ha) (big16_lt b hb)) fun i hi => ?_
  have hk : i / 8 < 16 := by omega
  rw [bitV_xor, bit_byte _ hx i hi, bit_byte a ha i hi, bit_byte b hb i hi]
  have e : (xorL a b).getD (i / 8) 0 = a.getD (i / 8) 0 ^^^ b.getD (i / 8) 0 := by
    simp [xorL, List.getD, List.getElem?_zipWith, show i / 8 < a.length by omega, show i / 8 < b.length by omega]
  rw [e, UInt8.toNat_xor, Nat.testBit_xor]
theorem gmul_xor (a b c : List UInt8) (hb : b.length = 16) (hc : c.length = 16) : gmulL a (xorL b c) = xorL (gmulL a b) (gmulL a c) := by
  have hl : (xorL (gmulL a b) (gmulL a c)).length = 16 := by rw [xorL_len, gmulL_len, gmulL_len]; rfl
  rw [← blk_big _ hl, big_xor _ _ (gmulL_len _ _) (gmulL_len _ _), big_gmul a b hb, big_gmul a c hc, gmulL, big_xor b c hb hc, mulV_xor]
theorem gmul_inj (a b c : List UInt8) (ha : a.length = 16) (hb : b.length = 16) (hc : c.length = 16) (h0 : c ≠ zerB) (h : gmulL a c = gmulL b c) : a = b := by
  have hc0 : bigN c ≠ 0 := fun e => h0 (by rw [← blk_big c hc, e]; decide)
  have := mulV_inj _ _ _ (big16_lt a ha) (big16_lt b hb) (big16_lt c hc) hc0 (blkL_inj _ _ (mulV_lt _ _ (big16_lt c hc)) (mulV_lt _ _ (big16_lt c hc)) h)
  rw [← blk_big a ha, this, blk_big b hb]
theorem i16l (l : List UInt8) (h : l.length = 16) : (Tryz.prog.info? 64).map (·.size) = some (l.map bv).length := by rw [List.length_map, h]; exact i16B
def bothN (a b : List UInt8) (i : Nat) : List UInt8 := (xorL a b).take i ++ a.drop i
theorem bothN_len (a b : List UInt8) (i : Nat) (ha : a.length = 16) (hb : b.length = 16) (hi : i ≤ 16) : (bothN a b i).length = 16 := by simp [bothN, xorL_len, ha, hb]; omega
theorem bothN_get (a b : List UInt8) (i : Nat) (ha : a.length = 16) (hb : b.length = 16) (hi : i < 16) : (bothN a b i).getD i 0 = a.getD i 0 := by
  have hl : ((xorL a b).take i).length = i := by simp [xorL_len, ha, hb]; omega
  simp only [bothN, List.getD]
  rw [List.getElem?_append_right (by omega), hl]; simp
theorem bothN_step (a b : List UInt8) (i : Nat) (ha : a.length = 16) (hb : b.length = 16) (hi : i < 16) : (bothN a b i).set i (a.getD i 0 ^^^ b.getD i 0) = bothN a b (i + 1) := by
  have hx : i < (xorL a b).length := by rw [xorL_len, ha, hb]; exact hi
  have hl : ((xorL a b).take i).length = i := by rw [List.length_take]; omega
  unfold bothN
  rw [List.set_append_right _ _ (by omega), hl, Nat.sub_self, List.drop_eq_getElem_cons (show i < a.length by omega), List.set_cons_zero, List.take_succ_eq_append_getElem hx, List.append_assoc]
  congr 1
  simp [xorL, List.getD, ha, hb, hi]
end Go.Proofs.YtimgggpojbpfkaaGreatDoor

/- Package ghash: Sum, Lengths. -/
namespace Go.Proofs.YtimgggpojbpfkaaGreatDoor
open Go.RowKit
set_option maxRecDepth 100000
set_option linter.unusedVariables false
set_option linter.unusedSimpArgs false
/-- bytes as a row without end, noughts behind -/
def byteF (b : List UInt8) (i : Nat) : UInt8 := b.getD i 0
/-- a block, and 16 bytes put to it -/
def mixF (y : List UInt8) (f : Nat → UInt8) : List UInt8 := (List.range 16).map fun k => y.getD k 0 ^^^ f k
theorem mixF_len (y : List UInt8) (f : Nat → UInt8) : (mixF y f).length = 16 := by simp [mixF]
/-- the sum y, gone on by j blocks -/
def gsF (h y : List UInt8) (f : Nat → UInt8) : Nat → List UInt8
  | 0 => y
  | j + 1 => gmulL (mixF (gsF h y f j) fun k => f (16 * j + k)) h
theorem gsF_len (h y : List UInt8) (f : Nat → UInt8) (j : Nat) (hy : y.length = 16) : (gsF h y f j).length = 16 := by
  cases j with
  | zero => exact hy
  | succ j => exact gmulL_len _ _
def gsumL (h b : List UInt8) : List UInt8 := gsF h zerB (byteF b) ((b.length + 15) / 16)
theorem gsumL_len (h b : List UInt8) : (gsumL h b).length = 16 := gsF_len _ _ _ _ rfl
theorem xorL_take (a b : List UInt8) : xorL a b = List.zipWith (· ^^^ ·) a b := rfl
theorem mix_splice (S X bs : List UInt8) (j : Nat) (hS : S.length = 16) (hX : X = bs.drop (16 * j)) : splice (S.map bv) 0 ((xorL S X).map bv) = (mixF S fun k => byteF bs (16 * j + k)).map bv := by
  unfold splice
  rw [List.take_zero, List.nil_append, Nat.zero_add, ← List.map_drop, ← List.map_append]
  congr 1
  have hl : (xorL S X).length = min 16 X.length := by rw [xorL_len, hS]
  apply List.ext_getElem
  · rw [mixF_len, List.length_append, List.length_drop, List.length_map, hS, hl]; omega
  · intro i h1 h2
    rw [mixF_len] at h2
    have hf : byteF bs (16 * j + i) = X.getD i 0 := by rw [hX, byteF]; simp [List.getD, List.getElem?_drop]
    have hr : (mixF S fun k => byteF bs (16 * j + k))[i]'(by rw [mixF_len]; exact h2) = S.getD i 0 ^^^ X.getD i 0 := by
      rw [← hf]; simp [mixF]
    rw [hr]
    by_cases hi : i < (xorL S X).length
    · rw [List.getElem_append_left hi]
      rw [hl] at hi
      simp [xorL, List.getD, hS, h2, show i < X.length by omega]
    · rw [List.getElem_append_right (by omega), List.getElem_drop]
      have hx : X.getD i 0 = 0 := by
        rw [hl] at hi
        simp [List.getD, List.getElem?_eq_none (show X.length ≤ i by omega)]
      rw [hx, UInt8.xor_zero]
      simp only [List.length_map]
      rw [List.getD, List.getElem?_eq_getElem (by omega), Option.getD_some]
      congr 1; omega
theorem step_left {n j m t : Nat} (h : m = n - 16 * j ∧ j ≤ (n + 15) / 16) (ht : t = min 16 m) (h2 : t ≤ m ∧ t ≤ 16 ∧ 0 < t ∧ 0 < m) : Hid (m - t = n - 16 * (j + 1) ∧ j + 1 ≤ (n + 15) / 16) := by
  show _ ∧ _; omega
theorem step_drop {w : World} {A : Option Addr} {c n j m t : Nat} {bs : List UInt8} (h : Sl w A c (bs.drop (16 * j + t))) (ht : t = min 16 m) (hl : bs.length = n) (hj : m = n - 16 * j ∧ j ≤ (n + 15) / 16) : Hid (Sl w A c (bs.drop (16 * (j + 1)))) := by
  show Sl _ _ _ _
  by_cases h16 : 16 ≤ m
  · rw [show 16 * (j + 1) = 16 * j + t by omega]; exact h
  · rw [List.drop_eq_nil_of_le (by omega)] at h ⊢; exact h
theorem hid_mp {J J' : Act → World → Prop} (h : Hid (J = J')) {a : Act} {w : World} (hh : J' a w) : J a w := by rw [h.out]; exact hh
/-- a label in a scope, behind code of which none jumps, to which its own code jumps back -/
theorem wp_scope_label1 {P : Program} {a : Act} {w : World} {Q : Exit → Act → World → Prop} {ahead rest : Code} (l : Nat) (J : Act → World → Prop) (μ : Act → World → Nat) (hf : findLabel (ahead.seq ((Code.label l).seq rest)) l = some (Code.skip.seq rest)) (h0 : ahead.wp P (fun e a w => e = .normal ∧ J a w) a w)
    (pass : ∀ a w, J a w → rest.wp P (Exit.jump l (fun a' w' => J a' w' ∧ μ a' w' < μ a w) Q) a w) : (Code.scope (ahead.seq ((Code.label l).seq rest))).wp P Q a w := by
  refine wp_scope_jumps l J μ hf (wp_seq (Code.wp_mono ?_ h0)) (fun a w h => wp_seq (wp_skip (pass a w h)))
  rintro e a w ⟨rfl, hJ⟩
  refine wp_seq (wp_label ?_)
  refine Code.wp_mono ?_ (pass a w hJ)
  intro e a w h
  cases e <;> first | exact h | exact ⟨h.1, h.2.1⟩
set_option maxHeartbeats 4000000 in
theorem gsum_any (h : List UInt8) (A : Option Addr) (n c : Nat) (bs : List UInt8) (w : World) (hh : h.length = 16) (hl : bs.length = n) (hn : n ≤ 2147483647) (hS : Sl w A c bs) :
    Calls Tryz.prog 113 #[.agg (h.map bv).toArray, .slice A n c] w fun e w' => e = .returned (.agg ((gsumL h bs).map bv).toArray) ∧ Below w.heap.size w w' := by
  have hz16 : ∀ W, (zeroValue 64).run Tryz.prog W = .ok (.agg (zerB.map bv).toArray) W := fun W => by kernel_rfl
  have HH := Lib.hid hh; have HL := Lib.hid hl; have HS := Lib.hid hS
  have HZL : Hid (zerB.length = 16) := rfl
  have GSL : Hid (∀ j, (gsF h zerB (byteF bs) j).length = 16) := fun j => gsF_len _ _ _ _ rfl
  have GS0 : Hid (gsF h zerB (byteF bs) 0 = zerB) := rfl
  have GSS : Hid (∀ j, gmulL (mixF (gsF h zerB (byteF bs) j) fun k => byteF bs (16 * j + k)) h = gsF h zerB (byteF bs) (j + 1)) := fun j => rfl
  have GSE : Hid (gsumL h bs = gsF h zerB (byteF bs) ((n + 15) / 16)) := by show _ = _; rw [gsumL, hl]
  clear hh hl hS
  obtain ⟨q, HQ⟩ : ∃ q, Hid (w.heap.size = q) := ⟨_, rfl⟩
  generalize gsF h zerB (byteF bs) = GS at GSL GS0 GSS GSE
  generalize zerB = Z at hz16 HZL GS0
  go_enter Tryz.func113, Tryz.ntmps113
  go_wp2
  have G := heap3 w (.cells (h.map bv).toArray 64) (.cells (Z.map bv).toArray 64) (.cells (Z.map bv).toArray 64)
  obtain ⟨J, HJ0⟩ : ∃ J : Act → World → Prop, Hid (J = fun a' w' => ∃ (j : Nat) (A' : Option Addr) (m c' : Nat) (u6 u7 u8 u9 u10 u11 u12 u13 u14 u15 u16 u17 u18 u19 u20 u21 : Value),
      a' = { tmps := #[.agg (h.map bv).toArray, .slice A' m c', .pointer (some ⟨w.heap.size, 0, none⟩), undef, .pointer (some ⟨w.heap.size + 1, 0, none⟩), .pointer (some ⟨w.heap.size + 2, 0, none⟩), u6, u7, u8, u9, u10, u11, u12, u13, u14, u15, u16, u17, u18, u19, u20, u21], defers := [] } ∧
      Hid (m = n - 16 * j ∧ j ≤ (n + 15) / 16) ∧ Hid (Sl w A' c' (bs.drop (16 * j))) ∧ Hid (Below w.heap.size w w') ∧ Hid (w'.heap[w.heap.size]? = some (.cells (h.map bv).toArray 64 (0, 0))) ∧
      Hid (w'.heap[w.heap.size + 1]? = some (.cells (Z.map bv).toArray 64 (0, 0))) ∧ Hid (w'.heap[w.heap.size + 2]? = some (.cells ((GS j).map bv).toArray 64 (0, 0)))) := ⟨_, rfl⟩
  refine wp_scope_label1 0 J (fun a' _ => (sliceLen (a'.tmps.getD 1 undef))) rfl ?first ?pass
  case first =>
    go_wp2
    rw [HJ0.out]
    refine ⟨0, A, n, c, _, _, _, _, _, _, _, _, _, _, _, _, _, _, _, _, rfl, ?_, HS, ?_, ?_, ?_, ?_⟩
    · show _ ∧ _; omega
    · exact G.2.2.2
    · exact G.1
    · exact G.2.1
    · show _ = _; rw [GS0.out]; exact G.2.2.1
  case pass =>
    clear G
    intro a' w' hJ'
    rw [HJ0.out] at hJ'
    obtain ⟨j, A', m, c', u6, u7, u8, u9, u10, u11, u12, u13, u14, u15, u16, u17, u18, u19, u20, u21, rfl, HJ, HA, HB, H0, H1, H2⟩ := hJ'
    rw [HQ.out] at H0 H1 H2 ⊢
    have hdl : (bs.drop (16 * j)).length = m := by have h1 := HL.out; have h2 := HJ.out; rw [List.length_drop]; omega
    have HM31 : Hid (m ≤ 2147483647) := by have h2 := HJ.out; show _ ≤ _; omega
    by_cases hm : 0 < m
    · have e1 : (0 : Int) < (m : Int) := by omega
      obtain ⟨t, ht⟩ : ∃ t, t = min 16 m := ⟨_, rfl⟩
      have sl := arr_all arr16B s8 ⟨q + 2, 0, none⟩
      have HT := Lib.hid ht
      have ht16 : Hid (t ≤ m ∧ t ≤ 16 ∧ 0 < t ∧ 0 < m) := by show _ ∧ _ ∧ _ ∧ _; omega
      have hcut := cut_from uT s8 A' m c' .i64 (t : Int) (by omega) (by omega)
      rw [Int.toNat_natCast] at hcut
      obtain ⟨X, hX⟩ : ∃ X, X = bs.drop (16 * j) := ⟨_, rfl⟩
      have HSP := Lib.hid (mix_splice (GS j) X bs j (GSL.out j) hX)
      have HXL : Hid (X.length = m) := by show _ = _; rw [hX]; exact hdl
      have HXS : Hid (Sl w A' c' X) := by show Sl _ _ _ _; rw [hX]; exact HA.out
      have HMX := Lib.hid (mixF_len (GS j) fun k => byteF bs (16 * j + k))
      have HGS := Lib.hid (GSS.out j)
      obtain ⟨M, HM⟩ : ∃ M, Hid ((mixF (GS j) fun k => byteF bs (16 * j + k)) = M) := ⟨_, rfl⟩
      rw [HM.out] at HSP HMX HGS
      have HSL := Lib.hid (GSL.out j)
      have HSL' := Lib.hid (GSL.out (j + 1))
      clear HM hX hdl ht
      have HX : Hid (AnyR w'.drew w'.drew) := trivial
      go_wp2_with fail
      have N0 : Hid (w'.drew.heap[q]? = _) := H0.out
      have N1 : Hid (w'.drew.heap[q + 1]? = _) := H1.out
      have N2 : Hid (w'.drew.heap[q + 2]? = _) := H2.out
      have NB : Hid (Below w.heap.size w w'.drew) := HB.out.drew
      refine regS_start (AnyR) (by kernel_rfl) ?_
      try simp only [Act.put, List.setIfInBounds_toArray, List.set_cons_zero, List.set_cons_succ]
      generalize w'.drew = W3 at N0 N1 N2 NB HX ⊢
      refine regS_take (v := ?_) 0 (some 10) rfl rfl (by kernel_rfl) (by kernel_rfl) (by kernel_rfl) (fun _ _ _ h => h) (by rfl) (fun W hW => ?_) ?_
      rotate_left
      · (go_simp; try rfl)
      simp only [Act.put, List.setIfInBounds_toArray, List.set_cons_zero, List.set_cons_succ]
      refine regS_take (v := ?_) 1 (some 11) rfl rfl (by kernel_rfl) (by kernel_rfl) (by kernel_rfl) (fun _ _ _ h => h) (by rfl) (fun W hW => ?_) ?_
      rotate_left
      · (go_simp; try rfl)
      simp only [Act.put, List.setIfInBounds_toArray, List.set_cons_zero, List.set_cons_succ]
      refine regS_take (v := ?_) 2 (some 12) rfl rfl (by kernel_rfl) (by kernel_rfl) (by kernel_rfl) (fun _ _ _ h => h) (by rfl) (fun W hW => ?_) ?_
      rotate_left
      · (go_simp; try rfl)
      simp only [Act.put, List.setIfInBounds_toArray, List.set_cons_zero, List.set_cons_succ]
      refine regS_eff 3 rfl (by kernel_rfl) (fun K hK => ?_)
      go_simp
      refine (xor_n (some ⟨q + 2, 0, none⟩) A' 16 m t 16 c' (GS j) X W3 HSL.out HXL.out HT.out.symm (sl_row HSL.out (by omega) N2.out) (HXS.out.below NB.out) (by omega) HM31.out).mono ?_
      rintro e w4 ⟨g3, hg3, rfl, hk3, hE0⟩
      have L0 := Lib.hid ((hE0.block _ (lt_of_heap N0.out)).trans N0.out)
      have L1 := Lib.hid ((hE0.block _ (lt_of_heap N1.out)).trans N1.out)
      have L2 := Lib.hid ((hE0.block _ (lt_of_heap N2.out)).trans N2.out)
      have LB := Lib.hid (NB.out.step hE0)
      have R3 := Lib.hid (row_of_heap hk3 (Nat.lt_succ_self g3))
      have hE : AnyR W3 w4 := trivial
      clear hE0 hk3 hg3
      refine hK.out _ _ hE ?_
      have HX := Lib.hid (Pre.trans HX.out hE)
      clear hE hK K
      try simp only [Act.put, List.setIfInBounds_toArray, List.set_cons_zero, List.set_cons_succ]
      refine regS_eff 4 rfl (by kernel_rfl) (fun K hK => ?_)
      obtain ⟨w5, hrun, hblk, _, hgr⟩ := copy_run uT s8 (sT := 22) 3 w4 (q + 2) 0 ((GS j).map bv) 64 L2.out (some ⟨q + 2, 0, none⟩) (some ⟨g3, 0, none⟩) 16 16 t t (g3 + 1) ((xorL (GS j) X).map bv) (by have h1 := HT.out; have h2 := ht16.out; simp only [List.length_map, xorL_len, HSL.out, HXL.out]; omega) (fun _ => rfl) R3.out (by have h1 := HT.out; simp only [List.length_map, xorL_len, HSL.out, HXL.out]; omega) (bv_one _)
      rw [HSP.out] at hblk
      rw [show (((xorL (GS j) X).map bv).length : Int) = (t : Int) from by have h1 := HT.out; simp only [List.length_map, xorL_len, HSL.out, HXL.out]; omega] at hrun
      have K2 := Lib.hid hblk
      have K0 : Hid (w5.heap[q]? = _) := (hgr.block _ (lt_of_heap L0.out) (by simp)).trans L0.out
      have K1 : Hid (w5.heap[q + 1]? = _) := (hgr.block _ (lt_of_heap L1.out) (by simp)).trans L1.out
      have KB := Lib.hid (LB.out.trans (grown_below hgr (by have := HQ.out; omega) LB.out.size))
      refine step_cpy rfl (.tmp 10) (.tmp 13) 22 22 rfl hrun ?_
      have hE : AnyR w4 w5 := trivial
      clear hrun hblk hgr
      refine hK.out _ _ hE ?_
      have HX := Lib.hid (Pre.trans HX.out hE)
      clear hE hK K
      try simp only [Act.put, List.setIfInBounds_toArray, List.set_cons_zero, List.set_cons_succ]
      refine regS_take (v := ?_) 5 (some 6) rfl rfl (by kernel_rfl) (by kernel_rfl) (by kernel_rfl) (fun _ _ _ h => h) (by rfl) (fun W hW => ?_) ?_
      rotate_left
      · (go_simp; try rfl)
      simp only [Act.put, List.setIfInBounds_toArray, List.set_cons_zero, List.set_cons_succ]
      refine regS_done (by kernel_rfl) ?_
      simp only [List.getElem_toArray, List.getElem_cons_succ, List.getElem_cons_zero, List.set_cons_zero, List.set_cons_succ]
      clear N0 N1 N2 NB
      have GM := Lib.hid (fun W => gmul_any M h W HMX.out HH.out)
      rw [HGS.out] at GM
      have N0 : Hid (w5.drew.heap[q]? = _) := K0.out
      have N1 : Hid (w5.drew.heap[q + 1]? = _) := K1.out
      have N2 : Hid (w5.drew.heap[q + 2]? = _) := K2.out
      have NB : Hid (Below w.heap.size w w5.drew) := KB.out.drew
      obtain ⟨Y, HYJ⟩ : ∃ Y, Hid (GS (j + 1) = Y) := ⟨_, rfl⟩
      rw [HYJ.out] at GM HSL'
      go_upto_region 4 with (fail)
      refine regS_start (AnyR) (by kernel_rfl) ?_
      try simp only [Act.put, List.setIfInBounds_toArray, List.set_cons_zero, List.set_cons_succ]
      generalize w5.drew = W6 at N0 N1 N2 NB ⊢
      have HX : Hid (AnyR W6 W6) := trivial
      refine regS_take (v := ?_) 3 (some 18) rfl rfl (by kernel_rfl) (by kernel_rfl) (by kernel_rfl) (fun _ _ _ h => h) (by rfl) (fun W hW => ?_) ?_
      rotate_left
      · (go_simp; try rfl)
      simp only [Act.put, List.setIfInBounds_toArray, List.set_cons_zero, List.set_cons_succ]
      refine regS_take (v := ?_) 4 (some 19) rfl rfl (by kernel_rfl) (by kernel_rfl) (by kernel_rfl) (fun _ _ _ h => h) (by rfl) (fun W hW => ?_) ?_
      rotate_left
      · (go_simp; try rfl)
      simp only [Act.put, List.setIfInBounds_toArray, List.set_cons_zero, List.set_cons_succ]
      refine regS_take (v := ?_) 5 (some 20) rfl rfl (by kernel_rfl) (by kernel_rfl) (by kernel_rfl) (fun _ _ _ h => h) (by rfl) (fun W hW => ?_) ?_
      rotate_left
      · (go_simp; try rfl)
      simp only [Act.put, List.setIfInBounds_toArray, List.set_cons_zero, List.set_cons_succ]
      refine regS_eff2 0 1 rfl rfl (by kernel_rfl) (fun K hK => ?_) (fun K hK => ?_)
      · skip
        refine step_ld rfl 64 (.tmp 5) rfl (load_arr arr16B rfl (i16l M HMX.out) N2.out) ?_
        have hE : AnyR W6 W6 := trivial
        refine hK.out _ _ hE ?_
        have HX := Lib.hid (Pre.trans HX.out hE)
        clear hE hK K
        try simp only [Act.put, List.setIfInBounds_toArray, List.set_cons_zero, List.set_cons_succ]
        refine regS_eff 1 rfl (by kernel_rfl) (fun K hK => ?_)
        refine step_ld rfl 64 (.tmp 2) rfl (load_arr arr16B rfl (i16l h HH.out) N0.out) ?_
        have hE : AnyR W6 W6 := trivial
        refine hK.out _ _ hE ?_
        have HX := Lib.hid (Pre.trans HX.out hE)
        clear hE hK K
        try simp only [Act.put, List.setIfInBounds_toArray, List.set_cons_zero, List.set_cons_succ]
        refine regS_eff 2 rfl (by kernel_rfl) (fun K hK => ?_)
        go_simp
        refine (GM.out _).mono ?_
        rintro e w7 ⟨rfl, hE0⟩
        have P0 := Lib.hid ((hE0.block _ (lt_of_heap N0.out)).trans N0.out)
        have P1 := Lib.hid ((hE0.block _ (lt_of_heap N1.out)).trans N1.out)
        have P2 := Lib.hid ((hE0.block _ (lt_of_heap N2.out)).trans N2.out)
        have PB := Lib.hid (NB.out.step hE0)
        have hE : AnyR W6 w7 := trivial
        clear hE0
        refine hK.out _ _ hE ?_
        have HX := Lib.hid (Pre.trans HX.out hE)
        clear hE hK K
        try simp only [Act.put, List.setIfInBounds_toArray, List.set_cons_zero, List.set_cons_succ]
        refine regS_eff 6 rfl (by kernel_rfl) (fun K hK => ?_)
        refine step_st1 rfl 64 (.tmp 5) (.tmp 17) rfl (store_arr (cs := Y.map bv) (i16l Y HSL'.out) (bv_one _) P2.out (by rw [List.length_map, List.length_map, HSL'.out, HMX.out])) ?_
        generalize hV : World.setRow _ _ _ = W8
        have Q2 := Lib.hid (heap_of_setRow hV P2.out)
        have Q1 := Lib.hid (heap_of_other hV (show q + 1 ≠ q + 2 by omega) P1.out)
        have Q0 := Lib.hid (heap_of_other hV (show q ≠ q + 2 by omega) P0.out)
        have QB := Lib.hid (PB.out.trans (below_of_setRow hV (by have := HQ.out; omega) PB.out.size))
        have hE : AnyR w7 W8 := trivial
        clear hV
        refine hK.out _ _ hE ?_
        have HX := Lib.hid (Pre.trans HX.out hE)
        clear hE hK K
        try simp only [Act.put, List.setIfInBounds_toArray, List.set_cons_zero, List.set_cons_succ]
        refine regS_take (v := ?_) 7 (some 1) rfl rfl (by kernel_rfl) (by kernel_rfl) (by kernel_rfl) (fun _ _ _ h => h) (by rfl) (fun W hW => ?_) ?_
        rotate_left
        · (go_simp; try rfl)
        simp only [Act.put, List.setIfInBounds_toArray, List.set_cons_zero, List.set_cons_succ]
        refine regS_done (by kernel_rfl) ?_
        go_wp2
        go_step3
        have hA := sl_cut HA.out (k := t) (by have h1 := HL.out; have h2 := HJ.out; have h3 := ht16.out; rw [List.length_drop]; omega)
        rw [List.drop_drop] at hA
        refine ⟨rfl, hid_mp HJ0 ⟨j + 1, cutS A' c' t, m - t, c' - t, _, _, _, _, _, _, _, _, _, _, _, _, _, _, _, _, by rw [HQ.out], ?_, ?_, QB, ?_, ?_, ?_⟩, ?_⟩
        · exact step_left HJ.out HT.out ht16.out
        · exact step_drop hA HT.out HL.out HJ.out
        · show _ = _; rw [HQ.out]; exact Q0.out
        · show _ = _; rw [HQ.out]; exact Q1.out
        · show _ = _; rw [HQ.out, HYJ.out]; exact Q2.out
        · exact Nat.sub_lt ht16.out.2.2.2 ht16.out.2.2.1
      · skip
        refine step_ld rfl 64 (.tmp 2) rfl (load_arr arr16B rfl (i16l h HH.out) N0.out) ?_
        have hE : AnyR W6 W6 := trivial
        refine hK.out _ _ hE ?_
        have HX := Lib.hid (Pre.trans HX.out hE)
        clear hE hK K
        try simp only [Act.put, List.setIfInBounds_toArray, List.set_cons_zero, List.set_cons_succ]
        refine regS_eff 0 rfl (by kernel_rfl) (fun K hK => ?_)
        refine step_ld rfl 64 (.tmp 5) rfl (load_arr arr16B rfl (i16l M HMX.out) N2.out) ?_
        have hE : AnyR W6 W6 := trivial
        refine hK.out _ _ hE ?_
        have HX := Lib.hid (Pre.trans HX.out hE)
        clear hE hK K
        try simp only [Act.put, List.setIfInBounds_toArray, List.set_cons_zero, List.set_cons_succ]
        refine regS_eff 2 rfl (by kernel_rfl) (fun K hK => ?_)
        go_simp
        refine (GM.out _).mono ?_
        rintro e w7 ⟨rfl, hE0⟩
        have P0 := Lib.hid ((hE0.block _ (lt_of_heap N0.out)).trans N0.out)
        have P1 := Lib.hid ((hE0.block _ (lt_of_heap N1.out)).trans N1.out)
        have P2 := Lib.hid ((hE0.block _ (lt_of_heap N2.out)).trans N2.out)
        have PB := Lib.hid (NB.out.step hE0)
        have hE : AnyR W6 w7 := trivial
        clear hE0
        refine hK.out _ _ hE ?_
        have HX := Lib.hid (Pre.trans HX.out hE)
        clear hE hK K
        try simp only [Act.put, List.setIfInBounds_toArray, List.set_cons_zero, List.set_cons_succ]
        refine regS_eff 6 rfl (by kernel_rfl) (fun K hK => ?_)
        refine step_st1 rfl 64 (.tmp 5) (.tmp 17) rfl (store_arr (cs := Y.map bv) (i16l Y HSL'.out) (bv_one _) P2.out (by rw [List.length_map, List.length_map, HSL'.out, HMX.out])) ?_
        generalize hV : World.setRow _ _ _ = W8
        have Q2 := Lib.hid (heap_of_setRow hV P2.out)
        have Q1 := Lib.hid (heap_of_other hV (show q + 1 ≠ q + 2 by omega) P1.out)
        have Q0 := Lib.hid (heap_of_other hV (show q ≠ q + 2 by omega) P0.out)
        have QB := Lib.hid (PB.out.trans (below_of_setRow hV (by have := HQ.out; omega) PB.out.size))
        have hE : AnyR w7 W8 := trivial
        clear hV
        refine hK.out _ _ hE ?_
        have HX := Lib.hid (Pre.trans HX.out hE)
        clear hE hK K
        try simp only [Act.put, List.setIfInBounds_toArray, List.set_cons_zero, List.set_cons_succ]
        refine regS_take (v := ?_) 7 (some 1) rfl rfl (by kernel_rfl) (by kernel_rfl) (by kernel_rfl) (fun _ _ _ h => h) (by rfl) (fun W hW => ?_) ?_
        rotate_left
        · (go_simp; try rfl)
        simp only [Act.put, List.setIfInBounds_toArray, List.set_cons_zero, List.set_cons_succ]
        refine regS_done (by kernel_rfl) ?_
        go_wp2
        go_step3
        have hA := sl_cut HA.out (k := t) (by have h1 := HL.out; have h2 := HJ.out; have h3 := ht16.out; rw [List.length_drop]; omega)
        rw [List.drop_drop] at hA
        refine ⟨rfl, hid_mp HJ0 ⟨j + 1, cutS A' c' t, m - t, c' - t, _, _, _, _, _, _, _, _, _, _, _, _, _, _, _, _, by rw [HQ.out], ?_, ?_, QB, ?_, ?_, ?_⟩, ?_⟩
        · exact step_left HJ.out HT.out ht16.out
        · exact step_drop hA HT.out HL.out HJ.out
        · show _ = _; rw [HQ.out]; exact Q0.out
        · show _ = _; rw [HQ.out]; exact Q1.out
        · show _ = _; rw [HQ.out, HYJ.out]; exact Q2.out
        · exact Nat.sub_lt ht16.out.2.2.2 ht16.out.2.2.1
    · have hj : (n + 15) / 16 = j := by have h2 := HJ.out; omega
      rw [hj] at GSE
      have hm0 : m = 0 := by omega
      have HY := Lib.hid (GSL.out j)
      generalize GS j = Y at GSE H2 HY
      have e1 : ¬ ((0 : Int) < (m : Int)) := by omega
      clear hj hdl
      go_wp2_with (first
        | (refine wpList_ld rfl 64 (.tmp 5) rfl (load_arr arr16B rfl (i16l Y HY.out) H2.out) ?_)
        | (refine wpList_st rfl 64 (.tmp 4) (.tmp 21) rfl (store_arr (cs := Y.map bv) (i16l Y HY.out) (bv_one _) H1.out (by rw [List.length_map, List.length_map, HY.out, HZL.out])) ?_
           generalize hV : World.setRow _ _ _ = W4
           have hres := heap_of_setRow hV H1.out
           have JB := Lib.hid (HB.out.trans (below_of_setRow hV (by have := HQ.out; omega) HB.out.size))
           clear hV))
      simp only [Exit.jump]
      exact bodyPost_ret (results_cell_row (P := Tryz.prog) rfl _ _ (q + 1) 64 (Y.map bv).toArray (0, 0) _ rfl hres arr16B rfl (by rw [List.size_toArray]; exact i16l Y HY.out)) rfl ⟨by rw [GSE.out], JB.out⟩
end Go.Proofs.YtimgggpojbpfkaaGreatDoor

/- The walk of the law GhashPowers. -/
namespace Go.Proofs.YtimgggpojbpfkaaGreatDoor
open Go.RowKit
set_option maxRecDepth 100000
set_option linter.unusedVariables false
set_option linter.unusedSimpArgs false
def powB (n : Nat) : List UInt8 := (List.replicate 16 (0 : UInt8)).set (n / 8) (UInt8.ofNat (128 / 2 ^ (n % 8)))
theorem powB_eq (n : Nat) (h : n < 128) : powB n = blkL (pw n) := by
  have : ∀ n : Fin 128, powB n.1 = blkL (pw n.1) := by decide +kernel
  exact this ⟨n, h⟩
theorem shr128 (k : Nat) (hk : k < 8) : (128 : Int) / 2 ^ k = ((UInt8.ofNat (128 / 2 ^ k)).toNat : Int) := by
  have : ∀ k : Fin 8, (128 : Int) / 2 ^ k.1 = ((UInt8.ofNat (128 / 2 ^ k.1)).toNat : Int) := by decide +kernel
  exact this ⟨k, hk⟩
theorem gmul_pow (n m : Nat) : gmulL (blkL (pw n)) (blkL (pw m)) = blkL (pw (n + m)) := by
  rw [gmulL, bigN_blk _ (pw_lt n), bigN_blk _ (pw_lt m), pw_mul]
end Go.Proofs.YtimgggpojbpfkaaGreatDoor

/- The document's product of blocks (palfreyref06): the mathematics, and its at. -/
namespace Go.Proofs.YtimgggpojbpfkaaGreatDoor
open Go.RowKit
set_option maxRecDepth 100000
set_option linter.unusedVariables false
set_option linter.unusedSimpArgs false
def ivG (n : Nat) : Value := .int .i64 (n : Int)
theorem icellG {w : World} {g : Nat} {l : List Nat} {t : TypeId} {fr : Nat × Nat} (h : w.heap[g]? = some (.cells (l.map ivG).toArray t fr)) (i : Nat) (hi : i < l.length) : w.cell? ⟨g, i, none⟩ = some (.int .i64 ((l.getD i 0 : Nat) : Int)) := by
  rw [cell_of_heap h, List.getElem?_map]
  simp [List.getD, hi, ivG]
theorem isetG {W : World} {g : Nat} {l : List Nat} {t : TypeId} (H : W.heap[g]? = some (.cells (l.map ivG).toArray t (0, 0))) (i v : Nat) : (W.setCell ⟨g, i, none⟩ (.int .i64 (v : Int))).heap[g]? = some (.cells ((l.set i v).map ivG).toArray t (0, 0)) := by
  have := heap_set H i (ivG v)
  rw [← List.map_set] at this
  exact this
/-- whether a number is odd -/
def oddB (x : Nat) : Bool := x % 2 == 1
theorem oddB_add (x t : Nat) (ht : t < 2) : oddB (x + t) = (oddB x ^^ oddB t) := by
  have h1 : x % 2 = 0 ∨ x % 2 = 1 := by omega
  have h2 : t = 0 ∨ t = 1 := by omega
  unfold oddB
  rcases h1 with h1 | h1 <;> rcases h2 with rfl | rfl <;> simp [h1, Nat.add_mod]
theorem oddB_yes {x : Nat} (h : x % 2 = 1) : oddB x = true := by unfold oddB; rw [h]; rfl
theorem oddB_no {x : Nat} (h : ¬ x % 2 = 1) : oddB x = false := by unfold oddB; rw [show x % 2 = 0 by omega]; rfl
/-- the sum of the powers of x below n at which p is odd -/
def evF (p : List Nat) : Nat → Nat
  | 0 => 0
  | n + 1 => evF p n ^^^ sel (oddB (p.getD n 0)) (pw n)
theorem getD_setG (p : List Nat) (k v n : Nat) (hk : k < p.length) : (p.set k v).getD n 0 = if k = n then v else p.getD n 0 := by
  rw [List.getD, List.getElem?_set]
  split
  · simp [hk]
  · rfl
theorem evF_above (p : List Nat) (k v n : Nat) (hk : k < p.length) (h : n ≤ k) : evF (p.set k v) n = evF p n := by
  induction n with
  | zero => rfl
  | succ n ih => rw [evF, evF, ih (by omega), getD_setG p k v n hk, if_neg (by omega)]
theorem evF_add (p : List Nat) (k t n : Nat) (hk : k < p.length) (ht : t < 2) (h : k < n) : evF (p.set k (p.getD k 0 + t)) n = evF p n ^^^ sel (oddB t) (pw k) := by
  induction n with
  | zero => omega
  | succ n ih =>
    rw [evF, evF, getD_setG p k _ n hk]
    by_cases e : k = n
    · subst e
      rw [if_pos rfl, evF_above p k _ k hk (Nat.le_refl _), oddB_add _ _ ht, sel_xor_left, Nat.xor_assoc]
    · rw [if_neg e, ih (by omega), Nat.xor_assoc, Nat.xor_assoc, Nat.xor_comm (sel (oddB t) (pw k))]
theorem evF_zero (n m : Nat) : evF (List.replicate m 0) n = 0 := by
  induction n with
  | zero => rfl
  | succ n ih =>
    have : (List.replicate m 0).getD n 0 = 0 := by rw [List.getD, List.getElem?_replicate]; split <;> rfl
    rw [evF, ih, this, show oddB 0 = false from rfl, sel_false]; rfl
/-- 256 numbers, none above b, that stand for v up to the n-th -/
structure PG (p : List Nat) (n v b : Nat) : Prop where
  len : p.length = 256
  bd : ∀ j, p.getD j 0 ≤ b
  ev : evF p n = v
theorem PG.mono {p : List Nat} {n v b b' : Nat} (h : PG p n v b) (hb : b ≤ b') : PG p n v b' := ⟨h.len, fun j => Nat.le_trans (h.bd j) hb, h.ev⟩
theorem PG.add {p : List Nat} {n v b : Nat} (h : PG p n v b) (k t : Nat) (hk : k < n) (hn : n ≤ 256) (ht : t < 2) : PG (p.set k (p.getD k 0 + t)) n (v ^^^ sel (oddB t) (pw k)) (b + 1) := by
  have hkl : k < p.length := by rw [h.len]; omega
  refine ⟨by rw [List.length_set]; exact h.len, fun j => ?_, by rw [evF_add p k t n hkl ht hk, h.ev]⟩
  rw [getD_setG p k _ j hkl]
  have h1 := h.bd j; have h2 := h.bd k
  split <;> omega
theorem PG.inc {p : List Nat} {n v b : Nat} (h : PG p n v b) (k : Nat) (hk : k < n) (hn : n ≤ 256) : PG (p.set k (p.getD k 0 + 1)) n (v ^^^ pw k) (b + 1) := h.add k 1 hk hn (by decide)
theorem PG.init : PG (List.replicate 256 0) 255 0 0 := ⟨List.length_replicate, fun j => by rw [List.getD, List.getElem?_replicate]; split <;> exact Nat.le_refl _, evF_zero _ _⟩
/-- the i-th bit of a block, as a number -/
def bitI (b : List UInt8) (i : Nat) : Nat := if bitV (bigN b) i then 1 else 0
theorem bitI_lt (b : List UInt8) (i : Nat) : bitI b i < 2 := by unfold bitI; split <;> decide
theorem bitI_odd (b : List UInt8) (i : Nat) : oddB (bitI b i) = bitV (bigN b) i := by unfold bitI; cases bitV (bigN b) i <;> rfl
theorem bitI_zero (b : List UInt8) (i : Nat) : bitI b i = 0 ↔ bitV (bigN b) i = false := by unfold bitI; cases bitV (bigN b) i <;> simp
/-- a row's step: the k-th power put to what there is -/
theorem PG.row {p : List Nat} {i k e c B : Nat} (b : List UInt8) (h : PG p 255 (e ^^^ actN (bigN b) (pw i) k) c) (hi : i < 128) (hk : k < 128) : PG (p.set (i + k) (p.getD (i + k) 0 + bitI b k)) 255 (e ^^^ actN (bigN b) (pw i) (k + 1)) (c + 1) := by
  have := h.add (i + k) (bitI b k) (by omega) (by decide) (bitI_lt _ _)
  rw [bitI_odd, pw_add, Nat.xor_assoc] at this
  exact this
theorem row_end (a b : List UInt8) (i : Nat) (hb : b.length = 16) (h : bitI a i ≠ 0) : actN (bigN a) (bigN b) i ^^^ actN (bigN b) (pw i) 128 = actN (bigN a) (bigN b) (i + 1) := by
  have h1 : bitV (bigN a) i = true := by
    cases h2 : bitV (bigN a) i
    · exact absurd ((bitI_zero a i).2 h2) h
    · rfl
  rw [show actN (bigN a) (bigN b) (i + 1) = actN (bigN a) (bigN b) i ^^^ sel (bitV (bigN a) i) (upN (bigN b) i) from rfl, h1, sel_true]
  congr 1
  exact mulV_pw _ _ (big16_lt b hb)
theorem row_none (a b : List UInt8) (i : Nat) (h : bitI a i = 0) : actN (bigN a) (bigN b) i = actN (bigN a) (bigN b) (i + 1) := by
  rw [actN, (bitI_zero a i).1 h, sel_false, Nat.xor_zero]
/-- what is above, taken in -/
theorem PG.fold {p : List Nat} {i v b : Nat} (h : PG p (i + 1) v b) (h1 : 128 ≤ i) (h2 : i < 255) (ho : p.getD i 0 % 2 = 1) (p1 p2 p3 p4 : List Nat)
    (e1 : p1 = p.set (i - 128) (p.getD (i - 128) 0 + 1)) (e2 : p2 = p1.set (i - 127) (p1.getD (i - 127) 0 + 1)) (e3 : p3 = p2.set (i - 126) (p2.getD (i - 126) 0 + 1)) (e4 : p4 = p3.set (i - 121) (p3.getD (i - 121) 0 + 1)) : PG p4 i v (b + 4) := by
  have h0 : PG p i (evF p i) b := ⟨h.len, h.bd, rfl⟩
  have k4 := (((h0.inc (i - 128) (by omega) (by omega)).inc (i - 127) (by omega) (by omega)).inc (i - 126) (by omega) (by omega)).inc (i - 121) (by omega) (by omega)
  rw [← e1, ← e2, ← e3, ← e4] at k4
  refine ⟨k4.len, k4.bd, k4.ev.trans ?_⟩
  have hv := h.ev
  rw [evF, oddB_yes ho, sel_true, pw_over i h1] at hv
  rw [← hv]
  simp only [Nat.xor_assoc]
theorem PG.skip {p : List Nat} {i v b : Nat} (h : PG p (i + 1) v b) (ho : ¬ p.getD i 0 % 2 = 1) : PG p i v b := by
  refine ⟨h.len, h.bd, ?_⟩
  have hv := h.ev
  rw [evF, oddB_no ho, sel_false, Nat.xor_zero] at hv
  exact hv
theorem evF_lt (p : List Nat) (n : Nat) : evF p n < 2 ^ 128 := by
  induction n with
  | zero => rw [evF]; decide
  | succ n ih => exact Nat.xor_lt_two_pow ih (sel_lt _ (pw_lt _))
theorem evF_bit (p : List Nat) (n j : Nat) (hn : n ≤ 128) (hj : j < 128) (h : n ≤ j) : bitV (evF p n) j = false := by
  induction n with
  | zero => simp [evF, bitV]
  | succ n ih => rw [evF, bitV_xor, ih (by omega) (by omega), bitV_sel, bitV_pw n j (by omega) hj]; simp; omega
theorem or_bitG (x : UInt8) (k : Nat) (hk : k ≤ 7) (j : Nat) (hj : j ≤ 7) : (x ||| UInt8.ofNat (2 ^ k)).toNat.testBit j = (x.toNat.testBit j || decide (k = j)) := by
  have h2 : (UInt8.ofNat (2 ^ k)).toNat = 2 ^ k := by
    rw [UInt8.toNat_ofNat']; exact Nat.mod_eq_of_lt (Nat.pow_lt_pow_right (by decide) (by omega))
  rw [UInt8.toNat_or, Nat.testBit_or, h2, Nat.testBit_two_pow]
theorem blk_or (p : List Nat) (i : Nat) (hi : i < 128) (ho : p.getD i 0 % 2 = 1) : (blkL (evF p i)).set (i / 8) ((blkL (evF p i)).getD (i / 8) 0 ||| UInt8.ofNat (2 ^ (7 - i % 8))) = blkL (evF p (i + 1)) := by
  have hl : ((blkL (evF p i)).set (i / 8) ((blkL (evF p i)).getD (i / 8) 0 ||| UInt8.ofNat (2 ^ (7 - i % 8)))).length = 16 := by rw [List.length_set, blkL_len]
  rw [← blk_big _ hl]
  congr 1
  refine eq_of_bits _ _ (big16_lt _ hl) (evF_lt _ _) fun j hj => ?_
  rw [bit_byte _ hl j hj, evF, oddB_yes ho, sel_true, bitV_xor, bitV_pw i j hi hj]
  have hb := bit_byte (blkL (evF p i)) (blkL_len _) j hj
  rw [bigN_blk _ (evF_lt _ _)] at hb
  have hi8 : i / 8 < (blkL (evF p i)).length := by rw [blkL_len]; omega
  have hg : ((blkL (evF p i)).set (i / 8) ((blkL (evF p i)).getD (i / 8) 0 ||| UInt8.ofNat (2 ^ (7 - i % 8)))).getD (j / 8) 0 = if i / 8 = j / 8 then (blkL (evF p i)).getD (i / 8) 0 ||| UInt8.ofNat (2 ^ (7 - i % 8)) else (blkL (evF p i)).getD (j / 8) 0 := by
    rw [List.getD, List.getElem?_set]
    split
    · simp [hi8]
    · rfl
  rw [hg, hb]
  by_cases e : i / 8 = j / 8
  · rw [if_pos e, or_bitG _ _ (by omega) _ (by omega), e]
    by_cases e2 : i = j
    · subst e2
      have h0 := evF_bit p i i (by omega) hi (Nat.le_refl _)
      rw [hb] at h0
      rw [h0]; simp
    · rw [decide_eq_false e2, decide_eq_false (by omega)]; simp
  · rw [if_neg e, decide_eq_false (by intro h; exact e (by rw [h]))]; simp
theorem blk_skip (p : List Nat) (i : Nat) (ho : ¬ p.getD i 0 % 2 = 1) : blkL (evF p i) = blkL (evF p (i + 1)) := by
  rw [evF, oddB_no ho, sel_false, Nat.xor_zero]
end Go.Proofs.YtimgggpojbpfkaaGreatDoor

/- palfreyref06.Mul. -/
namespace Go.Proofs.YtimgggpojbpfkaaGreatDoor
open Go.RowKit
set_option maxRecDepth 100000
set_option linter.unusedVariables false
set_option linter.unusedSimpArgs false
theorem but_range {g j g' : Nat} {w W : World} {cs : List Value} {t : TypeId} {fr : Nat × Nat} (h : But g j w W) (hn : g' ≠ g) (hh : w.heap[g']? = some (.cells cs.toArray t fr)) : W.rangeAt g' 0 cs := fun k v hv => by
  rw [Nat.zero_add]
  exact (h.2 g' k (lt_of_heap hh) (fun e => hn e.1)).trans ((cell_of_heap hh k).trans hv)
theorem g_or8 (y z : UInt8) : bits .or .u8 (y.toNat : Int) (z.toNat : Int) = ((y ||| z).toNat : Int) := by
  rw [u8_or_nat _ _ y.toNat_lt z.toNat_lt, UInt8.toNat_or]
theorem g_sInt : (Tryz.prog.info? 3).map (·.size) = some 1 := by kernel_rfl
theorem g_heap4 (w : World) (o1 o2 o3 o4 : Obj) : ∀ W, (((w.alloc o1).alloc o2).alloc o3).alloc o4 = W → W.heap[w.heap.size]? = some o1 ∧ W.heap[w.heap.size + 1]? = some o2 ∧ W.heap[w.heap.size + 2]? = some o3 ∧ W.heap[w.heap.size + 3]? = some o4 ∧ Below w.heap.size w W := by
  rintro W rfl
  have a1 := heap_alloc_new' w o1
  have a2 := heap_alloc_new' (w.alloc o1) o2
  have a3 := heap_alloc_new' ((w.alloc o1).alloc o2) o3
  have a4 := heap_alloc_new' (((w.alloc o1).alloc o2).alloc o3) o4
  simp only [World.size_alloc] at a2 a3 a4
  have b1 := Below.heap_alloc (w.alloc o1) o2
  have b2 := Below.heap_alloc ((w.alloc o1).alloc o2) o3
  have b3 := Below.heap_alloc (((w.alloc o1).alloc o2).alloc o3) o4
  simp only [World.size_alloc] at b1 b2 b3
  refine ⟨?_, ?_, ?_, a4, ((((Below.refl _ w).alloc (Nat.le_refl _) o1).alloc (by simp) o2).alloc (by simp; omega) o3).alloc (by simp; omega) o4⟩
  · rw [b3 _ (by omega), b2 _ (by omega), b1 _ (by omega)]; exact a1
  · rw [b3 _ (by omega), b2 _ (by omega)]; exact a2
  · rw [b3 _ (by omega)]; exact a3
def gz256 : List Nat := List.replicate 256 0
theorem gz256_init : PG gz256 255 0 0 := PG.init
theorem bitI_def (b : List UInt8) (i : Nat) : bitI b i < 2 := bitI_lt b i
end Go.Proofs.YtimgggpojbpfkaaGreatDoor

/- Contracts of the document's own answers for layer 1: Little, Big, PutLittle, PutBig. -/
namespace Go.Proofs.YtimgggpojbpfkaaGreatDoor
open Go.RowKit
set_option maxRecDepth 100000
set_option linter.unusedVariables false
set_option linter.unusedSimpArgs false

theorem ref_step (U N x : Nat) (hU : U * x < 18446744073709551616) (hN : N + U * x < 18446744073709551616) :
    ∃ V M U' : Nat, IntKind.u64.wrap ((U : Int) * (x : Int)) = (V : Int) ∧ IntKind.u64.wrap ((N : Int) + (V : Int)) = (M : Int) ∧ IntKind.u64.wrap ((U : Int) * 256) = (U' : Int) ∧ M = N + U * x ∧ U' = U * 256 % 18446744073709551616 := by
  refine ⟨U * x, N + U * x, U * 256 % 18446744073709551616, ?_, ?_, ?_, rfl, rfl⟩
  · rw [IntKind.wrap_u64, ← Int.natCast_mul]; omega
  · rw [IntKind.wrap_u64]; omega
  · rw [IntKind.wrap_u64]; omega
theorem pow_lt8 (k : Nat) (hk : k < 8) : 256 ^ (k + 1) ≤ 18446744073709551616 := by
  have h : (256 : Nat) ^ 8 = 18446744073709551616 := by decide
  rw [← h]; exact Nat.pow_le_pow_right (by decide) (by omega)
theorem unit_step (k : Nat) (hk : k < 8) : 256 ^ k % 18446744073709551616 = 256 ^ k := by
  have := pow_lt8 k hk
  rw [Nat.pow_succ] at this
  have hp : 0 < 256 ^ k := Nat.pow_pos (by decide)
  exact Nat.mod_eq_of_lt (by omega)

theorem bigN_cons (x : UInt8) (l : List UInt8) : bigN (x :: l) = x.toNat * 256 ^ l.length + bigN l := by
  have := bigN_append [x] l
  simpa [bigN] using this
/-- the last j bytes -/
def lastL (bs : List UInt8) (j : Nat) : List UInt8 := bs.drop (bs.length - j)
theorem lastL_succ (bs : List UInt8) (j : Nat) (h : j < bs.length) : lastL bs (j + 1) = bs[bs.length - 1 - j] :: lastL bs j := by
  unfold lastL
  rw [List.drop_eq_getElem_cons (by omega)]
  simp only [show bs.length - (j + 1) + 1 = bs.length - j by omega, show bs.length - (j + 1) = bs.length - 1 - j by omega]
  rw [show bs.length - 1 - j + 1 = bs.length - j by omega]
theorem lastL_len (bs : List UInt8) (j : Nat) (h : j ≤ bs.length) : (lastL bs j).length = j := by simp [lastL]; omega

theorem lastPut (x many j : Nat) (h : j < many) : putBig x many = (putLittle x many).reverse := putBig_rev x many

end Go.Proofs.YtimgggpojbpfkaaGreatDoor
/- ghash.Lengths; palfreyref06.Lengths, Padded. -/
namespace Go.Proofs.YtimgggpojbpfkaaGreatDoor
open Go.RowKit
set_option maxRecDepth 100000
set_option linter.unusedVariables false
set_option linter.unusedSimpArgs false
theorem g_own_below {w w' : World} {base : Nat} {e : TypeId} {s : Nat} {v : Value} {n : Nat} {xs : List Value} (h : w.ownsRow base e s v n xs) (hb : Below w.heap.size w w') : w'.ownsRow base e s v n xs := by
  obtain ⟨h0, h | ⟨g, cap, cur, hv, hg, hh, r⟩⟩ := h
  · exact ⟨h0, .inl h⟩
  · exact ⟨h0, .inr ⟨g, cap, cur, hv, hg, (hb.block _ (lt_of_heap hh)).trans hh, r⟩⟩
theorem g_own_ge {w : World} {base : Nat} {e : TypeId} {s : Nat} {v : Value} {n : Nat} {xs : List Value} (h : w.ownsRow base e s v n xs) {B : Nat} (hB : B ≤ base) : ∀ g, v.ownBlock = some g → B ≤ g := fun g hq => Nat.le_trans hB (h.lt g hq).1
/-- 8 times a length, as 64 bits hold it -/
def len8 (z : Int) : Nat := (8 * z % 18446744073709551616).toNat
theorem len8_lt (z : Int) : len8 z < 18446744073709551616 := by unfold len8; omega
theorem len8_wrap (z : Int) : IntKind.u64.wrap (8 * IntKind.u64.wrap z) = (len8 z : Int) := by rw [IntKind.wrap_u64, IntKind.wrap_u64]; unfold len8; omega
theorem len8_mod (z : Int) : 8 * (z % 18446744073709551616) % 18446744073709551616 = (len8 z : Int) := by unfold len8; omega
theorem len_row (p q : Nat) (hq : q < 18446744073709551616) : rowL (p * 18446744073709551616 + q) = [p, q] := by
  unfold rowL hiV loV
  rw [show (p * 18446744073709551616 + q) / 18446744073709551616 = p by omega, show (p * 18446744073709551616 + q) % 18446744073709551616 = q by omega]
theorem len_lt (p q : Nat) (hp : p < 18446744073709551616) (hq : q < 18446744073709551616) : p * 18446744073709551616 + q < 2 ^ 128 := by rw [e128]; omega
/-- two lengths as a block -/
def lenL (a b : Int) : List UInt8 := blkL (len8 a * 18446744073709551616 + len8 b)
theorem lenL_len (a b : Int) : (lenL a b).length = 16 := blkL_len _
theorem lenL_parts (a b : Int) : putBig (len8 a) 8 ++ putBig (len8 b) 8 = lenL a b := by
  have h := flatR_end (len8 a * 18446744073709551616 + len8 b)
  have hb := len8_lt b
  rw [show hiV (len8 a * 18446744073709551616 + len8 b) = len8 a by unfold hiV; omega, show loV (len8 a * 18446744073709551616 + len8 b) = len8 b by unfold loV; omega] at h
  exact h
set_option maxHeartbeats 1000000 in
theorem glen_any (a b : Int) (w : World) : Calls Tryz.prog 74 #[.int .i64 a, .int .i64 b] w fun e w' => e = .returned (.agg ((lenL a b).map bv).toArray) ∧ Below w.heap.size w w' := by
  have HR := Lib.hid (len_row (len8 a) (len8 b) (len8_lt b))
  have HF := Lib.hid (fun W => gflat_any (len8 a * 18446744073709551616 + len8 b) W (len_lt _ _ (len8_lt a) (len8_lt b)))
  rw [HR.out] at HF
  change Hid (∀ W, Calls _ _ _ W fun e w' => e = .returned (.agg ((lenL a b).map bv).toArray) ∧ _) at HF
  have u1 := len8_mod a
  have u2 := len8_mod b
  have u3 := len8_wrap a
  have u4 := len8_wrap b
  have HZL := Lib.hid (lenL_len a b)
  generalize lenL a b = Z at HF HZL ⊢
  generalize len8 a = p at HF u1 u3
  generalize len8 b = q at HF u2 u4
  have hi16 : Hid ((Tryz.prog.info? 64).map (·.size) = some (Z.map bv).length) := i16l Z HZL.out
  have hz16 : ∀ W, (zeroValue 64).run Tryz.prog W = .ok (.agg ((blkL 0).map bv).toArray) W := fun W => by kernel_rfl
  have HB0 : Hid ((blkL 0).length = 16) := blkL_len 0
  generalize blkL 0 = B0 at hz16 HB0
  go_enter Tryz.func74, Tryz.ntmps74
  go_wp2_with fail
  generalize hV : w.alloc _ = W0
  have F0 : Hid (W0.heap[w.heap.size]? = some (.cells (B0.map bv).toArray 64 (0, 0))) := heap_of_alloc hV
  have FB := Lib.hid (below_of_alloc hV (Nat.le_refl w.heap.size))
  clear hV
  refine (HF.out W0).mono ?_
  rintro e w1 ⟨rfl, hb1⟩
  have P0 := Lib.hid ((hb1.block _ (lt_of_heap F0.out)).trans F0.out)
  have PB := Lib.hid (FB.out.step hb1)
  clear hb1 F0 FB
  go_wp2_with (first
    | (refine wpList_st rfl 64 (.tmp 4) (.tmp 12) rfl (store_arr (cs := Z.map bv) hi16.out (bv_one _) (old := B0.map bv) P0.out (by rw [List.length_map, List.length_map, HB0.out, HZL.out])) ?_)
    | fail)
  have hres := setRow_heap w1 w.heap.size _ (Z.map bv).toArray 64 _ P0.out
  exact bodyPost_ret (results_cell_row (P := Tryz.prog) rfl _ _ w.heap.size 64 (Z.map bv).toArray (0, 0) _ rfl hres arr16B rfl (by rw [List.size_toArray, List.length_map, HZL.out]; exact i16B)) rfl ⟨rfl, PB.out.trans (grown_below (grown_setRow _ _ _) (Nat.le_refl _) PB.out.size)⟩
end Go.Proofs.YtimgggpojbpfkaaGreatDoor

/- gcm: wrong, and hash. -/
namespace Go.Proofs.YtimgggpojbpfkaaGreatDoor
open Go.RowKit
set_option maxRecDepth 100000
set_option linter.unusedVariables false
set_option linter.unusedSimpArgs false
/-- a key that enciphers, and has rounds -/
def GKey (w : World) (kp : Value) (E : List UInt8 → List UInt8) : Prop :=
  Enc w kp E ∧ ∃ n : Nat, 0 < n ∧ n ≤ 14 ∧ ∀ W, Below w.heap.size w W → Calls Tryz.prog 100 #[kp] W fun e w' => e = .returned (.int .i64 (n : Int)) ∧ W = w'
theorem GKey.ext {w w' : World} {kp : Value} {E : List UInt8 → List UInt8} (h : GKey w kp E) (hb : Below w.heap.size w w') : GKey w' kp E := by
  obtain ⟨h1, n, h2, h3, h4⟩ := h
  exact ⟨h1.ext hb, n, h2, h3, fun W hW => h4 W (hb.step hW)⟩
theorem KeyAt.gkey {w : World} {g n : Nat} {ws : List W32} (h : KeyAt w g ws n) (hn : 1 ≤ n) (hn2 : n ≤ 14) : GKey w (.pointer (some ⟨g, 0, none⟩)) (encL ws n) :=
  ⟨h.enc hn hn2, n, hn, hn2, fun W hW => rounds_any g ws n W (h.ext hW)⟩
set_option maxHeartbeats 1000000 in
theorem gwrong_any (kp : Value) (E : List UInt8 → List UInt8) (A : Option Addr) (n c : Nat) (w : World) (hE : GKey w kp E) (h0 : 0 < n) :
    Calls Tryz.prog 71 #[kp, .slice A n c] w fun e w' => e = .returned (.int .i64 0) ∧ w = w' := by
  obtain ⟨_, r, hr, hr2, hR⟩ := hE
  have RN := Lib.hid (hR w (Below.refl _ _))
  have t1 : ((r : Int) == 0) = false := by simp; omega
  have t2 : ((n : Int) == 0) = false := by simp; omega
  clear hR hr h0
  go_enter Tryz.func71, Tryz.ntmps71
  go_wp2_with fail
  refine RN.out.mono ?_
  rintro e w1 ⟨rfl, rfl⟩
  go_wp2
  go_ret
  exact ⟨rfl, rfl⟩
set_option maxHeartbeats 1000000 in
theorem gwrong_iv (kp : Value) (E : List UInt8 → List UInt8) (A : Option Addr) (c : Nat) (w : World) (hE : GKey w kp E) :
    Calls Tryz.prog 71 #[kp, .slice A 0 c] w fun e w' => e = .returned (.int .i64 6) ∧ w = w' := by
  obtain ⟨_, r, hr, hr2, hR⟩ := hE
  have RN := Lib.hid (hR w (Below.refl _ _))
  have t1 : ((r : Int) == 0) = false := by simp; omega
  clear hR hr
  go_enter Tryz.func71, Tryz.ntmps71
  go_wp2_with fail
  refine RN.out.mono ?_
  rintro e w1 ⟨rfl, rfl⟩
  go_wp2
  go_ret
  exact ⟨rfl, rfl⟩
/-- bytes with noughts behind, to whole blocks -/
def whG (b : List UInt8) : List UInt8 := b ++ List.replicate (padN b.length) 0
def joinW (ps : List Part) : List UInt8 := ps.flatMap fun q => whG q.2.2
theorem joinW_snoc (ps : List Part) (i : Nat) (q : Part) (h : ps[i]? = some q) : joinW (ps.take (i + 1)) = joinW (ps.take i) ++ whG q.2.2 := by
  rw [List.take_add_one, h, joinW, List.flatMap_append]; simp [joinW]
theorem padN_lt (n : Nat) : padN n < 16 := by unfold padN; omega
set_option maxHeartbeats 4000000 in
theorem ghashR_any (kp : Value) (E : List UInt8 → List UInt8) (A : Option Addr) (C N : Nat) (ps : List Part) (w : World) (hE : Enc w kp E) (hy : PartsAt w (A, C, ps)) (hN : ps.length = N) (hN3 : N ≤ 3) (hL : ∀ q ∈ ps, q.2.2.length ≤ 100000) :
    Calls Tryz.prog 75 #[kp, .slice A N C] w fun e w' => e = .returned (.agg ((gsumL (E zerB) (joinW ps)).map bv).toArray) ∧ Below w.heap.size w w' := by
  have hz : ∀ W, (zeroValue 64).run Tryz.prog W = .ok (.agg zeros16.toArray) W := fun W => by kernel_rfl
  have HZL : Hid (zeros16.length = 16) := rfl
  have BD : Hid (∀ W, (Instr.build 64 #[]).run Tryz.prog W = .ok (.agg (zerB.map bv).toArray) W) := fun W => by kernel_rfl
  have ENC := Lib.hid (fun W hW => hE.2 W hW zerB rfl)
  have HEL := Lib.hid (hE.1 zerB rfl)
  have GS := Lib.hid (fun A n c bs W hl hn hS => gsum_any (E zerB) A n c bs W HEL.out hl hn hS)
  generalize E zerB = EZ at ENC HEL GS ⊢
  generalize zerB.map bv = ZB at BD ENC
  generalize zeros16 = Z at hz HZL
  obtain ⟨h1, h2, h3, h4⟩ := hy
  simp only at h1 h2 h3 h4
  rw [hN] at h1
  have HN := Lib.hid hN; have H3 := Lib.hid h3; have H4 := Lib.hid h4; have HL := Lib.hid hL
  have GL := Lib.hid (gsumL_len EZ (joinW ps))
  obtain ⟨Q, HQ⟩ : ∃ Q, Hid (gsumL EZ (joinW ps) = Q) := ⟨_, rfl⟩
  rw [HQ.out] at GL ⊢
  clear hE hN h1 h2 h3 h4 hL
  have G := Lib.hid (heap_alloc_new' w (.cells Z.toArray 64))
  have GB : Hid (Below w.heap.size w (w.alloc (.cells Z.toArray 64))) := (Below.refl _ _).alloc (Nat.le_refl _) _
  have hs1 : Hid (w.heap.size + 1 ≤ (w.alloc (.cells Z.toArray 64)).heap.size) := by show _ ≤ _; simp
  go_enter Tryz.func75, Tryz.ntmps75
  go_upto_region 1 with (fail)
  generalize w.alloc _ = W0 at G GB hs1 ⊢
  go_wp2_with fail
  go_loopw [5, 10] (fun va vi wr => ∃ (i k : Nat) (A' : Option Addr) (c' : Nat), i ≤ N ∧ k ≤ 100016 * i ∧ vi = .int .i64 (i : Int) ∧ va = .slice A' k c' ∧ Hid ((joinW (ps.take i)).length = k) ∧ Hid (wr.ownsRow (w.heap.size + 1) 5 1 (.slice A' k c') k ((joinW (ps.take i)).map bv)) ∧ Hid (Below w.heap.size w wr) ∧
      Hid (wr.heap[w.heap.size]? = some (.cells Z.toArray 64 (0, 0)))) (fun _ i _ => N - (intOf i).toNat)
  case atStart => exact ⟨0, 0, none, 0, by omega, by omega, rfl, rfl, rfl, World.ownsRow_nil _ _ _ _, GB, G⟩
  case round =>
    clear G GB hs1
    obtain ⟨i, k, A', c', hi, hk, rfl, rfl, HK, HO, HB, HR⟩ := hrel
    by_cases hlt : i < N
    · have q1 : (i : Int) < (N : Int) := by omega
      obtain ⟨q, hq⟩ : ∃ q, ps[i]? = some q := ⟨_, List.getElem?_eq_getElem (by rw [HN.out]; exact hlt)⟩
      obtain ⟨b, o, rfl, hb, hc⟩ := H4.out.at_ (by rw [List.length_map, HN.out]; omega)
      have hSq := H3.out q (List.mem_of_getElem? hq)
      have hLq := HL.out q (List.mem_of_getElem? hq)
      have c1 : wr.cell? ⟨b, o + i, none⟩ = some (partV q) := (HB.out.cell hb).trans (hc i _ (by rw [List.getElem?_map, hq]; rfl))
      have hj := joinW_snoc ps i q hq
      obtain ⟨Aq, cq, bq⟩ := q
      obtain ⟨m, hm⟩ : ∃ m, bq.length = m := ⟨_, rfl⟩
      have c1' : wr.cell? ⟨b, o + i, none⟩ = some (.slice Aq m cq) := by rw [c1, ← hm]; rfl
      simp only at hSq hLq hj
      rw [hm] at hLq
      have HJ := Lib.hid hj; have HM := Lib.hid hm; have HSQ := Lib.hid (hSq.below HB.out); have HC1 := Lib.hid c1'
      have hs2 : Hid (w.heap.size + 1 ≤ wr.heap.size) := lt_of_heap HR.out
      have hkm : k + m ≤ 2147483647 := by omega
      clear hj hm hSq hq hc c1 c1' hb
      have c1 := HC1.out
      go_upto_region 6 with (
        at_builtin
        refine wpList_app8 rfl (.tmp 14) (.tmp 15) rfl (w.heap.size + 1) _ k (joinW (ps.take i)) rfl ?_ Aq m cq wr.heap.size bq rfl ?_ ?_ ?_ ?_ ?_
        · exact HO.out
        · exact HSQ.out.2.2
        · exact HM.out
        · exact hkm
        · exact hs2.out
        rintro v3 w3 hown hgr
        have HO3 := Lib.hid hown
        have HB3 : Hid (Below w.heap.size w w3) := HB.out.grown hgr HB.out.size (c_own_ge HO.out (Nat.le_succ _))
        have HR3 := Lib.hid ((hgr.block _ (lt_of_heap HR.out) (c_own_ne HO.out (Nat.lt_succ_self _))).trans HR.out)
        clear hown hgr)
      clear c1 HC1 HSQ HO HB HR hs2
      obtain ⟨A3, c3, rfl, hl3, h31, h32, hr3⟩ := own_read HO3.out
      clear hl3 h31 h32 hr3
      have hs3 : Hid (w.heap.size + 1 ≤ w3.heap.size) := lt_of_heap HR3.out
      have PD := Lib.hid (fun W => gpad_any m W (by omega))
      obtain ⟨p, hp⟩ : ∃ p, padN m = p := ⟨_, rfl⟩
      rw [hp] at PD
      have hp16 : p < 16 := by rw [← hp]; exact padN_lt m
      have HP := Lib.hid hp
      have hkm2 : k + m + p ≤ 2147483647 := by omega
      clear hp
      go_wp2_with fail
      refine (PD.out w3).mono ?_
      rintro e w4 ⟨rfl, rfl⟩
      go_upto_region 7 with (
        at_builtin
        refine wpList_app0 rfl (.tmp 17) (.tmp 20) rfl (w.heap.size + 1) _ (k + m) (joinW (ps.take i) ++ bq) rfl ?_ p rfl ?_ ?_ ?_
        · exact HO3.out
        · exact hkm2
        · exact hs3.out
        rintro v5 w5 hown hgr
        have HO5 := Lib.hid hown
        have HB5 : Hid (Below w.heap.size w w5) := HB3.out.grown hgr HB3.out.size (c_own_ge HO3.out (Nat.le_succ _))
        have HR5 := Lib.hid ((hgr.block _ (lt_of_heap HR3.out) (c_own_ne HO3.out (Nat.lt_succ_self _))).trans HR3.out)
        clear hown hgr)
      have HJ' : Hid (joinW (ps.take i) ++ bq ++ List.replicate p 0 = joinW (ps.take (i + 1))) := by show _ = _; rw [HJ.out, whG, HM.out, HP.out, List.append_assoc]
      have HO5' := HO5.out
      rw [HJ'.out] at HO5'
      obtain ⟨k', hk'⟩ : ∃ k', k + m + p = k' := ⟨_, rfl⟩
      rw [hk'] at HO5'
      obtain ⟨A5, c5, rfl, hl5, h51, h52, hr5⟩ := own_read HO5'
      have HO6 := Lib.hid HO5'
      have HL5 := Lib.hid hl5
      clear h51 h52 hr5 HO5' HO5 HO3 hl5
      have hk2 : k' ≤ 100016 * (i + 1) := by omega
      clear hkm hkm2
      go_wp2
      go_roundw
      case rel => exact ⟨i + 1, k', A5, c5, by omega, hk2, by go_num, rfl, HL5, HO6, HB5, HR5⟩
      case measure => simp [intOf]; omega
    · have hiN : i = N := by omega
      have HO' := HO.out
      have HK' := HK.out
      rw [List.take_of_length_le (by rw [HN.out]; omega)] at HO' HK'
      obtain ⟨A3, c3, he, hl3, h31, h32, hr3⟩ := own_read HO'
      injection he with he1 he2 he3
      subst he1; subst he3
      have HS3 := Lib.hid (sl_mk hl3 h31 h32 hr3)
      have HKJ := Lib.hid HK'
      clear hl3 h31 h32 hr3 he2 HO HO' HK HK' hiN
      generalize joinW ps = JW at HS3 HKJ HQ
      have q1 : ¬ ((i : Int) < (N : Int)) := by omega
      go_wp2_with (first
        | (refine wpList_run (o := ⟨some 24, _, _, _, _, _⟩) rfl (v := .agg ZB.toArray) (w' := wr) (exec_bld rfl (by simp only [List.map_toArray, List.map_nil]; exact BD.out wr)) ?_)
        | fail)
      refine (ENC.out wr HB.out).mono ?_
      rintro e w2 ⟨rfl, hb⟩
      have B2 : Hid (Below w.heap.size w w2) := HB.out.step hb
      have R2 := Lib.hid ((hb.block _ (lt_of_heap HR.out)).trans HR.out)
      have S2 := Lib.hid (HS3.out.below hb)
      clear hb HB HR HS3 ENC
      go_wp2_with fail
      refine (GS.out A' k c' JW w2 HKJ.out (by omega) S2.out).mono ?_
      rw [HQ.out]
      rintro e w3 ⟨rfl, hb⟩
      have B3 : Hid (Below w.heap.size w w3) := B2.out.step hb
      have R3 := Lib.hid ((hb.block _ (lt_of_heap R2.out)).trans R2.out)
      clear hb B2 R2 S2 GS
      go_wp2_with (first
        | (refine wpList_st rfl 64 (.tmp 4) (.tmp 27) rfl (store_arr (cs := Q.map bv) (i16c Q GL.out) (bv_one _) R3.out (by rw [List.length_map, GL.out]; exact HZL.out)) ?_))
      have hres := setRow_heap w3 w.heap.size _ (Q.map bv).toArray 64 _ R3.out
      exact bodyPost_ret (results_cell_row (P := Tryz.prog) rfl _ _ w.heap.size 64 (Q.map bv).toArray (0, 0) _ rfl hres arr16B rfl (by rw [List.size_toArray]; exact i16c Q GL.out)) rfl ⟨rfl, B3.out.trans (grown_below (grown_setRow _ _ _) (Nat.le_refl _) B3.out.size)⟩
end Go.Proofs.YtimgggpojbpfkaaGreatDoor
