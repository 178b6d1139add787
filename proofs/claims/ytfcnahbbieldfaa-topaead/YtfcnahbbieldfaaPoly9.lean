/- poly: (*State).Sum, Sum. -/
import Derived.Test.YtfcnahbbieldfaaPoly8
namespace Go.Proofs.Ytfcnahbbieldfaa
open Go.RowKit
set_option maxRecDepth 100000
set_option linter.unusedVariables false
set_option linter.unusedSimpArgs false
/-- the sum of the parts of m, whole ones and the last one -/
def polyN (r : Nat) (m : List UInt8) : Nat := if m.length % 16 = 0 then partsN r 0 m (m.length / 16) else stepN r (partsN r 0 m (m.length / 16)) (m.drop (16 * (m.length / 16)))
theorem polyN_lt (r : Nat) (m : List UInt8) (hr : r < 21267647932558653966460912964485513216) : polyN r m < 2722258935367507707706996859454145691648 := by
  unfold polyN
  split
  · exact partsN_lt r 0 m _ (by omega) hr
  · exact stepN_lt r _ _ (by rw [List.length_drop]; omega) (partsN_lt r 0 m _ (by omega) hr) hr
def psumL (r s : Nat) (m : List UInt8) : List UInt8 :=
  putLittle ((leastN (polyN r m) + s) % 18446744073709551616) 8 ++ putLittle ((leastN (polyN r m) + s) / 18446744073709551616 % 18446744073709551616) 8
theorem psumL_len (r s : Nat) (m : List UInt8) : (psumL r s m).length = 16 := by simp [psumL, putLittle_len]
theorem psum_nil (w : World) : Calls Try.prog 10 #[.pointer none] w fun e w' => e = .returned (.agg ((List.replicate 16 (0 : UInt8)).map bv).toArray) ∧ Below w.heap.size w w' := by
  have hz : ∀ W, (zeroValue 23).run Try.prog W = .ok (.agg zer16.toArray) W := fun W => by kernel_rfl
  have hZ : Hid ((List.replicate 16 (0 : UInt8)).map bv = zer16) := rfl
  have hlz : Hid (zer16.length = 16) := rfl
  have h1 : Hid (∀ v ∈ zer16, v.oneCell' = true) := bv_one (List.replicate 16 0)
  rw [hZ.out]
  have BD : Hid (∀ W, (Instr.build 23 #[]).run Try.prog W = .ok (.agg zer16.toArray) W) := fun W => by kernel_rfl
  generalize zer16 = Z at hz hlz h1 BD ⊢
  clear hZ
  have G := Lib.hid (heap_alloc_new' w (.cells Z.toArray 23))
  have GB : Hid (Below w.heap.size w (w.alloc (.cells Z.toArray 23))) := (Below.refl _ _).alloc (Nat.le_refl _) _
  go_enter Try.func10, Try.ntmps10
  go_upto_region 1 with (fail)
  generalize hV : w.alloc _ = W0 at G GB ⊢
  clear hV
  go_wp2_with (first
    | (refine wpList_run (o := ⟨some 7, _, _, _, _, _⟩) rfl (v := .agg Z.toArray) (w' := W0) (exec_bld rfl (by simp only [List.map_toArray, List.map_nil]; exact BD.out W0)) ?_)
    | (refine wpList_st rfl 23 (.tmp 2) (.tmp 7) rfl (store_arr (cs := Z) (by rw [hlz.out]; exact i16P) h1.out G.out rfl) ?_))
  have hres := setRow_heap W0 w.heap.size _ Z.toArray 23 _ G.out
  exact bodyPost_ret (results_cell_row (P := Try.prog) rfl _ _ w.heap.size 23 Z.toArray (0, 0) _ rfl hres arr16P rfl (by rw [List.size_toArray, hlz.out]; exact i16P)) rfl ⟨rfl, GB.out.trans (grown_below (grown_setRow _ _ _) (by omega) GB.out.size)⟩
set_option maxHeartbeats 4000000 in
theorem pstSum_any (g r s : Nat) (m : List UInt8) (w : World) (hr : r < 21267647932558653966460912964485513216) (H : PAt w g r s m) :
    Calls Try.prog 10 #[.pointer (some ⟨g, 0, none⟩)] w fun e w' => e = .returned (.agg ((psumL r s m).map bv).toArray) ∧ Below w.heap.size w w' := by
  unfold PAt at H
  obtain ⟨p, hp⟩ : ∃ p, m.length % 16 = p := ⟨_, rfl⟩
  have hp16 : p < 16 := by omega
  have HP := Lib.hid hp; have HR := Lib.hid hr
  have hyl := polyN_lt r m hr
  have hpl := partsN_lt r 0 m (m.length / 16) (by omega) hr
  obtain ⟨y, hy⟩ : ∃ y, polyN r m = y := ⟨_, rfl⟩
  have hlen : (m.drop (16 * (m.length / 16))).length = p := by rw [List.length_drop]; omega
  have hyd : y = if p = 0 then partsN r 0 m (m.length / 16) else stepN r (partsN r 0 m (m.length / 16)) (m.drop (16 * (m.length / 16))) := by rw [← hy, ← hp]; rfl
  have hps : psumL r s m = putLittle ((leastN y + s) % 18446744073709551616) 8 ++ putLittle ((leastN y + s) / 18446744073709551616 % 18446744073709551616) 8 := by rw [← hy]; rfl
  have hlp := psumL_len r s m
  rw [hy] at hyl
  have htl := ptail_len m
  have htk : (ptail m).take p = m.drop (16 * (m.length / 16)) := by unfold ptail; rw [← hlen]; exact List.take_left' rfl
  rw [hp] at H
  generalize m.drop (16 * (m.length / 16)) = D at hlen hyd htk
  generalize partsN r 0 m (m.length / 16) = x at H hyd hpl
  generalize ptail m = T at H htl htk
  generalize psumL r s m = Q at hps hlp ⊢
  have LR : Hid ((numL r).length = 3) := rfl
  have LS : Hid ((numL s).length = 3) := rfl
  have LX : Hid ((numL x).length = 3) := rfl
  have LY : Hid ((numL y).length = 3) := rfl
  have LT : Hid ((numL (leastN y + s)).length = 3) := rfl
  have SA := Lib.hid (fun A c W hS => step_any x r A p c D W hlen (by omega) hpl hr hS)
  have LA := Lib.hid (fun W => least_any y W hyl)
  have PA := Lib.hid (fun W => plus_any (leastN y) s W)
  obtain ⟨u0, hu0⟩ : ∃ u, (leastN y + s) % 18446744073709551616 = u := ⟨_, rfl⟩
  obtain ⟨u1, hu1⟩ : ∃ u, (leastN y + s) / 18446744073709551616 % 18446744073709551616 = u := ⟨_, rfl⟩
  have P0 := Lib.hid (fun W => putLittle_any u0 8 W (by omega) (by omega))
  have P1 := Lib.hid (fun W => putLittle_any u1 8 W (by omega) (by omega))
  have g0 : Hid ((numL (leastN y + s)).getD 0 0 = u0) := hu0
  have g1 : Hid ((numL (leastN y + s)).getD 1 0 = u1) := hu1
  rw [hu0, hu1] at hps
  generalize numL (leastN y + s) = NT at PA LT g0 g1
  generalize numL (leastN y) = NL at LA PA
  obtain ⟨NY, HNY⟩ : ∃ NY, Hid (numL y = NY) := ⟨_, rfl⟩
  obtain ⟨NX, HNX⟩ : ∃ NX, Hid (numL x = NX) := ⟨_, rfl⟩
  rw [HNY.out] at LA LY
  rw [HNX.out] at SA LX H
  have HSY : Hid (¬ p = 0 → stepN r x D = y) := by intro h; rw [hyd, if_neg h]
  have HEY : Hid (p = 0 → NX = NY) := by intro h; rw [← HNX.out, ← HNY.out, hyd, if_pos h]
  generalize numL r = NR at SA LR H
  generalize numL s = NS at PA LS H
  have HQ := Lib.hid hps; have HQL := Lib.hid hlp
  have HTL := Lib.hid htl; have HTK := Lib.hid htk; have HDL := Lib.hid hlen
  have hz : ∀ W, (zeroValue 23).run Try.prog W = .ok (.agg zer16.toArray) W := fun W => by kernel_rfl
  have hzn : ∀ W, (zeroValue 58).run Try.prog W = .ok (.agg zeros3.toArray) W := fun W => by kernel_rfl
  have hlz : Hid (zer16.length = 16) := rfl
  have HZ16 : Hid (zer16 = List.replicate 16 (Value.int .u8 0)) := rfl
  have hln : Hid (zeros3.length = 3) := rfl
  generalize zer16 = Z at hz hlz HZ16
  generalize zeros3 = Z3 at hzn hln
  have hgl := Lib.hid (lt_of_heap H)
  have LO : Hid (∀ W, Below w.heap.size w W → W.heap[g]? = some (.cells (pCells NR NS NX T p).toArray 61 (0, 0))) := by
    have h0 := H
    intro W hW
    exact (hW.block _ (lt_of_heap h0)).trans h0
  clear H hp hr hyl hpl hlen hyd hps hlp htl htk hu0 hu1 hy
  have G := Lib.hid (heap_alloc_new' w (.cells Z.toArray 23))
  have GB : Hid (Below w.heap.size w (w.alloc (.cells Z.toArray 23))) := (Below.refl _ _).alloc (Nat.le_refl _) _
  have hs0 : Hid ((w.alloc (.cells Z.toArray 23)).heap.size = w.heap.size + 1) := by show _ = _; simp
  go_enter Try.func10, Try.ntmps10
  go_upto_region 1 with (fail)
  generalize hV : w.alloc _ = W0 at G GB hs0 ⊢
  clear hV
  have RH := Lib.hid (prange_H (LO.out _ GB.out) LR.out LS.out)
  go_upto_region 4 with (first
    | (refine wpList_ld rfl 58 (.tmp 10) rfl (run_loadAt_mid _ g 6 58 (NX.map uv) _ RH.out arr3 rfl (i3l NX LX.out)) ?_)
    | (refine wpList_st rfl 58 (.tmp 3) (.tmp 11) rfl (store_arr (cs := NX.map uv) (i3l NX LX.out) (uv_one _) (heap_alloc_new' W0 _) (by rw [List.length_map, LX.out]; exact hln.out)) ?_
       generalize hV : World.setRow _ _ _ = W1
       have M1 := Lib.hid (heap_of_setRow hV (heap_alloc_new' W0 _))
       have MB := Lib.hid (((Below.refl W0.heap.size W0).alloc (Nat.le_refl _) _).trans (below_of_setRow hV (Nat.le_refl W0.heap.size) (by simp)))
       clear hV)
    | fail)
  have G1 := Lib.hid ((MB.out.block _ (lt_of_heap G.out)).trans G.out)
  have GB1 : Hid (Below w.heap.size w W1) := GB.out.trans (MB.out.mono GB.out.size)
  rw [hs0.out] at M1 ⊢
  clear MB RH G GB hs0
  have c25 := pcell_n (LO.out _ GB1.out) LR.out LS.out LX.out HTL.out
  go_upto_if 16 with (fail)
  clear c25
  go_cut [16] from 17 to 30 (fun v16 wx => Hid (Below w.heap.size w wx) ∧ Hid (wx.heap[w.heap.size]? = some (.cells Z.toArray 23 (0, 0))) ∧ Hid (wx.heap[w.heap.size + 1]? = some (.cells (NY.map uv).toArray 58 (0, 0))))
  case first =>
    by_cases h0 : p = 0
    · have e0 : ¬ ((0 : Int) < (p : Int)) := by omega
      have M2 : Hid (W1.heap[w.heap.size + 1]? = some (.cells (NY.map uv).toArray 58 (0, 0))) := by have := M1.out; rw [HEY.out h0] at this; exact this
      clear h0
      go_wp2_with fail
      go_meet
      exact ⟨GB1, G1, M2⟩
    · have e0 : (0 : Int) < (p : Int) := by omega
      have SY := SA.out
      rw [HSY.out h0, HNY.out] at SY
      have SY := Lib.hid SY
      have sl := arr_to arr16P s8 ⟨g, 9, none⟩ .i64 (p : Int) (by omega) (by omega)
      rw [Int.toNat_natCast] at sl
      have SX : Hid (∀ W, Below w.heap.size w W → Sl W (some ⟨g, 9, none⟩) 16 D) := by
        intro W hW
        have := sl_take' (q := p) (sl_range (prange_T (LO.out W hW) LR.out LS.out LX.out) (lt_of_heap (LO.out W hW)) (c := 16) (by rw [HTL.out]; omega) (by simp [maxLen]))
        rw [HTK.out] at this; exact this
      have HX : Hid (Grow (w.heap.size + 1) W1 W1.drew) := Grow.drew _ _
      have LG : Hid (∀ W, Grow (w.heap.size + 1) W1 W → Below w.heap.size w W) := fun W hW => GB1.out.trans (hW.below (Nat.le_succ _) GB1.out.size)
      go_wp2_with fail
      refine regS_start (Grow (w.heap.size + 1)) (by kernel_rfl) ?_
      try simp only [Act.put, List.setIfInBounds_toArray, List.set_cons_zero, List.set_cons_succ]
      refine regS_take (v := ?_) 1 (some 18) rfl rfl (by kernel_rfl) (by kernel_rfl) (by kernel_rfl) (fun _ _ _ h => h) (by rfl) (fun W hW => ?_) ?_
      rotate_left
      · (go_simp; try rfl)
      simp only [Act.put, List.setIfInBounds_toArray, List.set_cons_zero, List.set_cons_succ]
      refine regS_take (v := ?_) 2 (some 19) rfl rfl (by kernel_rfl) (by kernel_rfl) (by kernel_rfl) (fun _ _ _ h => h) (by rfl) (fun W hW => ?_) ?_
      rotate_left
      · (go_simp; try rfl)
      simp only [Act.put, List.setIfInBounds_toArray, List.set_cons_zero, List.set_cons_succ]
      refine regS_take (v := ?_) 3 (some 20) rfl rfl (by kernel_rfl) (by kernel_rfl) (by kernel_rfl) (fun _ _ _ h => h) (by rfl) (fun W hW => ?_) ?_
      rotate_left
      · (go_simp; try rfl)
      simp only [Act.put, List.setIfInBounds_toArray, List.set_cons_zero, List.set_cons_succ]
      refine regS_load 4 (some 21) (fun W hW => run_loadAt_mid W g 0 58 (NR.map uv) _ (prange_R (LO.out W (LG.out W (HX.out.trans hW)))) arr3 rfl (i3l NR LR.out)) rfl rfl rfl rfl (by kernel_rfl) (by kernel_rfl) (by kernel_rfl) (fun _ _ _ h => h) (by rfl) ?_
      simp only [Act.put, List.setIfInBounds_toArray, List.set_cons_zero, List.set_cons_succ]
      refine regS_take (v := ?_) 5 (some 22) rfl rfl (by kernel_rfl) (by kernel_rfl) (by kernel_rfl) (fun _ _ _ h => h) (by rfl) (fun W hW => ?_) ?_
      rotate_left
      · (go_simp; try rfl)
      simp only [Act.put, List.setIfInBounds_toArray, List.set_cons_zero, List.set_cons_succ]
      refine regS_take (v := ?_) 6 (some 23) rfl rfl (by kernel_rfl) (by kernel_rfl) (by kernel_rfl) (fun _ _ _ h => h) (by rfl) (fun W hW => ?_) ?_
      rotate_left
      · (go_simp; try rfl)
      simp only [Act.put, List.setIfInBounds_toArray, List.set_cons_zero, List.set_cons_succ]
      refine regS_take (v := ?_) 7 (some 24) rfl rfl (by kernel_rfl) (by kernel_rfl) (by kernel_rfl) (fun _ _ _ h => h) (by rfl) (fun W hW => ?_) ?_
      rotate_left
      · (go_simp; try rfl)
      simp only [Act.put, List.setIfInBounds_toArray, List.set_cons_zero, List.set_cons_succ]
      refine regS_take (v := ?_) 8 (some 25) rfl rfl (by kernel_rfl) (by kernel_rfl) (by kernel_rfl) (fun _ _ _ h => h) (by rfl) (fun W hW => ?_) ?_
      rotate_left
      · (go_simp; try rfl)
      simp only [Act.put, List.setIfInBounds_toArray, List.set_cons_zero, List.set_cons_succ]
      refine regS_take (v := ?_) 9 (some 26) rfl rfl (by kernel_rfl) (by kernel_rfl) (by kernel_rfl) (fun _ _ _ h => h) (by rfl) (fun W hW => ?_) ?_
      rotate_left
      · (go_simp; try rfl)
      simp only [Act.put, List.setIfInBounds_toArray, List.set_cons_zero, List.set_cons_succ]
      refine regS_take (v := ?_) 10 (some 27) rfl rfl (by kernel_rfl) (by kernel_rfl) (by kernel_rfl) (fun _ _ _ h => h) (by rfl) (fun W hW => ?_) ?_
      rotate_left
      · (go_simp; try rfl)
      simp only [Act.put, List.setIfInBounds_toArray, List.set_cons_zero, List.set_cons_succ]
      refine regS_load 11 (some 28) (fun W hW => load_cell Try.underlying3 (pcell_n (LO.out W (LG.out W (HX.out.trans hW))) LR.out LS.out LX.out HTL.out)) rfl rfl rfl rfl (by kernel_rfl) (by kernel_rfl) (by kernel_rfl) (fun _ _ _ h => h) (by rfl) ?_
      simp only [Act.put, List.setIfInBounds_toArray, List.set_cons_zero, List.set_cons_succ]
      refine regS_take (v := ?_) 12 (some 29) rfl rfl (by kernel_rfl) (by kernel_rfl) (by kernel_rfl) (fun _ _ _ h => h) (by rfl) (fun W hW => ?_) ?_
      rotate_left
      · (go_simp; try rfl)
      simp only [Act.put, List.setIfInBounds_toArray, List.set_cons_zero, List.set_cons_succ]
      refine regS_eff 0 rfl (by kernel_rfl) (fun K hK => ?_)
      refine step_ld rfl 58 (.tmp 3) rfl (load_arr arr3 rfl (i3l NX LX.out) (W := W1.drew) M1.out) ?_
      have hE : Grow (w.heap.size + 1) W1.drew W1.drew := Pre.refl _
      refine hK.out _ _ hE ?_
      have HX := Lib.hid (Pre.trans HX.out hE)
      clear hE hK K
      try simp only [Act.put, List.setIfInBounds_toArray, List.set_cons_zero, List.set_cons_succ]
      refine regS_eff 13 rfl (by kernel_rfl) (fun K hK => ?_)
      go_simp
      refine (SY.out _ _ _ (SX.out _ (LG.out _ HX.out))).mono ?_
      rintro e w2 ⟨rfl, hb⟩
      have N2 := Lib.hid ((hb.block _ (lt_of_heap (w := W1.drew) M1.out)).trans M1.out)
      have hE := Grow.of_ext (g := w.heap.size + 1) hb
      clear hb
      refine hK.out _ _ hE ?_
      have HX := Lib.hid (Pre.trans HX.out hE)
      clear hE hK K
      try simp only [Act.put, List.setIfInBounds_toArray, List.set_cons_zero, List.set_cons_succ]
      refine regS_eff 14 rfl (by kernel_rfl) (fun K hK => ?_)
      refine step_st1 rfl 58 (.tmp 3) (.tmp 30) rfl (store_arr (cs := NY.map uv) (i3l NY LY.out) (uv_one _) N2.out (by rw [List.length_map, List.length_map, LX.out, LY.out])) ?_
      generalize hV : World.setRow _ _ _ = W3
      have N3 := Lib.hid (heap_of_setRow hV N2.out)
      have hE : Grow (w.heap.size + 1) w2 W3 := by rw [← hV]; exact Grow.setRow _ _ _
      clear hV
      refine hK.out _ _ hE ?_
      have HX := Lib.hid (Pre.trans HX.out hE)
      clear hE hK K
      try simp only [Act.put, List.setIfInBounds_toArray, List.set_cons_zero, List.set_cons_succ]
      refine regS_done (by kernel_rfl) ?_
      have G3 := Lib.hid (HX.out.heap (by omega) G1.out)
      have GB3 := Lib.hid (LG.out _ HX.out)
      go_wp2_with fail
      go_meet
      exact ⟨GB3, G3, N3⟩
  case rest =>
    obtain ⟨GB2, G2, M2⟩ := hcut
    clear GB1 G1 M1
    go_upto_region 6 with (fail)
    have LG : Hid (∀ W, Grow (w.heap.size + 1) wc W → Below w.heap.size w W) := fun W hW => GB2.out.trans (hW.below (Nat.le_succ _) GB2.out.size)
    have HX : Hid (Grow (w.heap.size + 1) wc wc.drew) := Grow.drew _ _
    refine regS_start (Grow (w.heap.size + 1)) (by kernel_rfl) ?_
    try simp only [Act.put, List.setIfInBounds_toArray, List.set_cons_zero, List.set_cons_succ]
    refine regS_take (v := ?_) 2 (some 33) rfl rfl (by kernel_rfl) (by kernel_rfl) (by kernel_rfl) (fun _ _ _ h => h) (by rfl) (fun W hW => ?_) ?_
    rotate_left
    · (go_simp; try rfl)
    simp only [Act.put, List.setIfInBounds_toArray, List.set_cons_zero, List.set_cons_succ]
    refine regS_take (v := ?_) 3 (some 34) rfl rfl (by kernel_rfl) (by kernel_rfl) (by kernel_rfl) (fun _ _ _ h => h) (by rfl) (fun W hW => ?_) ?_
    rotate_left
    · (go_simp; try rfl)
    simp only [Act.put, List.setIfInBounds_toArray, List.set_cons_zero, List.set_cons_succ]
    refine regS_take (v := ?_) 4 (some 35) rfl rfl (by kernel_rfl) (by kernel_rfl) (by kernel_rfl) (fun _ _ _ h => h) (by rfl) (fun W hW => ?_) ?_
    rotate_left
    · (go_simp; try rfl)
    simp only [Act.put, List.setIfInBounds_toArray, List.set_cons_zero, List.set_cons_succ]
    refine regS_load 5 (some 36) (fun W hW => run_loadAt_mid W g 3 58 (NS.map uv) _ (prange_S (LO.out W (LG.out W (HX.out.trans hW))) LR.out) arr3 rfl (i3l NS LS.out)) rfl rfl rfl rfl (by kernel_rfl) (by kernel_rfl) (by kernel_rfl) (fun _ _ _ h => h) (by rfl) ?_
    simp only [Act.put, List.setIfInBounds_toArray, List.set_cons_zero, List.set_cons_succ]
    refine regS_eff 0 rfl (by kernel_rfl) (fun K hK => ?_)
    refine step_ld rfl 58 (.tmp 3) rfl (load_arr arr3 rfl (i3l NY LY.out) (W := wc.drew) M2.out) ?_
    have hE : Grow (w.heap.size + 1) wc.drew wc.drew := Pre.refl _
    refine hK.out _ _ hE ?_
    have HX := Lib.hid (Pre.trans HX.out hE)
    clear hE hK K
    try simp only [Act.put, List.setIfInBounds_toArray, List.set_cons_zero, List.set_cons_succ]
    refine regS_eff 1 rfl (by kernel_rfl) (fun K hK => ?_)
    go_simp
    refine (LA.out _).mono ?_
    rintro e w2 ⟨rfl, hb⟩
    have N2 := Lib.hid ((hb.block _ (lt_of_heap (w := wc.drew) M2.out)).trans M2.out)
    have hE := Grow.of_ext (g := w.heap.size + 1) hb
    clear hb
    refine hK.out _ _ hE ?_
    have HX := Lib.hid (Pre.trans HX.out hE)
    clear hE hK K
    try simp only [Act.put, List.setIfInBounds_toArray, List.set_cons_zero, List.set_cons_succ]
    refine regS_eff 6 rfl (by kernel_rfl) (fun K hK => ?_)
    go_simp
    refine (PA.out _).mono ?_
    rintro e w3 ⟨rfl, hb⟩
    have N3 := Lib.hid ((hb.block _ (lt_of_heap N2.out)).trans N2.out)
    have hE := Grow.of_ext (g := w.heap.size + 1) hb
    clear hb
    refine hK.out _ _ hE ?_
    have HX := Lib.hid (Pre.trans HX.out hE)
    clear hE hK K
    try simp only [Act.put, List.setIfInBounds_toArray, List.set_cons_zero, List.set_cons_succ]
    refine regS_eff 7 rfl (by kernel_rfl) (fun K hK => ?_)
    refine step_st1 rfl 58 (.tmp 3) (.tmp 37) rfl (store_arr (cs := NT.map uv) (i3l NT LT.out) (uv_one _) N3.out (by rw [List.length_map, List.length_map, LT.out, LY.out])) ?_
    generalize hV : World.setRow _ _ _ = W4
    have N4 := Lib.hid (heap_of_setRow hV N3.out)
    have hE : Grow (w.heap.size + 1) w3 W4 := by rw [← hV]; exact Grow.setRow _ _ _
    clear hV
    refine hK.out _ _ hE ?_
    have HX := Lib.hid (Pre.trans HX.out hE)
    clear hE hK K
    try simp only [Act.put, List.setIfInBounds_toArray, List.set_cons_zero, List.set_cons_succ]
    refine regS_done (by kernel_rfl) ?_
    have G4 := Lib.hid (HX.out.heap (by omega) G2.out)
    have GB4 := Lib.hid (LG.out _ HX.out)
    clear HX LG G2 GB2 M2 N2 N3 LA PA
    go_upto_region 8 with (fail)
    generalize hV : World.alloc _ _ = W5
    have F5 := Lib.hid (heap_of_alloc hV)
    have B5 := Lib.hid (below_of_alloc hV (Nat.le_refl _))
    clear hV
    have N5 := Lib.hid ((B5.out.block _ (lt_of_heap N4.out)).trans N4.out)
    have G5 := Lib.hid ((B5.out.block _ (lt_of_heap G4.out)).trans G4.out)
    have GB5 : Hid (Below w.heap.size w W5) := GB4.out.trans (B5.out.mono GB4.out.size)
    have hg4 := Lib.hid (lt_of_heap N4.out)
    generalize W4.heap.size = g4 at F5 hg4 ⊢
    clear B5 N4 G4 GB4
    have ar1 := arr_to arr16P s8 ⟨g4, 0, none⟩ .i64 8 (by omega) (by omega)
    have ar2 := arr_from arr16P s8 ⟨g4, 0, none⟩ .i64 8 (by omega) (by omega)
    rw [show (8 : Int).toNat = 8 from rfl] at ar1 ar2
    rw [show cutA ⟨g4, 0, none⟩ 16 8 = ⟨g4, 8, none⟩ from by unfold cutA; rw [if_neg (by omega), Addr.add_mid]] at ar2
    have hne : Hid (w.heap.size + 1 ≠ g4) := by have := hg4.out; show _ ≠ _; omega
    have hne0 : Hid (w.heap.size ≠ g4) := by have := hg4.out; show _ ≠ _; omega
    have hge : Hid (w.heap.size ≤ g4) := by have := hg4.out; show _ ≤ _; omega
    have HX : Hid (Grow g4 W5 W5.drew) := Grow.drew _ _
    have lp0 : Hid ((putLittle u0 8).length = 8) := putLittle_len _ _
    have lp1 : Hid ((putLittle u1 8).length = 8) := putLittle_len _ _
    have C0 : Hid (∀ W, Grow g4 W5 W → W.cell? ⟨w.heap.size + 1, 0, none⟩ = some (.int .u64 (u0 : Int))) := by
      intro W hW
      have := ucell (hW.heap hne.out N5.out) 0 (by rw [LT.out]; omega)
      rw [g0.out] at this; exact this
    have C1 : Hid (∀ W, Grow g4 W5 W → W.cell? ⟨w.heap.size + 1, 1, none⟩ = some (.int .u64 (u1 : Int))) := by
      intro W hW
      have := ucell (hW.heap hne.out N5.out) 1 (by rw [LT.out]; omega)
      rw [g1.out] at this; exact this
    generalize putLittle u0 8 = B0 at P0 lp0 HQ
    generalize putLittle u1 8 = B1 at P1 lp1 HQ
    have hsp0 : Hid (splice Z 0 (B0.map bv) = B0.map bv ++ List.replicate 8 (Value.int .u8 0)) := by
      show _ = _
      rw [HZ16.out]; exact splice_first (Value.int .u8 0) 8 8 (B0.map bv) (by rw [List.length_map, lp0.out])
    have hsp1 : Hid (splice (B0.map bv ++ List.replicate 8 (Value.int .u8 0)) 8 (B1.map bv) = Q.map bv) := by
      show _ = _
      rw [splice_last (Value.int .u8 0) 8 8 (B0.map bv) (B1.map bv) (by rw [List.length_map, lp0.out]) (by rw [List.length_map, lp1.out]), HQ.out, List.map_append]
    have hlz2 : Hid ((B0.map bv ++ List.replicate 8 (Value.int .u8 0)).length = 16) := by show _ = _; simp [lp0.out]
    refine regS_start (Grow g4) (by kernel_rfl) ?_
    try simp only [Act.put, List.setIfInBounds_toArray, List.set_cons_zero, List.set_cons_succ]
    refine regS_take (v := ?_) 0 (some 38) rfl rfl (by kernel_rfl) (by kernel_rfl) (by kernel_rfl) (fun _ _ _ h => h) (by rfl) (fun W hW => ?_) ?_
    rotate_left
    · (go_simp; try rfl)
    simp only [Act.put, List.setIfInBounds_toArray, List.set_cons_zero, List.set_cons_succ]
    refine regS_take (v := ?_) 1 (some 39) rfl rfl (by kernel_rfl) (by kernel_rfl) (by kernel_rfl) (fun _ _ _ h => h) (by rfl) (fun W hW => ?_) ?_
    rotate_left
    · (go_simp; try rfl)
    simp only [Act.put, List.setIfInBounds_toArray, List.set_cons_zero, List.set_cons_succ]
    refine regS_load 2 (some 40) (fun W hW => load_cell Try.underlying38 (C0.out W (HX.out.trans hW))) rfl rfl rfl rfl (by kernel_rfl) (by kernel_rfl) (by kernel_rfl) (fun _ _ _ h => h) (by rfl) ?_
    simp only [Act.put, List.setIfInBounds_toArray, List.set_cons_zero, List.set_cons_succ]
    refine regS_eff 3 rfl (by kernel_rfl) (fun K hK => ?_)
    go_simp
    refine (P0.out _).mono ?_
    rintro e w6 ⟨g6, hg6, rfl, hk6, hb⟩
    have K6 := Lib.hid hk6
    have F6 := Lib.hid ((hb.block _ (lt_of_heap (w := W5.drew) F5.out)).trans F5.out)
    have hE := Grow.of_ext (g := g4) hb
    clear hb hk6 hg6
    refine hK.out _ _ hE ?_
    have HX := Lib.hid (Pre.trans HX.out hE)
    clear hE hK K
    try simp only [Act.put, List.setIfInBounds_toArray, List.set_cons_zero, List.set_cons_succ]
    refine regS_eff 4 rfl (by kernel_rfl) (fun K hK => ?_)
    obtain ⟨w7, hrun, hblk, _, hgr⟩ := copy_run uT s8 (sT := 26) 3 w6 g4 0 Z 23 F6.out (some ⟨g4, 0, none⟩) (some ⟨g6, 0, none⟩) 8 16 8 8 w6.heap.size (B0.map bv) (by rw [List.length_map, lp0.out]; rfl) (fun _ => rfl) (row_of_heap K6.out (lt_of_heap K6.out)) (by rw [List.length_map, lp0.out, hlz.out]; decide) (bv_one _)
    rw [hsp0.out] at hblk
    have F7 := Lib.hid hblk
    refine step_cpy rfl (.tmp 38) (.tmp 41) 26 26 rfl hrun ?_
    have hE : Grow g4 w6 w7 := hgr
    clear hrun hblk hgr
    refine hK.out _ _ hE ?_
    have HX := Lib.hid (Pre.trans HX.out hE)
    clear hE hK K
    try simp only [Act.put, List.setIfInBounds_toArray, List.set_cons_zero, List.set_cons_succ]
    refine regS_done (by kernel_rfl) ?_
    clear F5 K6 F6
    go_upto_region 9 with (fail)
    have HX0 := HX
    clear HX
    have HX : Hid (Grow g4 W5 w7.drew) := HX0.out.trans (Grow.drew _ _)
    refine regS_start (Grow g4) (by kernel_rfl) ?_
    try simp only [Act.put, List.setIfInBounds_toArray, List.set_cons_zero, List.set_cons_succ]
    refine regS_take (v := ?_) 0 (some 43) rfl rfl (by kernel_rfl) (by kernel_rfl) (by kernel_rfl) (fun _ _ _ h => h) (by rfl) (fun W hW => ?_) ?_
    rotate_left
    · (go_simp; try rfl)
    simp only [Act.put, List.setIfInBounds_toArray, List.set_cons_zero, List.set_cons_succ]
    refine regS_take (v := ?_) 1 (some 44) rfl rfl (by kernel_rfl) (by kernel_rfl) (by kernel_rfl) (fun _ _ _ h => h) (by rfl) (fun W hW => ?_) ?_
    rotate_left
    · (go_simp; try rfl)
    simp only [Act.put, List.setIfInBounds_toArray, List.set_cons_zero, List.set_cons_succ]
    refine regS_load 2 (some 45) (fun W hW => load_cell Try.underlying38 (C1.out W (HX.out.trans hW))) rfl rfl rfl rfl (by kernel_rfl) (by kernel_rfl) (by kernel_rfl) (fun _ _ _ h => h) (by rfl) ?_
    simp only [Act.put, List.setIfInBounds_toArray, List.set_cons_zero, List.set_cons_succ]
    refine regS_eff 3 rfl (by kernel_rfl) (fun K hK => ?_)
    go_simp
    refine (P1.out _).mono ?_
    rintro e w8 ⟨g8, hg8, rfl, hk8, hb⟩
    have K8 := Lib.hid hk8
    have F8 := Lib.hid ((hb.block _ (lt_of_heap (w := w7.drew) F7.out)).trans F7.out)
    have hE := Grow.of_ext (g := g4) hb
    clear hb hk8 hg8
    refine hK.out _ _ hE ?_
    have HX := Lib.hid (Pre.trans HX.out hE)
    clear hE hK K
    try simp only [Act.put, List.setIfInBounds_toArray, List.set_cons_zero, List.set_cons_succ]
    refine regS_eff 4 rfl (by kernel_rfl) (fun K hK => ?_)
    obtain ⟨w9, hrun, hblk, _, hgr⟩ := copy_run uT s8 (sT := 26) 3 w8 g4 8 (B0.map bv ++ List.replicate 8 (Value.int .u8 0)) 23 F8.out (some ⟨g4, 8, none⟩) (some ⟨g8, 0, none⟩) 8 8 8 8 w8.heap.size (B1.map bv) (by rw [List.length_map, lp1.out]; rfl) (fun _ => rfl) (row_of_heap K8.out (lt_of_heap K8.out)) (by rw [List.length_map, lp1.out, hlz2.out]; decide) (bv_one _)
    rw [hsp1.out] at hblk
    have F9 := Lib.hid hblk
    refine step_cpy rfl (.tmp 43) (.tmp 46) 26 26 rfl hrun ?_
    have hE : Grow g4 w8 w9 := hgr
    clear hrun hblk hgr
    refine hK.out _ _ hE ?_
    have HX := Lib.hid (Pre.trans HX.out hE)
    clear hE hK K
    try simp only [Act.put, List.setIfInBounds_toArray, List.set_cons_zero, List.set_cons_succ]
    refine regS_done (by kernel_rfl) ?_
    simp only [List.getElem_toArray, List.getElem_cons_succ, List.getElem_cons_zero, List.set_cons_zero, List.set_cons_succ]
    have GB9 : Hid (Below w.heap.size w w9) := GB5.out.trans (HX.out.below hge.out GB5.out.size)
    have G9 := Lib.hid (HX.out.heap hne0.out G5.out)
    clear HX HX0 C0 C1 N5 G5 GB5 F7 F8 K8
    go_wp2_with (first
      | (refine wpList_ld rfl 23 (.tmp 4) rfl (load_arr arr16P rfl (i16p Q HQL.out) F9.out) ?_)
      | (refine wpList_st rfl 23 (.tmp 2) (.tmp 48) rfl (store_arr (cs := Q.map bv) (i16p Q HQL.out) (bv_one _) G9.out (by rw [List.length_map, HQL.out]; exact hlz.out)) ?_))
    have hres := setRow_heap w9 w.heap.size _ (Q.map bv).toArray 23 _ G9.out
    exact bodyPost_ret (results_cell_row (P := Try.prog) rfl _ _ w.heap.size 23 (Q.map bv).toArray (0, 0) _ rfl hres arr16P rfl (by rw [List.size_toArray]; exact i16p Q HQL.out)) rfl ⟨rfl, GB9.out.trans (grown_below (grown_setRow _ _ _) (Nat.le_refl _) GB9.out.size)⟩
end Go.Proofs.Ytfcnahbbieldfaa
