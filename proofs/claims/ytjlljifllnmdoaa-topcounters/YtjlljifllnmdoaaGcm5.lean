/- gcm: First, and both. -/
import Derived.Test.YtjlljifllnmdoaaGcm4
namespace Go.Proofs.Ytjlljifllnmdoaa
open Go.RowKit
set_option maxRecDepth 100000
set_option linter.unusedVariables false
set_option linter.unusedSimpArgs false
def one15 : List UInt8 := [0, 0, 0, 0, 0, 0, 0, 0, 0, 0, 0, 0, 0, 0, 0, 1]
def firstG (E : List UInt8 → List UInt8) (iv : List UInt8) : List UInt8 := if iv.length = 12 then iv ++ [0, 0, 0, 1] else gsumL (E zerB) (whG iv ++ lenL 0 (iv.length : Int))
theorem firstG_len (E : List UInt8 → List UInt8) (iv : List UInt8) : (firstG E iv).length = 16 := by
  unfold firstG; split
  · rename_i h; simp [h]
  · exact gsumL_len _ _
theorem first_splice (iv : List UInt8) (h : iv.length = 12) : splice (one15.map bv) 0 (iv.map bv) = (iv ++ [0, 0, 0, 1]).map bv := by
  have := splice_split [] ((List.replicate 12 (0 : UInt8)).map bv) (([0, 0, 0, 1] : List UInt8).map bv) (iv.map bv) (by simp [h])
  simp only [List.length_nil, List.nil_append] at this
  rw [List.map_append, ← this]
  rfl
theorem joinW_two (A3 A5 : Option Addr) (c3 c5 : Nat) (aad LB : List UInt8) (h : LB.length = 16) : joinW [(A3, c3, aad), (A5, c5, LB)] = whG aad ++ LB := by
  have hw : whG LB = LB := by rw [whG, h]; simp [padN]
  simp only [joinW, List.flatMap_cons, List.flatMap_nil, hw, List.append_nil]
theorem rows_two {W : World} {q : Nat} {A3 A5 : Option Addr} {c3 c5 k3 k5 : Nat} {aad LB : List UInt8} {t : TypeId} {fr : Nat × Nat} (h : W.heap[q]? = some (.cells #[.slice A3 k3 c3, .slice A5 k5 c5] t fr)) (h3 : aad.length = k3) (h5 : LB.length = k5)
    (S3 : Sl W A3 c3 aad) (S5 : Sl W A5 c5 LB) : PartsAt W (some ⟨q, 0, none⟩, 2, [(A3, c3, aad), (A5, c5, LB)]) := by
  refine ⟨Nat.le_refl _, by simp [maxLen], ?_, .inr ⟨q, 0, rfl, lt_of_heap h, fun j u hu => ?_⟩⟩
  · intro r hr
    simp only [List.mem_cons, List.not_mem_nil, or_false] at hr
    rcases hr with rfl | rfl
    · exact S3
    · exact S5
  · rw [Nat.zero_add, cell_of_heap (cs := [.slice A3 k3 c3, .slice A5 k5 c5]) h]
    rw [← h3, ← h5]
    exact hu
set_option maxHeartbeats 4000000 in
theorem gfirst_any (kp : Value) (E : List UInt8 → List UInt8) (A : Option Addr) (n c : Nat) (iv : List UInt8) (w : World) (hE : GKey w kp E) (hl : iv.length = n) (h0 : 0 < n) (hn : n ≤ 100000) (hS : Sl w A c iv) :
    Calls Try.prog 10 #[kp, .slice A n c] w fun e w' => e = .returned (.agg ((firstG E iv).map bv).toArray) ∧ Below w.heap.size w w' := by
  have hz : ∀ W, (zeroValue 23).run Try.prog W = .ok (.agg zeros16.toArray) W := fun W => by kernel_rfl
  have hlz : Hid (zeros16.length = 16) := rfl
  have BD : Hid (∀ W, (Instr.build 23 #[(15, .int .u8 1)]).run Try.prog W = .ok (.agg (one15.map bv).toArray) W) := fun W => by kernel_rfl
  have H15 : Hid (one15.length = 16) := rfl
  generalize zeros16 = Z at hz hlz
  have HE := Lib.hid hE; have HL := Lib.hid hl; have HS := Lib.hid hS
  have WR := Lib.hid (fun W (hW : Below w.heap.size w W) => gwrong_any kp E A n c W (hE.ext hW) h0)
  have G := Lib.hid (heap_alloc_new' w (.cells Z.toArray 23))
  have GB : Hid (Below w.heap.size w (w.alloc (.cells Z.toArray 23))) := (Below.refl _ _).alloc (Nat.le_refl _) _
  have FL := Lib.hid (firstG_len E iv)
  by_cases h12 : n = 12
  · have HSP := Lib.hid (first_splice iv (hl.trans h12))
    have HFE : Hid (firstG E iv = iv ++ [0, 0, 0, 1]) := by show _ = _; rw [firstG, if_pos (hl.trans h12)]
    rw [← HFE.out] at HSP
    generalize firstG E iv = R at HSP FL ⊢
    generalize one15 = O at BD HSP H15
    have t12 : ((n : Int) == 12) = true := by simp [h12]
    have HN12 := Lib.hid h12
    clear hE hl hS h12 h0
    go_enter Try.func10, Try.ntmps10
    go_upto_region 1 with (fail)
    generalize w.alloc _ = W0 at G GB ⊢
    go_wp2_with fail
    refine (WR.out W0 GB.out).mono ?_
    rintro e w1 ⟨rfl, rfl⟩
    go_upto_region 5 with (first
      | (refine wpList_run (o := ⟨some 17, _, _, _, _, _⟩) rfl (v := .agg (O.map bv).toArray) (w' := W0) (exec_bld rfl (by simp only [List.map_toArray, List.map_cons, List.map_nil]; exact BD.out _)) ?_)
      | (refine wpList_st rfl 23 (.tmp 5) (.tmp 17) rfl (store_arr (cs := O.map bv) (i16c O H15.out) (bv_one _) (heap_alloc_new' W0 _) (by rw [List.length_map, H15.out]; exact hlz.out)) ?_
         generalize hV : World.setRow _ _ _ = W3
         have M3 := Lib.hid (heap_of_setRow hV (heap_alloc_new' W0 _))
         have MB := Lib.hid (((Below.refl W0.heap.size W0).alloc (Nat.le_refl _) _).trans (below_of_setRow hV (Nat.le_refl W0.heap.size) (by simp)))
         clear hV)
      | fail)
    have B3 : Hid (Below w.heap.size w W3) := GB.out.step MB.out
    have G3 := Lib.hid ((MB.out.block _ (lt_of_heap G.out)).trans G.out)
    have HQ : Hid (w.heap.size < W0.heap.size) := lt_of_heap G.out
    clear MB GB G WR
    generalize W0.heap.size = q at M3 HQ ⊢
    have ar := arr_all arr16B s8 ⟨q, 0, none⟩
    have S3 := Lib.hid (HS.out.below B3.out)
    obtain ⟨W4, hcopy, hblk, _, hgr⟩ := copy_run uT s8 (sT := 26) 3 W3 q 0 (O.map bv) 23 M3.out (some ⟨q, 0, none⟩) A 16 16 n c W3.heap.size (iv.map bv) (by rw [List.length_map, HL.out, HN12.out]; rfl) (fun _ => rfl) S3.out.2.2 (by rw [List.length_map, List.length_map, HL.out, H15.out, HN12.out]; omega) (bv_one _)
    rw [HSP.out] at hblk
    have M4 := Lib.hid hblk
    have B4 : Hid (Below w.heap.size w W4) := B3.out.trans (grown_below hgr (Nat.le_of_lt HQ.out) B3.out.size)
    have G4 := Lib.hid ((hgr.block _ (lt_of_heap G3.out) (by have := HQ.out; simp; omega)).trans G3.out)
    clear hblk hgr B3 G3 M3
    go_wp2_with (first
      | (refine wpList_ld rfl 23 (.tmp 5) rfl (load_arr arr16B rfl (i16c R FL.out) M4.out) ?_)
      | (refine wpList_st rfl 23 (.tmp 4) (.tmp 21) rfl (store_arr (cs := R.map bv) (i16c R FL.out) (bv_one _) G4.out (by rw [List.length_map, FL.out]; exact hlz.out)) ?_))
    have hres := setRow_heap W4 w.heap.size _ (R.map bv).toArray 23 _ G4.out
    exact bodyPost_ret (results_cell_row (P := Try.prog) rfl _ _ w.heap.size 23 (R.map bv).toArray (0, 0) _ rfl hres arr16B rfl (by rw [List.size_toArray]; exact i16c R FL.out)) rfl ⟨rfl, B4.out.trans (grown_below (grown_setRow _ _ _) (Nat.le_refl _) B4.out.size)⟩
  · have HFE : Hid (firstG E iv = gsumL (E zerB) (whG iv ++ lenL 0 (n : Int))) := by show _ = _; rw [firstG, if_neg (by omega), hl]
    rw [HFE.out] at FL ⊢
    have t12 : ((n : Int) == 12) = false := by simp; omega
    have GL := Lib.hid (fun W => glen_any 0 (n : Int) W)
    have HLL := Lib.hid (lenL_len 0 (n : Int))
    generalize lenL 0 (n : Int) = LB at GL HLL FL ⊢
    clear hE hl hS h12 h0
    go_enter Try.func10, Try.ntmps10
    go_upto_region 1 with (fail)
    generalize w.alloc _ = W0 at G GB ⊢
    go_wp2_with fail
    refine (WR.out W0 GB.out).mono ?_
    rintro e w1 ⟨rfl, rfl⟩
    go_wp2_with fail
    refine (GL.out W0).mono ?_
    rintro e w1 ⟨rfl, hb⟩
    have B1 : Hid (Below w.heap.size w w1) := GB.out.step hb
    have G1 := Lib.hid ((hb.block _ (lt_of_heap G.out)).trans G.out)
    clear hb GB G WR GL
    go_upto_region 8 with (first
      | (refine wpList_st rfl 23 (.tmp 6) (.tmp 24) rfl (store_arr (cs := LB.map bv) (i16c LB HLL.out) (bv_one _) (heap_alloc_new' w1 _) (by rw [List.length_map, HLL.out]; exact hlz.out)) ?_
         generalize hV : World.setRow _ _ _ = W3
         have M3 := Lib.hid (heap_of_setRow hV (heap_alloc_new' w1 _))
         have MB := Lib.hid (((Below.refl w1.heap.size w1).alloc (Nat.le_refl _) _).trans (below_of_setRow hV (Nat.le_refl w1.heap.size) (by simp)))
         clear hV)
      | fail)
    have B3 : Hid (Below w.heap.size w W3) := B1.out.step MB.out
    have G3 := Lib.hid ((MB.out.block _ (lt_of_heap G1.out)).trans G1.out)
    clear MB B1 G1
    generalize w1.heap.size = q at M3 ⊢
    have ar := arr_all arr16B s8 ⟨q, 0, none⟩
    go_wp2_with fail
    have N1 := Lib.hid (heap_alloc_new' W3 (.cells #[.slice A n c, .slice (some ⟨q, 0, none⟩) 16 16] 26))
    have E1 : Hid (Ext W3 (W3.alloc (.cells #[.slice A n c, .slice (some ⟨q, 0, none⟩) 16 16] 26))) := (Below.refl _ _).alloc (Nat.le_refl _) _
    generalize W3.alloc _ = W4 at N1 E1 ⊢
    generalize W3.heap.size = q2 at N1 ⊢
    have B4 : Hid (Below w.heap.size w W4) := B3.out.step E1.out
    have G4 := Lib.hid ((E1.out.block _ (lt_of_heap G3.out)).trans G3.out)
    have K2 := Lib.hid ((E1.out.block _ (lt_of_heap M3.out)).trans M3.out)
    have PA := Lib.hid (rows_two N1.out HL.out HLL.out (HS.out.below B4.out) (sl_row HLL.out (by omega) K2.out))
    have HJW := Lib.hid (joinW_two A (some ⟨q, 0, none⟩) c 16 iv LB HLL.out)
    have hlens : ∀ r ∈ [(A, c, iv), (some (⟨q, 0, none⟩ : Addr), 16, LB)], r.2.2.length ≤ 100000 := by
      intro r hr
      simp only [List.mem_cons, List.not_mem_nil, or_false] at hr
      rcases hr with rfl | rfl
      · show iv.length ≤ _; rw [HL.out]; exact hn
      · show LB.length ≤ _; rw [HLL.out]; omega
    have HASH := Lib.hid (ghashR_any kp E (some ⟨q2, 0, none⟩) 2 2 [(A, c, iv), (some ⟨q, 0, none⟩, 16, LB)] W4 (HE.out.1.ext B4.out) PA.out rfl (by omega) hlens)
    rw [HJW.out] at HASH
    obtain ⟨R, HR⟩ : ∃ R, Hid (gsumL (E zerB) (whG iv ++ LB) = R) := ⟨_, rfl⟩
    rw [HR.out] at HASH FL
    clear hlens PA HJW N1 E1 B3 G3 K2
    refine HASH.out.mono ?_
    rintro e w5 ⟨rfl, hb⟩
    have B5 : Hid (Below w.heap.size w w5) := B4.out.step hb
    have G5 := Lib.hid ((hb.block _ (lt_of_heap G4.out)).trans G4.out)
    clear hb B4 G4 HASH
    go_wp2_with (first
      | (refine wpList_st rfl 23 (.tmp 4) (.tmp 29) rfl (store_arr (cs := R.map bv) (i16c R FL.out) (bv_one _) G5.out (by rw [List.length_map, FL.out]; exact hlz.out)) ?_))
    have hres := setRow_heap w5 w.heap.size _ (R.map bv).toArray 23 _ G5.out
    exact bodyPost_ret (results_cell_row (P := Try.prog) rfl _ _ w.heap.size 23 (R.map bv).toArray (0, 0) _ rfl hres arr16B rfl (by rw [List.size_toArray]; exact i16c R FL.out)) rfl ⟨by rw [HR.out], B5.out.trans (grown_below (grown_setRow _ _ _) (Nat.le_refl _) B5.out.size)⟩
set_option maxHeartbeats 1000000 in
theorem gboth_any (F : FuncId) (cap : Array Value) (R : Value → Int → World → Prop) (kp : Value) (E : List UInt8 → List UInt8) (A : Option Addr) (n c : Nat) (iv : List UInt8) (w : World) (hE : GKey w kp E) (hl : iv.length = n) (h0 : 0 < n) (hn : n ≤ 100000) (hS : Sl w A c iv)
    (hcall : ∀ args W, (callFunc F args).run Try.prog W = .ok (.enter F args) W)
    (hF : ∀ W, Ext w W → Calls Try.prog F (#[.agg ((firstG E iv).map bv).toArray] ++ cap) W fun e W' => ∃ v x, e = .returned (.tuple #[v, .int .i64 x]) ∧ Ext W W' ∧ R v x W') :
    Calls Try.prog 27 #[kp, .slice A n c, .func (.func F) #[] cap] w fun e w' => ∃ v x, e = .returned (.tuple #[v, .int .i64 x]) ∧ Ext w w' ∧ R v x w' := by
  have WR := Lib.hid (gwrong_any kp E A n c w hE h0)
  have FI := Lib.hid (gfirst_any kp E A n c iv w hE hl h0 hn hS)
  have HF := Lib.hid hF
  generalize firstG E iv = X at FI HF
  clear hE hl h0 hS hF
  go_enter Try.func27, Try.ntmps27
  go_wp2_with fail
  refine WR.out.mono ?_
  rintro e w1 ⟨rfl, rfl⟩
  go_wp2_with fail
  refine FI.out.mono ?_
  rintro e w1 ⟨rfl, hb⟩
  have B1 : Hid (Ext w w1) := hb
  clear hb
  go_wp2_with fail
  refine (HF.out w1 B1.out).mono ?_
  rintro e w2 ⟨v, x, rfl, hE, hR⟩
  have HR := Lib.hid hR
  have B2 := Lib.hid (B1.out.trans hE)
  clear hE hR
  go_wp2
  go_ret2
  exact ⟨v, x, rfl, B2.out, HR.out⟩
end Go.Proofs.Ytjlljifllnmdoaa
