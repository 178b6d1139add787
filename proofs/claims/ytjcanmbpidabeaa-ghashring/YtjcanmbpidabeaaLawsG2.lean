/- The walk of the law GhashRing. -/
import Derived.Test.YtjcanmbpidabeaaGha3
namespace Go.Proofs.Ytjcanmbpidabeaa
open Go.RowKit
set_option linter.unusedVariables false
set_option linter.unusedSimpArgs false
set_option maxHeartbeats 4000000 in
theorem ghashRing_walk (w : World) (a : List UInt8) (ha : a.length = 16) (b : List UInt8) (hb : b.length = 16) (c : List UInt8) (hc : c.length = 16) :
    Calls Try.prog 5 #[.agg (a.map bv).toArray, .agg (b.map bv).toArray, .agg (c.map bv).toArray] w fun e w' => e = .returned (.bool true) ∧ Below w.heap.size w w' := by
  have BD0 : Hid (∀ W, (Instr.build 22 #[]).run Try.prog W = .ok (.agg (zerB.map bv).toArray) W) := fun W => by kernel_rfl
  have BD2 : Hid (∀ W, (Instr.build 22 #[(0, .int .u8 128)]).run Try.prog W = .ok (.agg (oneB.map bv).toArray) W) := fun W => by kernel_rfl
  have hz16 : ∀ W, (zeroValue 22).run Try.prog W = .ok (.agg zer16.toArray) W := fun W => by kernel_rfl
  have hlz : Hid (zer16.length = 16) := rfl
  have hbc : (xorL b c).length = 16 := by rw [xorL_len, hb, hc]; rfl
  have hm : ∀ x y, (gmulL x y).length = 16 := gmulL_len
  have hmm : (xorL (gmulL a b) (gmulL a c)).length = 16 := by rw [xorL_len, hm, hm]; rfl
  have q1 := neq_bytes (P := Try.prog) arr16B Try.underlying5 s8 (gmulL a b) (gmulL a b) (hm _ _) (hm _ _)
  have q2 := neq_bytes (P := Try.prog) arr16B Try.underlying5 s8 (gmulL a (gmulL b c)) (gmulL a (gmulL b c)) (hm _ _) (hm _ _)
  have q3 := eql_bytes (P := Try.prog) arr16B Try.underlying5 s8 (xorL (gmulL a b) (gmulL a c)) (xorL (gmulL a b) (gmulL a c)) hmm hmm
  have q4 := eql_bytes (P := Try.prog) arr16B Try.underlying5 s8 a a ha ha
  have q5 := eql_bytes (P := Try.prog) arr16B Try.underlying5 s8 zerB zerB rfl rfl
  rw [decide_eq_true rfl] at q1 q2 q3 q4 q5
  have g1 := Lib.hid (fun W => gmul_any a b W ha hb)
  have g2 := Lib.hid (fun W => gmul_any b a W hb ha)
  rw [gmul_comm b a hb ha] at g2
  have g3 := Lib.hid (fun W => gmul_any (gmulL a b) c W (hm _ _) hc)
  rw [gmul_assoc a b c ha hb hc] at g3
  have g4 := Lib.hid (fun W => gmul_any b c W hb hc)
  have g5 := Lib.hid (fun W => gmul_any a (gmulL b c) W ha (hm _ _))
  have g6 := Lib.hid (fun W => both_any b c W hb hc)
  have g7 := Lib.hid (fun W => gmul_any a (xorL b c) W ha hbc)
  rw [gmul_xor a b c hb hc] at g7
  have g8 := Lib.hid (fun W => gmul_any a c W ha hc)
  have g9 := Lib.hid (fun W => both_any (gmulL a b) (gmulL a c) W (hm _ _) (hm _ _))
  have g10 := Lib.hid (fun W => gmul_any a oneB W ha rfl)
  rw [gmul_one a ha] at g10
  have g11 := Lib.hid (fun W => gmul_any a zerB W ha rfl)
  rw [gmul_zero a] at g11
  have G := Lib.hid (heap3 w (.cells (a.map bv).toArray 22) (.cells (b.map bv).toArray 22) (.cells (c.map bv).toArray 22))
  have HA := Lib.hid (i16l a ha); have HB := Lib.hid (i16l b hb); have HC := Lib.hid (i16l c hc)
  have LO : Hid (oneB.length = 16) := rfl
  clear ha hb hc hbc hm hmm
  generalize xorL (gmulL a b) (gmulL a c) = X1 at g7 g9 q3
  generalize gmulL a (gmulL b c) = X2 at g3 g5 q2
  generalize gmulL b c = X3 at g4 g5
  generalize gmulL a b = X4 at g1 g2 g3 g9 q1
  generalize gmulL a c = X5 at g8 g9
  generalize xorL b c = X6 at g6 g7
  generalize zerB = Z0 at BD0 g11 q5
  generalize oneB = O at BD2 g10 LO
  generalize zer16 = Z at hz16 hlz
  go_enter Try.func5, Try.ntmps5
  go_upto_region 1 with (fail)
  generalize hV : ((w.alloc _).alloc _).alloc _ = W0 at G ⊢
  clear hV
  go_upto_region 2 with (first
    | (refine wpList_run (o := ⟨some 8, _, _, _, _, _⟩) rfl (v := .agg (O.map bv).toArray) (w' := W0) (exec_bld rfl (by simp only [List.map_toArray, List.map_cons, List.map_nil]; exact BD2.out W0)) ?_)
    | (refine wpList_st rfl 22 (.tmp 7) (.tmp 8) rfl (store_arr (cs := O.map bv) (i16l O LO.out) (bv_one _) (heap_alloc_new' W0 _) (by rw [List.length_map, LO.out]; exact hlz.out)) ?_
       generalize hV : World.setRow _ _ _ = W1
       have M1 := Lib.hid (heap_of_setRow hV (heap_alloc_new' W0 _))
       have MB := Lib.hid (((Below.refl W0.heap.size W0).alloc (Nat.le_refl _) _).trans (below_of_setRow hV (Nat.le_refl W0.heap.size) (by simp)))
       clear hV)
    | fail)
  have NA := Lib.hid ((MB.out.block _ (lt_of_heap G.out.1)).trans G.out.1)
  have NB := Lib.hid ((MB.out.block _ (lt_of_heap G.out.2.1)).trans G.out.2.1)
  have NC := Lib.hid ((MB.out.block _ (lt_of_heap G.out.2.2.1)).trans G.out.2.2.1)
  have BW : Hid (Below w.heap.size w W1) := G.out.2.2.2.step MB.out
  generalize W0.heap.size = g7' at M1 ⊢
  have LA : Hid (∀ W, Ext W1 W → (Instr.loadAt 22 (.pointer (some ⟨w.heap.size, 0, none⟩))).run Try.prog W = .ok (.agg (a.map bv).toArray) W) := fun W hW => load_arr arr16B rfl HA.out ((hW.block _ (lt_of_heap NA.out)).trans NA.out)
  have LB : Hid (∀ W, Ext W1 W → (Instr.loadAt 22 (.pointer (some ⟨w.heap.size + 1, 0, none⟩))).run Try.prog W = .ok (.agg (b.map bv).toArray) W) := fun W hW => load_arr arr16B rfl HB.out ((hW.block _ (lt_of_heap NB.out)).trans NB.out)
  have LC : Hid (∀ W, Ext W1 W → (Instr.loadAt 22 (.pointer (some ⟨w.heap.size + 2, 0, none⟩))).run Try.prog W = .ok (.agg (c.map bv).toArray) W) := fun W hW => load_arr arr16B rfl HC.out ((hW.block _ (lt_of_heap NC.out)).trans NC.out)
  have L1 : Hid (∀ W, Ext W1 W → (Instr.loadAt 22 (.pointer (some ⟨g7', 0, none⟩))).run Try.prog W = .ok (.agg (O.map bv).toArray) W) := fun W hW => load_arr arr16B rfl (i16l O LO.out) ((hW.block _ (lt_of_heap M1.out)).trans M1.out)
  have HX : Hid (Ext W1 W1.drew) := (Below.refl _ _).drew
  clear G MB NA NB NC M1 HA HB HC
  refine reg_start (by kernel_rfl) ?_
  try simp only [Act.put, List.setIfInBounds_toArray, List.set_cons_zero, List.set_cons_succ]
  generalize W1.drew = W2 at HX ⊢
  refine reg_load 0 (some 9) (fun W hW => LA.out W (Ext.trans HX.out hW)) rfl rfl rfl rfl (by kernel_rfl) (by kernel_rfl) (by kernel_rfl) (fun _ _ _ h => h) (by rfl) ?_
  simp only [Act.put, List.setIfInBounds_toArray, List.set_cons_zero, List.set_cons_succ]
  refine reg_load 1 (some 10) (fun W hW => LB.out W (Ext.trans HX.out hW)) rfl rfl rfl rfl (by kernel_rfl) (by kernel_rfl) (by kernel_rfl) (fun _ _ _ h => h) (by rfl) ?_
  simp only [Act.put, List.setIfInBounds_toArray, List.set_cons_zero, List.set_cons_succ]
  refine reg_load 3 (some 12) (fun W hW => LB.out W (Ext.trans HX.out hW)) rfl rfl rfl rfl (by kernel_rfl) (by kernel_rfl) (by kernel_rfl) (fun _ _ _ h => h) (by rfl) ?_
  simp only [Act.put, List.setIfInBounds_toArray, List.set_cons_zero, List.set_cons_succ]
  refine reg_load 4 (some 13) (fun W hW => LA.out W (Ext.trans HX.out hW)) rfl rfl rfl rfl (by kernel_rfl) (by kernel_rfl) (by kernel_rfl) (fun _ _ _ h => h) (by rfl) ?_
  simp only [Act.put, List.setIfInBounds_toArray, List.set_cons_zero, List.set_cons_succ]
  refine reg_eff 2 rfl (by kernel_rfl) (fun K hK => ?_)
  go_simp
  refine (g1.out _).mono ?_
  rintro e w3 ⟨rfl, hE⟩
  refine hK.out _ _ hE ?_
  have HX := Lib.hid (Ext.trans HX.out hE)
  clear hE hK K
  try simp only [Act.put, List.setIfInBounds_toArray, List.set_cons_zero, List.set_cons_succ]
  refine reg_eff 5 rfl (by kernel_rfl) (fun K hK => ?_)
  go_simp
  refine (g2.out _).mono ?_
  rintro e w4 ⟨rfl, hE⟩
  refine hK.out _ _ hE ?_
  have HX := Lib.hid (Ext.trans HX.out hE)
  clear hE hK K
  try simp only [Act.put, List.setIfInBounds_toArray, List.set_cons_zero, List.set_cons_succ]
  refine reg_take (v := ?_) 6 (some 15) rfl rfl (by kernel_rfl) (by kernel_rfl) (by kernel_rfl) (fun _ _ _ h => h) (by rfl) (fun W hW => ?_) ?_
  rotate_left
  · (go_simp; try rfl)
  simp only [Act.put, List.setIfInBounds_toArray, List.set_cons_zero, List.set_cons_succ]
  refine reg_take (v := ?_) 7 (some 16) rfl rfl (by kernel_rfl) (by kernel_rfl) (by kernel_rfl) (fun _ _ _ h => h) (by rfl) (fun W hW => ?_) ?_
  rotate_left
  · (go_simp; try rfl)
  simp only [Act.put, List.setIfInBounds_toArray, List.set_cons_zero, List.set_cons_succ]
  refine reg_load 8 (some 17) (fun W hW => LA.out W (Ext.trans HX.out hW)) rfl rfl rfl rfl (by kernel_rfl) (by kernel_rfl) (by kernel_rfl) (fun _ _ _ h => h) (by rfl) ?_
  simp only [Act.put, List.setIfInBounds_toArray, List.set_cons_zero, List.set_cons_succ]
  refine reg_load 9 (some 18) (fun W hW => LB.out W (Ext.trans HX.out hW)) rfl rfl rfl rfl (by kernel_rfl) (by kernel_rfl) (by kernel_rfl) (fun _ _ _ h => h) (by rfl) ?_
  simp only [Act.put, List.setIfInBounds_toArray, List.set_cons_zero, List.set_cons_succ]
  refine reg_load 11 (some 20) (fun W hW => LC.out W (Ext.trans HX.out hW)) rfl rfl rfl rfl (by kernel_rfl) (by kernel_rfl) (by kernel_rfl) (fun _ _ _ h => h) (by rfl) ?_
  simp only [Act.put, List.setIfInBounds_toArray, List.set_cons_zero, List.set_cons_succ]
  refine reg_load 13 (some 22) (fun W hW => LA.out W (Ext.trans HX.out hW)) rfl rfl rfl rfl (by kernel_rfl) (by kernel_rfl) (by kernel_rfl) (fun _ _ _ h => h) (by rfl) ?_
  simp only [Act.put, List.setIfInBounds_toArray, List.set_cons_zero, List.set_cons_succ]
  refine reg_load 14 (some 23) (fun W hW => LB.out W (Ext.trans HX.out hW)) rfl rfl rfl rfl (by kernel_rfl) (by kernel_rfl) (by kernel_rfl) (fun _ _ _ h => h) (by rfl) ?_
  simp only [Act.put, List.setIfInBounds_toArray, List.set_cons_zero, List.set_cons_succ]
  refine reg_load 15 (some 24) (fun W hW => LC.out W (Ext.trans HX.out hW)) rfl rfl rfl rfl (by kernel_rfl) (by kernel_rfl) (by kernel_rfl) (fun _ _ _ h => h) (by rfl) ?_
  simp only [Act.put, List.setIfInBounds_toArray, List.set_cons_zero, List.set_cons_succ]
  refine reg_eff 10 rfl (by kernel_rfl) (fun K hK => ?_)
  go_simp
  refine (g1.out _).mono ?_
  rintro e w5 ⟨rfl, hE⟩
  refine hK.out _ _ hE ?_
  have HX := Lib.hid (Ext.trans HX.out hE)
  clear hE hK K
  try simp only [Act.put, List.setIfInBounds_toArray, List.set_cons_zero, List.set_cons_succ]
  refine reg_eff 12 rfl (by kernel_rfl) (fun K hK => ?_)
  go_simp
  refine (g3.out _).mono ?_
  rintro e w6 ⟨rfl, hE⟩
  refine hK.out _ _ hE ?_
  have HX := Lib.hid (Ext.trans HX.out hE)
  clear hE hK K
  try simp only [Act.put, List.setIfInBounds_toArray, List.set_cons_zero, List.set_cons_succ]
  refine reg_eff 16 rfl (by kernel_rfl) (fun K hK => ?_)
  go_simp
  refine (g4.out _).mono ?_
  rintro e w7 ⟨rfl, hE⟩
  refine hK.out _ _ hE ?_
  have HX := Lib.hid (Ext.trans HX.out hE)
  clear hE hK K
  try simp only [Act.put, List.setIfInBounds_toArray, List.set_cons_zero, List.set_cons_succ]
  refine reg_eff 17 rfl (by kernel_rfl) (fun K hK => ?_)
  go_simp
  refine (g5.out _).mono ?_
  rintro e w8 ⟨rfl, hE⟩
  refine hK.out _ _ hE ?_
  have HX := Lib.hid (Ext.trans HX.out hE)
  clear hE hK K
  try simp only [Act.put, List.setIfInBounds_toArray, List.set_cons_zero, List.set_cons_succ]
  refine reg_take (v := ?_) 18 (some 27) rfl rfl (by kernel_rfl) (by kernel_rfl) (by kernel_rfl) (fun _ _ _ h => h) (by rfl) (fun W hW => ?_) ?_
  rotate_left
  · (go_simp; try rfl)
  simp only [Act.put, List.setIfInBounds_toArray, List.set_cons_zero, List.set_cons_succ]
  refine reg_take (v := ?_) 19 (some 28) rfl rfl (by kernel_rfl) (by kernel_rfl) (by kernel_rfl) (fun _ _ _ h => h) (by rfl) (fun W hW => ?_) ?_
  rotate_left
  · (go_simp; try rfl)
  simp only [Act.put, List.setIfInBounds_toArray, List.set_cons_zero, List.set_cons_succ]
  refine reg_done (by kernel_rfl) ?_
  go_upto_region 4 with (fail)
  have HX : Hid (Ext W1 w8.drew) := Ext.trans HX.out (Below.refl _ _).drew
  refine reg_start (by kernel_rfl) ?_
  try simp only [Act.put, List.setIfInBounds_toArray, List.set_cons_zero, List.set_cons_succ]
  generalize w8.drew = W2 at HX ⊢
  refine reg_load 0 (some 29) (fun W hW => LA.out W (Ext.trans HX.out hW)) rfl rfl rfl rfl (by kernel_rfl) (by kernel_rfl) (by kernel_rfl) (fun _ _ _ h => h) (by rfl) ?_
  simp only [Act.put, List.setIfInBounds_toArray, List.set_cons_zero, List.set_cons_succ]
  refine reg_load 1 (some 30) (fun W hW => LB.out W (Ext.trans HX.out hW)) rfl rfl rfl rfl (by kernel_rfl) (by kernel_rfl) (by kernel_rfl) (fun _ _ _ h => h) (by rfl) ?_
  simp only [Act.put, List.setIfInBounds_toArray, List.set_cons_zero, List.set_cons_succ]
  refine reg_load 2 (some 31) (fun W hW => LC.out W (Ext.trans HX.out hW)) rfl rfl rfl rfl (by kernel_rfl) (by kernel_rfl) (by kernel_rfl) (fun _ _ _ h => h) (by rfl) ?_
  simp only [Act.put, List.setIfInBounds_toArray, List.set_cons_zero, List.set_cons_succ]
  refine reg_load 5 (some 34) (fun W hW => LA.out W (Ext.trans HX.out hW)) rfl rfl rfl rfl (by kernel_rfl) (by kernel_rfl) (by kernel_rfl) (fun _ _ _ h => h) (by rfl) ?_
  simp only [Act.put, List.setIfInBounds_toArray, List.set_cons_zero, List.set_cons_succ]
  refine reg_load 6 (some 35) (fun W hW => LB.out W (Ext.trans HX.out hW)) rfl rfl rfl rfl (by kernel_rfl) (by kernel_rfl) (by kernel_rfl) (fun _ _ _ h => h) (by rfl) ?_
  simp only [Act.put, List.setIfInBounds_toArray, List.set_cons_zero, List.set_cons_succ]
  refine reg_load 8 (some 37) (fun W hW => LA.out W (Ext.trans HX.out hW)) rfl rfl rfl rfl (by kernel_rfl) (by kernel_rfl) (by kernel_rfl) (fun _ _ _ h => h) (by rfl) ?_
  simp only [Act.put, List.setIfInBounds_toArray, List.set_cons_zero, List.set_cons_succ]
  refine reg_load 9 (some 38) (fun W hW => LC.out W (Ext.trans HX.out hW)) rfl rfl rfl rfl (by kernel_rfl) (by kernel_rfl) (by kernel_rfl) (fun _ _ _ h => h) (by rfl) ?_
  simp only [Act.put, List.setIfInBounds_toArray, List.set_cons_zero, List.set_cons_succ]
  refine reg_eff 3 rfl (by kernel_rfl) (fun K hK => ?_)
  go_simp
  refine (g6.out _).mono ?_
  rintro e w9 ⟨rfl, hE⟩
  refine hK.out _ _ hE ?_
  have HX := Lib.hid (Ext.trans HX.out hE)
  clear hE hK K
  try simp only [Act.put, List.setIfInBounds_toArray, List.set_cons_zero, List.set_cons_succ]
  refine reg_eff 4 rfl (by kernel_rfl) (fun K hK => ?_)
  go_simp
  refine (g7.out _).mono ?_
  rintro e w10 ⟨rfl, hE⟩
  refine hK.out _ _ hE ?_
  have HX := Lib.hid (Ext.trans HX.out hE)
  clear hE hK K
  try simp only [Act.put, List.setIfInBounds_toArray, List.set_cons_zero, List.set_cons_succ]
  refine reg_eff 7 rfl (by kernel_rfl) (fun K hK => ?_)
  go_simp
  refine (g1.out _).mono ?_
  rintro e w11 ⟨rfl, hE⟩
  refine hK.out _ _ hE ?_
  have HX := Lib.hid (Ext.trans HX.out hE)
  clear hE hK K
  try simp only [Act.put, List.setIfInBounds_toArray, List.set_cons_zero, List.set_cons_succ]
  refine reg_eff 10 rfl (by kernel_rfl) (fun K hK => ?_)
  go_simp
  refine (g8.out _).mono ?_
  rintro e w12 ⟨rfl, hE⟩
  refine hK.out _ _ hE ?_
  have HX := Lib.hid (Ext.trans HX.out hE)
  clear hE hK K
  try simp only [Act.put, List.setIfInBounds_toArray, List.set_cons_zero, List.set_cons_succ]
  refine reg_eff 11 rfl (by kernel_rfl) (fun K hK => ?_)
  go_simp
  refine (g9.out _).mono ?_
  rintro e w13 ⟨rfl, hE⟩
  refine hK.out _ _ hE ?_
  have HX := Lib.hid (Ext.trans HX.out hE)
  clear hE hK K
  try simp only [Act.put, List.setIfInBounds_toArray, List.set_cons_zero, List.set_cons_succ]
  refine reg_take (v := ?_) 12 (some 41) rfl rfl (by kernel_rfl) (by kernel_rfl) (by kernel_rfl) (fun _ _ _ h => h) (by rfl) (fun W hW => ?_) ?_
  rotate_left
  · (go_simp; try rfl)
  simp only [Act.put, List.setIfInBounds_toArray, List.set_cons_zero, List.set_cons_succ]
  refine reg_take (v := ?_) 13 (some 42) rfl rfl (by kernel_rfl) (by kernel_rfl) (by kernel_rfl) (fun _ _ _ h => h) (by rfl) (fun W hW => ?_) ?_
  rotate_left
  · (go_simp; try rfl)
  simp only [Act.put, List.setIfInBounds_toArray, List.set_cons_zero, List.set_cons_succ]
  refine reg_load 14 (some 43) (fun W hW => LA.out W (Ext.trans HX.out hW)) rfl rfl rfl rfl (by kernel_rfl) (by kernel_rfl) (by kernel_rfl) (fun _ _ _ h => h) (by rfl) ?_
  simp only [Act.put, List.setIfInBounds_toArray, List.set_cons_zero, List.set_cons_succ]
  refine reg_load 15 (some 44) (fun W hW => L1.out W (Ext.trans HX.out hW)) rfl rfl rfl rfl (by kernel_rfl) (by kernel_rfl) (by kernel_rfl) (fun _ _ _ h => h) (by rfl) ?_
  simp only [Act.put, List.setIfInBounds_toArray, List.set_cons_zero, List.set_cons_succ]
  refine reg_load 17 (some 46) (fun W hW => LA.out W (Ext.trans HX.out hW)) rfl rfl rfl rfl (by kernel_rfl) (by kernel_rfl) (by kernel_rfl) (fun _ _ _ h => h) (by rfl) ?_
  simp only [Act.put, List.setIfInBounds_toArray, List.set_cons_zero, List.set_cons_succ]
  refine reg_eff 16 rfl (by kernel_rfl) (fun K hK => ?_)
  go_simp
  refine (g10.out _).mono ?_
  rintro e w14 ⟨rfl, hE⟩
  refine hK.out _ _ hE ?_
  have HX := Lib.hid (Ext.trans HX.out hE)
  clear hE hK K
  try simp only [Act.put, List.setIfInBounds_toArray, List.set_cons_zero, List.set_cons_succ]
  refine reg_take (v := ?_) 18 (some 47) rfl rfl (by kernel_rfl) (by kernel_rfl) (by kernel_rfl) (fun _ _ _ h => h) (by rfl) (fun W hW => ?_) ?_
  rotate_left
  · (go_simp; try rfl)
  simp only [Act.put, List.setIfInBounds_toArray, List.set_cons_zero, List.set_cons_succ]
  refine reg_take (v := ?_) 19 (some 48) rfl rfl (by kernel_rfl) (by kernel_rfl) (by kernel_rfl) (fun _ _ _ h => h) (by rfl) (fun W hW => ?_) ?_
  rotate_left
  · (go_simp; try rfl)
  simp only [Act.put, List.setIfInBounds_toArray, List.set_cons_zero, List.set_cons_succ]
  refine reg_take (v := ?_) 20 (some 49) rfl rfl (by kernel_rfl) (by kernel_rfl) (by kernel_rfl) (fun _ _ _ h => h) (by rfl) (fun W hW => ?_) ?_
  rotate_left
  · (go_simp; try rfl)
  simp only [Act.put, List.setIfInBounds_toArray, List.set_cons_zero, List.set_cons_succ]
  refine reg_load 21 (some 50) (fun W hW => LA.out W (Ext.trans HX.out hW)) rfl rfl rfl rfl (by kernel_rfl) (by kernel_rfl) (by kernel_rfl) (fun _ _ _ h => h) (by rfl) ?_
  simp only [Act.put, List.setIfInBounds_toArray, List.set_cons_zero, List.set_cons_succ]
  refine reg_take (v := ?_) 22 (some 51) rfl rfl (by kernel_rfl) (by kernel_rfl) (by kernel_rfl) (fun _ _ _ h => h) (by rfl) (fun W hW => ?_) ?_
  rotate_left
  · exact exec_bld rfl (by simp only [List.map_toArray, List.map_nil]; exact BD0.out W)
  simp only [Act.put, List.setIfInBounds_toArray, List.set_cons_zero, List.set_cons_succ]
  refine reg_take (v := ?_) 24 (some 53) rfl rfl (by kernel_rfl) (by kernel_rfl) (by kernel_rfl) (fun _ _ _ h => h) (by rfl) (fun W hW => ?_) ?_
  rotate_left
  · exact exec_bld rfl (by simp only [List.map_toArray, List.map_nil]; exact BD0.out W)
  simp only [Act.put, List.setIfInBounds_toArray, List.set_cons_zero, List.set_cons_succ]
  refine reg_eff 23 rfl (by kernel_rfl) (fun K hK => ?_)
  go_simp
  refine (g11.out _).mono ?_
  rintro e w15 ⟨rfl, hE⟩
  refine hK.out _ _ hE ?_
  have HX := Lib.hid (Ext.trans HX.out hE)
  clear hE hK K
  try simp only [Act.put, List.setIfInBounds_toArray, List.set_cons_zero, List.set_cons_succ]
  refine reg_take (v := ?_) 25 (some 54) rfl rfl (by kernel_rfl) (by kernel_rfl) (by kernel_rfl) (fun _ _ _ h => h) (by rfl) (fun W hW => ?_) ?_
  rotate_left
  · (go_simp; try rfl)
  simp only [Act.put, List.setIfInBounds_toArray, List.set_cons_zero, List.set_cons_succ]
  refine reg_take (v := ?_) 26 (some 55) rfl rfl (by kernel_rfl) (by kernel_rfl) (by kernel_rfl) (fun _ _ _ h => h) (by rfl) (fun W hW => ?_) ?_
  rotate_left
  · (go_simp; try rfl)
  simp only [Act.put, List.setIfInBounds_toArray, List.set_cons_zero, List.set_cons_succ]
  refine reg_take (v := ?_) 27 (some 56) rfl rfl (by kernel_rfl) (by kernel_rfl) (by kernel_rfl) (fun _ _ _ h => h) (by rfl) (fun W hW => ?_) ?_
  rotate_left
  · (go_simp; try rfl)
  simp only [Act.put, List.setIfInBounds_toArray, List.set_cons_zero, List.set_cons_succ]
  refine reg_eff 28 rfl (by kernel_rfl) (fun K hK => ?_)
  go_simp
  refine (gawake_any _).mono ?_
  rintro e w16 ⟨rfl, hE⟩
  refine hK.out _ _ hE ?_
  have HX := Lib.hid (Ext.trans HX.out hE)
  clear hE hK K
  try simp only [Act.put, List.setIfInBounds_toArray, List.set_cons_zero, List.set_cons_succ]
  refine reg_take (v := ?_) 29 (some 58) rfl rfl (by kernel_rfl) (by kernel_rfl) (by kernel_rfl) (fun _ _ _ h => h) (by rfl) (fun W hW => ?_) ?_
  rotate_left
  · (go_simp; try rfl)
  simp only [Act.put, List.setIfInBounds_toArray, List.set_cons_zero, List.set_cons_succ]
  refine reg_take (v := ?_) 30 (some 6) rfl rfl (by kernel_rfl) (by kernel_rfl) (by kernel_rfl) (fun _ _ _ h => h) (by rfl) (fun W hW => ?_) ?_
  rotate_left
  · (go_simp; try rfl)
  simp only [Act.put, List.setIfInBounds_toArray, List.set_cons_zero, List.set_cons_succ]
  refine reg_done (by kernel_rfl) ?_
  go_wp2
  go_ret
  exact ⟨rfl, BW.out.step HX.out⟩
end Go.Proofs.Ytjcanmbpidabeaa
