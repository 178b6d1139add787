/- The contract of Wipe; the walk of the law AesWiped. -/
import Derived.Test.YtekfgifoflaliaaLawsA2
namespace Go.Proofs.Ytekfgifoflaliaa
open Go.RowKit
set_option linter.unusedVariables false
set_option linter.unusedSimpArgs false
theorem gr_trans' {a b c : World} {g : Nat} (h : a.grownBy b (some g)) (k : b.grownBy c (some g)) : a.grownBy c (some g) :=
  ⟨k.os.trans h.os, k.tape.trans h.tape, k.output.trans h.output, Nat.le_trans h.size k.size, fun i hi hne => (k.block i (Nat.lt_of_lt_of_le hi h.size) hne).trans (h.block i hi hne)⟩
def ws0 : List W32 := List.replicate 60 0
theorem ws0_len : ws0.length = 60 := by unfold ws0; exact List.length_replicate
theorem keyZ : keyCells ws0 0 = zeros61 := by
  unfold keyCells zeros61 zeros60 ws0
  rw [List.map_replicate]; rfl
theorem zeros61_one : ∀ v ∈ zeros61, v.oneCell' = true := by
  intro v hv
  rw [← keyZ, keyCells, List.mem_append] at hv
  rcases hv with h | h
  · exact wv_one _ v h
  · simp at h; subst h; rfl
theorem zeros61_len : zeros61.length = 61 := by simp [zeros61, zeros60_len]
theorem i61 : (Try.prog.info? 48).map (·.size) = some 61 := by kernel_rfl
theorem zeroKeys (W : World) : (zeroValue 48).run Try.prog W = .ok (.agg zeros61.toArray) W := by kernel_rfl
theorem wipe_nil (w : World) : Calls Try.prog 21 #[.pointer none] w fun e w' => (∃ v, e = .returned v) ∧ w = w' := by
  go_enter Try.func21, Try.ntmps21
  go_wp2
  exact bodyPost_end (v := .tuple #[]) (by simp [results, Try.results21, go_sem]) rfl ⟨⟨_, rfl⟩, rfl⟩
set_option maxHeartbeats 1000000 in
theorem wipe_any (g : Nat) (ws : List W32) (n : Nat) (w : World) (H : KeyAt w g ws n) :
    Calls Try.prog 21 #[.pointer (some ⟨g, 0, none⟩)] w fun e w' => (∃ v, e = .returned v) ∧ KeyAt w' g ws0 0 ∧ w.grownBy w' (some g) := by
  have HK := Lib.hid H.2
  have hl : Hid ((keyCells ws n).length = zeros61.length) := by show _ = _; rw [zeros61_len]; simp [keyCells, H.1]
  have hi : Hid ((Try.prog.info? 48).map (·.size) = some zeros61.length) := by show _ = _; rw [zeros61_len]; exact i61
  have hone := Lib.hid zeros61_one
  have hz := zeroKeys
  have HZ : Hid (zeros61 = keyCells ws0 0) := keyZ.symm
  generalize zeros61 = Z at hl hi hone hz HZ
  clear H
  go_enter Try.func21, Try.ntmps21
  go_wp2_with (first
    | (refine wpList_st rfl 48 (.tmp 6) (.tmp 5) rfl (store_arr (cs := Z) hi.out hone.out HK.out hl.out) ?_)
    | fail)
  refine bodyPost_end (v := .tuple #[]) (by simp [results, Try.results21, go_sem]) rfl ⟨⟨_, rfl⟩, ⟨ws0_len, ?_⟩, grown_setRow _ _ _⟩
  rw [← HZ.out]
  exact setRow_heap _ _ _ _ _ _ HK.out
theorem KeyAt.other {w w' : World} {g : Nat} {ws : List W32} {n : Nat} (h : KeyAt w g ws n) (hb : w'.heap[g]? = w.heap[g]?) : KeyAt w' g ws n := ⟨h.1, hb.trans h.2⟩
set_option maxHeartbeats 4000000 in
theorem aesWiped_walk (w : World) (key : List UInt8) (hk : key.length = 32) (b : List UInt8) (hb : b.length = 16) :
    Calls Try.prog 7 #[.agg (key.map bv).toArray, .agg (b.map bv).toArray] w fun e w' => e = .returned (.bool true) ∧ Below w.heap.size w w' := by
  have HK := Lib.hid hk; have HBL := Lib.hid hb
  have hi16 : Hid ((Try.prog.info? 23).map (·.size) = some (b.map bv).length) := by show _ = _; rw [List.length_map, hb]; exact i16B
  have hz : ∀ W, (zeroValue 23).run Try.prog W = .ok (.agg zeros16.toArray) W := fun W => by kernel_rfl
  clear hk hb
  go_enter Try.func7, Try.ntmps7
  go_upto_region 1 with (fail)
  generalize hV : (w.alloc _).alloc _ = W0
  have F0 : Hid (W0.heap[w.heap.size]? = some (.cells (key.map bv).toArray 39 (0, 0))) := by rw [← hV]; exact (heap2 w _ _).1
  have F1 : Hid (W0.heap[w.heap.size + 1]? = some (.cells (b.map bv).toArray 23 (0, 0))) := by rw [← hV]; exact (heap2 w _ _).2.1
  have FB : Hid (Below w.heap.size w W0) := by rw [← hV]; exact (heap2 w _ _).2.2
  clear hV
  generalize w.heap.size + 1 = g1 at F1 ⊢
  have sl2 := arr_all arr32A s8 ⟨w.heap.size, 0, none⟩
  have HS32 : Hid (∀ W, Below W0.heap.size W0 W → Sl W (some ⟨w.heap.size, 0, none⟩) 32 key) := fun W hW => sl_row HK.out (by omega) ((hW.block _ (lt_of_heap F0.out)).trans F0.out)
  have HXM := Lib.hid (fun W hW => expand_any (some ⟨w.heap.size, 0, none⟩) 32 32 8 key W HK.out rfl (.inr rfl) (HS32.out W hW))
  generalize expandL key = wm at HXM
  go_wp2_with fail
  refine (HXM.out W0 (Below.refl _ _)).mono ?_
  rintro e w1 ⟨gk, rfl, hgk, hK1, hB1⟩
  have K1 := Lib.hid hK1; have B1 := Lib.hid hB1; have HGK := Lib.hid hgk
  clear hK1 hB1 hgk
  go_wp2_with fail
  refine (HXM.out w1 B1.out).mono ?_
  rintro e w2 ⟨gm, rfl, hgm, hK2, hB2⟩
  have K1b := Lib.hid (K1.out.ext hB2)
  have K2 := Lib.hid hK2; have B2 := Lib.hid (B1.out.step hB2)
  have hkm : Hid (gk < gm) := Nat.lt_of_lt_of_le (lt_of_heap K1.out.2) hgm
  clear hK2 hB2 K1 B1 hgm
  have hwm : Hid (wm.length = 60) := K2.out.1
  have HEA := Lib.hid (fun g W hW => enc_any g 14 wm b W HBL.out (by omega) (by omega) hW)
  have hEl : Hid (((encL wm 14 b).map bv).length = 16) := by show _ = _; rw [List.length_map, encL_len _ _ _ hwm.out (by omega)]
  have q1 := eql_bytes (P := Try.prog) arr16B Try.underlying5 s8 (encL wm 14 b) (encL wm 14 b) (encL_len _ _ _ hwm.out (by omega)) (encL_len _ _ _ hwm.out (by omega))
  rw [show decide (encL wm 14 b = encL wm 14 b) = true from by simp] at q1
  generalize encL wm 14 b = E at HEA q1 hEl
  have qz := eql_bytes (P := Try.prog) arr16B Try.underlying5 s8 (List.replicate 16 0) (List.replicate 16 0) rfl rfl
  rw [show decide ((List.replicate 16 0 : List UInt8) = List.replicate 16 0) = true from by simp] at qz
  have HZ16 : Hid ((List.replicate 16 (0 : UInt8)).map bv = zeros16) := rfl
  rw [HZ16.out] at qz
  have hiE : Hid ((Try.prog.info? 23).map (·.size) = some (E.map bv).length) := by show _ = _; rw [hEl.out]; exact i16B
  have hlE : Hid (zeros16.length = (E.map bv).length) := by show _ = _; rw [hEl.out]; rfl
  have HEN := Lib.hid (fun g W hW => enc_none (.pointer (some ⟨g, 0, none⟩)) b W HBL.out hW)
  have HDN := Lib.hid (fun g W hW => dec_none (.pointer (some ⟨g, 0, none⟩)) b W HBL.out hW)
  rw [HZ16.out] at HEN HDN
  have F1b := Lib.hid ((B2.out.block _ (lt_of_heap F1.out)).trans F1.out)
  have hg1k : Hid (g1 ≠ gk) := by have h1 := lt_of_heap F1.out; have h2 := HGK.out; show g1 ≠ gk; omega
  have hw0k : Hid (w.heap.size ≤ gk) := Nat.le_trans FB.out.size HGK.out
  go_wp2_with (first
    | (refine wpList_ld rfl 23 (.tmp 3) rfl (load_arr arr16B rfl hi16.out F1b.out) ?_)
    | fail)
  refine (HEA.out gm w2 K2.out).mono ?_
  rintro e w3 ⟨rfl, hB3⟩
  have K1c := Lib.hid (K1b.out.ext hB3)
  have K2c := Lib.hid (K2.out.ext hB3)
  have F1c := Lib.hid ((hB3.block _ (lt_of_heap F1b.out)).trans F1b.out)
  have BW := Lib.hid ((FB.out.step B2.out).step hB3)
  clear hB3 K1b K2 F1b
  have l1 := Lib.hid (lt_of_heap K1c.out.2)
  have l2 := Lib.hid (lt_of_heap K2c.out.2)
  have l3 := Lib.hid (lt_of_heap F1c.out)
  go_upto_region 6 with (first
    | (refine wpList_st rfl 23 (.tmp 9) (.tmp 37) rfl (store_arr (cs := E.map bv) (old := zeros16) hiE.out (bv_one _) (heap_alloc_new' w3 _) hlE.out) ?_
       generalize hV : World.setRow _ _ _ = W5
       have M9 := Lib.hid (heap_of_setRow hV (heap_alloc_new' w3 _))
       have MB := Lib.hid (((Below.refl w3.heap.size w3).alloc (Nat.le_refl _) _).trans (below_of_setRow hV (Nat.le_refl w3.heap.size) (by simp)))
       clear hV)
    | fail)
  have N1 := Lib.hid (K1c.out.ext MB.out)
  have N2 := Lib.hid (K2c.out.ext MB.out)
  have NF := Lib.hid ((MB.out.block _ l3.out).trans F1c.out)
  have NB := Lib.hid (BW.out.step MB.out)
  have h9k : Hid (w3.heap.size ≠ gk) := by have := l1.out; show w3.heap.size ≠ gk; omega
  clear K1c K2c F1c BW MB
  generalize w3.heap.size = g9 at M9 h9k ⊢
  go_wp2_with fail
  refine (wipe_any gk wm 14 W5 N1.out).mono ?_
  rintro e w6 ⟨⟨v6, rfl⟩, hZ6, hgr⟩
  have O1 := Lib.hid hZ6
  have O2 := Lib.hid (N2.out.other (hgr.block _ (lt_of_heap N2.out.2) (by have := hkm.out; simp; omega)))
  have O9 := Lib.hid ((hgr.block _ (lt_of_heap M9.out) (by simpa using h9k.out)).trans M9.out)
  have OF := Lib.hid ((hgr.block _ (lt_of_heap NF.out) (by simpa using hg1k.out)).trans NF.out)
  have OB := Lib.hid (NB.out.trans (grown_below hgr hw0k.out NB.out.size))
  clear hZ6 hgr N1 N2 M9 NF NB
  go_wp2_with fail
  refine (wipe_any gk _ 0 w6 O1.out).mono ?_
  rintro e w7 ⟨⟨v7, rfl⟩, hZ6, hgr⟩
  have P1 := Lib.hid hZ6
  have P2 := Lib.hid (O2.out.other (hgr.block _ (lt_of_heap O2.out.2) (by have := hkm.out; simp; omega)))
  have P9 := Lib.hid ((hgr.block _ (lt_of_heap O9.out) (by simpa using h9k.out)).trans O9.out)
  have PF := Lib.hid ((hgr.block _ (lt_of_heap OF.out) (by simpa using hg1k.out)).trans OF.out)
  have PB := Lib.hid (OB.out.trans (grown_below hgr hw0k.out OB.out.size))
  clear hZ6 hgr O1 O2 O9 OF OB
  go_wp2_with fail
  refine (wipe_nil w7).mono ?_
  rintro e w8 ⟨⟨v8, rfl⟩, rfl⟩
  have G1 : Hid (∀ W, Ext w7 W → (Instr.loadAt 23 (.pointer (some ⟨g1, 0, none⟩))).run Try.prog W = .ok (.agg (b.map bv).toArray) W) := fun W hW => load_arr arr16B rfl hi16.out ((hW.block _ (lt_of_heap PF.out)).trans PF.out)
  have G9 : Hid (∀ W, Ext w7 W → (Instr.loadAt 23 (.pointer (some ⟨g9, 0, none⟩))).run Try.prog W = .ok (.agg (E.map bv).toArray) W) := fun W hW => load_arr arr16B rfl hiE.out ((hW.block _ (lt_of_heap P9.out)).trans P9.out)
  have HX : Hid (Ext w7 w7.drew) := (Below.refl _ _).drew
  go_wp2_with fail
  refine reg_start (by kernel_rfl) ?_
  try simp only [Act.put, List.setIfInBounds_toArray, List.set_cons_zero, List.set_cons_succ]
  generalize w7.drew = W1 at HX ⊢
  refine reg_take (v := ?_) 0 (some 44) rfl rfl (by kernel_rfl) (by kernel_rfl) (by kernel_rfl) (fun _ _ _ h => h) (by rfl) (fun W hW => ?_) ?_
  rotate_left
  · (go_simp; try rfl)
  simp only [Act.put, List.setIfInBounds_toArray, List.set_cons_zero, List.set_cons_succ]
  refine reg_load 1 (some 45) (fun W hW => G1.out W (Ext.trans HX.out hW)) rfl rfl rfl rfl (by kernel_rfl) (by kernel_rfl) (by kernel_rfl) (fun _ _ _ h => h) (by rfl) ?_
  simp only [Act.put, List.setIfInBounds_toArray, List.set_cons_zero, List.set_cons_succ]
  refine reg_take (v := ?_) 3 (some 47) rfl rfl (by kernel_rfl) (by kernel_rfl) (by kernel_rfl) (fun _ _ _ h => h) (by rfl) (fun W hW => ?_) ?_
  rotate_left
  · refine Eq.trans (b := Result.ok (Next.value (Value.agg zeros16.toArray)) W) (by kernel_rfl) ?_
    rfl
  simp only [Act.put, List.setIfInBounds_toArray, List.set_cons_zero, List.set_cons_succ]
  refine reg_eff 2 rfl (by kernel_rfl) (fun K hK => ?_)
  go_simp
  refine (HEN.out gk _ (fun W hW => rounds_any gk _ 0 W (P1.out.ext (Ext.trans HX.out hW)))).mono ?_
  rintro e w9 ⟨rfl, hE⟩
  refine hK.out _ _ hE ?_
  have HX := Lib.hid (Ext.trans HX.out hE)
  clear hE hK K
  try simp only [Act.put, List.setIfInBounds_toArray, List.set_cons_zero, List.set_cons_succ]
  refine reg_take (v := ?_) 4 (some 48) rfl rfl (by kernel_rfl) (by kernel_rfl) (by kernel_rfl) (fun _ _ _ h => h) (by rfl) (fun W hW => ?_) ?_
  rotate_left
  · (go_simp; try rfl)
  simp only [Act.put, List.setIfInBounds_toArray, List.set_cons_zero, List.set_cons_succ]
  refine reg_take (v := ?_) 5 (some 49) rfl rfl (by kernel_rfl) (by kernel_rfl) (by kernel_rfl) (fun _ _ _ h => h) (by rfl) (fun W hW => ?_) ?_
  rotate_left
  · (go_simp; try rfl)
  simp only [Act.put, List.setIfInBounds_toArray, List.set_cons_zero, List.set_cons_succ]
  refine reg_take (v := ?_) 6 (some 50) rfl rfl (by kernel_rfl) (by kernel_rfl) (by kernel_rfl) (fun _ _ _ h => h) (by rfl) (fun W hW => ?_) ?_
  rotate_left
  · (go_simp; try rfl)
  simp only [Act.put, List.setIfInBounds_toArray, List.set_cons_zero, List.set_cons_succ]
  refine reg_load 7 (some 51) (fun W hW => G1.out W (Ext.trans HX.out hW)) rfl rfl rfl rfl (by kernel_rfl) (by kernel_rfl) (by kernel_rfl) (fun _ _ _ h => h) (by rfl) ?_
  simp only [Act.put, List.setIfInBounds_toArray, List.set_cons_zero, List.set_cons_succ]
  refine reg_take (v := ?_) 9 (some 53) rfl rfl (by kernel_rfl) (by kernel_rfl) (by kernel_rfl) (fun _ _ _ h => h) (by rfl) (fun W hW => ?_) ?_
  rotate_left
  · refine Eq.trans (b := Result.ok (Next.value (Value.agg zeros16.toArray)) W) (by kernel_rfl) ?_
    rfl
  simp only [Act.put, List.setIfInBounds_toArray, List.set_cons_zero, List.set_cons_succ]
  refine reg_eff 8 rfl (by kernel_rfl) (fun K hK => ?_)
  go_simp
  refine (HDN.out gk _ (fun W hW => rounds_any gk _ 0 W (P1.out.ext (Ext.trans HX.out hW)))).mono ?_
  rintro e w10 ⟨rfl, hE⟩
  refine hK.out _ _ hE ?_
  have HX := Lib.hid (Ext.trans HX.out hE)
  clear hE hK K
  try simp only [Act.put, List.setIfInBounds_toArray, List.set_cons_zero, List.set_cons_succ]
  refine reg_take (v := ?_) 10 (some 54) rfl rfl (by kernel_rfl) (by kernel_rfl) (by kernel_rfl) (fun _ _ _ h => h) (by rfl) (fun W hW => ?_) ?_
  rotate_left
  · (go_simp; try rfl)
  simp only [Act.put, List.setIfInBounds_toArray, List.set_cons_zero, List.set_cons_succ]
  refine reg_take (v := ?_) 11 (some 55) rfl rfl (by kernel_rfl) (by kernel_rfl) (by kernel_rfl) (fun _ _ _ h => h) (by rfl) (fun W hW => ?_) ?_
  rotate_left
  · (go_simp; try rfl)
  simp only [Act.put, List.setIfInBounds_toArray, List.set_cons_zero, List.set_cons_succ]
  refine reg_take (v := ?_) 12 (some 56) rfl rfl (by kernel_rfl) (by kernel_rfl) (by kernel_rfl) (fun _ _ _ h => h) (by rfl) (fun W hW => ?_) ?_
  rotate_left
  · (go_simp; try rfl)
  simp only [Act.put, List.setIfInBounds_toArray, List.set_cons_zero, List.set_cons_succ]
  refine reg_take (v := ?_) 13 (some 57) rfl rfl (by kernel_rfl) (by kernel_rfl) (by kernel_rfl) (fun _ _ _ h => h) (by rfl) (fun W hW => ?_) ?_
  rotate_left
  · (go_simp; try rfl)
  simp only [Act.put, List.setIfInBounds_toArray, List.set_cons_zero, List.set_cons_succ]
  refine reg_eff 14 rfl (by kernel_rfl) (fun K hK => ?_)
  go_simp
  refine (rounds_any gk _ 0 _ (P1.out.ext HX.out)).mono ?_
  rintro e w11 ⟨rfl, rfl⟩
  have hE := (Ext.refl w10)
  refine hK.out _ _ hE ?_
  have HX := Lib.hid (Ext.trans HX.out hE)
  clear hE hK K
  try simp only [Act.put, List.setIfInBounds_toArray, List.set_cons_zero, List.set_cons_succ]
  refine reg_take (v := ?_) 15 (some 59) rfl rfl (by kernel_rfl) (by kernel_rfl) (by kernel_rfl) (fun _ _ _ h => h) (by rfl) (fun W hW => ?_) ?_
  rotate_left
  · (go_simp; try rfl)
  simp only [Act.put, List.setIfInBounds_toArray, List.set_cons_zero, List.set_cons_succ]
  refine reg_take (v := ?_) 16 (some 60) rfl rfl (by kernel_rfl) (by kernel_rfl) (by kernel_rfl) (fun _ _ _ h => h) (by rfl) (fun W hW => ?_) ?_
  rotate_left
  · (go_simp; try rfl)
  simp only [Act.put, List.setIfInBounds_toArray, List.set_cons_zero, List.set_cons_succ]
  refine reg_take (v := ?_) 17 (some 61) rfl rfl (by kernel_rfl) (by kernel_rfl) (by kernel_rfl) (fun _ _ _ h => h) (by rfl) (fun W hW => ?_) ?_
  rotate_left
  · (go_simp; try rfl)
  simp only [Act.put, List.setIfInBounds_toArray, List.set_cons_zero, List.set_cons_succ]
  refine reg_take (v := ?_) 18 (some 62) rfl rfl (by kernel_rfl) (by kernel_rfl) (by kernel_rfl) (fun _ _ _ h => h) (by rfl) (fun W hW => ?_) ?_
  rotate_left
  · (go_simp; try rfl)
  simp only [Act.put, List.setIfInBounds_toArray, List.set_cons_zero, List.set_cons_succ]
  refine reg_load 19 (some 63) (fun W hW => G1.out W (Ext.trans HX.out hW)) rfl rfl rfl rfl (by kernel_rfl) (by kernel_rfl) (by kernel_rfl) (fun _ _ _ h => h) (by rfl) ?_
  simp only [Act.put, List.setIfInBounds_toArray, List.set_cons_zero, List.set_cons_succ]
  refine reg_load 21 (some 65) (fun W hW => G9.out W (Ext.trans HX.out hW)) rfl rfl rfl rfl (by kernel_rfl) (by kernel_rfl) (by kernel_rfl) (fun _ _ _ h => h) (by rfl) ?_
  simp only [Act.put, List.setIfInBounds_toArray, List.set_cons_zero, List.set_cons_succ]
  refine reg_eff 20 rfl (by kernel_rfl) (fun K hK => ?_)
  go_simp
  refine (HEA.out gm _ (P2.out.ext HX.out)).mono ?_
  rintro e w12 ⟨rfl, hE⟩
  refine hK.out _ _ hE ?_
  have HX := Lib.hid (Ext.trans HX.out hE)
  clear hE hK K
  try simp only [Act.put, List.setIfInBounds_toArray, List.set_cons_zero, List.set_cons_succ]
  refine reg_take (v := ?_) 22 (some 66) rfl rfl (by kernel_rfl) (by kernel_rfl) (by kernel_rfl) (fun _ _ _ h => h) (by rfl) (fun W hW => ?_) ?_
  rotate_left
  · (go_simp; try rfl)
  simp only [Act.put, List.setIfInBounds_toArray, List.set_cons_zero, List.set_cons_succ]
  refine reg_take (v := ?_) 23 (some 67) rfl rfl (by kernel_rfl) (by kernel_rfl) (by kernel_rfl) (fun _ _ _ h => h) (by rfl) (fun W hW => ?_) ?_
  rotate_left
  · (go_simp; try rfl)
  simp only [Act.put, List.setIfInBounds_toArray, List.set_cons_zero, List.set_cons_succ]
  refine reg_take (v := ?_) 24 (some 68) rfl rfl (by kernel_rfl) (by kernel_rfl) (by kernel_rfl) (fun _ _ _ h => h) (by rfl) (fun W hW => ?_) ?_
  rotate_left
  · (go_simp; try rfl)
  simp only [Act.put, List.setIfInBounds_toArray, List.set_cons_zero, List.set_cons_succ]
  refine reg_eff 25 rfl (by kernel_rfl) (fun K hK => ?_)
  go_simp
  refine (awake3_any _).mono ?_
  rintro e w13 ⟨rfl, hE⟩
  refine hK.out _ _ hE ?_
  have HX := Lib.hid (Ext.trans HX.out hE)
  clear hE hK K
  try simp only [Act.put, List.setIfInBounds_toArray, List.set_cons_zero, List.set_cons_succ]
  refine reg_take (v := ?_) 26 (some 70) rfl rfl (by kernel_rfl) (by kernel_rfl) (by kernel_rfl) (fun _ _ _ h => h) (by rfl) (fun W hW => ?_) ?_
  rotate_left
  · (go_simp; try rfl)
  simp only [Act.put, List.setIfInBounds_toArray, List.set_cons_zero, List.set_cons_succ]
  refine reg_take (v := ?_) 27 (some 4) rfl rfl (by kernel_rfl) (by kernel_rfl) (by kernel_rfl) (fun _ _ _ h => h) (by rfl) (fun W hW => ?_) ?_
  rotate_left
  · (go_simp; try rfl)
  simp only [Act.put, List.setIfInBounds_toArray, List.set_cons_zero, List.set_cons_succ]
  refine reg_done (by kernel_rfl) ?_
  go_wp2
  go_ret
  exact ⟨rfl, PB.out.step HX.out⟩
end Go.Proofs.Ytekfgifoflaliaa
