/- aead: Open's own function; Seal and Open. -/
import Derived.Test.YtcpmfekekidhfaaAed4
namespace Go.Proofs.Ytcpmfekekidhfaa
open Go.RowKit
set_option linter.unusedVariables false
set_option linter.unusedSimpArgs false
set_option maxRecDepth 100000
theorem own_monoE {w : World} {base b' : Nat} {e : TypeId} {s : Nat} {v : Value} {n : Nat} {xs : List Value} (h : w.ownsRow base e s v n xs) (hb : b' ≤ base) : w.ownsRow b' e s v n xs := by
  obtain ⟨h0, h | ⟨g, cap, cur, hv, hg, r⟩⟩ := h
  · exact ⟨h0, .inl h⟩
  · exact ⟨h0, .inr ⟨g, cap, cur, hv, Nat.le_trans hb hg, r⟩⟩
/-- what opening comes to -/
def OpenE (w : World) (key nonce aad b : List UInt8) (m : Nat) (v : Value) (x : Int) (w' : World) : Prop :=
  if tagL key nonce aad (b.take m) = b.drop m then x = 0 ∧ w'.ownsRow w.heap.size 5 1 v m ((cryptC key nonce 1#32 (b.take m)).map bv) else v = .slice none 0 0 ∧ x = 7
set_option maxHeartbeats 4000000 in
theorem open1_short (key nonce : List UInt8) (g2 g3 : Nat) (A4 : Option Addr) (k4 c4 : Nat) (w : World) (h41 : k4 < 16)
    (H2 : w.heap[g2]? = some (.cells #[.slice A4 k4 c4] 22 (0, 0))) :
    Calls Try.prog 21 #[.agg (key.map bv).toArray, .agg (nonce.map bv).toArray, .pointer (some ⟨g2, 0, none⟩), .pointer (some ⟨g3, 0, none⟩)] w fun e w' =>
      e = .returned (.tuple #[.slice none 0 0, .int .i64 17]) ∧ Below w.heap.size w w' := by
  have HH2 := Lib.hid H2
  have G := Lib.hid (heap2c w (.cells (key.map bv).toArray 37) (.cells (nonce.map bv).toArray 38))
  have u1 : (k4 : Int) - 16 < 0 := by omega
  clear H2
  go_enter Try.func21, Try.ntmps21
  go_upto_region 1 with (fail)
  generalize hV : (w.alloc _).alloc _ = W0 at G ⊢
  clear hV
  have B0 : Hid (Below w.heap.size w W0) := G.out.2.2
  clear G
  have c2 := box_cell (box_ext HH2.out B0.out)
  go_wp2_with fail
  go_ret2
  exact ⟨rfl, B0.out⟩
set_option maxHeartbeats 8000000 in
theorem open1_any (key nonce : List UInt8) (g2 g3 : Nat) (A3 A4 : Option Addr) (k3 c3 k4 c4 m : Nat) (aad x : List UInt8) (w : World) (hk : key.length = 32) (hn : nonce.length = 12) (h3 : aad.length = k3) (h4 : x.length = k4) (h31 : k3 ≤ 100000) (h41 : k4 ≤ 100000) (hm : k4 = m + 16)
    (S3 : Sl w A3 c3 aad) (S4 : Sl w A4 c4 x) (H2 : w.heap[g2]? = some (.cells #[.slice A4 k4 c4] 22 (0, 0))) (H3 : w.heap[g3]? = some (.cells #[.slice A3 k3 c3] 22 (0, 0))) :
    Calls Try.prog 21 #[.agg (key.map bv).toArray, .agg (nonce.map bv).toArray, .pointer (some ⟨g2, 0, none⟩), .pointer (some ⟨g3, 0, none⟩)] w fun e w' =>
      ∃ v y, e = .returned (.tuple #[v, .int .i64 y]) ∧ Below w.heap.size w w' ∧ OpenE w key nonce aad x m v y w' := by
  have hz : ∀ W, (zeroValue 41).run Try.prog W = .ok (.agg zer16.toArray) W := fun W => by kernel_rfl
  have hlz : Hid (zer16.length = 16) := rfl
  have HK := Lib.hid hk; have HN := Lib.hid hn; have HS3 := Lib.hid S3; have HS4 := Lib.hid S4; have HH2 := Lib.hid H2; have HH3 := Lib.hid H3
  have htl : (x.take m).length = m := by rw [List.length_take, h4]; omega
  have hdl : (x.drop m).length = 16 := by rw [List.length_drop, h4]; omega
  have HDL := Lib.hid hdl
  have ST := Lib.hid (sl_take' (q := m) S4)
  have SD := Lib.hid (sl_cut (k := m) S4 (by omega))
  have CR : Hid (∀ W, Sl W A4 c4 (x.take m) → Calls Try.prog 17 #[.agg (key.map bv).toArray, .agg (nonce.map bv).toArray, .int .u32 1, .slice A4 m c4] W (NewRow W m (cryptC key nonce 1#32 (x.take m)))) := fun W hS => crypt_any key nonce 1#32 A4 m c4 (x.take m) W hk hn htl (by omega) hS
  have HCL : Hid ((cryptC key nonce 1#32 (x.take m)).length = m) := by show _ = _; rw [cryptC_len]; exact htl
  have TA := Lib.hid (fun W hS3 hS => atag_any key nonce A3 A4 k3 c3 m c4 aad (x.take m) W hk hn h3 htl (by omega) (by omega) hS3 hS)
  have HTL := Lib.hid (tagL_len key nonce aad (x.take m))
  have EQ := Lib.hid (fun A W hS hS' => equal_n A (cutS A4 c4 m) 16 16 16 (c4 - m) (tagL key nonce aad (x.take m)) (x.drop m) W HTL.out hdl hS hS' (by omega) (by omega))
  unfold OpenE
  generalize tagL key nonce aad (x.take m) = T at TA HTL EQ ⊢
  generalize cryptC key nonce 1#32 (x.take m) = C at CR HCL ⊢
  generalize x.take m = X1 at ST TA CR
  generalize x.drop m = X2 at SD EQ HDL ⊢
  generalize zer16 = Z at hz hlz
  have sl1 := cut_to uT s8 A4 k4 c4 .i64 (m : Int) (by omega) (by have := S4.1; omega)
  have sl2 := cut_from uT s8 A4 k4 c4 .i64 (m : Int) (by omega) (by omega)
  rw [Int.toNat_natCast] at sl1 sl2
  rw [show k4 - m = 16 by omega] at sl2
  have u1 : (k4 : Int) - 16 = (m : Int) := by omega
  have hmc : m ≤ c4 := by have := S4.1; omega
  have hmk : m ≤ k4 := by omega
  have G := Lib.hid (heap2c w (.cells (key.map bv).toArray 37) (.cells (nonce.map bv).toArray 38))
  have hkm : k4 ≤ 100000 ∧ m ≤ 100000 := by omega
  clear hk hn h3 h4 S3 S4 H2 H3 h31 htl hdl hm
  go_enter Try.func21, Try.ntmps21
  go_upto_region 1 with (fail)
  generalize hV : (w.alloc _).alloc _ = W0 at G ⊢
  clear hV
  have B0 : Hid (Below w.heap.size w W0) := G.out.2.2
  have K0 := Lib.hid G.out.1
  have N0 := Lib.hid G.out.2.1
  clear G
  have c2 := box_cell (box_ext HH2.out B0.out)
  go_upto_region 4 with (fail)
  clear c2
  have BX : Hid (Below w.heap.size w W0.drew) := B0.out.drew
  have HX : Hid (Below W0.heap.size W0.drew W0.drew) := Below.refl _ _
  have K0 : Hid (W0.drew.heap[w.heap.size]? = _) := K0.out
  have N0 : Hid (W0.drew.heap[w.heap.size + 1]? = _) := N0.out
  have hsz : Hid (W0.drew.heap.size = W0.heap.size) := rfl
  have LK : w.heap.size < W0.heap.size := lt_of_heap K0.out
  have LN : w.heap.size + 1 < W0.heap.size := lt_of_heap N0.out
  refine regB_start (W0.heap.size) (by kernel_rfl) ?_
  try simp only [Act.put, List.setIfInBounds_toArray, List.set_cons_zero, List.set_cons_succ]
  generalize W0.drew = WD at HX BX K0 N0 hsz ⊢
  refine regB_load 0 (some 15) (fun W hW => load_arr arr32K rfl (i32K' key HK.out) ((hW.block _ LK).trans K0.out)) rfl rfl rfl rfl (by kernel_rfl) (by kernel_rfl) (by kernel_rfl) (fun _ _ _ h => h) (by rfl) ?_
  simp only [Act.put, List.setIfInBounds_toArray, List.set_cons_zero, List.set_cons_succ]
  refine regB_load 1 (some 16) (fun W hW => load_arr arr12B rfl (i12B' nonce HN.out) ((hW.block _ LN).trans N0.out)) rfl rfl rfl rfl (by kernel_rfl) (by kernel_rfl) (by kernel_rfl) (fun _ _ _ h => h) (by rfl) ?_
  simp only [Act.put, List.setIfInBounds_toArray, List.set_cons_zero, List.set_cons_succ]
  refine regB_load 2 (some 17) (fun W hW => o_load_slice uT (box_cell (box_ext HH3.out (BX.out.trans (hW.mono B0.out.size))))) rfl rfl rfl rfl (by kernel_rfl) (by kernel_rfl) (by kernel_rfl) (fun _ _ _ h => h) (by rfl) ?_
  simp only [Act.put, List.setIfInBounds_toArray, List.set_cons_zero, List.set_cons_succ]
  refine regB_load 3 (some 18) (fun W hW => o_load_slice uT (box_cell (box_ext HH2.out (BX.out.trans (hW.mono B0.out.size))))) rfl rfl rfl rfl (by kernel_rfl) (by kernel_rfl) (by kernel_rfl) (fun _ _ _ h => h) (by rfl) ?_
  simp only [Act.put, List.setIfInBounds_toArray, List.set_cons_zero, List.set_cons_succ]
  refine regB_take (v := ?_) 4 (some 19) rfl rfl (by kernel_rfl) (by kernel_rfl) (by kernel_rfl) (fun _ _ _ h => h) (by rfl) (fun W hW => ?_) ?_
  rotate_left
  · (go_simp; try rfl)
  simp only [Act.put, List.setIfInBounds_toArray, List.set_cons_zero, List.set_cons_succ]
  refine regB_take (v := ?_) 5 (some 20) rfl rfl (by kernel_rfl) (by kernel_rfl) (by kernel_rfl) (fun _ _ _ h => h) (by rfl) (fun W hW => ?_) ?_
  rotate_left
  · (go_simp; try rfl)
  simp only [Act.put, List.setIfInBounds_toArray, List.set_cons_zero, List.set_cons_succ]
  refine regB_join 6 7 21 9 (fun v1 v2 W => v1 = .agg (T.map bv).toArray ∧ ∃ p, W0.heap.size ≤ p ∧ v2 = .pointer (some ⟨p, 0, none⟩) ∧ W.heap[p]? = some (.cells Z.toArray 41 (0, 0))) rfl rfl (by decide) (by decide) (by kernel_rfl) (by kernel_rfl) (by kernel_rfl) (fun K hK => ?_) (fun K hK => ?_) ?_
  · unfold Does
    go_simp
    refine (TA.out WD (HS3.out.below BX.out) (ST.out.below BX.out)).mono ?_
    rintro e w5 ⟨rfl, hE⟩
    refine hK.out (.agg (T.map bv).toArray) w5 (hE.mono (Nat.le_of_eq hsz.out.symm)) fun K2 hK2 => ?_
    unfold Does
    go_simp
    exact hK2.out (.pointer (some ⟨w5.heap.size, 0, none⟩)) _ ((Below.refl _ w5).alloc (by have := hE.size; have := hsz.out; omega) _) ⟨rfl, _, by have := hE.size; have := hsz.out; omega, rfl, heap_alloc_new' w5 _⟩
  · unfold Does
    go_simp
    have HE1 : Below W0.heap.size WD (WD.alloc (.cells Z.toArray 41)) := (Below.refl _ WD).alloc (Nat.le_of_eq hsz.out.symm) _
    refine hK.out (.pointer (some ⟨WD.heap.size, 0, none⟩)) _ HE1 fun K2 hK2 => ?_
    have BX1 : Below w.heap.size w (WD.alloc (.cells Z.toArray 41)) := BX.out.trans (HE1.mono B0.out.size)
    have HP1 : W0.heap.size ≤ WD.heap.size := Nat.le_of_eq hsz.out.symm
    have HS1 : W0.heap.size ≤ (WD.alloc (.cells Z.toArray 41)).heap.size := by have := hsz.out; simp; omega
    have N1 := heap_alloc_new' WD (.cells Z.toArray 41)
    unfold Does
    go_simp
    generalize WD.alloc (.cells Z.toArray 41) = W1 at HE1 BX1 N1 HS1 hK2 ⊢
    refine (TA.out W1 (HS3.out.below BX1) (ST.out.below BX1)).mono ?_
    rintro e w5 ⟨rfl, hE⟩
    exact hK2.out (.agg (T.map bv).toArray) w5 (hE.mono HS1) ⟨rfl, _, HP1, rfl, (hE.block _ (lt_of_heap N1)).trans N1⟩
  rintro v1 v2 w5 hE ⟨rfl, p, hp, rfl, hN⟩
  have B5 : Hid (Below w.heap.size w w5) := BX.out.trans (hE.mono B0.out.size)
  have P5 := Lib.hid hN
  have K5 := Lib.hid ((hE.block _ LK).trans K0.out)
  have N5 := Lib.hid ((hE.block _ LN).trans N0.out)
  have HP := Lib.hid hp
  have HZ5 : Hid (W0.heap.size ≤ w5.heap.size) := by have := hE.size; have := hsz.out; show _ ≤ _; omega
  clear hE hp hN
  simp only [Act.put, List.setIfInBounds_toArray, List.set_cons_zero, List.set_cons_succ]
  refine regB_eff 8 rfl (by kernel_rfl) (fun K hK => ?_)
  refine step_st1 rfl 41 (.tmp 9) (.tmp 21) rfl (store_arr (cs := T.map bv) (i16p T HTL.out) (bv_one _) P5.out (by rw [List.length_map, HTL.out]; exact hlz.out)) ?_
  generalize hV : World.setRow _ _ _ = W6
  have P6 := Lib.hid (heap_of_setRow hV P5.out)
  have hE6 : Below W0.heap.size w5 W6 := below_of_setRow hV HP.out HZ5.out
  have B6 : Hid (Below w.heap.size w W6) := B5.out.trans (hE6.mono B0.out.size)
  have K6 := Lib.hid ((hE6.block _ LK).trans K5.out)
  have N6 := Lib.hid ((hE6.block _ LN).trans N5.out)
  clear hV
  refine hK.out _ _ hE6 ?_
  clear hK K hE6 P5 B5 HZ5
  simp only [Act.put, List.setIfInBounds_toArray, List.set_cons_zero, List.set_cons_succ]
  refine regB_done (by kernel_rfl) ?_
  clear BX HX hsz
  have ar := arr_all arr16P s8 ⟨p, 0, none⟩
  have HX : Hid (Ext W6 W6.drew) := (Below.refl _ _).drew
  go_upto_region 5 with (fail)
  refine reg_start (by kernel_rfl) ?_
  try simp only [Act.put, List.setIfInBounds_toArray, List.set_cons_zero, List.set_cons_succ]
  refine reg_take (v := ?_) 0 (some 22) rfl rfl (by kernel_rfl) (by kernel_rfl) (by kernel_rfl) (fun _ _ _ h => h) (by rfl) (fun W hW => ?_) ?_
  rotate_left
  · (go_simp; try rfl)
  simp only [Act.put, List.setIfInBounds_toArray, List.set_cons_zero, List.set_cons_succ]
  refine reg_load 1 (some 23) (fun W hW => o_load_slice uT (box_cell (box_ext HH2.out (B6.out.step (HX.out.trans hW))))) rfl rfl rfl rfl (by kernel_rfl) (by kernel_rfl) (by kernel_rfl) (fun _ _ _ h => h) (by rfl) ?_
  simp only [Act.put, List.setIfInBounds_toArray, List.set_cons_zero, List.set_cons_succ]
  refine reg_take (v := ?_) 2 (some 24) rfl rfl (by kernel_rfl) (by kernel_rfl) (by kernel_rfl) (fun _ _ _ h => h) (by rfl) (fun W hW => ?_) ?_
  rotate_left
  · (go_simp; try rfl)
  simp only [Act.put, List.setIfInBounds_toArray, List.set_cons_zero, List.set_cons_succ]
  refine reg_take (v := ?_) 3 (some 25) rfl rfl (by kernel_rfl) (by kernel_rfl) (by kernel_rfl) (fun _ _ _ h => h) (by rfl) (fun W hW => ?_) ?_
  rotate_left
  · (go_simp; try rfl)
  simp only [Act.put, List.setIfInBounds_toArray, List.set_cons_zero, List.set_cons_succ]
  refine reg_eff 4 rfl (by kernel_rfl) (fun K hK => ?_)
  go_simp
  refine (EQ.out _ _ ((sl_row HTL.out (by omega) P6.out).below HX.out) ((SD.out.below B6.out).below HX.out)).mono ?_
  rintro e w7 ⟨rfl, hE⟩
  refine hK.out _ _ hE ?_
  have HX := Lib.hid (Ext.trans HX.out hE)
  clear hE hK K
  try simp only [Act.put, List.setIfInBounds_toArray, List.set_cons_zero, List.set_cons_succ]
  refine reg_take (v := ?_) 5 (some 27) rfl rfl (by kernel_rfl) (by kernel_rfl) (by kernel_rfl) (fun _ _ _ h => h) (by rfl) (fun W hW => ?_) ?_
  rotate_left
  · (go_simp; try rfl)
  simp only [Act.put, List.setIfInBounds_toArray, List.set_cons_zero, List.set_cons_succ]
  refine reg_done (by kernel_rfl) ?_
  have B7 : Hid (Below w.heap.size w w7) := B6.out.step HX.out
  have K7 := Lib.hid ((HX.out.block _ (lt_of_heap K6.out)).trans K6.out)
  have N7 := Lib.hid ((HX.out.block _ (lt_of_heap N6.out)).trans N6.out)
  clear P6 B6 HX ar EQ TA SD
  generalize hbb : decide (T = X2) = bb
  cases bb with
  | false =>
    have hne : ¬ T = X2 := of_decide_eq_false hbb
    have HNE := Lib.hid hne
    clear hbb hne
    go_wp2_with fail
    go_ret2
    exact ⟨_, _, rfl, B7.out, ⟨rfl, rfl⟩⟩
  | true =>
    have HEQ := Lib.hid (of_decide_eq_true hbb)
    clear hbb
    have HX : Hid (Ext w7 w7.drew) := (Below.refl _ _).drew
    go_upto_region 7 with (fail)
    refine reg_start (by kernel_rfl) ?_
    try simp only [Act.put, List.setIfInBounds_toArray, List.set_cons_zero, List.set_cons_succ]
    refine reg_load 0 (some 28) (fun W hW => load_arr arr32K rfl (i32K' key HK.out) (((HX.out.trans hW).block _ (lt_of_heap K7.out)).trans K7.out)) rfl rfl rfl rfl (by kernel_rfl) (by kernel_rfl) (by kernel_rfl) (fun _ _ _ h => h) (by rfl) ?_
    simp only [Act.put, List.setIfInBounds_toArray, List.set_cons_zero, List.set_cons_succ]
    refine reg_load 1 (some 29) (fun W hW => load_arr arr12B rfl (i12B' nonce HN.out) (((HX.out.trans hW).block _ (lt_of_heap N7.out)).trans N7.out)) rfl rfl rfl rfl (by kernel_rfl) (by kernel_rfl) (by kernel_rfl) (fun _ _ _ h => h) (by rfl) ?_
    simp only [Act.put, List.setIfInBounds_toArray, List.set_cons_zero, List.set_cons_succ]
    refine reg_load 2 (some 30) (fun W hW => o_load_slice uT (box_cell (box_ext HH2.out (B7.out.step (HX.out.trans hW))))) rfl rfl rfl rfl (by kernel_rfl) (by kernel_rfl) (by kernel_rfl) (fun _ _ _ h => h) (by rfl) ?_
    simp only [Act.put, List.setIfInBounds_toArray, List.set_cons_zero, List.set_cons_succ]
    refine reg_take (v := ?_) 3 (some 31) rfl rfl (by kernel_rfl) (by kernel_rfl) (by kernel_rfl) (fun _ _ _ h => h) (by rfl) (fun W hW => ?_) ?_
    rotate_left
    · (go_simp; try rfl)
    simp only [Act.put, List.setIfInBounds_toArray, List.set_cons_zero, List.set_cons_succ]
    refine reg_take (v := ?_) 4 (some 32) rfl rfl (by kernel_rfl) (by kernel_rfl) (by kernel_rfl) (fun _ _ _ h => h) (by rfl) (fun W hW => ?_) ?_
    rotate_left
    · (go_simp; try rfl)
    simp only [Act.put, List.setIfInBounds_toArray, List.set_cons_zero, List.set_cons_succ]
    refine reg_eff 5 rfl (by kernel_rfl) (fun K hK => ?_)
    go_simp
    refine (CR.out _ ((ST.out.below B7.out).below HX.out)).mono ?_
    rintro e w8 ⟨g, hg, rfl, hk8, hE⟩
    have C8 := Lib.hid hk8
    have HG := Lib.hid hg
    clear hg hk8
    refine hK.out _ _ hE ?_
    have HX := Lib.hid (Ext.trans HX.out hE)
    clear hE hK K
    try simp only [Act.put, List.setIfInBounds_toArray, List.set_cons_zero, List.set_cons_succ]
    refine reg_take (v := ?_) 6 (some 6) rfl rfl (by kernel_rfl) (by kernel_rfl) (by kernel_rfl) (fun _ _ _ h => h) (by rfl) (fun W hW => ?_) ?_
    rotate_left
    · (go_simp; try rfl)
    simp only [Act.put, List.setIfInBounds_toArray, List.set_cons_zero, List.set_cons_succ]
    refine reg_take (v := ?_) 7 (some 7) rfl rfl (by kernel_rfl) (by kernel_rfl) (by kernel_rfl) (fun _ _ _ h => h) (by rfl) (fun W hW => ?_) ?_
    rotate_left
    · (go_simp; try rfl)
    simp only [Act.put, List.setIfInBounds_toArray, List.set_cons_zero, List.set_cons_succ]
    refine reg_done (by kernel_rfl) ?_
    have B8 : Hid (Below w.heap.size w w8) := B7.out.step HX.out
    go_wp2
    go_ret2
    exact ⟨_, _, rfl, B8.out, ⟨rfl, own_heap C8.out (Nat.le_trans B7.out.size HG.out) HCL.out (by have := hkm.2; unfold maxLen; omega)⟩⟩
theorem callSealE : ∀ args W, (callFunc 16 args).run Try.prog W = .ok (.enter 16 args) W := fun _ _ => by kernel_rfl
theorem callOpenE : ∀ args W, (callFunc 21 args).run Try.prog W = .ok (.enter 21 args) W := fun _ _ => by kernel_rfl
theorem heap_two (w : World) (o1 o2 : Obj) : ((w.alloc o1).alloc o2).heap[w.heap.size]? = some o1 ∧ ((w.alloc o1).alloc o2).heap[w.heap.size + 1]? = some o2 ∧ Below w.heap.size w ((w.alloc o1).alloc o2) := heap2c w o1 o2
set_option maxHeartbeats 2000000 in
theorem aseal_any (key nonce aad x : List UInt8) (A1 A2 A3 A4 : Option Addr) (c1 c2 k3 c3 k4 c4 : Nat) (w : World) (hk : key.length = 32) (hn : nonce.length = 12) (h3 : aad.length = k3) (h4 : x.length = k4) (h31 : k3 ≤ 100000) (h41 : k4 ≤ 100000)
    (S1 : Sl w A1 c1 key) (S2 : Sl w A2 c2 nonce) (S3 : Sl w A3 c3 aad) (S4 : Sl w A4 c4 x) :
    Calls Try.prog 9 #[.slice A1 32 c1, .slice A2 12 c2, .slice A3 k3 c3, .slice A4 k4 c4] w fun e w' =>
      ∃ v, e = .returned (.tuple #[v, .int .i64 0]) ∧ w'.ownsRow w.heap.size 5 1 v (k4 + 16) ((sealE key nonce aad x).map bv) ∧ Below w.heap.size w w' := by
  have G := heap_two w (.cells #[.slice A3 k3 c3] 22) (.cells #[.slice A4 k4 c4] 22)
  have BA : Hid (Calls Try.prog 15 #[.slice A1 32 c1, .slice A2 12 c2, .func (.func 16) #[] #[.pointer (some ⟨w.heap.size + 1, 0, none⟩), .pointer (some ⟨w.heap.size, 0, none⟩)]] ((w.alloc (.cells #[.slice A3 k3 c3] 22)).alloc (.cells #[.slice A4 k4 c4] 22)) fun e w' =>
      ∃ v y, e = .returned (.tuple #[v, .int .i64 y]) ∧ Ext ((w.alloc (.cells #[.slice A3 k3 c3] 22)).alloc (.cells #[.slice A4 k4 c4] 22)) w' ∧ (y = 0 ∧ w'.ownsRow w.heap.size 5 1 v (k4 + 16) ((sealE key nonce aad x).map bv))) := by
    generalize (w.alloc _).alloc _ = W0 at G ⊢
    refine aboth_any 16 _ (fun v y w' => y = 0 ∧ w'.ownsRow w.heap.size 5 1 v (k4 + 16) ((sealE key nonce aad x).map bv)) key nonce A1 A2 c1 c2 W0 hk hn (S1.below G.2.2) (S2.below G.2.2) callSealE fun W hW => ?_
    have hb := G.2.2.step hW
    refine (seal1_any key nonce (w.heap.size + 1) w.heap.size A3 A4 k3 c3 k4 c4 aad x W hk hn h3 h4 h31 h41 (S3.below hb) (S4.below hb) (box_ext G.2.1 hW) (box_ext G.1 hW)).mono ?_
    rintro e w' ⟨v, rfl, hO, hB⟩
    exact ⟨v, 0, rfl, hB, rfl, own_monoE hO hb.size⟩
  have GB := Lib.hid G.2.2
  clear G hk hn h3 h4 S1 S2 S3 S4
  generalize sealE key nonce aad x = R at BA ⊢
  go_enter Try.func9, Try.ntmps9
  go_wp2_with fail
  refine BA.out.mono ?_
  rintro e w' ⟨v, y, rfl, hE, rfl, hO⟩
  have HO := Lib.hid hO
  have HB : Hid (Below w.heap.size w w') := GB.out.step hE
  clear hO hE
  go_wp2
  go_ret2
  exact ⟨_, rfl, HO.out, HB.out⟩
set_option maxHeartbeats 2000000 in
theorem aopen_any (key nonce aad x : List UInt8) (A1 A2 A3 A4 : Option Addr) (c1 c2 k3 c3 k4 c4 m : Nat) (w : World) (hk : key.length = 32) (hn : nonce.length = 12) (h3 : aad.length = k3) (h4 : x.length = k4) (h31 : k3 ≤ 100000) (h41 : k4 ≤ 100000) (hm : k4 = m + 16)
    (S1 : Sl w A1 c1 key) (S2 : Sl w A2 c2 nonce) (S3 : Sl w A3 c3 aad) (S4 : Sl w A4 c4 x) :
    Calls Try.prog 13 #[.slice A1 32 c1, .slice A2 12 c2, .slice A3 k3 c3, .slice A4 k4 c4] w fun e w' =>
      ∃ v y, e = .returned (.tuple #[v, .int .i64 y]) ∧ OpenE w key nonce aad x m v y w' ∧ Below w.heap.size w w' := by
  have G := heap_two w (.cells #[.slice A3 k3 c3] 22) (.cells #[.slice A4 k4 c4] 22)
  have BA : Hid (Calls Try.prog 15 #[.slice A1 32 c1, .slice A2 12 c2, .func (.func 21) #[] #[.pointer (some ⟨w.heap.size + 1, 0, none⟩), .pointer (some ⟨w.heap.size, 0, none⟩)]] ((w.alloc (.cells #[.slice A3 k3 c3] 22)).alloc (.cells #[.slice A4 k4 c4] 22)) fun e w' =>
      ∃ v y, e = .returned (.tuple #[v, .int .i64 y]) ∧ Ext ((w.alloc (.cells #[.slice A3 k3 c3] 22)).alloc (.cells #[.slice A4 k4 c4] 22)) w' ∧ OpenE w key nonce aad x m v y w') := by
    generalize (w.alloc _).alloc _ = W0 at G ⊢
    refine aboth_any 21 _ (fun v y w' => OpenE w key nonce aad x m v y w') key nonce A1 A2 c1 c2 W0 hk hn (S1.below G.2.2) (S2.below G.2.2) callOpenE fun W hW => ?_
    have hb := G.2.2.step hW
    refine (open1_any key nonce (w.heap.size + 1) w.heap.size A3 A4 k3 c3 k4 c4 m aad x W hk hn h3 h4 h31 h41 hm (S3.below hb) (S4.below hb) (box_ext G.2.1 hW) (box_ext G.1 hW)).mono ?_
    rintro e w' ⟨v, y, rfl, hB, hO⟩
    refine ⟨v, y, rfl, hB, ?_⟩
    unfold OpenE at hO ⊢
    split
    · rename_i h; rw [if_pos h] at hO; exact ⟨hO.1, own_monoE hO.2 hb.size⟩
    · rename_i h; rw [if_neg h] at hO; exact hO
  have GB := Lib.hid G.2.2
  clear G hk hn h3 h4 S1 S2 S3 S4 hm
  generalize OpenE w key nonce aad x m = R at BA ⊢
  go_enter Try.func13, Try.ntmps13
  go_wp2_with fail
  refine BA.out.mono ?_
  rintro e w' ⟨v, y, rfl, hE, hO⟩
  have HO := Lib.hid hO
  have HB : Hid (Below w.heap.size w w') := GB.out.step hE
  clear hO hE
  go_wp2
  go_ret2
  exact ⟨_, _, rfl, HO.out, HB.out⟩
end Go.Proofs.Ytcpmfekekidhfaa
