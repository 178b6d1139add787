/- Package hmac: turned, block, New. -/
import Derived.Test.YtfcnahbbieldfaaDoorRep
import Derived.Test.YtfcnahbbieldfaaDoorSha15
import Derived.Test.YtfcnahbbieldfaaDoorSha11
namespace Go.Proofs.YtfcnahbbieldfaaDoor
open Go.RowKit
set_option maxRecDepth 100000
set_option linter.unusedVariables false
set_option linter.unusedSimpArgs false
/-- the key's block, each byte turned -/
def twistL (K : List UInt8) (b : UInt8) : List UInt8 := xorL K (List.replicate 64 b)
theorem Sl.extk {w w' : World} {A : Option Addr} {c : Nat} {bs : List UInt8} (h : Sl w A c bs) (hb : Ext w w') : Sl w' A c bs := h.below hb
theorem twistL_len (K : List UInt8) (b : UInt8) (h : K.length = 64) : (twistL K b).length = 64 := by rw [twistL, xorL_len, h]; simp
/-- a key's block -/
def keyOf (key : List UInt8) : List UInt8 := if 64 < key.length then sumL key else key
def hblockL (key : List UInt8) : List UInt8 := keyOf key ++ List.replicate (64 - (keyOf key).length) 0
theorem keyOf_len (key : List UInt8) : (keyOf key).length ≤ 64 := by
  unfold keyOf
  split
  · rw [sumL_len]; omega
  · omega
theorem hblockL_len (key : List UInt8) : (hblockL key).length = 64 := by have := keyOf_len key; simp [hblockL]; omega
set_option maxHeartbeats 1000000 in
theorem turned_any (K : List UInt8) (b : UInt8) (w : World) (hK : K.length = 64) :
    Calls Tryd.prog 25 #[.agg (K.map bv).toArray, .int .u8 (b.toNat : Int)] w fun e w' => ∃ g, w.heap.size ≤ g ∧ e = .returned (.slice (some ⟨g, 0, none⟩) 64 64) ∧ w'.heap[g]? = some (.cells ((twistL K b).map bv).toArray 5 (0, 0)) ∧ Below w.heap.size w w' := by
  have HK := Lib.hid hK
  have ar := arr_all arr64B s8 ⟨w.heap.size, 0, none⟩
  have F0 := Lib.hid (heap_alloc_new' w (.cells (K.map bv).toArray 22))
  have HB0 := Lib.hid ((Below.refl w.heap.size w).alloc (Nat.le_refl _) (.cells (K.map bv).toArray 22))
  have HTL := Lib.hid (twistL_len K b hK)
  obtain ⟨R, hR⟩ : ∃ R, R = List.replicate 64 b := ⟨_, rfl⟩
  have HRL : Hid (R.length = 64) := by show _ = _; rw [hR]; exact List.length_replicate
  have HT : Hid (twistL K b = xorL K R) := by show _ = _; rw [hR]; rfl
  have RP := Lib.hid (fun A c W (hS : Sl W A c [b]) => (rep_any A c b 64 W (by omega) (by omega) hS : Calls Tryd.prog 32 #[.slice A 1 c, .int .i64 64] W _))
  rw [← hR] at RP
  clear hK hR
  have XN := Lib.hid (fun (A : Option Addr) (c : Nat) (W : World) (h : Sl W (some ⟨w.heap.size, 0, none⟩) 64 K) (h' : Sl W A c R) => xor_n (some ⟨w.heap.size, 0, none⟩) A 64 64 64 64 c K R W HK.out HRL.out rfl h h' (by omega) (by omega))
  rw [HT.out] at HTL ⊢
  generalize xorL K R = T at XN HTL ⊢
  go_enter Tryd.func25, Tryd.ntmps25
  go_upto_region 1 with (fail)
  generalize hV : w.alloc _ = W0 at F0 HB0 ⊢
  clear hV
  have S0 := Lib.hid (sl_row HK.out (by omega) F0.out)
  have HX : Hid (Ext W0 W0.drew) := (Below.refl _ _).drew
  refine reg_start (by kernel_rfl) ?_
  try simp only [Act.put, List.setIfInBounds_toArray, List.set_cons_zero, List.set_cons_succ]
  generalize W0.drew = W1 at HX ⊢
  refine reg_take (v := ?_) 0 (some 5) rfl rfl (by kernel_rfl) (by kernel_rfl) (by kernel_rfl) (fun _ _ _ h => h) (by rfl) (fun W hW => ?_) ?_
  rotate_left
  · (go_simp; try rfl)
  simp only [Act.put, List.setIfInBounds_toArray, List.set_cons_zero, List.set_cons_succ]
  refine reg_take (v := ?_) 1 (some 6) rfl rfl (by kernel_rfl) (by kernel_rfl) (by kernel_rfl) (fun _ _ _ h => h) (by rfl) (fun W hW => ?_) ?_
  rotate_left
  · (go_simp; try rfl)
  simp only [Act.put, List.setIfInBounds_toArray, List.set_cons_zero, List.set_cons_succ]
  refine reg_eff 2 rfl (by kernel_rfl) (fun K hK => ?_)
  go_simp
  have hE : Ext W1 (W1.alloc (.cells #[.int .u8 (b.toNat : Int)] 5)) := (Below.refl _ _).alloc (Nat.le_refl _) _
  have S1 : Hid (Sl (W1.alloc (.cells #[.int .u8 (b.toNat : Int)] 5)) (some ⟨W1.heap.size, 0, none⟩) 1 [b]) := sl_row (bs := [b]) rfl (by omega) (heap_alloc_new' W1 (.cells ([b].map bv).toArray 5))
  generalize W1.alloc _ = W2 at hE S1 ⊢
  refine hK.out _ _ hE ?_
  have HX := Lib.hid (Ext.trans HX.out hE)
  clear hE hK K
  try simp only [Act.put, List.setIfInBounds_toArray, List.set_cons_zero, List.set_cons_succ]
  refine reg_eff 3 rfl (by kernel_rfl) (fun K hK => ?_)
  go_simp
  refine (RP.out _ _ _ S1.out).mono ?_
  rintro e w5 ⟨rfl, hS5, hE⟩
  have S5 := Lib.hid hS5
  clear hS5
  refine hK.out _ _ hE ?_
  have HX := Lib.hid (Ext.trans HX.out hE)
  clear hE hK K
  try simp only [Act.put, List.setIfInBounds_toArray, List.set_cons_zero, List.set_cons_succ]
  refine reg_eff 4 rfl (by kernel_rfl) (fun K hK => ?_)
  go_simp
  refine (XN.out _ _ _ (S0.out.extk HX.out) S5.out).mono ?_
  rintro e w6 ⟨g6, hg6, rfl, hk6, hE⟩
  have F6 := Lib.hid hk6
  have G6 : Hid (w.heap.size ≤ g6) := Nat.le_trans (HB0.out.trans (HX.out.mono HB0.out.size)).size hg6
  clear hk6 hg6
  refine hK.out _ _ hE ?_
  have HX := Lib.hid (Ext.trans HX.out hE)
  clear hE hK K
  try simp only [Act.put, List.setIfInBounds_toArray, List.set_cons_zero, List.set_cons_succ]
  refine reg_take (v := ?_) 5 (some 4) rfl rfl (by kernel_rfl) (by kernel_rfl) (by kernel_rfl) (fun _ _ _ h => h) (by rfl) (fun W hW => ?_) ?_
  rotate_left
  · (go_simp; try rfl)
  simp only [Act.put, List.setIfInBounds_toArray, List.set_cons_zero, List.set_cons_succ]
  refine reg_done (by kernel_rfl) ?_
  go_wp2
  go_ret
  exact ⟨g6, G6.out, rfl, F6.out, HB0.out.step HX.out⟩
end Go.Proofs.YtfcnahbbieldfaaDoor
