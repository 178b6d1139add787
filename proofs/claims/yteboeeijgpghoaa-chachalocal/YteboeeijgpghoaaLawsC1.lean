/- Laws of layer 4: the example; Crypt twice is what it was. -/
import Derived.Test.YteboeeijgpghoaaCha6
import Derived.Test.YteboeeijgpghoaaLiftK
import Derived.Deep.MidRow
namespace Go.Proofs.Yteboeeijgpghoaa
open Go.RowKit
set_option linter.unusedVariables false
set_option linter.unusedSimpArgs false
theorem quarter_ex (w : World) : Calls Try.prog 10 #[.int .u32 286331153, .int .u32 16909060, .int .u32 2609737539, .int .u32 19088743] w fun e w' =>
    e = .returned (.tuple #[.int .u32 3928658676, .int .u32 3407673550, .int .u32 1166100270, .int .u32 1484899515]) ∧ w = w' := by
  have h := quarter_any 286331153#32 16909060#32 2609737539#32 19088743#32 w
  have e1 : qA 286331153#32 16909060#32 2609737539#32 19088743#32 = 3928658676#32 := by decide +kernel
  have e2 : qB 286331153#32 16909060#32 2609737539#32 19088743#32 = 3407673550#32 := by decide +kernel
  have e3 : qC 286331153#32 16909060#32 2609737539#32 19088743#32 = 1166100270#32 := by decide +kernel
  have e4 : qD 286331153#32 16909060#32 2609737539#32 19088743#32 = 1484899515#32 := by decide +kernel
  rw [e1, e2, e3, e4] at h
  exact h
theorem cawake_any (w : World) : Calls Try.prog 13 #[] w fun e w' => e = .returned (.bool true) ∧ w = w' := by
  have Q := Lib.hid (quarter_ex w)
  go_enter Try.func13, Try.ntmps13
  go_wp2_with fail
  refine Q.out.mono ?_
  rintro e w1 ⟨rfl, rfl⟩
  go_wp2
  go_ret
  exact ⟨rfl, rfl⟩
theorem strOf_beq' (a b : List UInt8) : ((strOf a).toList == (strOf b).toList) = decide (a = b) := by
  have h : ∀ l : List UInt8, (strOf l).toList = l := fun l => by rw [ByteArray.toList_eq]; rfl
  rw [h, h]; rw [Bool.eq_iff_iff]; simp
theorem Sl.ext' {w w' : World} {A : Option Addr} {c : Nat} {bs : List UInt8} (h : Sl w A c bs) (hb : Ext w w') : Sl w' A c bs := h.below hb
theorem xorL_twice (b s : List UInt8) (h : b.length = s.length) : xorL (xorL b s) s = b := by
  unfold xorL
  apply List.ext_getElem
  · simp; omega
  · intro i h1 h2
    simp only [List.getElem_zipWith]
    rw [UInt8.xor_assoc, UInt8.xor_self, UInt8.xor_zero]
theorem crypt_back (key nonce : List UInt8) (n : W32) (b : List UInt8) : cryptC key nonce n (cryptC key nonce n b) = b := by
  have h : cryptC key nonce n (cryptC key nonce n b) = xorL (cryptC key nonce n b) (streamC key nonce n (cryptC key nonce n b).length) := rfl
  rw [h, cryptC_len, cryptC, xorL_twice _ _ (by rw [streamC_len])]
/-- the three fields of a key that came in -/
theorem z_cell {W : World} {g : Nat} {k n : List UInt8} {c : W32} {t : TypeId} {fr : Nat × Nat} (h : W.heap[g]? = some (.cells (zCells k n c).toArray t fr)) (hk : k.length = 32) (hn : n.length = 12) :
    W.rangeAt g 0 (k.map bv) ∧ W.rangeAt g 32 (n.map bv) ∧ W.cell? ⟨g, 44, none⟩ = some (.int .u32 (c.toNat : Int)) := by
  refine ⟨fun j v hv => ?_, fun j v hv => ?_, ?_⟩
  · have hj := (List.getElem?_eq_some_iff.1 hv).1
    rw [cell_of_heap h, zCells, Nat.zero_add, List.getElem?_append_left hj]; exact hv
  · have hj := (List.getElem?_eq_some_iff.1 hv).1
    rw [cell_of_heap h, zCells, List.getElem?_append_right (by simp [hk]), List.length_map, hk, show 32 + j - 32 = j by omega, List.getElem?_append_left hj]; exact hv
  · rw [cell_of_heap h, zCells, List.getElem?_append_right (by simp [hk]), List.length_map, hk, List.getElem?_append_right (by simp [hn]), List.length_map, hn]; rfl
theorem range_ext {W W' : World} {g o : Nat} {cs : List Value} (h : W.rangeAt g o cs) (hg : g < W.heap.size) (hE : Ext W W') : W'.rangeAt g o cs := fun j v hv => (hE.cell hg).trans (h j v hv)
def ZAt (W : World) (g : Nat) (k n : List UInt8) (c : W32) : Prop := g < W.heap.size ∧ W.rangeAt g 0 (k.map bv) ∧ W.rangeAt g 32 (n.map bv) ∧ W.cell? ⟨g, 44, none⟩ = some (.int .u32 (c.toNat : Int))
theorem ZAt.ext {W W' : World} {g : Nat} {k n : List UInt8} {c : W32} (h : ZAt W g k n c) (hE : Ext W W') : ZAt W' g k n c :=
  ⟨Nat.lt_of_lt_of_le h.1 hE.size, range_ext h.2.1 h.1 hE, range_ext h.2.2.1 h.1 hE, (hE.cell h.1).trans h.2.2.2⟩
theorem zat_new (w : World) (k n : List UInt8) (c : W32) (t : TypeId) (hk : k.length = 32) (hn : n.length = 12) : ZAt (w.alloc (.cells (zCells k n c).toArray t)) w.heap.size k n c :=
  ⟨by simp, z_cell (heap_alloc_new' w _) hk hn⟩
theorem i32K' (bs : List UInt8) (h : bs.length = 32) : (Try.prog.info? 22).map (·.size) = some (bs.map bv).length := by rw [List.length_map, h]; exact i32K
theorem i12B' (bs : List UInt8) (h : bs.length = 12) : (Try.prog.info? 23).map (·.size) = some (bs.map bv).length := by rw [List.length_map, h]; exact i12B
set_option maxHeartbeats 4000000 in
theorem chachaBack_walk (w : World) (y : List UInt8 × List UInt8 × BitVec 32) (l : y.1.length = 32 ∧ y.2.1.length = 12) (A : Option Addr) (c : Nat) (b : List UInt8) (h : Sl w A c b) :
    Calls Try.prog 5 #[.agg (zCells y.1 y.2.1 y.2.2).toArray, .slice A b.length c] w fun e w' => e = .returned (.bool true) ∧ Below w.heap.size w w' := by
  obtain ⟨k, n, ct⟩ := y
  obtain ⟨hk, hn⟩ := l
  simp only at hk hn ⊢
  have q1 : b.length ≤ 9223372036854775807 := by have := h.1; have := h.2.1; simp [maxLen] at this; omega
  have HK := Lib.hid hk; have HN := Lib.hid hn; have H := Lib.hid h
  obtain ⟨m, hm⟩ : ∃ m, b.length = m := ⟨_, rfl⟩
  have HM := Lib.hid hm
  rw [hm] at q1 ⊢
  clear hk hn h hm
  obtain ⟨Z, HZ⟩ : ∃ Z, Hid ((zCells k n ct).toArray = Z) := ⟨_, rfl⟩
  rw [HZ.out]
  by_cases hb : 600 < m
  · go_enter Try.func5, Try.ntmps5
    go_wp2
    go_ret
    exact ⟨rfl, (Below.refl _ _).alloc (Nat.le_refl _) _⟩
  have hbb : m ≤ 600 := by omega
  clear hb q1
  have HE := Lib.hid (crypt_back k n ct b)
  have HL : Hid ((cryptC k n ct b).length = m) := by rw [cryptC_len]; exact HM
  have hxx : ((strOf b).toList == (strOf b).toList) = true := by simp
  have C1 := Lib.hid (fun W => crypt_any k n ct A m c b W HK.out HN.out HM.out (by omega))
  generalize cryptC k n ct b = C at HE HL C1
  go_enter Try.func5, Try.ntmps5
  have Z0 := zat_new w k n ct 26 HK.out HN.out
  rw [HZ.out] at Z0
  have R3 := Z0.2.2.2
  have Z0 := Lib.hid Z0
  clear HZ
  go_wp2_with (first
    | (refine wpList_ld rfl 22 (.tmp 9) rfl (run_loadAt_mid _ w.heap.size 0 22 (k.map bv) _ Z0.out.2.1 arr32K rfl (i32K' k HK.out)) ?_)
    | (refine wpList_ld rfl 23 (.tmp 11) rfl (run_loadAt_mid _ w.heap.size 32 23 (n.map bv) _ Z0.out.2.2.1 arr12B rfl (i12B' n HN.out)) ?_))
  clear R3
  generalize hV : w.alloc _ = W0 at Z0 ⊢
  have B0 : Hid (Below w.heap.size w W0) := by rw [← hV]; exact (Below.refl _ _).alloc (Nat.le_refl _) _
  clear hV
  refine (C1.out W0 (H.out.below B0.out)).mono ?_
  rintro e w1 ⟨g1, hg1, rfl, hk1, hb1⟩
  have S1 : Hid (Sl w1 (some ⟨g1, 0, none⟩) m C) := sl_row HL.out (by omega) hk1
  have B1 := Lib.hid (B0.out.step hb1)
  have Z1 := Lib.hid (Z0.out.ext hb1)
  clear hg1 hk1 hb1 Z0 B0 C1
  go_wp2_with fail
  have HX : Hid (Ext w1 w1.drew) := (Below.refl _ _).drew
  refine reg_start (by kernel_rfl) ?_
  try simp only [Act.put, List.setIfInBounds_toArray, List.set_cons_zero, List.set_cons_succ]
  refine reg_take (v := ?_) 0 (some 17) rfl rfl (by kernel_rfl) (by kernel_rfl) (by kernel_rfl) (fun _ _ _ h => h) (by rfl) (fun W hW => ?_) ?_
  rotate_left
  · (go_simp; try rfl)
  simp only [Act.put, List.setIfInBounds_toArray, List.set_cons_zero, List.set_cons_succ]
  refine reg_take (v := ?_) 1 (some 18) rfl rfl (by kernel_rfl) (by kernel_rfl) (by kernel_rfl) (fun _ _ _ h => h) (by rfl) (fun W hW => ?_) ?_
  rotate_left
  · (go_simp; try rfl)
  simp only [Act.put, List.setIfInBounds_toArray, List.set_cons_zero, List.set_cons_succ]
  refine reg_take (v := ?_) 2 (some 19) rfl rfl (by kernel_rfl) (by kernel_rfl) (by kernel_rfl) (fun _ _ _ h => h) (by rfl) (fun W hW => ?_) ?_
  rotate_left
  · (go_simp; try rfl)
  simp only [Act.put, List.setIfInBounds_toArray, List.set_cons_zero, List.set_cons_succ]
  refine reg_take (v := ?_) 3 (some 20) rfl rfl (by kernel_rfl) (by kernel_rfl) (by kernel_rfl) (fun _ _ _ h => h) (by rfl) (fun W hW => ?_) ?_
  rotate_left
  · (go_simp; try rfl)
  simp only [Act.put, List.setIfInBounds_toArray, List.set_cons_zero, List.set_cons_succ]
  refine reg_take (v := ?_) 4 (some 21) rfl rfl (by kernel_rfl) (by kernel_rfl) (by kernel_rfl) (fun _ _ _ h => h) (by rfl) (fun W hW => ?_) ?_
  rotate_left
  · (go_simp; try rfl)
  simp only [Act.put, List.setIfInBounds_toArray, List.set_cons_zero, List.set_cons_succ]
  refine reg_take (v := ?_) 5 (some 22) rfl rfl (by kernel_rfl) (by kernel_rfl) (by kernel_rfl) (fun _ _ _ h => h) (by rfl) (fun W hW => ?_) ?_
  rotate_left
  · (go_simp; try rfl)
  simp only [Act.put, List.setIfInBounds_toArray, List.set_cons_zero, List.set_cons_succ]
  refine reg_take (v := ?_) 6 (some 23) rfl rfl (by kernel_rfl) (by kernel_rfl) (by kernel_rfl) (fun _ _ _ h => h) (by rfl) (fun W hW => ?_) ?_
  rotate_left
  · (go_simp; try rfl)
  simp only [Act.put, List.setIfInBounds_toArray, List.set_cons_zero, List.set_cons_succ]
  refine reg_load 7 (some 24) (fun W hW => run_loadAt_mid W w.heap.size 0 22 (k.map bv) _ (Z1.out.ext (HX.out.trans hW)).2.1 arr32K rfl (i32K' k HK.out)) rfl rfl rfl rfl (by kernel_rfl) (by kernel_rfl) (by kernel_rfl) (fun _ _ _ h => h) (by rfl) ?_
  simp only [Act.put, List.setIfInBounds_toArray, List.set_cons_zero, List.set_cons_succ]
  refine reg_take (v := ?_) 8 (some 25) rfl rfl (by kernel_rfl) (by kernel_rfl) (by kernel_rfl) (fun _ _ _ h => h) (by rfl) (fun W hW => ?_) ?_
  rotate_left
  · (go_simp; try rfl)
  simp only [Act.put, List.setIfInBounds_toArray, List.set_cons_zero, List.set_cons_succ]
  refine reg_load 9 (some 26) (fun W hW => run_loadAt_mid W w.heap.size 32 23 (n.map bv) _ (Z1.out.ext (HX.out.trans hW)).2.2.1 arr12B rfl (i12B' n HN.out)) rfl rfl rfl rfl (by kernel_rfl) (by kernel_rfl) (by kernel_rfl) (fun _ _ _ h => h) (by rfl) ?_
  simp only [Act.put, List.setIfInBounds_toArray, List.set_cons_zero, List.set_cons_succ]
  refine reg_take (v := ?_) 10 (some 27) rfl rfl (by kernel_rfl) (by kernel_rfl) (by kernel_rfl) (fun _ _ _ h => h) (by rfl) (fun W hW => ?_) ?_
  rotate_left
  · (go_simp; try rfl)
  simp only [Act.put, List.setIfInBounds_toArray, List.set_cons_zero, List.set_cons_succ]
  refine reg_load 11 (some 28) (fun W hW => load_cell Try.underlying24 (Z1.out.ext (HX.out.trans hW)).2.2.2) rfl rfl rfl rfl (by kernel_rfl) (by kernel_rfl) (by kernel_rfl) (fun _ _ _ h => h) (by rfl) ?_
  simp only [Act.put, List.setIfInBounds_toArray, List.set_cons_zero, List.set_cons_succ]
  refine reg_take (v := ?_) 12 (some 29) rfl rfl (by kernel_rfl) (by kernel_rfl) (by kernel_rfl) (fun _ _ _ h => h) (by rfl) (fun W hW => ?_) ?_
  rotate_left
  · (go_simp; try rfl)
  simp only [Act.put, List.setIfInBounds_toArray, List.set_cons_zero, List.set_cons_succ]
  refine reg_take (v := ?_) 15 (some 32) rfl rfl (by kernel_rfl) (by kernel_rfl) (by kernel_rfl) (fun _ _ _ h => h) (by rfl) (fun W hW => ?_) ?_
  rotate_left
  · (go_simp; try rfl)
  simp only [Act.put, List.setIfInBounds_toArray, List.set_cons_zero, List.set_cons_succ]
  refine reg_conv 16 (some 33) (fun W hW => conv_string W A m c b HM.out ((H.out.below B1.out).ext' (HX.out.trans hW))) rfl rfl rfl rfl (by kernel_rfl) (by kernel_rfl) (by kernel_rfl) (fun _ _ _ h => h) (by rfl) ?_
  simp only [Act.put, List.setIfInBounds_toArray, List.set_cons_zero, List.set_cons_succ]
  refine reg_eff 13 rfl (by kernel_rfl) (fun K hK => ?_)
  go_simp
  refine (crypt_any k n ct (some ⟨g1, 0, none⟩) m m C _ HK.out HN.out HL.out (by omega) (S1.out.ext' HX.out)).mono ?_
  rw [HE.out]
  rintro e w2 ⟨g2, hg2, rfl, hk2, hE⟩
  have S2 : Hid (Sl w2 (some ⟨g2, 0, none⟩) m b) := sl_row HM.out (by omega) hk2
  clear hg2 hk2
  refine hK.out _ _ hE ?_
  have HX := Lib.hid (Ext.trans HX.out hE)
  clear hE hK K
  try simp only [Act.put, List.setIfInBounds_toArray, List.set_cons_zero, List.set_cons_succ]
  refine reg_conv 14 (some 31) (fun W hW => conv_string W (some ⟨g2, 0, none⟩) m m b HM.out (S2.out.ext' hW)) rfl rfl rfl rfl (by kernel_rfl) (by kernel_rfl) (by kernel_rfl) (fun _ _ _ h => h) (by rfl) ?_
  simp only [Act.put, List.setIfInBounds_toArray, List.set_cons_zero, List.set_cons_succ]
  refine reg_take (v := ?_) 17 (some 34) rfl rfl (by kernel_rfl) (by kernel_rfl) (by kernel_rfl) (fun _ _ _ h => h) (by rfl) (fun W hW => ?_) ?_
  rotate_left
  · (go_simp; try rfl)
  simp only [Act.put, List.setIfInBounds_toArray, List.set_cons_zero, List.set_cons_succ]
  refine reg_take (v := ?_) 18 (some 35) rfl rfl (by kernel_rfl) (by kernel_rfl) (by kernel_rfl) (fun _ _ _ h => h) (by rfl) (fun W hW => ?_) ?_
  rotate_left
  · (go_simp; try rfl)
  simp only [Act.put, List.setIfInBounds_toArray, List.set_cons_zero, List.set_cons_succ]
  refine reg_take (v := ?_) 19 (some 36) rfl rfl (by kernel_rfl) (by kernel_rfl) (by kernel_rfl) (fun _ _ _ h => h) (by rfl) (fun W hW => ?_) ?_
  rotate_left
  · (go_simp; try rfl)
  simp only [Act.put, List.setIfInBounds_toArray, List.set_cons_zero, List.set_cons_succ]
  refine reg_eff 20 rfl (by kernel_rfl) (fun K hK => ?_)
  go_simp
  refine (cawake_any _).mono ?_
  rintro e w3 ⟨rfl, rfl⟩
  have hE : Ext w2 w2 := Ext.refl _
  refine hK.out _ _ hE ?_
  have HX := Lib.hid (Ext.trans HX.out hE)
  clear hE hK K
  try simp only [Act.put, List.setIfInBounds_toArray, List.set_cons_zero, List.set_cons_succ]
  refine reg_take (v := ?_) 21 (some 38) rfl rfl (by kernel_rfl) (by kernel_rfl) (by kernel_rfl) (fun _ _ _ h => h) (by rfl) (fun W hW => ?_) ?_
  rotate_left
  · (go_simp; try rfl)
  simp only [Act.put, List.setIfInBounds_toArray, List.set_cons_zero, List.set_cons_succ]
  refine reg_take (v := ?_) 22 (some 4) rfl rfl (by kernel_rfl) (by kernel_rfl) (by kernel_rfl) (fun _ _ _ h => h) (by rfl) (fun W hW => ?_) ?_
  rotate_left
  · (go_simp; try rfl)
  simp only [Act.put, List.setIfInBounds_toArray, List.set_cons_zero, List.set_cons_succ]
  refine reg_done (by kernel_rfl) ?_
  go_wp2
  go_ret
  exact ⟨rfl, B1.out.step HX.out⟩
end Go.Proofs.Yteboeeijgpghoaa
