/- Layer 10's laws' own awake; what was sealed is opened. -/
import Derived.Test.YtkgbhlppadpdfaaGcm7
namespace Go.Proofs.Ytkgbhlppadpdfaa
open Go.RowKit
set_option maxRecDepth 100000
set_option linter.unusedVariables false
set_option linter.unusedSimpArgs false
theorem slX_none (W : World) : Sl W none 0 [] := ⟨by simp, by simp [maxLen], .inl rfl⟩
theorem getD_take4 (X : List UInt8) (h : X.take 4 = [88, 226, 252, 206]) : X.getD 0 0 = 88 ∧ X.getD 1 0 = 226 ∧ X.getD 2 0 = 252 ∧ X.getD 3 0 = 206 := by
  have e : ∀ i, i < 4 → X.getD i 0 = ([88, 226, 252, 206] : List UInt8).getD i 0 := fun i hi => by
    rw [← h, List.getD_eq_getElem?_getD, List.getD_eq_getElem?_getD, List.getElem?_take_of_lt hi]
  exact ⟨e 0 (by decide), e 1 (by decide), e 2 (by decide), e 3 (by decide)⟩
set_option maxHeartbeats 4000000 in
theorem awake10_any (w : World) : Calls Try.prog 14 #[] w fun e w' => e = .returned (.bool true) ∧ Below w.heap.size w w' := by
  have hmk1 : ∀ W, (Instr.makeSlice 23 (.int .i64 16) (.int .i64 16)).run Try.prog W = .ok (.slice (some ⟨W.heap.size, 0, none⟩) 16 16) (W.alloc (.cells (z16.map bv).toArray 5)) := fun W => by
    rw [z16, List.map_replicate]; exact make_run (P := Try.prog) uT made8 rfl .i64 .i64 16 (by omega) (by omega) W
  have hmk2 : ∀ W, (Instr.makeSlice 23 (.int .i64 12) (.int .i64 12)).run Try.prog W = .ok (.slice (some ⟨W.heap.size, 0, none⟩) 12 12) (W.alloc (.cells (z12.map bv).toArray 5)) := fun W => by
    rw [z12, List.map_replicate]; exact make_run (P := Try.prog) uT made8 rfl .i64 .i64 12 (by omega) (by omega) W
  have L1 : Hid (z16.length = 16) := List.length_replicate
  have L2 : Hid (z12.length = 12) := List.length_replicate
  have EX := Lib.hid (fun A W S => expand_any A 16 16 4 z16 W L1.out rfl (.inl rfl) S)
  have SE := Lib.hid (fun g A2 W hE S2 => gseal_any g (encL (expandL z16) 10) z12 [] [] A2 none none 12 12 0 0 0 0 W hE L2.out (by omega) (by omega) rfl rfl (by omega) (by omega) S2 (slX_none W) (slX_none W))
  obtain ⟨x0, x1, x2, x3⟩ := getD_take4 _ seal_empty
  have HX0 := Lib.hid x0; have HX1 := Lib.hid x1; have HX2 := Lib.hid x2; have HX3 := Lib.hid x3
  clear x0 x1 x2 x3
  generalize sealG (encL (expandL z16) 10) (firstG (encL (expandL z16) 10) z12) [] [] = X at SE HX0 HX1 HX2 HX3
  generalize expandL z16 = ws at EX SE
  generalize z16 = Z1 at hmk1 L1 EX
  generalize z12 = Z2 at hmk2 L2 SE
  go_enter Try.func14, Try.ntmps14
  go_wp2_with fail
  have N1 := Lib.hid (heap_alloc_new' w (.cells (Z1.map bv).toArray 5))
  have B0 : Hid (Below w.heap.size w (w.alloc (.cells (Z1.map bv).toArray 5))) := (Below.refl _ _).alloc (Nat.le_refl _) _
  generalize w.alloc _ = W0 at N1 B0 ⊢
  refine (EX.out _ W0 (sl_row L1.out (by omega) N1.out)).mono ?_
  rintro e w1 ⟨g, rfl, _, hK, hb⟩
  have K1 := Lib.hid (KeyAt.gkey hK (by omega) (by omega))
  have B1 : Hid (Below w.heap.size w w1) := B0.out.step hb
  clear hK hb N1 EX B0
  go_wp2_with fail
  have N2 := Lib.hid (heap_alloc_new' w1 (.cells (Z2.map bv).toArray 5))
  have E2 : Hid (Ext w1 (w1.alloc (.cells (Z2.map bv).toArray 5))) := (Below.refl _ _).alloc (Nat.le_refl _) _
  generalize w1.alloc _ = W2 at N2 E2 ⊢
  refine (SE.out g _ W2 (K1.out.ext E2.out) (sl_row L2.out (by omega) N2.out)).mono ?_
  rintro e w3 ⟨v, rfl, hO, hb⟩
  have B3 : Hid (Below w.heap.size w w3) := (B1.out.step E2.out).step hb
  obtain ⟨g5, cap, cur, rfl, _, _, hS5, _⟩ := o_open hO (by omega)
  have hl5 : X.length = 16 := by have := hO.1; simpa using this
  have c0 := o_sl_cell hS5 (k := 0) (by omega)
  have c1 := o_sl_cell hS5 (k := 1) (by omega)
  have c2 := o_sl_cell hS5 (k := 2) (by omega)
  have c3 := o_sl_cell hS5 (k := 3) (by omega)
  rw [HX0.out] at c0
  rw [HX1.out] at c1
  rw [HX2.out] at c2
  rw [HX3.out] at c3
  clear hO hS5 hb SE B1 K1 N2 E2 hl5 hmk1 hmk2
  have t0 : ((88 : UInt8).toNat : Int) = 88 := rfl
  have t1 : ((226 : UInt8).toNat : Int) = 226 := rfl
  have t2 : ((252 : UInt8).toNat : Int) = 252 := rfl
  have t3 : ((206 : UInt8).toNat : Int) = 206 := rfl
  rw [t0] at c0
  rw [t1] at c1
  rw [t2] at c2
  rw [t3] at c3
  go_wp2
  go_ret
  exact ⟨rfl, B3.out⟩
/-- what was sealed is opened to what it was -/
theorem openG_seal {w w' : World} {E : List UInt8 → List UInt8} {F aad b : List UInt8} {m : Nat} {v : Value} {y : Int} (hm : b.length = m) (h : OpenG w E F aad (sealG E F aad b) m v y w') :
    y = 0 ∧ w'.ownsRow w.heap.size 5 1 v m (b.map bv) := by
  have hl : (gcL E F b).length = m := by rw [gcL_len]; exact hm
  have e1 : (sealG E F aad b).take m = gcL E F b := by rw [sealG, List.take_left' hl]
  have e2 : (sealG E F aad b).drop m = tagG E F aad (gcL E F b) := by rw [sealG, List.drop_left' hl]
  unfold OpenG at h
  rw [e1, e2, if_pos rfl] at h
  have hb : gcL E F (gcL E F b) = b := ctrL_back _ _ _
  rw [hb] at h
  exact h
end Go.Proofs.Ytkgbhlppadpdfaa
