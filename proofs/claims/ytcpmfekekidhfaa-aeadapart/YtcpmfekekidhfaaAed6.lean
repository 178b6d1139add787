/- Layer 11's laws' own functions: short, wrong, awake. -/
import Derived.Test.YtcpmfekekidhfaaAed5
import Derived.Test.YtcpmfekekidhfaaLiftE
namespace Go.Proofs.Ytcpmfekekidhfaa
open Go.RowKit
set_option linter.unusedVariables false
set_option linter.unusedSimpArgs false
set_option maxRecDepth 100000
theorem keyE_cells {W : World} {g : Nat} {y : KeyE} {t : TypeId} {fr : Nat × Nat} (h : W.heap[g]? = some (.cells y.cells.toArray t fr)) :
    W.cell? ⟨g, 0, none⟩ = some (.slice y.A1 y.k.length y.c1) ∧ W.cell? ⟨g, 1, none⟩ = some (.slice y.A2 y.n.length y.c2) ∧ W.cell? ⟨g, 2, none⟩ = some (.slice y.A3 y.a.length y.c3) := by
  refine ⟨?_, ?_, ?_⟩ <;> rw [cell_of_heap h] <;> rfl
def shortB (y : KeyE) : Bool := decide (y.k.length ≤ 100) && (decide (y.n.length ≤ 100) && decide (y.a.length ≤ 200))
def wrongB (y : KeyE) : Int := if y.k.length = 32 then (if y.n.length = 12 then 0 else 6) else 5
set_option maxHeartbeats 1000000 in
theorem eshort_any (y : KeyE) (w : World) : Calls Try.prog 8 #[.agg y.cells.toArray] w fun e w' => e = .returned (.bool (shortB y)) ∧ Below w.heap.size w w' := by
  have H := keyE_cells (heap_alloc_new' w (.cells y.cells.toArray 24))
  have HB : Hid (Below w.heap.size w (w.alloc (.cells y.cells.toArray 24))) := (Below.refl _ _).alloc (Nat.le_refl _) _
  unfold shortB
  generalize y.cells.toArray = Z at H HB ⊢
  generalize y.k.length = n1 at H ⊢
  generalize y.n.length = n2 at H ⊢
  generalize y.a.length = n3 at H ⊢
  obtain ⟨h1, h2, h3⟩ := H
  rcases Nat.lt_or_ge 100 n1 with q1 | q1
  · have e1 : decide (n1 ≤ 100) = false := by simp; omega
    rw [e1, Bool.false_and]
    have i1 : ¬ ((n1 : Int) ≤ 100) := by omega
    clear e1
    go_enter Try.func8, Try.ntmps8
    go_wp2
    go_ret
    exact ⟨rfl, HB.out⟩
  · have e1 : decide (n1 ≤ 100) = true := by simp; omega
    have i1 : ((n1 : Int) ≤ 100) := by omega
    rw [e1, Bool.true_and]
    clear e1
    rcases Nat.lt_or_ge 100 n2 with q2 | q2
    · have e2 : decide (n2 ≤ 100) = false := by simp; omega
      have i2 : ¬ ((n2 : Int) ≤ 100) := by omega
      rw [e2, Bool.false_and]
      clear e2
      go_enter Try.func8, Try.ntmps8
      go_wp2
      go_ret
      exact ⟨rfl, HB.out⟩
    · have e2 : decide (n2 ≤ 100) = true := by simp; omega
      have i2 : ((n2 : Int) ≤ 100) := by omega
      rw [e2, Bool.true_and]
      clear e2
      rcases Nat.lt_or_ge 200 n3 with q3 | q3
      · have e3 : decide (n3 ≤ 200) = false := by simp; omega
        have i3 : ¬ ((n3 : Int) ≤ 200) := by omega
        rw [e3]
        clear e3
        go_enter Try.func8, Try.ntmps8
        go_wp2
        go_ret
        exact ⟨rfl, HB.out⟩
      · have e3 : decide (n3 ≤ 200) = true := by simp; omega
        have i3 : ((n3 : Int) ≤ 200) := by omega
        rw [e3]
        clear e3
        go_enter Try.func8, Try.ntmps8
        go_wp2
        go_ret
        exact ⟨rfl, HB.out⟩
set_option maxHeartbeats 1000000 in
theorem ewrong_any (y : KeyE) (w : World) : Calls Try.prog 10 #[.agg y.cells.toArray] w fun e w' => e = .returned (.int .i64 (wrongB y)) ∧ Below w.heap.size w w' := by
  have H := keyE_cells (heap_alloc_new' w (.cells y.cells.toArray 24))
  have HB : Hid (Below w.heap.size w (w.alloc (.cells y.cells.toArray 24))) := (Below.refl _ _).alloc (Nat.le_refl _) _
  unfold wrongB
  generalize y.cells.toArray = Z at H HB ⊢
  generalize y.k.length = n1 at H ⊢
  generalize y.n.length = n2 at H ⊢
  obtain ⟨h1, h2, h3⟩ := H
  by_cases q1 : n1 = 32
  · have i1 : ((n1 : Int) != 32) = false := by simp; omega
    rw [if_pos q1]
    by_cases q2 : n2 = 12
    · have i2 : ((n2 : Int) != 12) = false := by simp; omega
      rw [if_pos q2]
      clear q1 q2
      go_enter Try.func10, Try.ntmps10
      go_wp2
      go_ret
      exact ⟨rfl, HB.out⟩
    · have i2 : ((n2 : Int) != 12) = true := by simp; omega
      rw [if_neg q2]
      clear q1 q2
      go_enter Try.func10, Try.ntmps10
      go_wp2
      go_ret
      exact ⟨rfl, HB.out⟩
  · have i1 : ((n1 : Int) != 32) = true := by simp; omega
    rw [if_neg q1]
    clear q1
    go_enter Try.func10, Try.ntmps10
    go_wp2
    go_ret
    exact ⟨rfl, HB.out⟩
def z32 : List UInt8 := List.replicate 32 0
def z12 : List UInt8 := List.replicate 12 0
/-- two new rows -/
def Two12 (Z1 Z2 : List UInt8) (v1 v2 : Value) (W : World) : Prop := ∃ p1 p2, v1 = .slice (some ⟨p1, 0, none⟩) 32 32 ∧ v2 = .slice (some ⟨p2, 0, none⟩) 12 12 ∧ W.heap[p1]? = some (.cells (Z1.map bv).toArray 5 (0, 0)) ∧ W.heap[p2]? = some (.cells (Z2.map bv).toArray 5 (0, 0))
theorem heap_keep' {w : World} {g : Nat} {o : Obj} (h : w.heap[g]? = some o) (o' : Obj) : (w.alloc o').heap[g]? = some o := (((Below.refl w.heap.size w).alloc (Nat.le_refl _) o').block _ (lt_of_heap h)).trans h
theorem size_of_below {B : Nat} {w w' : World} (h : Below B w w') (hB : B ≤ w.heap.size) : w.heap.size ≤ w'.heap.size := h.size
theorem sl_none (W : World) : Sl W none 0 [] := ⟨by simp, by simp [maxLen], .inl rfl⟩
/-- what was sealed is opened to what it was -/
theorem openE_seal {w w' : World} {key nonce aad b : List UInt8} {m : Nat} {v : Value} {y : Int} (hm : b.length = m) (h : OpenE w key nonce aad (sealE key nonce aad b) m v y w') :
    y = 0 ∧ w'.ownsRow w.heap.size 5 1 v m (b.map bv) := by
  have hl : (cryptC key nonce 1#32 b).length = m := by rw [cryptC_len]; exact hm
  have e1 : (sealE key nonce aad b).take m = cryptC key nonce 1#32 b := by rw [sealE, List.take_left' hl]
  have e2 : (sealE key nonce aad b).drop m = tagL key nonce aad (cryptC key nonce 1#32 b) := by rw [sealE, List.drop_left' hl]
  unfold OpenE at h
  rw [e1, e2, if_pos rfl, crypt_back] at h
  exact h
set_option maxHeartbeats 4000000 in
theorem awake11_any (w : World) : Calls Try.prog 11 #[] w fun e w' => e = .returned (.bool true) ∧ Below w.heap.size w w' := by
  have hmk1 : ∀ W, (Instr.makeSlice 22 (.int .i64 32) (.int .i64 32)).run Try.prog W = .ok (.slice (some ⟨W.heap.size, 0, none⟩) 32 32) (W.alloc (.cells (z32.map bv).toArray 5)) := fun W => by
    rw [z32, List.map_replicate]; exact make_run (P := Try.prog) uT made8 rfl .i64 .i64 32 (by omega) (by omega) W
  have hmk2 : ∀ W, (Instr.makeSlice 22 (.int .i64 12) (.int .i64 12)).run Try.prog W = .ok (.slice (some ⟨W.heap.size, 0, none⟩) 12 12) (W.alloc (.cells (z12.map bv).toArray 5)) := fun W => by
    rw [z12, List.map_replicate]; exact make_run (P := Try.prog) uT made8 rfl .i64 .i64 12 (by omega) (by omega) W
  have L1 : Hid (z32.length = 32) := List.length_replicate
  have L2 : Hid (z12.length = 12) := List.length_replicate
  have SE := Lib.hid (fun A1 A2 W S1 S2 => aseal_any z32 z12 [] [] A1 A2 none none 32 12 0 0 0 0 W L1.out L2.out rfl rfl (by omega) (by omega) S1 S2 (sl_none W) (sl_none W))
  have OP := Lib.hid (fun A1 A2 A c W S1 S2 S => aopen_any z32 z12 [] (sealE z32 z12 [] []) A1 A2 none A 32 12 0 0 16 c 0 W L1.out L2.out rfl (sealE_len _ _ _ _) (by omega) (by omega) rfl S1 S2 (sl_none W) S)
  have OS := Lib.hid (fun w w' v y h => openE_seal (w := w) (w' := w') (key := z32) (nonce := z12) (aad := []) (b := []) (v := v) (y := y) rfl h)
  generalize OpenE = OE at OP OS
  generalize sealE z32 z12 [] [] = X at SE OP OS
  generalize z32 = Z1 at hmk1 L1 SE OP OS
  generalize z12 = Z2 at hmk2 L2 SE OP OS
  go_enter Try.func11, Try.ntmps11
  go_upto_region 1 with (fail)
  have BX : Hid (Below w.heap.size w w.drew) := (Below.refl _ _).drew
  have HS0 : Hid (w.heap.size ≤ w.drew.heap.size) := Nat.le_refl _
  refine regB_start (w.heap.size) (by kernel_rfl) ?_
  try simp only [Act.put, List.setIfInBounds_toArray, List.set_cons_zero, List.set_cons_succ]
  generalize w.drew = WD at BX HS0 ⊢
  refine regB_join 0 1 6 7 (fun v1 v2 W => Two12 Z1 Z2 v1 v2 W) rfl rfl (by decide) (by decide) (by kernel_rfl) (by kernel_rfl) (by kernel_rfl) (fun K hK => ?_) (fun K hK => ?_) ?_
  · unfold Does
    go_simp
    have N1 := heap_alloc_new' WD (.cells (Z1.map bv).toArray 5)
    have E1 : Below w.heap.size WD (WD.alloc (.cells (Z1.map bv).toArray 5)) := (Below.refl _ WD).alloc HS0.out _
    have S1 : w.heap.size ≤ (WD.alloc (.cells (Z1.map bv).toArray 5)).heap.size := by have := HS0.out; simp; omega
    refine hK.out (.slice (some ⟨WD.heap.size, 0, none⟩) 32 32) _ E1 fun K2 hK2 => ?_
    generalize WD.alloc (.cells (Z1.map bv).toArray 5) = W1 at N1 E1 S1 hK2 ⊢
    unfold Does
    go_simp
    exact hK2.out (.slice (some ⟨W1.heap.size, 0, none⟩) 12 12) _ ((Below.refl _ W1).alloc S1 _) ⟨_, _, rfl, rfl, heap_keep' N1 _, heap_alloc_new' W1 _⟩
  · unfold Does
    go_simp
    have N1 := heap_alloc_new' WD (.cells (Z2.map bv).toArray 5)
    have E1 : Below w.heap.size WD (WD.alloc (.cells (Z2.map bv).toArray 5)) := (Below.refl _ WD).alloc HS0.out _
    have S1 : w.heap.size ≤ (WD.alloc (.cells (Z2.map bv).toArray 5)).heap.size := by have := HS0.out; simp; omega
    refine hK.out (.slice (some ⟨WD.heap.size, 0, none⟩) 12 12) _ E1 fun K2 hK2 => ?_
    generalize WD.alloc (.cells (Z2.map bv).toArray 5) = W1 at N1 E1 S1 hK2 ⊢
    unfold Does
    go_simp
    exact hK2.out (.slice (some ⟨W1.heap.size, 0, none⟩) 32 32) _ ((Below.refl _ W1).alloc S1 _) ⟨_, _, rfl, rfl, heap_alloc_new' W1 _, heap_keep' N1 _⟩
  rintro v1 v2 w5 hE ⟨p1, p2, rfl, rfl, h1, h2⟩
  have HX := Lib.hid hE
  have P1 := Lib.hid (sl_row L1.out (by omega) h1)
  have P2 := Lib.hid (sl_row L2.out (by omega) h2)
  have HS5 : Hid (w.heap.size ≤ w5.heap.size) := Nat.le_trans HS0.out (size_of_below hE HS0.out)
  clear hE h1 h2
  simp only [Act.put, List.setIfInBounds_toArray, List.set_cons_zero, List.set_cons_succ]
  refine regB_eff 2 rfl (by kernel_rfl) (fun K hK => ?_)
  go_simp
  refine (SE.out _ _ w5 P1.out P2.out).mono ?_
  rintro e w6 ⟨v, rfl, hO, hB⟩
  have HO := Lib.hid hO
  have hE := hB.mono HS5.out
  clear hO hB
  refine hK.out _ _ hE ?_
  have HX := Lib.hid (Below.trans HX.out hE)
  clear hE hK K
  try simp only [Act.put, List.setIfInBounds_toArray, List.set_cons_zero, List.set_cons_succ]
  refine regB_take (v := ?_) 3 (some 5) rfl rfl (by kernel_rfl) (by kernel_rfl) (by kernel_rfl) (fun _ _ _ h => h) (by rfl) (fun W hW => ?_) ?_
  rotate_left
  · (go_simp; try rfl)
  simp only [Act.put, List.setIfInBounds_toArray, List.set_cons_zero, List.set_cons_succ]
  refine regB_take (v := ?_) 4 (some 9) rfl rfl (by kernel_rfl) (by kernel_rfl) (by kernel_rfl) (fun _ _ _ h => h) (by rfl) (fun W hW => ?_) ?_
  rotate_left
  · (go_simp; try rfl)
  simp only [Act.put, List.setIfInBounds_toArray, List.set_cons_zero, List.set_cons_succ]
  refine regB_take (v := ?_) 5 (some 10) rfl rfl (by kernel_rfl) (by kernel_rfl) (by kernel_rfl) (fun _ _ _ h => h) (by rfl) (fun W hW => ?_) ?_
  rotate_left
  · (go_simp; try rfl)
  simp only [Act.put, List.setIfInBounds_toArray, List.set_cons_zero, List.set_cons_succ]
  refine regB_take (v := ?_) 6 (some 1) rfl rfl (by kernel_rfl) (by kernel_rfl) (by kernel_rfl) (fun _ _ _ h => h) (by rfl) (fun W hW => ?_) ?_
  rotate_left
  · (go_simp; try rfl)
  simp only [Act.put, List.setIfInBounds_toArray, List.set_cons_zero, List.set_cons_succ]
  refine regB_take (v := ?_) 7 (some 2) rfl rfl (by kernel_rfl) (by kernel_rfl) (by kernel_rfl) (fun _ _ _ h => h) (by rfl) (fun W hW => ?_) ?_
  rotate_left
  · (go_simp; try rfl)
  simp only [Act.put, List.setIfInBounds_toArray, List.set_cons_zero, List.set_cons_succ]
  refine regB_done (by kernel_rfl) ?_
  have B6 : Hid (Below w.heap.size w w6) := BX.out.trans HX.out
  have Z6 : Hid (w.heap.size ≤ w6.heap.size) := B6.out.size
  obtain ⟨A, c, rfl, hl3, h31, h32, hr3⟩ := own_read HO.out
  have S6 := Lib.hid (sl_mk hl3 h31 h32 hr3)
  clear hl3 h31 h32 hr3 HX BX HO SE P1 P2 HS5 HS0
  go_upto_region 2 with (fail)
  have BX : Hid (Below w6.heap.size w6 w6.drew) := (Below.refl _ _).drew
  have HS0 : Hid (w6.heap.size ≤ w6.drew.heap.size) := Nat.le_refl _
  refine regB_start (w6.heap.size) (by kernel_rfl) ?_
  try simp only [Act.put, List.setIfInBounds_toArray, List.set_cons_zero, List.set_cons_succ]
  generalize w6.drew = WD at BX HS0 ⊢
  refine regB_take (v := ?_) 2 (some 14) rfl rfl (by kernel_rfl) (by kernel_rfl) (by kernel_rfl) (fun _ _ _ h => h) (by rfl) (fun W hW => ?_) ?_
  rotate_left
  · (go_simp; try rfl)
  simp only [Act.put, List.setIfInBounds_toArray, List.set_cons_zero, List.set_cons_succ]
  refine regB_join 0 1 12 13 (fun v1 v2 W => Two12 Z1 Z2 v1 v2 W) rfl rfl (by decide) (by decide) (by kernel_rfl) (by kernel_rfl) (by kernel_rfl) (fun K hK => ?_) (fun K hK => ?_) ?_
  · unfold Does
    go_simp
    have N1 := heap_alloc_new' WD (.cells (Z1.map bv).toArray 5)
    have E1 : Below w6.heap.size WD (WD.alloc (.cells (Z1.map bv).toArray 5)) := (Below.refl _ WD).alloc HS0.out _
    have S1 : w6.heap.size ≤ (WD.alloc (.cells (Z1.map bv).toArray 5)).heap.size := by have := HS0.out; simp; omega
    refine hK.out (.slice (some ⟨WD.heap.size, 0, none⟩) 32 32) _ E1 fun K2 hK2 => ?_
    generalize WD.alloc (.cells (Z1.map bv).toArray 5) = W1 at N1 E1 S1 hK2 ⊢
    unfold Does
    go_simp
    exact hK2.out (.slice (some ⟨W1.heap.size, 0, none⟩) 12 12) _ ((Below.refl _ W1).alloc S1 _) ⟨_, _, rfl, rfl, heap_keep' N1 _, heap_alloc_new' W1 _⟩
  · unfold Does
    go_simp
    have N1 := heap_alloc_new' WD (.cells (Z2.map bv).toArray 5)
    have E1 : Below w6.heap.size WD (WD.alloc (.cells (Z2.map bv).toArray 5)) := (Below.refl _ WD).alloc HS0.out _
    have S1 : w6.heap.size ≤ (WD.alloc (.cells (Z2.map bv).toArray 5)).heap.size := by have := HS0.out; simp; omega
    refine hK.out (.slice (some ⟨WD.heap.size, 0, none⟩) 12 12) _ E1 fun K2 hK2 => ?_
    generalize WD.alloc (.cells (Z2.map bv).toArray 5) = W1 at N1 E1 S1 hK2 ⊢
    unfold Does
    go_simp
    exact hK2.out (.slice (some ⟨W1.heap.size, 0, none⟩) 32 32) _ ((Below.refl _ W1).alloc S1 _) ⟨_, _, rfl, rfl, heap_alloc_new' W1 _, heap_keep' N1 _⟩
  rintro v1 v2 w5 hE ⟨p1, p2, rfl, rfl, h1, h2⟩
  have HX := Lib.hid hE
  have P1 := Lib.hid (sl_row L1.out (by omega) h1)
  have P2 := Lib.hid (sl_row L2.out (by omega) h2)
  have HS5 : Hid (w6.heap.size ≤ w5.heap.size) := Nat.le_trans HS0.out (size_of_below hE HS0.out)
  clear hE h1 h2
  simp only [Act.put, List.setIfInBounds_toArray, List.set_cons_zero, List.set_cons_succ]
  refine regB_eff 3 rfl (by kernel_rfl) (fun K hK => ?_)
  go_simp
  refine (OP.out _ _ A c w5 P1.out P2.out (S6.out.below (BX.out.trans HX.out))).mono ?_
  rintro e w7 ⟨v2, y, rfl, hO, hB⟩
  have HO := Lib.hid (OS.out _ _ _ _ hO)
  have hE := hB.mono HS5.out
  clear hO hB
  refine hK.out _ _ hE ?_
  have HX := Lib.hid (Below.trans HX.out hE)
  clear hE hK K
  try simp only [Act.put, List.setIfInBounds_toArray, List.set_cons_zero, List.set_cons_succ]
  refine regB_take (v := ?_) 4 (some 11) rfl rfl (by kernel_rfl) (by kernel_rfl) (by kernel_rfl) (fun _ _ _ h => h) (by rfl) (fun W hW => ?_) ?_
  rotate_left
  · (go_simp; try rfl)
  simp only [Act.put, List.setIfInBounds_toArray, List.set_cons_zero, List.set_cons_succ]
  refine regB_take (v := ?_) 5 (some 16) rfl rfl (by kernel_rfl) (by kernel_rfl) (by kernel_rfl) (fun _ _ _ h => h) (by rfl) (fun W hW => ?_) ?_
  rotate_left
  · (go_simp; try rfl)
  simp only [Act.put, List.setIfInBounds_toArray, List.set_cons_zero, List.set_cons_succ]
  refine regB_take (v := ?_) 6 (some 17) rfl rfl (by kernel_rfl) (by kernel_rfl) (by kernel_rfl) (fun _ _ _ h => h) (by rfl) (fun W hW => ?_) ?_
  rotate_left
  · (go_simp; try rfl)
  simp only [Act.put, List.setIfInBounds_toArray, List.set_cons_zero, List.set_cons_succ]
  refine regB_take (v := ?_) 7 (some 3) rfl rfl (by kernel_rfl) (by kernel_rfl) (by kernel_rfl) (fun _ _ _ h => h) (by rfl) (fun W hW => ?_) ?_
  rotate_left
  · (go_simp; try rfl)
  simp only [Act.put, List.setIfInBounds_toArray, List.set_cons_zero, List.set_cons_succ]
  refine regB_take (v := ?_) 8 (some 4) rfl rfl (by kernel_rfl) (by kernel_rfl) (by kernel_rfl) (fun _ _ _ h => h) (by rfl) (fun W hW => ?_) ?_
  rotate_left
  · (go_simp; try rfl)
  simp only [Act.put, List.setIfInBounds_toArray, List.set_cons_zero, List.set_cons_succ]
  refine regB_done (by kernel_rfl) ?_
  have B7 : Hid (Below w.heap.size w w7) := B6.out.trans ((BX.out.trans HX.out).mono Z6.out)
  obtain ⟨hy, hO⟩ := HO.out
  subst hy
  clear hO HO
  go_wp2
  go_ret
  exact ⟨rfl, B7.out⟩
end Go.Proofs.Ytcpmfekekidhfaa
