/- gcm: tag. -/
import Derived.Test.YtjlljifllnmdoaaGcm3
namespace Go.Proofs.Ytjlljifllnmdoaa
open Go.RowKit
set_option maxRecDepth 100000
set_option linter.unusedVariables false
set_option linter.unusedSimpArgs false
def CellG (B : Nat) (W : World) (v : Value) (X : List Value) (b : Bool) : Prop := ∃ (g : Nat) (Y : List Value), v = .pointer (some ⟨g, 0, none⟩) ∧ B ≤ g ∧ W.heap[g]? = some (.cells Y.toArray 23 (0, 0)) ∧ Y.length = 16 ∧ (b = true → Y = X)
theorem CellG.ext {B : Nat} {W W' : World} {v : Value} {X : List Value} {b : Bool} (h : CellG B W v X b) (hE : Ext W W') : CellG B W' v X b := by
  obtain ⟨g, Y, h1, h2, h3, h4⟩ := h
  exact ⟨g, Y, h1, h2, (hE.block _ (lt_of_heap h3)).trans h3, h4⟩
structure GJ (B : Nat) (w : World) (LB EB : List UInt8) (L : Nat → Bool) (v9 v10 v16 v19 : Value) (W : World) : Prop where
  b : Below B w W
  hB : B ≤ W.heap.size
  f4 : L 4 = true → v16 = .agg (LB.map bv).toArray
  f7 : L 7 = true → v19 = .agg (EB.map bv).toArray
  f8 : L 8 = true → CellG B W v9 (LB.map bv) (L 10)
  f9 : L 9 = true → CellG B W v10 (EB.map bv) (L 11)
  fd : L 8 = true → L 9 = true → v9 ≠ v10
  d10 : L 10 = true → L 8 = true
  d11 : L 11 = true → L 9 = true
theorem GJ.ext {B : Nat} {w : World} {LB EB : List UInt8} {L : Nat → Bool} {v9 v10 v16 v19 : Value} {W W' : World} (h : GJ B w LB EB L v9 v10 v16 v19 W) (hE : Ext W W') : GJ B w LB EB L v9 v10 v16 v19 W' :=
  ⟨h.b.trans (RowKit.Below.mono hE h.hB), Nat.le_trans h.hB hE.size, h.f4, h.f7, fun a => (h.f8 a).ext hE, fun a => (h.f9 a).ext hE, h.fd, h.d10, h.d11⟩
theorem ptr_neG {g g' : Nat} (h : g ≠ g') : Value.pointer (some ⟨g, 0, none⟩) ≠ .pointer (some ⟨g', 0, none⟩) := by
  intro e; injection e with e; injection e with e; injection e with e; exact h e
theorem heap_otherG {W W' : World} {g g' : Nat} {cs : Array Value} {o : Obj} (hV : W.setRow g cs = W') (hne : g' ≠ g) (h : W.heap[g']? = some o) : W'.heap[g']? = some o := by
  rw [← hV, setRow_other _ _ _ _ hne]; exact h
theorem joinW_three (A3 A4 A5 : Option Addr) (c3 c4 c5 : Nat) (aad x LB : List UInt8) (h : LB.length = 16) : joinW [(A3, c3, aad), (A4, c4, x), (A5, c5, LB)] = whG aad ++ whG x ++ LB := by
  have hw : whG LB = LB := by rw [whG, h]; simp [padN]
  simp only [joinW, List.flatMap_cons, List.flatMap_nil, hw, List.append_nil, List.append_assoc]
theorem rows_three {W : World} {q : Nat} {A3 A4 A5 : Option Addr} {c3 c4 c5 k3 k4 k5 : Nat} {aad x LB : List UInt8} {t : TypeId} {fr : Nat × Nat} (h : W.heap[q]? = some (.cells #[.slice A3 k3 c3, .slice A4 k4 c4, .slice A5 k5 c5] t fr)) (h3 : aad.length = k3) (h4 : x.length = k4) (h5 : LB.length = k5)
    (S3 : Sl W A3 c3 aad) (S4 : Sl W A4 c4 x) (S5 : Sl W A5 c5 LB) : PartsAt W (some ⟨q, 0, none⟩, 3, [(A3, c3, aad), (A4, c4, x), (A5, c5, LB)]) := by
  refine ⟨Nat.le_refl _, by simp [maxLen], ?_, .inr ⟨q, 0, rfl, lt_of_heap h, fun j u hu => ?_⟩⟩
  · intro r hr
    simp only [List.mem_cons, List.not_mem_nil, or_false] at hr
    rcases hr with rfl | rfl | rfl
    · exact S3
    · exact S4
    · exact S5
  · rw [Nat.zero_add, cell_of_heap (cs := [.slice A3 k3 c3, .slice A4 k4 c4, .slice A5 k5 c5]) h]
    rw [← h3, ← h4, ← h5]
    exact hu
def six (L : Nat → Bool) : Prop := L 0 = true ∧ L 1 = true ∧ L 2 = true ∧ L 3 = true ∧ L 5 = true ∧ L 6 = true
def mkG (kp : Value) (F : Array Value) (A3 A4 : Option Addr) (k3 c3 k4 c4 p : Nat) (v9 v10 v16 v19 : Value) : Act := { tmps := #[kp, .agg F, .slice A3 k3 c3, .slice A4 k4 c4, undef, .pointer (some ⟨p, 0, none⟩), undef, undef, .slice none 0 0, v9, v10, undef, .slice A3 k3 c3, .int .i64 (k3 : Int), .slice A4 k4 c4, .int .i64 (k4 : Int), v16, kp, .agg F, v19, undef, undef, undef, undef, undef, undef, undef, undef, undef], defers := [] }
/-- the tag of an aad and a sealed text -/
def tagG (E : List UInt8 → List UInt8) (F aad x : List UInt8) : List UInt8 := xorL (gsumL (E zerB) (whG aad ++ whG x ++ lenL (aad.length : Int) (x.length : Int))) (E F)
theorem tagG_len (E : List UInt8 → List UInt8) (F aad x : List UInt8) (h : (E F).length = 16) : (tagG E F aad x).length = 16 := by rw [tagG, xorL_len, gsumL_len, h]; rfl
set_option maxHeartbeats 8000000 in
theorem gtag_any (kp : Value) (E : List UInt8 → List UInt8) (F : List UInt8) (A3 A4 : Option Addr) (k3 c3 k4 c4 : Nat) (aad x : List UInt8) (w : World) (hF : F.length = 16) (hE : Enc w kp E) (h3 : aad.length = k3) (h4 : x.length = k4) (h31 : k3 ≤ 100000) (h41 : k4 ≤ 100000)
    (S3 : Sl w A3 c3 aad) (S4 : Sl w A4 c4 x) :
    Calls Try.prog 30 #[kp, .agg (F.map bv).toArray, .slice A3 k3 c3, .slice A4 k4 c4] w (NewRow w 16 (tagG E F aad x)) := by
  have hz : ∀ W, (zeroValue 23).run Try.prog W = .ok (.agg zeros16.toArray) W := fun W => by kernel_rfl
  have hlz : Hid (zeros16.length = 16) := rfl
  have HF := Lib.hid hF; have H3 := Lib.hid h3; have H4 := Lib.hid h4; have HS3 := Lib.hid S3; have HS4 := Lib.hid S4; have HE := Lib.hid hE
  have GL := Lib.hid (fun W => glen_any (k3 : Int) (k4 : Int) W)
  have ENC := Lib.hid (fun W hW => hE.2 W hW F hF)
  have HEL := Lib.hid (hE.1 F hF)
  have HLL := Lib.hid (lenL_len (k3 : Int) (k4 : Int))
  have HTG : Hid (tagG E F aad x = xorL (gsumL (E zerB) (whG aad ++ whG x ++ lenL (k3 : Int) (k4 : Int))) (E F)) := by show _ = _; rw [tagG, h3, h4]
  rw [HTG.out]
  generalize E F = EB at ENC HEL ⊢
  generalize lenL (k3 : Int) (k4 : Int) = LB at GL HLL ⊢
  generalize zeros16 = Z at hz hlz
  have G := Lib.hid (heap_alloc_new' w (.cells (F.map bv).toArray 23))
  have GB : Hid (Below w.heap.size w (w.alloc (.cells (F.map bv).toArray 23))) := (Below.refl _ _).alloc (Nat.le_refl _) _
  clear hF hE h3 h4 S3 S4 HTG
  obtain ⟨FV, HFV⟩ : ∃ FV, Hid ((F.map bv).toArray = FV) := ⟨_, rfl⟩
  go_enter Try.func30, Try.ntmps30
  go_upto_region 1 with (fail)
  generalize w.alloc _ = W0 at G GB ⊢
  have BX : Hid (Below w.heap.size w W0.drew) := GB.out.drew
  have H0 : Hid (W0.drew.heap[w.heap.size]? = _) := G.out
  have hsz : Hid (W0.heap.size = W0.drew.heap.size) := rfl
  have hle : Hid (w.heap.size ≤ W0.heap.size) := GB.out.size
  refine regB_start (W0.heap.size) (by kernel_rfl) ?_
  try simp only [Act.put, List.setIfInBounds_toArray, List.set_cons_zero, List.set_cons_succ]
  generalize W0.drew = WD at BX H0 hsz ⊢
  refine regB_take (v := ?_) 0 (some 12) rfl rfl (by kernel_rfl) (by kernel_rfl) (by kernel_rfl) (fun _ _ _ h => h) (by rfl) (fun W hW => ?_) ?_
  rotate_left
  · (go_simp; try rfl)
  simp only [Act.put, List.setIfInBounds_toArray, List.set_cons_zero, List.set_cons_succ]
  refine regB_take (v := ?_) 1 (some 13) rfl rfl (by kernel_rfl) (by kernel_rfl) (by kernel_rfl) (fun _ _ _ h => h) (by rfl) (fun W hW => ?_) ?_
  rotate_left
  · (go_simp; try rfl)
  simp only [Act.put, List.setIfInBounds_toArray, List.set_cons_zero, List.set_cons_succ]
  refine regB_take (v := ?_) 2 (some 14) rfl rfl (by kernel_rfl) (by kernel_rfl) (by kernel_rfl) (fun _ _ _ h => h) (by rfl) (fun W hW => ?_) ?_
  rotate_left
  · (go_simp; try rfl)
  simp only [Act.put, List.setIfInBounds_toArray, List.set_cons_zero, List.set_cons_succ]
  refine regB_take (v := ?_) 3 (some 15) rfl rfl (by kernel_rfl) (by kernel_rfl) (by kernel_rfl) (fun _ _ _ h => h) (by rfl) (fun W hW => ?_) ?_
  rotate_left
  · (go_simp; try rfl)
  simp only [Act.put, List.setIfInBounds_toArray, List.set_cons_zero, List.set_cons_succ]
  refine regB_take (v := ?_) 5 (some 17) rfl rfl (by kernel_rfl) (by kernel_rfl) (by kernel_rfl) (fun _ _ _ h => h) (by rfl) (fun W hW => ?_) ?_
  rotate_left
  · (go_simp; try rfl)
  simp only [Act.put, List.setIfInBounds_toArray, List.set_cons_zero, List.set_cons_succ]
  refine regB_load 6 (some 18) (fun W hW => load_arr arr16B rfl (i16c F HF.out) ((hW.block _ (by have := lt_of_heap H0.out; have := hsz.out; omega)).trans H0.out)) rfl rfl rfl rfl (by kernel_rfl) (by kernel_rfl) (by kernel_rfl) (fun _ _ _ h => h) (by rfl) ?_
  simp only [Act.put, List.setIfInBounds_toArray, List.set_cons_zero, List.set_cons_succ]
  have HLL0 := HLL.out
  refine regB_inv (fun L a' W => six L ∧ ∃ v9 v10 v16 v19, a' = mkG kp (F.map bv).toArray A3 A4 k3 c3 k4 c4 w.heap.size v9 v10 v16 v19 ∧ GJ W0.heap.size WD LB EB L v9 v10 v16 v19 W) (by kernel_rfl) (by decide) (by kernel_rfl) (fun L a' W h => ?_) ?_
    (And.intro ?_ (And.intro ?_ (And.intro ?_ (And.intro ?_ (And.intro ?_ (And.intro ?_ (And.intro ?_ (And.intro ?_ (And.intro ?_ (And.intro ?_ (And.intro ?_ (And.intro ?_ trivial)))))))))))) ?_
  · obtain ⟨_, v9, v10, v16, v19, rfl, H⟩ := h
    exact H.b
  · exact ⟨⟨rfl, rfl, rfl, rfl, rfl, rfl⟩, _, _, _, _, rfl, ⟨Below.refl _ _, Nat.le_of_eq hsz.out, fun h => (by cases h), fun h => (by cases h), fun h => (by cases h), fun h => (by cases h), fun h => (by cases h), fun h => (by cases h), fun h => (by cases h)⟩⟩
  · rintro L a W ⟨h6, _⟩ hLi; rw [h6.1] at hLi; cases hLi
  · rintro L a W ⟨h6, _⟩ hLi; rw [h6.2.1] at hLi; cases hLi
  · rintro L a W ⟨h6, _⟩ hLi; rw [h6.2.2.1] at hLi; cases hLi
  · rintro L a W ⟨h6, _⟩ hLi; rw [h6.2.2.2.1] at hLi; cases hLi
  · rintro L a W ⟨h6, v9, v10, v16, v19, rfl, H⟩ hLi hd K0 hK
    simp only [mkG]
    go_simp
    refine (GL.out W).mono ?_
    rintro e W' ⟨rfl, hb⟩
    have H' := H.ext hb
    exact hK.out _ _ ⟨h6, v9, v10, _, v19, rfl, ⟨H'.b, H'.hB, fun _ => rfl, fun h => H'.f7 h, fun h => H'.f8 h, fun h => H'.f9 h, fun h h' => H'.fd h h', fun h => H'.d10 h, fun h => H'.d11 h⟩⟩
  · rintro L a W ⟨h6, _⟩ hLi; rw [h6.2.2.2.2.1] at hLi; cases hLi
  · rintro L a W ⟨h6, _⟩ hLi; rw [h6.2.2.2.2.2] at hLi; cases hLi
  · rintro L a W ⟨h6, v9, v10, v16, v19, rfl, H⟩ hLi hd K0 hK
    simp only [mkG]
    go_simp
    refine (ENC.out W (BX.out.trans (H.b.mono hle.out))).mono ?_
    rintro e W' ⟨rfl, hb⟩
    have H' := H.ext hb
    exact hK.out _ _ ⟨h6, v9, v10, v16, _, rfl, ⟨H'.b, H'.hB, fun h => H'.f4 h, fun _ => rfl, fun h => H'.f8 h, fun h => H'.f9 h, fun h h' => H'.fd h h', fun h => H'.d10 h, fun h => H'.d11 h⟩⟩
  · rintro L a W ⟨h6, v9, v10, v16, v19, rfl, H⟩ hLi hd K0 hK
    simp only [mkG]
    go_simp
    have H' := H.ext ((Below.refl W.heap.size W).alloc (Nat.le_refl _) (.cells Z.toArray 23))
    have hN := heap_alloc_new' W (.cells Z.toArray 23)
    refine hK.out _ _ ⟨h6, _, v10, v16, v19, rfl, ⟨H'.b, H'.hB, fun h => H'.f4 h, fun h => H'.f7 h, fun _ => ⟨W.heap.size, Z, rfl, H.hB, hN, hlz.out, fun h => ?_⟩, fun h => H'.f9 h, fun _ h' => ?_, fun _ => rfl, fun h => H'.d11 h⟩⟩
    · have := H.d10 h; rw [this] at hLi; cases hLi
    · obtain ⟨g3, Y3, rfl, _, h3, _⟩ := H.f9 h'
      exact ptr_neG (by have := lt_of_heap h3; omega)
  · rintro L a W ⟨h6, v9, v10, v16, v19, rfl, H⟩ hLi hd K0 hK
    simp only [mkG]
    go_simp
    have H' := H.ext ((Below.refl W.heap.size W).alloc (Nat.le_refl _) (.cells Z.toArray 23))
    have hN := heap_alloc_new' W (.cells Z.toArray 23)
    refine hK.out _ _ ⟨h6, v9, _, v16, v19, rfl, ⟨H'.b, H'.hB, fun h => H'.f4 h, fun h => H'.f7 h, fun h => H'.f8 h, fun _ => ⟨W.heap.size, Z, rfl, H.hB, hN, hlz.out, fun h => ?_⟩, fun h' _ => ?_, fun h => H'.d10 h, fun _ => rfl⟩⟩
    · have := H.d11 h; rw [this] at hLi; cases hLi
    · obtain ⟨g3, Y3, rfl, _, h3, _⟩ := H.f8 h'
      exact ptr_neG (by have := lt_of_heap h3; omega)
  · rintro L a W ⟨h6, v9, v10, v16, v19, rfl, H⟩ hLi hd K0 hK
    have d4 := hd ⟨4, .data⟩ (by simp) rfl
    have d8 := hd ⟨8, .data⟩ (by simp) rfl
    have d9 := hd ⟨9, .phase⟩ (by simp) rfl
    obtain rfl := H.f4 d4
    have hne := H.fd d8 d9
    obtain ⟨g2, Y2, rfl, hq2, h2, l2, _⟩ := H.f8 d8
    obtain ⟨g3, Y3, rfl, hq3, h3, l3, e3⟩ := H.f9 d9
    have hn : g3 ≠ g2 := fun e => hne (by rw [e])
    refine step_st1 rfl 23 (.tmp 9) (.tmp 16) rfl (store_arr (cs := LB.map bv) (i16c LB HLL0) (bv_one _) h2 (by rw [List.length_map, HLL0]; exact l2)) ?_
    generalize hV : World.setRow _ _ _ = W'
    have hbl : Below W0.heap.size W W' := below_of_setRow hV hq2 H.hB
    exact hK.out _ _ ⟨h6, _, _, _, v19, rfl, ⟨H.b.trans hbl, Nat.le_trans H.hB hbl.size, fun _ => rfl, fun h => H.f7 h, fun _ => ⟨g2, LB.map bv, rfl, hq2, heap_of_setRow hV h2, by rw [List.length_map, HLL0], fun _ => rfl⟩, fun _ => ⟨g3, Y3, rfl, hq3, heap_otherG hV hn h3, l3, fun h => e3 h⟩, fun _ _ => hne, fun _ => d8, fun h => H.d11 h⟩⟩
  · rintro L a W ⟨h6, v9, v10, v16, v19, rfl, H⟩ hLi hd K0 hK
    have d7 := hd ⟨7, .data⟩ (by simp) rfl
    have d8 := hd ⟨8, .phase⟩ (by simp) rfl
    have d9 := hd ⟨9, .data⟩ (by simp) rfl
    obtain rfl := H.f7 d7
    have hne := H.fd d8 d9
    obtain ⟨g2, Y2, rfl, hq2, h2, l2, e2⟩ := H.f8 d8
    obtain ⟨g3, Y3, rfl, hq3, h3, l3, _⟩ := H.f9 d9
    have hn : g2 ≠ g3 := fun e => hne (by rw [e])
    refine step_st1 rfl 23 (.tmp 10) (.tmp 19) rfl (store_arr (cs := EB.map bv) (i16c EB HEL.out) (bv_one _) h3 (by rw [List.length_map, HEL.out]; exact l3)) ?_
    generalize hV : World.setRow _ _ _ = W'
    have hbl : Below W0.heap.size W W' := below_of_setRow hV hq3 H.hB
    exact hK.out _ _ ⟨h6, _, _, v16, _, rfl, ⟨H.b.trans hbl, Nat.le_trans H.hB hbl.size, fun h => H.f4 h, fun _ => rfl, fun _ => ⟨g2, Y2, rfl, hq2, heap_otherG hV hn h2, l2, fun h => e2 h⟩, fun _ => ⟨g3, EB.map bv, rfl, hq3, heap_of_setRow hV h3, by rw [List.length_map, HEL.out], fun _ => rfl⟩, fun _ _ => hne, fun h => H.d10 h, fun _ => d9⟩⟩
  rintro L a W hL ⟨_, v9, v10, v16, v19, rfl, H⟩
  obtain ⟨g2, Y2, rfl, hq2, h2, l2, e2⟩ := H.f8 (hL 8)
  obtain ⟨g3, Y3, rfl, hq3, h3, l3, e3⟩ := H.f9 (hL 9)
  obtain rfl := e2 (hL 10)
  obtain rfl := e3 (hL 11)
  obtain rfl := H.f4 (hL 4)
  obtain rfl := H.f7 (hL 7)
  have H2 := Lib.hid h2; have H3' := Lib.hid h3; have HB : Hid (Below w.heap.size w W) := BX.out.trans (H.b.mono hle.out)
  have HQ2 : Hid (w.heap.size ≤ g2) := Nat.le_trans hle.out hq2
  clear h2 h3 H hL l2 l3 e2 e3 hq2 hq3 BX H0 GL ENC
  have ar1 := arr_all arr16B s8 ⟨g2, 0, none⟩
  have ar2 := arr_all arr16B s8 ⟨g3, 0, none⟩
  simp only [mkG]
  go_wp2_with fail
  have N1 := Lib.hid (heap_alloc_new' W (.cells #[.slice A3 k3 c3, .slice A4 k4 c4, .slice (some ⟨g2, 0, none⟩) 16 16] 26))
  have E1 : Hid (Ext W (W.alloc (.cells #[.slice A3 k3 c3, .slice A4 k4 c4, .slice (some ⟨g2, 0, none⟩) 16 16] 26))) := (Below.refl _ _).alloc (Nat.le_refl _) _
  generalize W.alloc _ = W1 at N1 E1 ⊢
  generalize W.heap.size = q at N1 ⊢
  have B1 : Hid (Below w.heap.size w W1) := HB.out.step E1.out
  have K2 := Lib.hid ((E1.out.block _ (lt_of_heap H2.out)).trans H2.out)
  have K3 := Lib.hid ((E1.out.block _ (lt_of_heap H3'.out)).trans H3'.out)
  have PA := Lib.hid (rows_three N1.out H3.out H4.out HLL0 (HS3.out.below B1.out) (HS4.out.below B1.out) (sl_row HLL0 (by omega) K2.out))
  have HJW := Lib.hid (joinW_three A3 A4 (some ⟨g2, 0, none⟩) c3 c4 16 aad x LB HLL0)
  have hlens : ∀ r ∈ [(A3, c3, aad), (A4, c4, x), (some (⟨g2, 0, none⟩ : Addr), 16, LB)], r.2.2.length ≤ 100000 := by
    intro r hr
    simp only [List.mem_cons, List.not_mem_nil, or_false] at hr
    rcases hr with rfl | rfl | rfl
    · show aad.length ≤ _; rw [H3.out]; exact h31
    · show x.length ≤ _; rw [H4.out]; exact h41
    · show LB.length ≤ _; rw [HLL0]; omega
  have HASH := Lib.hid (ghashR_any kp E (some ⟨q, 0, none⟩) 3 3 [(A3, c3, aad), (A4, c4, x), (some ⟨g2, 0, none⟩, 16, LB)] W1 (HE.out.ext B1.out) PA.out rfl (by omega) hlens)
  rw [HJW.out] at HASH
  have GSL := Lib.hid (gsumL_len (E zerB) (whG aad ++ whG x ++ LB))
  obtain ⟨T, HTT⟩ : ∃ T, Hid (gsumL (E zerB) (whG aad ++ whG x ++ LB) = T) := ⟨_, rfl⟩
  rw [HTT.out] at HASH GSL
  clear hlens PA HJW N1 E1 HB H2 H3' ar1
  refine HASH.out.mono ?_
  rintro e w2 ⟨rfl, hb⟩
  have B2 : Hid (Below w.heap.size w w2) := B1.out.step hb
  have K4 := Lib.hid ((hb.block _ (lt_of_heap K3.out)).trans K3.out)
  clear hb B1 K3 K2 HASH
  go_upto_region 3 with (first
    | (refine wpList_st rfl 23 (.tmp 11) (.tmp 25) rfl (store_arr (cs := T.map bv) (i16c T GSL.out) (bv_one _) (heap_alloc_new' w2 _) (by rw [List.length_map, GSL.out]; exact hlz.out)) ?_
       generalize hV : World.setRow _ _ _ = W3
       have M3 := Lib.hid (heap_of_setRow hV (heap_alloc_new' w2 _))
       have MB := Lib.hid (((Below.refl w2.heap.size w2).alloc (Nat.le_refl _) _).trans (below_of_setRow hV (Nat.le_refl w2.heap.size) (by simp)))
       clear hV)
    | fail)
  have B3 : Hid (Below w.heap.size w W3) := B2.out.step MB.out
  have K5 := Lib.hid ((MB.out.block _ (lt_of_heap K4.out)).trans K4.out)
  clear B2 K4 MB
  generalize w2.heap.size = q3 at M3 ⊢
  have ar1 := arr_all arr16B s8 ⟨q3, 0, none⟩
  have HX : Hid (Ext W3 W3.drew) := (Below.refl _ _).drew
  have XC := Lib.hid (fun A B W hS hS' => xor_n A B 16 16 16 16 16 T EB W GSL.out HEL.out rfl hS hS' (by omega) (by omega))
  obtain ⟨R, HR⟩ : ∃ R, Hid (xorL T EB = R) := ⟨_, rfl⟩
  rw [HR.out] at XC
  refine reg_start (by kernel_rfl) ?_
  try simp only [Act.put, List.setIfInBounds_toArray, List.set_cons_zero, List.set_cons_succ]
  refine reg_take (v := ?_) 0 (some 26) rfl rfl (by kernel_rfl) (by kernel_rfl) (by kernel_rfl) (fun _ _ _ h => h) (by rfl) (fun W hW => ?_) ?_
  rotate_left
  · (go_simp; try rfl)
  simp only [Act.put, List.setIfInBounds_toArray, List.set_cons_zero, List.set_cons_succ]
  refine reg_take (v := ?_) 1 (some 27) rfl rfl (by kernel_rfl) (by kernel_rfl) (by kernel_rfl) (fun _ _ _ h => h) (by rfl) (fun W hW => ?_) ?_
  rotate_left
  · (go_simp; try rfl)
  simp only [Act.put, List.setIfInBounds_toArray, List.set_cons_zero, List.set_cons_succ]
  refine reg_eff 2 rfl (by kernel_rfl) (fun K hK => ?_)
  go_simp
  refine (XC.out _ _ _ ((sl_row GSL.out (by omega) M3.out).below HX.out) ((sl_row HEL.out (by omega) K5.out).below HX.out)).mono ?_
  rintro e w4 ⟨g, hg, rfl, hk, hE⟩
  have K6 := Lib.hid hk
  have HG := Lib.hid hg
  clear hk hg
  refine hK.out _ _ hE ?_
  have HX := Lib.hid (Ext.trans HX.out hE)
  clear hE hK K
  try simp only [Act.put, List.setIfInBounds_toArray, List.set_cons_zero, List.set_cons_succ]
  refine reg_take (v := ?_) 3 (some 8) rfl rfl (by kernel_rfl) (by kernel_rfl) (by kernel_rfl) (fun _ _ _ h => h) (by rfl) (fun W hW => ?_) ?_
  rotate_left
  · (go_simp; try rfl)
  simp only [Act.put, List.setIfInBounds_toArray, List.set_cons_zero, List.set_cons_succ]
  refine reg_done (by kernel_rfl) ?_
  have B4 : Hid (Below w.heap.size w w4) := B3.out.step HX.out
  go_wp2
  go_ret
  exact ⟨g, Nat.le_trans B3.out.size HG.out, rfl, by rw [HTT.out, HR.out]; exact K6.out, B4.out⟩
end Go.Proofs.Ytjlljifllnmdoaa
