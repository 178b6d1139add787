/- bytes.Clone and cbc.xor. -/
import Derived.Test.YtfcnahbbieldfaaRefK2
import Derived.Test.YtfcnahbbieldfaaKeyZ
import Derived.Test.YtfcnahbbieldfaaAes10
import Derived.Test.YtfcnahbbieldfaaSha7
import Derived.Laws.Cover3
namespace Go.Proofs.Ytfcnahbbieldfaa
open Go.RowKit
set_option linter.unusedVariables false
set_option linter.unusedSimpArgs false
set_option maxRecDepth 100000
/-- a slice of 16 bytes or more taken as an array: a pointer to its first -/
theorem arr_ptr16 (A : Option Addr) (n c : Nat) (hn : 16 ≤ n) (W : World) : (Instr.arrayAt 23 (.slice A n c)).run Try.prog W = .ok (.pointer A) W :=
  run_arrayAt W _ _ _ A n c arr16B hn
theorem eql_nil8 (A : Option Addr) (n c : Nat) (W : World) : (binOp .eql 26 (.slice A n c) (.slice none 0 0)).run Try.prog W = .ok (.bool A.isNone) W :=
  Lib.run_eql_slice_nil W _ _ A n c 0 0 uT
theorem own_none (w : World) (base : Nat) : w.ownsRow base 5 1 (.slice none 0 0) 0 (([] : List UInt8).map bv) := World.ownsRow_nil _ _ _ _
set_option maxHeartbeats 1000000 in
theorem clone_any (A : Option Addr) (n c : Nat) (bs : List UInt8) (w : World) (hl : bs.length = n) (hn : n ≤ 2147000000) (hS : Sl w A c bs) :
    Calls Try.prog 35 #[.slice A n c] w fun e w' => ∃ v, e = .returned v ∧ w'.ownsRow w.heap.size 5 1 v n (bs.map bv) ∧ Below w.heap.size w w' := by
  have HS := Lib.hid hS; have HL := Lib.hid hl
  have q := eql_nil8 A n c
  have hn31 : 0 + n ≤ 2147483647 := by omega
  cases A with
  | none =>
    have hb : bs = [] := by
      rcases hS.2.2 with h | ⟨b, o, h, _⟩
      · simpa using h
      · cases h
    subst hb
    obtain rfl : n = 0 := hl.symm
    rw [show Option.isNone (none : Option Addr) = true from rfl] at q
    clear hS hl
    go_enter Try.func35, Try.ntmps35
    go_wp2
    go_ret
    exact ⟨_, rfl, own_none _ _, Below.refl _ _⟩
  | some a =>
    rw [show Option.isNone (some a) = false from rfl] at q
    clear hS hl
    go_enter Try.func35, Try.ntmps35
    go_wp2_with (
      at_builtin
      refine wpList_app8 rfl (.tmp 5) (.tmp 6) rfl w.heap.size _ 0 [] rfl ?_ (some a) n c w.heap.size bs rfl ?_ ?_ ?_ ?_ ?_
      · exact own_heap (g := w.heap.size) (heap_alloc_new' w _) (Nat.le_refl _) rfl (Nat.zero_le _)
      · exact HS.out.2.2.below ((Below.refl _ _).alloc (Nat.le_refl _) _)
      · exact HL.out
      · exact hn31
      · simp
      rintro v1 w1 hown hgr
      have HB1 := Lib.hid (((Below.refl w.heap.size w).alloc (Nat.le_refl _) _).grown hgr (by simp) (ge_own w.heap.size 0))
      rw [List.nil_append, Nat.zero_add] at hown
      have HO1 := Lib.hid hown
      clear hgr hown)
    go_ret
    exact ⟨_, rfl, HO1.out, HB1.out⟩
set_option maxHeartbeats 2000000 in
theorem cxor_any (a b : List UInt8) (w : World) (ha : a.length = 16) (hb : b.length = 16) :
    Calls Try.prog 39 #[.agg (a.map bv).toArray, .agg (b.map bv).toArray] w fun e w' => e = .returned (.agg ((xorL a b).map bv).toArray) ∧ Below w.heap.size w w' := by
  have HA := Lib.hid ha; have HB := Lib.hid hb
  have hz : ∀ W, (zeroValue 23).run Try.prog W = .ok (.agg zeros16.toArray) W := fun W => by kernel_rfl
  have HX16 : Hid ((xorL a b).length = 16) := by show _ = _; rw [xorL_len, ha, hb]; rfl
  have XC := Lib.hid (fun A B W hS hS' => xor_n A B 16 16 16 16 16 a b W ha hb rfl hS hS' (by omega) (by omega))
  generalize xorL a b = X at XC HX16 ⊢
  have sl1 := arr_all arr16B s8 ⟨w.heap.size, 0, none⟩
  have sl2 := arr_all arr16B s8 ⟨w.heap.size + 1, 0, none⟩
  have hres0 : Hid (∃ Z : List Value, Z = zeros16 ∧ Z.length = 16) := ⟨_, rfl, rfl⟩
  clear ha hb
  go_enter Try.func39, Try.ntmps39
  go_upto_region 1 with (fail)
  have HH := heap3 w (.cells (a.map bv).toArray 23) (.cells (b.map bv).toArray 23) (.cells zeros16.toArray 23)
  have hsz : Hid ((((w.alloc (.cells (a.map bv).toArray 23)).alloc (.cells (b.map bv).toArray 23)).alloc (.cells zeros16.toArray 23)).heap.size = w.heap.size + 3) := by show _ = _; simp
  generalize hV : ((w.alloc _).alloc _).alloc _ = W0 at HH hsz ⊢
  have N0 := Lib.hid HH.1; have N1 := Lib.hid HH.2.1; have N2 := Lib.hid HH.2.2.1; have NB := Lib.hid HH.2.2.2
  clear hV HH
  have N0 : Hid (W0.drew.heap[w.heap.size]? = _) := N0.out
  have N1 : Hid (W0.drew.heap[w.heap.size + 1]? = _) := N1.out
  have N2 : Hid (W0.drew.heap[w.heap.size + 2]? = _) := N2.out
  have NB : Hid (Below w.heap.size w W0.drew) := NB.out.drew
  refine regS_start (AnyR) (by kernel_rfl) ?_
  try simp only [Act.put, List.setIfInBounds_toArray, List.set_cons_zero, List.set_cons_succ]
  generalize W0.drew = W3 at N0 N1 N2 NB ⊢
  have HX : Hid (AnyR W3 W3) := trivial
  refine regS_take (v := ?_) 0 (some 5) rfl rfl (by kernel_rfl) (by kernel_rfl) (by kernel_rfl) (fun _ _ _ h => h) (by rfl) (fun W hW => ?_) ?_
  rotate_left
  · (go_simp; try rfl)
  simp only [Act.put, List.setIfInBounds_toArray, List.set_cons_zero, List.set_cons_succ]
  refine regS_take (v := ?_) 1 (some 6) rfl rfl (by kernel_rfl) (by kernel_rfl) (by kernel_rfl) (fun _ _ _ h => h) (by rfl) (fun W hW => ?_) ?_
  rotate_left
  · (go_simp; try rfl)
  simp only [Act.put, List.setIfInBounds_toArray, List.set_cons_zero, List.set_cons_succ]
  refine regS_eff 2 rfl (by kernel_rfl) (fun K hK => ?_)
  go_simp
  refine (XC.out (some ⟨w.heap.size, 0, none⟩) (some ⟨w.heap.size + 1, 0, none⟩) W3 (sl_row HA.out (by omega) N0.out) (sl_row HB.out (by omega) N1.out)).mono ?_
  rintro e w4 ⟨g3, hg3, rfl, hk3, hE0⟩
  have L2 := Lib.hid ((hE0.block _ (lt_of_heap N2.out)).trans N2.out)
  have LB := Lib.hid (NB.out.step hE0)
  have K3 := Lib.hid hk3
  have ap := arr_ptr16 (some ⟨g3, 0, none⟩) 16 16 (Nat.le_refl _)
  have hE : AnyR W3 w4 := trivial
  clear hE0 hk3 hg3
  refine hK.out _ _ hE ?_
  have HX := Lib.hid (Pre.trans HX.out hE)
  clear hE hK K
  try simp only [Act.put, List.setIfInBounds_toArray, List.set_cons_zero, List.set_cons_succ]
  refine regS_take (v := ?_) 3 (some 8) rfl rfl (by kernel_rfl) (by kernel_rfl) (by kernel_rfl) (fun _ _ _ h => h) (by rfl) (fun W hW => ?_) ?_
  rotate_left
  · (go_simp; try rfl)
  simp only [Act.put, List.setIfInBounds_toArray, List.set_cons_zero, List.set_cons_succ]
  refine regS_eff 4 rfl (by kernel_rfl) (fun K hK => ?_)
  refine step_ld rfl 23 (.tmp 8) rfl (load_arr arr16B rfl (i16z X HX16.out) K3.out) ?_
  have hE : AnyR w4 w4 := trivial
  refine hK.out _ _ hE ?_
  have HX := Lib.hid (Pre.trans HX.out hE)
  clear hE hK K
  try simp only [Act.put, List.setIfInBounds_toArray, List.set_cons_zero, List.set_cons_succ]
  refine regS_eff 5 rfl (by kernel_rfl) (fun K hK => ?_)
  refine step_st1 rfl 23 (.tmp 4) (.tmp 9) rfl (store_arr (cs := X.map bv) (i16z X HX16.out) (bv_one _) L2.out (by rw [List.length_map, HX16.out]; rfl)) ?_
  generalize hV : World.setRow _ _ _ = W7
  have M2 := Lib.hid (heap_of_setRow hV L2.out)
  have MB := Lib.hid (LB.out.trans (below_of_setRow hV (by omega) LB.out.size))
  have hE : AnyR w4 W7 := trivial
  clear hV
  refine hK.out _ _ hE ?_
  have HX := Lib.hid (Pre.trans HX.out hE)
  clear hE hK K
  try simp only [Act.put, List.setIfInBounds_toArray, List.set_cons_zero, List.set_cons_succ]
  refine regS_done (by kernel_rfl) ?_
  simp only [List.getElem_toArray, List.getElem_cons_succ, List.getElem_cons_zero, List.set_cons_zero, List.set_cons_succ]
  go_wp2_with fail
  exact bodyPost_ret (results_cell_row (P := Try.prog) rfl _ _ (w.heap.size + 2) 23 (X.map bv).toArray (0, 0) _ rfl M2.out arr16B rfl (by rw [List.size_toArray]; exact i16z X HX16.out)) rfl ⟨rfl, MB.out⟩
end Go.Proofs.Ytfcnahbbieldfaa
