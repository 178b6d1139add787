/- aead: both (key and nonce are looked at, and what is done is handed them as arrays). -/
import Derived.Test.YtfcnahbbieldfaaLawsC1
import Derived.Laws.Cover3
namespace Go.Proofs.Ytfcnahbbieldfaa
open Go.RowKit
set_option linter.unusedVariables false
set_option linter.unusedSimpArgs false
set_option maxRecDepth 100000
theorem arr_ptr32 (A : Option Addr) (n c : Nat) (hn : 32 ≤ n) (W : World) : (Instr.arrayAt 22 (.slice A n c)).run Try.prog W = .ok (.pointer A) W :=
  run_arrayAt W _ _ _ A n c arr32K hn
theorem arr_ptr12 (A : Option Addr) (n c : Nat) (hn : 12 ≤ n) (W : World) : (Instr.arrayAt 27 (.slice A n c)).run Try.prog W = .ok (.pointer A) W :=
  run_arrayAt W _ _ _ A n c arr12B hn
set_option maxHeartbeats 1000000 in
theorem aboth_any (F : FuncId) (cap : Array Value) (R : Value → Int → World → Prop) (key nonce : List UInt8) (A1 A2 : Option Addr) (c1 c2 : Nat) (w : World) (hk : key.length = 32) (hn : nonce.length = 12) (S1 : Sl w A1 c1 key) (S2 : Sl w A2 c2 nonce)
    (hcall : ∀ args W, (callFunc F args).run Try.prog W = .ok (.enter F args) W)
    (hF : ∀ W, Ext w W → Calls Try.prog F (#[.agg (key.map bv).toArray, .agg (nonce.map bv).toArray] ++ cap) W fun e W' => ∃ v x, e = .returned (.tuple #[v, .int .i64 x]) ∧ Ext W W' ∧ R v x W') :
    Calls Try.prog 16 #[.slice A1 32 c1, .slice A2 12 c2, .func (.func F) #[] cap] w fun e w' => ∃ v x, e = .returned (.tuple #[v, .int .i64 x]) ∧ Ext w w' ∧ R v x w' := by
  obtain ⟨b1, o1, rfl, hb1, hr1⟩ := S1.2.2.at_ (by rw [List.length_map, hk]; omega)
  obtain ⟨b2, o2, rfl, hb2, hr2⟩ := S2.2.2.at_ (by rw [List.length_map, hn]; omega)
  have p1 := arr_ptr32 (some ⟨b1, o1, none⟩) 32 c1 (by omega)
  have p2 := arr_ptr12 (some ⟨b2, o2, none⟩) 12 c2 (by omega)
  have HK := Lib.hid hk; have HN := Lib.hid hn; have HF := Lib.hid hF
  have R1 := Lib.hid hr1; have R2 := Lib.hid hr2; have B1 := Lib.hid hb1; have B2 := Lib.hid hb2
  clear hk hn S1 S2 hF hr1 hr2 hb1 hb2
  go_enter Try.func16, Try.ntmps16
  go_wp2_with fail
  have HX : Hid (Ext w w.drew) := (Below.refl _ _).drew
  refine reg_start (by kernel_rfl) ?_
  try simp only [Act.put, List.setIfInBounds_toArray, List.set_cons_zero, List.set_cons_succ]
  refine reg_take (v := ?_) 0 (some 16) rfl rfl (by kernel_rfl) (by kernel_rfl) (by kernel_rfl) (fun _ _ _ h => h) (by rfl) (fun W hW => ?_) ?_
  rotate_left
  · (go_simp; try rfl)
  simp only [Act.put, List.setIfInBounds_toArray, List.set_cons_zero, List.set_cons_succ]
  refine reg_take (v := ?_) 1 (some 17) rfl rfl (by kernel_rfl) (by kernel_rfl) (by kernel_rfl) (fun _ _ _ h => h) (by rfl) (fun W hW => ?_) ?_
  rotate_left
  · (go_simp; try rfl)
  simp only [Act.put, List.setIfInBounds_toArray, List.set_cons_zero, List.set_cons_succ]
  refine reg_take (v := ?_) 2 (some 18) rfl rfl (by kernel_rfl) (by kernel_rfl) (by kernel_rfl) (fun _ _ _ h => h) (by rfl) (fun W hW => ?_) ?_
  rotate_left
  · (go_simp; try rfl)
  simp only [Act.put, List.setIfInBounds_toArray, List.set_cons_zero, List.set_cons_succ]
  refine reg_load 3 (some 19) (fun W hW => run_loadAt_mid W b1 o1 22 (key.map bv) _ (range_ext R1.out B1.out (HX.out.trans hW)) arr32K rfl (i32K' key HK.out)) rfl rfl rfl rfl (by kernel_rfl) (by kernel_rfl) (by kernel_rfl) (fun _ _ _ h => h) (by rfl) ?_
  simp only [Act.put, List.setIfInBounds_toArray, List.set_cons_zero, List.set_cons_succ]
  refine reg_take (v := ?_) 4 (some 20) rfl rfl (by kernel_rfl) (by kernel_rfl) (by kernel_rfl) (fun _ _ _ h => h) (by rfl) (fun W hW => ?_) ?_
  rotate_left
  · (go_simp; try rfl)
  simp only [Act.put, List.setIfInBounds_toArray, List.set_cons_zero, List.set_cons_succ]
  refine reg_take (v := ?_) 5 (some 21) rfl rfl (by kernel_rfl) (by kernel_rfl) (by kernel_rfl) (fun _ _ _ h => h) (by rfl) (fun W hW => ?_) ?_
  rotate_left
  · (go_simp; try rfl)
  simp only [Act.put, List.setIfInBounds_toArray, List.set_cons_zero, List.set_cons_succ]
  refine reg_load 6 (some 22) (fun W hW => run_loadAt_mid W b2 o2 27 (nonce.map bv) _ (range_ext R2.out B2.out (HX.out.trans hW)) arr12B rfl (i12B' nonce HN.out)) rfl rfl rfl rfl (by kernel_rfl) (by kernel_rfl) (by kernel_rfl) (fun _ _ _ h => h) (by rfl) ?_
  simp only [Act.put, List.setIfInBounds_toArray, List.set_cons_zero, List.set_cons_succ]
  refine reg_eff 7 rfl (by kernel_rfl) (fun K hK => ?_)
  go_simp
  refine (HF.out _ HX.out).mono ?_
  rintro e w1 ⟨v, x, rfl, hE, hR⟩
  refine hK.out _ _ hE ?_
  have HX := Lib.hid (Ext.trans HX.out hE)
  clear hE hK K
  try simp only [Act.put, List.setIfInBounds_toArray, List.set_cons_zero, List.set_cons_succ]
  refine reg_take (v := ?_) 8 (some 24) rfl rfl (by kernel_rfl) (by kernel_rfl) (by kernel_rfl) (fun _ _ _ h => h) (by rfl) (fun W hW => ?_) ?_
  rotate_left
  · (go_simp; try rfl)
  simp only [Act.put, List.setIfInBounds_toArray, List.set_cons_zero, List.set_cons_succ]
  refine reg_take (v := ?_) 9 (some 25) rfl rfl (by kernel_rfl) (by kernel_rfl) (by kernel_rfl) (fun _ _ _ h => h) (by rfl) (fun W hW => ?_) ?_
  rotate_left
  · (go_simp; try rfl)
  simp only [Act.put, List.setIfInBounds_toArray, List.set_cons_zero, List.set_cons_succ]
  refine reg_take (v := ?_) 10 (some 6) rfl rfl (by kernel_rfl) (by kernel_rfl) (by kernel_rfl) (fun _ _ _ h => h) (by rfl) (fun W hW => ?_) ?_
  rotate_left
  · (go_simp; try rfl)
  simp only [Act.put, List.setIfInBounds_toArray, List.set_cons_zero, List.set_cons_succ]
  refine reg_take (v := ?_) 11 (some 7) rfl rfl (by kernel_rfl) (by kernel_rfl) (by kernel_rfl) (fun _ _ _ h => h) (by rfl) (fun W hW => ?_) ?_
  rotate_left
  · (go_simp; try rfl)
  simp only [Act.put, List.setIfInBounds_toArray, List.set_cons_zero, List.set_cons_succ]
  refine reg_done (by kernel_rfl) ?_
  go_wp2
  go_ret2
  exact ⟨v, x, rfl, HX.out, hR⟩
set_option maxHeartbeats 1000000 in
theorem aboth_key (F : FuncId) (cap : Array Value) (A1 A2 : Option Addr) (n1 n2 c1 c2 : Nat) (w : World) (hk : n1 ≠ 32) :
    Calls Try.prog 16 #[.slice A1 n1 c1, .slice A2 n2 c2, .func (.func F) #[] cap] w fun e w' => e = .returned (.tuple #[.slice none 0 0, .int .i64 5]) ∧ w = w' := by
  have t1 : ((n1 : Int) != 32) = true := by simp; omega
  clear hk
  go_enter Try.func16, Try.ntmps16
  go_wp2
  go_ret2
  exact ⟨rfl, rfl⟩
set_option maxHeartbeats 1000000 in
theorem aboth_iv (F : FuncId) (cap : Array Value) (A1 A2 : Option Addr) (n2 c1 c2 : Nat) (w : World) (hk : n2 ≠ 12) :
    Calls Try.prog 16 #[.slice A1 32 c1, .slice A2 n2 c2, .func (.func F) #[] cap] w fun e w' => e = .returned (.tuple #[.slice none 0 0, .int .i64 6]) ∧ w = w' := by
  have t1 : ((n2 : Int) != 12) = true := by simp; omega
  clear hk
  go_enter Try.func16, Try.ntmps16
  go_wp2
  go_ret2
  exact ⟨rfl, rfl⟩
end Go.Proofs.Ytfcnahbbieldfaa
