/- aead: what Seal and Open hand to both. -/
import Derived.Test.YtcpmfekekidhfaaAed3
import Derived.Test.YtcpmfekekidhfaaOwn
import Derived.Test.YtcpmfekekidhfaaReg5
namespace Go.Proofs.Ytcpmfekekidhfaa
open Go.RowKit
set_option linter.unusedVariables false
set_option linter.unusedSimpArgs false
set_option maxRecDepth 100000
/-- bytes, sealed -/
def sealE (key nonce aad b : List UInt8) : List UInt8 := cryptC key nonce 1#32 b ++ tagL key nonce aad (cryptC key nonce 1#32 b)
theorem sealE_len (key nonce aad b : List UInt8) : (sealE key nonce aad b).length = b.length + 16 := by rw [sealE, List.length_append, cryptC_len, tagL_len]
/-- what a box of a slice holds -/
theorem box_ext {W W' : World} {g : Nat} {v : Value} {t : TypeId} {fr : Nat × Nat} (h : W.heap[g]? = some (.cells #[v] t fr)) (hE : Below W.heap.size W W') : W'.heap[g]? = some (.cells #[v] t fr) := (hE.block _ (lt_of_heap h)).trans h
theorem box_cell {W : World} {g : Nat} {v : Value} {t : TypeId} {fr : Nat × Nat} (h : W.heap[g]? = some (.cells #[v] t fr)) : W.cell? ⟨g, 0, none⟩ = some v := by rw [cell_of_heap (cs := [v]) h]; rfl
theorem ge_ownE {a g : Nat} (h : a ≤ g) {n c : Nat} : ∀ k, (Value.slice (some ⟨g, 0, none⟩) n c).ownBlock = some k → a ≤ k := by
  intro k hk
  simp [Value.ownBlock] at hk
  omega
set_option maxHeartbeats 4000000 in
theorem seal1_any (key nonce : List UInt8) (g2 g3 : Nat) (A3 A4 : Option Addr) (k3 c3 k4 c4 : Nat) (aad x : List UInt8) (w : World) (hk : key.length = 32) (hn : nonce.length = 12) (h3 : aad.length = k3) (h4 : x.length = k4) (h31 : k3 ≤ 100000) (h41 : k4 ≤ 100000)
    (S3 : Sl w A3 c3 aad) (S4 : Sl w A4 c4 x) (H2 : w.heap[g2]? = some (.cells #[.slice A4 k4 c4] 22 (0, 0))) (H3 : w.heap[g3]? = some (.cells #[.slice A3 k3 c3] 22 (0, 0))) :
    Calls Try.prog 16 #[.agg (key.map bv).toArray, .agg (nonce.map bv).toArray, .pointer (some ⟨g2, 0, none⟩), .pointer (some ⟨g3, 0, none⟩)] w fun e w' =>
      ∃ v, e = .returned (.tuple #[v, .int .i64 0]) ∧ w'.ownsRow w.heap.size 5 1 v (k4 + 16) ((sealE key nonce aad x).map bv) ∧ Below w.heap.size w w' := by
  have hz : ∀ W, (zeroValue 41).run Try.prog W = .ok (.agg zer16.toArray) W := fun W => by kernel_rfl
  have hlz : Hid (zer16.length = 16) := rfl
  have HK := Lib.hid hk; have HN := Lib.hid hn; have HS3 := Lib.hid S3; have HS4 := Lib.hid S4; have HH2 := Lib.hid H2; have HH3 := Lib.hid H3
  have CR : Hid (∀ W, Sl W A4 c4 x → Calls Try.prog 17 #[.agg (key.map bv).toArray, .agg (nonce.map bv).toArray, .int .u32 1, .slice A4 k4 c4] W (NewRow W k4 (cryptC key nonce 1#32 x))) := fun W hS => crypt_any key nonce 1#32 A4 k4 c4 x W hk hn h4 h41 hS
  have HCL : Hid ((cryptC key nonce 1#32 x).length = k4) := by show _ = _; rw [cryptC_len]; exact h4
  have TA := Lib.hid (fun A W hS3 hS => atag_any key nonce A3 A k3 c3 k4 k4 aad (cryptC key nonce 1#32 x) W hk hn h3 HCL.out (by omega) (by omega) hS3 hS)
  have HSE : Hid (cryptC key nonce 1#32 x ++ tagL key nonce aad (cryptC key nonce 1#32 x) = sealE key nonce aad x) := rfl
  have HTL := Lib.hid (tagL_len key nonce aad (cryptC key nonce 1#32 x))
  generalize tagL key nonce aad (cryptC key nonce 1#32 x) = T at TA HSE HTL
  generalize cryptC key nonce 1#32 x = C at CR HCL TA HSE
  generalize sealE key nonce aad x = R at HSE ⊢
  generalize zer16 = Z at hz hlz
  have G := Lib.hid (heap2c w (.cells (key.map bv).toArray 37) (.cells (nonce.map bv).toArray 38))
  have q4 : (k4 : Int) + 16 ≤ 2147483647 := by omega
  clear hk hn h3 h4 S3 S4 H2 H3 h31
  go_enter Try.func16, Try.ntmps16
  go_upto_region 1 with (fail)
  generalize hV : (w.alloc _).alloc _ = W0 at G ⊢
  clear hV
  have B0 : Hid (Below w.heap.size w W0) := G.out.2.2
  have K0 := Lib.hid G.out.1
  have N0 := Lib.hid G.out.2.1
  clear G
  have c2 := box_cell (box_ext HH2.out B0.out)
  go_upto_region 2 with (first
    | (refine wpList_ld rfl 37 (.tmp 4) rfl (load_arr arr32K rfl (i32K' key HK.out) K0.out) ?_)
    | (refine wpList_ld rfl 38 (.tmp 5) rfl (load_arr arr12B rfl (i12B' nonce HN.out) N0.out) ?_))
  refine (CR.out W0 (HS4.out.below B0.out)).mono ?_
  rintro e w1 ⟨g, hg, rfl, hk1, hb1⟩
  have B1 : Hid (Below w.heap.size w w1) := B0.out.step hb1
  have K1 := Lib.hid ((hb1.block _ (lt_of_heap K0.out)).trans K0.out)
  have N1 := Lib.hid ((hb1.block _ (lt_of_heap N0.out)).trans N0.out)
  have C1 := Lib.hid hk1
  have HG : Hid (w.heap.size ≤ g) := Nat.le_trans B0.out.size hg
  clear hg hk1 hb1 B0 K0 N0 c2 CR
  have c3' := box_cell (box_ext HH3.out B1.out)
  go_wp2_with (first
    | (refine wpList_ld rfl 37 (.tmp 4) rfl (load_arr arr32K rfl (i32K' key HK.out) K1.out) ?_)
    | (refine wpList_ld rfl 38 (.tmp 5) rfl (load_arr arr12B rfl (i12B' nonce HN.out) N1.out) ?_))
  refine (TA.out (some ⟨g, 0, none⟩) w1 (HS3.out.below B1.out) (sl_row HCL.out (by omega) C1.out)).mono ?_
  rintro e w2 ⟨rfl, hb2⟩
  have B2 : Hid (Below w.heap.size w w2) := B1.out.step hb2
  have C2 := Lib.hid ((hb2.block _ (lt_of_heap C1.out)).trans C1.out)
  clear hb2 B1 K1 N1 C1 c3' TA
  have ar := arr_all arr16P s8 ⟨w2.heap.size, 0, none⟩
  go_wp2_with (first
    | (refine wpList_st rfl 41 (.tmp 9) (.tmp 18) rfl (store_arr (cs := T.map bv) (i16p T HTL.out) (bv_one _) (heap_alloc_new' w2 _) (by rw [List.length_map, HTL.out]; exact hlz.out)) ?_
       generalize hV : World.setRow _ _ _ = W3
       have M3 := Lib.hid (heap_of_setRow hV (heap_alloc_new' w2 _))
       have MB := Lib.hid (((Below.refl w2.heap.size w2).alloc (Nat.le_refl _) _).trans (below_of_setRow hV (Nat.le_refl w2.heap.size) (by simp)))
       clear hV)
    | (at_builtin
       refine wpList_app8 rfl (.tmp 19) (.tmp 20) rfl w.heap.size _ k4 C rfl ?_ (some ⟨w2.heap.size, 0, none⟩) 16 16 W3.heap.size T rfl ?_ ?_ ?_ ?_ ?_
       · exact own_heap ((MB.out.block _ (lt_of_heap C2.out)).trans C2.out) HG.out HCL.out (by unfold maxLen; omega)
       · exact (sl_row HTL.out (by omega) M3.out).2.2
       · exact HTL.out
       · omega
       · exact (B2.out.step MB.out).size
       rintro v4 w4 hown hgr
       have HO4 := Lib.hid hown
       have B4 : Hid (Below w.heap.size w w4) := (B2.out.step MB.out).grown hgr (B2.out.step MB.out).size (ge_ownE HG.out)
       clear hown hgr)
    | fail)
  go_ret2
  exact ⟨_, rfl, by rw [← HSE.out]; exact HO4.out, B4.out⟩
end Go.Proofs.Ytcpmfekekidhfaa
