/- aead: tag. -/
import Derived.Test.YtfcnahbbieldfaaAed1
import Derived.Test.YtfcnahbbieldfaaAed2
namespace Go.Proofs.Ytfcnahbbieldfaa
open Go.RowKit
set_option linter.unusedVariables false
set_option linter.unusedSimpArgs false
set_option maxRecDepth 100000
/-- the one key of a key and a nonce -/
def oneL (key nonce : List UInt8) : List UInt8 := (blockC key nonce 0#32).take 32
theorem oneL_len (key nonce : List UInt8) : (oneL key nonce).length = 32 := by rw [oneL, List.length_take, blockC_len]; rfl
/-- what is summed -/
def taggedL (aad x : List UInt8) : List UInt8 := whZ aad ++ whZ x ++ putLittle aad.length 8 ++ putLittle x.length 8
def tagL (key nonce aad x : List UInt8) : List UInt8 := polyL (oneL key nonce) (taggedL aad x)
theorem tagL_len (key nonce aad x : List UInt8) : (tagL key nonce aad x).length = 16 := polyL_len _ _
theorem PAt.lt' {w : World} {g r s : Nat} {m : List UInt8} (H : PAt w g r s m) : g < w.heap.size := lt_of_heap H
theorem apart_ge {w : World} {A : Option Addr} {c k g : Nat} {b : List UInt8} (hS : Sl w A c b) (hb : b.length = k) (hg : w.heap.size ≤ g) : 0 < k → ApartG A g := by
  intro h0 a ha
  obtain ⟨b1, o1, he, hb1, _⟩ := hS.2.2.at_ (by rw [List.length_map, hb]; exact h0)
  rw [he] at ha
  injection ha with ha
  rw [← ha]; show b1 ≠ g; omega
set_option maxHeartbeats 4000000 in
theorem atag_any (key nonce : List UInt8) (A3 A4 : Option Addr) (k3 c3 k4 c4 : Nat) (aad x : List UInt8) (w : World) (hk : key.length = 32) (hn : nonce.length = 12) (h3 : aad.length = k3) (h4 : x.length = k4) (h31 : k3 ≤ 2147000000) (h41 : k4 ≤ 2147000000)
    (S3 : Sl w A3 c3 aad) (S4 : Sl w A4 c4 x) :
    Calls Try.prog 18 #[.agg (key.map bv).toArray, .agg (nonce.map bv).toArray, .slice A3 k3 c3, .slice A4 k4 c4] w fun e w' => e = .returned (.agg ((tagL key nonce aad x).map bv).toArray) ∧ Below w.heap.size w w' := by
  have hz : ∀ W, (zeroValue 23).run Try.prog W = .ok (.agg zer16.toArray) W := fun W => by kernel_rfl
  have hlz : Hid (zer16.length = 16) := rfl
  have BL : Hid (∀ W, Calls Try.prog 6 #[.agg (key.map bv).toArray, .agg (nonce.map bv).toArray, .int .u32 0] W fun e w' => e = .returned (.agg ((blockC key nonce 0#32).map bv).toArray) ∧ Below W.heap.size W w') := fun W => cblock_any key nonce 0#32 W hk hn
  have HOL := Lib.hid (oneL_len key nonce)
  have HOE : Hid ((blockC key nonce 0#32).take 32 = oneL key nonce) := rfl
  have HXL : Hid ((blockC key nonce 0#32).length = 64) := blockC_len _ _ _
  have HTE : Hid (psumL (rOf (oneL key nonce)) (sOf (oneL key nonce)) (taggedL aad x) = tagL key nonce aad x) := rfl
  have LP := Lib.hid (tagL_len key nonce aad x)
  generalize tagL key nonce aad x = Q at HTE LP ⊢
  generalize blockC key nonce 0#32 = X at BL HOE HXL
  obtain ⟨one, hone⟩ : ∃ one, oneL key nonce = one := ⟨_, rfl⟩
  rw [hone] at HOL HOE HTE
  clear hone
  have hr := rOf_lt one HOL.out
  have HR := Lib.hid hr
  have NA := Lib.hid (fun W => pnew_any one W HOL.out)
  have HK := Lib.hid hk; have HN := Lib.hid hn; have H3 := Lib.hid h3; have H4 := Lib.hid h4; have HS3 := Lib.hid S3; have HS4 := Lib.hid S4
  generalize rOf one = r at hr NA HR HTE
  generalize sOf one = s at NA HTE
  have WW3 := Lib.hid (fun g m A W hA hS H => writeWhole_any g r s m A k3 c3 aad W hr h3 h31 hA hS H)
  have WW4 := Lib.hid (fun g m A W hA hS H => writeWhole_any g r s m A k4 c4 x W hr h4 h41 hA hS H)
  have HA3 := Lib.hid (fun g hg => apart_ge (g := g) S3 h3 hg)
  have HA4 := Lib.hid (fun g hg => apart_ge (g := g) S4 h4 hg)
  have PL3 := Lib.hid (fun W => putLittle_any k3 8 W (by omega) (by omega))
  have PL4 := Lib.hid (fun W => putLittle_any k4 8 W (by omega) (by omega))
  have LL3 := Lib.hid (putLittle_len k3 8)
  have LL4 := Lib.hid (putLittle_len k4 8)
  have WL3 := Lib.hid (fun g m A W hA hS H => pwrite_any g r s m A 8 8 (putLittle k3 8) W hr (putLittle_len k3 8) (by omega) hA hS H)
  have WL4 := Lib.hid (fun g m A W hA hS H => pwrite_any g r s m A 8 8 (putLittle k4 8) W hr (putLittle_len k4 8) (by omega) hA hS H)
  have SA := Lib.hid (fun g m W H => pstSum_any g r s m W hr H)
  have HM : Hid ([] ++ whZ aad ++ whZ x ++ putLittle k3 8 ++ putLittle k4 8 = taggedL aad x) := by show _ = _; rw [taggedL, h3, h4]; simp only [List.nil_append]
  generalize putLittle k3 8 = L3 at PL3 LL3 WL3 HM
  generalize putLittle k4 8 = L4 at PL4 LL4 WL4 HM
  have q3 : (k3 : Int) ≤ 2147000000 := by omega
  have q4 : (k4 : Int) ≤ 2147000000 := by omega
  generalize zer16 = Z at hz hlz
  clear hk hn h3 h4 S3 S4 hr h31 h41
  have G := Lib.hid (heap3 w (.cells (key.map bv).toArray 22) (.cells (nonce.map bv).toArray 27) (.cells Z.toArray 23))
  go_enter Try.func18, Try.ntmps18
  go_upto_region 1 with (fail)
  generalize hV : ((w.alloc _).alloc _).alloc _ = W0 at G ⊢
  clear hV
  have GB : Hid (Below w.heap.size w W0) := G.out.2.2.2
  have GN : Hid (W0.heap[w.heap.size + 2]? = some (.cells Z.toArray 23 (0, 0))) := G.out.2.2.1
  go_upto_region 2 with (first
    | (refine wpList_ld rfl 22 (.tmp 4) rfl (load_arr arr32K rfl (i32K' key HK.out) G.out.1) ?_)
    | (refine wpList_ld rfl 27 (.tmp 5) rfl (load_arr arr12B rfl (i12B' nonce HN.out) G.out.2.1) ?_))
  refine (BL.out W0).mono ?_
  rintro e w1 ⟨rfl, hb1⟩
  have GB1 : Hid (Below w.heap.size w w1) := GB.out.step hb1
  have GN1 := Lib.hid ((hb1.block _ (lt_of_heap GN.out)).trans GN.out)
  clear hb1 G GB GN BL
  go_upto_region 2 with (first
    | (refine wpList_st rfl 31 (.tmp 9) (.tmp 13) rfl (store_arr (cs := X.map bv) (old := List.replicate 64 (Value.int .u8 0)) (by rw [List.length_map, HXL.out]; exact i64Bc) (bv_one _) (heap_alloc_new' w1 _) (by rw [List.length_map, HXL.out]; exact List.length_replicate)) ?_
       generalize hV : World.setRow _ _ _ = W2
       have M1 := Lib.hid (heap_of_setRow hV (heap_alloc_new' w1 _))
       have MB := Lib.hid (((Below.refl w1.heap.size w1).alloc (Nat.le_refl _) _).trans (below_of_setRow hV (Nat.le_refl w1.heap.size) (by simp)))
       clear hV)
    | fail)
  have GB2 : Hid (Below w.heap.size w W2) := GB1.out.step MB.out
  have GN2 := Lib.hid ((MB.out.block _ (lt_of_heap GN1.out)).trans GN1.out)
  clear GB1 GN1 MB
  generalize w1.heap.size = q at M1 ⊢
  have ar1 := arr_to arr64B s8 ⟨q, 0, none⟩ .i64 32 (by omega) (by omega)
  rw [show (32 : Int).toNat = 32 from rfl] at ar1
  have ar2 := arr_ptr32 (some ⟨q, 0, none⟩) 32 64 (by omega)
  have RO : Hid (W2.rangeAt q 0 (one.map bv)) := by
    intro j v hv
    rw [← HOE.out] at hv
    have hj := (List.getElem?_eq_some_iff.1 hv).1
    rw [List.length_map, List.length_take] at hj
    rw [Nat.zero_add, cell_of_heap M1.out, ← hv, List.map_take, List.getElem?_take_of_lt (by omega)]
  go_wp2_with (first
    | (refine wpList_ld rfl 22 (.tmp 15) rfl (run_loadAt_mid _ q 0 22 (one.map bv) _ RO.out arr32K rfl (i32K' one HOL.out)) ?_))
  refine (NA.out W2).mono ?_
  rintro e w3 ⟨g, hg, rfl, hP, hb3⟩
  have ST3 := Lib.hid hP
  have HG : Hid (w.heap.size + 2 < g) := Nat.lt_of_lt_of_le (lt_of_heap GN2.out) hg
  have GB3 : Hid (Below w.heap.size w w3) := GB2.out.step hb3
  have GN3 := Lib.hid ((hb3.block _ (lt_of_heap GN2.out)).trans GN2.out)
  have HGE : Hid (w.heap.size ≤ g) := by have := HG.out; show _ ≤ _; omega
  clear hP hg hb3 GB2 GN2 RO M1 ar1 ar2 NA HXL HOE
  go_wp2_with fail
  refine (WW3.out g [] A3 w3 (HA3.out g HGE.out) (HS3.out.below GB3.out) ST3.out).mono ?_
  rintro e w4 ⟨⟨v4, rfl⟩, hP, hgr⟩
  have ST4 := Lib.hid hP
  have GB4 : Hid (Below w.heap.size w w4) := GB3.out.trans (grown_below hgr HGE.out GB3.out.size)
  have GN4 := Lib.hid ((hgr.block _ (lt_of_heap GN3.out) (by have := HG.out; simp; omega)).trans GN3.out)
  clear hP hgr GB3 GN3 ST3
  go_wp2_with fail
  refine (WW4.out g _ A4 w4 (HA4.out g HGE.out) (HS4.out.below GB4.out) ST4.out).mono ?_
  rintro e w5 ⟨⟨v5, rfl⟩, hP, hgr⟩
  have ST5 := Lib.hid hP
  have GB5 : Hid (Below w.heap.size w w5) := GB4.out.trans (grown_below hgr HGE.out GB4.out.size)
  have GN5 := Lib.hid ((hgr.block _ (lt_of_heap GN4.out) (by have := HG.out; simp; omega)).trans GN4.out)
  clear hP hgr GB4 GN4 ST4
  go_wp2_with fail
  refine (PL3.out w5).mono ?_
  rintro e w6 ⟨q6, hq, rfl, hk, hb⟩
  have S6 := Lib.hid (sl_row LL3.out (by omega) hk)
  have A6 : Hid (0 < 8 → ApartG (some ⟨q6, 0, none⟩) g) := fun _ a ha => by
    injection ha with ha; rw [← ha]; have := ST5.out.lt'; show q6 ≠ g; omega
  have ST6 := Lib.hid (ST5.out.ext hb)
  have GB6 : Hid (Below w.heap.size w w6) := GB5.out.step hb
  have GN6 := Lib.hid ((hb.block _ (lt_of_heap GN5.out)).trans GN5.out)
  clear hq hk hb ST5 GB5 GN5
  go_wp2_with fail
  refine (WL3.out g _ (some ⟨q6, 0, none⟩) w6 A6.out S6.out ST6.out).mono ?_
  rintro e w7 ⟨⟨v7, rfl⟩, hP, hgr⟩
  have ST7 := Lib.hid hP
  have GB7 : Hid (Below w.heap.size w w7) := GB6.out.trans (grown_below hgr HGE.out GB6.out.size)
  have GN7 := Lib.hid ((hgr.block _ (lt_of_heap GN6.out) (by have := HG.out; simp; omega)).trans GN6.out)
  clear hP hgr GB6 GN6 ST6 S6 A6
  go_wp2_with fail
  refine (PL4.out w7).mono ?_
  rintro e w8 ⟨q8, hq, rfl, hk, hb⟩
  have S8 := Lib.hid (sl_row LL4.out (by omega) hk)
  have A8 : Hid (0 < 8 → ApartG (some ⟨q8, 0, none⟩) g) := fun _ a ha => by
    injection ha with ha; rw [← ha]; have := ST7.out.lt'; show q8 ≠ g; omega
  have ST8 := Lib.hid (ST7.out.ext hb)
  have GB8 : Hid (Below w.heap.size w w8) := GB7.out.step hb
  have GN8 := Lib.hid ((hb.block _ (lt_of_heap GN7.out)).trans GN7.out)
  clear hq hk hb ST7 GB7 GN7
  go_wp2_with fail
  refine (WL4.out g _ (some ⟨q8, 0, none⟩) w8 A8.out S8.out ST8.out).mono ?_
  rintro e w9 ⟨⟨v9, rfl⟩, hP, hgr⟩
  have ST9 := Lib.hid hP
  have GB9 : Hid (Below w.heap.size w w9) := GB8.out.trans (grown_below hgr HGE.out GB8.out.size)
  have GN9 := Lib.hid ((hgr.block _ (lt_of_heap GN8.out) (by have := HG.out; simp; omega)).trans GN8.out)
  clear hP hgr GB8 GN8 ST8 S8 A8
  go_wp2_with fail
  have ST9' := ST9.out
  rw [HM.out] at ST9'
  refine (SA.out g _ w9 ST9').mono ?_
  rw [HTE.out]
  rintro e w10 ⟨rfl, hb⟩
  have B10 : Hid (Below w.heap.size w w10) := GB9.out.step hb
  have N10 := Lib.hid ((hb.block _ (lt_of_heap GN9.out)).trans GN9.out)
  clear hb GB9 GN9 ST9 ST9'
  go_wp2_with (first
    | (refine wpList_st rfl 23 (.tmp 8) (.tmp 37) rfl (store_arr (cs := Q.map bv) (i16p Q LP.out) (bv_one _) N10.out (by rw [List.length_map, LP.out]; exact hlz.out)) ?_))
  have hres := setRow_heap w10 (w.heap.size + 2) _ (Q.map bv).toArray 23 _ N10.out
  exact bodyPost_ret (results_cell_row (P := Try.prog) rfl _ _ (w.heap.size + 2) 23 (Q.map bv).toArray (0, 0) _ rfl hres arr16P rfl (by rw [List.size_toArray]; exact i16p Q LP.out)) rfl ⟨rfl, B10.out.trans (grown_below (grown_setRow _ _ _) (by omega) B10.out.size)⟩
end Go.Proofs.Ytfcnahbbieldfaa
