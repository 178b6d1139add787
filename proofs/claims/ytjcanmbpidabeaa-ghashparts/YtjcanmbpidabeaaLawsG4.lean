/- The walk of the law GhashPads. -/
import Derived.Test.YtjcanmbpidabeaaGha4
import Derived.Test.YtjcanmbpidabeaaLaws1
import Derived.Test.YtjcanmbpidabeaaLawsS3
namespace Go.Proofs.Ytjcanmbpidabeaa
open Go.RowKit
set_option linter.unusedVariables false
set_option linter.unusedSimpArgs false
theorem grown_none {W W' : World} {B : Nat} (h : W.grownBy W' (Value.slice none 0 0).ownBlock) (hs : B ≤ W.heap.size) : Below B W W' :=
  ⟨h.os, h.tape, h.output, h.size, fun k hk => h.block k (by omega) (by simp [Value.ownBlock])⟩
theorem byteF_pad (bs : List UInt8) (k : Nat) : byteF (bs ++ List.replicate k 0) = byteF bs := by
  funext i
  unfold byteF
  by_cases h : i < bs.length
  · simp [List.getD, List.getElem?_append_left h]
  · have e : bs[i]? = none := List.getElem?_eq_none (by omega)
    rw [List.getD, List.getElem?_append_right (by omega), List.getD, e, List.getElem?_replicate]
    split <;> rfl
theorem gsum_pads (h bs : List UInt8) : gsumL h (bs ++ List.replicate (padN bs.length) 0) = gsumL h bs := by
  unfold gsumL
  rw [byteF_pad, List.length_append, List.length_replicate]
  congr 1
  unfold padN; omega
set_option maxHeartbeats 4000000 in
theorem ghashPads_walk (w : World) (h : List UInt8) (hh : h.length = 16) (A : Option Addr) (c : Nat) (bs : List UInt8) (hS : Sl w A c bs) :
    Calls Try.prog 8 #[.agg (h.map bv).toArray, .slice A bs.length c] w fun e w' => e = .returned (.bool true) ∧ Below w.heap.size w w' := by
  have q1 : bs.length ≤ 9223372036854775807 := by have := hS.1; have := hS.2.1; simp [maxLen] at this; omega
  by_cases ha : 300 < bs.length
  · go_enter Try.func8, Try.ntmps8
    go_wp2
    go_ret
    exact ⟨rfl, (Below.refl _ _).alloc (Nat.le_refl _) _⟩
  clear q1
  obtain ⟨n, hn⟩ : ∃ n, bs.length = n := ⟨_, rfl⟩
  have HP := Lib.hid (gsum_pads h bs)
  rw [hn] at ha HP ⊢
  have HN := Lib.hid hn; have HS := Lib.hid hS; have HH := Lib.hid hh
  have PD := Lib.hid (fun W => gpad_any n W (by omega))
  obtain ⟨k, hk⟩ : ∃ k, padN n = k := ⟨_, rfl⟩
  have hk16 : k < 16 := by rw [← hk]; unfold padN; omega
  have hkn : (((n + k : Nat) : Int) % 16) = 0 := by rw [← hk]; unfold padN; omega
  rw [hk] at HP PD
  clear hk hn hS hh
  have q := eql_bytes (P := Try.prog) arr16B Try.underlying5 s8 (gsumL h bs) (gsumL h bs) (gsumL_len _ _) (gsumL_len _ _)
  rw [decide_eq_true rfl] at q
  have G0 := Lib.hid (heap_alloc_new' w (.cells (h.map bv).toArray 22))
  have GB : Hid (Below w.heap.size w (w.alloc (.cells (h.map bv).toArray 22))) := (Below.refl _ _).alloc (Nat.le_refl _) _
  have GSA := Lib.hid (fun W hS => gsum_any h A n c bs W HH.out HN.out (by omega) hS)
  have GSB := Lib.hid (fun A' c' W hS => gsum_any h A' (n + k) c' (bs ++ List.replicate k 0) W HH.out (by rw [List.length_append, HN.out, List.length_replicate]) (by omega) hS)
  rw [HP.out] at GSB
  generalize gsumL h bs = Y at q GSA GSB
  have hn31 : 0 + n ≤ 2147483647 := by omega
  go_enter Try.func8, Try.ntmps8
  go_upto_region 3 with (fail)
  generalize hV : w.alloc _ = W0 at G0 GB ⊢
  clear hV
  have HS0 := Lib.hid (HS.out.below GB.out)
  go_wp2_with (
    at_builtin
    refine wpList_app8 rfl (.tmp 9) (.tmp 10) rfl W0.heap.size _ 0 [] rfl ?_ A n c W0.heap.size bs rfl ?_ ?_ ?_ ?_ ?_
    · exact own_heap (g := W0.heap.size) (heap_alloc_new' W0 _) (Nat.le_refl _) rfl (Nat.zero_le _)
    · exact HS0.out.2.2.below ((Below.refl _ _).alloc (Nat.le_refl _) _)
    · exact HN.out
    · exact hn31
    · simp
    rintro v1 w6 hown hgr
    have HB6 := Lib.hid (((Below.refl W0.heap.size W0).alloc (Nat.le_refl _) _).grown hgr (by simp) (ge_own W0.heap.size 0))
    have HO6 := Lib.hid hown
    clear hgr hown)
  have hown := HO6.out
  rw [List.nil_append, Nat.zero_add] at hown
  have HO := Lib.hid hown
  clear hown HO6
  refine (PD.out _).mono ?_
  rintro e w7 ⟨rfl, rfl⟩
  have hnk : n + k ≤ 2147483647 := by omega
  have hbs := Lib.hid HB6.out.size
  go_wp2_with (
    at_builtin
    refine wpList_app0 rfl (.tmp 11) (.tmp 14) rfl W0.heap.size v1 n bs rfl HO.out k rfl hnk hbs.out ?_
    rintro v8 w8 hown8 hgr8
    have HO8 := Lib.hid hown8
    have HG8 := Lib.hid hgr8
    clear hown8 hgr8)
  have hB8 : Below W0.heap.size w6 w8 := by
    have h0 := HO.out
    rcases h0.2 with ⟨rfl, _⟩ | ⟨g, cap, cur, rfl, hg, _⟩
    · exact grown_none HG8.out hbs.out
    · exact grown_below HG8.out hg hbs.out
  have NB := Lib.hid (GB.out.trans ((HB6.out.trans hB8).mono GB.out.size))
  have N0 := Lib.hid (((HB6.out.trans hB8).block _ (lt_of_heap G0.out)).trans G0.out)
  obtain ⟨A8, c8, rfl, hl8, hc8, hm8, hr8⟩ := own_read HO8.out
  have S8 : Hid (Sl w8 A8 c8 (bs ++ List.replicate k 0)) := ⟨by rw [hl8]; exact hc8, hm8, hr8⟩
  have SA := Lib.hid (HS.out.below NB.out)
  have HC8 := Lib.hid hc8
  clear hl8 hc8 hm8 hr8 hB8 HO8 HG8 HO HB6 HS0 HS G0 GB
  have hnk16 : Int.tmod ((n + k : Nat) : Int) 16 = 0 := by rw [Int.tmod_eq_emod_of_nonneg (by omega)]; exact hkn
  have LH : Hid (∀ W, Ext w8 W → (Instr.loadAt 22 (.pointer (some ⟨w.heap.size, 0, none⟩))).run Try.prog W = .ok (.agg (h.map bv).toArray) W) := fun W hW => load_arr arr16B rfl (i16l h HH.out) ((hW.block _ (lt_of_heap N0.out)).trans N0.out)
  have HX : Hid (Ext w8 w8.drew) := (Below.refl _ _).drew
  obtain ⟨m, hm⟩ : ∃ m, m = n + k := ⟨_, rfl⟩
  rw [← hm] at hnk16 GSB HC8 hkn hnk ⊢
  clear hm
  go_upto_region 4 with (fail)
  refine reg_start (by kernel_rfl) ?_
  try simp only [Act.put, List.setIfInBounds_toArray, List.set_cons_zero, List.set_cons_succ]
  generalize w8.drew = W9 at HX ⊢
  refine reg_take (v := ?_) 0 (some 16) rfl rfl (by kernel_rfl) (by kernel_rfl) (by kernel_rfl) (fun _ _ _ h => h) (by rfl) (fun W hW => ?_) ?_
  rotate_left
  · (go_simp; try rfl)
  simp only [Act.put, List.setIfInBounds_toArray, List.set_cons_zero, List.set_cons_succ]
  refine reg_take (v := ?_) 1 (some 17) rfl rfl (by kernel_rfl) (by kernel_rfl) (by kernel_rfl) (fun _ _ _ h => h) (by rfl) (fun W hW => ?_) ?_
  rotate_left
  · (go_simp; try rfl)
  simp only [Act.put, List.setIfInBounds_toArray, List.set_cons_zero, List.set_cons_succ]
  refine reg_take (v := ?_) 2 (some 18) rfl rfl (by kernel_rfl) (by kernel_rfl) (by kernel_rfl) (fun _ _ _ h => h) (by rfl) (fun W hW => ?_) ?_
  rotate_left
  · (go_simp; try rfl)
  simp only [Act.put, List.setIfInBounds_toArray, List.set_cons_zero, List.set_cons_succ]
  refine reg_take (v := ?_) 3 (some 19) rfl rfl (by kernel_rfl) (by kernel_rfl) (by kernel_rfl) (fun _ _ _ h => h) (by rfl) (fun W hW => ?_) ?_
  rotate_left
  · (go_simp; try rfl)
  simp only [Act.put, List.setIfInBounds_toArray, List.set_cons_zero, List.set_cons_succ]
  refine reg_take (v := ?_) 4 (some 20) rfl rfl (by kernel_rfl) (by kernel_rfl) (by kernel_rfl) (fun _ _ _ h => h) (by rfl) (fun W hW => ?_) ?_
  rotate_left
  · (go_simp; try rfl)
  simp only [Act.put, List.setIfInBounds_toArray, List.set_cons_zero, List.set_cons_succ]
  refine reg_load 5 (some 21) (fun W hW => LH.out W (Ext.trans HX.out hW)) rfl rfl rfl rfl (by kernel_rfl) (by kernel_rfl) (by kernel_rfl) (fun _ _ _ h => h) (by rfl) ?_
  simp only [Act.put, List.setIfInBounds_toArray, List.set_cons_zero, List.set_cons_succ]
  refine reg_take (v := ?_) 6 (some 22) rfl rfl (by kernel_rfl) (by kernel_rfl) (by kernel_rfl) (fun _ _ _ h => h) (by rfl) (fun W hW => ?_) ?_
  rotate_left
  · (go_simp; try rfl)
  simp only [Act.put, List.setIfInBounds_toArray, List.set_cons_zero, List.set_cons_succ]
  refine reg_load 8 (some 24) (fun W hW => LH.out W (Ext.trans HX.out hW)) rfl rfl rfl rfl (by kernel_rfl) (by kernel_rfl) (by kernel_rfl) (fun _ _ _ h => h) (by rfl) ?_
  simp only [Act.put, List.setIfInBounds_toArray, List.set_cons_zero, List.set_cons_succ]
  refine reg_take (v := ?_) 9 (some 25) rfl rfl (by kernel_rfl) (by kernel_rfl) (by kernel_rfl) (fun _ _ _ h => h) (by rfl) (fun W hW => ?_) ?_
  rotate_left
  · (go_simp; try rfl)
  simp only [Act.put, List.setIfInBounds_toArray, List.set_cons_zero, List.set_cons_succ]
  refine reg_eff 7 rfl (by kernel_rfl) (fun K hK => ?_)
  go_simp
  refine (GSA.out _ (SA.out.below HX.out)).mono ?_
  rintro e w10 ⟨rfl, hE⟩
  refine hK.out _ _ hE ?_
  have HX := Lib.hid (Ext.trans HX.out hE)
  clear hE hK K
  try simp only [Act.put, List.setIfInBounds_toArray, List.set_cons_zero, List.set_cons_succ]
  refine reg_eff 10 rfl (by kernel_rfl) (fun K hK => ?_)
  go_simp
  refine (GSB.out _ _ _ (S8.out.below HX.out)).mono ?_
  rintro e w11 ⟨rfl, hE⟩
  refine hK.out _ _ hE ?_
  have HX := Lib.hid (Ext.trans HX.out hE)
  clear hE hK K
  try simp only [Act.put, List.setIfInBounds_toArray, List.set_cons_zero, List.set_cons_succ]
  refine reg_take (v := ?_) 11 (some 27) rfl rfl (by kernel_rfl) (by kernel_rfl) (by kernel_rfl) (fun _ _ _ h => h) (by rfl) (fun W hW => ?_) ?_
  rotate_left
  · (go_simp; try rfl)
  simp only [Act.put, List.setIfInBounds_toArray, List.set_cons_zero, List.set_cons_succ]
  refine reg_take (v := ?_) 12 (some 28) rfl rfl (by kernel_rfl) (by kernel_rfl) (by kernel_rfl) (fun _ _ _ h => h) (by rfl) (fun W hW => ?_) ?_
  rotate_left
  · (go_simp; try rfl)
  simp only [Act.put, List.setIfInBounds_toArray, List.set_cons_zero, List.set_cons_succ]
  refine reg_take (v := ?_) 13 (some 29) rfl rfl (by kernel_rfl) (by kernel_rfl) (by kernel_rfl) (fun _ _ _ h => h) (by rfl) (fun W hW => ?_) ?_
  rotate_left
  · (go_simp; try rfl)
  simp only [Act.put, List.setIfInBounds_toArray, List.set_cons_zero, List.set_cons_succ]
  refine reg_eff 14 rfl (by kernel_rfl) (fun K hK => ?_)
  go_simp
  refine (gawake_any _).mono ?_
  rintro e w12 ⟨rfl, hE⟩
  refine hK.out _ _ hE ?_
  have HX := Lib.hid (Ext.trans HX.out hE)
  clear hE hK K
  try simp only [Act.put, List.setIfInBounds_toArray, List.set_cons_zero, List.set_cons_succ]
  refine reg_take (v := ?_) 15 (some 31) rfl rfl (by kernel_rfl) (by kernel_rfl) (by kernel_rfl) (fun _ _ _ h => h) (by rfl) (fun W hW => ?_) ?_
  rotate_left
  · (go_simp; try rfl)
  simp only [Act.put, List.setIfInBounds_toArray, List.set_cons_zero, List.set_cons_succ]
  refine reg_take (v := ?_) 16 (some 4) rfl rfl (by kernel_rfl) (by kernel_rfl) (by kernel_rfl) (fun _ _ _ h => h) (by rfl) (fun W hW => ?_) ?_
  rotate_left
  · (go_simp; try rfl)
  simp only [Act.put, List.setIfInBounds_toArray, List.set_cons_zero, List.set_cons_succ]
  refine reg_done (by kernel_rfl) ?_
  go_wp2
  go_ret
  exact ⟨rfl, NB.out.step HX.out⟩
end Go.Proofs.Ytjcanmbpidabeaa
