/- Joined: Cbc1 RefK2 LiftC LiftN KeyZ Cbc2 Cbc3 Cbc4 Cbc5 CtrM Count Awake1 Laws3 Ctr1 Reg4. -/
import Derived.Test.YtjmpbcfbfbjenaaRep
import Derived.Test.YtjmpbcfbfbjenaaApp
import Derived.Test.YtjmpbcfbfbjenaaLift
import Derived.Deep.Strs
import Derived.Test.YtjmpbcfbfbjenaaAes10
import Derived.Test.YtjmpbcfbfbjenaaBits3
import Derived.Test.YtjmpbcfbfbjenaaSha7
import Derived.Laws.Cover3
import Derived.RangeFuncNested
import Derived.RangeFuncBound
import Derived.RangeFuncCalls
import Derived.RangeFuncLeaves
import Derived.Shelf.Abstract
import Derived.Shelf.RegionOpen
import Derived.WalkKit
import Derived.OwnWalkIn
import Derived.TacticsInMore
import Derived.LoopNIn
import Derived.LoopIn
import Derived.RangeFuncBox
import Derived.Test.YtjmpbcfbfbjenaaBits2
import Derived.OpenShut
import Derived.Test.YtjmpbcfbfbjenaaLiftA
import Derived.Test.YtjmpbcfbfbjenaaReg
import Derived.Test.YtjmpbcfbfbjenaaReg3
/- Package cbc: Pad, Unpad; the law file's own awake (layer 9). -/
namespace Go.Proofs.Ytjmpbcfbfbjenaa
open Go.RowKit
set_option linter.unusedVariables false
set_option linter.unusedSimpArgs false
set_option maxRecDepth 100000
theorem Sl.extb {w w' : World} {A : Option Addr} {c : Nat} {bs : List UInt8} (h : Sl w A c bs) (hb : Ext w w') : Sl w' A c bs := h.below hb
/-- how many bytes are put behind m bytes -/
def padK9 (m : Nat) : Nat := 16 - m % 16
theorem padK9_le (m : Nat) : 1 ≤ padK9 m ∧ padK9 m ≤ 16 := by unfold padK9; omega
/-- what is put behind m bytes -/
def padB (m : Nat) : List UInt8 := List.replicate (padK9 m) (UInt8.ofNat (padK9 m))
theorem padB_len (m : Nat) : (padB m).length = padK9 m := List.length_replicate
set_option maxHeartbeats 1000000 in
theorem cpad_any (m : Nat) (w : World) (hm : m ≤ 9223372036854775807) :
    Calls Try.prog 38 #[.int .i64 (m : Int)] w fun e w' => ∃ g, w.heap.size ≤ g ∧ e = .returned (.slice (some ⟨g, 0, none⟩) (padK9 m) (padK9 m)) ∧ Sl w' (some ⟨g, 0, none⟩) (padK9 m) (padB m) ∧ Below w.heap.size w w' := by
  have hk := padK9_le m
  have hkd : padK9 m = 16 - m % 16 := rfl
  have RP := Lib.hid (fun A c W (hS : Sl W A c [UInt8.ofNat (padK9 m)]) => rep_any A c (UInt8.ofNat (padK9 m)) (padK9 m) W hk.1 (by omega) hS)
  change Hid (∀ A c W (hS : Sl W A c [UInt8.ofNat (padK9 m)]), Calls _ _ _ _ fun e w' => e = _ ∧ Sl w' _ _ (padB m) ∧ _) at RP
  have hxk : Hid (((UInt8.ofNat (padK9 m)).toNat : Int) = (padK9 m : Int)) := by show _ = _; rw [UInt8.toNat_ofNat', Nat.mod_eq_of_lt (by omega)]
  generalize padB m = PB at RP ⊢
  generalize UInt8.ofNat (padK9 m) = x at RP hxk
  obtain ⟨r, hr⟩ : ∃ r, r = m % 16 := ⟨_, rfl⟩
  generalize padK9 m = k at RP hk hkd hxk ⊢
  have u1 : (m : Int) % 16 = (r : Int) := by omega
  have u2 : 16 - (r : Int) = (k : Int) := by omega
  have u3 : (k : Int) % 256 = (k : Int) := by omega
  have u4 : IntKind.u8.wrap (k : Int) = (k : Int) := by rw [IntKind.wrap_u8]; omega
  have e1 : ¬ ((m : Int) < 0) := by omega
  clear hr hkd
  go_enter Try.func38, Try.ntmps38
  go_wp2_with fail
  have S0 : Hid (Sl (w.alloc (.cells #[.int .u8 (k : Int)] 5)) (some ⟨w.heap.size, 0, none⟩) 1 [x]) := by
    have h := sl_row (W := w.alloc (.cells #[.int .u8 (k : Int)] 5)) (g := w.heap.size) (t := 5) (fr := (0, 0)) (bs := [x]) (n := 1) rfl (by omega) (by rw [heap_alloc_new' w _]; simp [bv, hxk.out])
    exact h
  generalize hV : w.alloc _ = W0 at S0 ⊢
  have FB := Lib.hid (below_of_alloc hV (Nat.le_refl w.heap.size))
  clear hV
  refine (RP.out _ _ W0 S0.out).mono ?_
  rintro e w1 ⟨rfl, hS1, hb1⟩
  have S1 := Lib.hid hS1; have B1 := Lib.hid (FB.out.step hb1)
  have HG : Hid (w.heap.size ≤ W0.heap.size) := FB.out.size
  clear hS1 hb1
  go_wp2
  go_ret
  exact ⟨_, HG.out, rfl, S1.out, B1.out⟩
theorem cpad_neg (m : Int) (w : World) (hm : m < 0) : Calls Try.prog 38 #[.int .i64 m] w fun e w' => e = .returned (.slice none 0 0) ∧ w = w' := by
  go_enter Try.func38, Try.ntmps38
  go_wp2
  go_ret
  exact ⟨rfl, rfl⟩
set_option maxHeartbeats 1000000 in
theorem awake9_any (w : World) : Calls Try.prog 17 #[] w fun e w' => e = .returned (.bool true) ∧ Below w.heap.size w w' := by
  have P14 : Hid (∀ W, Calls Try.prog 38 #[.int .i64 14] W fun e w' => ∃ g, W.heap.size ≤ g ∧ e = .returned (.slice (some ⟨g, 0, none⟩) 2 2) ∧ Sl w' (some ⟨g, 0, none⟩) 2 [2, 2] ∧ Below W.heap.size W w') := fun W => cpad_any 14 W (by omega)
  have P16 : Hid (∀ W, Calls Try.prog 38 #[.int .i64 16] W fun e w' => ∃ g, W.heap.size ≤ g ∧ e = .returned (.slice (some ⟨g, 0, none⟩) 16 16) ∧ Sl w' (some ⟨g, 0, none⟩) 16 (padB 16) ∧ Below W.heap.size W w') := fun W => cpad_any 16 W (by omega)
  go_enter Try.func17, Try.ntmps17
  go_wp2_with fail
  refine (P14.out w).mono ?_
  rintro e w1 ⟨g1, hg1, rfl, hS1, hb1⟩
  have B1 := Lib.hid hb1
  have cv := conv_string w1 (some ⟨g1, 0, none⟩) 2 2 [2, 2] rfl hS1
  have hq : ((strOf [2, 2]).toList == [2, 2]) = true := by rw [show (strOf [2, 2]).toList = [2, 2] from by rw [ByteArray.toList_eq]; rfl]; rfl
  generalize strOf [2, 2] = s at cv hq
  clear hb1 hS1 hg1
  go_wp2_with fail
  refine (P16.out w1).mono ?_
  rintro e w2 ⟨g2, hg2, rfl, hS2, hb2⟩
  have B2 := Lib.hid (B1.out.step hb2)
  clear hb2 hS2 hg2
  go_wp2
  go_ret
  exact ⟨rfl, B2.out⟩
/-- where a padding begins, if there is one -/
def upO (b : List UInt8) : Option Nat :=
  if b.length = 0 ∨ b.length % 16 ≠ 0 then none
  else if (b.getD (b.length - 1) 0).toNat ≤ b.length ∧ b.drop (b.length - (b.getD (b.length - 1) 0).toNat) = padB (b.length - (b.getD (b.length - 1) 0).toNat) then some (b.length - (b.getD (b.length - 1) 0).toNat) else none
def upE : Option Nat → Int
  | none => 16
  | some _ => 0
def cupV : Option Nat → Int
  | none => 0
  | some k => (k : Int)
def upR : Option Nat → Int
  | none => -1
  | some k => (k : Int)
theorem c_sl_cell {w : World} {A : Option Addr} {c i : Nat} {bs : List UInt8} (h : Sl w A c bs) (hi : i < bs.length) : ∃ b o, A = some ⟨b, o, none⟩ ∧ b < w.heap.size ∧ ∀ j, j < bs.length → w.cell? ⟨b, o + j, none⟩ = some (.int .u8 ((bs.getD j 0).toNat : Int)) := by
  obtain ⟨b, o, rfl, hb, hc⟩ := h.2.2.at_ (by rw [List.length_map]; omega)
  refine ⟨b, o, rfl, hb, fun j hj => ?_⟩
  have := hc j (bv bs[j]) (by simp [hj])
  rw [this]; simp [List.getD, hj, bv]
theorem c_cut_ge {w : World} {A : Option Addr} {c k : Nat} {l : List UInt8} (h : Sl w A c l) (hk : k ≤ l.length) : Sl w (cutS A c k) (c - k) (l.drop k) := sl_cut h hk
set_option maxHeartbeats 2000000 in
theorem unpad_any (A : Option Addr) (n c : Nat) (b : List UInt8) (w : World) (hl : b.length = n) (hn : n ≤ 2147483647) (hS : Sl w A c b) :
    Calls Try.prog 43 #[.slice A n c] w fun e w' => e = .returned (.tuple #[.int .i64 (cupV (upO b)), .int .i64 (upE (upO b))]) ∧ Below w.heap.size w w' := by
  by_cases h0 : n = 0
  · have HU : Hid (upO b = none) := by show _ = _; rw [upO, if_pos (.inl (hl.trans h0))]
    rw [HU.out]
    have e1 : ((n : Int) == 0) = true := by simp [h0]
    clear hl hS h0
    go_enter Try.func43, Try.ntmps43
    go_wp2
    go_ret2
    exact ⟨rfl, Below.refl _ _⟩
  have e1 : ((n : Int) == 0) = false := by simp; omega
  obtain ⟨r, hr⟩ : ∃ r, r = n % 16 := ⟨_, rfl⟩
  have e2 : (n : Int) % 16 = (r : Int) := by omega
  by_cases hr0 : r = 0
  · have e3 : ((r : Int) != 0) = false := by simp [hr0]
    obtain ⟨z, hz⟩ : ∃ z, b.getD (n - 1) 0 = z := ⟨_, rfl⟩
    have HU : Hid (upO b = if z.toNat ≤ n ∧ b.drop (n - z.toNat) = padB (n - z.toNat) then some (n - z.toNat) else none) := by show _ = _; rw [upO, if_neg (by rw [hl]; omega), hl, hz]
    rw [HU.out]
    obtain ⟨b0, o0, hA, _, hcell⟩ := c_sl_cell hS (i := n - 1) (by omega)
    have c1 := hcell (n - 1) (by omega)
    rw [hz] at c1
    obtain ⟨n1, hn1⟩ : ∃ n1, n1 = n - 1 := ⟨_, rfl⟩
    rw [← hn1] at c1
    have e4 : (n : Int) - 1 = (n1 : Int) := by omega
    have e5 : (n1 : Int) < (n : Int) := by omega
    have HS := Lib.hid hS; have HL := Lib.hid hl; have HA := Lib.hid hA
    have hz8 := z.toNat_lt
    clear hcell hr hr0 hl hS hn1
    by_cases hzn : z.toNat ≤ n
    · obtain ⟨m, hm⟩ : ∃ m, m = n - z.toNat := ⟨_, rfl⟩
      have e6 : (n : Int) - (z.toNat : Int) = (m : Int) := by omega
      have e7 : ¬ ((m : Int) < 0) := by omega
      have e8 : (m : Int) ≤ (n : Int) := by omega
      rw [← hm]
      have HMN : Hid (m ≤ n) := by show _ ≤ _; omega
      have sl := cut_from uT s8 A n c .i64 (m : Int) (by omega) (by omega)
      rw [Int.toNat_natCast] at sl
      have HP := Lib.hid (fun W => cpad_any m W (by omega))
      have hpk := padK9_le m
      have hpl := padB_len m
      have HE := Lib.hid (fun A' c' W hS hS' => equal_n (cutS A c m) A' (n - m) (padK9 m) (c - m) c' (b.drop m) (padB m) W (by rw [List.length_drop, HL.out]) hpl hS hS' (by omega) (by omega))
      generalize padB m = PB at HP HE HU ⊢
      generalize padK9 m = k at HP HE hpk
      have HX : Hid (Ext w w.drew) := (Below.refl _ _).drew
      have HEW := Lib.hid hA
      subst hA
      clear hm hz hpl
      by_cases hq : b.drop m = PB
      · rw [if_pos ⟨hzn, hq⟩]
        rw [decide_eq_true hq] at HE
        clear hq
        go_enter Try.func43, Try.ntmps43
        go_upto_region 4 with (fail)
        refine reg_start (by kernel_rfl) ?_
        try simp only [Act.put, List.setIfInBounds_toArray, List.set_cons_zero, List.set_cons_succ]
        refine reg_take (v := ?_) 0 (some 24) rfl rfl (by kernel_rfl) (by kernel_rfl) (by kernel_rfl) (fun _ _ _ h => h) (by rfl) (fun W hW => ?_) ?_
        rotate_left
        · (go_simp; try rfl)
        simp only [Act.put, List.setIfInBounds_toArray, List.set_cons_zero, List.set_cons_succ]
        refine reg_take (v := ?_) 1 (some 25) rfl rfl (by kernel_rfl) (by kernel_rfl) (by kernel_rfl) (fun _ _ _ h => h) (by rfl) (fun W hW => ?_) ?_
        rotate_left
        · (go_simp; try rfl)
        simp only [Act.put, List.setIfInBounds_toArray, List.set_cons_zero, List.set_cons_succ]
        refine reg_take (v := ?_) 2 (some 26) rfl rfl (by kernel_rfl) (by kernel_rfl) (by kernel_rfl) (fun _ _ _ h => h) (by rfl) (fun W hW => ?_) ?_
        rotate_left
        · (go_simp; try rfl)
        simp only [Act.put, List.setIfInBounds_toArray, List.set_cons_zero, List.set_cons_succ]
        refine reg_take (v := ?_) 3 (some 27) rfl rfl (by kernel_rfl) (by kernel_rfl) (by kernel_rfl) (fun _ _ _ h => h) (by rfl) (fun W hW => ?_) ?_
        rotate_left
        · (go_simp; try rfl)
        simp only [Act.put, List.setIfInBounds_toArray, List.set_cons_zero, List.set_cons_succ]
        refine reg_take (v := ?_) 4 (some 28) rfl rfl (by kernel_rfl) (by kernel_rfl) (by kernel_rfl) (fun _ _ _ h => h) (by rfl) (fun W hW => ?_) ?_
        rotate_left
        · (go_simp; try rfl)
        simp only [Act.put, List.setIfInBounds_toArray, List.set_cons_zero, List.set_cons_succ]
        refine reg_take (v := ?_) 5 (some 29) rfl rfl (by kernel_rfl) (by kernel_rfl) (by kernel_rfl) (fun _ _ _ h => h) (by rfl) (fun W hW => ?_) ?_
        rotate_left
        · (go_simp; try rfl)
        simp only [Act.put, List.setIfInBounds_toArray, List.set_cons_zero, List.set_cons_succ]
        refine reg_take (v := ?_) 6 (some 30) rfl rfl (by kernel_rfl) (by kernel_rfl) (by kernel_rfl) (fun _ _ _ h => h) (by rfl) (fun W hW => ?_) ?_
        rotate_left
        · (go_simp; try rfl)
        simp only [Act.put, List.setIfInBounds_toArray, List.set_cons_zero, List.set_cons_succ]
        refine reg_eff 7 rfl (by kernel_rfl) (fun K hK => ?_)
        go_simp
        refine (HP.out _).mono ?_
        rintro e w1 ⟨g1, hg1, rfl, hS1, hE⟩
        have S1 := Lib.hid hS1
        clear hS1 hg1
        refine hK.out _ _ hE ?_
        have HX := Lib.hid (Ext.trans HX.out hE)
        clear hE hK K
        try simp only [Act.put, List.setIfInBounds_toArray, List.set_cons_zero, List.set_cons_succ]
        refine reg_eff 8 rfl (by kernel_rfl) (fun K hK => ?_)
        go_simp
        refine (HE.out _ _ _ (sl_cut (HS.out.below HX.out) (by rw [HL.out]; exact HMN.out)) S1.out).mono ?_
        rintro e w2 ⟨rfl, hE⟩
        refine hK.out _ _ hE ?_
        have HX := Lib.hid (Ext.trans HX.out hE)
        clear hE hK K
        try simp only [Act.put, List.setIfInBounds_toArray, List.set_cons_zero, List.set_cons_succ]
        refine reg_take (v := ?_) 9 (some 33) rfl rfl (by kernel_rfl) (by kernel_rfl) (by kernel_rfl) (fun _ _ _ h => h) (by rfl) (fun W hW => ?_) ?_
        rotate_left
        · (go_simp; try rfl)
        simp only [Act.put, List.setIfInBounds_toArray, List.set_cons_zero, List.set_cons_succ]
        refine reg_take (v := ?_) 10 (some 34) rfl rfl (by kernel_rfl) (by kernel_rfl) (by kernel_rfl) (fun _ _ _ h => h) (by rfl) (fun W hW => ?_) ?_
        rotate_left
        · (go_simp; try rfl)
        simp only [Act.put, List.setIfInBounds_toArray, List.set_cons_zero, List.set_cons_succ]
        refine reg_done (by kernel_rfl) ?_
        go_wp2
        go_ret2
        exact ⟨rfl, HX.out⟩
      · rw [if_neg (fun h => hq h.2)]
        rw [decide_eq_false hq] at HE
        clear hq
        go_enter Try.func43, Try.ntmps43
        go_upto_region 4 with (fail)
        refine reg_start (by kernel_rfl) ?_
        try simp only [Act.put, List.setIfInBounds_toArray, List.set_cons_zero, List.set_cons_succ]
        refine reg_take (v := ?_) 0 (some 24) rfl rfl (by kernel_rfl) (by kernel_rfl) (by kernel_rfl) (fun _ _ _ h => h) (by rfl) (fun W hW => ?_) ?_
        rotate_left
        · (go_simp; try rfl)
        simp only [Act.put, List.setIfInBounds_toArray, List.set_cons_zero, List.set_cons_succ]
        refine reg_take (v := ?_) 1 (some 25) rfl rfl (by kernel_rfl) (by kernel_rfl) (by kernel_rfl) (fun _ _ _ h => h) (by rfl) (fun W hW => ?_) ?_
        rotate_left
        · (go_simp; try rfl)
        simp only [Act.put, List.setIfInBounds_toArray, List.set_cons_zero, List.set_cons_succ]
        refine reg_take (v := ?_) 2 (some 26) rfl rfl (by kernel_rfl) (by kernel_rfl) (by kernel_rfl) (fun _ _ _ h => h) (by rfl) (fun W hW => ?_) ?_
        rotate_left
        · (go_simp; try rfl)
        simp only [Act.put, List.setIfInBounds_toArray, List.set_cons_zero, List.set_cons_succ]
        refine reg_take (v := ?_) 3 (some 27) rfl rfl (by kernel_rfl) (by kernel_rfl) (by kernel_rfl) (fun _ _ _ h => h) (by rfl) (fun W hW => ?_) ?_
        rotate_left
        · (go_simp; try rfl)
        simp only [Act.put, List.setIfInBounds_toArray, List.set_cons_zero, List.set_cons_succ]
        refine reg_take (v := ?_) 4 (some 28) rfl rfl (by kernel_rfl) (by kernel_rfl) (by kernel_rfl) (fun _ _ _ h => h) (by rfl) (fun W hW => ?_) ?_
        rotate_left
        · (go_simp; try rfl)
        simp only [Act.put, List.setIfInBounds_toArray, List.set_cons_zero, List.set_cons_succ]
        refine reg_take (v := ?_) 5 (some 29) rfl rfl (by kernel_rfl) (by kernel_rfl) (by kernel_rfl) (fun _ _ _ h => h) (by rfl) (fun W hW => ?_) ?_
        rotate_left
        · (go_simp; try rfl)
        simp only [Act.put, List.setIfInBounds_toArray, List.set_cons_zero, List.set_cons_succ]
        refine reg_take (v := ?_) 6 (some 30) rfl rfl (by kernel_rfl) (by kernel_rfl) (by kernel_rfl) (fun _ _ _ h => h) (by rfl) (fun W hW => ?_) ?_
        rotate_left
        · (go_simp; try rfl)
        simp only [Act.put, List.setIfInBounds_toArray, List.set_cons_zero, List.set_cons_succ]
        refine reg_eff 7 rfl (by kernel_rfl) (fun K hK => ?_)
        go_simp
        refine (HP.out _).mono ?_
        rintro e w1 ⟨g1, hg1, rfl, hS1, hE⟩
        have S1 := Lib.hid hS1
        clear hS1 hg1
        refine hK.out _ _ hE ?_
        have HX := Lib.hid (Ext.trans HX.out hE)
        clear hE hK K
        try simp only [Act.put, List.setIfInBounds_toArray, List.set_cons_zero, List.set_cons_succ]
        refine reg_eff 8 rfl (by kernel_rfl) (fun K hK => ?_)
        go_simp
        refine (HE.out _ _ _ (sl_cut (HS.out.below HX.out) (by rw [HL.out]; exact HMN.out)) S1.out).mono ?_
        rintro e w2 ⟨rfl, hE⟩
        refine hK.out _ _ hE ?_
        have HX := Lib.hid (Ext.trans HX.out hE)
        clear hE hK K
        try simp only [Act.put, List.setIfInBounds_toArray, List.set_cons_zero, List.set_cons_succ]
        refine reg_take (v := ?_) 9 (some 33) rfl rfl (by kernel_rfl) (by kernel_rfl) (by kernel_rfl) (fun _ _ _ h => h) (by rfl) (fun W hW => ?_) ?_
        rotate_left
        · (go_simp; try rfl)
        simp only [Act.put, List.setIfInBounds_toArray, List.set_cons_zero, List.set_cons_succ]
        refine reg_take (v := ?_) 10 (some 34) rfl rfl (by kernel_rfl) (by kernel_rfl) (by kernel_rfl) (fun _ _ _ h => h) (by rfl) (fun W hW => ?_) ?_
        rotate_left
        · (go_simp; try rfl)
        simp only [Act.put, List.setIfInBounds_toArray, List.set_cons_zero, List.set_cons_succ]
        refine reg_done (by kernel_rfl) ?_
        go_wp2
        go_ret2
        exact ⟨rfl, HX.out⟩
    · have e7 : ((n : Int) - (z.toNat : Int) < 0) := by omega
      rw [if_neg (fun h => hzn h.1)]
      have HX : Hid (Ext w w.drew) := (Below.refl _ _).drew
      subst hA
      clear hz
      go_enter Try.func43, Try.ntmps43
      go_upto_region 4 with (fail)
      refine reg_start (by kernel_rfl) ?_
      try simp only [Act.put, List.setIfInBounds_toArray, List.set_cons_zero, List.set_cons_succ]
      refine reg_take (v := ?_) 0 (some 24) rfl rfl (by kernel_rfl) (by kernel_rfl) (by kernel_rfl) (fun _ _ _ h => h) (by rfl) (fun W hW => ?_) ?_
      rotate_left
      · (go_simp; try rfl)
      simp only [Act.put, List.setIfInBounds_toArray, List.set_cons_zero, List.set_cons_succ]
      refine reg_take (v := ?_) 1 (some 25) rfl rfl (by kernel_rfl) (by kernel_rfl) (by kernel_rfl) (fun _ _ _ h => h) (by rfl) (fun W hW => ?_) ?_
      rotate_left
      · (go_simp; try rfl)
      simp only [Act.put, List.setIfInBounds_toArray, List.set_cons_zero, List.set_cons_succ]
      refine reg_take (v := ?_) 2 (some 26) rfl rfl (by kernel_rfl) (by kernel_rfl) (by kernel_rfl) (fun _ _ _ h => h) (by rfl) (fun W hW => ?_) ?_
      rotate_left
      · (go_simp; try rfl)
      simp only [Act.put, List.setIfInBounds_toArray, List.set_cons_zero, List.set_cons_succ]
      refine reg_skip 3 (some 27) rfl rfl (by kernel_rfl) (by kernel_rfl) (by kernel_rfl) (fun _ _ _ h => h) (by rfl) ?_
      simp only [Act.put, List.setIfInBounds_toArray, List.set_cons_zero, List.set_cons_succ]
      refine reg_skip 4 (some 28) rfl rfl (by kernel_rfl) (by kernel_rfl) (by kernel_rfl) (fun _ _ _ h => h) (by rfl) ?_
      simp only [Act.put, List.setIfInBounds_toArray, List.set_cons_zero, List.set_cons_succ]
      refine reg_skip 5 (some 29) rfl rfl (by kernel_rfl) (by kernel_rfl) (by kernel_rfl) (fun _ _ _ h => h) (by rfl) ?_
      simp only [Act.put, List.setIfInBounds_toArray, List.set_cons_zero, List.set_cons_succ]
      refine reg_skip 6 (some 30) rfl rfl (by kernel_rfl) (by kernel_rfl) (by kernel_rfl) (fun _ _ _ h => h) (by rfl) ?_
      simp only [Act.put, List.setIfInBounds_toArray, List.set_cons_zero, List.set_cons_succ]
      refine reg_eff 7 rfl (by kernel_rfl) (fun K hK => ?_)
      go_simp
      refine hK.out _ _ (Ext.refl _) ?_
      clear hK K
      try simp only [Act.put, List.setIfInBounds_toArray, List.set_cons_zero, List.set_cons_succ]
      refine reg_eff 8 rfl (by kernel_rfl) (fun K hK => ?_)
      go_simp
      refine hK.out _ _ (Ext.refl _) ?_
      clear hK K
      try simp only [Act.put, List.setIfInBounds_toArray, List.set_cons_zero, List.set_cons_succ]
      refine reg_skip 9 (some 33) rfl rfl (by kernel_rfl) (by kernel_rfl) (by kernel_rfl) (fun _ _ _ h => h) (by rfl) ?_
      simp only [Act.put, List.setIfInBounds_toArray, List.set_cons_zero, List.set_cons_succ]
      refine reg_take (v := ?_) 10 (some 34) rfl rfl (by kernel_rfl) (by kernel_rfl) (by kernel_rfl) (fun _ _ _ h => h) (by rfl) (fun W hW => ?_) ?_
      rotate_left
      · (go_simp; try rfl)
      simp only [Act.put, List.setIfInBounds_toArray, List.set_cons_zero, List.set_cons_succ]
      refine reg_done (by kernel_rfl) ?_
      go_wp2
      go_ret2
      exact ⟨rfl, HX.out⟩
  · have e3 : ((r : Int) != 0) = true := by simpa using hr0
    have HU : Hid (upO b = none) := by show _ = _; rw [upO, if_pos (.inr (by rw [hl]; omega))]
    rw [HU.out]
    clear hl hS hr
    go_enter Try.func43, Try.ntmps43
    go_wp2
    go_ret2
    exact ⟨rfl, Below.refl _ _⟩
end Go.Proofs.Ytjmpbcfbfbjenaa

/- palfreyref09.Padded. -/
namespace Go.Proofs.Ytjmpbcfbfbjenaa
open Go.RowKit
set_option linter.unusedVariables false
set_option linter.unusedSimpArgs false
set_option maxRecDepth 100000
theorem k_own_below {w w' : World} {base : Nat} {e : TypeId} {s : Nat} {v : Value} {n : Nat} {xs : List Value} (h : w.ownsRow base e s v n xs) (hb : Below w.heap.size w w') : w'.ownsRow base e s v n xs := by
  obtain ⟨h0, h | ⟨g, cap, cur, hv, hg, hh, r⟩⟩ := h
  · exact ⟨h0, .inl h⟩
  · exact ⟨h0, .inr ⟨g, cap, cur, hv, hg, (hb.block _ (lt_of_heap hh)).trans hh, r⟩⟩
theorem k_own_ge {w : World} {base : Nat} {e : TypeId} {s : Nat} {v : Value} {n : Nat} {xs : List Value} (h : w.ownsRow base e s v n xs) {B : Nat} (hB : B ≤ base) : ∀ g, v.ownBlock = some g → B ≤ g := fun g hq => Nat.le_trans hB (h.lt g hq).1
theorem k_own_alloc {w : World} {base : Nat} {e : TypeId} {s : Nat} {v : Value} {n : Nat} {xs : List Value} (h : w.ownsRow base e s v n xs) (o : Obj) : (w.alloc o).ownsRow base e s v n xs := k_own_below h ((Below.refl _ _).alloc (Nat.le_refl _) o)
theorem rep_snoc (bs : List UInt8) (x : UInt8) (j : Nat) : (bs ++ List.replicate j x) ++ [x] = bs ++ List.replicate (j + 1) x := by rw [List.append_assoc, List.replicate_succ']
theorem row_byte (W : World) (x : UInt8) (d : Int) (hx : ((x.toNat : Int)) = d) : RowAt (W.alloc (.cells #[.int .u8 d] 5)) (W.heap.size + 1) (some ⟨W.heap.size, 0, none⟩) (([x] : List UInt8).map bv) := by
  subst hx
  exact row_of_heap (bs := [x]) (heap_alloc_new' W (.cells (([x] : List UInt8).map bv).toArray 5)) (Nat.lt_succ_self _)
set_option maxHeartbeats 2000000 in
theorem refPadK_any (A : Option Addr) (n c : Nat) (bs : List UInt8) (w : World) (hl : bs.length = n) (hn : n ≤ 2147000000) (hS : Sl w A c bs) :
    Calls Try.prog 41 #[.slice A n c] w fun e w' => ∃ v, e = .returned v ∧ w'.ownsRow w.heap.size 5 1 v (n + padK9 n) ((bs ++ padB n).map bv) ∧ Below w.heap.size w w' := by
  have HL := Lib.hid hl; have HS := Lib.hid hS
  have hk := padK9_le n
  have hkd : padK9 n = 16 - n % 16 := rfl
  have hPB : padB n = List.replicate (padK9 n) (UInt8.ofNat (padK9 n)) := rfl
  have hxk : Hid (((UInt8.ofNat (padK9 n)).toNat : Int) = (padK9 n : Int)) := by show _ = _; rw [UInt8.toNat_ofNat', Nat.mod_eq_of_lt (by omega)]
  rw [hPB]
  generalize UInt8.ofNat (padK9 n) = x at hxk ⊢
  obtain ⟨d, hd⟩ : ∃ d, padK9 n = d := ⟨_, rfl⟩
  rw [hd] at hk hkd hxk ⊢
  have u2 : 16 - (n : Int) % 16 = (d : Int) := by omega
  have u3 : (d : Int) % 256 = (d : Int) := by omega
  have u4 : IntKind.u8.wrap (d : Int) = (d : Int) := by rw [IntKind.wrap_u8]; omega
  have hn31 : 0 + n ≤ 2147483647 := by omega
  obtain ⟨L, HLL⟩ : ∃ L, Hid (bs ++ List.replicate d x = L) := ⟨_, rfl⟩
  rw [HLL.out]
  clear hl hS hkd hd hPB
  go_enter Try.func41, Try.ntmps41
  go_wp2_with (
    at_builtin
    refine wpList_app8 rfl (.tmp 6) (.tmp 7) rfl w.heap.size _ 0 [] rfl ?_ A n c w.heap.size bs rfl ?_ ?_ ?_ ?_ ?_
    · exact own_heap (g := w.heap.size) (heap_alloc_new' w _) (Nat.le_refl _) rfl (Nat.zero_le _)
    · exact HS.out.2.2.below ((Below.refl _ _).alloc (Nat.le_refl _) _)
    · exact HL.out
    · exact hn31
    · simp
    rintro v1 w1 hown hgr
    have HB1 := Lib.hid (((Below.refl w.heap.size w).alloc (Nat.le_refl _) _).grown hgr (by simp) (ge_own w.heap.size 0))
    rw [List.nil_append, Nat.zero_add] at hown
    obtain ⟨A1, c1, rfl, _⟩ := own_read hown
    have HO1 := Lib.hid hown
    clear hgr hown)
  go_loopw [3, 5] (fun v3 v5 wr => ∃ (j m : Nat) (A' : Option Addr) (c' : Nat), j ≤ d ∧ Hid (m = n + j) ∧ v3 = .slice A' m c' ∧ v5 = .int .i64 (j : Int) ∧ Hid (wr.ownsRow w.heap.size 5 1 (.slice A' m c') m ((bs ++ List.replicate j x).map bv)) ∧ Hid (Below w.heap.size w wr)) (fun v3 v5 _ => d - (intOf v5).toNat)
  case atStart => exact ⟨0, n, A1, c1, Nat.zero_le _, rfl, rfl, rfl, by rw [List.replicate_zero, List.append_nil]; exact HO1, HB1⟩
  case round =>
    clear HO1 HB1
    obtain ⟨j, m, A', c', hj, HM, rfl, rfl, HO, HB⟩ := hrel
    have hm31 : m + 1 ≤ 2147483647 := by have h1 := HM.out; omega
    by_cases hlt : j < d
    · have q1 : (j : Int) < (d : Int) := by omega
      obtain ⟨m2, hm2⟩ : ∃ m2, m2 = m + 1 := ⟨_, rfl⟩
      have HM2 := Lib.hid hm2
      have HR := Lib.hid (row_byte wr x (d : Int) hxk.out)
      clear hm2
      go_wp2_with (
        at_builtin
        refine wpList_app8 rfl (.tmp 18) (.tmp 21) rfl w.heap.size _ m (bs ++ List.replicate j x) rfl ?_ (some ⟨wr.heap.size, 0, none⟩) 1 1 (wr.heap.size + 1) [x] rfl ?_ rfl hm31 ?_ ?_
        · exact k_own_alloc HO.out _
        · exact HR.out
        · simp; have := HB.out.size; omega
        rintro v2 w2 hown hgr
        rw [rep_snoc, ← HM2.out] at hown
        obtain ⟨A2, c2, rfl, _⟩ := own_read hown
        have O2 := Lib.hid hown
        have B2 := Lib.hid ((HB.out.alloc HB.out.size (.cells #[.int .u8 (d : Int)] 5)).grown hgr (by simp; have := HB.out.size; omega) (k_own_ge HO.out (Nat.le_refl _)))
        clear hown hgr)
      go_roundw
      case rel => exact ⟨j + 1, m2, A2, c2, hlt, by have h1 := HM.out; have h2 := HM2.out; show _ = _; omega, rfl, by go_num, O2, B2⟩
      case measure => simp [intOf]; omega
    · have q1 : ¬ ((j : Int) < (d : Int)) := by omega
      have HJ : Hid (j = d) := by show _ = _; omega
      go_wp2
      go_ret
      have HO2 : Hid (wr.ownsRow w.heap.size 5 1 (.slice A' (n + d) c') (n + d) (L.map bv)) := by
        have h := HO.out
        rw [HM.out, HJ.out, HLL.out] at h
        exact h
      have hm := HM.out
      rw [HJ.out] at hm
      exact ⟨_, rfl, by subst hm; exact HO2.out, HB.out⟩
end Go.Proofs.Ytjmpbcfbfbjenaa

/- Rows of integers within a struct. -/
namespace Go.Proofs.Ytjmpbcfbfbjenaa
open Go.RowKit Go.ChangeShapes Go.WideShapes Go.ChangeAt
set_option maxRecDepth 100000
set_option linter.unusedVariables false
set_option linter.unusedSimpArgs false
/-- cells that read as a row of integers -/
theorem cells_ints {H : Type} {enc : TypeId × Value → H} {P : Program} {W : World} {b0 : Nat} {sp : Nat → Bool} {held : Bool} {t e : TypeId} {n : Nat} {k : IntKind} {cs : List Value} {fuel : Nat} {x : DataW H × List MemPlace}
    (ht : P.underlying t = some (.array n e)) (he : P.underlying e = some (.int k)) (hce : P.cellsOf e = 1) (hct : P.cellsOf t = n)
    (hf : DataW.trod enc P W b0 sp held fuel t cs = some x) :
    ∃ zs : List Int, cs = zs.map (Value.int k) ∧ zs.length = n ∧ ∀ z ∈ zs, (Lit.int k z).wf = true := by
  obtain ⟨xs, m, _, _, hl, hxl, hget⟩ := DataW.trod_array ht hf
  rw [hce] at hget
  have hcl : cs.length = n := by rw [hl, hct]
  have key : ∀ i, i < n → ∃ z, cs[i]? = some (.int k z) ∧ (Lit.int k z).wf = true := by
    intro i hi
    have h1 := hget i hi
    have hx : ∃ y, xs[i]? = some y := ⟨xs[i], List.getElem?_eq_getElem (by omega)⟩
    obtain ⟨y, hy⟩ := hx
    rw [hy] at h1
    obtain ⟨z, hz, _, hw⟩ := DataW.trod_int he h1
    refine ⟨z, ?_, hw⟩
    rw [Nat.mul_one] at hz
    have := congrArg (fun l => l[0]?) hz
    simpa [List.getElem?_take] using this
  refine ⟨cs.map (fun v => match v with | .int _ z => z | _ => 0), ?_, by rw [List.length_map, hcl], ?_⟩
  · rw [List.map_map]
    apply List.ext_getElem?
    intro i
    by_cases hi : i < n
    · obtain ⟨z, hz, _⟩ := key i hi
      simp [hz]
    · rw [List.getElem?_eq_none (by omega), List.getElem?_eq_none (by simp; omega)]
  · intro z hz
    obtain ⟨v, hv, rfl⟩ := List.mem_map.1 hz
    obtain ⟨i, hi, rfl⟩ := List.mem_iff_getElem.1 hv
    obtain ⟨z, hz, hw⟩ := key i (by omega)
    rw [List.getElem?_eq_getElem hi, Option.some.injEq] at hz
    rw [hz]; exact hw
end Go.Proofs.Ytjmpbcfbfbjenaa

/- A key, whether it is long, and an IV, that come in (layer 8). -/
namespace Go.Proofs.Ytjmpbcfbfbjenaa
open Go.RowKit Go.ChangeShapes Go.WideShapes Go.ChangeAt
set_option maxRecDepth 100000
set_option linter.unusedVariables false
set_option linter.unusedSimpArgs false
def kCells (k : List UInt8) (b : Bool) (n : List UInt8) : List Value := k.map bv ++ ([.bool b] ++ n.map bv)
theorem split49 (L : List Value) (h : L.length = 49) : L = L.take 32 ++ ((L.drop 32).take 1 ++ (L.drop 33).take 16) := by
  have h1 := List.take_append_drop 32 L
  have h2 := List.take_append_drop 1 (L.drop 32)
  rw [List.drop_drop] at h2
  have h4 : (L.drop 33).take 16 = L.drop 33 := List.take_of_length_le (by simp; omega)
  rw [h4, show L.drop 33 = L.drop (32 + 1) from rfl, h2, h1]
theorem k_of_cells {H : Type} {enc : TypeId × Value → H} {W : World} {b0 : Nat} {sp : Nat → Bool} {held : Bool} {cs : List Value} {fuel : Nat} {x : DataW H × List MemPlace}
    (hf : DataW.trod enc Try.prog W b0 sp held fuel 25 cs = some x) : ∃ k b n, cs = kCells k b n ∧ k.length = 32 ∧ n.length = 16 := by
  obtain ⟨y0, y1, y2, m, _, hl, h0, h1, h2⟩ := Go.Deep.trod_struct3 Try.underlying25 hf
  have hc : Try.prog.cellsOf 25 = 49 := by kernel_rfl
  have c0 : Try.prog.cellsOf 22 = 32 := by kernel_rfl
  have c1 : Try.prog.cellsOf 4 = 1 := by kernel_rfl
  have c2 : Try.prog.cellsOf 23 = 16 := by kernel_rfl
  rw [hc] at hl
  rw [c0] at h0
  rw [c1] at h1
  rw [c2] at h2
  obtain ⟨z0, e0, hz0, w0⟩ := cells_ints Try.underlying22 Try.underlying5 (by kernel_rfl) c0 h0
  obtain ⟨b, e1, _⟩ := DataW.trod_bool Try.underlying4 h1
  obtain ⟨z2, e2, hz2, w2⟩ := cells_ints Try.underlying23 Try.underlying5 (by kernel_rfl) c2 h2
  obtain ⟨k, rfl⟩ := bytes_of w0
  obtain ⟨n, rfl⟩ := bytes_of w2
  refine ⟨k, b, n, ?_, by simpa using hz0, by simpa using hz2⟩
  have hs := split49 cs hl
  simp only [List.drop_zero] at e0
  rw [e0, e1, e2] at hs
  rw [hs]
  simp [kCells, Function.comp_def]
  rfl
theorem open_palfreylaw08_Key {H : Type} {enc : TypeId × Value → H} {W : World} {base b0 : Nat} {sp : Nat → Bool} {held : Bool} {v : Value} {d : DataW H} {p : List MemPlace}
    (hv : Value.okWide Try.prog W .any base 25 v) (h : DataW.Trod enc Try.prog W b0 sp held 25 v d p) :
    ∃ y : List UInt8 × Bool × List UInt8, v = .agg (kCells y.1 y.2.1 y.2.2).toArray ∧ y.1.length = 32 ∧ y.2.2.length = 16 := by
  obtain ⟨cs, rfl, hsz⟩ := okWide_struct Try.underlying25 hv
  obtain ⟨fuel, hf⟩ := h
  simp only [Value.cells] at hf
  obtain ⟨k, b, n, e, hk, hn⟩ := k_of_cells hf
  refine ⟨(k, b, n), ?_, hk, hn⟩
  congr 1
  apply Array.ext'
  rw [e]
end Go.Proofs.Ytjmpbcfbfbjenaa

/- A key with its IV in memory, and its round keys (the laws' own functions bytes, keys). -/
namespace Go.Proofs.Ytjmpbcfbfbjenaa
open Go.RowKit
set_option linter.unusedVariables false
set_option maxRecDepth 100000
set_option linter.unusedSimpArgs false
theorem k_strOf_beq (a b : List UInt8) : ((strOf a).toList == (strOf b).toList) = decide (a = b) := by
  have h : ∀ l : List UInt8, (strOf l).toList = l := fun l => by rw [ByteArray.toList_eq]; rfl
  rw [h, h]; rw [Bool.eq_iff_iff]; simp
theorem k_strOf_size (a : List UInt8) : (strOf a).size = a.length := by simp [strOf, ByteArray.size]
theorem k_strOf_append (a b : List UInt8) : strOf a ++ strOf b = strOf (a ++ b) := by
  apply ByteArray.ext; simp [strOf]
theorem Sl.extk {w w' : World} {A : Option Addr} {c : Nat} {bs : List UInt8} (h : Sl w A c bs) (hb : Ext w w') : Sl w' A c bs := h.below hb
theorem k_range_ext {W W' : World} {g o : Nat} {cs : List Value} (h : W.rangeAt g o cs) (hg : g < W.heap.size) (hE : Ext W W') : W'.rangeAt g o cs := fun j v hv => (hE.cell hg).trans (h j v hv)
/-- which bytes of it are the key -/
def keyB (k : List UInt8) (b : Bool) : List UInt8 := if b then k else k.take 16
def keyW (b : Bool) : Nat := if b then 8 else 4
theorem keyB_len (k : List UInt8) (b : Bool) (hk : k.length = 32) : (keyB k b).length = 4 * keyW b := by
  cases b <;> simp [keyB, keyW, hk]
def KZ (W : World) (g : Nat) (k : List UInt8) (b : Bool) (n : List UInt8) : Prop := g < W.heap.size ∧ W.rangeAt g 0 (k.map bv) ∧ W.cell? ⟨g, 32, none⟩ = some (.bool b) ∧ W.rangeAt g 33 (n.map bv)
theorem KZ.ext {W W' : World} {g : Nat} {k n : List UInt8} {b : Bool} (h : KZ W g k b n) (hE : Ext W W') : KZ W' g k b n :=
  ⟨Nat.lt_of_lt_of_le h.1 hE.size, k_range_ext h.2.1 h.1 hE, (hE.cell h.1).trans h.2.2.1, k_range_ext h.2.2.2 h.1 hE⟩
theorem kz_of {W : World} {g : Nat} {k n : List UInt8} {b : Bool} {post : List Value} {t : TypeId} {fr : Nat × Nat} (h : W.heap[g]? = some (.cells (kCells k b n ++ post).toArray t fr)) (hk : k.length = 32) (hn : n.length = 16) : KZ W g k b n := by
  refine ⟨lt_of_heap h, fun j v hv => ?_, ?_, fun j v hv => ?_⟩
  · have hj := (List.getElem?_eq_some_iff.1 hv).1
    rw [cell_of_heap h, kCells, Nat.zero_add, List.append_assoc, List.getElem?_append_left hj]; exact hv
  · rw [cell_of_heap h, kCells, List.append_assoc, List.getElem?_append_right (by simp [hk]), List.length_map, hk]; rfl
  · have hj := (List.getElem?_eq_some_iff.1 hv).1
    rw [cell_of_heap h, kCells, List.append_assoc, List.getElem?_append_right (by simp [hk]; omega), List.length_map, hk, List.append_assoc, List.getElem?_append_right (by simp; omega), List.getElem?_append_left (by simp at hj ⊢; omega)]
    rw [show 33 + j - 32 - [Value.bool b].length = j by simp; omega]; exact hv
theorem kz_new (w : World) (k n : List UInt8) (b : Bool) (t : TypeId) (hk : k.length = 32) (hn : n.length = 16) : KZ (w.alloc (.cells (kCells k b n).toArray t)) w.heap.size k b n :=
  kz_of (post := []) (by rw [List.append_nil]; exact heap_alloc_new' w _) hk hn
theorem kCells_len (k n : List UInt8) (b : Bool) (hk : k.length = 32) (hn : n.length = 16) : (kCells k b n).length = 49 := by simp [kCells, hk, hn]
theorem KZ.key {W : World} {g : Nat} {k n : List UInt8} {b : Bool} (h : KZ W g k b n) (hk : k.length = 32) : Sl W (some ⟨g, 0, none⟩) 32 (keyB k b) := by
  refine ⟨by rw [keyB_len k b hk]; cases b <;> simp [keyW], by simp [maxLen], .inr ⟨g, 0, rfl, h.1, fun j u hu => ?_⟩⟩
  refine h.2.1 j u ?_
  cases b
  · simp only [keyB, Bool.false_eq_true, if_false, List.map_take] at hu
    rw [List.getElem?_take] at hu
    split at hu
    · exact hu
    · cases hu
  · exact hu
theorem arr32Z : Try.prog.underlying 22 = some (.array 32 5) := Try.underlying22
theorem i16z (l : List UInt8) (h : l.length = 16) : (Try.prog.info? 23).map (·.size) = some (l.map bv).length := by rw [List.length_map, h]; exact i16B
set_option maxHeartbeats 1000000 in
theorem kbytes_any (k : List UInt8) (b : Bool) (n : List UInt8) (w : World) (hk : k.length = 32) (hn : n.length = 16) :
    Calls Try.prog 11 #[.agg (kCells k b n).toArray] w fun e w' => e = .returned (.slice (some ⟨w.heap.size, 0, none⟩) (4 * keyW b) 32) ∧ Sl w' (some ⟨w.heap.size, 0, none⟩) 32 (keyB k b) ∧ Below w.heap.size w w' := by
  have Z0 := kz_new w k n b 25 hk hn
  have HS := Lib.hid (Z0.key hk)
  have hc := Z0.2.2.1
  have sl := arr_to arr32Z s8 ⟨w.heap.size, 0, none⟩ .i64 16 (by omega) (by omega)
  rw [show (16 : Int).toNat = 16 from rfl] at sl
  have sl2 := arr_all arr32Z s8 ⟨w.heap.size, 0, none⟩
  clear Z0
  generalize (kCells k b n).toArray = Z at HS hc ⊢
  generalize keyB k b = KB at HS ⊢
  cases b
  · go_enter Try.func11, Try.ntmps11
    go_wp2
    go_ret
    exact ⟨rfl, HS.out, (Below.refl _ _).alloc (Nat.le_refl _) _⟩
  · go_enter Try.func11, Try.ntmps11
    go_wp2
    go_ret
    exact ⟨rfl, HS.out, (Below.refl _ _).alloc (Nat.le_refl _) _⟩
theorem iKey : (Try.prog.info? 25).map (·.size) = some 49 := by kernel_rfl
set_option maxHeartbeats 1000000 in
theorem keys_any (k : List UInt8) (b : Bool) (n : List UInt8) (w : World) (hk : k.length = 32) (hn : n.length = 16) :
    Calls Try.prog 8 #[.agg (kCells k b n).toArray] w fun e w' => ∃ g, e = .returned (.tuple #[.pointer (some ⟨g, 0, none⟩), .bool true]) ∧ w.heap.size ≤ g ∧ KeyAt w' g (expandL (keyB k b)) (keyW b + 6) ∧ Below w.heap.size w w' := by
  have HBY := Lib.hid (fun W => kbytes_any k b n W hk hn)
  have HL := Lib.hid (kCells_len k n b hk hn)
  have HKL := Lib.hid (keyB_len k b hk)
  have HW : Hid (keyW b = 4 ∨ keyW b = 8) := by show _ ∨ _; cases b <;> simp [keyW]
  generalize kCells k b n = Z at HBY HL ⊢
  generalize keyB k b = KB at HBY HKL ⊢
  generalize keyW b = nk at HBY HKL HW ⊢
  clear hk hn
  go_enter Try.func8, Try.ntmps8
  go_wp2_with (first
    | (refine wpList_ld rfl 25 (.tmp 1) rfl (load_arr Try.underlying25 rfl (by rw [HL.out]; exact iKey) (heap_alloc_new' w _)) ?_)
    | fail)
  generalize hV : w.alloc _ = W0
  have B0 := Lib.hid (below_of_alloc hV (Nat.le_refl w.heap.size))
  clear hV
  refine (HBY.out W0).mono ?_
  rintro e w1 ⟨rfl, hS1, hb1⟩
  have S1 := Lib.hid hS1; have B1 := Lib.hid (B0.out.step hb1)
  clear hS1 hb1
  go_wp2_with fail
  refine (expand_any (some ⟨W0.heap.size, 0, none⟩) (4 * nk) 32 nk KB w1 HKL.out rfl HW.out S1.out).mono ?_
  rintro e w2 ⟨g, rfl, hg, hK, hb2⟩
  have K2 := Lib.hid hK; have B2 := Lib.hid (B1.out.step hb2)
  have HG : Hid (w.heap.size ≤ g) := Nat.le_trans B1.out.size hg
  clear hK hb2 hg
  go_wp2
  go_ret2
  exact ⟨g, rfl, HG.out, K2.out, B2.out⟩
end Go.Proofs.Ytjmpbcfbfbjenaa

/- bytes.Clone and cbc.xor. -/
namespace Go.Proofs.Ytjmpbcfbfbjenaa
open Go.RowKit
set_option linter.unusedVariables false
set_option linter.unusedSimpArgs false
set_option maxRecDepth 100000
/-- a slice of 16 bytes or more taken as an array: a pointer to its first -/
theorem arr_ptr16 (A : Option Addr) (n c : Nat) (hn : 16 ≤ n) (W : World) : (Instr.arrayAt 23 (.slice A n c)).run Try.prog W = .ok (.pointer A) W :=
  run_arrayAt W _ _ _ A n c arr16B hn
theorem eql_nil8 (A : Option Addr) (n c : Nat) (W : World) : (binOp .eql 26 (.slice A n c) (.slice none 0 0)).run Try.prog W = .ok (.bool A.isNone) W :=
  Lib.run_eql_slice_nil W _ _ A n c 0 0 uT
theorem own_none (w : World) (base : Nat) : w.ownsRow base 5 1 (.slice none 0 0) 0 (([] : List UInt8).map bv) := World.ownsRow_nil _ _ _ _
set_option maxHeartbeats 1000000 in
theorem clone_any (A : Option Addr) (n c : Nat) (bs : List UInt8) (w : World) (hl : bs.length = n) (hn : n ≤ 2147000000) (hS : Sl w A c bs) :
    Calls Try.prog 37 #[.slice A n c] w fun e w' => ∃ v, e = .returned v ∧ w'.ownsRow w.heap.size 5 1 v n (bs.map bv) ∧ Below w.heap.size w w' := by
  have HS := Lib.hid hS; have HL := Lib.hid hl
  have q := eql_nil8 A n c
  have hn31 : 0 + n ≤ 2147483647 := by omega
  cases A with
  | none =>
    have hb : bs = [] := by
      rcases hS.2.2 with h | ⟨b, o, h, _⟩
      · simpa using h
      · cases h
    subst hb
    obtain rfl : n = 0 := hl.symm
    rw [show Option.isNone (none : Option Addr) = true from rfl] at q
    clear hS hl
    go_enter Try.func37, Try.ntmps37
    go_wp2
    go_ret
    exact ⟨_, rfl, own_none _ _, Below.refl _ _⟩
  | some a =>
    rw [show Option.isNone (some a) = false from rfl] at q
    clear hS hl
    go_enter Try.func37, Try.ntmps37
    go_wp2_with (
      at_builtin
      refine wpList_app8 rfl (.tmp 5) (.tmp 6) rfl w.heap.size _ 0 [] rfl ?_ (some a) n c w.heap.size bs rfl ?_ ?_ ?_ ?_ ?_
      · exact own_heap (g := w.heap.size) (heap_alloc_new' w _) (Nat.le_refl _) rfl (Nat.zero_le _)
      · exact HS.out.2.2.below ((Below.refl _ _).alloc (Nat.le_refl _) _)
      · exact HL.out
      · exact hn31
      · simp
      rintro v1 w1 hown hgr
      have HB1 := Lib.hid (((Below.refl w.heap.size w).alloc (Nat.le_refl _) _).grown hgr (by simp) (ge_own w.heap.size 0))
      rw [List.nil_append, Nat.zero_add] at hown
      have HO1 := Lib.hid hown
      clear hgr hown)
    go_ret
    exact ⟨_, rfl, HO1.out, HB1.out⟩
set_option maxHeartbeats 2000000 in
theorem cxor_any (a b : List UInt8) (w : World) (ha : a.length = 16) (hb : b.length = 16) :
    Calls Try.prog 40 #[.agg (a.map bv).toArray, .agg (b.map bv).toArray] w fun e w' => e = .returned (.agg ((xorL a b).map bv).toArray) ∧ Below w.heap.size w w' := by
  have HA := Lib.hid ha; have HB := Lib.hid hb
  have hz : ∀ W, (zeroValue 23).run Try.prog W = .ok (.agg zeros16.toArray) W := fun W => by kernel_rfl
  have HX16 : Hid ((xorL a b).length = 16) := by show _ = _; rw [xorL_len, ha, hb]; rfl
  have XC := Lib.hid (fun A B W hS hS' => xor_n A B 16 16 16 16 16 a b W ha hb rfl hS hS' (by omega) (by omega))
  generalize xorL a b = X at XC HX16 ⊢
  have sl1 := arr_all arr16B s8 ⟨w.heap.size, 0, none⟩
  have sl2 := arr_all arr16B s8 ⟨w.heap.size + 1, 0, none⟩
  have hres0 : Hid (∃ Z : List Value, Z = zeros16 ∧ Z.length = 16) := ⟨_, rfl, rfl⟩
  clear ha hb
  go_enter Try.func40, Try.ntmps40
  go_upto_region 1 with (fail)
  have HH := heap3 w (.cells (a.map bv).toArray 23) (.cells (b.map bv).toArray 23) (.cells zeros16.toArray 23)
  have hsz : Hid ((((w.alloc (.cells (a.map bv).toArray 23)).alloc (.cells (b.map bv).toArray 23)).alloc (.cells zeros16.toArray 23)).heap.size = w.heap.size + 3) := by show _ = _; simp
  generalize hV : ((w.alloc _).alloc _).alloc _ = W0 at HH hsz ⊢
  have N0 := Lib.hid HH.1; have N1 := Lib.hid HH.2.1; have N2 := Lib.hid HH.2.2.1; have NB := Lib.hid HH.2.2.2
  clear hV HH
  have N0 : Hid (W0.drew.heap[w.heap.size]? = _) := N0.out
  have N1 : Hid (W0.drew.heap[w.heap.size + 1]? = _) := N1.out
  have N2 : Hid (W0.drew.heap[w.heap.size + 2]? = _) := N2.out
  have NB : Hid (Below w.heap.size w W0.drew) := NB.out.drew
  refine regS_start (AnyR) (by kernel_rfl) ?_
  try simp only [Act.put, List.setIfInBounds_toArray, List.set_cons_zero, List.set_cons_succ]
  generalize W0.drew = W3 at N0 N1 N2 NB ⊢
  have HX : Hid (AnyR W3 W3) := trivial
  refine regS_take (v := ?_) 0 (some 5) rfl rfl (by kernel_rfl) (by kernel_rfl) (by kernel_rfl) (fun _ _ _ h => h) (by rfl) (fun W hW => ?_) ?_
  rotate_left
  · (go_simp; try rfl)
  simp only [Act.put, List.setIfInBounds_toArray, List.set_cons_zero, List.set_cons_succ]
  refine regS_take (v := ?_) 1 (some 6) rfl rfl (by kernel_rfl) (by kernel_rfl) (by kernel_rfl) (fun _ _ _ h => h) (by rfl) (fun W hW => ?_) ?_
  rotate_left
  · (go_simp; try rfl)
  simp only [Act.put, List.setIfInBounds_toArray, List.set_cons_zero, List.set_cons_succ]
  refine regS_eff 2 rfl (by kernel_rfl) (fun K hK => ?_)
  go_simp
  refine (XC.out (some ⟨w.heap.size, 0, none⟩) (some ⟨w.heap.size + 1, 0, none⟩) W3 (sl_row HA.out (by omega) N0.out) (sl_row HB.out (by omega) N1.out)).mono ?_
  rintro e w4 ⟨g3, hg3, rfl, hk3, hE0⟩
  have L2 := Lib.hid ((hE0.block _ (lt_of_heap N2.out)).trans N2.out)
  have LB := Lib.hid (NB.out.step hE0)
  have K3 := Lib.hid hk3
  have ap := arr_ptr16 (some ⟨g3, 0, none⟩) 16 16 (Nat.le_refl _)
  have hE : AnyR W3 w4 := trivial
  clear hE0 hk3 hg3
  refine hK.out _ _ hE ?_
  have HX := Lib.hid (Pre.trans HX.out hE)
  clear hE hK K
  try simp only [Act.put, List.setIfInBounds_toArray, List.set_cons_zero, List.set_cons_succ]
  refine regS_take (v := ?_) 3 (some 8) rfl rfl (by kernel_rfl) (by kernel_rfl) (by kernel_rfl) (fun _ _ _ h => h) (by rfl) (fun W hW => ?_) ?_
  rotate_left
  · (go_simp; try rfl)
  simp only [Act.put, List.setIfInBounds_toArray, List.set_cons_zero, List.set_cons_succ]
  refine regS_eff 4 rfl (by kernel_rfl) (fun K hK => ?_)
  refine step_ld rfl 23 (.tmp 8) rfl (load_arr arr16B rfl (i16z X HX16.out) K3.out) ?_
  have hE : AnyR w4 w4 := trivial
  refine hK.out _ _ hE ?_
  have HX := Lib.hid (Pre.trans HX.out hE)
  clear hE hK K
  try simp only [Act.put, List.setIfInBounds_toArray, List.set_cons_zero, List.set_cons_succ]
  refine regS_eff 5 rfl (by kernel_rfl) (fun K hK => ?_)
  refine step_st1 rfl 23 (.tmp 4) (.tmp 9) rfl (store_arr (cs := X.map bv) (i16z X HX16.out) (bv_one _) L2.out (by rw [List.length_map, HX16.out]; rfl)) ?_
  generalize hV : World.setRow _ _ _ = W7
  have M2 := Lib.hid (heap_of_setRow hV L2.out)
  have MB := Lib.hid (LB.out.trans (below_of_setRow hV (by omega) LB.out.size))
  have hE : AnyR w4 W7 := trivial
  clear hV
  refine hK.out _ _ hE ?_
  have HX := Lib.hid (Pre.trans HX.out hE)
  clear hE hK K
  try simp only [Act.put, List.setIfInBounds_toArray, List.set_cons_zero, List.set_cons_succ]
  refine regS_done (by kernel_rfl) ?_
  simp only [List.getElem_toArray, List.getElem_cons_succ, List.getElem_cons_zero, List.set_cons_zero, List.set_cons_succ]
  go_wp2_with fail
  exact bodyPost_ret (results_cell_row (P := Try.prog) rfl _ _ (w.heap.size + 2) 23 (X.map bv).toArray (0, 0) _ rfl M2.out arr16B rfl (by rw [List.size_toArray]; exact i16z X HX16.out)) rfl ⟨rfl, MB.out⟩
end Go.Proofs.Ytjmpbcfbfbjenaa

/- cbc.blocks: the iterator's contract. -/
namespace Go.Proofs.Ytjmpbcfbfbjenaa
open Go.RowKit Go.Shelf
set_option linter.unusedVariables false
set_option linter.unusedSimpArgs false
set_option maxRecDepth 100000
attribute [local go_sem] Oper.semAt_some
/-- a load in a round, by its run -/
theorem wpListIn_ld {P : Program} {F : Fence} {nF : Nat} {w : World} {ops : Array Oper} {rest : List Oper} {o : Oper} {a : Act} {Q : Exit → Act → World → Prop} (hg : o.guard = none) (ty : TypeId) (x : Operand) (ho : o.op = .load ty x) {p v : Value} (hx : a.eval x = p)
    (hrun : (Instr.loadAt ty p).run P w = .ok v w) (h : wpListIn F nF P ops Q rest (a.put o.dst v) w) : wpListIn F nF P ops Q (o :: rest) a w := by
  refine wpListIn_plain hg fun K' hK' => ?_
  unfold Oper.wpIn
  refine ⟨by simp [Oper.about, ho], ?_⟩
  rw [Oper.semAt_plain F _ _ (by rw [ho]; intro c hc'; cases hc')]
  unfold execOp
  simp only [ho, hx, Sem.run_bind, hrun, Result.andThen_ok]
  exact hK' _ _ h
/-- a block: 16 bytes -/
abbrev Blk := { l : List UInt8 // l.length = 16 }
def blkAt (bs : List UInt8) (k : Nat) : Blk := ⟨(List.range 16).map (fun j => bs.getD (16 * k + j) 0), by simp⟩
def blkUp (bs : List UInt8) (k : Nat) : List Blk := (List.range k).map (blkAt bs)
theorem blkUp_succ (bs : List UInt8) (k : Nat) : blkUp bs (k + 1) = blkUp bs k ++ [blkAt bs k] := by simp [blkUp, List.range_succ]
theorem blkUp_len (bs : List UInt8) (k : Nat) : (blkUp bs k).length = k := by simp [blkUp]
theorem blk_range {w : World} {b off len k : Nat} {bs : List UInt8} (hc : ∀ j, j < len → w.cell? ⟨b, off + j, none⟩ = some (.int .u8 ((bs.getD j 0).toNat : Int))) (hk : 16 * k + 16 ≤ len) : w.rangeAt b (off + 16 * k) ((blkAt bs k).1.map bv) := fun j v hv => by
  have hj : j < 16 := by
    have := (List.getElem?_eq_some_iff.1 hv).1
    simpa [blkAt] using this
  have hv' : v = bv (bs.getD (16 * k + j) 0) := by
    simp only [blkAt, List.map_map, List.getElem?_map, List.getElem?_range hj, Option.map_some, Function.comp, Option.some.injEq] at hv
    exact hv.symm
  rw [hv', Nat.add_assoc]
  exact hc _ (by omega)
theorem cut16 (b off n c p : Nat) (hp : p + 16 ≤ n) (hn : n ≤ c) (W : World) :
    (Instr.sliceAt 26 (.slice (some ⟨b, off, none⟩) n c) (some (.int .i64 (p : Int))) (some (.int .i64 ((p : Int) + 16))) none).run Try.prog W = .ok (.slice (some ⟨b, off + p, none⟩) 16 (c - p)) W := by
  have h := cut_mid (P := Try.prog) uT s8 (some ⟨b, off, none⟩) n c .i64 .i64 (p : Int) ((p : Int) + 16) (by omega) (by omega) (by omega) W
  rw [h, Int.toNat_natCast, show ((p : Int) + 16).toNat - p = 16 by omega, cutS, if_neg (by omega)]
  simp [Addr.add_mid]
/-- what a round that goes on keeps: all that lay below n₀, and the iterator's own box -/
def KpB (n₀ Bs : Nat) (W W' : World) : Prop := Below n₀ W W' ∧ W'.cell? ⟨Bs, 0, none⟩ = W.cell? ⟨Bs, 0, none⟩
theorem KpB.refl (n₀ Bs : Nat) (W : World) : KpB n₀ Bs W W := ⟨Below.refl _ _, rfl⟩
theorem KpB.trans {n₀ Bs : Nat} {A B C : World} (h : KpB n₀ Bs A B) (h' : KpB n₀ Bs B C) : KpB n₀ Bs A C := ⟨h.1.trans h'.1, h'.2.trans h.2⟩
set_option maxHeartbeats 2000000 in
/-- the closure: for i := range len(b) / 16 { if !yield(block) { return } } -/
theorem blocks1_in (F : Fence) (n : Nat) (hf : F.fn 79) (hro : F.round = none) (hn : 1 ≤ n) (l Bs n₀ b off len cap m : Nat) (bs : List UInt8) (hm : m = len / 16) (h31 : len ≤ 2147483647) (hcap : len ≤ cap) (hb : b < n₀) (J Jx : List Blk → World → Prop)
    (hY : ∀ pre (x : Blk) W, J pre W → pre.length < m → YieldAt F (n - 1) Try.prog l #[.agg (x.1.map bv).toArray] W fun e W' =>
      (e = .returned (.bool true) ∧ J (pre ++ [x]) W' ∧ KpB n₀ Bs W W') ∨ (e = .returned (.bool false) ∧ Jx (pre ++ [x]) W'))
    (W : World) (hBs : W.cell? ⟨Bs, 0, none⟩ = some (.slice (some ⟨b, off, none⟩) len cap)) (hc : ∀ j, j < len → W.cell? ⟨b, off + j, none⟩ = some (.int .u8 ((bs.getD j 0).toNat : Int))) (h0 : J [] W) :
    CallsIn F n Try.prog 79 #[.func (.yield l) #[] #[], .pointer (some ⟨Bs, 0, none⟩)] W fun e W' => (∃ v, e = .returned v) ∧
      ((∃ ys, ys = blkUp bs m ∧ J ys W') ∨ (∃ pre, (∃ k, k ≤ m ∧ pre = blkUp bs k) ∧ Jx pre W')) := by
  have e1 : (len : Int) / 16 = (m : Int) := by omega
  have HC := Lib.hid hc
  have HM : Hid (16 * m ≤ len) := by show _ ≤ _; omega
  clear hc hm
  refine callsIn_of_wp Try.func79 rfl hf ?_ hro
  simp only [Try.ntmps79, List.size_toArray, List.length_cons, List.length_nil, Nat.reduceAdd, Nat.reduceSub, Array.replicate_succ, Array.replicate_zero, List.push_toArray, List.append_toArray, List.nil_append, List.cons_append]
  gi_wp2
  gi_loopw [7] (fun i wr => ∃ k : Nat, k ≤ m ∧ i = .int .i64 (k : Int) ∧ J (blkUp bs k) wr ∧ KpB n₀ Bs W wr)
    (fun i _ => m - (intOf i).toNat)
  case atStart => exact ⟨0, Nat.zero_le _, rfl, h0, KpB.refl _ _ _⟩
  case round =>
    obtain ⟨k, hk, rfl, hJs, hnx⟩ := hrel
    have hbx := hnx.2.trans hBs
    by_cases hlt : k < m
    · have q1 : (k : Int) < (m : Int) := by omega
      have hr := blk_range (w := wr) (k := k) (fun j hj => (hnx.1.cell (p := ⟨b, off + j, none⟩) hb).trans (HC.out j hj)) (by have := HM.out; omega)
      have hld := run_loadAt_mid wr b (off + 16 * k) 23 _ _ hr arr16B rfl (i16z _ (blkAt bs k).2)
      obtain ⟨fn, tmps, assign, body, hy, hR⟩ := hY _ (blkAt bs k) wr hJs (by rw [blkUp_len]; exact hlt)
      have HS := Lib.hid (blkUp_succ bs k)
      generalize blkAt bs k = x at hld hy hR HS
      obtain ⟨p, hp⟩ : ∃ p, p = 16 * k := ⟨_, rfl⟩
      have u1 : 16 * (k : Int) = (p : Int) := by omega
      have sl := cut16 b off len cap p (by have := HM.out; omega) hcap
      have ap := arr_ptr16 (some ⟨b, off + p, none⟩) 16 (cap - p) (Nat.le_refl _)
      have hp31 : (p : Int) + 16 ≤ 2147483647 := by have := HM.out; omega
      rw [← hp] at hld
      clear hr hp
      generalize (x.1.map bv).toArray = V at hld hy
      clear hY h0 hBs
      gi_wp2_with (refine wpListIn_ld rfl 23 (.tmp 18) rfl rfl hld ?_)
      clear hld
      gi_wp2
      refine hR.mono ?_
      rintro e W3 (⟨rfl, hJ3, hk3⟩ | ⟨rfl, hJx3⟩)
      · gi_wp2
        go_roundw
        case rel => exact ⟨k + 1, by omega, by go_num, by rw [HS.out]; exact hJ3, hnx.trans hk3⟩
        case measure => simp [intOf]; omega
      · gi_wp2
        refine bodyPost_ret (results_none rfl _ _ _) rfl ?_
        exact ⟨⟨_, rfl⟩, .inr ⟨_, ⟨k + 1, by omega, HS.out.symm⟩, hJx3⟩⟩
    · obtain rfl : k = m := by omega
      have q1 : ¬ ((k : Int) < (k : Int)) := by omega
      gi_wp2
      go_end0
      exact ⟨⟨_, rfl⟩, .inl hJs⟩
end Go.Proofs.Ytjmpbcfbfbjenaa

/- cbc.blocks: what a range over it may count on. -/
namespace Go.Proofs.Ytjmpbcfbfbjenaa
open Go.RowKit Go.Shelf
set_option linter.unusedVariables false
set_option linter.unusedSimpArgs false
set_option maxRecDepth 100000
attribute [local go_sem] Oper.semAt_some
set_option maxHeartbeats 1000000 in
/-- the closure where there is no block -/
theorem blocks1_nil_in (F : Fence) (n : Nat) (hf : F.fn 79) (hro : F.round = none) (l Bs cap len : Nat) (A : Option Addr) (hlen : len < 16) (J : List Blk → World → Prop) (W : World) (hBs : W.cell? ⟨Bs, 0, none⟩ = some (.slice A len cap)) (h0 : J [] W) :
    CallsIn F n Try.prog 79 #[.func (.yield l) #[] #[], .pointer (some ⟨Bs, 0, none⟩)] W fun e W' => (∃ v, e = .returned v) ∧ J [] W' := by
  have e1 : (len : Int) / 16 = 0 := by omega
  refine callsIn_of_wp Try.func79 rfl hf ?_ hro
  simp only [Try.ntmps79, List.size_toArray, List.length_cons, List.length_nil, Nat.reduceAdd, Nat.reduceSub, Array.replicate_succ, Array.replicate_zero, List.push_toArray, List.append_toArray, List.nil_append, List.cons_append]
  gi_wp2
  gi_loopw [7] (fun i wr => i = .int .i64 0 ∧ J [] wr) (fun _ _ => 0)
  case atStart => exact ⟨rfl, h0⟩
  case round =>
    obtain ⟨rfl, hJs⟩ := hrel
    gi_wp2
    go_end0
    exact ⟨⟨_, rfl⟩, hJs⟩
set_option maxHeartbeats 1000000 in
/-- cbc.blocks: the slice is boxed, the closure holds the box -/
theorem blocks_in (F : Fence) (n : Nat) (hf : F.fn 39) (hro : F.round = none) (A : Option Addr) (len cap : Nat) (w : World) :
    CallsIn F n Try.prog 39 #[.slice A len cap] w fun e w' => e = .returned (.func (.func 79) #[] #[.pointer (some ⟨w.heap.size, 0, none⟩)]) ∧ w' = w.alloc (.cells #[.slice A len cap] 26) := by
  refine callsIn_of_wp Try.func39 rfl hf ?_ hro
  simp only [Try.ntmps39, List.size_toArray, List.length_cons, List.length_nil, Nat.reduceAdd, Nat.reduceSub, Array.replicate_succ, Array.replicate_zero, List.push_toArray, List.append_toArray, List.nil_append, List.cons_append]
  gi_wp2
  go_ret
  exact ⟨rfl, rfl⟩
theorem blkUp_prefix (bs : List UInt8) {k m : Nat} (h : k ≤ m) : blkUp bs k <+: blkUp bs m := by
  obtain ⟨d, rfl⟩ : ∃ d, m = k + d := ⟨m - k, by omega⟩
  induction d with
  | zero => exact List.prefix_refl _
  | succ d ih => rw [← Nat.add_assoc, blkUp_succ]; exact (ih (by omega)).trans (List.prefix_append _ _)
/-- what comes out of blocks(b): the whole blocks of b in their order, or a part of them, a round having said 'no more' -/
theorem blocks_stops (F : Fence) (n : Nat) (hf : F.fn 79) (hro : F.round = none) (hn : 1 ≤ n) (Bs n₀ len cap : Nat) (A : Option Addr) (bs : List UInt8) (hl : bs.length = len) (h31 : len ≤ 2147483647) (w : World) (hBs : Bs < w.heap.size)
    (hc : w.cell? ⟨Bs, 0, none⟩ = some (.slice A len cap)) (hS : Sl w A cap bs) (hA : 16 ≤ len → ∀ b o x, A = some ⟨b, o, x⟩ → b < n₀) :
    SeqStopsK F n Try.prog 79 #[.pointer (some ⟨Bs, 0, none⟩)] (fun x : Blk => #[Value.agg (x.1.map bv).toArray]) (KpB n₀ Bs) (fun ys => ys = blkUp bs (len / 16)) (fun pre => pre <+: blkUp bs (len / 16)) (len / 16) w := fun l J Jx W hW _ _ hY h0 => by
  have hc' := (hW.cell (p := ⟨Bs, 0, none⟩) hBs).trans hc
  by_cases hlt : len < 16
  · have h16 : len / 16 = 0 := by omega
    rw [h16]
    exact (blocks1_nil_in F n hf hro l Bs cap len A hlt J W hc' h0).mono fun e W' ⟨he, hj⟩ => ⟨he, .inl ⟨_, rfl, hj⟩⟩
  · obtain ⟨b, o, rfl, hbw, hcell⟩ := c_sl_cell (hS.below hW) (i := 0) (by omega)
    refine (blocks1_in F n hf hro hn l Bs n₀ b o len cap (len / 16) bs rfl h31 (by have := hS.1; omega) (hA (by omega) _ _ _ rfl) J Jx hY W hc' (fun j hj => hcell j (by omega)) h0).mono ?_
    rintro e W' ⟨he, ⟨ys, rfl, hj⟩ | ⟨pre, ⟨k, hk, rfl⟩, hj⟩⟩
    · exact ⟨he, .inl ⟨_, rfl, hj⟩⟩
    · exact ⟨he, .inr ⟨_, blkUp_prefix bs hk, hj⟩⟩
theorem kpB_b {w : World} {n₀ Bs : Nat} (hn : n₀ ≤ w.heap.size) (hB : Bs < w.heap.size) (W : World) (l : Nat) (o o' : Obj) (hl : w.heap.size ≤ l) (hg : W.heap[l]? = some o) (h1 : o.isCells = false) (h2 : o.isWalk = false) : KpB n₀ Bs W (W.putObj l o') :=
  ⟨belowK_b (w := w) hn W l o o' hl hg h1 h2, (belowK_b (w := w) (n₀ := w.heap.size) (Nat.le_refl _) W l o o' hl hg h1 h2).cell (p := ⟨Bs, 0, none⟩) hB⟩
end Go.Proofs.Ytjmpbcfbfbjenaa

/- Chained mode: the mathematics of there and back. -/
namespace Go.Proofs.Ytjmpbcfbfbjenaa
set_option linter.unusedVariables false
set_option linter.unusedSimpArgs false
/-- m pieces, one behind the other -/
def flat16 (f : Nat → List UInt8) : Nat → List UInt8
  | 0 => []
  | m + 1 => flat16 f m ++ f m
theorem flat16_len (f : Nat → List UInt8) (hf : ∀ i, (f i).length = 16) (m : Nat) : (flat16 f m).length = 16 * m := by
  induction m with
  | zero => rfl
  | succ m ih => rw [flat16, List.length_append, ih, hf]; omega
theorem flat16_get (f : Nat → List UInt8) (hf : ∀ i, (f i).length = 16) (m k j : Nat) (hk : k < m) (hj : j < 16) : (flat16 f m).getD (16 * k + j) 0 = (f k).getD j 0 := by
  induction m with
  | zero => omega
  | succ m ih =>
    have hl := flat16_len f hf m
    rw [flat16, List.getD_eq_getElem?_getD, List.getD_eq_getElem?_getD]
    by_cases h : k = m
    · subst h
      rw [List.getElem?_append_right (by omega), hl, show 16 * k + j - 16 * k = j by omega]
    · rw [List.getElem?_append_left (by omega)]
      have := ih (by omega)
      rw [List.getD_eq_getElem?_getD, List.getD_eq_getElem?_getD] at this
      exact this
theorem list16_eq (l : List UInt8) (h : l.length = 16) : (List.range 16).map (fun j => l.getD j 0) = l := by
  apply List.ext_getElem
  · simp [h]
  · intro i h1 h2
    simp [List.getD, h2]
theorem blkAt_flat (f : Nat → List UInt8) (hf : ∀ i, (f i).length = 16) (m k : Nat) (hk : k < m) : (blkAt (flat16 f m) k).1 = f k := by
  have h : (blkAt (flat16 f m) k).1 = (List.range 16).map (fun j => (f k).getD j 0) := by
    show (List.range 16).map (fun j => (flat16 f m).getD (16 * k + j) 0) = _
    apply List.map_congr_left
    intro j hj
    exact flat16_get f hf m k j hk (by simpa using hj)
  rw [h, list16_eq _ (hf k)]
theorem blkAt_drop (b : List UInt8) (k : Nat) (h : 16 * k + 16 ≤ b.length) : (blkAt b k).1 = (b.drop (16 * k)).take 16 := by
  apply List.ext_getElem
  · simp [blkAt]; omega
  · intro i h1 h2
    have hi : i < 16 := by simpa [blkAt] using h1
    have hb : 16 * k + i < b.length := by omega
    simp [blkAt, List.getD, hb]
theorem flat_blk (b : List UInt8) (m : Nat) (h : 16 * m ≤ b.length) : flat16 (fun i => (blkAt b i).1) m = b.take (16 * m) := by
  induction m with
  | zero => simp [flat16]
  | succ m ih => rw [flat16, ih (by omega), show 16 * (m + 1) = 16 * m + 16 by omega, List.take_add, blkAt_drop b m (by omega)]
theorem flat_congr (f g : Nat → List UInt8) (m : Nat) (h : ∀ i, i < m → f i = g i) : flat16 f m = flat16 g m := by
  induction m with
  | zero => rfl
  | succ m ih => rw [flat16, flat16, ih (fun i hi => h i (by omega)), h m (by omega)]
theorem xorL_twice (a c : List UInt8) (h : a.length = c.length) : xorL (xorL a c) c = a := by
  apply List.ext_getElem
  · simp [xorL, h]
  · intro i h1 h2
    simp [xorL, UInt8.xor_assoc]
/-- the block put ahead of block i: the iv, then what was enciphered -/
def cN (E : List UInt8 → List UInt8) (iv b : List UInt8) : Nat → List UInt8
  | 0 => iv
  | i + 1 => E (xorL (blkAt b i).1 (cN E iv b i))
theorem cN_len (E : List UInt8 → List UInt8) (iv b : List UInt8) (hiv : iv.length = 16) (hE : ∀ x, x.length = 16 → (E x).length = 16) (i : Nat) : (cN E iv b i).length = 16 := by
  induction i with
  | zero => exact hiv
  | succ i ih => exact hE _ (by rw [xorL_len, (blkAt b i).2, ih]; rfl)
def chainL (E : List UInt8 → List UInt8) (iv b : List UInt8) (m : Nat) : List UInt8 := flat16 (fun i => cN E iv b (i + 1)) m
/-- what is ahead of block i of what is opened -/
def aheadN (iv b : List UInt8) : Nat → List UInt8
  | 0 => iv
  | i + 1 => (blkAt b i).1
def unchL (D : List UInt8 → List UInt8) (iv b : List UInt8) (m : Nat) : List UInt8 := flat16 (fun i => xorL (D (blkAt b i).1) (aheadN iv b i)) m
theorem unch_chain (E D : List UInt8 → List UInt8) (iv b : List UInt8) (m : Nat) (hb : b.length = 16 * m) (hiv : iv.length = 16) (hE : ∀ x, x.length = 16 → (E x).length = 16) (hDE : ∀ x, x.length = 16 → D (E x) = x) :
    unchL D iv (chainL E iv b m) m = b := by
  have hc := cN_len E iv b hiv hE
  have hA : ∀ i, i < m → (blkAt (chainL E iv b m) i).1 = cN E iv b (i + 1) := fun i hi => blkAt_flat _ (fun i => hc (i + 1)) m i hi
  have hH : ∀ i, i < m → aheadN iv (chainL E iv b m) i = cN E iv b i := fun i hi => by
    cases i with
    | zero => rfl
    | succ i => exact hA i (by omega)
  unfold unchL
  rw [flat_congr _ (fun i => (blkAt b i).1) m, flat_blk b m (by omega), ← hb, List.take_length]
  intro i hi
  show xorL (D (blkAt (chainL E iv b m) i).1) (aheadN iv (chainL E iv b m) i) = _
  rw [hA i hi, hH i hi, cN, hDE _ (by rw [xorL_len, (blkAt b i).2, hc]; rfl), xorL_twice _ _ (by rw [(blkAt b i).2, hc])]
/-- the same block by block: what is ahead, and what has come out -/
def chB (E : List UInt8 → List UInt8) (iv : List UInt8) (pre : List Blk) : List UInt8 × List UInt8 := pre.foldl (fun s x => (E (xorL x.1 s.1), s.2 ++ E (xorL x.1 s.1))) (iv, [])
theorem chB_snoc (E : List UInt8 → List UInt8) (iv : List UInt8) (pre : List Blk) (x : Blk) : chB E iv (pre ++ [x]) = (E (xorL x.1 (chB E iv pre).1), (chB E iv pre).2 ++ E (xorL x.1 (chB E iv pre).1)) := by simp [chB]
theorem chB_up (E : List UInt8 → List UInt8) (iv b : List UInt8) (m : Nat) : chB E iv (blkUp b m) = (cN E iv b m, chainL E iv b m) := by
  induction m with
  | zero => rfl
  | succ m ih => rw [blkUp_succ, chB_snoc, ih]; rfl
theorem chB_len (E : List UInt8 → List UInt8) (iv : List UInt8) (hiv : iv.length = 16) (hE : ∀ x, x.length = 16 → (E x).length = 16) : ∀ (k : Nat) (pre : List Blk), pre.length = k → (chB E iv pre).1.length = 16 ∧ (chB E iv pre).2.length = 16 * k
  | 0, pre, h => by
    obtain rfl := List.eq_nil_of_length_eq_zero h
    exact ⟨hiv, rfl⟩
  | k + 1, pre, h => by
    rcases List.eq_nil_or_concat pre with rfl | ⟨q, x, rfl⟩
    · simp at h
    · rw [List.concat_eq_append] at h ⊢
      have ih := chB_len E iv hiv hE k q (by simpa using h)
      have h := hE (xorL x.1 (chB E iv q).1) (by rw [xorL_len, x.2, ih.1]; rfl)
      rw [chB_snoc]
      refine ⟨h, ?_⟩
      simp only [List.length_append, h, ih.2]
      omega
/-- and opened -/
def unB (D : List UInt8 → List UInt8) (iv : List UInt8) (pre : List Blk) : List UInt8 × List UInt8 := pre.foldl (fun s x => (x.1, s.2 ++ xorL (D x.1) s.1)) (iv, [])
theorem unB_snoc (D : List UInt8 → List UInt8) (iv : List UInt8) (pre : List Blk) (x : Blk) : unB D iv (pre ++ [x]) = (x.1, (unB D iv pre).2 ++ xorL (D x.1) (unB D iv pre).1) := by simp [unB]
theorem unB_up (D : List UInt8 → List UInt8) (iv b : List UInt8) (m : Nat) : unB D iv (blkUp b m) = (aheadN iv b m, unchL D iv b m) := by
  induction m with
  | zero => rfl
  | succ m ih => rw [blkUp_succ, unB_snoc, ih]; rfl
theorem up_pad (bs : List UInt8) : upO (bs ++ padB bs.length) = some bs.length := by
  have hk := padK9_le bs.length
  have hl : (bs ++ padB bs.length).length = bs.length + padK9 bs.length := by rw [List.length_append, padB_len]
  have hz : (bs ++ padB bs.length).getD (bs.length + padK9 bs.length - 1) 0 = UInt8.ofNat (padK9 bs.length) := by
    rw [List.getD_eq_getElem?_getD, List.getElem?_append_right (by omega), padB, List.getElem?_replicate, if_pos (by omega)]; rfl
  have hm : (bs.length + padK9 bs.length) % 16 = 0 := by unfold padK9; omega
  rw [upO, hl, if_neg (by omega), hz, UInt8.toNat_ofNat', Nat.mod_eq_of_lt (by omega), show bs.length + padK9 bs.length - padK9 bs.length = bs.length by omega, List.drop_left, if_pos ⟨by omega, rfl⟩]
end Go.Proofs.Ytjmpbcfbfbjenaa

/- The mathematics of a stream put to bytes. -/
namespace Go.Proofs.Ytjmpbcfbfbjenaa
open Go.RowKit
set_option linter.unusedVariables false
set_option maxRecDepth 100000
/-- bytes, and the stream f from its place p on -/
def ctrL (f : Nat → UInt8) (p : Nat) : List UInt8 → List UInt8
  | [] => []
  | x :: r => (x ^^^ f p) :: ctrL f (p + 1) r
theorem ctrL_len (f : Nat → UInt8) : ∀ (b : List UInt8) (p : Nat), (ctrL f p b).length = b.length
  | [], _ => rfl
  | x :: r, p => by simp [ctrL, ctrL_len f r]
theorem ctrL_append (f : Nat → UInt8) : ∀ (a : List UInt8) (p : Nat) (b : List UInt8), ctrL f p (a ++ b) = ctrL f p a ++ ctrL f (p + a.length) b
  | [], _, _ => by simp [ctrL]
  | x :: r, p, b => by
    simp only [List.cons_append, ctrL, ctrL_append f r, List.length_cons]
    rw [show p + 1 + r.length = p + (r.length + 1) by omega]
theorem ctrL_back (f : Nat → UInt8) : ∀ (b : List UInt8) (p : Nat), ctrL f p (ctrL f p b) = b
  | [], _ => rfl
  | x :: r, p => by simp [ctrL, ctrL_back f r, UInt8.xor_assoc]
theorem ctrL_get (f : Nat → UInt8) : ∀ (b : List UInt8) (p i : Nat) (h : i < b.length) (h' : i < (ctrL f p b).length), (ctrL f p b)[i] = b[i] ^^^ f (p + i)
  | x :: r, p, 0, _, _ => by simp [ctrL]
  | x :: r, p, i + 1, h, h' => by
    have := ctrL_get f r (p + 1) i (by simpa using h) (by rw [ctrL_len]; simpa using h)
    simp only [ctrL, List.getElem_cons_succ]
    rw [this, show p + 1 + i = p + (i + 1) by omega]
theorem ctrL_congr (f g : Nat → UInt8) : ∀ (b : List UInt8) (p q : Nat), (∀ i, i < b.length → f (p + i) = g (q + i)) → ctrL f p b = ctrL g q b
  | [], _, _, _ => rfl
  | x :: r, p, q, h => by
    have h0 := h 0 (by simp)
    simp only [Nat.add_zero] at h0
    simp only [ctrL, h0]
    rw [ctrL_congr f g r (p + 1) (q + 1) (fun i hi => by have := h (i + 1) (by simp; omega); rwa [show p + (i + 1) = p + 1 + i by omega, show q + (i + 1) = q + 1 + i by omega] at this)]
theorem ctrL_zero (b : List UInt8) (p : Nat) : ctrL (fun _ => 0) p b = b := by
  induction b generalizing p with
  | nil => rfl
  | cons x r ih => simp [ctrL, ih]
theorem ctrL_set (f : Nat → UInt8) : ∀ (b : List UInt8) (p n : Nat) (y : UInt8), ctrL f p (b.set n (b.getD n 0 ^^^ y)) = (ctrL f p b).set n ((ctrL f p b).getD n 0 ^^^ y)
  | [], _, _, _ => by simp [ctrL]
  | x :: r, p, 0, y => by
    simp only [ctrL, List.set_cons_zero, List.getD_cons_zero]
    rw [UInt8.xor_assoc, UInt8.xor_comm y, ← UInt8.xor_assoc]
  | x :: r, p, n + 1, y => by
    simp only [ctrL, List.set_cons_succ, List.getD_cons_succ]
    rw [ctrL_set f r]
/-- the bytes of a row of blocks -/
def blkF (E : Nat → List UInt8) (i : Nat) : UInt8 := (E (i / 16)).getD (i % 16) 0
/-- what is left of a block, put to bytes -/
theorem ctrL_block (E : Nat → List UInt8) (p : Nat) (b : List UInt8) (h : (E (p / 16)).length = 16) : xorL b ((E (p / 16)).drop (p % 16)) = ctrL (blkF E) p (b.take (min b.length (16 - p % 16))) := by
  have hl : (xorL b ((E (p / 16)).drop (p % 16))).length = min b.length (16 - p % 16) := by rw [xorL_len, List.length_drop, h]
  have hl2 : (ctrL (blkF E) p (b.take (min b.length (16 - p % 16)))).length = min b.length (16 - p % 16) := by rw [ctrL_len, List.length_take]; omega
  apply List.ext_getElem
  · rw [hl, hl2]
  · intro i h1 h2
    rw [ctrL_get _ _ _ _ (by rw [← ctrL_len (blkF E) _ p]; exact h2)]
    rw [hl] at h1
    have hq : (p + i) / 16 = p / 16 := by omega
    have hr : (p + i) % 16 = p % 16 + i := by omega
    have hi : p % 16 + i < (E (p / 16)).length := by omega
    rw [blkF, hq, hr, List.getD_eq_getElem?_getD, List.getElem?_eq_getElem hi]
    simp [xorL]
theorem ctrL_take (f : Nat → UInt8) (p n : Nat) (b : List UInt8) : (ctrL f p b).take n = ctrL f p (b.take n) := by
  by_cases h : n ≤ b.length
  · have := ctrL_append f (b.take n) p (b.drop n)
    rw [List.take_append_drop] at this
    rw [this, List.take_append_of_le_length (by rw [ctrL_len, List.length_take]; omega), List.take_of_length_le (by rw [ctrL_len, List.length_take]; omega)]
  · rw [List.take_of_length_le (by rw [ctrL_len]; omega), List.take_of_length_le (by omega)]
/-- one more step of the loop over blocks -/
theorem ctr_step (E : Nat → List UInt8) (p j m : Nat) (b : List UInt8) (h : (E ((p + j) / 16)).length = 16) (hj : j ≤ b.length) (hm : m = min (b.length - j) (16 - (p + j) % 16)) :
    ctrL (blkF E) p (b.take j) ++ xorL (b.drop j) ((E ((p + j) / 16)).drop ((p + j) % 16)) = ctrL (blkF E) p (b.take (j + m)) := by
  rw [ctrL_block E (p + j) (b.drop j) h, List.length_drop, ← hm, List.take_add, ctrL_append, List.length_take, Nat.min_eq_left hj]
end Go.Proofs.Ytjmpbcfbfbjenaa

/- Contract of bits.Count. -/
namespace Go.Proofs.Ytjmpbcfbfbjenaa
open Go.RowKit
set_option linter.unusedVariables false
set_option maxRecDepth 100000

/-- an array of bytes as a value -/
def aggB (bs : List UInt8) : Value := .agg (bs.map bv).toArray
theorem arr16T : Try.prog.underlying 23 = some (.array 16 5) := Try.underlying23
theorem i16 : (Try.prog.info? 23).map (·.size) = some 16 := by kernel_rfl

theorem count_any (c : List UInt8) (n : Nat) (w : World) (hc : c.length = 16) (hn : n < 18446744073709551616) :
    Calls Try.prog 64 #[.agg (c.map bv).toArray, .int .u64 (n : Int)] w fun e w' => e = .returned (.agg ((countL c n).map bv).toArray) ∧ Below w.heap.size w w' := by
  have harr1 := arr_to arr16T s8 ⟨w.heap.size, 0, none⟩ .i64 8 (by omega) (by omega)
  have harr2 := arr_from arr16T s8 ⟨w.heap.size, 0, none⟩ .i64 8 (by omega) (by omega)
  simp only [show (8 : Int).toNat = 8 from rfl, show cutA ⟨w.heap.size, 0, none⟩ 16 8 = ⟨w.heap.size, 8, none⟩ from rfl, Nat.reduceSub] at harr1 harr2
  obtain ⟨hi, lo, low, e1, e2, hhi, hlow, hwl, high, hlt, hm, hcase⟩ := count_cases c n hc hn
  have HLT := Lib.hid hlt; have HM := Lib.hid hm
  have HE1 := Lib.hid e1; have HE2 := Lib.hid e2; have HHI := Lib.hid hhi; have HLOW := Lib.hid hlow
  have HCASE := Lib.hid hcase
  have HC := Lib.hid hc
  clear hn hc e1 e2 hhi hlow hcase hlt hm
  go_enter Try.func64, Try.ntmps64
  go_wp2_with fail
  generalize hW : (w.alloc _).alloc _ = W0
  have F0 : W0.heap[w.heap.size]? = some (.cells (c.map bv).toArray 23 (0, 0)) := by rw [← hW]; exact heap_alloc2_old w _ _
  have F1 : W0.heap[w.heap.size + 1]? = some (.cells (List.replicate 16 (Value.int .u8 0)).toArray 23 (0, 0)) := by rw [← hW]; exact heap_alloc2_new w _ _
  have FB : Below w.heap.size w W0 := by rw [← hW]; exact two_below w _ _
  have G0 := Lib.hid F0
  have G1 := Lib.hid F1
  have GB := Lib.hid FB
  clear F0 F1 FB hW
  go_region_law (first
    | (go_simp; go_at_call 89; first
        | ((with_reducible refine (big_n (some ⟨w.heap.size, 0, none⟩) 8 16 (c.take 8) W0.drew ?_ ?_ ?_ ?_).mono ?_)
           · rw [List.length_take, HC.out]; rfl
           · omega
           · simp [maxLen]
           · exact row_sub (w := W0.drew) G0.out 0 8 (lt_of_heap G0.out)
           rintro e w1 ⟨rfl, hb1⟩
           rw [HE1.out]
           have HB1 := Lib.hid hb1; clear hb1)
        | ((with_reducible refine (big_n (some ⟨w.heap.size, 8, none⟩) 8 8 (c.drop 8) w1 ?_ ?_ ?_ ?_).mono ?_)
           · rw [List.length_drop, HC.out]
           · omega
           · simp [maxLen]
           · have := row_sub ((HB1.out.block _ (lt_of_heap (w := W0.drew) G0.out)).trans G0.out) 8 8 (Nat.lt_of_lt_of_le (lt_of_heap G0.out) HB1.out.size)
             rwa [List.take_of_length_le (by rw [List.length_drop, HC.out]; omega)] at this
           rintro e w2 ⟨rfl, hb2⟩
           rw [HE2.out]
           have HB2 := Lib.hid hb2; clear hb2)))
  have G1' := Lib.hid ((HB2.out.block _ (Nat.lt_of_lt_of_le (lt_of_heap G1.out) HB1.out.size)).trans ((HB1.out.block _ (lt_of_heap (w := W0.drew) G1.out)).trans G1.out))
  have GB' := Lib.hid ((Below.step (w1 := W0.drew) GB.out.drew HB1.out).step HB2.out)
  clear G0 G1 GB HB1 HB2 HE1 HE2
  rcases HCASE.out with ⟨hcar, hw⟩ | ⟨hcar, rfl⟩
  all_goals
    clear HCASE HHI
    go_wp2_with fail
    generalize hW3 : w2.alloc _ = W3
    have T2 : W3.heap[w2.heap.size]? = some (.cells (List.replicate 16 (Value.int .u8 0)).toArray 23 (0, 0)) := by rw [← hW3]; exact heap_alloc_new' w2 _
    have T1 : W3.heap[w.heap.size + 1]? = some (.cells (List.replicate 16 (Value.int .u8 0)).toArray 23 (0, 0)) := by rw [← hW3]; exact (Below.heap_alloc w2 _ _ (lt_of_heap G1'.out)).trans G1'.out
    have TB : Below w.heap.size w W3 := by rw [← hW3]; exact GB'.out.alloc GB'.out.size _
    have hle : w.heap.size ≤ w2.heap.size := GB'.out.size
    have hne : w.heap.size + 1 ≠ w2.heap.size := by have := lt_of_heap G1'.out; omega
    have HNE := Lib.hid hne; have HLE := Lib.hid hle
    have D1 := Lib.hid T1; have D2 := Lib.hid T2; have DB := Lib.hid TB
    clear T1 T2 TB hW3 G1' GB' hle hne
    have harr3 := arr_to arr16T s8 ⟨w2.heap.size, 0, none⟩ .i64 8 (by omega) (by omega)
    have harr4 := arr_from arr16T s8 ⟨w2.heap.size, 0, none⟩ .i64 8 (by omega) (by omega)
    simp only [show (8 : Int).toNat = 8 from rfl, show cutA ⟨w2.heap.size, 0, none⟩ 16 8 = ⟨w2.heap.size, 8, none⟩ from rfl, Nat.reduceSub] at harr3 harr4
    go_region_law (first
      | (go_simp; go_at_call 93; refine (putBig_any high 8 _ HLT.out (by omega)).mono ?_; rintro e w4 ⟨g4, hg4, rfl, hk4, hb4⟩; have HK4 := Lib.hid hk4; have HB4 := Lib.hid hb4; clear hk4 hb4 hg4)
      | (have D2' := (HB4.out.block _ (lt_of_heap (w := W3.drew) D2.out)).trans D2.out
         have D1' := (HB4.out.block _ (lt_of_heap (w := W3.drew) D1.out)).trans D1.out
         have DB' := Below.step (w1 := W3.drew) DB.out.drew HB4.out
         obtain ⟨w5, hrun, hblk, _, hgr⟩ := copy_run uT s8 (sT := 26) 3 w4 w2.heap.size 0 (List.replicate 16 (Value.int .u8 0)) 23 D2' (some ⟨w2.heap.size, 0, none⟩) (some ⟨g4, 0, none⟩) 8 16 8 8 (g4 + 1) ((putBig high 8).map bv)
           (by simp [putBig_len]) (fun _ => rfl) (row_of_heap HK4.out (Nat.lt_succ_self _)) (by simp [putBig_len]) (bv_one _)
         have E2 := Lib.hid hblk
         have E1 := Lib.hid ((hgr.block _ (lt_of_heap D1') (by have := HNE.out; simp; omega)).trans D1')
         have EB := Lib.hid (DB'.trans (grown_below hgr HLE.out DB'.size))
         refine step_cpy rfl (.tmp 19) (.tmp 21) 26 26 rfl hrun ?_
         clear hrun hblk hgr D1 D2 DB D1' D2' DB' HB4 HK4))
    have sp1 := splice_first (Value.int .u8 0) 8 8 ((putBig high 8).map bv) (by simp [putBig_len])
    have E2' := E2.out
    rw [show (16 : Nat) = 8 + 8 from rfl, sp1] at E2'
    have F2 := Lib.hid E2'
    clear E2 E2' sp1
    go_wp2_with fail
    go_region_law (first
      | (go_simp; go_at_call 93; refine (putBig_any low 8 _ HLOW.out (by omega)).mono ?_; rintro e w6 ⟨g6, hg6, rfl, hk6, hb6⟩; have HK6 := Lib.hid hk6; have HB6 := Lib.hid hb6; clear hk6 hb6 hg6)
      | (have D2' := (HB6.out.block _ (lt_of_heap (w := w5.drew) F2.out)).trans F2.out
         have D1' := (HB6.out.block _ (lt_of_heap (w := w5.drew) E1.out)).trans E1.out
         have DB' := Below.step (w1 := w5.drew) EB.out.drew HB6.out
         obtain ⟨w7, hrun, hblk, _, hgr⟩ := copy_run uT s8 (sT := 26) 3 w6 w2.heap.size 8 ((putBig high 8).map bv ++ List.replicate 8 (Value.int .u8 0)) 23 D2' (some ⟨w2.heap.size, 8, none⟩) (some ⟨g6, 0, none⟩) 8 8 8 8 (g6 + 1) ((putBig low 8).map bv)
           (by simp [putBig_len]) (fun _ => rfl) (row_of_heap HK6.out (Nat.lt_succ_self _)) (by simp [putBig_len]) (bv_one _)
         rw [splice_last (Value.int .u8 0) 8 8 ((putBig high 8).map bv) ((putBig low 8).map bv) (by simp [putBig_len]) (by simp [putBig_len]), ← List.map_append, HM.out] at hblk
         have E3 := Lib.hid hblk
         have E4 := Lib.hid ((hgr.block _ (lt_of_heap D1') (by have := HNE.out; simp; omega)).trans D1')
         have EB2 := Lib.hid (DB'.trans (grown_below hgr HLE.out DB'.size))
         refine step_cpy rfl (.tmp 23) (.tmp 25) 26 26 rfl hrun ?_
         clear hrun hblk hgr F2 E1 EB D1' D2' DB' HB6 HK6))
    have hl16 : (countL c n).length = 16 := by simp [countL, putBig_len]
    have HL := Lib.hid hl16
    clear hl16
    go_wp2_with (first
      | (refine wpList_ld rfl 23 (.tmp 7) rfl (load_arr arr16T rfl (by rw [List.length_map, HL.out]; exact i16) E3.out) ?_)
      | (refine wpList_st rfl 23 (.tmp 4) (.tmp 27) rfl (store_arr (by rw [List.length_map, HL.out]; exact i16) (bv_one _) E4.out (by simp [HL.out])) ?_))
    have hres := setRow_heap w7 (w.heap.size + 1) _ ((countL c n).map bv).toArray 23 _ E4.out
    exact bodyPost_ret (results_cell_row (P := Try.prog) rfl _ _ (w.heap.size + 1) 23 ((countL c n).map bv).toArray (0, 0) _ rfl hres arr16T rfl (by simp [HL.out, i16])) rfl ⟨rfl, EB2.out.trans (grown_below (grown_setRow _ _ _) (by omega) EB2.out.size)⟩
end Go.Proofs.Ytjmpbcfbfbjenaa

/- Contract of the law file's own 'awake' (the chapter's examples), and the law BitsTurns' walk. -/
namespace Go.Proofs.Ytjmpbcfbfbjenaa
open Go.RowKit
set_option maxRecDepth 100000
set_option linter.unusedVariables false

theorem row_two (w : World) (b1 b2 : UInt8) : RowAt (w.alloc (.cells #[.int .u8 (b1.toNat : Int), .int .u8 (b2.toNat : Int)] 5)) (w.heap.size + 1) (some ⟨w.heap.size, 0, none⟩) ([b1, b2].map bv) := by
  refine .inr ⟨w.heap.size, 0, rfl, by omega, fun j u hu => ?_⟩
  have := cell_of_heap (w := w.alloc (.cells ([b1, b2].map bv).toArray 5)) (heap_alloc_new' w _) (0 + j)
  exact this.trans (by simpa using hu)

theorem int_i16 {a : Int} (h : (Lit.int .i16 a).wf = true) : -32768 ≤ a ∧ a ≤ 32767 := by
  have := bounds_i16 h; omega
end Go.Proofs.Ytjmpbcfbfbjenaa
/- The walk of the law BitsSteps. -/
namespace Go.Proofs.Ytjmpbcfbfbjenaa
open Go.RowKit
set_option maxRecDepth 100000
set_option linter.unusedVariables false
set_option linter.unusedSimpArgs false

theorem countL_len (c : List UInt8) (n : Nat) : (countL c n).length = 16 := by simp [countL, putBig_len]
theorem bigN_count (c : List UInt8) (n : Nat) : bigN (countL c n) = (bigN c + n) % 340282366920938463463374607431768211456 := by
  rw [countL, bigN_put]
  have : (256 : Nat) ^ 16 = 340282366920938463463374607431768211456 := by decide
  rw [this, Nat.mod_mod]
theorem count_count (c : List UInt8) (n m : Nat) : countL (countL c n) m = countL c (n + m) := by
  rw [countL, bigN_count, countL]
  congr 1
  omega
theorem putBig_big (c : List UInt8) : putBig (bigN c) c.length = c := by
  suffices h : ∀ l : List UInt8, putBig (bigN l.reverse) l.length = l.reverse by
    have := h c.reverse; simpa using this
  intro l
  induction l with
  | nil => simp [putBig]
  | cons b l ih =>
    rw [List.reverse_cons, bigN_snoc, List.length_cons, putBig_split]
    have hb : b.toNat < 256 := b.toNat_lt
    have e : (bigN l.reverse * 256 + b.toNat) / 256 ^ 1 = bigN l.reverse := by omega
    rw [e, ih]
    congr 1
    simp only [putBig, List.range_succ, List.range_zero, List.nil_append, List.map_cons, List.map_nil, byteAt, Nat.pow_zero, Nat.div_one]
    congr 1
    rw [← UInt8.toNat_inj, UInt8.toNat_ofNat']; omega
theorem count_zero (c : List UInt8) (hc : c.length = 16) : countL c 0 = c := by
  have h := bigN_lt c
  rw [hc, show (256 : Nat) ^ 16 = 340282366920938463463374607431768211456 by decide] at h
  rw [countL, Nat.add_zero, Nat.mod_eq_of_lt h, ← hc]
  exact putBig_big c
theorem count_inj (c : List UInt8) (n m : Nat) (hn : n < 4294967296) (hm : m < 4294967296) : countL c n = countL c m ↔ n = m := by
  constructor
  · intro h
    have h2 := congrArg bigN h
    rw [bigN_count, bigN_count] at h2
    omega
  · rintro rfl; rfl

theorem i16' (bs : List UInt8) (h : bs.length = 16) : (Try.prog.info? 23).map (·.size) = some (bs.map bv).length := by rw [List.length_map, h]; exact i16
end Go.Proofs.Ytjmpbcfbfbjenaa

/- Package ctr: crypt, Crypt. -/
namespace Go.Proofs.Ytjmpbcfbfbjenaa
open Go.RowKit
set_option linter.unusedVariables false
set_option maxRecDepth 100000
set_option linter.unusedSimpArgs false
theorem c_own_below {w w' : World} {base : Nat} {e : TypeId} {s : Nat} {v : Value} {n : Nat} {xs : List Value} (h : w.ownsRow base e s v n xs) (hb : Below w.heap.size w w') : w'.ownsRow base e s v n xs := by
  obtain ⟨h0, h | ⟨g, cap, cur, hv, hg, hh, r⟩⟩ := h
  · exact ⟨h0, .inl h⟩
  · exact ⟨h0, .inr ⟨g, cap, cur, hv, hg, (hb.block _ (lt_of_heap hh)).trans hh, r⟩⟩
theorem c_own_ge {w : World} {base : Nat} {e : TypeId} {s : Nat} {v : Value} {n : Nat} {xs : List Value} (h : w.ownsRow base e s v n xs) {B : Nat} (hB : B ≤ base) : ∀ g, v.ownBlock = some g → B ≤ g := fun g hq => Nat.le_trans hB (h.lt g hq).1
theorem c_own_ne {w : World} {base : Nat} {e : TypeId} {s : Nat} {v : Value} {n : Nat} {xs : List Value} (h : w.ownsRow base e s v n xs) {g : Nat} (hB : g < base) : some g ≠ v.ownBlock := fun hq => by have := (h.lt g hq.symm).1; omega
theorem own_mono {w : World} {base b' : Nat} {e : TypeId} {s : Nat} {v : Value} {n : Nat} {xs : List Value} (h : w.ownsRow base e s v n xs) (hb : b' ≤ base) : w.ownsRow b' e s v n xs := by
  obtain ⟨h0, h | ⟨g, cap, cur, hv, hg, r⟩⟩ := h
  · exact ⟨h0, .inl h⟩
  · exact ⟨h0, .inr ⟨g, cap, cur, hv, Nat.le_trans hb hg, r⟩⟩
theorem c_hid_mp {J J' : Act → World → Prop} (h : Hid (J = J')) {a : Act} {w : World} (hh : J' a w) : J a w := by rw [h.out]; exact hh
/-- a label in a scope, behind code of which none jumps, to which its own code jumps back -/
theorem c_scope_label {P : Program} {a : Act} {w : World} {Q : Exit → Act → World → Prop} {ahead rest : Code} (l : Nat) (J : Act → World → Prop) (μ : Act → World → Nat) (hf : findLabel (ahead.seq ((Code.label l).seq rest)) l = some (Code.skip.seq rest)) (h0 : ahead.wp P (fun e a w => e = .normal ∧ J a w) a w)
    (pass : ∀ a w, J a w → rest.wp P (Exit.jump l (fun a' w' => J a' w' ∧ μ a' w' < μ a w) Q) a w) : (Code.scope (ahead.seq ((Code.label l).seq rest))).wp P Q a w := by
  refine wp_scope_jumps l J μ hf (wp_seq (Code.wp_mono ?_ h0)) (fun a w h => wp_seq (wp_skip (pass a w h)))
  rintro e a w ⟨rfl, hJ⟩
  refine wp_seq (wp_label ?_)
  refine Code.wp_mono ?_ (pass a w hJ)
  intro e a w h
  cases e <;> first | exact h | exact ⟨h.1, h.2.1⟩
theorem make_room {P : Program} {t e : TypeId} {z : Value} {bytes : Nat} (ht : P.underlying t = some (.slice e)) (hi : (P.info? e).map (fun i => (i.zero, i.size, i.bytes)) = some (some z, 1, bytes)) (hz : z.cells = #[z])
    (kl kc : IntKind) (n : Nat) (hb : bytes * n ≤ 281474976710656) (h63 : n ≤ 9223372036854775807) (W : World) :
    (Instr.makeSlice t (.int kl 0) (.int kc (n : Int))).run P W = .ok (.slice (some ⟨W.heap.size, 0, none⟩) 0 n) (W.alloc (.cells (List.replicate n z).toArray e)) := by
  obtain ⟨i, hi, h1, h2, h3⟩ := info_parts hi
  have hr := run_make (P := P) W t e i z ht hi h1 kl kc 0 n (by omega) (by omega) (by rw [h3, ← Int.natCast_mul]; omega) (by omega)
  rw [Int.toNat_natCast, h2, Nat.mul_one, madeCells_one z hz] at hr
  exact hr
theorem own_room {w : World} {g n base : Nat} {z : Value} {e : TypeId} (hb : base ≤ g) (hn : n ≤ maxLen) (h : w.heap[g]? = some (.cells (Array.replicate n z) e (0, 0))) : w.ownsRow base e 1 (.slice (some ⟨g, 0, none⟩) 0 n) 0 [] :=
  ⟨rfl, .inr ⟨g, n, _, rfl, hb, h, Nat.zero_le _, hn, by simp, by simp⟩⟩
/-- a block's cells from r on, as a slice -/
theorem sl_from {W : World} {g r : Nat} {x : List UInt8} {t : TypeId} {fr : Nat × Nat} (hx : x.length = 16) (hr : r < 16) (hk : W.heap[g]? = some (.cells (x.map bv).toArray t fr)) : Sl W (some (cutA ⟨g, 0, none⟩ 16 r)) (16 - r) (x.drop r) := by
  have h := sl_cut (sl_row hx (by omega) hk) (k := r) (by omega)
  have e : cutS (some ⟨g, 0, none⟩) 16 r = some (cutA ⟨g, 0, none⟩ 16 r) := by
    unfold cutS cutA; split <;> rfl
  rw [e] at h
  exact h
theorem i16c (l : List UInt8) (h : l.length = 16) : (Try.prog.info? 23).map (·.size) = some (l.map bv).length := by rw [List.length_map, h]; exact i16B
/-- what enciphers, as calls see it -/
def Enc (w : World) (kp : Value) (E : List UInt8 → List UInt8) : Prop :=
  (∀ x, x.length = 16 → (E x).length = 16) ∧ ∀ W, Below w.heap.size w W → ∀ x, x.length = 16 → Calls Try.prog 36 #[kp, .agg (x.map bv).toArray] W fun e w' => e = .returned (.agg ((E x).map bv).toArray) ∧ Below W.heap.size W w'
theorem Enc.ext {w w' : World} {kp : Value} {E : List UInt8 → List UInt8} (h : Enc w kp E) (hb : Below w.heap.size w w') : Enc w' kp E := ⟨h.1, fun W hW x hx => h.2 W (hb.step hW) x hx⟩
theorem KeyAt.enc {w : World} {g n : Nat} {ws : List W32} (h : KeyAt w g ws n) (hn : 1 ≤ n) (hn2 : n ≤ 14) : Enc w (.pointer (some ⟨g, 0, none⟩)) (encL ws n) :=
  ⟨fun x hx => by rw [encL, encT, outL_len, addW_len _ _ _ (shiftW_len _ _) (by have := h.1; omega)], fun W hW x hx => enc_any g n ws x W hx hn hn2 (h.ext hW)⟩
theorem enc_nil (w : World) : Enc w (.pointer none) (fun _ => List.replicate 16 0) :=
  ⟨fun _ _ => by simp, fun W _ x hx => enc_none _ x W hx (fun W' _ => rounds_nil W')⟩
/-- the stream of what enciphers, and an iv -/
def strmF (E : List UInt8 → List UInt8) (iv : List UInt8) : Nat → UInt8 := blkF fun i => E (countL iv i)
theorem c_left {n j m t : Nat} (h : m = n - j ∧ j ≤ n) (h2 : t ≤ m) : Hid (m - t = n - (j + t) ∧ j + t ≤ n) := by
  show _ ∧ _; omega
set_option maxHeartbeats 4000000 in
theorem ctrc_any (kp : Value) (E : List UInt8 → List UInt8) (iv : List UInt8) (p : Nat) (A : Option Addr) (n c : Nat) (bs : List UInt8) (w : World) (hiv : iv.length = 16) (hE : Enc w kp E) (hl : bs.length = n) (hn : p + n ≤ 2147483647) (hS : Sl w A c bs) :
    Calls Try.prog 33 #[kp, .agg (iv.map bv).toArray, .int .i64 (p : Int), .slice A n c] w fun e w' => ∃ v, e = .returned v ∧ w'.ownsRow w.heap.size 5 1 v n ((ctrL (strmF E iv) p bs).map bv) ∧ Below w.heap.size w w' := by
  have hz : ∀ W, (zeroValue 23).run Try.prog W = .ok (.agg zeros16.toArray) W := fun W => by kernel_rfl
  have HZL : Hid (zeros16.length = 16) := rfl
  generalize zeros16 = Z at hz HZL
  have HIV := Lib.hid hiv; have HE := Lib.hid hE; have HL := Lib.hid hl; have HS := Lib.hid hS; have HN := Lib.hid hn
  have STEP : Hid (∀ j m, j ≤ n → m = min (n - j) (16 - (p + j) % 16) → ctrL (strmF E iv) p (bs.take j) ++ xorL (bs.drop j) ((E (countL iv ((p + j) / 16))).drop ((p + j) % 16)) = ctrL (strmF E iv) p (bs.take (j + m))) := fun j m h1 h2 => ctr_step (fun i => E (countL iv i)) p j m bs (hE.1 _ (countL_len _ _)) (by omega) (by omega)
  have ST0 : Hid (ctrL (strmF E iv) p (bs.take 0) = []) := by show _ = _; rw [List.take_zero]; rfl
  have STN : Hid (ctrL (strmF E iv) p (bs.take n) = ctrL (strmF E iv) p bs) := by show _ = _; rw [List.take_of_length_le (by omega)]
  have hmk := make_room (P := Try.prog) uT made8 rfl .i64 .i64 n (by omega) (by omega) (w.alloc (.cells (iv.map bv).toArray 23))
  have hn31 : n ≤ 2147483647 := by omega
  have HMX : Hid (n ≤ maxLen) := by show _ ≤ _; simp [maxLen]; omega
  clear hiv hE hl hn hS
  obtain ⟨q, HQ⟩ : ∃ q, Hid (w.heap.size = q) := ⟨_, rfl⟩
  generalize ctrL (strmF E iv) p = CT at STEP ST0 STN ⊢
  go_enter Try.func33, Try.ntmps33
  go_wp2
  have G := heap2 w (.cells (iv.map bv).toArray 23) (.cells (Array.replicate n (Value.int .u8 0)) 5)
  obtain ⟨J, HJ0⟩ : ∃ J : Act → World → Prop, Hid (J = fun a' w' => ∃ (j s : Nat) (A' : Option Addr) (m c' : Nat) (v9 u4 u6 u7 u8 u10 u11 u12 u13 u14 u15 u16 u17 u18 u19 u20 u21 u22 u23 u24 u25 u26 u27 u28 u29 u30 u31 u32 u33 u34 u35 u36 u37 u38 u39 u40 u41 : Value),
      a' = { tmps := #[kp, .agg (iv.map bv).toArray, .int .i64 (s : Int), .slice A' m c', u4, .pointer (some ⟨q, 0, none⟩), u6, u7, u8, v9, u10, u11, u12, u13, u14, u15, u16, u17, u18, u19, u20, u21, u22, u23, u24, u25, u26, u27, u28, u29, u30, u31, u32, u33, u34, u35, u36, u37, u38, u39, u40, u41], defers := [] } ∧
      Hid (s = p + j) ∧ Hid (m = n - j ∧ j ≤ n) ∧ Hid (Sl w A' c' (bs.drop j)) ∧ Hid (Below w.heap.size w w') ∧ Hid (w'.heap[q]? = some (.cells (iv.map bv).toArray 23 (0, 0))) ∧
      Hid (w'.ownsRow (q + 1) 5 1 v9 j ((CT (bs.take j)).map bv))) := ⟨_, rfl⟩
  rw [HQ.out]
  refine c_scope_label 0 J (fun a' _ => (sliceLen (a'.tmps.getD 3 undef))) rfl ?first ?pass
  case first =>
    go_wp2
    rw [HJ0.out]
    refine ⟨0, p, A, n, c, _, _, _, _, _, _, _, _, _, _, _, _, _, _, _, _, _, _, _, _, _, _, _, _, _, _, _, _, _, _, _, _, _, _, _, _, _, rfl, ?_, ?_, HS, ?_, ?_, ?_⟩
    · exact rfl
    · show _ ∧ _; omega
    · exact G.2.2
    · show _ = _; rw [← HQ.out]; exact G.1
    · show World.ownsRow _ _ _ _ _ _ _; rw [ST0.out]; exact own_room (by have := HQ.out; omega) HMX.out G.2.1
  case pass =>
    clear G hmk
    intro a' w' hJ'
    rw [HJ0.out] at hJ'
    obtain ⟨j, s, A', m, c', v9, u4, u6, u7, u8, u10, u11, u12, u13, u14, u15, u16, u17, u18, u19, u20, u21, u22, u23, u24, u25, u26, u27, u28, u29, u30, u31, u32, u33, u34, u35, u36, u37, u38, u39, u40, u41, rfl, HSJ, HJ, HA, HB, H0, HO⟩ := hJ'
    have hdl : (bs.drop j).length = m := by have h1 := HL.out; have h2 := HJ.out; rw [List.length_drop]; omega
    by_cases hm : 0 < m
    · have e1 : (0 : Int) < (m : Int) := by omega
      obtain ⟨k, hk⟩ : ∃ k, k = s / 16 := ⟨_, rfl⟩
      obtain ⟨r, hr⟩ : ∃ r, r = s % 16 := ⟨_, rfl⟩
      obtain ⟨t, ht⟩ : ∃ t, t = min m (16 - r) := ⟨_, rfl⟩
      have u1 : (s : Int) / 16 = (k : Int) := by omega
      have u2 : (s : Int) % 16 = (r : Int) := by omega
      have hks : k < 18446744073709551616 := by have h1 := HSJ.out; have h2 := HJ.out; have h3 := HN.out; omega
      have hs31 : s ≤ 2147483647 := by have h1 := HSJ.out; have h2 := HJ.out; have h3 := HN.out; omega
      have hm31 : m ≤ 2147483647 := by have h2 := HJ.out; omega
      have hk31 : k ≤ 2147483647 := by omega
      have hr16 : r < 16 := by omega
      have hjt : Hid (j + t ≤ 2147483647) := by have h1 := HSJ.out; have h2 := HJ.out; have h3 := HN.out; show _ ≤ _; omega
      have HST := Lib.hid (STEP.out j t HJ.out.2 (by have h1 := HSJ.out; have h2 := HJ.out; rw [← h1, ← hr]; omega))
      rw [← HSJ.out, ← hk, ← hr] at HST
      have HT := Lib.hid ht
      have ht16 : Hid (t ≤ m ∧ t ≤ 16 ∧ 0 < t ∧ 0 < m) := by show _ ∧ _ ∧ _ ∧ _; omega
      have hcut := cut_from uT s8 A' m c' .i64 (t : Int) (by omega) (by omega)
      rw [Int.toNat_natCast] at hcut
      obtain ⟨X, hX⟩ : ∃ X, X = bs.drop j := ⟨_, rfl⟩
      rw [← hX] at HST
      have HXL : Hid (X.length = m) := by show _ = _; rw [hX]; exact hdl
      have HXS : Hid (Sl w A' c' X) := by show Sl _ _ _ _; rw [hX]; exact HA.out
      have HCL := Lib.hid (countL_len iv k)
      have HC := Lib.hid (fun W => count_any iv k W HIV.out hks)
      generalize countL iv k = CB at HST HCL HC
      have HEL := Lib.hid (HE.out.1 CB HCL.out)
      have HEC := Lib.hid (fun W hW => HE.out.2 W hW CB HCL.out)
      generalize E CB = EB at HST HEL HEC
      clear hX hdl ht hk hr
      go_wp2_with (first
        | (refine wpList_ld rfl 23 (.tmp 5) rfl (load_arr arr16B rfl (i16c iv HIV.out) H0.out) ?_)
        | fail)
      refine (HC.out w').mono ?_
      rintro e w1 ⟨rfl, hb1⟩
      have B1 := Lib.hid (HB.out.step hb1)
      have O1 := Lib.hid (c_own_below HO.out hb1)
      have I1 := Lib.hid ((hb1.block _ (lt_of_heap H0.out)).trans H0.out)
      clear hb1 HC
      go_wp2_with fail
      refine (HEC.out w1 B1.out).mono ?_
      rintro e w2 ⟨rfl, hb2⟩
      have B2 := Lib.hid (B1.out.step hb2)
      have O2 := Lib.hid (c_own_below O1.out hb2)
      have I2 := Lib.hid ((hb2.block _ (lt_of_heap I1.out)).trans I1.out)
      clear hb2 B1 O1 I1 HEC
      have sl := arr_from arr16B s8 ⟨w2.heap.size, 0, none⟩ .i64 (r : Int) (by omega) (by omega)
      rw [Int.toNat_natCast] at sl
      go_wp2_with (first
        | (refine wpList_st rfl 23 (.tmp 10) (.tmp 24) rfl (store_arr (cs := EB.map bv) (old := Z) (i16c EB HEL.out) (bv_one _) (heap_alloc_new' w2 _) (by rw [List.length_map, HEL.out, HZL.out])) ?_
           generalize hV : World.setRow _ _ _ = W3
           have M3 := Lib.hid (heap_of_setRow hV (heap_alloc_new' w2 _))
           have MB := Lib.hid (((Below.refl w2.heap.size w2).alloc (Nat.le_refl _) _).trans (below_of_setRow hV (Nat.le_refl w2.heap.size) (by simp)))
           clear hV)
        | fail)
      have B3 := Lib.hid (B2.out.step MB.out)
      have O3 := Lib.hid (c_own_below O2.out MB.out)
      have I3 := Lib.hid ((MB.out.block _ (lt_of_heap I2.out)).trans I2.out)
      clear MB B2 O2 I2
      generalize w2.heap.size = g10 at M3 ⊢
      refine (xor_n A' (some (cutA ⟨g10, 0, none⟩ 16 r)) m (16 - r) t c' (16 - r) X (EB.drop r) W3 HXL.out (by rw [List.length_drop, HEL.out]) HT.out.symm (HXS.out.below B3.out) (sl_from HEL.out hr16 M3.out) hm31 (by omega)).mono ?_
      rintro e w4 ⟨g3, hg3, rfl, hk3, hb4⟩
      have B4 := Lib.hid (B3.out.step hb4)
      have O4 := Lib.hid (c_own_below O3.out hb4)
      have I4 := Lib.hid ((hb4.block _ (lt_of_heap I3.out)).trans I3.out)
      have R4 := Lib.hid (row_of_heap hk3 (Nat.lt_succ_self g3))
      have XL : Hid ((xorL X (EB.drop r)).length = t) := by show _ = _; rw [xorL_len, List.length_drop, HEL.out, HXL.out, HT.out]
      generalize xorL X (EB.drop r) = XR at HST R4 XL
      clear hb4 hk3 hg3 B3 O3 I3
      have hq4 : Hid (q + 1 ≤ w4.heap.size) := lt_of_heap I4.out
      go_wp2_with (
        at_builtin
        refine wpList_app8 rfl (.tmp 30) (.tmp 31) rfl (q + 1) v9 j (CT (bs.take j)) rfl O4.out (some ⟨g3, 0, none⟩) t t (g3 + 1) XR rfl R4.out XL.out hjt.out hq4.out ?_
        rintro v5 w5 hown hgr
        rw [HST.out] at hown
        have O5 := Lib.hid hown
        have B5 := Lib.hid (B4.out.grown hgr (by have := hq4.out; have := HQ.out; omega) (c_own_ge O4.out (by have := HQ.out; omega)))
        have I5 := Lib.hid ((hgr.block _ (lt_of_heap I4.out) (c_own_ne O4.out (Nat.lt_succ_self q))).trans I4.out)
        clear hown hgr)
      go_step3
      have hA := sl_cut HA.out (k := t) (by have h1 := HL.out; have h2 := HJ.out; have h3 := ht16.out; rw [List.length_drop]; omega)
      rw [List.drop_drop] at hA
      have hwr : wrap64 ((s : Int) + (t : Int)) = ((s + t : Nat) : Int) := by have h1 := HSJ.out; have h2 := HJ.out; have h3 := HN.out; have h4 := ht16.out; rw [wrap64]; omega
      refine ⟨rfl, c_hid_mp HJ0 ⟨j + t, s + t, cutS A' c' t, m - t, c' - t, v5, _, _, _, _, _, _, _, _, _, _, _, _, _, _, _, _, _, _, _, _, _, _, _, _, _, _, _, _, _, _, _, _, _, _, _, _, by rw [hwr], ?_, ?_, ?_, B5, I5, O5⟩, ?_⟩
      · have h1 := HSJ.out; show _ = _; omega
      · exact c_left HJ.out ht16.out.1
      · exact hA
      · exact Nat.sub_lt ht16.out.2.2.2 ht16.out.2.2.1
    · have hj : j = n := by have h2 := HJ.out; omega
      have e1 : ¬ ((0 : Int) < (m : Int)) := by omega
      rw [hj, STN.out] at HO
      clear hdl
      go_wp2_with fail
      simp only [Exit.jump]
      go_ret
      exact ⟨_, rfl, own_mono HO.out (by have := HQ.out; omega), HB.out⟩
set_option maxHeartbeats 1000000 in
theorem Crypt_any (kp : Value) (E : List UInt8 → List UInt8) (iv : List UInt8) (A : Option Addr) (n c : Nat) (bs : List UInt8) (w : World) (hiv : iv.length = 16) (hE : Enc w kp E) (hl : bs.length = n) (hn : n ≤ 2147483647) (hS : Sl w A c bs) :
    Calls Try.prog 9 #[kp, .agg (iv.map bv).toArray, .slice A n c] w fun e w' => ∃ v, e = .returned v ∧ w'.ownsRow w.heap.size 5 1 v n ((ctrL (strmF E iv) 0 bs).map bv) ∧ Below w.heap.size w w' := by
  have HIV := Lib.hid hiv
  have hB0 : Below w.heap.size w (w.alloc (.cells (iv.map bv).toArray 23)) := (Below.refl _ _).alloc (Nat.le_refl _) _
  have HC := Lib.hid (ctrc_any kp E iv 0 A n c bs (w.alloc (.cells (iv.map bv).toArray 23)) hiv (hE.ext hB0) hl (by omega) (hS.below hB0))
  have HB0 := Lib.hid hB0
  clear hiv hE hl hS hB0
  generalize ctrL (strmF E iv) 0 bs = R at HC ⊢
  go_enter Try.func9, Try.ntmps9
  go_wp2_with (first
    | (refine wpList_ld rfl 23 (.tmp 4) rfl (load_arr arr16B rfl (i16c iv HIV.out) (heap_alloc_new' w _)) ?_)
    | fail)
  refine HC.out.mono ?_
  rintro e w1 ⟨v, rfl, hO, hB⟩
  have HO := Lib.hid hO; have HB1 := Lib.hid (HB0.out.step hB)
  clear hO hB
  go_wp2_with fail
  go_ret
  exact ⟨_, rfl, own_mono HO.out (by simp), HB1.out⟩
end Go.Proofs.Ytjmpbcfbfbjenaa

/- Regions that draw their order, by what holds as long as they go on: one proof for each operation, whatever order is picked. Over any program. -/
namespace Go.Proofs.Ytjmpbcfbfbjenaa
open Go.RowKit
set_option maxRecDepth 100000
set_option linter.unusedVariables false
def AllOps (S : Nat → Oper → Prop) : List Oper → Nat → Prop
  | [], _ => True
  | o :: os, i => S i o ∧ AllOps S os (i + 1)
theorem AllOps.get {S : Nat → Oper → Prop} : ∀ {os : List Oper} {k i : Nat} {o : Oper}, AllOps S os k → os[i]? = some o → S (k + i) o
  | [], _, _, _, _, h => by simp at h
  | o :: os, k, 0, _, h, hi => by simp at hi; subst hi; exact h.1
  | o :: os, k, i + 1, _, h, hi => by
    have := AllOps.get (k := k + 1) h.2 (by simpa using hi)
    rwa [show k + 1 + i = k + (i + 1) by omega] at this
section
variable {P : Program} {ops : Array Oper} {Q : Exit → Act → World → Prop}
/-- one operation keeps what holds -/
def StepOK (P : Program) (ops : Array Oper) (Q : Exit → Act → World → Prop) (J : (Nat → Bool) → Act → World → Prop) (i : Nat) (o : Oper) : Prop :=
  ∀ (L : Nat → Bool) (a : Act) (w : World), J L a w → L i = false → (∀ e ∈ o.after, Region.binds .any e = true → L e.on = true) →
    ∀ K : Act → World → Prop, Hid (∀ a' w', J (fun j => if j = i then true else L j) a' w' → K a' w') → if Region.wanted o (yielded ops a.tmps) = true then Oper.wp P o a w K Q else K (a.put o.dst undef) w
def below? : List Oper → Nat → Bool
  | [], _ => true
  | o :: os, i => o.after.all (fun e => !Region.binds .any e || decide (e.on < i)) && below? os (i + 1)
theorem below?_get : ∀ {os : List Oper} {k i : Nat} {o : Oper}, below? os k = true → os[i]? = some o → ∀ e ∈ o.after, Region.binds .any e = true → e.on < k + i
  | [], _, _, _, _, h => by simp at h
  | o :: os, k, 0, _, h, hi => by
    simp at hi; subst hi
    intro e he hb
    simp only [below?, Bool.and_eq_true, Array.all_eq_true'] at h
    have := h.1 e he
    simpa [hb] using this
  | o :: os, k, i + 1, _, h, hi => by
    simp only [below?, Bool.and_eq_true] at h
    have := below?_get (k := k + 1) h.2 (by simpa using hi)
    rwa [show k + 1 + i = k + (i + 1) by omega] at this
theorem getD_set_true (l : Array Bool) (i j : Nat) : (l.setIfInBounds i true).getD j true = if j = i then true else l.getD j true := by
  by_cases h : j = i
  · subst h
    simp only [Array.getD_eq_getD_getElem?, Array.getElem?_setIfInBounds, if_true]
    split <;> rfl
  · rw [if_neg h, getD_set_ne true (fun e => h e.symm)]
theorem inv_any (J : (Nat → Bool) → Act → World → Prop) (hb : below? ops.toList 0 = true) (steps : AllOps (StepOK P ops Q J) ops.toList 0) (done : ∀ L a w, (∀ j, L j = true) → J L a w → Q .normal a w) :
    ∀ (fuel : Nat) (listed : Array Bool) (a : Act) (w : World), listed.size = ops.size → listed.toList.count false ≤ fuel → J (fun j => listed.getD j true) a w → wpAny P .any ops Q fuel listed a w := by
  have fin : ∀ (listed : Array Bool) (a : Act) (w : World), listed.size = ops.size → J (fun j => listed.getD j true) a w → Region.ready .any ops listed = [] → Q .normal a w := by
    intro listed a w hs hJ hr
    refine done _ a w (fun j => ?_) hJ
    induction j using Nat.strongRecOn with
    | ind j ih =>
      by_cases hj : j < ops.size
      · cases hl : listed.getD j true with
        | true => rfl
        | false =>
          exfalso
          have hm : j ∈ Region.ready .any ops listed := by
            refine mem_ready.2 ⟨hl, ops[j], by simp [hj], fun e he hbi => ?_⟩
            have hlt := below?_get (k := 0) (i := j) (o := ops[j]) hb (by simp [hj]) e he hbi
            rw [Nat.zero_add] at hlt
            have h1 := ih e.on hlt
            have h2 : e.on < listed.size := by omega
            simpa [h2] using h1
          rw [hr] at hm; cases hm
      · have : listed.size ≤ j := by omega
        simp [Array.getElem?_eq_none this]
  intro fuel
  induction fuel with
  | zero =>
    intro listed a w hs hc hJ
    have hr : Region.ready .any ops listed = [] := by
      rw [List.eq_nil_iff_forall_not_mem]
      intro i hi
      have h0 := (mem_ready.1 hi).1
      have hlt : i < listed.size := by
        rcases Nat.lt_or_ge i listed.size with h | h
        · exact h
        · simp [Array.getElem?_eq_none h] at h0
      have hf : listed[i] = false := by simpa [hlt] using h0
      have hmem : false ∈ listed.toList := by rw [← hf]; simp
      have := List.count_pos_iff.2 hmem
      omega
    exact ⟨hr, fin listed a w hs hJ hr⟩
  | succ fuel ih =>
    intro listed a w hs hc hJ
    refine ⟨fin listed a w hs hJ, fun i hi => ?_⟩
    obtain ⟨h0, o, ho, hall⟩ := mem_ready.1 hi
    have hlt : i < listed.size := by
      rcases Nat.lt_or_ge i listed.size with h | h
      · exact h
      · simp [Array.getElem?_eq_none h] at h0
    have hst := steps.get (i := i) (o := o) (by simpa using ho)
    rw [Nat.zero_add] at hst
    refine wpOp_step ho fun K hK => hst _ a w hJ h0 (fun e he hbi => ?_) K fun a' w' hJ' => hK a' w' ?_
    · have := hall e he hbi
      rcases Nat.lt_or_ge e.on listed.size with h' | h'
      · simpa [h'] using this
      · simp [Array.getElem?_eq_none h']
    · refine ih _ a' w' (by simpa using hs) ?_ ?_
      · have hf : listed[i] = false := by simpa [hlt] using h0
        rw [Array.toList_setIfInBounds, List.count_set (by simpa using hlt)]
        have e1 : (listed.toList[i]'(by simpa using hlt)) = false := by simpa using hf
        rw [e1, if_pos (by rfl), if_neg (by decide)]
        omega
      · have e : (fun j => (listed.setIfInBounds i true).getD j true) = (fun j => if j = i then true else listed.getD j true) := funext fun j => getD_set_true listed i j
        rw [e]; exact hJ'
theorem reg_inv {id : Nat} {a : Act} {w : World} (J : (Nat → Bool) → Act → World → Prop) (hm : P.follows .mixedOrders = true) (hb : below? ops.toList 0 = true)
    (h0 : ∀ L : Nat → Bool, (∀ j, j < ops.size → L j = false) → J L a w.drew) (steps : AllOps (StepOK P ops Q J) ops.toList 0) (done : ∀ L a w, (∀ j, L j = true) → J L a w → Q .normal a w) : (Code.region id ops true).wp P Q a w := by
  refine wp_region_any hm (inv_any J hb steps done ops.size _ a w.drew (by simp) ?_ (h0 _ fun j hj => ?_))
  · simp
  · simp [hj]
end
end Go.Proofs.Ytjmpbcfbfbjenaa
