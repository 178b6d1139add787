/- Package cbc: Pad, Unpad; the law file's own awake (layer 9). -/
import Derived.Test.YtpihnggegmbgfaaRep
import Derived.Test.YtpihnggegmbgfaaApp
namespace Go.Proofs.Ytpihnggegmbgfaa
open Go.RowKit
set_option linter.unusedVariables false
set_option linter.unusedSimpArgs false
set_option maxRecDepth 100000
theorem Sl.extb {w w' : World} {A : Option Addr} {c : Nat} {bs : List UInt8} (h : Sl w A c bs) (hb : Ext w w') : Sl w' A c bs := h.below hb
/-- how many bytes are put behind m bytes -/
def padK9 (m : Nat) : Nat := 16 - m % 16
theorem padK9_le (m : Nat) : 1 ≤ padK9 m ∧ padK9 m ≤ 16 := by unfold padK9; omega
/-- what is put behind m bytes -/
def padB (m : Nat) : List UInt8 := List.replicate (padK9 m) (UInt8.ofNat (padK9 m))
theorem padB_len (m : Nat) : (padB m).length = padK9 m := List.length_replicate
set_option maxHeartbeats 1000000 in
theorem cpad_any (m : Nat) (w : World) (hm : m ≤ 9223372036854775807) :
    Calls Try.prog 20 #[.int .i64 (m : Int)] w fun e w' => ∃ g, w.heap.size ≤ g ∧ e = .returned (.slice (some ⟨g, 0, none⟩) (padK9 m) (padK9 m)) ∧ Sl w' (some ⟨g, 0, none⟩) (padK9 m) (padB m) ∧ Below w.heap.size w w' := by
  have hk := padK9_le m
  have hkd : padK9 m = 16 - m % 16 := rfl
  have RP := Lib.hid (fun A c W (hS : Sl W A c [UInt8.ofNat (padK9 m)]) => rep_any A c (UInt8.ofNat (padK9 m)) (padK9 m) W hk.1 (by omega) hS)
  change Hid (∀ A c W (hS : Sl W A c [UInt8.ofNat (padK9 m)]), Calls _ _ _ _ fun e w' => e = _ ∧ Sl w' _ _ (padB m) ∧ _) at RP
  have hxk : Hid (((UInt8.ofNat (padK9 m)).toNat : Int) = (padK9 m : Int)) := by show _ = _; rw [UInt8.toNat_ofNat', Nat.mod_eq_of_lt (by omega)]
  generalize padB m = PB at RP ⊢
  generalize UInt8.ofNat (padK9 m) = x at RP hxk
  obtain ⟨r, hr⟩ : ∃ r, r = m % 16 := ⟨_, rfl⟩
  generalize padK9 m = k at RP hk hkd hxk ⊢
  have u1 : (m : Int) % 16 = (r : Int) := by omega
  have u2 : 16 - (r : Int) = (k : Int) := by omega
  have u3 : (k : Int) % 256 = (k : Int) := by omega
  have u4 : IntKind.u8.wrap (k : Int) = (k : Int) := by rw [IntKind.wrap_u8]; omega
  have e1 : ¬ ((m : Int) < 0) := by omega
  clear hr hkd
  go_enter Try.func20, Try.ntmps20
  go_wp2_with fail
  have S0 : Hid (Sl (w.alloc (.cells #[.int .u8 (k : Int)] 5)) (some ⟨w.heap.size, 0, none⟩) 1 [x]) := by
    have h := sl_row (W := w.alloc (.cells #[.int .u8 (k : Int)] 5)) (g := w.heap.size) (t := 5) (fr := (0, 0)) (bs := [x]) (n := 1) rfl (by omega) (by rw [heap_alloc_new' w _]; simp [bv, hxk.out])
    exact h
  generalize hV : w.alloc _ = W0 at S0 ⊢
  have FB := Lib.hid (below_of_alloc hV (Nat.le_refl w.heap.size))
  clear hV
  refine (RP.out _ _ W0 S0.out).mono ?_
  rintro e w1 ⟨rfl, hS1, hb1⟩
  have S1 := Lib.hid hS1; have B1 := Lib.hid (FB.out.step hb1)
  have HG : Hid (w.heap.size ≤ W0.heap.size) := FB.out.size
  clear hS1 hb1
  go_wp2
  go_ret
  exact ⟨_, HG.out, rfl, S1.out, B1.out⟩
theorem cpad_neg (m : Int) (w : World) (hm : m < 0) : Calls Try.prog 20 #[.int .i64 m] w fun e w' => e = .returned (.slice none 0 0) ∧ w = w' := by
  go_enter Try.func20, Try.ntmps20
  go_wp2
  go_ret
  exact ⟨rfl, rfl⟩
set_option maxHeartbeats 1000000 in
theorem awake9_any (w : World) : Calls Try.prog 14 #[] w fun e w' => e = .returned (.bool true) ∧ Below w.heap.size w w' := by
  have P14 : Hid (∀ W, Calls Try.prog 20 #[.int .i64 14] W fun e w' => ∃ g, W.heap.size ≤ g ∧ e = .returned (.slice (some ⟨g, 0, none⟩) 2 2) ∧ Sl w' (some ⟨g, 0, none⟩) 2 [2, 2] ∧ Below W.heap.size W w') := fun W => cpad_any 14 W (by omega)
  have P16 : Hid (∀ W, Calls Try.prog 20 #[.int .i64 16] W fun e w' => ∃ g, W.heap.size ≤ g ∧ e = .returned (.slice (some ⟨g, 0, none⟩) 16 16) ∧ Sl w' (some ⟨g, 0, none⟩) 16 (padB 16) ∧ Below W.heap.size W w') := fun W => cpad_any 16 W (by omega)
  go_enter Try.func14, Try.ntmps14
  go_wp2_with fail
  refine (P14.out w).mono ?_
  rintro e w1 ⟨g1, hg1, rfl, hS1, hb1⟩
  have B1 := Lib.hid hb1
  have cv := conv_string w1 (some ⟨g1, 0, none⟩) 2 2 [2, 2] rfl hS1
  have hq : ((strOf [2, 2]).toList == [2, 2]) = true := by rw [show (strOf [2, 2]).toList = [2, 2] from by rw [ByteArray.toList_eq]; rfl]; rfl
  generalize strOf [2, 2] = s at cv hq
  clear hb1 hS1 hg1
  go_wp2_with fail
  refine (P16.out w1).mono ?_
  rintro e w2 ⟨g2, hg2, rfl, hS2, hb2⟩
  have B2 := Lib.hid (B1.out.step hb2)
  clear hb2 hS2 hg2
  go_wp2
  go_ret
  exact ⟨rfl, B2.out⟩
/-- where a padding begins, if there is one -/
def upO (b : List UInt8) : Option Nat :=
  if b.length = 0 ∨ b.length % 16 ≠ 0 then none
  else if (b.getD (b.length - 1) 0).toNat ≤ b.length ∧ b.drop (b.length - (b.getD (b.length - 1) 0).toNat) = padB (b.length - (b.getD (b.length - 1) 0).toNat) then some (b.length - (b.getD (b.length - 1) 0).toNat) else none
def upE : Option Nat → Int
  | none => 16
  | some _ => 0
def upV : Option Nat → Int
  | none => 0
  | some k => (k : Int)
def upR : Option Nat → Int
  | none => -1
  | some k => (k : Int)
theorem c_sl_cell {w : World} {A : Option Addr} {c i : Nat} {bs : List UInt8} (h : Sl w A c bs) (hi : i < bs.length) : ∃ b o, A = some ⟨b, o, none⟩ ∧ b < w.heap.size ∧ ∀ j, j < bs.length → w.cell? ⟨b, o + j, none⟩ = some (.int .u8 ((bs.getD j 0).toNat : Int)) := by
  obtain ⟨b, o, rfl, hb, hc⟩ := h.2.2.at_ (by rw [List.length_map]; omega)
  refine ⟨b, o, rfl, hb, fun j hj => ?_⟩
  have := hc j (bv bs[j]) (by simp [hj])
  rw [this]; simp [List.getD, hj, bv]
theorem c_cut_ge {w : World} {A : Option Addr} {c k : Nat} {l : List UInt8} (h : Sl w A c l) (hk : k ≤ l.length) : Sl w (cutS A c k) (c - k) (l.drop k) := sl_cut h hk
set_option maxHeartbeats 2000000 in
theorem unpad_any (A : Option Addr) (n c : Nat) (b : List UInt8) (w : World) (hl : b.length = n) (hn : n ≤ 2147483647) (hS : Sl w A c b) :
    Calls Try.prog 17 #[.slice A n c] w fun e w' => e = .returned (.tuple #[.int .i64 (upV (upO b)), .int .i64 (upE (upO b))]) ∧ Below w.heap.size w w' := by
  by_cases h0 : n = 0
  · have HU : Hid (upO b = none) := by show _ = _; rw [upO, if_pos (.inl (hl.trans h0))]
    rw [HU.out]
    have e1 : ((n : Int) == 0) = true := by simp [h0]
    clear hl hS h0
    go_enter Try.func17, Try.ntmps17
    go_wp2
    go_ret2
    exact ⟨rfl, Below.refl _ _⟩
  have e1 : ((n : Int) == 0) = false := by simp; omega
  obtain ⟨r, hr⟩ : ∃ r, r = n % 16 := ⟨_, rfl⟩
  have e2 : (n : Int) % 16 = (r : Int) := by omega
  by_cases hr0 : r = 0
  · have e3 : ((r : Int) != 0) = false := by simp [hr0]
    obtain ⟨z, hz⟩ : ∃ z, b.getD (n - 1) 0 = z := ⟨_, rfl⟩
    have HU : Hid (upO b = if z.toNat ≤ n ∧ b.drop (n - z.toNat) = padB (n - z.toNat) then some (n - z.toNat) else none) := by show _ = _; rw [upO, if_neg (by rw [hl]; omega), hl, hz]
    rw [HU.out]
    obtain ⟨b0, o0, hA, _, hcell⟩ := c_sl_cell hS (i := n - 1) (by omega)
    have c1 := hcell (n - 1) (by omega)
    rw [hz] at c1
    obtain ⟨n1, hn1⟩ : ∃ n1, n1 = n - 1 := ⟨_, rfl⟩
    rw [← hn1] at c1
    have e4 : (n : Int) - 1 = (n1 : Int) := by omega
    have e5 : (n1 : Int) < (n : Int) := by omega
    have HS := Lib.hid hS; have HL := Lib.hid hl; have HA := Lib.hid hA
    have hz8 := z.toNat_lt
    clear hcell hr hr0 hl hS hn1
    by_cases hzn : z.toNat ≤ n
    · obtain ⟨m, hm⟩ : ∃ m, m = n - z.toNat := ⟨_, rfl⟩
      have e6 : (n : Int) - (z.toNat : Int) = (m : Int) := by omega
      have e7 : ¬ ((m : Int) < 0) := by omega
      have e8 : (m : Int) ≤ (n : Int) := by omega
      rw [← hm]
      have HMN : Hid (m ≤ n) := by show _ ≤ _; omega
      have sl := cut_from uT s8 A n c .i64 (m : Int) (by omega) (by omega)
      rw [Int.toNat_natCast] at sl
      have HP := Lib.hid (fun W => cpad_any m W (by omega))
      have hpk := padK9_le m
      have hpl := padB_len m
      have HE := Lib.hid (fun A' c' W hS hS' => equal_n (cutS A c m) A' (n - m) (padK9 m) (c - m) c' (b.drop m) (padB m) W (by rw [List.length_drop, HL.out]) hpl hS hS' (by omega) (by omega))
      generalize padB m = PB at HP HE HU ⊢
      generalize padK9 m = k at HP HE hpk
      have HX : Hid (Ext w w.drew) := (Below.refl _ _).drew
      have HEW := Lib.hid hA
      subst hA
      clear hm hz hpl
      by_cases hq : b.drop m = PB
      · rw [if_pos ⟨hzn, hq⟩]
        rw [decide_eq_true hq] at HE
        clear hq
        go_enter Try.func17, Try.ntmps17
        go_upto_region 4 with (fail)
        refine reg_start (by kernel_rfl) ?_
        try simp only [Act.put, List.setIfInBounds_toArray, List.set_cons_zero, List.set_cons_succ]
        refine reg_take (v := ?_) 0 (some 24) rfl rfl (by kernel_rfl) (by kernel_rfl) (by kernel_rfl) (fun _ _ _ h => h) (by rfl) (fun W hW => ?_) ?_
        rotate_left
        · (go_simp; try rfl)
        simp only [Act.put, List.setIfInBounds_toArray, List.set_cons_zero, List.set_cons_succ]
        refine reg_take (v := ?_) 1 (some 25) rfl rfl (by kernel_rfl) (by kernel_rfl) (by kernel_rfl) (fun _ _ _ h => h) (by rfl) (fun W hW => ?_) ?_
        rotate_left
        · (go_simp; try rfl)
        simp only [Act.put, List.setIfInBounds_toArray, List.set_cons_zero, List.set_cons_succ]
        refine reg_take (v := ?_) 2 (some 26) rfl rfl (by kernel_rfl) (by kernel_rfl) (by kernel_rfl) (fun _ _ _ h => h) (by rfl) (fun W hW => ?_) ?_
        rotate_left
        · (go_simp; try rfl)
        simp only [Act.put, List.setIfInBounds_toArray, List.set_cons_zero, List.set_cons_succ]
        refine reg_take (v := ?_) 3 (some 27) rfl rfl (by kernel_rfl) (by kernel_rfl) (by kernel_rfl) (fun _ _ _ h => h) (by rfl) (fun W hW => ?_) ?_
        rotate_left
        · (go_simp; try rfl)
        simp only [Act.put, List.setIfInBounds_toArray, List.set_cons_zero, List.set_cons_succ]
        refine reg_take (v := ?_) 4 (some 28) rfl rfl (by kernel_rfl) (by kernel_rfl) (by kernel_rfl) (fun _ _ _ h => h) (by rfl) (fun W hW => ?_) ?_
        rotate_left
        · (go_simp; try rfl)
        simp only [Act.put, List.setIfInBounds_toArray, List.set_cons_zero, List.set_cons_succ]
        refine reg_take (v := ?_) 5 (some 29) rfl rfl (by kernel_rfl) (by kernel_rfl) (by kernel_rfl) (fun _ _ _ h => h) (by rfl) (fun W hW => ?_) ?_
        rotate_left
        · (go_simp; try rfl)
        simp only [Act.put, List.setIfInBounds_toArray, List.set_cons_zero, List.set_cons_succ]
        refine reg_take (v := ?_) 6 (some 30) rfl rfl (by kernel_rfl) (by kernel_rfl) (by kernel_rfl) (fun _ _ _ h => h) (by rfl) (fun W hW => ?_) ?_
        rotate_left
        · (go_simp; try rfl)
        simp only [Act.put, List.setIfInBounds_toArray, List.set_cons_zero, List.set_cons_succ]
        refine reg_eff 7 rfl (by kernel_rfl) (fun K hK => ?_)
        go_simp
        refine (HP.out _).mono ?_
        rintro e w1 ⟨g1, hg1, rfl, hS1, hE⟩
        have S1 := Lib.hid hS1
        clear hS1 hg1
        refine hK.out _ _ hE ?_
        have HX := Lib.hid (Ext.trans HX.out hE)
        clear hE hK K
        try simp only [Act.put, List.setIfInBounds_toArray, List.set_cons_zero, List.set_cons_succ]
        refine reg_eff 8 rfl (by kernel_rfl) (fun K hK => ?_)
        go_simp
        refine (HE.out _ _ _ (sl_cut (HS.out.below HX.out) (by rw [HL.out]; exact HMN.out)) S1.out).mono ?_
        rintro e w2 ⟨rfl, hE⟩
        refine hK.out _ _ hE ?_
        have HX := Lib.hid (Ext.trans HX.out hE)
        clear hE hK K
        try simp only [Act.put, List.setIfInBounds_toArray, List.set_cons_zero, List.set_cons_succ]
        refine reg_take (v := ?_) 9 (some 33) rfl rfl (by kernel_rfl) (by kernel_rfl) (by kernel_rfl) (fun _ _ _ h => h) (by rfl) (fun W hW => ?_) ?_
        rotate_left
        · (go_simp; try rfl)
        simp only [Act.put, List.setIfInBounds_toArray, List.set_cons_zero, List.set_cons_succ]
        refine reg_take (v := ?_) 10 (some 34) rfl rfl (by kernel_rfl) (by kernel_rfl) (by kernel_rfl) (fun _ _ _ h => h) (by rfl) (fun W hW => ?_) ?_
        rotate_left
        · (go_simp; try rfl)
        simp only [Act.put, List.setIfInBounds_toArray, List.set_cons_zero, List.set_cons_succ]
        refine reg_done (by kernel_rfl) ?_
        go_wp2
        go_ret2
        exact ⟨rfl, HX.out⟩
      · rw [if_neg (fun h => hq h.2)]
        rw [decide_eq_false hq] at HE
        clear hq
        go_enter Try.func17, Try.ntmps17
        go_upto_region 4 with (fail)
        refine reg_start (by kernel_rfl) ?_
        try simp only [Act.put, List.setIfInBounds_toArray, List.set_cons_zero, List.set_cons_succ]
        refine reg_take (v := ?_) 0 (some 24) rfl rfl (by kernel_rfl) (by kernel_rfl) (by kernel_rfl) (fun _ _ _ h => h) (by rfl) (fun W hW => ?_) ?_
        rotate_left
        · (go_simp; try rfl)
        simp only [Act.put, List.setIfInBounds_toArray, List.set_cons_zero, List.set_cons_succ]
        refine reg_take (v := ?_) 1 (some 25) rfl rfl (by kernel_rfl) (by kernel_rfl) (by kernel_rfl) (fun _ _ _ h => h) (by rfl) (fun W hW => ?_) ?_
        rotate_left
        · (go_simp; try rfl)
        simp only [Act.put, List.setIfInBounds_toArray, List.set_cons_zero, List.set_cons_succ]
        refine reg_take (v := ?_) 2 (some 26) rfl rfl (by kernel_rfl) (by kernel_rfl) (by kernel_rfl) (fun _ _ _ h => h) (by rfl) (fun W hW => ?_) ?_
        rotate_left
        · (go_simp; try rfl)
        simp only [Act.put, List.setIfInBounds_toArray, List.set_cons_zero, List.set_cons_succ]
        refine reg_take (v := ?_) 3 (some 27) rfl rfl (by kernel_rfl) (by kernel_rfl) (by kernel_rfl) (fun _ _ _ h => h) (by rfl) (fun W hW => ?_) ?_
        rotate_left
        · (go_simp; try rfl)
        simp only [Act.put, List.setIfInBounds_toArray, List.set_cons_zero, List.set_cons_succ]
        refine reg_take (v := ?_) 4 (some 28) rfl rfl (by kernel_rfl) (by kernel_rfl) (by kernel_rfl) (fun _ _ _ h => h) (by rfl) (fun W hW => ?_) ?_
        rotate_left
        · (go_simp; try rfl)
        simp only [Act.put, List.setIfInBounds_toArray, List.set_cons_zero, List.set_cons_succ]
        refine reg_take (v := ?_) 5 (some 29) rfl rfl (by kernel_rfl) (by kernel_rfl) (by kernel_rfl) (fun _ _ _ h => h) (by rfl) (fun W hW => ?_) ?_
        rotate_left
        · (go_simp; try rfl)
        simp only [Act.put, List.setIfInBounds_toArray, List.set_cons_zero, List.set_cons_succ]
        refine reg_take (v := ?_) 6 (some 30) rfl rfl (by kernel_rfl) (by kernel_rfl) (by kernel_rfl) (fun _ _ _ h => h) (by rfl) (fun W hW => ?_) ?_
        rotate_left
        · (go_simp; try rfl)
        simp only [Act.put, List.setIfInBounds_toArray, List.set_cons_zero, List.set_cons_succ]
        refine reg_eff 7 rfl (by kernel_rfl) (fun K hK => ?_)
        go_simp
        refine (HP.out _).mono ?_
        rintro e w1 ⟨g1, hg1, rfl, hS1, hE⟩
        have S1 := Lib.hid hS1
        clear hS1 hg1
        refine hK.out _ _ hE ?_
        have HX := Lib.hid (Ext.trans HX.out hE)
        clear hE hK K
        try simp only [Act.put, List.setIfInBounds_toArray, List.set_cons_zero, List.set_cons_succ]
        refine reg_eff 8 rfl (by kernel_rfl) (fun K hK => ?_)
        go_simp
        refine (HE.out _ _ _ (sl_cut (HS.out.below HX.out) (by rw [HL.out]; exact HMN.out)) S1.out).mono ?_
        rintro e w2 ⟨rfl, hE⟩
        refine hK.out _ _ hE ?_
        have HX := Lib.hid (Ext.trans HX.out hE)
        clear hE hK K
        try simp only [Act.put, List.setIfInBounds_toArray, List.set_cons_zero, List.set_cons_succ]
        refine reg_take (v := ?_) 9 (some 33) rfl rfl (by kernel_rfl) (by kernel_rfl) (by kernel_rfl) (fun _ _ _ h => h) (by rfl) (fun W hW => ?_) ?_
        rotate_left
        · (go_simp; try rfl)
        simp only [Act.put, List.setIfInBounds_toArray, List.set_cons_zero, List.set_cons_succ]
        refine reg_take (v := ?_) 10 (some 34) rfl rfl (by kernel_rfl) (by kernel_rfl) (by kernel_rfl) (fun _ _ _ h => h) (by rfl) (fun W hW => ?_) ?_
        rotate_left
        · (go_simp; try rfl)
        simp only [Act.put, List.setIfInBounds_toArray, List.set_cons_zero, List.set_cons_succ]
        refine reg_done (by kernel_rfl) ?_
        go_wp2
        go_ret2
        exact ⟨rfl, HX.out⟩
    · have e7 : ((n : Int) - (z.toNat : Int) < 0) := by omega
      rw [if_neg (fun h => hzn h.1)]
      have HX : Hid (Ext w w.drew) := (Below.refl _ _).drew
      subst hA
      clear hz
      go_enter Try.func17, Try.ntmps17
      go_upto_region 4 with (fail)
      refine reg_start (by kernel_rfl) ?_
      try simp only [Act.put, List.setIfInBounds_toArray, List.set_cons_zero, List.set_cons_succ]
      refine reg_take (v := ?_) 0 (some 24) rfl rfl (by kernel_rfl) (by kernel_rfl) (by kernel_rfl) (fun _ _ _ h => h) (by rfl) (fun W hW => ?_) ?_
      rotate_left
      · (go_simp; try rfl)
      simp only [Act.put, List.setIfInBounds_toArray, List.set_cons_zero, List.set_cons_succ]
      refine reg_take (v := ?_) 1 (some 25) rfl rfl (by kernel_rfl) (by kernel_rfl) (by kernel_rfl) (fun _ _ _ h => h) (by rfl) (fun W hW => ?_) ?_
      rotate_left
      · (go_simp; try rfl)
      simp only [Act.put, List.setIfInBounds_toArray, List.set_cons_zero, List.set_cons_succ]
      refine reg_take (v := ?_) 2 (some 26) rfl rfl (by kernel_rfl) (by kernel_rfl) (by kernel_rfl) (fun _ _ _ h => h) (by rfl) (fun W hW => ?_) ?_
      rotate_left
      · (go_simp; try rfl)
      simp only [Act.put, List.setIfInBounds_toArray, List.set_cons_zero, List.set_cons_succ]
      refine reg_skip 3 (some 27) rfl rfl (by kernel_rfl) (by kernel_rfl) (by kernel_rfl) (fun _ _ _ h => h) (by rfl) ?_
      simp only [Act.put, List.setIfInBounds_toArray, List.set_cons_zero, List.set_cons_succ]
      refine reg_skip 4 (some 28) rfl rfl (by kernel_rfl) (by kernel_rfl) (by kernel_rfl) (fun _ _ _ h => h) (by rfl) ?_
      simp only [Act.put, List.setIfInBounds_toArray, List.set_cons_zero, List.set_cons_succ]
      refine reg_skip 5 (some 29) rfl rfl (by kernel_rfl) (by kernel_rfl) (by kernel_rfl) (fun _ _ _ h => h) (by rfl) ?_
      simp only [Act.put, List.setIfInBounds_toArray, List.set_cons_zero, List.set_cons_succ]
      refine reg_skip 6 (some 30) rfl rfl (by kernel_rfl) (by kernel_rfl) (by kernel_rfl) (fun _ _ _ h => h) (by rfl) ?_
      simp only [Act.put, List.setIfInBounds_toArray, List.set_cons_zero, List.set_cons_succ]
      refine reg_eff 7 rfl (by kernel_rfl) (fun K hK => ?_)
      go_simp
      refine hK.out _ _ (Ext.refl _) ?_
      clear hK K
      try simp only [Act.put, List.setIfInBounds_toArray, List.set_cons_zero, List.set_cons_succ]
      refine reg_eff 8 rfl (by kernel_rfl) (fun K hK => ?_)
      go_simp
      refine hK.out _ _ (Ext.refl _) ?_
      clear hK K
      try simp only [Act.put, List.setIfInBounds_toArray, List.set_cons_zero, List.set_cons_succ]
      refine reg_skip 9 (some 33) rfl rfl (by kernel_rfl) (by kernel_rfl) (by kernel_rfl) (fun _ _ _ h => h) (by rfl) ?_
      simp only [Act.put, List.setIfInBounds_toArray, List.set_cons_zero, List.set_cons_succ]
      refine reg_take (v := ?_) 10 (some 34) rfl rfl (by kernel_rfl) (by kernel_rfl) (by kernel_rfl) (fun _ _ _ h => h) (by rfl) (fun W hW => ?_) ?_
      rotate_left
      · (go_simp; try rfl)
      simp only [Act.put, List.setIfInBounds_toArray, List.set_cons_zero, List.set_cons_succ]
      refine reg_done (by kernel_rfl) ?_
      go_wp2
      go_ret2
      exact ⟨rfl, HX.out⟩
  · have e3 : ((r : Int) != 0) = true := by simpa using hr0
    have HU : Hid (upO b = none) := by show _ = _; rw [upO, if_pos (.inr (by rw [hl]; omega))]
    rw [HU.out]
    clear hl hS hr
    go_enter Try.func17, Try.ntmps17
    go_wp2
    go_ret2
    exact ⟨rfl, Below.refl _ _⟩
end Go.Proofs.Ytpihnggegmbgfaa
