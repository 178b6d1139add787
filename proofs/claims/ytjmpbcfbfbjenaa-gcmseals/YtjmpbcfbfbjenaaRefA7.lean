/- palfreyref03.Decrypt. -/
import Derived.Test.YtjmpbcfbfbjenaaRefA6
namespace Go.Proofs.Ytjmpbcfbfbjenaa
open Go.RowKit
set_option maxRecDepth 100000
set_option linter.unusedVariables false
set_option linter.unusedSimpArgs false
/-- a table's way back, so far -/
def bakT (T : List UInt8) : Nat → List UInt8
  | 0 => List.replicate 256 0
  | i + 1 => (bakT T i).set (T.getD i 0).toNat (UInt8.ofNat i)
theorem bakT_len (T : List UInt8) (i : Nat) : (bakT T i).length = 256 := by
  induction i with
  | zero => simp [bakT]
  | succ i ih => rw [bakT, List.length_set, ih]
theorem bakT_zero (T : List UInt8) : (bakT T 0).map bv = zeros256 := by rw [bakT, List.map_replicate]; unfold zeros256; rfl
def srcQ (q : Nat) : Nat := 4 * ((q / 4 + 3 * (q % 4)) % 4) + q % 4
def dstQ (k : Nat) : Nat := 4 * ((k / 4 + k % 4) % 4) + k % 4
theorem src_dst : ∀ k : Fin 16, ∀ q : Fin 16, (srcQ q.1 < k.1 + 1 ↔ (srcQ q.1 < k.1 ∨ q.1 = dstQ k.1)) := by decide
theorem src_of_dst : ∀ k : Fin 16, srcQ (dstQ k.1) = k.1 ∧ dstQ k.1 < 16 := by decide
theorem src_lt : ∀ q : Fin 16, srcQ q.1 < 16 := by decide
/-- what is told so far of a block whose bytes come in another order -/
def scG (X : List UInt8) (k : Nat) : List UInt8 := (List.range 16).map fun q => if srcQ q < k then X.getD q 0 else 0
theorem scG_len (X : List UInt8) (k : Nat) : (scG X k).length = 16 := by simp [scG]
theorem scG_zero (X : List UInt8) : (scG X 0).map bv = zeros16 := by
  have e : scG X 0 = List.replicate 16 0 := by simp [scG]; decide
  rw [e]; rfl
theorem scG_end (X : List UInt8) (h : X.length = 16) : scG X 16 = X := by
  apply List.ext_getElem
  · rw [scG_len, h]
  · intro q h1 h2
    have hq : q < 16 := by rw [scG_len] at h1; exact h1
    simp [scG, src_lt ⟨q, hq⟩, List.getD, h2]
theorem scG_step (X : List UInt8) (k : Nat) (hk : k < 16) : (scG X k).set (dstQ k) (X.getD (dstQ k) 0) = scG X (k + 1) := by
  apply List.ext_getElem
  · rw [List.length_set, scG_len, scG_len]
  · intro q h1 h2
    have hq : q < 16 := by rw [scG_len] at h2; exact h2
    have hs := src_dst ⟨k, hk⟩ ⟨q, hq⟩
    simp only at hs
    rw [List.getElem_set]
    simp only [scG, List.getElem_map, List.getElem_range]
    by_cases hd : dstQ k = q
    · rw [if_pos hd, if_pos (hs.2 (.inr hd.symm)), hd]
    · rw [if_neg hd]
      by_cases hl : srcQ q < k
      · rw [if_pos hl, if_pos (hs.2 (.inl hl))]
      · rw [if_neg hl, if_neg (fun h => (hs.1 h).elim hl (fun e => hd e.symm))]
theorem shB_dst (T b : List UInt8) (k : Nat) (hk : k < 16) : (shB 3 T b).getD (dstQ k) 0 = T.getD (b.getD k 0).toNat 0 := by
  obtain ⟨h1, h2⟩ := src_of_dst ⟨k, hk⟩
  simp only at h1 h2
  rw [shB_get 3 T b _ h2]
  rw [show 4 * ((dstQ k / 4 + 3 * (dstQ k % 4)) % 4) + dstQ k % 4 = srcQ (dstQ k) from rfl, h1]
/-- a block behind m steps back of R - 1 -/
def stD (T : List UInt8) (RK : Nat → List UInt8) (R : Nat) (b : List UInt8) : Nat → List UInt8
  | 0 => xorL b (RK (R - 1))
  | m + 1 => if 0 < R - 2 - m then colB [14, 11, 13, 9] (xorL (shB 3 T (stD T RK R b m)) (RK (R - 2 - m))) else xorL (shB 3 T (stD T RK R b m)) (RK (R - 2 - m))
theorem stD_len (T : List UInt8) (RK : Nat → List UInt8) (R : Nat) (b : List UInt8) (hb : b.length = 16) (hR : 2 ≤ R) (hK : ∀ r, r < R → (RK r).length = 16) (m : Nat) : (stD T RK R b m).length = 16 := by
  cases m with
  | zero => rw [stD, xorL_len, hb, hK _ (by omega)]; rfl
  | succ m =>
    rw [stD]
    split
    · exact colB_len _ _
    · rw [xorL_len, shB_len, hK _ (by omega)]; rfl
set_option maxHeartbeats 8000000 in
theorem refDec_any (T : List UInt8) (RK : Nat → List UInt8) (R : Nat) (b : List UInt8) (A : Option Addr) (cc : Nat) (w : World) (hT : T.length = 256) (hb : b.length = 16) (hR : 2 ≤ R) (hR2 : R ≤ 15) (hK : ∀ r, r < R → (RK r).length = 16) (hA : KeysAt w A R RK) :
    Calls Try.prog 44 #[.agg (T.map bv).toArray, .slice A R cc, .agg (b.map bv).toArray] w fun e w' => e = .returned (.agg ((stD (bakT T 256) RK R b (R - 1)).map bv).toArray) ∧ Below w.heap.size w w' := by
  obtain ⟨gk, rfl, hgk, hkr⟩ := hA
  have HT := Lib.hid hT; have HB := Lib.hid hb; have HK := Lib.hid hK; have HGK := Lib.hid hgk; have HKR := Lib.hid hkr
  have hz16 : ∀ W, (zeroValue 23).run Try.prog W = .ok (.agg zeros16.toArray) W := fun W => by kernel_rfl
  have HZL := Lib.hid zeros16_len
  have HFG0 := Lib.hid scG_zero
  have HFGL := Lib.hid scG_len
  have HFGE := Lib.hid scG_end
  have HFGS := Lib.hid scG_step
  have HIL := Lib.hid (bakT_len T)
  have HI0 := Lib.hid (bakT_zero T)
  have HIS : Hid (∀ i, (bakT T i).set (T.getD i 0).toNat (UInt8.ofNat i) = bakT T (i + 1)) := fun _ => rfl
  have HZL2 := Lib.hid zeros256_len
  have hz := zero256B
  have HS0 : Hid (stD (bakT T 256) RK R b 0 = xorL b (RK (R - 1))) := rfl
  have HSS : Hid (∀ m, stD (bakT T 256) RK R b (m + 1) = if 0 < R - 2 - m then colB [14, 11, 13, 9] (xorL (shB 3 (bakT T 256) (stD (bakT T 256) RK R b m)) (RK (R - 2 - m))) else xorL (shB 3 (bakT T 256) (stD (bakT T 256) RK R b m)) (RK (R - 2 - m))) := fun _ => rfl
  have HSL := Lib.hid (stD_len (bakT T 256) RK R b hb hR hK)
  have HSG := Lib.hid (fun y => shB_dst (bakT T 256) y)
  have HSHL := Lib.hid (fun y => shB_len 3 (bakT T 256) y)
  have HCOL := Lib.hid (fun y => colB_len [14, 11, 13, 9] y)
  have hbd : ∀ W, (Instr.build 83 #[(0, .int .u8 14), (1, .int .u8 11), (2, .int .u8 13), (3, .int .u8 9)]).run Try.prog W = .ok (.agg #[.int .u8 14, .int .u8 11, .int .u8 13, .int .u8 9]) W := fun W => by kernel_rfl
  have HCC : Hid (∀ y W, y.length = 16 → Calls Try.prog 67 #[.agg (y.map bv).toArray, .agg #[.int .u8 14, .int .u8 11, .int .u8 13, .int .u8 9]] W fun e w' => e = .returned (.agg ((colB [14, 11, 13, 9] y).map bv).toArray) ∧ Below W.heap.size W w') := fun y W hy => refCols_any y [14, 11, 13, 9] W hy rfl
  have HBD := Lib.hid hbd
  generalize zeros16 = Z at hz16 HFG0 HZL
  generalize zeros256 = Z2 at hz HI0 HZL2
  generalize scG = FG at HFG0 HFGL HFGE HFGS
  obtain ⟨R1, hR1⟩ : ∃ r, r = R - 1 := ⟨_, rfl⟩
  rw [← hR1] at HS0 ⊢
  have HR1 := Lib.hid hR1
  have f1 : (R : Int) - 1 = (R1 : Int) := by omega
  obtain ⟨R2, hR2'⟩ : ∃ r, r = R - 2 := ⟨_, rfl⟩
  have HR2 := Lib.hid hR2'
  have f2 : (R : Int) - 2 = (R2 : Int) := by omega
  have f3 : (R1 : Int) < (R : Int) := by omega
  rw [← hR2'] at HSS
  generalize stD (bakT T 256) RK R b = SE at HS0 HSS HSL ⊢
  generalize shB 3 (bakT T 256) = SH at HSS HSG HSHL
  generalize colB [14, 11, 13, 9] = CO at HSS HCOL HCC
  generalize bakT T = IV at HIL HI0 HIS HSG
  clear hR2'
  clear hT hb hK hgk hkr hbd hR1
  obtain ⟨X1, HX1⟩ : ∃ X, Hid (SE R1 = X) := ⟨_, rfl⟩
  rw [HX1.out]
  go_enter Try.func44, Try.ntmps44
  go_upto_region 2 with (fail)
  generalize hV : (((w.alloc _).alloc _).alloc _).alloc _ = W0
  obtain ⟨f0, f1, f2, f3, fb⟩ := r_heap4 w _ _ _ _ _ hV
  have F0 : Hid (W0.heap[w.heap.size]? = some (.cells (T.map bv).toArray 48 (0, 0))) := f0
  have F1 : Hid (W0.heap[w.heap.size + 1]? = some (.cells (b.map bv).toArray 23 (0, 0))) := f1
  have F2 : Hid (W0.heap[w.heap.size + 2]? = some (.cells Z.toArray 23 (0, 0))) := f2
  have F3 : Hid (W0.heap[w.heap.size + 3]? = some (.cells Z2.toArray 48 (0, 0))) := f3
  have FB : Hid (Below w.heap.size w W0) := fb
  clear hV f0 f1 f2 f3 fb
  obtain ⟨gB, hgB⟩ : ∃ g, w.heap.size + 1 = g := ⟨_, rfl⟩
  rw [hgB] at F1 ⊢
  have HGB := Lib.hid hgB
  clear hgB
  have KN : Hid (gk ≠ gB) := by have h1 := HGK.out; have h2 := HGB.out; show _ ≠ _; omega
  have N2 : Hid (w.heap.size + 2 ≠ gB) := by have h2 := HGB.out; show _ ≠ _; omega
  obtain ⟨gK, hgK⟩ : ∃ g, gB + 1 + 1 = g := ⟨_, rfl⟩
  rw [hgK]
  have HGK3 : Hid (w.heap.size + 3 = gK) := by have := HGB.out; show _ = _; omega
  rw [HGK3.out] at F3
  clear hgK
  go_wp2_with fail
  go_loopw [8] (fun vi wr => ∃ (i : Nat), i ≤ 256 ∧ vi = .int .i64 (i : Int) ∧ Hid (Below gK W0 wr) ∧ Hid (wr.heap[gK]? = some (.cells ((IV i).map bv).toArray 48 (0, 0)))) (fun i _ => 256 - (intOf i).toNat)
  case atStart => exact ⟨0, by omega, rfl, Below.refl _ _, by show _ = _; rw [HI0.out]; exact F3.out⟩
  case round =>
    obtain ⟨i, hi, rfl, HBI, HI⟩ := hrel
    by_cases hlt : i < 256
    · have q1 : (i : Int) < 256 := by omega
      have e1 : (i : Int) % 256 = (i : Int) := by omega
      have hnat : (UInt8.ofNat i).toNat = i := by rw [UInt8.toNat_ofNat', Nat.mod_eq_of_lt (by omega)]
      have cT := bcellT ((HBI.out.block _ (by have := HGK3.out; omega)).trans F0.out) i (by rw [HT.out]; exact hlt)
      have HST := HIS.out i
      generalize T.getD i 0 = x at cT HST
      have bx : x.toNat < 256 := x.toNat_lt
      have bxi : (x.toNat : Int) < 256 := by omega
      have c1 := bcellT HI.out x.toNat (by rw [HIL.out]; exact x.toNat_lt)
      generalize (IV i).getD x.toNat 0 = old at c1
      have fz := frozen_of_heap HI.out x.toNat
      have HST := Lib.hid HST
      have HNAT := Lib.hid hnat
      clear hnat
      go_wp2_with fail
      go_roundw
      case rel =>
        refine ⟨i + 1, by omega, by go_num, HBI.out.setCell (Nat.le_refl _) _, ?_⟩
        have hfin := heap_set HI.out x.toNat (bv (UInt8.ofNat i))
        rw [← List.map_set, HST.out] at hfin
        have hbv : bv (UInt8.ofNat i) = .int .u8 (i : Int) := by unfold bv; rw [HNAT.out]
        rw [hbv] at hfin
        exact hfin
      case measure => simp [intOf]; omega
    · have q1 : ¬ ((i : Int) < 256) := by omega
      have hi256 : i = 256 := by omega
      rw [hi256] at HI
      clear hi256
      obtain ⟨wo, hwo⟩ : ∃ x, x = wr := ⟨_, rfl⟩
      subst hwo
      have HIVL : Hid ((IV 256).length = 256) := HIL.out 256
      generalize IV 256 = V at HI HIVL HSG
      have LK : Hid (gK < wo.heap.size) := lt_of_heap HI.out
      have E1 : Hid (wo.heap[gB]? = some (.cells (b.map bv).toArray 23 (0, 0))) := (HBI.out.block _ (by have h1 := HGB.out; have h2 := HGK3.out; omega)).trans F1.out
      have E2 : Hid (wo.heap[w.heap.size + 2]? = some (.cells Z.toArray 23 (0, 0))) := (HBI.out.block _ (by have h2 := HGK3.out; omega)).trans F2.out
      have EB : Hid (Below w.heap.size w wo) := FB.out.trans (HBI.out.mono (by have h2 := HGK3.out; omega))
      have KR : Hid (∀ r, r < R → wo.rangeAt gk (r * 16) ((RK r).map bv)) := fun r hr => range_heap (EB.out.block _ HGK.out) (HKR.out r hr)
      have KL : Hid (gk < wo.heap.size) := Nat.lt_of_lt_of_le HGK.out EB.out.size
      have NK : Hid (gK ≠ gB) := by have h1 := HGB.out; have h2 := HGK3.out; show _ ≠ _; omega
      clear HBI F0 F1 F2 F3 hi q1
      have P0 := Lib.hid (fun W => refPlus_any b (RK R1) W HB.out (HK.out R1 (by have := HR1.out; omega)))
      rw [← HS0.out] at P0
      have y1 : IntKind.i64.wrap (R1 : Int) = (R1 : Int) := by rw [IntKind.wrap_i64]; omega
      have y2 : R1 < R := by omega
      go_upto_region 6 with (fail)
      have HX : Hid (GrowA gB wo wo.drew) := GrowA.drew _ _
      refine regS_start (GrowA gB) (by kernel_rfl) ?_
      try simp only [Act.put, List.setIfInBounds_toArray, List.set_cons_zero, List.set_cons_succ]
      refine regS_take (v := ?_) 1 (some 24) rfl rfl (by kernel_rfl) (by kernel_rfl) (by kernel_rfl) (fun _ _ _ h => h) (by rfl) (fun W hW => ?_) ?_
      rotate_left
      · (go_simp; try rfl)
      simp only [Act.put, List.setIfInBounds_toArray, List.set_cons_zero, List.set_cons_succ]
      refine regS_take (v := ?_) 2 (some 25) rfl rfl (by kernel_rfl) (by kernel_rfl) (by kernel_rfl) (fun _ _ _ h => h) (by rfl) (fun W hW => ?_) ?_
      rotate_left
      · (go_simp; try rfl)
      simp only [Act.put, List.setIfInBounds_toArray, List.set_cons_zero, List.set_cons_succ]
      refine regS_take (v := ?_) 3 (some 26) rfl rfl (by kernel_rfl) (by kernel_rfl) (by kernel_rfl) (fun _ _ _ h => h) (by rfl) (fun W hW => ?_) ?_
      rotate_left
      · (go_simp; try rfl)
      simp only [Act.put, List.setIfInBounds_toArray, List.set_cons_zero, List.set_cons_succ]
      refine regS_take (v := ?_) 4 (some 27) rfl rfl (by kernel_rfl) (by kernel_rfl) (by kernel_rfl) (fun _ _ _ h => h) (by rfl) (fun W hW => ?_) ?_
      rotate_left
      · (go_simp; try rfl)
      simp only [Act.put, List.setIfInBounds_toArray, List.set_cons_zero, List.set_cons_succ]
      refine regS_take (v := ?_) 5 (some 28) rfl rfl (by kernel_rfl) (by kernel_rfl) (by kernel_rfl) (fun _ _ _ h => h) (by rfl) (fun W hW => ?_) ?_
      rotate_left
      · (go_simp; try rfl)
      simp only [Act.put, List.setIfInBounds_toArray, List.set_cons_zero, List.set_cons_succ]
      refine regS_load 6 (some 29) (fun W hW => run_loadAt_mid W gk (R1 * 16) 23 ((RK R1).map bv) _ (hW.range KN.out (Nat.lt_of_lt_of_le KL.out HX.out.size) (HX.out.range KN.out KL.out (KR.out R1 (by have := HR1.out; omega)))) arr16B rfl (r_i16 _ (HK.out R1 (by have := HR1.out; omega)))) rfl rfl rfl rfl (by kernel_rfl) (by kernel_rfl) (by kernel_rfl) (fun _ _ _ h => h) (by rfl) ?_
      simp only [Act.put, List.setIfInBounds_toArray, List.set_cons_zero, List.set_cons_succ]
      refine regS_eff 0 rfl (by kernel_rfl) (fun K hK => ?_)
      refine step_ld rfl 23 (.tmp 5) rfl (load_arr arr16B rfl (r_i16 b HB.out) E1.out) ?_
      have hE : GrowA gB wo.drew wo.drew := Pre.refl _
      refine hK.out _ _ hE ?_
      have HX := Lib.hid (Pre.trans HX.out hE)
      clear hE hK K
      try simp only [Act.put, List.setIfInBounds_toArray, List.set_cons_zero, List.set_cons_succ]
      refine regS_eff 7 rfl (by kernel_rfl) (fun K hK => ?_)
      go_simp
      refine (P0.out _).mono ?_
      rintro e w4 ⟨rfl, hb⟩
      have M1 := Lib.hid ((hb.block _ (lt_of_heap (w := wo.drew) E1.out)).trans E1.out)
      have hE := GrowA.of_ext (g := gB) hb
      clear hb
      refine hK.out _ _ hE ?_
      have HX := Lib.hid (Pre.trans HX.out hE)
      clear hE hK K
      try simp only [Act.put, List.setIfInBounds_toArray, List.set_cons_zero, List.set_cons_succ]
      refine regS_eff 8 rfl (by kernel_rfl) (fun K hK => ?_)
      refine step_st1 rfl 23 (.tmp 5) (.tmp 30) rfl (store_arr (cs := (SE 0).map bv) (r_i16 _ (HSL.out 0)) (bv_one _) M1.out (by rw [List.length_map, List.length_map, HB.out, HSL.out 0])) ?_
      generalize hV : World.setRow _ _ _ = W7
      have hres := Lib.hid (heap_of_setRow hV M1.out)
      have hE : GrowA gB w4 W7 := by rw [← hV]; exact GrowA.setRow _ _ _
      clear hV
      refine hK.out _ _ hE ?_
      have HX := Lib.hid (Pre.trans HX.out hE)
      clear hE hK K
      try simp only [Act.put, List.setIfInBounds_toArray, List.set_cons_zero, List.set_cons_succ]
      refine regS_done (by kernel_rfl) ?_
      have G7 : Hid (GrowA gB wo W7) := HX.out
      clear y1
      clear HX M1 E1 P0
      go_wp2_with fail
      go_loopw [9] (fun vn wr => ∃ (m : Nat) (z : Int), Hid (z = (R2 : Int) - (m : Int)) ∧ m ≤ R1 ∧ vn = .int .i64 z ∧ Hid (wr.heap[gB]? = some (.cells ((SE m).map bv).toArray 23 (0, 0))) ∧ Hid (GrowA gB wo wr)) (fun i _ => (intOf i + 1).toNat)
      case atStart => exact ⟨0, (R2 : Int), by show _ = _; omega, by omega, rfl, hres, G7⟩
      case round =>
        clear hres G7
        obtain ⟨m, z, HZM, hm, rfl, H1, HG⟩ := hrel
        by_cases hlt : 0 ≤ z
        · obtain ⟨n, rfl⟩ : ∃ n : Nat, z = (n : Int) := ⟨z.toNat, by omega⟩
          have HNM : Hid (n + m = R2) := by have := HZM.out; show _ = _; omega
          have hnR : n < R := by have h1 := HNM.out; have h2 := HR2.out; omega
          have q1 : (n : Int) < (R : Int) := by omega
          have hmR : m + 1 ≤ R1 := by have h1 := HNM.out; have h2 := HR2.out; have h3 := HR1.out; omega
          go_wp2_with fail
          have HML := Lib.hid (HSL.out m)
          have HSSm := Lib.hid (HSS.out m)
          have HSn := Lib.hid (HSL.out (m + 1))
          generalize SE m = Y at H1 HML HSSm
          have HGX := Lib.hid (HSG.out Y)
          have HXL := Lib.hid (HSHL.out Y)
          generalize SH Y = X at HSSm HGX HXL
          generalize hV : wr.alloc _ = W3
          have G0 : Hid (W3.heap[wr.heap.size]? = some (.cells ((FG X (4 * 0)).map bv).toArray 23 (0, 0))) := by show _ = _; rw [Nat.mul_zero, HFG0.out]; exact heap_of_alloc hV
          have GB := Lib.hid (below_of_alloc hV (Nat.le_refl wr.heap.size))
          clear hV
          obtain ⟨wp, hwp⟩ : ∃ x, x = wr := ⟨_, rfl⟩
          subst hwp
          obtain ⟨gS, hgS⟩ : ∃ g, g = wp.heap.size := ⟨_, rfl⟩
          have HLS : Hid (gB < gS) := by have h1 := lt_of_heap H1.out; show _ < _; rw [hgS]; exact h1
          have H0 := Lib.hid (HG.out.heap NK.out HI.out)
          have HL0 : Hid (gK < gS) := by have h1 := lt_of_heap H0.out; show _ < _; rw [hgS]; exact h1
          rw [← hgS] at G0 GB ⊢
          have HGS := Lib.hid hgS
          clear hgS
          have T3 := Lib.hid ((GB.out.block _ HL0.out).trans H0.out)
          have Y3 := Lib.hid ((GB.out.block _ HLS.out).trans H1.out)
          go_wp2_with fail
          go_loopw [11] (fun vc wr => ∃ (c : Nat), c ≤ 4 ∧ vc = .int .i64 (c : Int) ∧ Hid (wr.heap[gS]? = some (.cells ((FG X (4 * c)).map bv).toArray 23 (0, 0))) ∧ Hid (Below gS W3 wr)) (fun i _ => 4 - (intOf i).toNat)
          case atStart => exact ⟨0, by omega, rfl, G0, Below.refl _ _⟩
          case round =>
            clear G0
            obtain ⟨c, hc, rfl, H5, HBW⟩ := hrel
            by_cases hlc : c < 4
            · have q4 : (c : Int) < 4 := by omega
              go_wp2_with fail
              obtain ⟨wz, hwz⟩ : ∃ x, x = wr := ⟨_, rfl⟩
              subst hwz
              go_loopw [12] (fun vr wr => ∃ (r : Nat), r ≤ 4 ∧ vr = .int .i64 (r : Int) ∧ Hid (wr.heap[gS]? = some (.cells ((FG X (4 * c + r)).map bv).toArray 23 (0, 0))) ∧ Hid (Below gS W3 wr)) (fun i _ => 4 - (intOf i).toNat)
              case atStart => exact ⟨0, by omega, rfl, H5, HBW⟩
              case round =>
                clear H5 HBW
                obtain ⟨r, hr, rfl, H5, HBW⟩ := hrel
                by_cases hlr : r < 4
                · have q5 : (r : Int) < 4 := by omega
                  obtain ⟨p, hp⟩ : ∃ p, p = 4 * c + r := ⟨_, rfl⟩
                  have hp16 : p < 16 := by omega
                  rw [← hp] at H5
                  have hST := HFGS.out X p hp16
                  have hln := HFGL.out X p
                  have hgx := HGX.out p hp16
                  obtain ⟨e, he⟩ : ∃ e, e = c + r := ⟨_, rfl⟩
                  obtain ⟨k, hk⟩ : ∃ k, k = e % 4 := ⟨_, rfl⟩
                  obtain ⟨k4, hk4⟩ : ∃ k4, k4 = 4 * k := ⟨_, rfl⟩
                  obtain ⟨p2, hp2⟩ : ∃ p2, p2 = k4 + r := ⟨_, rfl⟩
                  have hp216 : p2 < 16 := by omega
                  have hdst : dstQ p = p2 := by unfold dstQ; omega
                  rw [hdst] at hST hgx
                  have cY := bcellT ((HBW.out.block _ HLS.out).trans Y3.out) p (by rw [HML.out]; omega)
                  generalize Y.getD p 0 = x at cY hgx
                  have cT := bcellT ((HBW.out.block _ HL0.out).trans T3.out) x.toNat (by rw [HIVL.out]; exact x.toNat_lt)
                  rw [← hgx] at cT
                  generalize X.getD p2 0 = y at cT hST
                  have c5 := bcellT H5.out p2 (by rw [hln]; omega)
                  generalize (FG X p).getD p2 0 = old at c5
                  have fz := frozen_of_heap H5.out p2
                  obtain ⟨c4, hc4⟩ : ∃ c4, c4 = 4 * c := ⟨_, rfl⟩
                  have o1 : 4 * (c : Int) = (c4 : Int) := by omega
                  have o2 : (c4 : Int) + (r : Int) = (p : Int) := by omega
                  have o3 : (c : Int) + (r : Int) = (e : Int) := by omega
                  have o4 : (e : Int) % 4 = (k : Int) := by omega
                  have o4' : (e : Int).tmod 4 = (k : Int) := by rw [Int.tmod_eq_emod_of_nonneg (by omega)]; exact o4
                  have o5 : 4 * (k : Int) = (k4 : Int) := by omega
                  have o6 : (k4 : Int) + (r : Int) = (p2 : Int) := by omega
                  have i1 : (p : Int) < 16 := by omega
                  have i2 : (p2 : Int) < 16 := by omega
                  have bx : x.toNat < 256 := x.toNat_lt
                  have bxi : (x.toNat : Int) < 256 := by omega
                  have hc12 : c4 ≤ 12 := by omega
                  have he8 : e < 8 := by omega
                  have hk44 : k < 4 := by omega
                  have hk412 : k4 ≤ 12 := by omega
                  have HST := Lib.hid hST
                  have HP := Lib.hid hp
                  clear hST hln hp hc4 he hk hk4 hp2 hgx hdst
                  go_wp2_with fail
                  go_roundw
                  case rel =>
                    refine ⟨r + 1, by omega, by go_num, ?_, HBW.out.setCell (Nat.le_refl _) _⟩
                    have hfin := heap_set H5.out p2 (bv y)
                    rw [← List.map_set, HST.out] at hfin
                    rw [show 4 * c + (r + 1) = p + 1 by have := HP.out; omega]
                    exact hfin
                  case measure => simp [intOf]; omega
                · have q5 : ¬ ((r : Int) < 4) := by omega
                  have hr4 : r = 4 := by omega
                  rw [hr4, show 4 * c + 4 = 4 * (c + 1) by omega] at H5
                  clear hr4
                  go_wp2_with fail
                  go_roundw
                  case rel => exact ⟨c + 1, by omega, by go_num, H5, HBW⟩
                  case measure => simp [intOf]; omega
            · have q4 : ¬ ((c : Int) < 4) := by omega
              have hc4 : c = 4 := by omega
              rw [hc4, show 4 * 4 = 16 from rfl, HFGE.out X HXL.out] at H5
              clear hc4
              have BB8 : Hid (Below gS wp wr) := GB.out.trans HBW.out
              have G8 : Hid (GrowA gB wo wr) := HG.out.trans (GrowA.of_ext (show Below wp.heap.size wp wr by rw [← HGS.out]; exact BB8.out))
              have H8 : Hid (wr.heap[gB]? = some (.cells (Y.map bv).toArray 23 (0, 0))) := (BB8.out.block _ HLS.out).trans H1.out
              have KR8 : Hid (wr.rangeAt gk (n * 16) ((RK n).map bv)) := G8.out.range KN.out KL.out (KR.out n hnR)
              have KL8 : Hid (gk < wr.heap.size) := Nat.lt_of_lt_of_le KL.out G8.out.size
              have NS : Hid (gS ≠ gB) := by have := HLS.out; show _ ≠ _; omega
              have HKn := Lib.hid (HK.out n hnR)
              have P2 := Lib.hid (fun W => refPlus_any X (RK n) W HXL.out HKn.out)
              rw [show R2 - m = n by have := HNM.out; omega] at HSSm
              have HVL : Hid ((xorL X (RK n)).length = 16) := by show _ = _; rw [xorL_len, HXL.out, HKn.out]; rfl
              generalize xorL X (RK n) = V2 at P2 HSSm HVL
              clear BB8 HBW GB Y3 T3 H0 HG HGX
              go_upto_region 18 with (fail)
              have HX : Hid (GrowA gB wr wr.drew) := GrowA.drew _ _
              refine regS_start (GrowA gB) (by kernel_rfl) ?_
              try simp only [Act.put, List.setIfInBounds_toArray, List.set_cons_zero, List.set_cons_succ]
              refine regS_load 0 (some 62) (fun W hW => load_arr arr16B rfl (r_i16 X HXL.out) (hW.heap NS.out (HX.out.heap NS.out H5.out))) rfl rfl rfl rfl (by kernel_rfl) (by kernel_rfl) (by kernel_rfl) (fun _ _ _ h => h) (by rfl) ?_
              simp only [Act.put, List.setIfInBounds_toArray, List.set_cons_zero, List.set_cons_succ]
              refine regS_take (v := ?_) 1 (some 63) rfl rfl (by kernel_rfl) (by kernel_rfl) (by kernel_rfl) (fun _ _ _ h => h) (by rfl) (fun W hW => ?_) ?_
              rotate_left
              · (go_simp; try rfl)
              simp only [Act.put, List.setIfInBounds_toArray, List.set_cons_zero, List.set_cons_succ]
              refine regS_take (v := ?_) 2 (some 64) rfl rfl (by kernel_rfl) (by kernel_rfl) (by kernel_rfl) (fun _ _ _ h => h) (by rfl) (fun W hW => ?_) ?_
              rotate_left
              · (go_simp; try rfl)
              simp only [Act.put, List.setIfInBounds_toArray, List.set_cons_zero, List.set_cons_succ]
              refine regS_take (v := ?_) 3 (some 65) rfl rfl (by kernel_rfl) (by kernel_rfl) (by kernel_rfl) (fun _ _ _ h => h) (by rfl) (fun W hW => ?_) ?_
              rotate_left
              · (go_simp; try rfl)
              simp only [Act.put, List.setIfInBounds_toArray, List.set_cons_zero, List.set_cons_succ]
              refine regS_load 4 (some 66) (fun W hW => run_loadAt_mid W gk (n * 16) 23 ((RK n).map bv) _ (hW.range KN.out (Nat.lt_of_lt_of_le KL8.out HX.out.size) (HX.out.range KN.out KL8.out KR8.out)) arr16B rfl (r_i16 _ HKn.out)) rfl rfl rfl rfl (by kernel_rfl) (by kernel_rfl) (by kernel_rfl) (fun _ _ _ h => h) (by rfl) ?_
              simp only [Act.put, List.setIfInBounds_toArray, List.set_cons_zero, List.set_cons_succ]
              refine regS_eff 5 rfl (by kernel_rfl) (fun K hK => ?_)
              go_simp
              refine (P2.out _).mono ?_
              rintro e w4 ⟨rfl, hb⟩
              have M1 := Lib.hid ((hb.block _ (lt_of_heap (w := wr.drew) H8.out)).trans H8.out)
              have hE := GrowA.of_ext (g := gB) hb
              clear hb
              refine hK.out _ _ hE ?_
              have HX := Lib.hid (Pre.trans HX.out hE)
              clear hE hK K
              try simp only [Act.put, List.setIfInBounds_toArray, List.set_cons_zero, List.set_cons_succ]
              refine regS_eff 6 rfl (by kernel_rfl) (fun K hK => ?_)
              refine step_st1 rfl 23 (.tmp 5) (.tmp 67) rfl (store_arr (cs := V2.map bv) (r_i16 _ HVL.out) (bv_one _) M1.out (by rw [List.length_map, List.length_map, HML.out, HVL.out])) ?_
              generalize hV : World.setRow _ _ _ = W7
              have hres := Lib.hid (heap_of_setRow hV M1.out)
              have hE : GrowA gB w4 W7 := by rw [← hV]; exact GrowA.setRow _ _ _
              clear hV
              refine hK.out _ _ hE ?_
              have HX := Lib.hid (Pre.trans HX.out hE)
              clear hE hK K
              try simp only [Act.put, List.setIfInBounds_toArray, List.set_cons_zero, List.set_cons_succ]
              refine regS_done (by kernel_rfl) ?_
              have G9 : Hid (GrowA gB wo W7) := G8.out.trans HX.out
              clear HX G8 M1 H8 KR8 P2
              have HZ2 : Hid ((n : Int) - 1 = (R2 : Int) - ((m + 1 : Nat) : Int)) := by have := HNM.out; show _ = _; omega
              by_cases hn0 : 0 < n
              · have q6 : (0 : Int) < (n : Int) := by omega
                rw [if_pos hn0] at HSSm
                have hiV := Lib.hid (r_i16 V2 HVL.out)
                have hiZ := Lib.hid (r_i16 (SE (m + 1)) HSn.out)
                go_wp2_with (first
                  | (refine wpList_ld rfl 23 (.tmp 5) rfl (load_arr arr16B rfl hiV.out hres.out) ?_)
                  | (refine wpList_run (o := ⟨some 71, .build _ _, _, _, _, _⟩) rfl (exec_build rfl (by simp only [List.map_toArray, List.map_cons, List.map_nil]; exact HBD.out _)) ?_)
                  | fail)
                refine (HCC.out V2 W7 HVL.out).mono ?_
                rw [← HSSm.out]
                rintro e w6 ⟨rfl, hb⟩
                have H6 := Lib.hid ((hb.block _ (lt_of_heap hres.out)).trans hres.out)
                have G6 : Hid (GrowA gB wo w6) := G9.out.trans (GrowA.of_ext hb)
                clear hb
                go_wp2_with (first
                  | (refine wpList_st rfl 23 (.tmp 5) (.tmp 72) rfl (store_arr (cs := (SE (m + 1)).map bv) hiZ.out (bv_one _) H6.out (by rw [List.length_map, List.length_map, HVL.out, HSn.out])) ?_
                     generalize hV : World.setRow _ _ _ = W8
                     have M7 := Lib.hid (heap_of_setRow hV H6.out)
                     have G10 : Hid (GrowA gB wo W8) := G6.out.trans (by rw [← hV]; exact GrowA.setRow _ _ _)
                     clear hV)
                  | fail)
                go_roundw
                case rel => exact ⟨m + 1, _, HZ2, hmR, by go_num, M7, G10⟩
                case measure => (first | (simp [intOf]; done) | (simp [intOf]; omega))
              · have q6 : ¬ ((0 : Int) < (n : Int)) := by omega
                rw [if_neg hn0] at HSSm
                go_wp2_with fail
                go_roundw
                case rel => exact ⟨m + 1, _, HZ2, hmR, by go_num, by show _ = _; rw [HSSm.out]; exact hres.out, G9⟩
                case measure => (first | (simp [intOf]; done) | (simp [intOf]; omega))
        · have hm1 : m = R1 := by have h1 := HZM.out; have h2 := HR1.out; have h3 := HR2.out; omega
          rw [hm1, HX1.out] at H1
          have hiX := Lib.hid (r_i16 (SE R1) (HSL.out R1))
          have hlX : Hid (((SE R1).map bv).length = Z.length) := by show _ = _; rw [List.length_map, HSL.out R1, HZL.out]
          rw [HX1.out] at hiX hlX
          clear HX1
          have K2 : Hid (wr.heap[gB + 1]? = some (.cells Z.toArray 23 (0, 0))) := by have h := HG.out.heap N2.out E2.out; show _ = _; rw [show gB + 1 = w.heap.size + 2 by have := HGB.out; omega]; exact h
          have hB1 : w.heap.size ≤ gB + 1 := by have := HGB.out; omega
          have KB : Hid (Below w.heap.size w wr) := EB.out.trans (HG.out.below (by have := HGB.out; omega) EB.out.size)
          clear hm1
          go_wp2_with (first
            | (refine wpList_ld rfl 23 (.tmp 5) rfl (load_arr arr16B rfl hiX.out H1.out) ?_)
            | (refine wpList_st rfl 23 (.tmp 6) (.tmp 73) rfl (store_arr (cs := X1.map bv) (old := Z) hiX.out (bv_one _) K2.out hlX.out.symm) ?_)
            | fail)
          have hres := setRow_heap wr (gB + 1) _ (X1.map bv).toArray 23 _ K2.out
          exact bodyPost_ret (results_cell_row (P := Try.prog) rfl _ _ (gB + 1) 23 (X1.map bv).toArray (0, 0) _ rfl hres arr16B rfl (by rw [List.size_toArray]; exact hiX.out)) rfl ⟨rfl, KB.out.trans (grown_below (grown_setRow _ _ _) hB1 KB.out.size)⟩
end Go.Proofs.Ytjmpbcfbfbjenaa
