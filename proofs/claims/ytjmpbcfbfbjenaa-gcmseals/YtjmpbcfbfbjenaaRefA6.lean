/- palfreyref03.Encrypt. -/
import Derived.Test.YtjmpbcfbfbjenaaRefA5
namespace Go.Proofs.Ytjmpbcfbfbjenaa
open Go.RowKit
set_option maxRecDepth 100000
set_option linter.unusedVariables false
set_option linter.unusedSimpArgs false
/-- all blocks but g are as they were -/
def GrowA (g : Nat) (w W : World) : Prop := w.grownBy W (some g)
instance (g : Nat) : Pre (GrowA g) where
  refl w := World.grownBy.refl w _
  trans h k := ⟨k.os.trans h.os, k.tape.trans h.tape, k.output.trans h.output, Nat.le_trans h.size k.size, fun i hi hn => (k.block i (Nat.lt_of_lt_of_le hi h.size) hn).trans (h.block i hi hn)⟩
theorem GrowA.trans {g : Nat} {a b c : World} (h : GrowA g a b) (k : GrowA g b c) : GrowA g a c := Pre.trans h k
theorem GrowA.of_ext {g : Nat} {w W : World} (h : Ext w W) : GrowA g w W := ⟨h.os, h.tape, h.output, h.size, fun k hk _ => h.block k hk⟩
theorem GrowA.heap {g b : Nat} {w W : World} {o : Obj} (h : GrowA g w W) (hb : b ≠ g) (hc : w.heap[b]? = some o) : W.heap[b]? = some o :=
  (h.block b (lt_of_heap hc) (fun e => hb (by injection e))).trans hc
theorem GrowA.setRow (g : Nat) (W : World) (cs : Array Value) : GrowA g W (W.setRow g cs) := grown_setRow W g cs
theorem GrowA.below {g B : Nat} {w W : World} (h : GrowA g w W) (hB : B ≤ g) (hs : B ≤ w.heap.size) : Below B w W := grown_below h hB hs
theorem GrowA.drew (g : Nat) (w : World) : GrowA g w w.drew := GrowA.of_ext (Below.refl _ _).drew
theorem range_heap {w W : World} {g o : Nat} {cs : List Value} (h : W.heap[g]? = w.heap[g]?) (hr : w.rangeAt g o cs) : W.rangeAt g o cs := fun j v hv => by
  have := hr j v hv
  simpa [World.cell?, h] using this
theorem GrowA.range {g b o : Nat} {w W : World} {cs : List Value} (h : GrowA g w W) (hb : b ≠ g) (hl : b < w.heap.size) (hr : w.rangeAt b o cs) : W.rangeAt b o cs :=
  range_heap (h.block b hl (fun e => hb (by injection e))) hr
/-- round keys lie at A -/
def KeysAt (w : World) (A : Option Addr) (R : Nat) (RK : Nat → List UInt8) : Prop := ∃ g, A = some ⟨g, 0, none⟩ ∧ g < w.heap.size ∧ ∀ r, r < R → w.rangeAt g (r * 16) ((RK r).map bv)
theorem KeysAt.below {w W : World} {A : Option Addr} {R : Nat} {RK : Nat → List UInt8} (h : KeysAt w A R RK) (hb : Below w.heap.size w W) : KeysAt W A R RK := by
  obtain ⟨g, rfl, hg, hr⟩ := h
  exact ⟨g, rfl, Nat.lt_of_lt_of_le hg hb.size, fun r h => range_heap (hb.block _ hg) (hr r h)⟩
/-- a block behind n rounds of R - 1 -/
def stE (T : List UInt8) (RK : Nat → List UInt8) (R : Nat) (b : List UInt8) : Nat → List UInt8
  | 0 => xorL b (RK 0)
  | n + 1 => xorL (if n + 1 < R - 1 then colB [2, 3, 1, 1] (shB 1 T (stE T RK R b n)) else shB 1 T (stE T RK R b n)) (RK (n + 1))
theorem stE_len (T : List UInt8) (RK : Nat → List UInt8) (R : Nat) (b : List UInt8) (hb : b.length = 16) (hK : ∀ r, r < R → (RK r).length = 16) (n : Nat) (hn : n < R) : (stE T RK R b n).length = 16 := by
  cases n with
  | zero => rw [stE, xorL_len, hb, hK 0 hn]; rfl
  | succ n =>
    rw [stE, xorL_len, hK _ hn]
    split
    · rw [colB_len]; rfl
    · rw [shB_len]; rfl
theorem shB_get (n : Nat) (T b : List UInt8) (q : Nat) (hq : q < 16) : (shB n T b).getD q 0 = T.getD (b.getD (4 * ((q / 4 + n * (q % 4)) % 4) + q % 4) 0).toNat 0 := by
  simp [shB, List.getD, hq]
set_option maxHeartbeats 8000000 in
theorem refEnc_any (T : List UInt8) (RK : Nat → List UInt8) (R : Nat) (b : List UInt8) (A : Option Addr) (cc : Nat) (w : World) (hT : T.length = 256) (hb : b.length = 16) (hR : 2 ≤ R) (hR2 : R ≤ 15) (hK : ∀ r, r < R → (RK r).length = 16) (hA : KeysAt w A R RK) :
    Calls Try.prog 34 #[.agg (T.map bv).toArray, .slice A R cc, .agg (b.map bv).toArray] w fun e w' => e = .returned (.agg ((stE T RK R b (R - 1)).map bv).toArray) ∧ Below w.heap.size w w' := by
  obtain ⟨gk, rfl, hgk, hkr⟩ := hA
  have HT := Lib.hid hT; have HB := Lib.hid hb; have HK := Lib.hid hK; have HGK := Lib.hid hgk; have HKR := Lib.hid hkr
  have hz16 : ∀ W, (zeroValue 23).run Try.prog W = .ok (.agg zeros16.toArray) W := fun W => by kernel_rfl
  have HZL := Lib.hid zeros16_len
  have HFG0 := Lib.hid filG_zero
  have HFGL := Lib.hid filG_len
  have HFGE := Lib.hid filG_end
  have HFGS := Lib.hid filG_step
  have HS0 : Hid (stE T RK R b 0 = xorL b (RK 0)) := rfl
  have HSS : Hid (∀ n, stE T RK R b (n + 1) = xorL (if n + 1 < R - 1 then colB [2, 3, 1, 1] (shB 1 T (stE T RK R b n)) else shB 1 T (stE T RK R b n)) (RK (n + 1))) := fun _ => rfl
  have HSL := Lib.hid (stE_len T RK R b hb hK)
  have HSG := Lib.hid (fun y => shB_get 1 T y)
  have HSHL := Lib.hid (fun y => shB_len 1 T y)
  have HCOL := Lib.hid (fun y => colB_len [2, 3, 1, 1] y)
  have hbd : ∀ W, (Instr.build 83 #[(0, .int .u8 2), (1, .int .u8 3), (2, .int .u8 1), (3, .int .u8 1)]).run Try.prog W = .ok (.agg #[.int .u8 2, .int .u8 3, .int .u8 1, .int .u8 1]) W := fun W => by kernel_rfl
  have HCC : Hid (∀ y W, y.length = 16 → Calls Try.prog 67 #[.agg (y.map bv).toArray, .agg #[.int .u8 2, .int .u8 3, .int .u8 1, .int .u8 1]] W fun e w' => e = .returned (.agg ((colB [2, 3, 1, 1] y).map bv).toArray) ∧ Below W.heap.size W w') := fun y W hy => refCols_any y [2, 3, 1, 1] W hy rfl
  have HBD := Lib.hid hbd
  generalize zeros16 = Z at hz16 HFG0 HZL
  generalize filG = FG at HFG0 HFGL HFGE HFGS
  obtain ⟨R1, hR1⟩ : ∃ r, r = R - 1 := ⟨_, rfl⟩
  rw [← hR1] at HSS ⊢
  have HR1 := Lib.hid hR1
  have f1 : (R : Int) - 1 = (R1 : Int) := by omega
  generalize stE T RK R b = SE at HS0 HSS HSL ⊢
  generalize shB 1 T = SH at HSS HSG HSHL
  generalize colB [2, 3, 1, 1] = CO at HSS HCOL HCC
  clear hT hb hK hgk hkr hbd hR1
  obtain ⟨X1, HX1⟩ : ∃ X, Hid (SE R1 = X) := ⟨_, rfl⟩
  rw [HX1.out]
  go_enter Try.func34, Try.ntmps34
  go_wp2_with fail
  generalize hV : ((w.alloc _).alloc _).alloc _ = W0
  have F0 : Hid (W0.heap[w.heap.size]? = some (.cells (T.map bv).toArray 48 (0, 0))) := by rw [← hV]; exact (heap3 w _ _ _).1
  have F1 : Hid (W0.heap[w.heap.size + 1]? = some (.cells (b.map bv).toArray 23 (0, 0))) := by rw [← hV]; exact (heap3 w _ _ _).2.1
  have F2 : Hid (W0.heap[w.heap.size + 2]? = some (.cells Z.toArray 23 (0, 0))) := by rw [← hV]; exact (heap3 w _ _ _).2.2.1
  have FB : Hid (Below w.heap.size w W0) := by rw [← hV]; exact (heap3 w _ _ _).2.2.2
  clear hV
  obtain ⟨gB, hgB⟩ : ∃ g, w.heap.size + 1 = g := ⟨_, rfl⟩
  rw [hgB] at F1 ⊢
  have HGB := Lib.hid hgB
  clear hgB
  have KR : Hid (∀ r, r < R → W0.rangeAt gk (r * 16) ((RK r).map bv)) := fun r hr => range_heap (FB.out.block _ HGK.out) (HKR.out r hr)
  have KL : Hid (gk < W0.heap.size) := Nat.lt_of_lt_of_le HGK.out FB.out.size
  have KN : Hid (gk ≠ gB) := by have h1 := HGK.out; have h2 := HGB.out; show _ ≠ _; omega
  have N0 : Hid (w.heap.size ≠ gB) := by have h2 := HGB.out; show _ ≠ _; omega
  have N2 : Hid (w.heap.size + 2 ≠ gB) := by have h2 := HGB.out; show _ ≠ _; omega
  have i0 : 0 < R := by omega
  have P0 := Lib.hid (fun W => refPlus_any b (RK 0) W HB.out (HK.out 0 (by omega)))
  rw [← HS0.out] at P0
  have HX : Hid (GrowA gB W0 W0.drew) := GrowA.drew _ _
  refine regS_start (GrowA gB) (by kernel_rfl) ?_
  try simp only [Act.put, List.setIfInBounds_toArray, List.set_cons_zero, List.set_cons_succ]
  refine regS_take (v := ?_) 1 (some 12) rfl rfl (by kernel_rfl) (by kernel_rfl) (by kernel_rfl) (fun _ _ _ h => h) (by rfl) (fun W hW => ?_) ?_
  rotate_left
  · (go_simp; try rfl)
  simp only [Act.put, List.setIfInBounds_toArray, List.set_cons_zero, List.set_cons_succ]
  refine regS_take (v := ?_) 2 (some 13) rfl rfl (by kernel_rfl) (by kernel_rfl) (by kernel_rfl) (fun _ _ _ h => h) (by rfl) (fun W hW => ?_) ?_
  rotate_left
  · (go_simp; try rfl)
  simp only [Act.put, List.setIfInBounds_toArray, List.set_cons_zero, List.set_cons_succ]
  refine regS_load 3 (some 14) (fun W hW => run_loadAt_mid W gk 0 23 ((RK 0).map bv) _ (hW.range KN.out (Nat.lt_of_lt_of_le KL.out HX.out.size) (HX.out.range KN.out KL.out (by have := KR.out 0 (by omega); rw [Nat.zero_mul] at this; exact this))) arr16B rfl (r_i16 _ (HK.out 0 (by omega)))) rfl rfl rfl rfl (by kernel_rfl) (by kernel_rfl) (by kernel_rfl) (fun _ _ _ h => h) (by rfl) ?_
  simp only [Act.put, List.setIfInBounds_toArray, List.set_cons_zero, List.set_cons_succ]
  refine regS_eff 0 rfl (by kernel_rfl) (fun K hK => ?_)
  refine step_ld rfl 23 (.tmp 5) rfl (load_arr arr16B rfl (r_i16 b HB.out) F1.out) ?_
  have hE : GrowA gB W0.drew W0.drew := Pre.refl _
  refine hK.out _ _ hE ?_
  have HX := Lib.hid (Pre.trans HX.out hE)
  clear hE hK K
  try simp only [Act.put, List.setIfInBounds_toArray, List.set_cons_zero, List.set_cons_succ]
  refine regS_eff 4 rfl (by kernel_rfl) (fun K hK => ?_)
  go_simp
  refine (P0.out _).mono ?_
  rintro e w4 ⟨rfl, hb⟩
  have M1 := Lib.hid ((hb.block _ (lt_of_heap (w := W0.drew) F1.out)).trans F1.out)
  have hE := GrowA.of_ext (g := gB) hb
  clear hb
  refine hK.out _ _ hE ?_
  have HX := Lib.hid (Pre.trans HX.out hE)
  clear hE hK K
  try simp only [Act.put, List.setIfInBounds_toArray, List.set_cons_zero, List.set_cons_succ]
  refine regS_eff 5 rfl (by kernel_rfl) (fun K hK => ?_)
  refine step_st1 rfl 23 (.tmp 5) (.tmp 15) rfl (store_arr (cs := (SE 0).map bv) (r_i16 _ (HSL.out 0 (by omega))) (bv_one _) M1.out (by rw [List.length_map, List.length_map, HB.out, HSL.out 0 (by omega)])) ?_
  generalize hV : World.setRow _ _ _ = W7
  have hres := Lib.hid (heap_of_setRow hV M1.out)
  have hE : GrowA gB w4 W7 := by rw [← hV]; exact GrowA.setRow _ _ _
  clear hV
  refine hK.out _ _ hE ?_
  have HX := Lib.hid (Pre.trans HX.out hE)
  clear hE hK K
  try simp only [Act.put, List.setIfInBounds_toArray, List.set_cons_zero, List.set_cons_succ]
  refine regS_done (by kernel_rfl) ?_
  have G7 : Hid (GrowA gB W0 W7) := HX.out
  clear HX M1 F1 P0
  go_wp2_with fail
  go_loopw [7] (fun vn wr => ∃ (m n : Nat), Hid (n = m + 1) ∧ m < R ∧ vn = .int .i64 (n : Int) ∧ Hid (wr.heap[gB]? = some (.cells ((SE m).map bv).toArray 23 (0, 0))) ∧ Hid (GrowA gB W0 wr)) (fun i _ => R - (intOf i).toNat)
  case atStart => exact ⟨0, 1, rfl, by omega, rfl, hres, G7⟩
  case round =>
    clear hres G7
    obtain ⟨m, n, HMN, hm, rfl, H1, HG⟩ := hrel
    by_cases hlt : n < R
    · have q1 : (n : Int) < (R : Int) := by omega
      go_wp2_with fail
      have HML := Lib.hid (HSL.out m hm)
      have HSSm := Lib.hid (HSS.out m)
      generalize SE m = Y at H1 HML HSSm
      have HGX := Lib.hid (HSG.out Y)
      have HXL := Lib.hid (HSHL.out Y)
      generalize SH Y = X at HSSm HGX HXL
      generalize hV : wr.alloc _ = W3
      have G0 : Hid (W3.heap[wr.heap.size]? = some (.cells ((FG X (4 * 0)).map bv).toArray 23 (0, 0))) := by show _ = _; rw [Nat.mul_zero, HFG0.out]; exact heap_of_alloc hV
      have GB := Lib.hid (below_of_alloc hV (Nat.le_refl wr.heap.size))
      clear hV
      obtain ⟨wp, hwp⟩ : ∃ x, x = wr := ⟨_, rfl⟩
      subst hwp
      obtain ⟨gS, hgS⟩ : ∃ g, g = wp.heap.size := ⟨_, rfl⟩
      have HLS : Hid (gB < gS) := by have h1 := lt_of_heap H1.out; show _ < _; rw [hgS]; exact h1
      have H0 := Lib.hid (HG.out.heap N0.out F0.out)
      have HL0 : Hid (w.heap.size < gS) := by have h1 := lt_of_heap H0.out; show _ < _; rw [hgS]; exact h1
      rw [← hgS] at G0 GB ⊢
      have HGS := Lib.hid hgS
      clear hgS
      have T3 := Lib.hid ((GB.out.block _ HL0.out).trans H0.out)
      have Y3 := Lib.hid ((GB.out.block _ HLS.out).trans H1.out)
      go_wp2_with fail
      go_loopw [9] (fun vc wr => ∃ (c : Nat), c ≤ 4 ∧ vc = .int .i64 (c : Int) ∧ Hid (wr.heap[gS]? = some (.cells ((FG X (4 * c)).map bv).toArray 23 (0, 0))) ∧ Hid (Below gS W3 wr)) (fun i _ => 4 - (intOf i).toNat)
      case atStart => exact ⟨0, by omega, rfl, G0, Below.refl _ _⟩
      case round =>
        clear G0
        obtain ⟨c, hc, rfl, H5, HBW⟩ := hrel
        by_cases hlc : c < 4
        · have q4 : (c : Int) < 4 := by omega
          go_wp2_with fail
          obtain ⟨wz, hwz⟩ : ∃ x, x = wr := ⟨_, rfl⟩
          subst hwz
          go_loopw [10] (fun vr wr => ∃ (r : Nat), r ≤ 4 ∧ vr = .int .i64 (r : Int) ∧ Hid (wr.heap[gS]? = some (.cells ((FG X (4 * c + r)).map bv).toArray 23 (0, 0))) ∧ Hid (Below gS W3 wr)) (fun i _ => 4 - (intOf i).toNat)
          case atStart => exact ⟨0, by omega, rfl, H5, HBW⟩
          case round =>
            clear H5 HBW
            obtain ⟨r, hr, rfl, H5, HBW⟩ := hrel
            by_cases hlr : r < 4
            · have q5 : (r : Int) < 4 := by omega
              have hST := HFGS.out X (4 * c + r) HXL.out (by omega)
              have hln := HFGL.out X (4 * c + r) HXL.out (by omega)
              obtain ⟨p, hp⟩ : ∃ p, p = 4 * c + r := ⟨_, rfl⟩
              rw [← hp] at H5 hST hln
              have hgx := HGX.out p (by omega)
              obtain ⟨e, he⟩ : ∃ e, e = c + r := ⟨_, rfl⟩
              obtain ⟨k, hk⟩ : ∃ k, k = e % 4 := ⟨_, rfl⟩
              obtain ⟨k4, hk4⟩ : ∃ k4, k4 = 4 * k := ⟨_, rfl⟩
              obtain ⟨p2, hp2⟩ : ∃ p2, p2 = k4 + r := ⟨_, rfl⟩
              have hp16 : p < 16 := by omega
              have hp216 : p2 < 16 := by omega
              rw [show 4 * ((p / 4 + 1 * (p % 4)) % 4) + p % 4 = p2 by omega] at hgx
              have cY := bcellT ((HBW.out.block _ HLS.out).trans Y3.out) p2 (by rw [HML.out]; omega)
              generalize Y.getD p2 0 = x at cY hgx
              have cT := bcellT ((HBW.out.block _ HL0.out).trans T3.out) x.toNat (by rw [HT.out]; exact x.toNat_lt)
              rw [← hgx] at cT
              generalize X.getD p 0 = y at cT hST
              have c5 := bcellT H5.out p (by rw [hln]; omega)
              generalize (FG X p).getD p 0 = old at c5
              have fz := frozen_of_heap H5.out p
              obtain ⟨c4, hc4⟩ : ∃ c4, c4 = 4 * c := ⟨_, rfl⟩
              have o1 : 4 * (c : Int) = (c4 : Int) := by omega
              have o2 : (c4 : Int) + (r : Int) = (p : Int) := by omega
              have o3 : (c : Int) + (r : Int) = (e : Int) := by omega
              have o4 : (e : Int) % 4 = (k : Int) := by omega
              have o4' : (e : Int).tmod 4 = (k : Int) := by rw [Int.tmod_eq_emod_of_nonneg (by omega)]; exact o4
              have o5 : 4 * (k : Int) = (k4 : Int) := by omega
              have o6 : (k4 : Int) + (r : Int) = (p2 : Int) := by omega
              have i1 : (p : Int) < 16 := by omega
              have i2 : (p2 : Int) < 16 := by omega
              have bx : x.toNat < 256 := x.toNat_lt
              have bxi : (x.toNat : Int) < 256 := by omega
              have hc12 : c4 ≤ 12 := by omega
              have he8 : e < 8 := by omega
              have hk44 : k < 4 := by omega
              have hk412 : k4 ≤ 12 := by omega
              have HST := Lib.hid hST
              have HP := Lib.hid hp
              clear hST hln hp hc4 he hk hk4 hp2 hgx
              go_wp2_with fail
              go_roundw
              case rel =>
                refine ⟨r + 1, by omega, by go_num, ?_, HBW.out.setCell (Nat.le_refl _) _⟩
                have hfin := heap_set H5.out p (bv y)
                rw [← List.map_set, HST.out] at hfin
                rw [show 4 * c + (r + 1) = p + 1 by have := HP.out; omega]
                exact hfin
              case measure => simp [intOf]; omega
            · have q5 : ¬ ((r : Int) < 4) := by omega
              have hr4 : r = 4 := by omega
              rw [hr4, show 4 * c + 4 = 4 * (c + 1) by omega] at H5
              clear hr4
              go_wp2_with fail
              go_roundw
              case rel => exact ⟨c + 1, by omega, by go_num, H5, HBW⟩
              case measure => simp [intOf]; omega
        · have q4 : ¬ ((c : Int) < 4) := by omega
          have hc4 : c = 4 := by omega
          rw [hc4, show 4 * 4 = 16 from rfl, HFGE.out X HXL.out] at H5
          clear hc4
          obtain ⟨Z2, HZ2⟩ : ∃ Z2, Hid ((if m + 1 < R1 then CO X else X) = Z2) := ⟨_, rfl⟩
          rw [HZ2.out] at HSSm
          have HZ2L : Hid (Z2.length = 16) := by
            show _ = _
            rw [← HZ2.out]
            split
            · exact HCOL.out X
            · exact HXL.out
          have HSZ : Hid (gS ≤ wr.heap.size) := Nat.le_of_lt (lt_of_heap H5.out)
          go_upto_if 50 with (fail)
          go_cut [50] from 51 to 53 (fun v50 wx => Hid (Below gS wr wx) ∧ Hid (wx.heap[gS]? = some (.cells (Z2.map bv).toArray 23 (0, 0))))
          case first =>
            by_cases hl : n < R1
            · have q6 : (n : Int) < (R1 : Int) := by omega
              have hz2 : Hid (CO X = Z2) := by show _ = _; rw [← HZ2.out, if_pos (by have := HMN.out; omega)]
              have hiX := Lib.hid (r_i16 X HXL.out)
              have hiZ := Lib.hid (r_i16 Z2 HZ2L.out)
              clear hl
              go_wp2_with (first
                | (refine wpList_ld rfl 23 (.tmp 8) rfl (load_arr arr16B rfl hiX.out H5.out) ?_)
                | (refine wpList_run (o := ⟨some 52, .build _ _, _, _, _, _⟩) rfl (exec_build rfl (by simp only [List.map_toArray, List.map_cons, List.map_nil]; exact HBD.out _)) ?_)
                | fail)
              refine (HCC.out X wr HXL.out).mono ?_
              rw [hz2.out]
              rintro e w6 ⟨rfl, hb⟩
              have H6 := Lib.hid ((hb.block _ (lt_of_heap H5.out)).trans H5.out)
              have B6 : Hid (Below gS wr w6) := hb.mono HSZ.out
              clear hb
              go_wp2_with (first
                | (refine wpList_st rfl 23 (.tmp 8) (.tmp 53) rfl (store_arr (cs := Z2.map bv) hiZ.out (bv_one _) H6.out (by rw [List.length_map, List.length_map, HXL.out, HZ2L.out])) ?_
                   generalize hV : World.setRow _ _ _ = W7
                   have M7 := Lib.hid (heap_of_setRow hV H6.out)
                   have B7 := Lib.hid (B6.out.trans (below_of_setRow hV (Nat.le_refl gS) (Nat.le_of_lt (lt_of_heap H6.out))))
                   clear hV)
                | fail)
              go_meet
              exact ⟨B7.out, M7.out⟩
            · have q6 : ¬ ((n : Int) < (R1 : Int)) := by omega
              have hz2 : Hid (X = Z2) := by show _ = _; rw [← HZ2.out, if_neg (by have := HMN.out; omega)]
              clear hl
              go_wp2_with fail
              go_meet
              exact ⟨Below.refl _ _, by rw [← hz2.out]; exact H5.out⟩
          case rest =>
            obtain ⟨B8, M8⟩ := hcut
            have BB8 : Hid (Below gS wp wc) := (GB.out.trans HBW.out).trans B8.out
            have G8 : Hid (GrowA gB W0 wc) := HG.out.trans (GrowA.of_ext (show Below wp.heap.size wp wc by rw [← HGS.out]; exact BB8.out))
            have H8 : Hid (wc.heap[gB]? = some (.cells (Y.map bv).toArray 23 (0, 0))) := (BB8.out.block _ HLS.out).trans H1.out
            have KR8 : Hid (wc.rangeAt gk (n * 16) ((RK n).map bv)) := G8.out.range KN.out KL.out (KR.out n hlt)
            have KL8 : Hid (gk < wc.heap.size) := Nat.lt_of_lt_of_le KL.out G8.out.size
            have NS : Hid (gS ≠ gB) := by have := HLS.out; show _ ≠ _; omega
            have HKn := Lib.hid (HK.out n hlt)
            have P2 := Lib.hid (fun W => refPlus_any Z2 (RK n) W HZ2L.out HKn.out)
            rw [← HMN.out] at HSSm
            rw [← HSSm.out] at P2
            have HSn := Lib.hid (HSL.out n hlt)
            clear BB8 B8 H5 HBW GB Y3 T3 H0 HG HZ2 HSSm HGX
            go_upto_region 15 with (fail)
            have HX : Hid (GrowA gB wc wc.drew) := GrowA.drew _ _
            refine regS_start (GrowA gB) (by kernel_rfl) ?_
            try simp only [Act.put, List.setIfInBounds_toArray, List.set_cons_zero, List.set_cons_succ]
            refine regS_load 0 (some 54) (fun W hW => load_arr arr16B rfl (r_i16 Z2 HZ2L.out) (hW.heap NS.out (HX.out.heap NS.out M8.out))) rfl rfl rfl rfl (by kernel_rfl) (by kernel_rfl) (by kernel_rfl) (fun _ _ _ h => h) (by rfl) ?_
            simp only [Act.put, List.setIfInBounds_toArray, List.set_cons_zero, List.set_cons_succ]
            refine regS_take (v := ?_) 1 (some 55) rfl rfl (by kernel_rfl) (by kernel_rfl) (by kernel_rfl) (fun _ _ _ h => h) (by rfl) (fun W hW => ?_) ?_
            rotate_left
            · (go_simp; try rfl)
            simp only [Act.put, List.setIfInBounds_toArray, List.set_cons_zero, List.set_cons_succ]
            refine regS_take (v := ?_) 2 (some 56) rfl rfl (by kernel_rfl) (by kernel_rfl) (by kernel_rfl) (fun _ _ _ h => h) (by rfl) (fun W hW => ?_) ?_
            rotate_left
            · (go_simp; try rfl)
            simp only [Act.put, List.setIfInBounds_toArray, List.set_cons_zero, List.set_cons_succ]
            refine regS_take (v := ?_) 3 (some 57) rfl rfl (by kernel_rfl) (by kernel_rfl) (by kernel_rfl) (fun _ _ _ h => h) (by rfl) (fun W hW => ?_) ?_
            rotate_left
            · (go_simp; try rfl)
            simp only [Act.put, List.setIfInBounds_toArray, List.set_cons_zero, List.set_cons_succ]
            refine regS_load 4 (some 58) (fun W hW => run_loadAt_mid W gk (n * 16) 23 ((RK n).map bv) _ (hW.range KN.out (Nat.lt_of_lt_of_le KL8.out HX.out.size) (HX.out.range KN.out KL8.out KR8.out)) arr16B rfl (r_i16 _ HKn.out)) rfl rfl rfl rfl (by kernel_rfl) (by kernel_rfl) (by kernel_rfl) (fun _ _ _ h => h) (by rfl) ?_
            simp only [Act.put, List.setIfInBounds_toArray, List.set_cons_zero, List.set_cons_succ]
            refine regS_eff 5 rfl (by kernel_rfl) (fun K hK => ?_)
            go_simp
            refine (P2.out _).mono ?_
            rintro e w4 ⟨rfl, hb⟩
            have M1 := Lib.hid ((hb.block _ (lt_of_heap (w := wc.drew) H8.out)).trans H8.out)
            have hE := GrowA.of_ext (g := gB) hb
            clear hb
            refine hK.out _ _ hE ?_
            have HX := Lib.hid (Pre.trans HX.out hE)
            clear hE hK K
            try simp only [Act.put, List.setIfInBounds_toArray, List.set_cons_zero, List.set_cons_succ]
            refine regS_eff 6 rfl (by kernel_rfl) (fun K hK => ?_)
            refine step_st1 rfl 23 (.tmp 5) (.tmp 59) rfl (store_arr (cs := (SE n).map bv) (r_i16 _ HSn.out) (bv_one _) M1.out (by rw [List.length_map, List.length_map, HML.out, HSn.out])) ?_
            generalize hV : World.setRow _ _ _ = W7
            have hres := Lib.hid (heap_of_setRow hV M1.out)
            have hE : GrowA gB w4 W7 := by rw [← hV]; exact GrowA.setRow _ _ _
            clear hV
            refine hK.out _ _ hE ?_
            have HX := Lib.hid (Pre.trans HX.out hE)
            clear hE hK K
            try simp only [Act.put, List.setIfInBounds_toArray, List.set_cons_zero, List.set_cons_succ]
            refine regS_done (by kernel_rfl) ?_
            have G9 : Hid (GrowA gB W0 W7) := G8.out.trans HX.out
            go_wp2
            go_roundw
            case rel => exact ⟨n, n + 1, rfl, hlt, by go_num, hres, G9⟩
            case measure => simp [intOf]; omega
    · have q1 : ¬ ((n : Int) < (R : Int)) := by omega
      have hm1 : m = R1 := by have h1 := HMN.out; have h2 := HR1.out; omega
      rw [hm1, HX1.out] at H1
      have hiX := Lib.hid (r_i16 (SE R1) (HSL.out R1 (by have h2 := HR1.out; omega)))
      have hlX : Hid (((SE R1).map bv).length = Z.length) := by show _ = _; rw [List.length_map, HSL.out R1 (by have h2 := HR1.out; omega), HZL.out]
      rw [HX1.out] at hiX hlX
      clear HX1
      have K2 : Hid (wr.heap[gB + 1]? = some (.cells Z.toArray 23 (0, 0))) := by have h := HG.out.heap N2.out F2.out; show _ = _; rw [show gB + 1 = w.heap.size + 2 by have := HGB.out; omega]; exact h
      have hB1 : w.heap.size ≤ gB + 1 := by have := HGB.out; omega
      have KB : Hid (Below w.heap.size w wr) := FB.out.trans (HG.out.below (by have := HGB.out; omega) FB.out.size)
      clear hm1
      go_wp2_with (first
        | (refine wpList_ld rfl 23 (.tmp 5) rfl (load_arr arr16B rfl hiX.out H1.out) ?_)
        | (refine wpList_st rfl 23 (.tmp 6) (.tmp 60) rfl (store_arr (cs := X1.map bv) (old := Z) hiX.out (bv_one _) K2.out hlX.out.symm) ?_)
        | fail)
      have hres := setRow_heap wr (gB + 1) _ (X1.map bv).toArray 23 _ K2.out
      exact bodyPost_ret (results_cell_row (P := Try.prog) rfl _ _ (gB + 1) 23 (X1.map bv).toArray (0, 0) _ rfl hres arr16B rfl (by rw [List.size_toArray]; exact hiX.out)) rfl ⟨rfl, KB.out.trans (grown_below (grown_setRow _ _ _) hB1 KB.out.size)⟩
end Go.Proofs.Ytjmpbcfbfbjenaa
