/- Package ghash: Sum, Lengths. -/
import Derived.Test.YtjlljifllnmdoaaGha3
namespace Go.Proofs.Ytjlljifllnmdoaa
open Go.RowKit
set_option maxRecDepth 100000
set_option linter.unusedVariables false
set_option linter.unusedSimpArgs false
/-- bytes as a row without end, noughts behind -/
def byteF (b : List UInt8) (i : Nat) : UInt8 := b.getD i 0
/-- a block, and 16 bytes put to it -/
def mixF (y : List UInt8) (f : Nat → UInt8) : List UInt8 := (List.range 16).map fun k => y.getD k 0 ^^^ f k
theorem mixF_len (y : List UInt8) (f : Nat → UInt8) : (mixF y f).length = 16 := by simp [mixF]
/-- the sum y, gone on by j blocks -/
def gsF (h y : List UInt8) (f : Nat → UInt8) : Nat → List UInt8
  | 0 => y
  | j + 1 => gmulL (mixF (gsF h y f j) fun k => f (16 * j + k)) h
theorem gsF_len (h y : List UInt8) (f : Nat → UInt8) (j : Nat) (hy : y.length = 16) : (gsF h y f j).length = 16 := by
  cases j with
  | zero => exact hy
  | succ j => exact gmulL_len _ _
def gsumL (h b : List UInt8) : List UInt8 := gsF h zerB (byteF b) ((b.length + 15) / 16)
theorem gsumL_len (h b : List UInt8) : (gsumL h b).length = 16 := gsF_len _ _ _ _ rfl
theorem xorL_take (a b : List UInt8) : xorL a b = List.zipWith (· ^^^ ·) a b := rfl
theorem mix_splice (S X bs : List UInt8) (j : Nat) (hS : S.length = 16) (hX : X = bs.drop (16 * j)) : splice (S.map bv) 0 ((xorL S X).map bv) = (mixF S fun k => byteF bs (16 * j + k)).map bv := by
  unfold splice
  rw [List.take_zero, List.nil_append, Nat.zero_add, ← List.map_drop, ← List.map_append]
  congr 1
  have hl : (xorL S X).length = min 16 X.length := by rw [xorL_len, hS]
  apply List.ext_getElem
  · rw [mixF_len, List.length_append, List.length_drop, List.length_map, hS, hl]; omega
  · intro i h1 h2
    rw [mixF_len] at h2
    have hf : byteF bs (16 * j + i) = X.getD i 0 := by rw [hX, byteF]; simp [List.getD, List.getElem?_drop]
    have hr : (mixF S fun k => byteF bs (16 * j + k))[i]'(by rw [mixF_len]; exact h2) = S.getD i 0 ^^^ X.getD i 0 := by
      rw [← hf]; simp [mixF]
    rw [hr]
    by_cases hi : i < (xorL S X).length
    · rw [List.getElem_append_left hi]
      rw [hl] at hi
      simp [xorL, List.getD, hS, h2, show i < X.length by omega]
    · rw [List.getElem_append_right (by omega), List.getElem_drop]
      have hx : X.getD i 0 = 0 := by
        rw [hl] at hi
        simp [List.getD, List.getElem?_eq_none (show X.length ≤ i by omega)]
      rw [hx, UInt8.xor_zero]
      simp only [List.length_map]
      rw [List.getD, List.getElem?_eq_getElem (by omega), Option.getD_some]
      congr 1; omega
theorem step_left {n j m t : Nat} (h : m = n - 16 * j ∧ j ≤ (n + 15) / 16) (ht : t = min 16 m) (h2 : t ≤ m ∧ t ≤ 16 ∧ 0 < t ∧ 0 < m) : Hid (m - t = n - 16 * (j + 1) ∧ j + 1 ≤ (n + 15) / 16) := by
  show _ ∧ _; omega
theorem step_drop {w : World} {A : Option Addr} {c n j m t : Nat} {bs : List UInt8} (h : Sl w A c (bs.drop (16 * j + t))) (ht : t = min 16 m) (hl : bs.length = n) (hj : m = n - 16 * j ∧ j ≤ (n + 15) / 16) : Hid (Sl w A c (bs.drop (16 * (j + 1)))) := by
  show Sl _ _ _ _
  by_cases h16 : 16 ≤ m
  · rw [show 16 * (j + 1) = 16 * j + t by omega]; exact h
  · rw [List.drop_eq_nil_of_le (by omega)] at h ⊢; exact h
theorem hid_mp {J J' : Act → World → Prop} (h : Hid (J = J')) {a : Act} {w : World} (hh : J' a w) : J a w := by rw [h.out]; exact hh
/-- a label in a scope, behind code of which none jumps, to which its own code jumps back -/
theorem wp_scope_label1 {P : Program} {a : Act} {w : World} {Q : Exit → Act → World → Prop} {ahead rest : Code} (l : Nat) (J : Act → World → Prop) (μ : Act → World → Nat) (hf : findLabel (ahead.seq ((Code.label l).seq rest)) l = some (Code.skip.seq rest)) (h0 : ahead.wp P (fun e a w => e = .normal ∧ J a w) a w)
    (pass : ∀ a w, J a w → rest.wp P (Exit.jump l (fun a' w' => J a' w' ∧ μ a' w' < μ a w) Q) a w) : (Code.scope (ahead.seq ((Code.label l).seq rest))).wp P Q a w := by
  refine wp_scope_jumps l J μ hf (wp_seq (Code.wp_mono ?_ h0)) (fun a w h => wp_seq (wp_skip (pass a w h)))
  rintro e a w ⟨rfl, hJ⟩
  refine wp_seq (wp_label ?_)
  refine Code.wp_mono ?_ (pass a w hJ)
  intro e a w h
  cases e <;> first | exact h | exact ⟨h.1, h.2.1⟩
set_option maxHeartbeats 4000000 in
theorem gsum_any (h : List UInt8) (A : Option Addr) (n c : Nat) (bs : List UInt8) (w : World) (hh : h.length = 16) (hl : bs.length = n) (hn : n ≤ 2147483647) (hS : Sl w A c bs) :
    Calls Try.prog 15 #[.agg (h.map bv).toArray, .slice A n c] w fun e w' => e = .returned (.agg ((gsumL h bs).map bv).toArray) ∧ Below w.heap.size w w' := by
  have hz16 : ∀ W, (zeroValue 23).run Try.prog W = .ok (.agg (zerB.map bv).toArray) W := fun W => by kernel_rfl
  have HH := Lib.hid hh; have HL := Lib.hid hl; have HS := Lib.hid hS
  have HZL : Hid (zerB.length = 16) := rfl
  have GSL : Hid (∀ j, (gsF h zerB (byteF bs) j).length = 16) := fun j => gsF_len _ _ _ _ rfl
  have GS0 : Hid (gsF h zerB (byteF bs) 0 = zerB) := rfl
  have GSS : Hid (∀ j, gmulL (mixF (gsF h zerB (byteF bs) j) fun k => byteF bs (16 * j + k)) h = gsF h zerB (byteF bs) (j + 1)) := fun j => rfl
  have GSE : Hid (gsumL h bs = gsF h zerB (byteF bs) ((n + 15) / 16)) := by show _ = _; rw [gsumL, hl]
  clear hh hl hS
  obtain ⟨q, HQ⟩ : ∃ q, Hid (w.heap.size = q) := ⟨_, rfl⟩
  generalize gsF h zerB (byteF bs) = GS at GSL GS0 GSS GSE
  generalize zerB = Z at hz16 HZL GS0
  go_enter Try.func15, Try.ntmps15
  go_wp2
  have G := heap3 w (.cells (h.map bv).toArray 23) (.cells (Z.map bv).toArray 23) (.cells (Z.map bv).toArray 23)
  obtain ⟨J, HJ0⟩ : ∃ J : Act → World → Prop, Hid (J = fun a' w' => ∃ (j : Nat) (A' : Option Addr) (m c' : Nat) (u6 u7 u8 u9 u10 u11 u12 u13 u14 u15 u16 u17 u18 u19 u20 u21 : Value),
      a' = { tmps := #[.agg (h.map bv).toArray, .slice A' m c', .pointer (some ⟨w.heap.size, 0, none⟩), undef, .pointer (some ⟨w.heap.size + 1, 0, none⟩), .pointer (some ⟨w.heap.size + 2, 0, none⟩), u6, u7, u8, u9, u10, u11, u12, u13, u14, u15, u16, u17, u18, u19, u20, u21], defers := [] } ∧
      Hid (m = n - 16 * j ∧ j ≤ (n + 15) / 16) ∧ Hid (Sl w A' c' (bs.drop (16 * j))) ∧ Hid (Below w.heap.size w w') ∧ Hid (w'.heap[w.heap.size]? = some (.cells (h.map bv).toArray 23 (0, 0))) ∧
      Hid (w'.heap[w.heap.size + 1]? = some (.cells (Z.map bv).toArray 23 (0, 0))) ∧ Hid (w'.heap[w.heap.size + 2]? = some (.cells ((GS j).map bv).toArray 23 (0, 0)))) := ⟨_, rfl⟩
  refine wp_scope_label1 0 J (fun a' _ => (sliceLen (a'.tmps.getD 1 undef))) rfl ?first ?pass
  case first =>
    go_wp2
    rw [HJ0.out]
    refine ⟨0, A, n, c, _, _, _, _, _, _, _, _, _, _, _, _, _, _, _, _, rfl, ?_, HS, ?_, ?_, ?_, ?_⟩
    · show _ ∧ _; omega
    · exact G.2.2.2
    · exact G.1
    · exact G.2.1
    · show _ = _; rw [GS0.out]; exact G.2.2.1
  case pass =>
    clear G
    intro a' w' hJ'
    rw [HJ0.out] at hJ'
    obtain ⟨j, A', m, c', u6, u7, u8, u9, u10, u11, u12, u13, u14, u15, u16, u17, u18, u19, u20, u21, rfl, HJ, HA, HB, H0, H1, H2⟩ := hJ'
    rw [HQ.out] at H0 H1 H2 ⊢
    have hdl : (bs.drop (16 * j)).length = m := by have h1 := HL.out; have h2 := HJ.out; rw [List.length_drop]; omega
    have HM31 : Hid (m ≤ 2147483647) := by have h2 := HJ.out; show _ ≤ _; omega
    by_cases hm : 0 < m
    · have e1 : (0 : Int) < (m : Int) := by omega
      obtain ⟨t, ht⟩ : ∃ t, t = min 16 m := ⟨_, rfl⟩
      have sl := arr_all arr16B s8 ⟨q + 2, 0, none⟩
      have HT := Lib.hid ht
      have ht16 : Hid (t ≤ m ∧ t ≤ 16 ∧ 0 < t ∧ 0 < m) := by show _ ∧ _ ∧ _ ∧ _; omega
      have hcut := cut_from uT s8 A' m c' .i64 (t : Int) (by omega) (by omega)
      rw [Int.toNat_natCast] at hcut
      obtain ⟨X, hX⟩ : ∃ X, X = bs.drop (16 * j) := ⟨_, rfl⟩
      have HSP := Lib.hid (mix_splice (GS j) X bs j (GSL.out j) hX)
      have HXL : Hid (X.length = m) := by show _ = _; rw [hX]; exact hdl
      have HXS : Hid (Sl w A' c' X) := by show Sl _ _ _ _; rw [hX]; exact HA.out
      have HMX := Lib.hid (mixF_len (GS j) fun k => byteF bs (16 * j + k))
      have HGS := Lib.hid (GSS.out j)
      obtain ⟨M, HM⟩ : ∃ M, Hid ((mixF (GS j) fun k => byteF bs (16 * j + k)) = M) := ⟨_, rfl⟩
      rw [HM.out] at HSP HMX HGS
      have HSL := Lib.hid (GSL.out j)
      have HSL' := Lib.hid (GSL.out (j + 1))
      clear HM hX hdl ht
      have HX : Hid (AnyR w'.drew w'.drew) := trivial
      go_wp2_with fail
      have N0 : Hid (w'.drew.heap[q]? = _) := H0.out
      have N1 : Hid (w'.drew.heap[q + 1]? = _) := H1.out
      have N2 : Hid (w'.drew.heap[q + 2]? = _) := H2.out
      have NB : Hid (Below w.heap.size w w'.drew) := HB.out.drew
      refine regS_start (AnyR) (by kernel_rfl) ?_
      try simp only [Act.put, List.setIfInBounds_toArray, List.set_cons_zero, List.set_cons_succ]
      generalize w'.drew = W3 at N0 N1 N2 NB HX ⊢
      refine regS_take (v := ?_) 0 (some 10) rfl rfl (by kernel_rfl) (by kernel_rfl) (by kernel_rfl) (fun _ _ _ h => h) (by rfl) (fun W hW => ?_) ?_
      rotate_left
      · (go_simp; try rfl)
      simp only [Act.put, List.setIfInBounds_toArray, List.set_cons_zero, List.set_cons_succ]
      refine regS_take (v := ?_) 1 (some 11) rfl rfl (by kernel_rfl) (by kernel_rfl) (by kernel_rfl) (fun _ _ _ h => h) (by rfl) (fun W hW => ?_) ?_
      rotate_left
      · (go_simp; try rfl)
      simp only [Act.put, List.setIfInBounds_toArray, List.set_cons_zero, List.set_cons_succ]
      refine regS_take (v := ?_) 2 (some 12) rfl rfl (by kernel_rfl) (by kernel_rfl) (by kernel_rfl) (fun _ _ _ h => h) (by rfl) (fun W hW => ?_) ?_
      rotate_left
      · (go_simp; try rfl)
      simp only [Act.put, List.setIfInBounds_toArray, List.set_cons_zero, List.set_cons_succ]
      refine regS_eff 3 rfl (by kernel_rfl) (fun K hK => ?_)
      go_simp
      refine (xor_n (some ⟨q + 2, 0, none⟩) A' 16 m t 16 c' (GS j) X W3 HSL.out HXL.out HT.out.symm (sl_row HSL.out (by omega) N2.out) (HXS.out.below NB.out) (by omega) HM31.out).mono ?_
      rintro e w4 ⟨g3, hg3, rfl, hk3, hE0⟩
      have L0 := Lib.hid ((hE0.block _ (lt_of_heap N0.out)).trans N0.out)
      have L1 := Lib.hid ((hE0.block _ (lt_of_heap N1.out)).trans N1.out)
      have L2 := Lib.hid ((hE0.block _ (lt_of_heap N2.out)).trans N2.out)
      have LB := Lib.hid (NB.out.step hE0)
      have R3 := Lib.hid (row_of_heap hk3 (Nat.lt_succ_self g3))
      have hE : AnyR W3 w4 := trivial
      clear hE0 hk3 hg3
      refine hK.out _ _ hE ?_
      have HX := Lib.hid (Pre.trans HX.out hE)
      clear hE hK K
      try simp only [Act.put, List.setIfInBounds_toArray, List.set_cons_zero, List.set_cons_succ]
      refine regS_eff 4 rfl (by kernel_rfl) (fun K hK => ?_)
      obtain ⟨w5, hrun, hblk, _, hgr⟩ := copy_run uT s8 (sT := 26) 3 w4 (q + 2) 0 ((GS j).map bv) 23 L2.out (some ⟨q + 2, 0, none⟩) (some ⟨g3, 0, none⟩) 16 16 t t (g3 + 1) ((xorL (GS j) X).map bv) (by have h1 := HT.out; have h2 := ht16.out; simp only [List.length_map, xorL_len, HSL.out, HXL.out]; omega) (fun _ => rfl) R3.out (by have h1 := HT.out; simp only [List.length_map, xorL_len, HSL.out, HXL.out]; omega) (bv_one _)
      rw [HSP.out] at hblk
      rw [show (((xorL (GS j) X).map bv).length : Int) = (t : Int) from by have h1 := HT.out; simp only [List.length_map, xorL_len, HSL.out, HXL.out]; omega] at hrun
      have K2 := Lib.hid hblk
      have K0 : Hid (w5.heap[q]? = _) := (hgr.block _ (lt_of_heap L0.out) (by simp)).trans L0.out
      have K1 : Hid (w5.heap[q + 1]? = _) := (hgr.block _ (lt_of_heap L1.out) (by simp)).trans L1.out
      have KB := Lib.hid (LB.out.trans (grown_below hgr (by have := HQ.out; omega) LB.out.size))
      refine step_cpy rfl (.tmp 10) (.tmp 13) 26 26 rfl hrun ?_
      have hE : AnyR w4 w5 := trivial
      clear hrun hblk hgr
      refine hK.out _ _ hE ?_
      have HX := Lib.hid (Pre.trans HX.out hE)
      clear hE hK K
      try simp only [Act.put, List.setIfInBounds_toArray, List.set_cons_zero, List.set_cons_succ]
      refine regS_take (v := ?_) 5 (some 6) rfl rfl (by kernel_rfl) (by kernel_rfl) (by kernel_rfl) (fun _ _ _ h => h) (by rfl) (fun W hW => ?_) ?_
      rotate_left
      · (go_simp; try rfl)
      simp only [Act.put, List.setIfInBounds_toArray, List.set_cons_zero, List.set_cons_succ]
      refine regS_done (by kernel_rfl) ?_
      simp only [List.getElem_toArray, List.getElem_cons_succ, List.getElem_cons_zero, List.set_cons_zero, List.set_cons_succ]
      clear N0 N1 N2 NB
      have GM := Lib.hid (fun W => gmul_any M h W HMX.out HH.out)
      rw [HGS.out] at GM
      have N0 : Hid (w5.drew.heap[q]? = _) := K0.out
      have N1 : Hid (w5.drew.heap[q + 1]? = _) := K1.out
      have N2 : Hid (w5.drew.heap[q + 2]? = _) := K2.out
      have NB : Hid (Below w.heap.size w w5.drew) := KB.out.drew
      obtain ⟨Y, HYJ⟩ : ∃ Y, Hid (GS (j + 1) = Y) := ⟨_, rfl⟩
      rw [HYJ.out] at GM HSL'
      go_upto_region 4 with (fail)
      refine regS_start (AnyR) (by kernel_rfl) ?_
      try simp only [Act.put, List.setIfInBounds_toArray, List.set_cons_zero, List.set_cons_succ]
      generalize w5.drew = W6 at N0 N1 N2 NB ⊢
      have HX : Hid (AnyR W6 W6) := trivial
      refine regS_take (v := ?_) 3 (some 18) rfl rfl (by kernel_rfl) (by kernel_rfl) (by kernel_rfl) (fun _ _ _ h => h) (by rfl) (fun W hW => ?_) ?_
      rotate_left
      · (go_simp; try rfl)
      simp only [Act.put, List.setIfInBounds_toArray, List.set_cons_zero, List.set_cons_succ]
      refine regS_take (v := ?_) 4 (some 19) rfl rfl (by kernel_rfl) (by kernel_rfl) (by kernel_rfl) (fun _ _ _ h => h) (by rfl) (fun W hW => ?_) ?_
      rotate_left
      · (go_simp; try rfl)
      simp only [Act.put, List.setIfInBounds_toArray, List.set_cons_zero, List.set_cons_succ]
      refine regS_take (v := ?_) 5 (some 20) rfl rfl (by kernel_rfl) (by kernel_rfl) (by kernel_rfl) (fun _ _ _ h => h) (by rfl) (fun W hW => ?_) ?_
      rotate_left
      · (go_simp; try rfl)
      simp only [Act.put, List.setIfInBounds_toArray, List.set_cons_zero, List.set_cons_succ]
      refine regS_eff2 0 1 rfl rfl (by kernel_rfl) (fun K hK => ?_) (fun K hK => ?_)
      · skip
        refine step_ld rfl 23 (.tmp 5) rfl (load_arr arr16B rfl (i16l M HMX.out) N2.out) ?_
        have hE : AnyR W6 W6 := trivial
        refine hK.out _ _ hE ?_
        have HX := Lib.hid (Pre.trans HX.out hE)
        clear hE hK K
        try simp only [Act.put, List.setIfInBounds_toArray, List.set_cons_zero, List.set_cons_succ]
        refine regS_eff 1 rfl (by kernel_rfl) (fun K hK => ?_)
        refine step_ld rfl 23 (.tmp 2) rfl (load_arr arr16B rfl (i16l h HH.out) N0.out) ?_
        have hE : AnyR W6 W6 := trivial
        refine hK.out _ _ hE ?_
        have HX := Lib.hid (Pre.trans HX.out hE)
        clear hE hK K
        try simp only [Act.put, List.setIfInBounds_toArray, List.set_cons_zero, List.set_cons_succ]
        refine regS_eff 2 rfl (by kernel_rfl) (fun K hK => ?_)
        go_simp
        refine (GM.out _).mono ?_
        rintro e w7 ⟨rfl, hE0⟩
        have P0 := Lib.hid ((hE0.block _ (lt_of_heap N0.out)).trans N0.out)
        have P1 := Lib.hid ((hE0.block _ (lt_of_heap N1.out)).trans N1.out)
        have P2 := Lib.hid ((hE0.block _ (lt_of_heap N2.out)).trans N2.out)
        have PB := Lib.hid (NB.out.step hE0)
        have hE : AnyR W6 w7 := trivial
        clear hE0
        refine hK.out _ _ hE ?_
        have HX := Lib.hid (Pre.trans HX.out hE)
        clear hE hK K
        try simp only [Act.put, List.setIfInBounds_toArray, List.set_cons_zero, List.set_cons_succ]
        refine regS_eff 6 rfl (by kernel_rfl) (fun K hK => ?_)
        refine step_st1 rfl 23 (.tmp 5) (.tmp 17) rfl (store_arr (cs := Y.map bv) (i16l Y HSL'.out) (bv_one _) P2.out (by rw [List.length_map, List.length_map, HSL'.out, HMX.out])) ?_
        generalize hV : World.setRow _ _ _ = W8
        have Q2 := Lib.hid (heap_of_setRow hV P2.out)
        have Q1 := Lib.hid (heap_of_other hV (show q + 1 ≠ q + 2 by omega) P1.out)
        have Q0 := Lib.hid (heap_of_other hV (show q ≠ q + 2 by omega) P0.out)
        have QB := Lib.hid (PB.out.trans (below_of_setRow hV (by have := HQ.out; omega) PB.out.size))
        have hE : AnyR w7 W8 := trivial
        clear hV
        refine hK.out _ _ hE ?_
        have HX := Lib.hid (Pre.trans HX.out hE)
        clear hE hK K
        try simp only [Act.put, List.setIfInBounds_toArray, List.set_cons_zero, List.set_cons_succ]
        refine regS_take (v := ?_) 7 (some 1) rfl rfl (by kernel_rfl) (by kernel_rfl) (by kernel_rfl) (fun _ _ _ h => h) (by rfl) (fun W hW => ?_) ?_
        rotate_left
        · (go_simp; try rfl)
        simp only [Act.put, List.setIfInBounds_toArray, List.set_cons_zero, List.set_cons_succ]
        refine regS_done (by kernel_rfl) ?_
        go_wp2
        go_step3
        have hA := sl_cut HA.out (k := t) (by have h1 := HL.out; have h2 := HJ.out; have h3 := ht16.out; rw [List.length_drop]; omega)
        rw [List.drop_drop] at hA
        refine ⟨rfl, hid_mp HJ0 ⟨j + 1, cutS A' c' t, m - t, c' - t, _, _, _, _, _, _, _, _, _, _, _, _, _, _, _, _, by rw [HQ.out], ?_, ?_, QB, ?_, ?_, ?_⟩, ?_⟩
        · exact step_left HJ.out HT.out ht16.out
        · exact step_drop hA HT.out HL.out HJ.out
        · show _ = _; rw [HQ.out]; exact Q0.out
        · show _ = _; rw [HQ.out]; exact Q1.out
        · show _ = _; rw [HQ.out, HYJ.out]; exact Q2.out
        · exact Nat.sub_lt ht16.out.2.2.2 ht16.out.2.2.1
      · skip
        refine step_ld rfl 23 (.tmp 2) rfl (load_arr arr16B rfl (i16l h HH.out) N0.out) ?_
        have hE : AnyR W6 W6 := trivial
        refine hK.out _ _ hE ?_
        have HX := Lib.hid (Pre.trans HX.out hE)
        clear hE hK K
        try simp only [Act.put, List.setIfInBounds_toArray, List.set_cons_zero, List.set_cons_succ]
        refine regS_eff 0 rfl (by kernel_rfl) (fun K hK => ?_)
        refine step_ld rfl 23 (.tmp 5) rfl (load_arr arr16B rfl (i16l M HMX.out) N2.out) ?_
        have hE : AnyR W6 W6 := trivial
        refine hK.out _ _ hE ?_
        have HX := Lib.hid (Pre.trans HX.out hE)
        clear hE hK K
        try simp only [Act.put, List.setIfInBounds_toArray, List.set_cons_zero, List.set_cons_succ]
        refine regS_eff 2 rfl (by kernel_rfl) (fun K hK => ?_)
        go_simp
        refine (GM.out _).mono ?_
        rintro e w7 ⟨rfl, hE0⟩
        have P0 := Lib.hid ((hE0.block _ (lt_of_heap N0.out)).trans N0.out)
        have P1 := Lib.hid ((hE0.block _ (lt_of_heap N1.out)).trans N1.out)
        have P2 := Lib.hid ((hE0.block _ (lt_of_heap N2.out)).trans N2.out)
        have PB := Lib.hid (NB.out.step hE0)
        have hE : AnyR W6 w7 := trivial
        clear hE0
        refine hK.out _ _ hE ?_
        have HX := Lib.hid (Pre.trans HX.out hE)
        clear hE hK K
        try simp only [Act.put, List.setIfInBounds_toArray, List.set_cons_zero, List.set_cons_succ]
        refine regS_eff 6 rfl (by kernel_rfl) (fun K hK => ?_)
        refine step_st1 rfl 23 (.tmp 5) (.tmp 17) rfl (store_arr (cs := Y.map bv) (i16l Y HSL'.out) (bv_one _) P2.out (by rw [List.length_map, List.length_map, HSL'.out, HMX.out])) ?_
        generalize hV : World.setRow _ _ _ = W8
        have Q2 := Lib.hid (heap_of_setRow hV P2.out)
        have Q1 := Lib.hid (heap_of_other hV (show q + 1 ≠ q + 2 by omega) P1.out)
        have Q0 := Lib.hid (heap_of_other hV (show q ≠ q + 2 by omega) P0.out)
        have QB := Lib.hid (PB.out.trans (below_of_setRow hV (by have := HQ.out; omega) PB.out.size))
        have hE : AnyR w7 W8 := trivial
        clear hV
        refine hK.out _ _ hE ?_
        have HX := Lib.hid (Pre.trans HX.out hE)
        clear hE hK K
        try simp only [Act.put, List.setIfInBounds_toArray, List.set_cons_zero, List.set_cons_succ]
        refine regS_take (v := ?_) 7 (some 1) rfl rfl (by kernel_rfl) (by kernel_rfl) (by kernel_rfl) (fun _ _ _ h => h) (by rfl) (fun W hW => ?_) ?_
        rotate_left
        · (go_simp; try rfl)
        simp only [Act.put, List.setIfInBounds_toArray, List.set_cons_zero, List.set_cons_succ]
        refine regS_done (by kernel_rfl) ?_
        go_wp2
        go_step3
        have hA := sl_cut HA.out (k := t) (by have h1 := HL.out; have h2 := HJ.out; have h3 := ht16.out; rw [List.length_drop]; omega)
        rw [List.drop_drop] at hA
        refine ⟨rfl, hid_mp HJ0 ⟨j + 1, cutS A' c' t, m - t, c' - t, _, _, _, _, _, _, _, _, _, _, _, _, _, _, _, _, by rw [HQ.out], ?_, ?_, QB, ?_, ?_, ?_⟩, ?_⟩
        · exact step_left HJ.out HT.out ht16.out
        · exact step_drop hA HT.out HL.out HJ.out
        · show _ = _; rw [HQ.out]; exact Q0.out
        · show _ = _; rw [HQ.out]; exact Q1.out
        · show _ = _; rw [HQ.out, HYJ.out]; exact Q2.out
        · exact Nat.sub_lt ht16.out.2.2.2 ht16.out.2.2.1
    · have hj : (n + 15) / 16 = j := by have h2 := HJ.out; omega
      rw [hj] at GSE
      have hm0 : m = 0 := by omega
      have HY := Lib.hid (GSL.out j)
      generalize GS j = Y at GSE H2 HY
      have e1 : ¬ ((0 : Int) < (m : Int)) := by omega
      clear hj hdl
      go_wp2_with (first
        | (refine wpList_ld rfl 23 (.tmp 5) rfl (load_arr arr16B rfl (i16l Y HY.out) H2.out) ?_)
        | (refine wpList_st rfl 23 (.tmp 4) (.tmp 21) rfl (store_arr (cs := Y.map bv) (i16l Y HY.out) (bv_one _) H1.out (by rw [List.length_map, List.length_map, HY.out, HZL.out])) ?_
           generalize hV : World.setRow _ _ _ = W4
           have hres := heap_of_setRow hV H1.out
           have JB := Lib.hid (HB.out.trans (below_of_setRow hV (by have := HQ.out; omega) HB.out.size))
           clear hV))
      simp only [Exit.jump]
      exact bodyPost_ret (results_cell_row (P := Try.prog) rfl _ _ (q + 1) 23 (Y.map bv).toArray (0, 0) _ rfl hres arr16B rfl (by rw [List.size_toArray]; exact i16l Y HY.out)) rfl ⟨by rw [GSE.out], JB.out⟩
end Go.Proofs.Ytjlljifllnmdoaa
