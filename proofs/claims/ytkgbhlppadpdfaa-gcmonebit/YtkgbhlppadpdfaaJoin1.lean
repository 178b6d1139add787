/- Joined: Gha4 LawsG3 RefG1 RefG2 Ref1 App RefG3 LiftP Reg5 Sha8 Own Gcm1 Gcm2. -/
import Derived.Test.YtkgbhlppadpdfaaGha3
import Derived.StillTailTactics
import Derived.Test.YtkgbhlppadpdfaaBits3
import Derived.Test.YtkgbhlppadpdfaaReg
import Derived.Test.YtkgbhlppadpdfaaBits2
import Derived.Maps.AppendAt
import Derived.Test.YtkgbhlppadpdfaaLift
import Derived.Test.YtkgbhlppadpdfaaReg4
import Derived.Test.YtkgbhlppadpdfaaSha7
import Derived.Test.YtkgbhlppadpdfaaCtr2
/- Package ghash: Sum, Lengths. -/
namespace Go.Proofs.Ytkgbhlppadpdfaa
open Go.RowKit
set_option maxRecDepth 100000
set_option linter.unusedVariables false
set_option linter.unusedSimpArgs false
/-- bytes as a row without end, noughts behind -/
def byteF (b : List UInt8) (i : Nat) : UInt8 := b.getD i 0
/-- a block, and 16 bytes put to it -/
def mixF (y : List UInt8) (f : Nat → UInt8) : List UInt8 := (List.range 16).map fun k => y.getD k 0 ^^^ f k
theorem mixF_len (y : List UInt8) (f : Nat → UInt8) : (mixF y f).length = 16 := by simp [mixF]
/-- the sum y, gone on by j blocks -/
def gsF (h y : List UInt8) (f : Nat → UInt8) : Nat → List UInt8
  | 0 => y
  | j + 1 => gmulL (mixF (gsF h y f j) fun k => f (16 * j + k)) h
theorem gsF_len (h y : List UInt8) (f : Nat → UInt8) (j : Nat) (hy : y.length = 16) : (gsF h y f j).length = 16 := by
  cases j with
  | zero => exact hy
  | succ j => exact gmulL_len _ _
def gsumL (h b : List UInt8) : List UInt8 := gsF h zerB (byteF b) ((b.length + 15) / 16)
theorem gsumL_len (h b : List UInt8) : (gsumL h b).length = 16 := gsF_len _ _ _ _ rfl
theorem xorL_take (a b : List UInt8) : xorL a b = List.zipWith (· ^^^ ·) a b := rfl
theorem mix_splice (S X bs : List UInt8) (j : Nat) (hS : S.length = 16) (hX : X = bs.drop (16 * j)) : splice (S.map bv) 0 ((xorL S X).map bv) = (mixF S fun k => byteF bs (16 * j + k)).map bv := by
  unfold splice
  rw [List.take_zero, List.nil_append, Nat.zero_add, ← List.map_drop, ← List.map_append]
  congr 1
  have hl : (xorL S X).length = min 16 X.length := by rw [xorL_len, hS]
  apply List.ext_getElem
  · rw [mixF_len, List.length_append, List.length_drop, List.length_map, hS, hl]; omega
  · intro i h1 h2
    rw [mixF_len] at h2
    have hf : byteF bs (16 * j + i) = X.getD i 0 := by rw [hX, byteF]; simp [List.getD, List.getElem?_drop]
    have hr : (mixF S fun k => byteF bs (16 * j + k))[i]'(by rw [mixF_len]; exact h2) = S.getD i 0 ^^^ X.getD i 0 := by
      rw [← hf]; simp [mixF]
    rw [hr]
    by_cases hi : i < (xorL S X).length
    · rw [List.getElem_append_left hi]
      rw [hl] at hi
      simp [xorL, List.getD, hS, h2, show i < X.length by omega]
    · rw [List.getElem_append_right (by omega), List.getElem_drop]
      have hx : X.getD i 0 = 0 := by
        rw [hl] at hi
        simp [List.getD, List.getElem?_eq_none (show X.length ≤ i by omega)]
      rw [hx, UInt8.xor_zero]
      simp only [List.length_map]
      rw [List.getD, List.getElem?_eq_getElem (by omega), Option.getD_some]
      congr 1; omega
theorem step_left {n j m t : Nat} (h : m = n - 16 * j ∧ j ≤ (n + 15) / 16) (ht : t = min 16 m) (h2 : t ≤ m ∧ t ≤ 16 ∧ 0 < t ∧ 0 < m) : Hid (m - t = n - 16 * (j + 1) ∧ j + 1 ≤ (n + 15) / 16) := by
  show _ ∧ _; omega
theorem step_drop {w : World} {A : Option Addr} {c n j m t : Nat} {bs : List UInt8} (h : Sl w A c (bs.drop (16 * j + t))) (ht : t = min 16 m) (hl : bs.length = n) (hj : m = n - 16 * j ∧ j ≤ (n + 15) / 16) : Hid (Sl w A c (bs.drop (16 * (j + 1)))) := by
  show Sl _ _ _ _
  by_cases h16 : 16 ≤ m
  · rw [show 16 * (j + 1) = 16 * j + t by omega]; exact h
  · rw [List.drop_eq_nil_of_le (by omega)] at h ⊢; exact h
theorem hid_mp {J J' : Act → World → Prop} (h : Hid (J = J')) {a : Act} {w : World} (hh : J' a w) : J a w := by rw [h.out]; exact hh
/-- a label in a scope, behind code of which none jumps, to which its own code jumps back -/
theorem wp_scope_label1 {P : Program} {a : Act} {w : World} {Q : Exit → Act → World → Prop} {ahead rest : Code} (l : Nat) (J : Act → World → Prop) (μ : Act → World → Nat) (hf : findLabel (ahead.seq ((Code.label l).seq rest)) l = some (Code.skip.seq rest)) (h0 : ahead.wp P (fun e a w => e = .normal ∧ J a w) a w)
    (pass : ∀ a w, J a w → rest.wp P (Exit.jump l (fun a' w' => J a' w' ∧ μ a' w' < μ a w) Q) a w) : (Code.scope (ahead.seq ((Code.label l).seq rest))).wp P Q a w := by
  refine wp_scope_jumps l J μ hf (wp_seq (Code.wp_mono ?_ h0)) (fun a w h => wp_seq (wp_skip (pass a w h)))
  rintro e a w ⟨rfl, hJ⟩
  refine wp_seq (wp_label ?_)
  refine Code.wp_mono ?_ (pass a w hJ)
  intro e a w h
  cases e <;> first | exact h | exact ⟨h.1, h.2.1⟩
set_option maxHeartbeats 4000000 in
theorem gsum_any (h : List UInt8) (A : Option Addr) (n c : Nat) (bs : List UInt8) (w : World) (hh : h.length = 16) (hl : bs.length = n) (hn : n ≤ 2147483647) (hS : Sl w A c bs) :
    Calls Try.prog 57 #[.agg (h.map bv).toArray, .slice A n c] w fun e w' => e = .returned (.agg ((gsumL h bs).map bv).toArray) ∧ Below w.heap.size w w' := by
  have hz16 : ∀ W, (zeroValue 33).run Try.prog W = .ok (.agg (zerB.map bv).toArray) W := fun W => by kernel_rfl
  have HH := Lib.hid hh; have HL := Lib.hid hl; have HS := Lib.hid hS
  have HZL : Hid (zerB.length = 16) := rfl
  have GSL : Hid (∀ j, (gsF h zerB (byteF bs) j).length = 16) := fun j => gsF_len _ _ _ _ rfl
  have GS0 : Hid (gsF h zerB (byteF bs) 0 = zerB) := rfl
  have GSS : Hid (∀ j, gmulL (mixF (gsF h zerB (byteF bs) j) fun k => byteF bs (16 * j + k)) h = gsF h zerB (byteF bs) (j + 1)) := fun j => rfl
  have GSE : Hid (gsumL h bs = gsF h zerB (byteF bs) ((n + 15) / 16)) := by show _ = _; rw [gsumL, hl]
  clear hh hl hS
  obtain ⟨q, HQ⟩ : ∃ q, Hid (w.heap.size = q) := ⟨_, rfl⟩
  generalize gsF h zerB (byteF bs) = GS at GSL GS0 GSS GSE
  generalize zerB = Z at hz16 HZL GS0
  go_enter Try.func57, Try.ntmps57
  go_wp2
  have G := heap3 w (.cells (h.map bv).toArray 33) (.cells (Z.map bv).toArray 33) (.cells (Z.map bv).toArray 33)
  obtain ⟨J, HJ0⟩ : ∃ J : Act → World → Prop, Hid (J = fun a' w' => ∃ (j : Nat) (A' : Option Addr) (m c' : Nat) (u6 u7 u8 u9 u10 u11 u12 u13 u14 u15 u16 u17 u18 u19 u20 u21 : Value),
      a' = { tmps := #[.agg (h.map bv).toArray, .slice A' m c', .pointer (some ⟨w.heap.size, 0, none⟩), undef, .pointer (some ⟨w.heap.size + 1, 0, none⟩), .pointer (some ⟨w.heap.size + 2, 0, none⟩), u6, u7, u8, u9, u10, u11, u12, u13, u14, u15, u16, u17, u18, u19, u20, u21], defers := [] } ∧
      Hid (m = n - 16 * j ∧ j ≤ (n + 15) / 16) ∧ Hid (Sl w A' c' (bs.drop (16 * j))) ∧ Hid (Below w.heap.size w w') ∧ Hid (w'.heap[w.heap.size]? = some (.cells (h.map bv).toArray 33 (0, 0))) ∧
      Hid (w'.heap[w.heap.size + 1]? = some (.cells (Z.map bv).toArray 33 (0, 0))) ∧ Hid (w'.heap[w.heap.size + 2]? = some (.cells ((GS j).map bv).toArray 33 (0, 0)))) := ⟨_, rfl⟩
  refine wp_scope_label1 0 J (fun a' _ => (sliceLen (a'.tmps.getD 1 undef))) rfl ?first ?pass
  case first =>
    go_wp2
    rw [HJ0.out]
    refine ⟨0, A, n, c, _, _, _, _, _, _, _, _, _, _, _, _, _, _, _, _, rfl, ?_, HS, ?_, ?_, ?_, ?_⟩
    · show _ ∧ _; omega
    · exact G.2.2.2
    · exact G.1
    · exact G.2.1
    · show _ = _; rw [GS0.out]; exact G.2.2.1
  case pass =>
    clear G
    intro a' w' hJ'
    rw [HJ0.out] at hJ'
    obtain ⟨j, A', m, c', u6, u7, u8, u9, u10, u11, u12, u13, u14, u15, u16, u17, u18, u19, u20, u21, rfl, HJ, HA, HB, H0, H1, H2⟩ := hJ'
    rw [HQ.out] at H0 H1 H2 ⊢
    have hdl : (bs.drop (16 * j)).length = m := by have h1 := HL.out; have h2 := HJ.out; rw [List.length_drop]; omega
    have HM31 : Hid (m ≤ 2147483647) := by have h2 := HJ.out; show _ ≤ _; omega
    by_cases hm : 0 < m
    · have e1 : (0 : Int) < (m : Int) := by omega
      obtain ⟨t, ht⟩ : ∃ t, t = min 16 m := ⟨_, rfl⟩
      have sl := arr_all arr16B s8 ⟨q + 2, 0, none⟩
      have HT := Lib.hid ht
      have ht16 : Hid (t ≤ m ∧ t ≤ 16 ∧ 0 < t ∧ 0 < m) := by show _ ∧ _ ∧ _ ∧ _; omega
      have hcut := cut_from uT s8 A' m c' .i64 (t : Int) (by omega) (by omega)
      rw [Int.toNat_natCast] at hcut
      obtain ⟨X, hX⟩ : ∃ X, X = bs.drop (16 * j) := ⟨_, rfl⟩
      have HSP := Lib.hid (mix_splice (GS j) X bs j (GSL.out j) hX)
      have HXL : Hid (X.length = m) := by show _ = _; rw [hX]; exact hdl
      have HXS : Hid (Sl w A' c' X) := by show Sl _ _ _ _; rw [hX]; exact HA.out
      have HMX := Lib.hid (mixF_len (GS j) fun k => byteF bs (16 * j + k))
      have HGS := Lib.hid (GSS.out j)
      obtain ⟨M, HM⟩ : ∃ M, Hid ((mixF (GS j) fun k => byteF bs (16 * j + k)) = M) := ⟨_, rfl⟩
      rw [HM.out] at HSP HMX HGS
      have HSL := Lib.hid (GSL.out j)
      have HSL' := Lib.hid (GSL.out (j + 1))
      clear HM hX hdl ht
      have HX : Hid (AnyR w'.drew w'.drew) := trivial
      go_wp2_with fail
      have N0 : Hid (w'.drew.heap[q]? = _) := H0.out
      have N1 : Hid (w'.drew.heap[q + 1]? = _) := H1.out
      have N2 : Hid (w'.drew.heap[q + 2]? = _) := H2.out
      have NB : Hid (Below w.heap.size w w'.drew) := HB.out.drew
      refine regS_start (AnyR) (by kernel_rfl) ?_
      try simp only [Act.put, List.setIfInBounds_toArray, List.set_cons_zero, List.set_cons_succ]
      generalize w'.drew = W3 at N0 N1 N2 NB HX ⊢
      refine regS_take (v := ?_) 0 (some 10) rfl rfl (by kernel_rfl) (by kernel_rfl) (by kernel_rfl) (fun _ _ _ h => h) (by rfl) (fun W hW => ?_) ?_
      rotate_left
      · (go_simp; try rfl)
      simp only [Act.put, List.setIfInBounds_toArray, List.set_cons_zero, List.set_cons_succ]
      refine regS_take (v := ?_) 1 (some 11) rfl rfl (by kernel_rfl) (by kernel_rfl) (by kernel_rfl) (fun _ _ _ h => h) (by rfl) (fun W hW => ?_) ?_
      rotate_left
      · (go_simp; try rfl)
      simp only [Act.put, List.setIfInBounds_toArray, List.set_cons_zero, List.set_cons_succ]
      refine regS_take (v := ?_) 2 (some 12) rfl rfl (by kernel_rfl) (by kernel_rfl) (by kernel_rfl) (fun _ _ _ h => h) (by rfl) (fun W hW => ?_) ?_
      rotate_left
      · (go_simp; try rfl)
      simp only [Act.put, List.setIfInBounds_toArray, List.set_cons_zero, List.set_cons_succ]
      refine regS_eff 3 rfl (by kernel_rfl) (fun K hK => ?_)
      go_simp
      refine (xor_n (some ⟨q + 2, 0, none⟩) A' 16 m t 16 c' (GS j) X W3 HSL.out HXL.out HT.out.symm (sl_row HSL.out (by omega) N2.out) (HXS.out.below NB.out) (by omega) HM31.out).mono ?_
      rintro e w4 ⟨g3, hg3, rfl, hk3, hE0⟩
      have L0 := Lib.hid ((hE0.block _ (lt_of_heap N0.out)).trans N0.out)
      have L1 := Lib.hid ((hE0.block _ (lt_of_heap N1.out)).trans N1.out)
      have L2 := Lib.hid ((hE0.block _ (lt_of_heap N2.out)).trans N2.out)
      have LB := Lib.hid (NB.out.step hE0)
      have R3 := Lib.hid (row_of_heap hk3 (Nat.lt_succ_self g3))
      have hE : AnyR W3 w4 := trivial
      clear hE0 hk3 hg3
      refine hK.out _ _ hE ?_
      have HX := Lib.hid (Pre.trans HX.out hE)
      clear hE hK K
      try simp only [Act.put, List.setIfInBounds_toArray, List.set_cons_zero, List.set_cons_succ]
      refine regS_eff 4 rfl (by kernel_rfl) (fun K hK => ?_)
      obtain ⟨w5, hrun, hblk, _, hgr⟩ := copy_run uT s8 (sT := 23) 3 w4 (q + 2) 0 ((GS j).map bv) 33 L2.out (some ⟨q + 2, 0, none⟩) (some ⟨g3, 0, none⟩) 16 16 t t (g3 + 1) ((xorL (GS j) X).map bv) (by have h1 := HT.out; have h2 := ht16.out; simp only [List.length_map, xorL_len, HSL.out, HXL.out]; omega) (fun _ => rfl) R3.out (by have h1 := HT.out; simp only [List.length_map, xorL_len, HSL.out, HXL.out]; omega) (bv_one _)
      rw [HSP.out] at hblk
      rw [show (((xorL (GS j) X).map bv).length : Int) = (t : Int) from by have h1 := HT.out; simp only [List.length_map, xorL_len, HSL.out, HXL.out]; omega] at hrun
      have K2 := Lib.hid hblk
      have K0 : Hid (w5.heap[q]? = _) := (hgr.block _ (lt_of_heap L0.out) (by simp)).trans L0.out
      have K1 : Hid (w5.heap[q + 1]? = _) := (hgr.block _ (lt_of_heap L1.out) (by simp)).trans L1.out
      have KB := Lib.hid (LB.out.trans (grown_below hgr (by have := HQ.out; omega) LB.out.size))
      refine step_cpy rfl (.tmp 10) (.tmp 13) 23 23 rfl hrun ?_
      have hE : AnyR w4 w5 := trivial
      clear hrun hblk hgr
      refine hK.out _ _ hE ?_
      have HX := Lib.hid (Pre.trans HX.out hE)
      clear hE hK K
      try simp only [Act.put, List.setIfInBounds_toArray, List.set_cons_zero, List.set_cons_succ]
      refine regS_take (v := ?_) 5 (some 6) rfl rfl (by kernel_rfl) (by kernel_rfl) (by kernel_rfl) (fun _ _ _ h => h) (by rfl) (fun W hW => ?_) ?_
      rotate_left
      · (go_simp; try rfl)
      simp only [Act.put, List.setIfInBounds_toArray, List.set_cons_zero, List.set_cons_succ]
      refine regS_done (by kernel_rfl) ?_
      simp only [List.getElem_toArray, List.getElem_cons_succ, List.getElem_cons_zero, List.set_cons_zero, List.set_cons_succ]
      clear N0 N1 N2 NB
      have GM := Lib.hid (fun W => gmul_any M h W HMX.out HH.out)
      rw [HGS.out] at GM
      have N0 : Hid (w5.drew.heap[q]? = _) := K0.out
      have N1 : Hid (w5.drew.heap[q + 1]? = _) := K1.out
      have N2 : Hid (w5.drew.heap[q + 2]? = _) := K2.out
      have NB : Hid (Below w.heap.size w w5.drew) := KB.out.drew
      obtain ⟨Y, HYJ⟩ : ∃ Y, Hid (GS (j + 1) = Y) := ⟨_, rfl⟩
      rw [HYJ.out] at GM HSL'
      go_upto_region 4 with (fail)
      refine regS_start (AnyR) (by kernel_rfl) ?_
      try simp only [Act.put, List.setIfInBounds_toArray, List.set_cons_zero, List.set_cons_succ]
      generalize w5.drew = W6 at N0 N1 N2 NB ⊢
      have HX : Hid (AnyR W6 W6) := trivial
      refine regS_take (v := ?_) 3 (some 18) rfl rfl (by kernel_rfl) (by kernel_rfl) (by kernel_rfl) (fun _ _ _ h => h) (by rfl) (fun W hW => ?_) ?_
      rotate_left
      · (go_simp; try rfl)
      simp only [Act.put, List.setIfInBounds_toArray, List.set_cons_zero, List.set_cons_succ]
      refine regS_take (v := ?_) 4 (some 19) rfl rfl (by kernel_rfl) (by kernel_rfl) (by kernel_rfl) (fun _ _ _ h => h) (by rfl) (fun W hW => ?_) ?_
      rotate_left
      · (go_simp; try rfl)
      simp only [Act.put, List.setIfInBounds_toArray, List.set_cons_zero, List.set_cons_succ]
      refine regS_take (v := ?_) 5 (some 20) rfl rfl (by kernel_rfl) (by kernel_rfl) (by kernel_rfl) (fun _ _ _ h => h) (by rfl) (fun W hW => ?_) ?_
      rotate_left
      · (go_simp; try rfl)
      simp only [Act.put, List.setIfInBounds_toArray, List.set_cons_zero, List.set_cons_succ]
      refine regS_eff2 0 1 rfl rfl (by kernel_rfl) (fun K hK => ?_) (fun K hK => ?_)
      · skip
        refine step_ld rfl 33 (.tmp 5) rfl (load_arr arr16B rfl (i16l M HMX.out) N2.out) ?_
        have hE : AnyR W6 W6 := trivial
        refine hK.out _ _ hE ?_
        have HX := Lib.hid (Pre.trans HX.out hE)
        clear hE hK K
        try simp only [Act.put, List.setIfInBounds_toArray, List.set_cons_zero, List.set_cons_succ]
        refine regS_eff 1 rfl (by kernel_rfl) (fun K hK => ?_)
        refine step_ld rfl 33 (.tmp 2) rfl (load_arr arr16B rfl (i16l h HH.out) N0.out) ?_
        have hE : AnyR W6 W6 := trivial
        refine hK.out _ _ hE ?_
        have HX := Lib.hid (Pre.trans HX.out hE)
        clear hE hK K
        try simp only [Act.put, List.setIfInBounds_toArray, List.set_cons_zero, List.set_cons_succ]
        refine regS_eff 2 rfl (by kernel_rfl) (fun K hK => ?_)
        go_simp
        refine (GM.out _).mono ?_
        rintro e w7 ⟨rfl, hE0⟩
        have P0 := Lib.hid ((hE0.block _ (lt_of_heap N0.out)).trans N0.out)
        have P1 := Lib.hid ((hE0.block _ (lt_of_heap N1.out)).trans N1.out)
        have P2 := Lib.hid ((hE0.block _ (lt_of_heap N2.out)).trans N2.out)
        have PB := Lib.hid (NB.out.step hE0)
        have hE : AnyR W6 w7 := trivial
        clear hE0
        refine hK.out _ _ hE ?_
        have HX := Lib.hid (Pre.trans HX.out hE)
        clear hE hK K
        try simp only [Act.put, List.setIfInBounds_toArray, List.set_cons_zero, List.set_cons_succ]
        refine regS_eff 6 rfl (by kernel_rfl) (fun K hK => ?_)
        refine step_st1 rfl 33 (.tmp 5) (.tmp 17) rfl (store_arr (cs := Y.map bv) (i16l Y HSL'.out) (bv_one _) P2.out (by rw [List.length_map, List.length_map, HSL'.out, HMX.out])) ?_
        generalize hV : World.setRow _ _ _ = W8
        have Q2 := Lib.hid (heap_of_setRow hV P2.out)
        have Q1 := Lib.hid (heap_of_other hV (show q + 1 ≠ q + 2 by omega) P1.out)
        have Q0 := Lib.hid (heap_of_other hV (show q ≠ q + 2 by omega) P0.out)
        have QB := Lib.hid (PB.out.trans (below_of_setRow hV (by have := HQ.out; omega) PB.out.size))
        have hE : AnyR w7 W8 := trivial
        clear hV
        refine hK.out _ _ hE ?_
        have HX := Lib.hid (Pre.trans HX.out hE)
        clear hE hK K
        try simp only [Act.put, List.setIfInBounds_toArray, List.set_cons_zero, List.set_cons_succ]
        refine regS_take (v := ?_) 7 (some 1) rfl rfl (by kernel_rfl) (by kernel_rfl) (by kernel_rfl) (fun _ _ _ h => h) (by rfl) (fun W hW => ?_) ?_
        rotate_left
        · (go_simp; try rfl)
        simp only [Act.put, List.setIfInBounds_toArray, List.set_cons_zero, List.set_cons_succ]
        refine regS_done (by kernel_rfl) ?_
        go_wp2
        go_step3
        have hA := sl_cut HA.out (k := t) (by have h1 := HL.out; have h2 := HJ.out; have h3 := ht16.out; rw [List.length_drop]; omega)
        rw [List.drop_drop] at hA
        refine ⟨rfl, hid_mp HJ0 ⟨j + 1, cutS A' c' t, m - t, c' - t, _, _, _, _, _, _, _, _, _, _, _, _, _, _, _, _, by rw [HQ.out], ?_, ?_, QB, ?_, ?_, ?_⟩, ?_⟩
        · exact step_left HJ.out HT.out ht16.out
        · exact step_drop hA HT.out HL.out HJ.out
        · show _ = _; rw [HQ.out]; exact Q0.out
        · show _ = _; rw [HQ.out]; exact Q1.out
        · show _ = _; rw [HQ.out, HYJ.out]; exact Q2.out
        · exact Nat.sub_lt ht16.out.2.2.2 ht16.out.2.2.1
      · skip
        refine step_ld rfl 33 (.tmp 2) rfl (load_arr arr16B rfl (i16l h HH.out) N0.out) ?_
        have hE : AnyR W6 W6 := trivial
        refine hK.out _ _ hE ?_
        have HX := Lib.hid (Pre.trans HX.out hE)
        clear hE hK K
        try simp only [Act.put, List.setIfInBounds_toArray, List.set_cons_zero, List.set_cons_succ]
        refine regS_eff 0 rfl (by kernel_rfl) (fun K hK => ?_)
        refine step_ld rfl 33 (.tmp 5) rfl (load_arr arr16B rfl (i16l M HMX.out) N2.out) ?_
        have hE : AnyR W6 W6 := trivial
        refine hK.out _ _ hE ?_
        have HX := Lib.hid (Pre.trans HX.out hE)
        clear hE hK K
        try simp only [Act.put, List.setIfInBounds_toArray, List.set_cons_zero, List.set_cons_succ]
        refine regS_eff 2 rfl (by kernel_rfl) (fun K hK => ?_)
        go_simp
        refine (GM.out _).mono ?_
        rintro e w7 ⟨rfl, hE0⟩
        have P0 := Lib.hid ((hE0.block _ (lt_of_heap N0.out)).trans N0.out)
        have P1 := Lib.hid ((hE0.block _ (lt_of_heap N1.out)).trans N1.out)
        have P2 := Lib.hid ((hE0.block _ (lt_of_heap N2.out)).trans N2.out)
        have PB := Lib.hid (NB.out.step hE0)
        have hE : AnyR W6 w7 := trivial
        clear hE0
        refine hK.out _ _ hE ?_
        have HX := Lib.hid (Pre.trans HX.out hE)
        clear hE hK K
        try simp only [Act.put, List.setIfInBounds_toArray, List.set_cons_zero, List.set_cons_succ]
        refine regS_eff 6 rfl (by kernel_rfl) (fun K hK => ?_)
        refine step_st1 rfl 33 (.tmp 5) (.tmp 17) rfl (store_arr (cs := Y.map bv) (i16l Y HSL'.out) (bv_one _) P2.out (by rw [List.length_map, List.length_map, HSL'.out, HMX.out])) ?_
        generalize hV : World.setRow _ _ _ = W8
        have Q2 := Lib.hid (heap_of_setRow hV P2.out)
        have Q1 := Lib.hid (heap_of_other hV (show q + 1 ≠ q + 2 by omega) P1.out)
        have Q0 := Lib.hid (heap_of_other hV (show q ≠ q + 2 by omega) P0.out)
        have QB := Lib.hid (PB.out.trans (below_of_setRow hV (by have := HQ.out; omega) PB.out.size))
        have hE : AnyR w7 W8 := trivial
        clear hV
        refine hK.out _ _ hE ?_
        have HX := Lib.hid (Pre.trans HX.out hE)
        clear hE hK K
        try simp only [Act.put, List.setIfInBounds_toArray, List.set_cons_zero, List.set_cons_succ]
        refine regS_take (v := ?_) 7 (some 1) rfl rfl (by kernel_rfl) (by kernel_rfl) (by kernel_rfl) (fun _ _ _ h => h) (by rfl) (fun W hW => ?_) ?_
        rotate_left
        · (go_simp; try rfl)
        simp only [Act.put, List.setIfInBounds_toArray, List.set_cons_zero, List.set_cons_succ]
        refine regS_done (by kernel_rfl) ?_
        go_wp2
        go_step3
        have hA := sl_cut HA.out (k := t) (by have h1 := HL.out; have h2 := HJ.out; have h3 := ht16.out; rw [List.length_drop]; omega)
        rw [List.drop_drop] at hA
        refine ⟨rfl, hid_mp HJ0 ⟨j + 1, cutS A' c' t, m - t, c' - t, _, _, _, _, _, _, _, _, _, _, _, _, _, _, _, _, by rw [HQ.out], ?_, ?_, QB, ?_, ?_, ?_⟩, ?_⟩
        · exact step_left HJ.out HT.out ht16.out
        · exact step_drop hA HT.out HL.out HJ.out
        · show _ = _; rw [HQ.out]; exact Q0.out
        · show _ = _; rw [HQ.out]; exact Q1.out
        · show _ = _; rw [HQ.out, HYJ.out]; exact Q2.out
        · exact Nat.sub_lt ht16.out.2.2.2 ht16.out.2.2.1
    · have hj : (n + 15) / 16 = j := by have h2 := HJ.out; omega
      rw [hj] at GSE
      have hm0 : m = 0 := by omega
      have HY := Lib.hid (GSL.out j)
      generalize GS j = Y at GSE H2 HY
      have e1 : ¬ ((0 : Int) < (m : Int)) := by omega
      clear hj hdl
      go_wp2_with (first
        | (refine wpList_ld rfl 33 (.tmp 5) rfl (load_arr arr16B rfl (i16l Y HY.out) H2.out) ?_)
        | (refine wpList_st rfl 33 (.tmp 4) (.tmp 21) rfl (store_arr (cs := Y.map bv) (i16l Y HY.out) (bv_one _) H1.out (by rw [List.length_map, List.length_map, HY.out, HZL.out])) ?_
           generalize hV : World.setRow _ _ _ = W4
           have hres := heap_of_setRow hV H1.out
           have JB := Lib.hid (HB.out.trans (below_of_setRow hV (by have := HQ.out; omega) HB.out.size))
           clear hV))
      simp only [Exit.jump]
      exact bodyPost_ret (results_cell_row (P := Try.prog) rfl _ _ (q + 1) 33 (Y.map bv).toArray (0, 0) _ rfl hres arr16B rfl (by rw [List.size_toArray]; exact i16l Y HY.out)) rfl ⟨by rw [GSE.out], JB.out⟩
end Go.Proofs.Ytkgbhlppadpdfaa

/- The walk of the law GhashPowers. -/
namespace Go.Proofs.Ytkgbhlppadpdfaa
open Go.RowKit
set_option maxRecDepth 100000
set_option linter.unusedVariables false
set_option linter.unusedSimpArgs false
def powB (n : Nat) : List UInt8 := (List.replicate 16 (0 : UInt8)).set (n / 8) (UInt8.ofNat (128 / 2 ^ (n % 8)))
theorem powB_eq (n : Nat) (h : n < 128) : powB n = blkL (pw n) := by
  have : ∀ n : Fin 128, powB n.1 = blkL (pw n.1) := by decide +kernel
  exact this ⟨n, h⟩
theorem shr128 (k : Nat) (hk : k < 8) : (128 : Int) / 2 ^ k = ((UInt8.ofNat (128 / 2 ^ k)).toNat : Int) := by
  have : ∀ k : Fin 8, (128 : Int) / 2 ^ k.1 = ((UInt8.ofNat (128 / 2 ^ k.1)).toNat : Int) := by decide +kernel
  exact this ⟨k, hk⟩
theorem gmul_pow (n m : Nat) : gmulL (blkL (pw n)) (blkL (pw m)) = blkL (pw (n + m)) := by
  rw [gmulL, bigN_blk _ (pw_lt n), bigN_blk _ (pw_lt m), pw_mul]
end Go.Proofs.Ytkgbhlppadpdfaa

/- The document's product of blocks (palfreyref06): the mathematics, and its at. -/
namespace Go.Proofs.Ytkgbhlppadpdfaa
open Go.RowKit
set_option maxRecDepth 100000
set_option linter.unusedVariables false
set_option linter.unusedSimpArgs false
def ivG (n : Nat) : Value := .int .i64 (n : Int)
theorem icellG {w : World} {g : Nat} {l : List Nat} {t : TypeId} {fr : Nat × Nat} (h : w.heap[g]? = some (.cells (l.map ivG).toArray t fr)) (i : Nat) (hi : i < l.length) : w.cell? ⟨g, i, none⟩ = some (.int .i64 ((l.getD i 0 : Nat) : Int)) := by
  rw [cell_of_heap h, List.getElem?_map]
  simp [List.getD, hi, ivG]
theorem isetG {W : World} {g : Nat} {l : List Nat} {t : TypeId} (H : W.heap[g]? = some (.cells (l.map ivG).toArray t (0, 0))) (i v : Nat) : (W.setCell ⟨g, i, none⟩ (.int .i64 (v : Int))).heap[g]? = some (.cells ((l.set i v).map ivG).toArray t (0, 0)) := by
  have := heap_set H i (ivG v)
  rw [← List.map_set] at this
  exact this
/-- whether a number is odd -/
def oddB (x : Nat) : Bool := x % 2 == 1
theorem oddB_add (x t : Nat) (ht : t < 2) : oddB (x + t) = (oddB x ^^ oddB t) := by
  have h1 : x % 2 = 0 ∨ x % 2 = 1 := by omega
  have h2 : t = 0 ∨ t = 1 := by omega
  unfold oddB
  rcases h1 with h1 | h1 <;> rcases h2 with rfl | rfl <;> simp [h1, Nat.add_mod]
theorem oddB_yes {x : Nat} (h : x % 2 = 1) : oddB x = true := by unfold oddB; rw [h]; rfl
theorem oddB_no {x : Nat} (h : ¬ x % 2 = 1) : oddB x = false := by unfold oddB; rw [show x % 2 = 0 by omega]; rfl
/-- the sum of the powers of x below n at which p is odd -/
def evF (p : List Nat) : Nat → Nat
  | 0 => 0
  | n + 1 => evF p n ^^^ sel (oddB (p.getD n 0)) (pw n)
theorem getD_setG (p : List Nat) (k v n : Nat) (hk : k < p.length) : (p.set k v).getD n 0 = if k = n then v else p.getD n 0 := by
  rw [List.getD, List.getElem?_set]
  split
  · simp [hk]
  · rfl
theorem evF_above (p : List Nat) (k v n : Nat) (hk : k < p.length) (h : n ≤ k) : evF (p.set k v) n = evF p n := by
  induction n with
  | zero => rfl
  | succ n ih => rw [evF, evF, ih (by omega), getD_setG p k v n hk, if_neg (by omega)]
theorem evF_add (p : List Nat) (k t n : Nat) (hk : k < p.length) (ht : t < 2) (h : k < n) : evF (p.set k (p.getD k 0 + t)) n = evF p n ^^^ sel (oddB t) (pw k) := by
  induction n with
  | zero => omega
  | succ n ih =>
    rw [evF, evF, getD_setG p k _ n hk]
    by_cases e : k = n
    · subst e
      rw [if_pos rfl, evF_above p k _ k hk (Nat.le_refl _), oddB_add _ _ ht, sel_xor_left, Nat.xor_assoc]
    · rw [if_neg e, ih (by omega), Nat.xor_assoc, Nat.xor_assoc, Nat.xor_comm (sel (oddB t) (pw k))]
theorem evF_zero (n m : Nat) : evF (List.replicate m 0) n = 0 := by
  induction n with
  | zero => rfl
  | succ n ih =>
    have : (List.replicate m 0).getD n 0 = 0 := by rw [List.getD, List.getElem?_replicate]; split <;> rfl
    rw [evF, ih, this, show oddB 0 = false from rfl, sel_false]; rfl
/-- 256 numbers, none above b, that stand for v up to the n-th -/
structure PG (p : List Nat) (n v b : Nat) : Prop where
  len : p.length = 256
  bd : ∀ j, p.getD j 0 ≤ b
  ev : evF p n = v
theorem PG.mono {p : List Nat} {n v b b' : Nat} (h : PG p n v b) (hb : b ≤ b') : PG p n v b' := ⟨h.len, fun j => Nat.le_trans (h.bd j) hb, h.ev⟩
theorem PG.add {p : List Nat} {n v b : Nat} (h : PG p n v b) (k t : Nat) (hk : k < n) (hn : n ≤ 256) (ht : t < 2) : PG (p.set k (p.getD k 0 + t)) n (v ^^^ sel (oddB t) (pw k)) (b + 1) := by
  have hkl : k < p.length := by rw [h.len]; omega
  refine ⟨by rw [List.length_set]; exact h.len, fun j => ?_, by rw [evF_add p k t n hkl ht hk, h.ev]⟩
  rw [getD_setG p k _ j hkl]
  have h1 := h.bd j; have h2 := h.bd k
  split <;> omega
theorem PG.inc {p : List Nat} {n v b : Nat} (h : PG p n v b) (k : Nat) (hk : k < n) (hn : n ≤ 256) : PG (p.set k (p.getD k 0 + 1)) n (v ^^^ pw k) (b + 1) := h.add k 1 hk hn (by decide)
theorem PG.init : PG (List.replicate 256 0) 255 0 0 := ⟨List.length_replicate, fun j => by rw [List.getD, List.getElem?_replicate]; split <;> exact Nat.le_refl _, evF_zero _ _⟩
/-- the i-th bit of a block, as a number -/
def bitI (b : List UInt8) (i : Nat) : Nat := if bitV (bigN b) i then 1 else 0
theorem bitI_lt (b : List UInt8) (i : Nat) : bitI b i < 2 := by unfold bitI; split <;> decide
theorem bitI_odd (b : List UInt8) (i : Nat) : oddB (bitI b i) = bitV (bigN b) i := by unfold bitI; cases bitV (bigN b) i <;> rfl
theorem bitI_zero (b : List UInt8) (i : Nat) : bitI b i = 0 ↔ bitV (bigN b) i = false := by unfold bitI; cases bitV (bigN b) i <;> simp
/-- a row's step: the k-th power put to what there is -/
theorem PG.row {p : List Nat} {i k e c B : Nat} (b : List UInt8) (h : PG p 255 (e ^^^ actN (bigN b) (pw i) k) c) (hi : i < 128) (hk : k < 128) : PG (p.set (i + k) (p.getD (i + k) 0 + bitI b k)) 255 (e ^^^ actN (bigN b) (pw i) (k + 1)) (c + 1) := by
  have := h.add (i + k) (bitI b k) (by omega) (by decide) (bitI_lt _ _)
  rw [bitI_odd, pw_add, Nat.xor_assoc] at this
  exact this
theorem row_end (a b : List UInt8) (i : Nat) (hb : b.length = 16) (h : bitI a i ≠ 0) : actN (bigN a) (bigN b) i ^^^ actN (bigN b) (pw i) 128 = actN (bigN a) (bigN b) (i + 1) := by
  have h1 : bitV (bigN a) i = true := by
    cases h2 : bitV (bigN a) i
    · exact absurd ((bitI_zero a i).2 h2) h
    · rfl
  rw [show actN (bigN a) (bigN b) (i + 1) = actN (bigN a) (bigN b) i ^^^ sel (bitV (bigN a) i) (upN (bigN b) i) from rfl, h1, sel_true]
  congr 1
  exact mulV_pw _ _ (big16_lt b hb)
theorem row_none (a b : List UInt8) (i : Nat) (h : bitI a i = 0) : actN (bigN a) (bigN b) i = actN (bigN a) (bigN b) (i + 1) := by
  rw [actN, (bitI_zero a i).1 h, sel_false, Nat.xor_zero]
/-- what is above, taken in -/
theorem PG.fold {p : List Nat} {i v b : Nat} (h : PG p (i + 1) v b) (h1 : 128 ≤ i) (h2 : i < 255) (ho : p.getD i 0 % 2 = 1) (p1 p2 p3 p4 : List Nat)
    (e1 : p1 = p.set (i - 128) (p.getD (i - 128) 0 + 1)) (e2 : p2 = p1.set (i - 127) (p1.getD (i - 127) 0 + 1)) (e3 : p3 = p2.set (i - 126) (p2.getD (i - 126) 0 + 1)) (e4 : p4 = p3.set (i - 121) (p3.getD (i - 121) 0 + 1)) : PG p4 i v (b + 4) := by
  have h0 : PG p i (evF p i) b := ⟨h.len, h.bd, rfl⟩
  have k4 := (((h0.inc (i - 128) (by omega) (by omega)).inc (i - 127) (by omega) (by omega)).inc (i - 126) (by omega) (by omega)).inc (i - 121) (by omega) (by omega)
  rw [← e1, ← e2, ← e3, ← e4] at k4
  refine ⟨k4.len, k4.bd, k4.ev.trans ?_⟩
  have hv := h.ev
  rw [evF, oddB_yes ho, sel_true, pw_over i h1] at hv
  rw [← hv]
  simp only [Nat.xor_assoc]
theorem PG.skip {p : List Nat} {i v b : Nat} (h : PG p (i + 1) v b) (ho : ¬ p.getD i 0 % 2 = 1) : PG p i v b := by
  refine ⟨h.len, h.bd, ?_⟩
  have hv := h.ev
  rw [evF, oddB_no ho, sel_false, Nat.xor_zero] at hv
  exact hv
theorem evF_lt (p : List Nat) (n : Nat) : evF p n < 2 ^ 128 := by
  induction n with
  | zero => rw [evF]; decide
  | succ n ih => exact Nat.xor_lt_two_pow ih (sel_lt _ (pw_lt _))
theorem evF_bit (p : List Nat) (n j : Nat) (hn : n ≤ 128) (hj : j < 128) (h : n ≤ j) : bitV (evF p n) j = false := by
  induction n with
  | zero => simp [evF, bitV]
  | succ n ih => rw [evF, bitV_xor, ih (by omega) (by omega), bitV_sel, bitV_pw n j (by omega) hj]; simp; omega
theorem or_bit (x : UInt8) (k : Nat) (hk : k ≤ 7) (j : Nat) (hj : j ≤ 7) : (x ||| UInt8.ofNat (2 ^ k)).toNat.testBit j = (x.toNat.testBit j || decide (k = j)) := by
  have h2 : (UInt8.ofNat (2 ^ k)).toNat = 2 ^ k := by
    rw [UInt8.toNat_ofNat']; exact Nat.mod_eq_of_lt (Nat.pow_lt_pow_right (by decide) (by omega))
  rw [UInt8.toNat_or, Nat.testBit_or, h2, Nat.testBit_two_pow]
theorem blk_or (p : List Nat) (i : Nat) (hi : i < 128) (ho : p.getD i 0 % 2 = 1) : (blkL (evF p i)).set (i / 8) ((blkL (evF p i)).getD (i / 8) 0 ||| UInt8.ofNat (2 ^ (7 - i % 8))) = blkL (evF p (i + 1)) := by
  have hl : ((blkL (evF p i)).set (i / 8) ((blkL (evF p i)).getD (i / 8) 0 ||| UInt8.ofNat (2 ^ (7 - i % 8)))).length = 16 := by rw [List.length_set, blkL_len]
  rw [← blk_big _ hl]
  congr 1
  refine eq_of_bits _ _ (big16_lt _ hl) (evF_lt _ _) fun j hj => ?_
  rw [bit_byte _ hl j hj, evF, oddB_yes ho, sel_true, bitV_xor, bitV_pw i j hi hj]
  have hb := bit_byte (blkL (evF p i)) (blkL_len _) j hj
  rw [bigN_blk _ (evF_lt _ _)] at hb
  have hi8 : i / 8 < (blkL (evF p i)).length := by rw [blkL_len]; omega
  have hg : ((blkL (evF p i)).set (i / 8) ((blkL (evF p i)).getD (i / 8) 0 ||| UInt8.ofNat (2 ^ (7 - i % 8)))).getD (j / 8) 0 = if i / 8 = j / 8 then (blkL (evF p i)).getD (i / 8) 0 ||| UInt8.ofNat (2 ^ (7 - i % 8)) else (blkL (evF p i)).getD (j / 8) 0 := by
    rw [List.getD, List.getElem?_set]
    split
    · simp [hi8]
    · rfl
  rw [hg, hb]
  by_cases e : i / 8 = j / 8
  · rw [if_pos e, or_bit _ _ (by omega) _ (by omega), e]
    by_cases e2 : i = j
    · subst e2
      have h0 := evF_bit p i i (by omega) hi (Nat.le_refl _)
      rw [hb] at h0
      rw [h0]; simp
    · rw [decide_eq_false e2, decide_eq_false (by omega)]; simp
  · rw [if_neg e, decide_eq_false (by intro h; exact e (by rw [h]))]; simp
theorem blk_skip (p : List Nat) (i : Nat) (ho : ¬ p.getD i 0 % 2 = 1) : blkL (evF p i) = blkL (evF p (i + 1)) := by
  rw [evF, oddB_no ho, sel_false, Nat.xor_zero]
set_option maxHeartbeats 2000000 in
theorem refAt_any (b : List UInt8) (i : Nat) (w : World) (hb : b.length = 16) (hi : i < 128) :
    Calls Try.prog 73 #[.agg (b.map bv).toArray, .int .i64 (i : Int)] w fun e w' => e = .returned (.int .i64 (bitI b i : Int)) ∧ Below w.heap.size w w' := by
  obtain ⟨x, hx⟩ : ∃ x, b.getD (i / 8) 0 = x := ⟨_, rfl⟩
  obtain ⟨j, hj⟩ : ∃ j, j = i / 8 := ⟨_, rfl⟩
  obtain ⟨k, hk⟩ : ∃ k, k = 7 - i % 8 := ⟨_, rfl⟩
  obtain ⟨y, hy⟩ : ∃ y, y = x.toNat / 2 ^ k := ⟨_, rfl⟩
  have hy2 : y % 2 = bitI b i := by
    have h := bit_byte b hb i hi
    rw [hx, ← hk, Nat.testBit_eq_decide_div_mod_eq, ← hy] at h
    unfold bitI
    rw [h]
    by_cases h1 : y % 2 = 1
    · simp [h1]
    · simp [h1]; omega
  have hyl : y < 256 := by rw [hy]; exact Nat.lt_of_le_of_lt (Nat.div_le_self _ _) x.toNat_lt
  have hj16 : (j : Int) < 16 := by omega
  have hk7 : k ≤ 7 := by omega
  have d1 : (i : Int) / 8 = (j : Int) := by omega
  have d2 : 7 - (i : Int) % 8 = (k : Int) := by omega
  have d3 : (x.toNat : Int) / 2 ^ k = (y : Int) := by rw [hy]; simp
  have d4 : (y : Int) % 2 = (bitI b i : Int) := by rw [← hy2]; omega
  have hbl := bitI_lt b i
  have c0 : (w.alloc (.cells (b.map bv).toArray 33)).cell? ⟨w.heap.size, j, none⟩ = some (.int .u8 (x.toNat : Int)) := by
    rw [cell_of_heap (heap_alloc_new' w _), List.getElem?_map, ← hx, hj]
    simp [List.getD, hb, show i / 8 < 16 by omega, bv]
  generalize bitI b i = t at d4 hbl
  clear hx hk hj hy hy2 hi
  go_enter Try.func73, Try.ntmps73
  go_wp2
  go_ret
  exact ⟨by rw [← d4]; rfl, (Below.refl _ _).alloc (Nat.le_refl _) _⟩
end Go.Proofs.Ytkgbhlppadpdfaa

/- palfreyref06.Mul. -/
namespace Go.Proofs.Ytkgbhlppadpdfaa
open Go.RowKit
set_option maxRecDepth 100000
set_option linter.unusedVariables false
set_option linter.unusedSimpArgs false
theorem but_range {g j g' : Nat} {w W : World} {cs : List Value} {t : TypeId} {fr : Nat × Nat} (h : But g j w W) (hn : g' ≠ g) (hh : w.heap[g']? = some (.cells cs.toArray t fr)) : W.rangeAt g' 0 cs := fun k v hv => by
  rw [Nat.zero_add]
  exact (h.2 g' k (lt_of_heap hh) (fun e => hn e.1)).trans ((cell_of_heap hh k).trans hv)
theorem g_or8 (y z : UInt8) : bits .or .u8 (y.toNat : Int) (z.toNat : Int) = ((y ||| z).toNat : Int) := by
  rw [u8_or_nat _ _ y.toNat_lt z.toNat_lt, UInt8.toNat_or]
theorem g_sInt : (Try.prog.info? 3).map (·.size) = some 1 := by kernel_rfl
theorem g_heap4 (w : World) (o1 o2 o3 o4 : Obj) : ∀ W, (((w.alloc o1).alloc o2).alloc o3).alloc o4 = W → W.heap[w.heap.size]? = some o1 ∧ W.heap[w.heap.size + 1]? = some o2 ∧ W.heap[w.heap.size + 2]? = some o3 ∧ W.heap[w.heap.size + 3]? = some o4 ∧ Below w.heap.size w W := by
  rintro W rfl
  have a1 := heap_alloc_new' w o1
  have a2 := heap_alloc_new' (w.alloc o1) o2
  have a3 := heap_alloc_new' ((w.alloc o1).alloc o2) o3
  have a4 := heap_alloc_new' (((w.alloc o1).alloc o2).alloc o3) o4
  simp only [World.size_alloc] at a2 a3 a4
  have b1 := Below.heap_alloc (w.alloc o1) o2
  have b2 := Below.heap_alloc ((w.alloc o1).alloc o2) o3
  have b3 := Below.heap_alloc (((w.alloc o1).alloc o2).alloc o3) o4
  simp only [World.size_alloc] at b1 b2 b3
  refine ⟨?_, ?_, ?_, a4, ((((Below.refl _ w).alloc (Nat.le_refl _) o1).alloc (by simp) o2).alloc (by simp; omega) o3).alloc (by simp; omega) o4⟩
  · rw [b3 _ (by omega), b2 _ (by omega), b1 _ (by omega)]; exact a1
  · rw [b3 _ (by omega), b2 _ (by omega)]; exact a2
  · rw [b3 _ (by omega)]; exact a3
def gz256 : List Nat := List.replicate 256 0
theorem gz256_init : PG gz256 255 0 0 := PG.init
theorem gz256_val (W : World) : (zeroValue 106).run Try.prog W = .ok (.agg (gz256.map ivG).toArray) W := by kernel_rfl
theorem bitI_def (b : List UInt8) (i : Nat) : bitI b i < 2 := bitI_lt b i
set_option maxHeartbeats 4000000 in
theorem refGmul_any (a b : List UInt8) (w : World) (ha : a.length = 16) (hb : b.length = 16) :
    Calls Try.prog 61 #[.agg (a.map bv).toArray, .agg (b.map bv).toArray] w fun e w' => e = .returned (.agg ((gmulL a b).map bv).toArray) ∧ Below w.heap.size w w' := by
  have HA := Lib.hid ha; have HB := Lib.hid hb
  have hz := gz256_val
  have HZ0 := Lib.hid gz256_init
  generalize gz256 = Z at hz HZ0
  have hz16 : ∀ W, (zeroValue 33).run Try.prog W = .ok (.agg ((blkL 0).map bv).toArray) W := fun W => by kernel_rfl
  have HB0 : Hid ((blkL 0).length = 16) := blkL_len 0
  have hi16a : Hid ((Try.prog.info? 33).map (·.size) = some (a.map bv).length) := i16l a ha
  have hi16b : Hid ((Try.prog.info? 33).map (·.size) = some (b.map bv).length) := i16l b hb
  have AT := Lib.hid (fun i W hi => refAt_any a i W ha hi)
  have BT := Lib.hid (fun k W hk => refAt_any b k W hb hk)
  have HRES : Hid (gmulL a b = blkL (actN (bigN a) (bigN b) 128)) := rfl
  obtain ⟨V, HV⟩ : ∃ V, Hid (actN (bigN a) (bigN b) 128 = V) := ⟨_, rfl⟩
  rw [HRES.out, HV.out]
  clear ha hb HRES
  go_enter Try.func61, Try.ntmps61
  go_wp2_with fail
  generalize hV : (((w.alloc _).alloc _).alloc _).alloc _ = W0
  obtain ⟨f2, f3, f4, f5, fb⟩ := g_heap4 w _ _ _ _ _ hV
  have F2 : Hid (W0.heap[w.heap.size]? = some (.cells (a.map bv).toArray 33 (0, 0))) := f2
  have F3 : Hid (W0.heap[w.heap.size + 1]? = some (.cells (b.map bv).toArray 33 (0, 0))) := f3
  have F4 : Hid (W0.heap[w.heap.size + 2]? = some (.cells ((blkL 0).map bv).toArray 33 (0, 0))) := f4
  have F5 : Hid (W0.heap[w.heap.size + 3]? = some (.cells (Z.map ivG).toArray 106 (0, 0))) := f5
  have FB := Lib.hid fb
  clear hV f2 f3 f4 f5 fb
  obtain ⟨g5, hg5⟩ : ∃ g, w.heap.size + 3 = g := ⟨_, rfl⟩
  rw [hg5] at F5 ⊢
  have HG5 := Lib.hid hg5
  clear hg5
  go_loopw [6] (fun vi wr => ∃ (i : Nat) (p : List Nat) (c : Nat), i ≤ 128 ∧ vi = .int .i64 (i : Int) ∧ Hid (PG p 255 (actN (bigN a) (bigN b) i) c) ∧ Hid (c ≤ 128 * i) ∧ Hid (wr.heap[g5]? = some (.cells (p.map ivG).toArray 106 (0, 0))) ∧ Hid (Below g5 W0 wr)) (fun i _ => 128 - (intOf i).toNat)
  case atStart => exact ⟨0, Z, 0, by omega, rfl, HZ0, Nat.le_refl _, F5, Below.refl _ _⟩
  case round =>
    clear F5 HZ0
    obtain ⟨i, p, c, hi, rfl, HP, HC, H5, HBW⟩ := hrel
    have N2 : Hid (wr.heap[w.heap.size]? = _) := (HBW.out.block _ (by have := HG5.out; omega)).trans F2.out
    have N3 : Hid (wr.heap[w.heap.size + 1]? = _) := (HBW.out.block _ (by have := HG5.out; omega)).trans F3.out
    by_cases hlt : i < 128
    · have q1 : (i : Int) < 128 := by omega
      have HAT := Lib.hid (AT.out i wr hlt)
      obtain ⟨t, ht⟩ : ∃ t, bitI a i = t := ⟨_, rfl⟩
      rw [ht] at HAT
      have HT := Lib.hid ht
      clear ht
      go_wp2_with (first
        | (refine wpList_ld rfl 33 (.tmp 2) rfl (load_arr arr16B rfl hi16a.out N2.out) ?_)
        | fail)
      refine HAT.out.mono ?_
      rintro e w1 ⟨rfl, hb1⟩
      have P5 := Lib.hid ((hb1.block _ (lt_of_heap H5.out)).trans H5.out)
      have PB : Hid (Below g5 W0 w1) := HBW.out.trans (hb1.mono (Nat.le_of_lt (lt_of_heap H5.out)))
      clear hb1 H5 HBW N2 N3 HAT
      by_cases h0 : t = 0
      · have e1 : ((t : Int) == 0) = true := by simp [h0]
        have HRN := Lib.hid (row_none a b i (by rw [HT.out]; exact h0))
        go_wp2_with fail
        go_roundw
        case rel => exact ⟨i + 1, p, c, by omega, by go_num, by rw [← HRN.out]; exact HP, by have := HC.out; show _ ≤ _; omega, P5, PB⟩
        case measure => simp [intOf]; omega
      · have e1 : ((t : Int) == 0) = false := by simp; omega
        have HRE := Lib.hid (row_end a b i HB.out (by rw [HT.out]; exact h0))
        go_wp2_with fail
        obtain ⟨wo, hwo⟩ : ∃ x, x = w1 := ⟨_, rfl⟩
        subst hwo
        go_loopw [7] (fun vk wr => ∃ (k : Nat) (p : List Nat) (c : Nat), k ≤ 128 ∧ vk = .int .i64 (k : Int) ∧ Hid (PG p 255 (actN (bigN a) (bigN b) i ^^^ actN (bigN b) (pw i) k) c) ∧ Hid (c ≤ 128 * i + k) ∧ Hid (wr.heap[g5]? = some (.cells (p.map ivG).toArray 106 (0, 0))) ∧ Hid (Below g5 W0 wr)) (fun k _ => 128 - (intOf k).toNat)
        case atStart => exact ⟨0, p, c, by omega, rfl, by rw [show actN (bigN b) (pw i) 0 = 0 from rfl, Nat.xor_zero]; exact HP, HC, P5, PB⟩
        case round =>
          clear P5 PB HP HC
          obtain ⟨k, p, c, hk, rfl, HP, HC, H5, HBW⟩ := hrel
          have N3 : Hid (wr.heap[w.heap.size + 1]? = _) := (HBW.out.block _ (by have := HG5.out; omega)).trans F3.out
          by_cases hltk : k < 128
          · have q2 : (k : Int) < 128 := by omega
            have HPR := PG.row (B := 0) b HP.out hlt hltk
            obtain ⟨q, hq⟩ : ∃ q, q = i + k := ⟨_, rfl⟩
            rw [← hq] at HPR
            obtain ⟨x, hx⟩ : ∃ x, p.getD q 0 = x := ⟨_, rfl⟩
            obtain ⟨u, hu⟩ : ∃ u, bitI b k = u := ⟨_, rfl⟩
            have hbd := HP.out.bd q
            have hul := bitI_lt b k
            have HBT := Lib.hid (fun W => BT.out k W hltk)
            rw [hu] at HBT hul
            rw [hx, hu] at HPR
            rw [hx] at hbd
            obtain ⟨x2, hx2⟩ : ∃ y, y = x + u := ⟨_, rfl⟩
            rw [← hx2] at HPR
            have o1 : IntKind.i64.wrap ((i : Int) + (k : Int)) = (q : Int) := by rw [IntKind.wrap_i64]; omega
            have o2 : IntKind.i64.wrap ((x : Int) + (u : Int)) = (x2 : Int) := by have := HC.out; rw [IntKind.wrap_i64]; omega
            have q3 : (q : Int) < 256 := by omega
            have HPR := Lib.hid HPR
            have c5 := icellG H5.out q (by rw [HP.out.len]; omega)
            rw [hx] at c5
            have C5 : Hid (wr.drew.cell? ⟨g5, q, none⟩ = some (.int .i64 (x : Int))) := c5
            have K5 : Hid (wr.drew.heap[g5]? = _) := H5.out
            have M3 : Hid (wr.drew.heap[w.heap.size + 1]? = _) := N3.out
            have KB : Hid (Below g5 W0 wr.drew) := HBW.out.drew
            have HX : Hid (But g5 q wr.drew wr.drew) := Pre.refl _
            have hne : Hid (w.heap.size + 1 ≠ g5) := by have := HG5.out; show _ ≠ _; omega
            have HC2 : Hid (c + 1 ≤ 128 * i + (k + 1)) := by have := HC.out; show _ ≤ _; omega
            clear c5 hq hx hu hx2 hbd hul H5 N3 HBW HP HC
            go_upto_region 9 with (fail)
            refine regS_start (But g5 q) (by kernel_rfl) ?_
            try simp only [Act.put, List.setIfInBounds_toArray, List.set_cons_zero, List.set_cons_succ]
            generalize wr.drew = W1 at C5 K5 M3 KB HX ⊢
            have c5 := C5.out
            refine regS_take (v := ?_) 0 (some 23) rfl rfl (by kernel_rfl) (by kernel_rfl) (by kernel_rfl) (fun _ _ _ h => h) (by rfl) (fun W hW => ?_) ?_
            rotate_left
            · (go_simp; try rfl)
            simp only [Act.put, List.setIfInBounds_toArray, List.set_cons_zero, List.set_cons_succ]
            refine regS_take (v := ?_) 1 (some 24) rfl rfl (by kernel_rfl) (by kernel_rfl) (by kernel_rfl) (fun _ _ _ h => h) (by rfl) (fun W hW => ?_) ?_
            rotate_left
            · (go_simp; try rfl)
            simp only [Act.put, List.setIfInBounds_toArray, List.set_cons_zero, List.set_cons_succ]
            refine regS_take (v := ?_) 2 (some 25) rfl rfl (by kernel_rfl) (by kernel_rfl) (by kernel_rfl) (fun _ _ _ h => h) (by rfl) (fun W hW => ?_) ?_
            rotate_left
            · (go_simp; try rfl)
            simp only [Act.put, List.setIfInBounds_toArray, List.set_cons_zero, List.set_cons_succ]
            refine regS_take (v := ?_) 3 (some 26) rfl rfl (by kernel_rfl) (by kernel_rfl) (by kernel_rfl) (fun _ _ _ h => h) (by rfl) (fun W hW => ?_) ?_
            rotate_left
            · (go_simp; try rfl)
            simp only [Act.put, List.setIfInBounds_toArray, List.set_cons_zero, List.set_cons_succ]
            refine regS_load 5 (some 28) (fun W hW => run_loadAt_mid W (w.heap.size + 1) 0 33 (b.map bv) _ (but_range hW hne.out M3.out) arr16B rfl hi16b.out) rfl rfl rfl rfl (by kernel_rfl) (by kernel_rfl) (by kernel_rfl) (fun _ _ _ h => h) (by rfl) ?_
            simp only [Act.put, List.setIfInBounds_toArray, List.set_cons_zero, List.set_cons_succ]
            refine regS_take (v := ?_) 6 (some 29) rfl rfl (by kernel_rfl) (by kernel_rfl) (by kernel_rfl) (fun _ _ _ h => h) (by rfl) (fun W hW => ?_) ?_
            rotate_left
            · (go_simp; try rfl)
            simp only [Act.put, List.setIfInBounds_toArray, List.set_cons_zero, List.set_cons_succ]
            refine regS_eff2 4 7 rfl rfl (by kernel_rfl) (fun K hK => ?_) (fun K hK => ?_)
            · skip
              go_simp
              refine hK.out _ _ (Pre.refl _) ?_
              clear hK K
              try simp only [Act.put, List.setIfInBounds_toArray, List.set_cons_zero, List.set_cons_succ]
              refine regS_eff 7 rfl (by kernel_rfl) (fun K hK => ?_)
              go_simp
              refine (HBT.out W1).mono ?_
              rintro e W7 ⟨rfl, hb7⟩
              have C7 := Lib.hid ((hb7.cell (lt_of_heap K5.out)).trans C5.out)
              have K7 := Lib.hid ((hb7.block _ (lt_of_heap K5.out)).trans K5.out)
              have KB7 : Hid (Below g5 W0 W7) := KB.out.trans (hb7.mono (Nat.le_of_lt (lt_of_heap K5.out)))
              have c5 := C7.out
              have hE : But g5 q W1 W7 := But.of_ext hb7
              clear hb7
              refine hK.out _ _ hE ?_
              have HX := Lib.hid (Pre.trans HX.out hE)
              clear hE hK K
              try simp only [Act.put, List.setIfInBounds_toArray, List.set_cons_zero, List.set_cons_succ]
              refine regS_take (v := ?_) 8 (some 31) rfl rfl (by kernel_rfl) (by kernel_rfl) (by kernel_rfl) (fun _ _ _ h => h) (by rfl) (fun W hW => ?_) ?_
              rotate_left
              · (go_simp; try rfl)
              simp only [Act.put, List.setIfInBounds_toArray, List.set_cons_zero, List.set_cons_succ]
              refine regS_take (v := ?_) 9 (some 32) rfl rfl (by kernel_rfl) (by kernel_rfl) (by kernel_rfl) (fun _ _ _ h => h) (by rfl) (fun W hW => ?_) ?_
              rotate_left
              · (go_simp; try rfl)
              simp only [Act.put, List.setIfInBounds_toArray, List.set_cons_zero, List.set_cons_succ]
              refine regS_eff 10 rfl (by kernel_rfl) (fun K hK => ?_)
              refine step_st1 rfl 3 (.tmp 32) (.tmp 31) rfl (store_cell (k := .i64) Try.underlying3 g_sInt (w := W7) C7.out (frozen_of_heap (w := W7) K7.out _)) ?_
              have hE : But g5 q W7 (W7.setCell ⟨g5, q, none⟩ (.int .i64 (x2 : Int))) := But.set _
              refine hK.out _ _ hE ?_
              have HX := Lib.hid (Pre.trans HX.out hE)
              clear hE hK K
              try simp only [Act.put, List.setIfInBounds_toArray, List.set_cons_zero, List.set_cons_succ]
              refine regS_done (by kernel_rfl) ?_
              go_wp2
              go_roundw
              case rel => exact ⟨k + 1, p.set q x2, c + 1, by omega, by go_num, HPR, HC2, isetG K7.out q x2, KB7.out.setCell (Nat.le_refl _) _⟩
              case measure => simp [intOf]; omega
            · skip
              go_simp
              refine (HBT.out W1).mono ?_
              rintro e W7 ⟨rfl, hb7⟩
              have C7 := Lib.hid ((hb7.cell (lt_of_heap K5.out)).trans C5.out)
              have K7 := Lib.hid ((hb7.block _ (lt_of_heap K5.out)).trans K5.out)
              have KB7 : Hid (Below g5 W0 W7) := KB.out.trans (hb7.mono (Nat.le_of_lt (lt_of_heap K5.out)))
              have c5 := C7.out
              have hE : But g5 q W1 W7 := But.of_ext hb7
              clear hb7
              refine hK.out _ _ hE ?_
              have HX := Lib.hid (Pre.trans HX.out hE)
              clear hE hK K
              try simp only [Act.put, List.setIfInBounds_toArray, List.set_cons_zero, List.set_cons_succ]
              refine regS_eff 4 rfl (by kernel_rfl) (fun K hK => ?_)
              go_simp
              refine hK.out _ _ (Pre.refl _) ?_
              clear hK K
              try simp only [Act.put, List.setIfInBounds_toArray, List.set_cons_zero, List.set_cons_succ]
              refine regS_take (v := ?_) 8 (some 31) rfl rfl (by kernel_rfl) (by kernel_rfl) (by kernel_rfl) (fun _ _ _ h => h) (by rfl) (fun W hW => ?_) ?_
              rotate_left
              · (go_simp; try rfl)
              simp only [Act.put, List.setIfInBounds_toArray, List.set_cons_zero, List.set_cons_succ]
              refine regS_take (v := ?_) 9 (some 32) rfl rfl (by kernel_rfl) (by kernel_rfl) (by kernel_rfl) (fun _ _ _ h => h) (by rfl) (fun W hW => ?_) ?_
              rotate_left
              · (go_simp; try rfl)
              simp only [Act.put, List.setIfInBounds_toArray, List.set_cons_zero, List.set_cons_succ]
              refine regS_eff 10 rfl (by kernel_rfl) (fun K hK => ?_)
              refine step_st1 rfl 3 (.tmp 32) (.tmp 31) rfl (store_cell (k := .i64) Try.underlying3 g_sInt (w := W7) C7.out (frozen_of_heap (w := W7) K7.out _)) ?_
              have hE : But g5 q W7 (W7.setCell ⟨g5, q, none⟩ (.int .i64 (x2 : Int))) := But.set _
              refine hK.out _ _ hE ?_
              have HX := Lib.hid (Pre.trans HX.out hE)
              clear hE hK K
              try simp only [Act.put, List.setIfInBounds_toArray, List.set_cons_zero, List.set_cons_succ]
              refine regS_done (by kernel_rfl) ?_
              go_wp2
              go_roundw
              case rel => exact ⟨k + 1, p.set q x2, c + 1, by omega, by go_num, HPR, HC2, isetG K7.out q x2, KB7.out.setCell (Nat.le_refl _) _⟩
              case measure => simp [intOf]; omega
          · have q2 : ¬ ((k : Int) < 128) := by omega
            have hk8 : k = 128 := by omega
            subst hk8
            rw [HRE.out] at HP
            go_wp2_with fail
            go_roundw
            case rel => exact ⟨i + 1, p, c, by omega, by go_num, HP, by have := HC.out; show _ ≤ _; omega, H5, HBW⟩
            case measure => simp [intOf]; omega
    · have q1 : ¬ ((i : Int) < 128) := by omega
      have hi8 : i = 128 := by omega
      have HP1 : Hid (PG p 255 V c) := by rw [← HV.out, ← hi8]; exact HP.out
      have HC1 : Hid (c ≤ 16384) := by have := HC.out; show _ ≤ _; omega
      clear HP HC N2 N3 hi hlt AT BT HA HB hi8
      obtain ⟨wo, hwo⟩ : ∃ x, x = wr := ⟨_, rfl⟩
      subst hwo
      go_wp2_with fail
      go_loopw [8] (fun vi wr => ∃ (i : Nat) (p : List Nat) (c : Nat), 127 ≤ i ∧ i ≤ 254 ∧ vi = .int .i64 (i : Int) ∧ Hid (PG p (i + 1) V c) ∧ Hid (c + 4 * i ≤ 20000) ∧ Hid (wr.heap[g5]? = some (.cells (p.map ivG).toArray 106 (0, 0))) ∧ Hid (Below g5 W0 wr)) (fun i _ => (intOf i).toNat - 127)
      case atStart => exact ⟨254, p, c, by omega, by omega, rfl, HP1, by have := HC1.out; show _ ≤ _; omega, H5, HBW⟩
      case round =>
        clear H5 HBW HP1 HC1
        obtain ⟨i, p, c, hi1, hi2, rfl, HP, HC, H5, HBW⟩ := hrel
        by_cases hlt : 128 ≤ i
        · have q1 : (128 : Int) ≤ (i : Int) := by omega
          obtain ⟨x, hx⟩ : ∃ x, p.getD i 0 = x := ⟨_, rfl⟩
          have HX := Lib.hid hx
          have c5 := icellG H5.out i (by rw [HP.out.len]; omega)
          rw [hx] at c5
          have q2 : (i : Int) < 256 := by omega
          clear hx
          by_cases ho : x % 2 = 1
          · have t1 : ((x : Int) % 2 == 1) = true := by simp; omega
            have hfold := HP.out.fold hlt (by omega) (by rw [HX.out]; exact ho)
            obtain ⟨n1, hn1⟩ : ∃ n, n = i - 128 := ⟨_, rfl⟩
            obtain ⟨n2, hn2⟩ : ∃ n, n = i - 127 := ⟨_, rfl⟩
            obtain ⟨n3, hn3⟩ : ∃ n, n = i - 126 := ⟨_, rfl⟩
            obtain ⟨n4, hn4⟩ : ∃ n, n = i - 121 := ⟨_, rfl⟩
            rw [← hn1, ← hn2, ← hn3, ← hn4] at hfold
            obtain ⟨x1, hx1⟩ : ∃ x1, p.getD n1 0 = x1 := ⟨_, rfl⟩
            obtain ⟨p1, hp1⟩ : ∃ p1, p1 = p.set n1 (x1 + 1) := ⟨_, rfl⟩
            obtain ⟨x2, hx2⟩ : ∃ x2, p1.getD n2 0 = x2 := ⟨_, rfl⟩
            obtain ⟨p2, hp2⟩ : ∃ p2, p2 = p1.set n2 (x2 + 1) := ⟨_, rfl⟩
            obtain ⟨x3, hx3⟩ : ∃ x3, p2.getD n3 0 = x3 := ⟨_, rfl⟩
            obtain ⟨p3, hp3⟩ : ∃ p3, p3 = p2.set n3 (x3 + 1) := ⟨_, rfl⟩
            obtain ⟨x4, hx4⟩ : ∃ x4, p3.getD n4 0 = x4 := ⟨_, rfl⟩
            obtain ⟨p4, hp4⟩ : ∃ p4, p4 = p3.set n4 (x4 + 1) := ⟨_, rfl⟩
            have HF := Lib.hid (hfold p1 p2 p3 p4 (by rw [hx1, hp1]) (by rw [hx2, hp2]) (by rw [hx3, hp3]) (by rw [hx4, hp4]))
            have L0 := Lib.hid HP.out.len
            have L1 : Hid (p1.length = 256) := by show _ = _; rw [hp1, List.length_set]; exact L0.out
            have L2 : Hid (p2.length = 256) := by show _ = _; rw [hp2, List.length_set]; exact L1.out
            have L3 : Hid (p3.length = 256) := by show _ = _; rw [hp3, List.length_set]; exact L2.out
            have b1 : x1 ≤ 20000 := by have h1 := HP.out.bd n1; rw [hx1] at h1; have := HC.out; omega
            have b2 : x2 ≤ 20001 := by
              have h1 := HP.out.bd n2; have h2 := HC.out
              rw [hp1, getD_setG _ _ _ _ (by rw [L0.out]; omega)] at hx2
              split at hx2 <;> omega
            have b3 : x3 ≤ 20002 := by
              have h1 := HP.out.bd n3; have h2 := HC.out
              rw [hp2, getD_setG _ _ _ _ (by rw [L1.out]; omega), hp1, getD_setG _ _ _ _ (by rw [L0.out]; omega)] at hx3
              split at hx3
              · omega
              · split at hx3 <;> omega
            have b4 : x4 ≤ 20003 := by
              have h1 := HP.out.bd n4; have h2 := HC.out
              rw [hp3, getD_setG _ _ _ _ (by rw [L2.out]; omega), hp2, getD_setG _ _ _ _ (by rw [L1.out]; omega), hp1, getD_setG _ _ _ _ (by rw [L0.out]; omega)] at hx4
              split at hx4
              · omega
              · split at hx4
                · omega
                · split at hx4 <;> omega
            have E1 := Lib.hid hp1; have E2 := Lib.hid hp2; have E3 := Lib.hid hp3; have E4 := Lib.hid hp4
            have X1 := Lib.hid hx1; have X2 := Lib.hid hx2; have X3 := Lib.hid hx3; have X4 := Lib.hid hx4
            have H0 := H5
            have B0 := HBW
            have e1 : (i : Int) - 128 = (n1 : Int) := by omega
            have e2 : (i : Int) - 127 = (n2 : Int) := by omega
            have e3 : (i : Int) - 126 = (n3 : Int) := by omega
            have e4 : (i : Int) - 121 = (n4 : Int) := by omega
            have r1 : (n1 : Int) < 256 := by omega
            have r2 : (n2 : Int) < 256 := by omega
            have r3 : (n3 : Int) < 256 := by omega
            have r4 : (n4 : Int) < 256 := by omega
            clear hfold hx1 hx2 hx3 hx4 hp1 hp2 hp3 hp4 hn1 hn2 hn3 hn4 H5 HBW
            have d1 := icellG H0.out n1 (by rw [L0.out]; omega)
            rw [X1.out] at d1
            have fz := frozen_of_heap H0.out n1
            go_upto_region 15 with (fail)
            generalize hV : World.setCell _ _ _ = V1
            have H1 : Hid (V1.heap[g5]? = some (.cells (p1.map ivG).toArray 106 (0, 0))) := by show _ = _; rw [← hV, E1.out]; exact isetG H0.out n1 (x1 + 1)
            have B1 : Hid (Below g5 W0 V1) := by rw [← hV]; exact B0.out.setCell (Nat.le_refl _) _
            clear hV c5 d1 fz H0 B0
            have d1 := icellG H1.out n2 (by rw [L1.out]; omega)
            rw [X2.out] at d1
            have fz := frozen_of_heap H1.out n2
            go_upto_region 16 with (fail)
            generalize hV : World.setCell _ _ _ = V2
            have H2 : Hid (V2.heap[g5]? = some (.cells (p2.map ivG).toArray 106 (0, 0))) := by show _ = _; rw [← hV, E2.out]; exact isetG H1.out n2 (x2 + 1)
            have B2 : Hid (Below g5 W0 V2) := by rw [← hV]; exact B1.out.setCell (Nat.le_refl _) _
            clear hV d1 fz H1 B1
            have d1 := icellG H2.out n3 (by rw [L2.out]; omega)
            rw [X3.out] at d1
            have fz := frozen_of_heap H2.out n3
            go_upto_region 17 with (fail)
            generalize hV : World.setCell _ _ _ = V3
            have H3 : Hid (V3.heap[g5]? = some (.cells (p3.map ivG).toArray 106 (0, 0))) := by show _ = _; rw [← hV, E3.out]; exact isetG H2.out n3 (x3 + 1)
            have B3 : Hid (Below g5 W0 V3) := by rw [← hV]; exact B2.out.setCell (Nat.le_refl _) _
            clear hV d1 fz H2 B2
            have d1 := icellG H3.out n4 (by rw [L3.out]; omega)
            rw [X4.out] at d1
            have fz := frozen_of_heap H3.out n4
            obtain ⟨j, hj⟩ : ∃ j, i = j + 1 := ⟨i - 1, by omega⟩
            have HFJ : Hid (PG p4 (j + 1) V (c + 4)) := by rw [← hj]; exact HF.out
            have HCJ : Hid (c + 4 + 4 * j ≤ 20000) := by have := HC.out; show _ ≤ _; omega
            have HJ := Lib.hid hj
            clear hj
            go_wp2_with fail
            go_roundw
            case rel => exact ⟨j, p4, c + 4, by have := HJ.out; omega, by have := HJ.out; omega, by rw [show (j : Int) = (i : Int) - 1 by have := HJ.out; omega], HFJ, HCJ, by rw [E4.out]; exact isetG H3.out n4 (x4 + 1), B3.out.setCell (Nat.le_refl _) _⟩
            case measure => simp [intOf]; omega
          · have t1 : ((x : Int) % 2 == 1) = false := by simp; omega
            obtain ⟨j, hj⟩ : ∃ j, i = j + 1 := ⟨i - 1, by omega⟩
            have HFJ : Hid (PG p (j + 1) V c) := by rw [← hj]; exact HP.out.skip (by rw [HX.out]; exact ho)
            have HCJ : Hid (c + 4 * j ≤ 20000) := by have := HC.out; show _ ≤ _; omega
            have HJ := Lib.hid hj
            clear hj
            go_wp2_with fail
            go_roundw
            case rel => exact ⟨j, p, c, by have := HJ.out; omega, by have := HJ.out; omega, by rw [show (j : Int) = (i : Int) - 1 by have := HJ.out; omega], HFJ, HCJ, H5, HBW⟩
            case measure => simp [intOf]; omega
        · have q1 : ¬ ((128 : Int) ≤ (i : Int)) := by omega
          have hi7 : i = 127 := by omega
          have HEV : Hid (evF p 128 = V) := by have := HP.out.ev; rw [hi7] at this; exact this
          have HPL := Lib.hid HP.out.len
          have N4 : Hid (wr.heap[w.heap.size + 2]? = _) := (HBW.out.block _ (by have := HG5.out; omega)).trans F4.out
          have NB : Hid (Below w.heap.size w wr) := FB.out.trans (HBW.out.mono (by have := HG5.out; omega))
          clear HP HC HBW hi1 hi2 hlt hi7 F2 F3 F4 FB
          obtain ⟨wp, hwp⟩ : ∃ x, x = wr := ⟨_, rfl⟩
          subst hwp
          go_wp2_with fail
          generalize hV : wp.alloc _ = W9
          have M9 : Hid (W9.heap[wp.heap.size]? = some (.cells ((blkL 0).map bv).toArray 33 (0, 0))) := heap_of_alloc hV
          have M5 := Lib.hid (((below_of_alloc hV (Nat.le_refl _)).block _ (lt_of_heap H5.out)).trans H5.out)
          have M4 := Lib.hid (((below_of_alloc hV (Nat.le_refl _)).block _ (lt_of_heap N4.out)).trans N4.out)
          have MB := Lib.hid (NB.out.step (below_of_alloc hV (Nat.le_refl _)))
          have L5 := Lib.hid (lt_of_heap H5.out)
          have L4 := Lib.hid (lt_of_heap N4.out)
          have LW : Hid (w.heap.size ≤ wp.heap.size) := NB.out.size
          clear hV H5 N4 NB
          obtain ⟨g9, hg9⟩ : ∃ g, wp.heap.size = g := ⟨_, rfl⟩
          rw [hg9] at M9 L5 L4 LW ⊢
          clear hg9
          go_loopw [10] (fun vi wr => ∃ (i : Nat), i ≤ 128 ∧ vi = .int .i64 (i : Int) ∧ Hid (wr.heap[g9]? = some (.cells ((blkL (evF p i)).map bv).toArray 33 (0, 0))) ∧ Hid (Below g9 W9 wr)) (fun i _ => 128 - (intOf i).toNat)
          case atStart => exact ⟨0, by omega, rfl, M9, Below.refl _ _⟩
          case round =>
            clear M9
            obtain ⟨i, hi, rfl, H9, HB9⟩ := hrel
            have K5 : Hid (wr.heap[g5]? = _) := (HB9.out.block _ L5.out).trans M5.out
            by_cases hlt : i < 128
            · have q1 : (i : Int) < 128 := by omega
              have q2 : (i : Int) < 256 := by omega
              obtain ⟨x, hx⟩ : ∃ x, p.getD i 0 = x := ⟨_, rfl⟩
              have c5 := icellG K5.out i (by rw [HPL.out]; omega)
              rw [hx] at c5
              by_cases ho : x % 2 = 1
              · have t1 : ((x : Int) % 2 == 1) = true := by simp; omega
                have hor := blk_or p i hlt (by rw [hx]; exact ho)
                obtain ⟨j, hj⟩ : ∃ j, j = i / 8 := ⟨_, rfl⟩
                obtain ⟨m, hm⟩ : ∃ m, m = 7 - i % 8 := ⟨_, rfl⟩
                rw [← hj, ← hm] at hor
                have hm7 : m ≤ 7 := by omega
                have hj16 : (j : Int) < 16 := by omega
                have hjn : j < 16 := by omega
                have hB16 := blkL_len (evF p i)
                generalize blkL (evF p i) = X at H9 hor hB16
                obtain ⟨Y, HYY⟩ : ∃ Y, Hid (Y = blkL (evF p (i + 1))) := ⟨_, rfl⟩
                rw [← HYY.out] at hor
                obtain ⟨y, hy⟩ : ∃ y, X.getD j 0 = y := ⟨_, rfl⟩
                obtain ⟨z, hz⟩ : ∃ z : UInt8, UInt8.ofNat (2 ^ m) = z := ⟨_, rfl⟩
                have hzn : z.toNat = 2 ^ m := by rw [← hz, UInt8.toNat_ofNat']; exact Nat.mod_eq_of_lt (Nat.pow_lt_pow_right (by decide) (by omega))
                rw [hy, hz] at hor
                have c9 : wr.cell? ⟨g9, j, none⟩ = some (.int .u8 (y.toNat : Int)) := by
                  rw [cell_of_heap H9.out, List.getElem?_map, List.getElem?_eq_getElem (by omega), ← hy]
                  simp [List.getD, hB16, hjn, bv]
                have fz := frozen_of_heap H9.out j
                have HOR := Lib.hid hor
                have d1 : (i : Int) / 8 = (j : Int) := by omega
                have d2 : IntKind.i64.wrap (7 - (i : Int) % 8) = (m : Int) := by rw [IntKind.wrap_i64]; omega
                have d3 : 7 - (i : Int) % 8 = (m : Int) := by omega
                have hz2 : ((2 : Int) ^ m) % 256 = (z.toNat : Int) := by
                  have h2 : (2 : Nat) ^ m ≤ 128 := Nat.le_trans (Nat.pow_le_pow_right (by omega) hm7) (by decide)
                  have h3 : ((2 : Int) ^ m) = ((2 ^ m : Nat) : Int) := by simp
                  rw [h3, hzn]; omega
                have hz3 : (2 : Int) ^ m = (z.toNat : Int) := by rw [hzn]; simp
                have hmm : min m 8 = m := by omega
                have dj : IntKind.i64.wrap (j : Int) = (j : Int) := by rw [IntKind.wrap_i64]; omega
                obtain ⟨r, hr⟩ : ∃ r, r = i % 8 := ⟨_, rfl⟩
                have d5 : (i : Int).tmod 8 = (r : Int) := by rw [Int.tmod_eq_emod_of_nonneg (by omega)]; omega
                have d6 : IntKind.i64.wrap (7 - (r : Int)) = (m : Int) := by rw [IntKind.wrap_i64]; omega
                have hz4 : IntKind.u8.wrap ((2 : Int) ^ m) = (z.toNat : Int) := by rw [IntKind.wrap_u8]; exact hz2
                have hz5 : IntKind.u8.wrap (z.toNat : Int) = (z.toNat : Int) := by have := z.toNat_lt; rw [IntKind.wrap_u8]; omega
                clear hor hy hz hj hm hx hzn hr
                obtain ⟨v, hv⟩ : ∃ v : UInt8, v = y ||| z := ⟨_, rfl⟩
                have hvv : bits .or .u8 (y.toNat : Int) (z.toNat : Int) = (v.toNat : Int) := by rw [hv]; exact g_or8 y z
                rw [← hv] at HOR
                clear hv
                have C9 : Hid (wr.drew.cell? ⟨g9, j, none⟩ = some (.int .u8 (y.toNat : Int))) := c9
                have K9 : Hid (wr.drew.heap[g9]? = _) := H9.out
                have HX : Hid (But g9 j wr.drew wr.drew) := Pre.refl _
                have KB : Hid (Below g9 W9 wr.drew) := HB9.out.drew
                go_upto_region 23 with (fail)
                clear c9 c5 fz H9 HB9 K5
                refine regS_start (But g9 j) (by kernel_rfl) ?_
                try simp only [Act.put, List.setIfInBounds_toArray, List.set_cons_zero, List.set_cons_succ]
                generalize wr.drew = W1 at C9 K9 KB HX ⊢
                have c5 := C9.out
                refine regS_take (v := ?_) 0 (some 75) rfl rfl (by kernel_rfl) (by kernel_rfl) (by kernel_rfl) (fun _ _ _ h => h) (by rfl) (fun W hW => ?_) ?_
                rotate_left
                · (go_simp; try rfl)
                simp only [Act.put, List.setIfInBounds_toArray, List.set_cons_zero, List.set_cons_succ]
                refine regS_take (v := ?_) 1 (some 76) rfl rfl (by kernel_rfl) (by kernel_rfl) (by kernel_rfl) (fun _ _ _ h => h) (by rfl) (fun W hW => ?_) ?_
                rotate_left
                · (go_simp; try rfl)
                simp only [Act.put, List.setIfInBounds_toArray, List.set_cons_zero, List.set_cons_succ]
                refine regS_take (v := ?_) 2 (some 77) rfl rfl (by kernel_rfl) (by kernel_rfl) (by kernel_rfl) (fun _ _ _ h => h) (by rfl) (fun W hW => ?_) ?_
                rotate_left
                · (go_simp; try rfl)
                simp only [Act.put, List.setIfInBounds_toArray, List.set_cons_zero, List.set_cons_succ]
                refine regS_take (v := ?_) 3 (some 78) rfl rfl (by kernel_rfl) (by kernel_rfl) (by kernel_rfl) (fun _ _ _ h => h) (by rfl) (fun W hW => ?_) ?_
                rotate_left
                · (go_simp; try rfl)
                simp only [Act.put, List.setIfInBounds_toArray, List.set_cons_zero, List.set_cons_succ]
                refine regS_take (v := ?_) 4 (some 79) rfl rfl (by kernel_rfl) (by kernel_rfl) (by kernel_rfl) (fun _ _ _ h => h) (by rfl) (fun W hW => ?_) ?_
                rotate_left
                · (go_simp; try rfl)
                simp only [Act.put, List.setIfInBounds_toArray, List.set_cons_zero, List.set_cons_succ]
                refine regS_take (v := ?_) 6 (some 81) rfl rfl (by kernel_rfl) (by kernel_rfl) (by kernel_rfl) (fun _ _ _ h => h) (by rfl) (fun W hW => ?_) ?_
                rotate_left
                · (go_simp; try rfl)
                simp only [Act.put, List.setIfInBounds_toArray, List.set_cons_zero, List.set_cons_succ]
                refine regS_take (v := ?_) 7 (some 82) rfl rfl (by kernel_rfl) (by kernel_rfl) (by kernel_rfl) (fun _ _ _ h => h) (by rfl) (fun W hW => ?_) ?_
                rotate_left
                · (go_simp; try rfl)
                simp only [Act.put, List.setIfInBounds_toArray, List.set_cons_zero, List.set_cons_succ]
                refine regS_take (v := ?_) 8 (some 83) rfl rfl (by kernel_rfl) (by kernel_rfl) (by kernel_rfl) (fun _ _ _ h => h) (by rfl) (fun W hW => ?_) ?_
                rotate_left
                · (go_simp; try rfl)
                simp only [Act.put, List.setIfInBounds_toArray, List.set_cons_zero, List.set_cons_succ]
                refine regS_take (v := ?_) 9 (some 84) rfl rfl (by kernel_rfl) (by kernel_rfl) (by kernel_rfl) (fun _ _ _ h => h) (by rfl) (fun W hW => ?_) ?_
                rotate_left
                · (go_simp; try rfl)
                simp only [Act.put, List.setIfInBounds_toArray, List.set_cons_zero, List.set_cons_succ]
                refine regS_eff 5 rfl (by kernel_rfl) (fun K hK => ?_)
                go_simp
                refine hK.out _ _ (Pre.refl _) ?_
                clear hK K
                try simp only [Act.put, List.setIfInBounds_toArray, List.set_cons_zero, List.set_cons_succ]
                refine regS_take (v := ?_) 10 (some 85) rfl rfl (by kernel_rfl) (by kernel_rfl) (by kernel_rfl) (fun _ _ _ h => h) (by rfl) (fun W hW => ?_) ?_
                rotate_left
                · (go_simp; try rfl)
                simp only [Act.put, List.setIfInBounds_toArray, List.set_cons_zero, List.set_cons_succ]
                refine regS_take (v := ?_) 11 (some 86) rfl rfl (by kernel_rfl) (by kernel_rfl) (by kernel_rfl) (fun _ _ _ h => h) (by rfl) (fun W hW => ?_) ?_
                rotate_left
                · (go_simp; try rfl)
                simp only [Act.put, List.setIfInBounds_toArray, List.set_cons_zero, List.set_cons_succ]
                refine regS_eff 12 rfl (by kernel_rfl) (fun K hK => ?_)
                refine step_st1 rfl 5 (.tmp 86) (.tmp 85) rfl (store_cell (k := .u8) Try.underlying5 s8 (w := W1) C9.out (frozen_of_heap (w := W1) K9.out _)) ?_
                have hE : But g9 j W1 (W1.setCell ⟨g9, j, none⟩ (.int .u8 (v.toNat : Int))) := But.set _
                refine hK.out _ _ hE ?_
                have HX := Lib.hid (Pre.trans HX.out hE)
                clear hE hK K
                try simp only [Act.put, List.setIfInBounds_toArray, List.set_cons_zero, List.set_cons_succ]
                refine regS_done (by kernel_rfl) ?_
                go_wp2
                go_roundw
                case rel =>
                  refine ⟨i + 1, by omega, by go_num, ?_, KB.out.setCell (Nat.le_refl _) _⟩
                  have := heap_set K9.out j (bv v)
                  rw [← List.map_set, HOR.out, HYY.out] at this
                  exact this
                case measure => simp [intOf]; omega
              · have t1 : ((x : Int) % 2 == 1) = false := by simp; omega
                have HSK := Lib.hid (blk_skip p i (by rw [hx]; exact ho))
                clear hx
                go_wp2_with fail
                go_roundw
                case rel => exact ⟨i + 1, by omega, by go_num, by rw [← HSK.out]; exact H9, HB9⟩
                case measure => simp [intOf]; omega
            · have q1 : ¬ ((i : Int) < 128) := by omega
              have hi8 : i = 128 := by omega
              subst hi8
              rw [HEV.out] at H9
              have K4 : Hid (wr.heap[w.heap.size + 2]? = _) := (HB9.out.block _ L4.out).trans M4.out
              have KB : Hid (Below w.heap.size w wr) := MB.out.trans (HB9.out.mono LW.out)
              have hVL : Hid ((blkL V).length = 16) := blkL_len V
              have hiV : Hid ((Try.prog.info? 33).map (·.size) = some ((blkL V).map bv).length) := i16l (blkL V) hVL.out
              have hle : Hid (((blkL 0).map bv).length = ((blkL V).map bv).length) := by show _ = _; rw [List.length_map, List.length_map, HB0.out, hVL.out]
              obtain ⟨Y, HYV⟩ : ∃ Y, Hid (blkL V = Y) := ⟨_, rfl⟩
              rw [HYV.out] at H9 hVL hiV hle
              go_wp2_with (first
                | (refine wpList_ld rfl 33 (.tmp 9) rfl (load_arr arr16B rfl hiV.out H9.out) ?_)
                | (refine wpList_st rfl 33 (.tmp 4) (.tmp 87) rfl (store_arr (cs := Y.map bv) hiV.out (bv_one _) (old := (blkL 0).map bv) K4.out hle.out) ?_)
                | fail)
              have hres := setRow_heap wr (w.heap.size + 2) _ (Y.map bv).toArray 33 _ K4.out
              exact bodyPost_ret (results_cell_row (P := Try.prog) rfl _ _ (w.heap.size + 2) 33 (Y.map bv).toArray (0, 0) _ rfl hres arr16B rfl (by rw [List.size_toArray, List.length_map, hVL.out]; exact i16B)) rfl ⟨by rw [HYV.out], KB.out.trans (grown_below (grown_setRow _ _ _) (by omega) KB.out.size)⟩
end Go.Proofs.Ytkgbhlppadpdfaa

/- Contracts of the document's own answers for layer 1: Little, Big, PutLittle, PutBig. -/
namespace Go.Proofs.Ytkgbhlppadpdfaa
open Go.RowKit
set_option maxRecDepth 100000
set_option linter.unusedVariables false
set_option linter.unusedSimpArgs false

theorem ref_step (U N x : Nat) (hU : U * x < 18446744073709551616) (hN : N + U * x < 18446744073709551616) :
    ∃ V M U' : Nat, IntKind.u64.wrap ((U : Int) * (x : Int)) = (V : Int) ∧ IntKind.u64.wrap ((N : Int) + (V : Int)) = (M : Int) ∧ IntKind.u64.wrap ((U : Int) * 256) = (U' : Int) ∧ M = N + U * x ∧ U' = U * 256 % 18446744073709551616 := by
  refine ⟨U * x, N + U * x, U * 256 % 18446744073709551616, ?_, ?_, ?_, rfl, rfl⟩
  · rw [IntKind.wrap_u64, ← Int.natCast_mul]; omega
  · rw [IntKind.wrap_u64]; omega
  · rw [IntKind.wrap_u64]; omega
theorem pow_lt8 (k : Nat) (hk : k < 8) : 256 ^ (k + 1) ≤ 18446744073709551616 := by
  have h : (256 : Nat) ^ 8 = 18446744073709551616 := by decide
  rw [← h]; exact Nat.pow_le_pow_right (by decide) (by omega)
theorem unit_step (k : Nat) (hk : k < 8) : 256 ^ k % 18446744073709551616 = 256 ^ k := by
  have := pow_lt8 k hk
  rw [Nat.pow_succ] at this
  have hp : 0 < 256 ^ k := Nat.pow_pos (by decide)
  exact Nat.mod_eq_of_lt (by omega)

theorem bigN_cons (x : UInt8) (l : List UInt8) : bigN (x :: l) = x.toNat * 256 ^ l.length + bigN l := by
  have := bigN_append [x] l
  simpa [bigN] using this
/-- the last j bytes -/
def lastL (bs : List UInt8) (j : Nat) : List UInt8 := bs.drop (bs.length - j)
theorem lastL_succ (bs : List UInt8) (j : Nat) (h : j < bs.length) : lastL bs (j + 1) = bs[bs.length - 1 - j] :: lastL bs j := by
  unfold lastL
  rw [List.drop_eq_getElem_cons (by omega)]
  simp only [show bs.length - (j + 1) + 1 = bs.length - j by omega, show bs.length - (j + 1) = bs.length - 1 - j by omega]
  rw [show bs.length - 1 - j + 1 = bs.length - j by omega]
theorem lastL_len (bs : List UInt8) (j : Nat) (h : j ≤ bs.length) : (lastL bs j).length = j := by simp [lastL]; omega

theorem refPutLittle_any (x many : Nat) (w : World) (hx : x < 18446744073709551616) (hm : many ≤ 2147483647) :
    Calls Try.prog 74 #[.int .u64 (x : Int), .int .i64 (many : Int)] w fun e w' => ∃ v, e = .returned v ∧ w'.ownsRow w.heap.size 5 1 v many ((putLittle x many).map bv) ∧ Below w.heap.size w w' := by
  have HX := Lib.hid hx
  clear hx
  go_enter Try.func74, Try.ntmps74
  go_wp2_with fail
  go_loopw [0, 5, 6] (fun xv ov iv wr => ∃ (k : Nat), k ≤ many ∧ iv = .int .i64 k ∧ xv = .int .u64 ((x / 256 ^ k : Nat) : Int) ∧ Hid (wr.ownsRow w.heap.size 5 1 ov k ((putLittle x k).map bv)) ∧ Hid (Below w.heap.size w wr)) (fun _ _ i _ => many - (intOf i).toNat)
  case atStart => exact ⟨0, by omega, rfl, by simp, World.ownsRow_nil w _ _ _, Below.refl _ _⟩
  case round =>
    obtain ⟨k, hk, rfl, rfl, HO, HB⟩ := hrel
    by_cases hlt : k < many
    · have hz : ((x / 256 ^ k : Nat) : Int) % 256 = ((byteAt x k).toNat : Int) := by rw [byteAt, UInt8.toNat_ofNat']; omega
      have hy0 : x / 256 ^ k < 18446744073709551616 := Nat.lt_of_le_of_lt (Nat.div_le_self _ _) HX.out
      have HP : Hid (IntKind.u64.wrap (((x / 256 ^ k : Nat) : Int) / 256) = ((x / 256 ^ (k + 1) : Nat) : Int)) := by
        show _ = _
        rw [Nat.pow_succ, ← Nat.div_div_eq_div_mul, IntKind.wrap_u64]
        generalize x / 256 ^ k = y at hy0 ⊢
        omega
      clear hy0
      have hpl : putLittle x (k + 1) = putLittle x k ++ [byteAt x k] := by simp [putLittle, List.range_succ]
      have HPL := Lib.hid hpl
      clear hpl
      have hy : x / 256 ^ k < 18446744073709551616 := Nat.lt_of_le_of_lt (Nat.div_le_self _ _) HX.out
      generalize byteAt x k = z at hz HPL
      generalize x / 256 ^ k = y at hz HP hy ⊢
      have hzb : z.toNat < 256 := z.toNat_lt
      have HY := Lib.hid hy
      clear hy
      go_wp2_with (
        at_builtin
        refine wpList_app8 rfl (.tmp 12) (.tmp 16) rfl w.heap.size _ k (putLittle x k) rfl ?_ _ 1 1 (wr.heap.size + 1) [z] rfl ?_ ?_ ?_ ?_ ?_
        · exact HO.out.alloc _
        · exact row_of_heap (heap_alloc_new' wr _) (Nat.lt_succ_self _)
        · rfl
        · omega
        · exact Nat.le_trans HB.out.size (by simp)
        rintro v' w' hown hgr
        have HO' := Lib.hid hown
        have HB' : Hid (Below w.heap.size w w') := (HB.out.alloc HB.out.size _).grown hgr (Nat.le_trans HB.out.size (by simp)) (fun g hg => (HO.out.lt g hg).1)
        clear hown hgr)
      go_roundw
      case rel => exact ⟨k + 1, by omega, by go_num, by rw [HP.out], by rw [HPL.out]; exact HO', HB'⟩
      case measure => simp [intOf]; omega
    · go_wp2
      go_ret
      have : k = many := by omega
      subst this
      exact ⟨_, rfl, HO.out, HB.out⟩

theorem refPutLittle_neg (x : Nat) (many : Int) (w : World) (hm : many < 0) :
    Calls Try.prog 74 #[.int .u64 (x : Int), .int .i64 many] w fun e w' => e = .returned (.slice none 0 0) ∧ w = w' := by
  have hl : ¬ (0 < many) := by omega
  go_enter Try.func74, Try.ntmps74
  go_wp2_with fail
  refine wp_loop_once ?_
  go_wp2
  go_ret
  exact ⟨rfl, rfl⟩

theorem lastPut (x many j : Nat) (h : j < many) : putBig x many = (putLittle x many).reverse := putBig_rev x many

theorem refPutBig_any (x many : Nat) (w : World) (hx : x < 18446744073709551616) (hm : many ≤ 2147483647) :
    Calls Try.prog 62 #[.int .u64 (x : Int), .int .i64 (many : Int)] w fun e w' => ∃ v, e = .returned v ∧ w'.ownsRow w.heap.size 5 1 v many ((putBig x many).map bv) ∧ Below w.heap.size w w' := by
  have HX := Lib.hid hx
  clear hx
  go_enter Try.func62, Try.ntmps62
  go_wp2_with fail
  refine (refPutLittle_any x many w HX.out hm).mono ?_
  rintro e w1 ⟨v, rfl, hO, hB⟩
  obtain ⟨A, c, rfl, hl, h1, h2, hr⟩ := own_read hO
  have HL := Lib.hid hl
  have HR := Lib.hid hr
  have HB1 := Lib.hid hB
  clear hl hr hB hO h2 h1
  go_wp2_with fail
  go_loopw [6, 7] (fun ov iv wr => ∃ (k : Nat), k ≤ many ∧ iv = .int .i64 ((many : Int) - 1 - k) ∧ Hid (wr.ownsRow w1.heap.size 5 1 ov k (((putLittle x many).reverse.take k).map bv)) ∧ Hid (Below w1.heap.size w1 wr)) (fun _ i _ => (intOf i + 1).toNat)
  case atStart => exact ⟨0, by omega, by simp, by simpa [Hid] using World.ownsRow_nil w1 w1.heap.size 5 1, Below.refl _ _⟩
  case round =>
    obtain ⟨k, hk, rfl, HO, HB⟩ := hrel
    by_cases hlt : k < many
    · have t1 : (0 : Int) ≤ (many : Int) - 1 - k := by omega
      have t3 : ((many : Int) - 1 - k).toNat = many - 1 - k := by omega
      have t4 : (many : Int) - 1 - k < many := by omega
      obtain ⟨b, o, rfl, hbl, r⟩ := HR.out.at_ (by have := HL.out; simp; omega)
      have kb : many - 1 - k < (putLittle x many).length := by have := HL.out; omega
      have hc : wr.cell? ⟨b, o + (many - 1 - k), none⟩ = some (.int .u8 ((putLittle x many)[many - 1 - k].toNat : Int)) := by
        rw [HB.out.cell hbl]; exact r _ _ (by simp [kb, bv])
      have hsn : (putLittle x many).reverse.take (k + 1) = (putLittle x many).reverse.take k ++ [(putLittle x many)[many - 1 - k]] := by
        rw [List.take_succ_eq_append_getElem (by rw [List.length_reverse, HL.out]; exact hlt)]
        congr 2
        rw [List.getElem_reverse]
        simp only [HL.out]
      have HS := Lib.hid hsn
      clear hsn r
      generalize (putLittle x many)[many - 1 - k] = z at hc HS
      have hzb : z.toNat < 256 := z.toNat_lt
      clear kb
      go_wp2_with (
        at_builtin
        refine wpList_app8 rfl (.tmp 18) (.tmp 23) rfl w1.heap.size _ k ((putLittle x many).reverse.take k) rfl ?_ _ 1 1 (wr.heap.size + 1) [z] rfl ?_ ?_ ?_ ?_ ?_
        · exact HO.out.alloc _
        · exact row_of_heap (heap_alloc_new' wr _) (Nat.lt_succ_self _)
        · rfl
        · omega
        · exact Nat.le_trans HB.out.size (by simp)
        rintro v' w' hown hgr
        have HO' := Lib.hid hown
        have HB' : Hid (Below w1.heap.size w1 w') := (HB.out.alloc HB.out.size _).grown hgr (Nat.le_trans HB.out.size (by simp)) (fun g hg => (HO.out.lt g hg).1)
        clear hown hgr)
      go_roundw
      case rel => exact ⟨k + 1, by omega, by congr 1; omega, by rw [HS.out]; exact HO', HB'⟩
      case measure => simp [intOf]; omega
    · have t1 : ¬ ((0 : Int) ≤ (many : Int) - 1 - k) := by omega
      go_wp2
      go_ret
      have : k = many := by omega
      subst this
      have hO := HO.out
      rw [List.take_of_length_le (by simp [HL.out]), ← putBig_rev] at hO
      obtain ⟨h0, hO | ⟨g, cap, cur, hv, hg, rr⟩⟩ := hO
      · exact ⟨_, rfl, ⟨h0, .inl hO⟩, HB1.out.step HB.out⟩
      · exact ⟨_, rfl, ⟨h0, .inr ⟨g, cap, cur, hv, Nat.le_trans HB1.out.size hg, rr⟩⟩, HB1.out.step HB.out⟩
theorem refPutBig_neg (x : Nat) (many : Int) (w : World) (hm : many < 0) :
    Calls Try.prog 62 #[.int .u64 (x : Int), .int .i64 many] w fun e w' => e = .returned (.slice none 0 0) ∧ w = w' := by
  go_enter Try.func62, Try.ntmps62
  go_wp2_with fail
  refine (refPutLittle_neg x many w hm).mono ?_
  rintro e w1 ⟨rfl, rfl⟩
  go_wp2_with fail
  refine wp_loop_once ?_
  go_wp2
  go_ret
  exact ⟨rfl, rfl⟩
end Go.Proofs.Ytkgbhlppadpdfaa
/- append onto a slice of one's own: where the new one lies; two slices of one's own side by side. -/
namespace Go.Proofs.Ytkgbhlppadpdfaa
open Go.RowKit
set_option maxRecDepth 100000
set_option linter.unusedVariables false
theorem append_row_at {P : Program} (w : World) (base : Nat) {t : TypeId} (ty : TypeId) {e : TypeId} {z : Value} {bytes : Nat} (ht : P.underlying t = some (.slice e))
    (hi : (P.info? e).map (fun i => (i.zero, i.size, i.bytes)) = some (some z, 1, bytes)) (hz : z.cells = #[z])
    (v : Value) (n : Nat) (xs : List Value) (hown : w.ownsRow base e 1 v n xs) (B : Nat) (A : Option Addr) (m c : Nat) (news : List Value) (hr : RowAt w B A news) (hm : news.length = m)
    (h1 : ∀ u ∈ news, u.oneCell' = true) (hk : (n + m) * bytes ≤ 140737488355328) (h31 : n + m ≤ maxLen) (hbase : base ≤ w.heap.size) :
    ∃ v' w', (Builtin.append_ #[t, t] ty #[v, .slice A m c]).run P w = .ok v' w' ∧ w'.ownsRow base e 1 v' (n + m) (xs ++ news) ∧ w.grownBy w' v.ownBlock ∧ (v'.ownBlock = v.ownBlock ∨ v'.ownBlock = some w.heap.size) := by
  obtain ⟨i, hi', hz0, hs, hb⟩ := info_parts hi
  by_cases h0 : m = 0
  · subst h0
    have hn : news = [] := List.eq_nil_of_length_eq_zero hm
    subst hn
    refine ⟨v, w, ?_, by simpa using hown, World.grownBy.refl w _, .inl rfl⟩
    rcases hown.2 with ⟨rfl, rfl⟩ | ⟨g, cap, cur, rfl, _, _, hnc, _⟩
    · cases A <;> simp [Builtin.append_, run_underlying ht, sizeOf, typeInfo, hi', Builtin.lenOf, Builtin.firstCells, loadCells, loadCellsFrom]
    · cases A <;> simp [Builtin.append_, run_underlying ht, sizeOf, typeInfo, hi', Builtin.lenOf, Builtin.firstCells, hnc, storeCells, loadCells, loadCellsFrom]
  · obtain ⟨b, o, rfl, _, hc⟩ := hr.at_ (by omega)
    obtain ⟨v', w', hrun, h2, h3, _, h5⟩ := run_append_own_at (P := P) w base t ty e i z 1 bytes ht hi' hz0 hs hb (by rw [hz]; rfl) (by omega) v n xs hown ⟨b, o, none⟩ m c news (by omega) (fun j u hu => by rw [add_none]; exact hc j u hu) h1 h31 hk hbase
    exact ⟨v', w', hrun, h2, h3, h5⟩
theorem wpList_app8_at {w : World} {ops : Array Oper} {rest : List Oper} {o : Oper} {a : Act} {Q : Exit → Act → World → Prop} (hw : Region.wanted o (yielded ops a.tmps) = true) (s x : Operand)
    (ho : o.op = .call { callee := .builtin .append, args := #[s, x], argTypes := #[23, 23] }) (base : Nat) (v : Value) (n : Nat) (bs : List UInt8) (hs : a.eval s = v) (hown : w.ownsRow base 5 1 v n (bs.map bv))
    (A : Option Addr) (m c B : Nat) (news : List UInt8) (hx : a.eval x = .slice A m c) (hr : RowAt w B A (news.map bv)) (hm : news.length = m) (hk : n + m ≤ 2147483647) (hbase : base ≤ w.heap.size)
    (h : ∀ v' w', w'.ownsRow base 5 1 v' (n + m) ((bs ++ news).map bv) → w.grownBy w' v.ownBlock → (v'.ownBlock = v.ownBlock ∨ v'.ownBlock = some w.heap.size) → wpList Try.prog ops Q rest (a.put o.dst v') w') :
    wpList Try.prog ops Q (o :: rest) a w := by
  obtain ⟨v', w', hrun, h2, h3, h4⟩ := append_row_at (P := Try.prog) w base o.type uT made8 rfl v n _ hown B A m c _ hr (by simpa using hm) (bv_one news) (by omega) (by simp [maxLen]; omega) hbase
  exact wpList_app hw s x _ _ ho (by rw [hs, hx]; exact hrun) (h v' w' (by rw [List.map_append]; exact h2) h3 h4)
/-- two slices share no block -/
def Two (v u : Value) : Prop := ∀ x, v.ownBlock = some x → u.ownBlock ≠ some x
theorem Two.symm {v u : Value} (h : Two v u) : Two u v := fun x hx hy => h x hy hx
theorem two_own {w w' : World} {base : Nat} {e : TypeId} {s : Nat} {v u : Value} {n : Nat} {xs : List Value} (h : w.ownsRow base e s u n xs) (hb : w.grownBy w' v.ownBlock) (hd : Two v u) : w'.ownsRow base e s u n xs := by
  obtain ⟨h0, h | ⟨g1, cap, cur, hv, hg1, hh, r⟩⟩ := h
  · exact ⟨h0, .inl h⟩
  · refine ⟨h0, .inr ⟨g1, cap, cur, hv, hg1, (hb.block _ (Array.getElem?_eq_some_iff.1 hh).1 (fun e => hd g1 e.symm ?_)).trans hh, r⟩⟩
    rw [hv]; rfl
theorem own_blk_lt {w : World} {base : Nat} {e : TypeId} {s : Nat} {u : Value} {n : Nat} {xs : List Value} (h : w.ownsRow base e s u n xs) {x : Nat} (hx : u.ownBlock = some x) : x < w.heap.size := by
  obtain ⟨h0, h | ⟨g1, cap, cur, hv, hg1, hh, r⟩⟩ := h
  · rw [h.1] at hx; cases hx
  · rw [hv] at hx
    have : g1 = x := by injection hx
    rw [← this]; exact (Array.getElem?_eq_some_iff.1 hh).1
theorem two_step {w : World} {base : Nat} {e : TypeId} {s : Nat} {v v' u : Value} {n : Nat} {xs : List Value} (h : w.ownsRow base e s u n xs) (hd : Two v u) (hat : v'.ownBlock = v.ownBlock ∨ v'.ownBlock = some w.heap.size) : Two v' u := by
  intro x hx hy
  rcases hat with hat | hat
  · exact hd x (hat.symm.trans hx) hy
  · have h1 := own_blk_lt h hy
    rw [hat] at hx
    injection hx with hx
    omega
theorem two_nil (u : Value) : Two (.slice none 0 0) u := fun x hx => by cases hx
end Go.Proofs.Ytkgbhlppadpdfaa

/- ghash.Lengths; palfreyref06.Lengths, Padded. -/
namespace Go.Proofs.Ytkgbhlppadpdfaa
open Go.RowKit
set_option maxRecDepth 100000
set_option linter.unusedVariables false
set_option linter.unusedSimpArgs false
theorem g_own_below {w w' : World} {base : Nat} {e : TypeId} {s : Nat} {v : Value} {n : Nat} {xs : List Value} (h : w.ownsRow base e s v n xs) (hb : Below w.heap.size w w') : w'.ownsRow base e s v n xs := by
  obtain ⟨h0, h | ⟨g, cap, cur, hv, hg, hh, r⟩⟩ := h
  · exact ⟨h0, .inl h⟩
  · exact ⟨h0, .inr ⟨g, cap, cur, hv, hg, (hb.block _ (lt_of_heap hh)).trans hh, r⟩⟩
theorem g_own_ge {w : World} {base : Nat} {e : TypeId} {s : Nat} {v : Value} {n : Nat} {xs : List Value} (h : w.ownsRow base e s v n xs) {B : Nat} (hB : B ≤ base) : ∀ g, v.ownBlock = some g → B ≤ g := fun g hq => Nat.le_trans hB (h.lt g hq).1
/-- 8 times a length, as 64 bits hold it -/
def len8 (z : Int) : Nat := (8 * z % 18446744073709551616).toNat
theorem len8_lt (z : Int) : len8 z < 18446744073709551616 := by unfold len8; omega
theorem len8_wrap (z : Int) : IntKind.u64.wrap (8 * IntKind.u64.wrap z) = (len8 z : Int) := by rw [IntKind.wrap_u64, IntKind.wrap_u64]; unfold len8; omega
theorem len8_mod (z : Int) : 8 * (z % 18446744073709551616) % 18446744073709551616 = (len8 z : Int) := by unfold len8; omega
theorem len_row (p q : Nat) (hq : q < 18446744073709551616) : rowL (p * 18446744073709551616 + q) = [p, q] := by
  unfold rowL hiV loV
  rw [show (p * 18446744073709551616 + q) / 18446744073709551616 = p by omega, show (p * 18446744073709551616 + q) % 18446744073709551616 = q by omega]
theorem len_lt (p q : Nat) (hp : p < 18446744073709551616) (hq : q < 18446744073709551616) : p * 18446744073709551616 + q < 2 ^ 128 := by rw [e128]; omega
/-- two lengths as a block -/
def lenL (a b : Int) : List UInt8 := blkL (len8 a * 18446744073709551616 + len8 b)
theorem lenL_len (a b : Int) : (lenL a b).length = 16 := blkL_len _
theorem lenL_parts (a b : Int) : putBig (len8 a) 8 ++ putBig (len8 b) 8 = lenL a b := by
  have h := flatR_end (len8 a * 18446744073709551616 + len8 b)
  have hb := len8_lt b
  rw [show hiV (len8 a * 18446744073709551616 + len8 b) = len8 a by unfold hiV; omega, show loV (len8 a * 18446744073709551616 + len8 b) = len8 b by unfold loV; omega] at h
  exact h
set_option maxHeartbeats 1000000 in
theorem glen_any (a b : Int) (w : World) : Calls Try.prog 29 #[.int .i64 a, .int .i64 b] w fun e w' => e = .returned (.agg ((lenL a b).map bv).toArray) ∧ Below w.heap.size w w' := by
  have HR := Lib.hid (len_row (len8 a) (len8 b) (len8_lt b))
  have HF := Lib.hid (fun W => gflat_any (len8 a * 18446744073709551616 + len8 b) W (len_lt _ _ (len8_lt a) (len8_lt b)))
  rw [HR.out] at HF
  change Hid (∀ W, Calls _ _ _ W fun e w' => e = .returned (.agg ((lenL a b).map bv).toArray) ∧ _) at HF
  have u1 := len8_mod a
  have u2 := len8_mod b
  have u3 := len8_wrap a
  have u4 := len8_wrap b
  have HZL := Lib.hid (lenL_len a b)
  generalize lenL a b = Z at HF HZL ⊢
  generalize len8 a = p at HF u1 u3
  generalize len8 b = q at HF u2 u4
  have hi16 : Hid ((Try.prog.info? 33).map (·.size) = some (Z.map bv).length) := i16l Z HZL.out
  have hz16 : ∀ W, (zeroValue 33).run Try.prog W = .ok (.agg ((blkL 0).map bv).toArray) W := fun W => by kernel_rfl
  have HB0 : Hid ((blkL 0).length = 16) := blkL_len 0
  generalize blkL 0 = B0 at hz16 HB0
  go_enter Try.func29, Try.ntmps29
  go_wp2_with fail
  generalize hV : w.alloc _ = W0
  have F0 : Hid (W0.heap[w.heap.size]? = some (.cells (B0.map bv).toArray 33 (0, 0))) := heap_of_alloc hV
  have FB := Lib.hid (below_of_alloc hV (Nat.le_refl w.heap.size))
  clear hV
  refine (HF.out W0).mono ?_
  rintro e w1 ⟨rfl, hb1⟩
  have P0 := Lib.hid ((hb1.block _ (lt_of_heap F0.out)).trans F0.out)
  have PB := Lib.hid (FB.out.step hb1)
  clear hb1 F0 FB
  go_wp2_with (first
    | (refine wpList_st rfl 33 (.tmp 4) (.tmp 12) rfl (store_arr (cs := Z.map bv) hi16.out (bv_one _) (old := B0.map bv) P0.out (by rw [List.length_map, List.length_map, HB0.out, HZL.out])) ?_)
    | fail)
  have hres := setRow_heap w1 w.heap.size _ (Z.map bv).toArray 33 _ P0.out
  exact bodyPost_ret (results_cell_row (P := Try.prog) rfl _ _ w.heap.size 33 (Z.map bv).toArray (0, 0) _ rfl hres arr16B rfl (by rw [List.size_toArray, List.length_map, HZL.out]; exact i16B)) rfl ⟨rfl, PB.out.trans (grown_below (grown_setRow _ _ _) (Nat.le_refl _) PB.out.size)⟩
set_option maxHeartbeats 1000000 in
theorem refLen_any (a b : Int) (w : World) : Calls Try.prog 36 #[.int .i64 a, .int .i64 b] w fun e w' => ∃ v, e = .returned v ∧ w'.ownsRow w.heap.size 5 1 v 16 ((lenL a b).map bv) ∧ Below w.heap.size w w' := by
  have HA := Lib.hid (fun W => (refPutBig_any (len8 a) 8 W (len8_lt a) (by omega) : Calls Try.prog 62 #[.int .u64 (len8 a : Int), .int .i64 8] W _))
  have HB := Lib.hid (fun W => (refPutBig_any (len8 b) 8 W (len8_lt b) (by omega) : Calls Try.prog 62 #[.int .u64 (len8 b : Int), .int .i64 8] W _))
  have HP := Lib.hid (lenL_parts a b)
  have u1 := len8_mod a
  have u2 := len8_mod b
  have u3 := len8_wrap a
  have u4 := len8_wrap b
  have L1 := Lib.hid (putBig_len (len8 b) 8)
  generalize putBig (len8 a) 8 = X at HA HP
  generalize putBig (len8 b) 8 = Y at HB HP L1
  generalize lenL a b = Z at HP ⊢
  generalize len8 a = p at HA u1 u3
  generalize len8 b = q at HB u2 u4
  go_enter Try.func36, Try.ntmps36
  go_wp2_with fail
  refine (HA.out w).mono ?_
  rintro e w1 ⟨v1, rfl, hO1, hb1⟩
  have O1 := Lib.hid hO1; have B1 := Lib.hid hb1
  clear hO1 hb1
  go_wp2_with fail
  refine (HB.out w1).mono ?_
  rintro e w2 ⟨v2, rfl, hO2, hb2⟩
  obtain ⟨A2, c2, rfl, hl2, h21, h22, hr2⟩ := own_read hO2
  have R2 := Lib.hid hr2
  have O12 := Lib.hid (g_own_below O1.out hb2)
  have B2 := Lib.hid (B1.out.step hb2)
  clear hO2 hb2 hl2 h21 h22 hr2
  go_wp2_with (
    at_builtin
    refine wpList_app8 rfl (.tmp 8) (.tmp 12) rfl w.heap.size v1 8 X rfl O12.out A2 8 c2 w2.heap.size Y rfl R2.out L1.out (by omega) B2.out.size ?_
    rintro v3 w3 hown hgr
    rw [HP.out] at hown
    have O3 := Lib.hid hown
    have B3 := Lib.hid (B2.out.grown hgr B2.out.size (g_own_ge O12.out (Nat.le_refl _)))
    clear hown hgr)
  go_ret
  exact ⟨_, rfl, O3.out, B3.out⟩
end Go.Proofs.Ytkgbhlppadpdfaa

/- Rows of rows of bytes that come in. -/
namespace Go.Proofs.Ytkgbhlppadpdfaa
open Go.RowKit Go.ChangeShapes Go.WideShapes Go.ChangeAt
set_option maxRecDepth 100000
set_option linter.unusedVariables false
theorem open_bytes_cs {H : Type} {enc : TypeId × Value → H} {W : World} {fuel : Nat} {cs : List Value} {x : DataW H × List MemPlace}
    (hf : DataW.trod enc Try.prog W 0 (fun _ => true) true fuel 23 cs = some x) : ∃ A c bs, cs = [.slice A (bs : List UInt8).length c] ∧ Sl W A c bs := by
  rcases open_ints Try.underlying23 Try.underlying5 (by kernel_rfl) hf with ⟨hcs, _⟩ | ⟨x, l, c, zs, hcs, _, hl, hm, hz, hp, hcell, hwz⟩
  · exact ⟨none, 0, [], hcs, by simp, by simp [maxLen], .inl rfl⟩
  · obtain ⟨bs, rfl⟩ := bytes_of hwz
    have hlen : bs.length = c := by simpa using hz
    refine ⟨_, c, bs.take l, by rw [hcs, List.length_take, Nat.min_eq_left (by omega)], by rw [List.length_take]; omega, hm, ?_⟩
    by_cases h0 : l = 0
    · subst h0; exact .inl (by simp)
    · have hc0 := hcell 0 (by simp; omega)
      obtain ⟨b, o, spot⟩ := x
      have hspot : spot = none := by simpa [Addr.add] using World.cell?_spot hc0
      subst hspot
      refine .inr ⟨b, o, rfl, ?_, fun j u hu => ?_⟩
      · rcases Nat.lt_or_ge b W.heap.size with hlt | hge
        · exact hlt
        · rw [add_none] at hc0
          simp [World.cell?, Array.getElem?_eq_none hge] at hc0
      · rw [List.getElem?_map, List.getElem?_take] at hu
        split at hu
        · rename_i hj
          have hjl : j < bs.length := by omega
          have hc := hcell j (by simpa using hjl)
          rw [add_none] at hc
          rw [hc]
          rw [List.getElem?_eq_getElem hjl] at hu
          simp [hjl, List.getD] at hu ⊢
          exact hu
        · simp at hu
abbrev Part := Option Addr × Nat × List UInt8
def partV (q : Part) : Value := .slice q.1 q.2.2.length q.2.1
/-- what a walk is told of a row of rows of bytes that came in -/
def PartsAt (w : World) (y : Option Addr × Nat × List Part) : Prop :=
  y.2.2.length ≤ y.2.1 ∧ y.2.1 ≤ maxLen ∧ (∀ q ∈ y.2.2, Sl w q.1 q.2.1 q.2.2) ∧ RowAt w w.heap.size y.1 (y.2.2.map partV)
theorem build_parts {α : Type} {P : Nat → α → Prop} (n : Nat) (h : ∀ i, i < n → ∃ q, P i q) : ∃ l : List α, l.length = n ∧ ∀ i q, l[i]? = some q → P i q := by
  induction n with
  | zero => exact ⟨[], rfl, fun i q hq => by simp at hq⟩
  | succ n ih =>
    obtain ⟨l, hl, hP⟩ := ih (fun i hi => h i (by omega))
    obtain ⟨q, hq⟩ := h n (by omega)
    refine ⟨l ++ [q], by simp [hl], fun i r hr => ?_⟩
    by_cases hi : i < n
    · rw [List.getElem?_append_left (by omega)] at hr; exact hP i r hr
    · have hlt := (List.getElem?_eq_some_iff.1 hr).1
      simp at hlt
      have : i = n := by omega
      subst this
      rw [List.getElem?_append_right (by omega), hl, Nat.sub_self] at hr
      simp at hr; rw [← hr]; exact hq
theorem open_____uint8 {H : Type} {enc : TypeId × Value → H} {W : World} {base : Nat} {v : Value} {d : DataW H} {p : List MemPlace}
    (hv : Value.okWide Try.prog W .any base 94 v) (h : DataW.Trod enc Try.prog W 0 (fun _ => true) true 94 v d p) :
    ∃ y : Option Addr × Nat × List Part, v = .slice y.1 y.2.2.length y.2.1 ∧ PartsAt W y := by
  obtain ⟨a0, len0, cap0, rfl⟩ := okWide_slice Try.underlying94 hv
  obtain ⟨fuel, hf⟩ := h
  have hc1 : Try.prog.cellsOf 23 = 1 := by kernel_rfl
  rcases DataW.trod_slice Try.underlying94 hf with ⟨hcs, _⟩ | ⟨a, len, cap, elems, rest, n, _, hcs, _, _, hl, hm, hlen, hel, _, _⟩
  · simp [Value.cells] at hcs
    obtain ⟨rfl, rfl, rfl⟩ := hcs
    exact ⟨(none, 0, []), rfl, by simp, by simp [maxLen], by simp, .inl rfl⟩
  · simp [Value.cells] at hcs
    obtain ⟨rfl, rfl, rfl⟩ := hcs
    have each : ∀ i, i < len0 → ∃ q : Part, W.cell? (a.add i) = some (partV q) ∧ Sl W q.1 q.2.1 q.2.2 := by
      intro i hi
      have h1 := hel i hi
      rw [List.getElem?_eq_getElem (by omega), hc1, Nat.mul_one, Option.bind_eq_some_iff] at h1
      obtain ⟨cs', hcs, hy'⟩ := h1
      obtain ⟨A, c, bs, rfl, hs⟩ := open_bytes_cs hy'
      exact ⟨(A, c, bs), cell_of_cells?_one hcs, hs⟩
    obtain ⟨ps, hpl, hps⟩ := build_parts len0 each
    refine ⟨(some a, cap0, ps), by simp [hpl], by simp [hpl]; exact hl, hm, ?_, ?_⟩
    · intro q hq
      obtain ⟨i, hi⟩ := List.getElem?_of_mem hq
      exact (hps i q hi).2
    · by_cases h0 : len0 = 0
      · exact .inl (by simp [List.eq_nil_of_length_eq_zero (l := ps) (by omega)])
      · obtain ⟨q0, hc0, _⟩ := each 0 (by omega)
        obtain ⟨b, o, spot⟩ := a
        have hspot : spot = none := by simpa [Addr.add] using World.cell?_spot hc0
        subst hspot
        refine .inr ⟨b, o, rfl, ?_, fun j u hu => ?_⟩
        · rcases Nat.lt_or_ge b W.heap.size with hlt | hge
          · exact hlt
          · rw [add_none] at hc0
            simp [World.cell?, Array.getElem?_eq_none hge] at hc0
        · rw [List.getElem?_map] at hu
          cases hq : ps[j]? with
          | none => simp [hq] at hu
          | some q =>
            simp [hq] at hu
            rw [← hu, ← add_none]
            exact (hps j q hq).1
end Go.Proofs.Ytkgbhlppadpdfaa

/- Two operations of a region that draws its order, free to go in either order, whose ways meet again: what is behind them once. Over any program. -/
namespace Go.Proofs.Ytkgbhlppadpdfaa
open Go.RowKit
set_option maxRecDepth 100000
set_option linter.unusedVariables false
theorem put_comm' (a : Act) {d1 d2 : Nat} (h : d1 ≠ d2) (v1 v2 : Value) : (a.put (some d2) v2).put (some d1) v1 = (a.put (some d1) v1).put (some d2) v2 := by
  simp only [Act.put]
  rw [Array.setIfInBounds_comm _ _ (Ne.symm h)]
/-- what an operation owes -/
def Does (P : Program) (ops : Array Oper) (Q : Exit → Act → World → Prop) (o : Oper) (K : Act → World → Prop) (a : Act) (w : World) : Prop :=
  if Region.wanted o (yielded ops a.tmps) = true then Oper.wp P o a w K Q else K (a.put o.dst undef) w
theorem regB_join {P : Program} {ops : Array Oper} {Q : Exit → Act → World → Prop} (i j d1 d2 : Nat) {o o' : Oper} {B fuel : Nat} {listed : Array Bool} {a : Act} {w : World} (J : Value → Value → World → Prop)
    (hi : ops[i]? = some o) (hj : ops[j]? = some o') (hne : d1 ≠ d2) (hij : i ≠ j)
    (hr : Region.ready .any ops listed = [i, j]) (hr1 : Region.ready .any ops (listed.setIfInBounds i true) = [j]) (hr2 : Region.ready .any ops (listed.setIfInBounds j true) = [i])
    (h1 : ∀ K : Act → World → Prop, Hid (∀ v1 w1, Below B w w1 → (∀ K2 : Act → World → Prop, Hid (∀ v2 w2, Below B w1 w2 → J v1 v2 w2 → K2 ((a.put (some d1) v1).put (some d2) v2) w2) → Does P ops Q o' K2 (a.put (some d1) v1) w1) → K (a.put (some d1) v1) w1) → Does P ops Q o K a w)
    (h2 : ∀ K : Act → World → Prop, Hid (∀ v2 w1, Below B w w1 → (∀ K2 : Act → World → Prop, Hid (∀ v1 w2, Below B w1 w2 → J v1 v2 w2 → K2 ((a.put (some d2) v2).put (some d1) v1) w2) → Does P ops Q o K2 (a.put (some d2) v2) w1) → K (a.put (some d2) v2) w1) → Does P ops Q o' K a w)
    (h : ∀ v1 v2 w', Below B w w' → J v1 v2 w' → RegB P ops Q B fuel ((listed.setIfInBounds i true).setIfInBounds j true) ((a.put (some d1) v1).put (some d2) v2) w') :
    RegB P ops Q B (fuel + 2) listed a w := by
  refine regB_eff2 i j hi hj hr (fun K hK => h1 K fun v1 w1 hE hst => ?_) (fun K hK => h2 K fun v2 w1 hE hst => ?_)
  · exact hK.out _ _ hE (regB_eff j hj hr1 fun K2 hK2 => hst K2 fun v2 w2 hE2 hJ => hK2.out _ _ hE2 (h v1 v2 w2 (hE.trans hE2) hJ))
  · refine hK.out _ _ hE (regB_eff i hi hr2 fun K2 hK2 => hst K2 fun v1 w2 hE2 hJ => hK2.out _ _ hE2 ?_)
    rw [put_comm' a hne, Array.setIfInBounds_comm _ _ (Ne.symm hij)]
    exact h v1 v2 w2 (hE.trans hE2) hJ
section
variable {P : Program} {ops : Array Oper} {Q : Exit → Act → World → Prop}
theorem inv_anyH {S : World → Prop} (J : (Nat → Bool) → Act → World → Prop) (hb : below? ops.toList 0 = true) (steps : AllOps (StepOK P ops Q J) ops.toList 0) (hS : ∀ L a w, J L a w → S w) (done : ∀ L a w, (∀ j, L j = true) → J L a w → Q .normal a w) :
    ∀ (fuel : Nat) (listed : Array Bool) (a : Act) (w : World), listed.size = ops.size → listed.toList.count false ≤ fuel → J (fun j => listed.getD j true) a w → wpAnyH P .any ops Q S fuel listed a w := by
  have fin : ∀ (listed : Array Bool) (a : Act) (w : World), listed.size = ops.size → J (fun j => listed.getD j true) a w → Region.ready .any ops listed = [] → Q .normal a w := by
    intro listed a w hs hJ hr
    refine done _ a w (fun j => ?_) hJ
    induction j using Nat.strongRecOn with
    | ind j ih =>
      by_cases hj : j < ops.size
      · cases hl : listed.getD j true with
        | true => rfl
        | false =>
          exfalso
          have hm : j ∈ Region.ready .any ops listed := by
            refine mem_ready.2 ⟨hl, ops[j], by simp [hj], fun e he hbi => ?_⟩
            have hlt := below?_get (k := 0) (i := j) (o := ops[j]) hb (by simp [hj]) e he hbi
            rw [Nat.zero_add] at hlt
            have h1 := ih e.on hlt
            have h2 : e.on < listed.size := by omega
            simpa [h2] using h1
          rw [hr] at hm; cases hm
      · have : listed.size ≤ j := by omega
        simp [Array.getElem?_eq_none this]
  intro fuel
  induction fuel with
  | zero =>
    intro listed a w hs hc hJ
    have hr : Region.ready .any ops listed = [] := by
      rw [List.eq_nil_iff_forall_not_mem]
      intro i hi
      have h0 := (mem_ready.1 hi).1
      have hlt : i < listed.size := by
        rcases Nat.lt_or_ge i listed.size with h | h
        · exact h
        · simp [Array.getElem?_eq_none h] at h0
      have hf : listed[i] = false := by simpa [hlt] using h0
      have hmem : false ∈ listed.toList := by rw [← hf]; simp
      have := List.count_pos_iff.2 hmem
      omega
    exact ⟨hr, fin listed a w hs hJ hr⟩
  | succ fuel ih =>
    intro listed a w hs hc hJ
    refine ⟨fin listed a w hs hJ, fun i hi => ?_⟩
    obtain ⟨h0, o, ho, hall⟩ := mem_ready.1 hi
    have hlt : i < listed.size := by
      rcases Nat.lt_or_ge i listed.size with h | h
      · exact h
      · simp [Array.getElem?_eq_none h] at h0
    have hst := steps.get (i := i) (o := o) (by simpa using ho)
    rw [Nat.zero_add] at hst
    refine wpOp_step ho fun K hK => hst _ a w hJ h0 (fun e he hbi => ?_) K fun a' w' hJ' => hK a' w' ⟨hS _ _ _ hJ', ?_⟩
    · have := hall e he hbi
      rcases Nat.lt_or_ge e.on listed.size with h' | h'
      · simpa [h'] using this
      · simp [Array.getElem?_eq_none h']
    · refine ih _ a' w' (by simpa using hs) ?_ ?_
      · have hf : listed[i] = false := by simpa [hlt] using h0
        rw [Array.toList_setIfInBounds, List.count_set (by simpa using hlt)]
        have e1 : (listed.toList[i]'(by simpa using hlt)) = false := by simpa using hf
        rw [e1, if_pos (by rfl), if_neg (by decide)]
        omega
      · have e : (fun j => (listed.setIfInBounds i true).getD j true) = (fun j => if j = i then true else listed.getD j true) := funext fun j => getD_set_true listed i j
        rw [e]; exact hJ'
theorem regB_inv {B fuel : Nat} {listed : Array Bool} {a : Act} {w : World} (J : (Nat → Bool) → Act → World → Prop) (hs : listed.size = ops.size) (hc : listed.toList.count false ≤ fuel) (hb : below? ops.toList 0 = true)
    (hS : ∀ L a' w', J L a' w' → Below B w w') (h0 : J (fun j => listed.getD j true) a w) (steps : AllOps (StepOK P ops Q J) ops.toList 0) (done : ∀ L a w, (∀ j, L j = true) → J L a w → Q .normal a w) : RegB P ops Q B fuel listed a w :=
  inv_anyH J hb steps hS done fuel listed a w hs hc h0
end
end Go.Proofs.Ytkgbhlppadpdfaa

/- The contracts of sha.finish, sha.Sum. -/
namespace Go.Proofs.Ytkgbhlppadpdfaa
open Go.RowKit
set_option maxRecDepth 100000
set_option linter.unusedVariables false
set_option linter.unusedSimpArgs false
/-- the sum of a message of n bytes, of which h has all whole blocks and r the others -/
def finishL (h : List W32) (r : List UInt8) (n : Nat) : List UInt8 := outL (wholeN h (r ++ padL n) ((r.length + (padK n + 8)) / 64))
theorem ne_own (a k : Nat) {n c : Nat} : some a ≠ (Value.slice (some ⟨a + k + 1, 0, none⟩) n c).ownBlock := by
  simp [Value.ownBlock]; omega
theorem ge_own (a k : Nat) {n c : Nat} : ∀ g, (Value.slice (some ⟨a + k, 0, none⟩) n c).ownBlock = some g → a ≤ g := by
  intro g hg; simp [Value.ownBlock] at hg; omega
theorem sl_mk {w : World} {A : Option Addr} {n c : Nat} {bs : List UInt8} (hl : bs.length = n) (h1 : n ≤ c) (h2 : c ≤ maxLen) (hr : RowAt w w.heap.size A (bs.map bv)) : Sl w A c bs := ⟨by omega, h2, hr⟩
theorem own_below {w w' : World} {base : Nat} {e : TypeId} {s : Nat} {v : Value} {n : Nat} {xs : List Value} (h : w.ownsRow base e s v n xs) (hb : Below w.heap.size w w') : w'.ownsRow base e s v n xs := by
  obtain ⟨h0, h | ⟨g, cap, cur, hv, hg, hh, r⟩⟩ := h
  · exact ⟨h0, .inl h⟩
  · exact ⟨h0, .inr ⟨g, cap, cur, hv, hg, (hb.block _ (lt_of_heap hh)).trans hh, r⟩⟩
end Go.Proofs.Ytkgbhlppadpdfaa

/- Own rows of bytes, opened, and turned at one place. -/
namespace Go.Proofs.Ytkgbhlppadpdfaa
open Go.RowKit
set_option maxRecDepth 100000
set_option linter.unusedVariables false
set_option linter.unusedSimpArgs false
theorem o_sl_set {w : World} {g c k : Nat} {bs : List UInt8} {cur : Array Value} {t : TypeId} {fr : Nat × Nat} {x : UInt8} (h : Sl w (some ⟨g, 0, none⟩) c bs) (hc : w.heap[g]? = some (.cells cur t fr)) (hk : k < bs.length) :
    Sl (w.setCell ⟨g, k, none⟩ (.int .u8 (x.toNat : Int))) (some ⟨g, 0, none⟩) c (bs.set k x) := by
  obtain ⟨h1, h2, h3⟩ := h
  obtain ⟨b, o, he, hb, hcell⟩ := h3.at_ (by simpa using (by omega : 0 < bs.length))
  injection he with he
  injection he with he1 he2
  subst he1; subst he2
  refine ⟨by simpa using h1, h2, .inr ⟨g, 0, rfl, by simpa using hb, fun j u hu => ?_⟩⟩
  rw [List.getElem?_map, List.getElem?_set] at hu
  by_cases hj : k = j
  · subst hj
    simp [hk] at hu
    have hck := hcell k (bv bs[k]) (by simp [hk])
    rw [Nat.zero_add] at hck ⊢
    have hsz : k < cur.size := by
      simp only [World.cell?, hc] at hck
      rcases Nat.lt_or_ge k cur.size with h | h
      · exact h
      · simp [Array.getElem?_eq_none h] at hck
    simp [World.cell?, World.setCell, Array.getElem?_modify, hc, hsz, ← hu, bv]
  · rw [if_neg hj, ← List.getElem?_map] at hu
    rw [World.cell?_setCell_other _ _ _ _ (fun e => hj (by injection e with e1 e2; omega))]
    exact hcell j u hu
theorem o_open {w : World} {base : Nat} {v : Value} {n : Nat} {bs : List UInt8} (h : w.ownsRow base 5 1 v n (bs.map bv)) (hn : 0 < n) :
    ∃ g cap cur, v = .slice (some ⟨g, 0, none⟩) n cap ∧ base ≤ g ∧ w.heap[g]? = some (.cells cur 5 (0, 0)) ∧ Sl w (some ⟨g, 0, none⟩) cap bs ∧ bs.length = n := by
  obtain ⟨h0, ⟨rfl, h00⟩ | ⟨g, cap, cur, rfl, hg, hcur, hnc, hcm, hcs, htk⟩⟩ := h
  · omega
  rw [Nat.mul_one] at htk
  rw [List.length_map, Nat.mul_one] at h0
  refine ⟨g, cap, cur, rfl, hg, hcur, ⟨by omega, hcm, .inr ⟨g, 0, rfl, lt_of_heap hcur, fun j u hu => ?_⟩⟩, h0⟩
  have hj : j < n := by have h1 := (List.getElem?_eq_some_iff.1 hu).1; rw [List.length_map] at h1; omega
  rw [← htk, List.getElem?_take_of_lt hj] at hu
  rw [Nat.zero_add]
  simpa [World.cell?, hcur] using hu
theorem o_sl_cell {w : World} {g c k : Nat} {b : List UInt8} (h : Sl w (some ⟨g, 0, none⟩) c b) (hk : k < b.length) : w.cell? ⟨g, k, none⟩ = some (.int .u8 ((b.getD k 0).toNat : Int)) := by
  obtain ⟨b1, o1, he, _, hc⟩ := h.2.2.at_ (by rw [List.length_map]; omega)
  injection he with he
  injection he with he1 he2
  subst he1; subst he2
  have := hc k (bv b[k]) (by simp [hk])
  rw [Nat.zero_add] at this
  rw [this]; simp [List.getD, hk, bv]
theorem o_load_slice {P : Program} {ty e : TypeId} (hu : P.underlying ty = some (.slice e)) {W : World} {a : Addr} {v : Value} (h : W.cell? a = some v) :
    (Instr.loadAt ty (.pointer (some a))).run P W = .ok v W := by
  simp [Instr.loadAt, Instr.sureAddr, loadVar, isAgg, run_underlying hu, h]
theorem o_open' {w : World} {base : Nat} {v : Value} {n : Nat} {bs : List UInt8} (h : w.ownsRow base 5 1 v n (bs.map bv)) (hn : 0 < n) :
    ∃ g cap cur, v = .slice (some ⟨g, 0, none⟩) n cap ∧ base ≤ g ∧ w.heap[g]? = some (.cells cur 5 (0, 0)) ∧ Sl w (some ⟨g, 0, none⟩) cap bs ∧ n ≤ cap ∧ cur.size = cap ∧ bs.length = n := by
  obtain ⟨h0, ⟨rfl, h00⟩ | ⟨g, cap, cur, rfl, hg, hcur, hnc, hcm, hcs, htk⟩⟩ := h
  · omega
  rw [Nat.mul_one] at htk
  rw [List.length_map, Nat.mul_one] at h0
  refine ⟨g, cap, cur, rfl, hg, hcur, ⟨by omega, hcm, .inr ⟨g, 0, rfl, lt_of_heap hcur, fun j u hu => ?_⟩⟩, hnc, by simpa using hcs, h0⟩
  have hj : j < n := by have h1 := (List.getElem?_eq_some_iff.1 hu).1; rw [List.length_map] at h1; omega
  rw [← htk, List.getElem?_take_of_lt hj] at hu
  rw [Nat.zero_add]
  simpa [World.cell?, hcur] using hu
end Go.Proofs.Ytkgbhlppadpdfaa

/- gcm: wrong, and hash. -/
namespace Go.Proofs.Ytkgbhlppadpdfaa
open Go.RowKit
set_option maxRecDepth 100000
set_option linter.unusedVariables false
set_option linter.unusedSimpArgs false
/-- a key that enciphers, and has rounds -/
def GKey (w : World) (kp : Value) (E : List UInt8 → List UInt8) : Prop :=
  Enc w kp E ∧ ∃ n : Nat, 0 < n ∧ n ≤ 14 ∧ ∀ W, Below w.heap.size w W → Calls Try.prog 42 #[kp] W fun e w' => e = .returned (.int .i64 (n : Int)) ∧ W = w'
theorem GKey.ext {w w' : World} {kp : Value} {E : List UInt8 → List UInt8} (h : GKey w kp E) (hb : Below w.heap.size w w') : GKey w' kp E := by
  obtain ⟨h1, n, h2, h3, h4⟩ := h
  exact ⟨h1.ext hb, n, h2, h3, fun W hW => h4 W (hb.step hW)⟩
theorem KeyAt.gkey {w : World} {g n : Nat} {ws : List W32} (h : KeyAt w g ws n) (hn : 1 ≤ n) (hn2 : n ≤ 14) : GKey w (.pointer (some ⟨g, 0, none⟩)) (encL ws n) :=
  ⟨h.enc hn hn2, n, hn, hn2, fun W hW => rounds_any g ws n W (h.ext hW)⟩
set_option maxHeartbeats 1000000 in
theorem gwrong_any (kp : Value) (E : List UInt8 → List UInt8) (A : Option Addr) (n c : Nat) (w : World) (hE : GKey w kp E) (h0 : 0 < n) :
    Calls Try.prog 28 #[kp, .slice A n c] w fun e w' => e = .returned (.int .i64 0) ∧ w = w' := by
  obtain ⟨_, r, hr, hr2, hR⟩ := hE
  have RN := Lib.hid (hR w (Below.refl _ _))
  have t1 : ((r : Int) == 0) = false := by simp; omega
  have t2 : ((n : Int) == 0) = false := by simp; omega
  clear hR hr h0
  go_enter Try.func28, Try.ntmps28
  go_wp2_with fail
  refine RN.out.mono ?_
  rintro e w1 ⟨rfl, rfl⟩
  go_wp2
  go_ret
  exact ⟨rfl, rfl⟩
set_option maxHeartbeats 1000000 in
theorem gwrong_iv (kp : Value) (E : List UInt8 → List UInt8) (A : Option Addr) (c : Nat) (w : World) (hE : GKey w kp E) :
    Calls Try.prog 28 #[kp, .slice A 0 c] w fun e w' => e = .returned (.int .i64 6) ∧ w = w' := by
  obtain ⟨_, r, hr, hr2, hR⟩ := hE
  have RN := Lib.hid (hR w (Below.refl _ _))
  have t1 : ((r : Int) == 0) = false := by simp; omega
  clear hR hr
  go_enter Try.func28, Try.ntmps28
  go_wp2_with fail
  refine RN.out.mono ?_
  rintro e w1 ⟨rfl, rfl⟩
  go_wp2
  go_ret
  exact ⟨rfl, rfl⟩
/-- bytes with noughts behind, to whole blocks -/
def whG (b : List UInt8) : List UInt8 := b ++ List.replicate (padN b.length) 0
def joinW (ps : List Part) : List UInt8 := ps.flatMap fun q => whG q.2.2
theorem joinW_snoc (ps : List Part) (i : Nat) (q : Part) (h : ps[i]? = some q) : joinW (ps.take (i + 1)) = joinW (ps.take i) ++ whG q.2.2 := by
  rw [List.take_add_one, h, joinW, List.flatMap_append]; simp [joinW]
theorem padN_lt (n : Nat) : padN n < 16 := by unfold padN; omega
set_option maxHeartbeats 4000000 in
theorem ghashR_any (kp : Value) (E : List UInt8 → List UInt8) (A : Option Addr) (C N : Nat) (ps : List Part) (w : World) (hE : Enc w kp E) (hy : PartsAt w (A, C, ps)) (hN : ps.length = N) (hN3 : N ≤ 3) (hL : ∀ q ∈ ps, q.2.2.length ≤ 100000) :
    Calls Try.prog 30 #[kp, .slice A N C] w fun e w' => e = .returned (.agg ((gsumL (E zerB) (joinW ps)).map bv).toArray) ∧ Below w.heap.size w w' := by
  have hz : ∀ W, (zeroValue 33).run Try.prog W = .ok (.agg zeros16.toArray) W := fun W => by kernel_rfl
  have HZL : Hid (zeros16.length = 16) := rfl
  have BD : Hid (∀ W, (Instr.build 33 #[]).run Try.prog W = .ok (.agg (zerB.map bv).toArray) W) := fun W => by kernel_rfl
  have ENC := Lib.hid (fun W hW => hE.2 W hW zerB rfl)
  have HEL := Lib.hid (hE.1 zerB rfl)
  have GS := Lib.hid (fun A n c bs W hl hn hS => gsum_any (E zerB) A n c bs W HEL.out hl hn hS)
  generalize E zerB = EZ at ENC HEL GS ⊢
  generalize zerB.map bv = ZB at BD ENC
  generalize zeros16 = Z at hz HZL
  obtain ⟨h1, h2, h3, h4⟩ := hy
  simp only at h1 h2 h3 h4
  rw [hN] at h1
  have HN := Lib.hid hN; have H3 := Lib.hid h3; have H4 := Lib.hid h4; have HL := Lib.hid hL
  have GL := Lib.hid (gsumL_len EZ (joinW ps))
  obtain ⟨Q, HQ⟩ : ∃ Q, Hid (gsumL EZ (joinW ps) = Q) := ⟨_, rfl⟩
  rw [HQ.out] at GL ⊢
  clear hE hN h1 h2 h3 h4 hL
  have G := Lib.hid (heap_alloc_new' w (.cells Z.toArray 33))
  have GB : Hid (Below w.heap.size w (w.alloc (.cells Z.toArray 33))) := (Below.refl _ _).alloc (Nat.le_refl _) _
  have hs1 : Hid (w.heap.size + 1 ≤ (w.alloc (.cells Z.toArray 33)).heap.size) := by show _ ≤ _; simp
  go_enter Try.func30, Try.ntmps30
  go_upto_region 1 with (fail)
  generalize w.alloc _ = W0 at G GB hs1 ⊢
  go_wp2_with fail
  go_loopw [5, 10] (fun va vi wr => ∃ (i k : Nat) (A' : Option Addr) (c' : Nat), i ≤ N ∧ k ≤ 100016 * i ∧ vi = .int .i64 (i : Int) ∧ va = .slice A' k c' ∧ Hid ((joinW (ps.take i)).length = k) ∧ Hid (wr.ownsRow (w.heap.size + 1) 5 1 (.slice A' k c') k ((joinW (ps.take i)).map bv)) ∧ Hid (Below w.heap.size w wr) ∧
      Hid (wr.heap[w.heap.size]? = some (.cells Z.toArray 33 (0, 0)))) (fun _ i _ => N - (intOf i).toNat)
  case atStart => exact ⟨0, 0, none, 0, by omega, by omega, rfl, rfl, rfl, World.ownsRow_nil _ _ _ _, GB, G⟩
  case round =>
    clear G GB hs1
    obtain ⟨i, k, A', c', hi, hk, rfl, rfl, HK, HO, HB, HR⟩ := hrel
    by_cases hlt : i < N
    · have q1 : (i : Int) < (N : Int) := by omega
      obtain ⟨q, hq⟩ : ∃ q, ps[i]? = some q := ⟨_, List.getElem?_eq_getElem (by rw [HN.out]; exact hlt)⟩
      obtain ⟨b, o, rfl, hb, hc⟩ := H4.out.at_ (by rw [List.length_map, HN.out]; omega)
      have hSq := H3.out q (List.mem_of_getElem? hq)
      have hLq := HL.out q (List.mem_of_getElem? hq)
      have c1 : wr.cell? ⟨b, o + i, none⟩ = some (partV q) := (HB.out.cell hb).trans (hc i _ (by rw [List.getElem?_map, hq]; rfl))
      have hj := joinW_snoc ps i q hq
      obtain ⟨Aq, cq, bq⟩ := q
      obtain ⟨m, hm⟩ : ∃ m, bq.length = m := ⟨_, rfl⟩
      have c1' : wr.cell? ⟨b, o + i, none⟩ = some (.slice Aq m cq) := by rw [c1, ← hm]; rfl
      simp only at hSq hLq hj
      rw [hm] at hLq
      have HJ := Lib.hid hj; have HM := Lib.hid hm; have HSQ := Lib.hid (hSq.below HB.out); have HC1 := Lib.hid c1'
      have hs2 : Hid (w.heap.size + 1 ≤ wr.heap.size) := lt_of_heap HR.out
      have hkm : k + m ≤ 2147483647 := by omega
      clear hj hm hSq hq hc c1 c1' hb
      have c1 := HC1.out
      go_upto_region 6 with (
        at_builtin
        refine wpList_app8 rfl (.tmp 14) (.tmp 15) rfl (w.heap.size + 1) _ k (joinW (ps.take i)) rfl ?_ Aq m cq wr.heap.size bq rfl ?_ ?_ ?_ ?_ ?_
        · exact HO.out
        · exact HSQ.out.2.2
        · exact HM.out
        · exact hkm
        · exact hs2.out
        rintro v3 w3 hown hgr
        have HO3 := Lib.hid hown
        have HB3 : Hid (Below w.heap.size w w3) := HB.out.grown hgr HB.out.size (c_own_ge HO.out (Nat.le_succ _))
        have HR3 := Lib.hid ((hgr.block _ (lt_of_heap HR.out) (c_own_ne HO.out (Nat.lt_succ_self _))).trans HR.out)
        clear hown hgr)
      clear c1 HC1 HSQ HO HB HR hs2
      obtain ⟨A3, c3, rfl, hl3, h31, h32, hr3⟩ := own_read HO3.out
      clear hl3 h31 h32 hr3
      have hs3 : Hid (w.heap.size + 1 ≤ w3.heap.size) := lt_of_heap HR3.out
      have PD := Lib.hid (fun W => gpad_any m W (by omega))
      obtain ⟨p, hp⟩ : ∃ p, padN m = p := ⟨_, rfl⟩
      rw [hp] at PD
      have hp16 : p < 16 := by rw [← hp]; exact padN_lt m
      have HP := Lib.hid hp
      have hkm2 : k + m + p ≤ 2147483647 := by omega
      clear hp
      go_wp2_with fail
      refine (PD.out w3).mono ?_
      rintro e w4 ⟨rfl, rfl⟩
      go_upto_region 7 with (
        at_builtin
        refine wpList_app0 rfl (.tmp 17) (.tmp 20) rfl (w.heap.size + 1) _ (k + m) (joinW (ps.take i) ++ bq) rfl ?_ p rfl ?_ ?_ ?_
        · exact HO3.out
        · exact hkm2
        · exact hs3.out
        rintro v5 w5 hown hgr
        have HO5 := Lib.hid hown
        have HB5 : Hid (Below w.heap.size w w5) := HB3.out.grown hgr HB3.out.size (c_own_ge HO3.out (Nat.le_succ _))
        have HR5 := Lib.hid ((hgr.block _ (lt_of_heap HR3.out) (c_own_ne HO3.out (Nat.lt_succ_self _))).trans HR3.out)
        clear hown hgr)
      have HJ' : Hid (joinW (ps.take i) ++ bq ++ List.replicate p 0 = joinW (ps.take (i + 1))) := by show _ = _; rw [HJ.out, whG, HM.out, HP.out, List.append_assoc]
      have HO5' := HO5.out
      rw [HJ'.out] at HO5'
      obtain ⟨k', hk'⟩ : ∃ k', k + m + p = k' := ⟨_, rfl⟩
      rw [hk'] at HO5'
      obtain ⟨A5, c5, rfl, hl5, h51, h52, hr5⟩ := own_read HO5'
      have HO6 := Lib.hid HO5'
      have HL5 := Lib.hid hl5
      clear h51 h52 hr5 HO5' HO5 HO3 hl5
      have hk2 : k' ≤ 100016 * (i + 1) := by omega
      clear hkm hkm2
      go_wp2
      go_roundw
      case rel => exact ⟨i + 1, k', A5, c5, by omega, hk2, by go_num, rfl, HL5, HO6, HB5, HR5⟩
      case measure => simp [intOf]; omega
    · have hiN : i = N := by omega
      have HO' := HO.out
      have HK' := HK.out
      rw [List.take_of_length_le (by rw [HN.out]; omega)] at HO' HK'
      obtain ⟨A3, c3, he, hl3, h31, h32, hr3⟩ := own_read HO'
      injection he with he1 he2 he3
      subst he1; subst he3
      have HS3 := Lib.hid (sl_mk hl3 h31 h32 hr3)
      have HKJ := Lib.hid HK'
      clear hl3 h31 h32 hr3 he2 HO HO' HK HK' hiN
      generalize joinW ps = JW at HS3 HKJ HQ
      have q1 : ¬ ((i : Int) < (N : Int)) := by omega
      go_wp2_with (first
        | (refine wpList_run (o := ⟨some 24, _, _, _, _, _⟩) rfl (v := .agg ZB.toArray) (w' := wr) (exec_bld rfl (by simp only [List.map_toArray, List.map_nil]; exact BD.out wr)) ?_)
        | fail)
      refine (ENC.out wr HB.out).mono ?_
      rintro e w2 ⟨rfl, hb⟩
      have B2 : Hid (Below w.heap.size w w2) := HB.out.step hb
      have R2 := Lib.hid ((hb.block _ (lt_of_heap HR.out)).trans HR.out)
      have S2 := Lib.hid (HS3.out.below hb)
      clear hb HB HR HS3 ENC
      go_wp2_with fail
      refine (GS.out A' k c' JW w2 HKJ.out (by omega) S2.out).mono ?_
      rw [HQ.out]
      rintro e w3 ⟨rfl, hb⟩
      have B3 : Hid (Below w.heap.size w w3) := B2.out.step hb
      have R3 := Lib.hid ((hb.block _ (lt_of_heap R2.out)).trans R2.out)
      clear hb B2 R2 S2 GS
      go_wp2_with (first
        | (refine wpList_st rfl 33 (.tmp 4) (.tmp 27) rfl (store_arr (cs := Q.map bv) (i16c Q GL.out) (bv_one _) R3.out (by rw [List.length_map, GL.out]; exact HZL.out)) ?_))
      have hres := setRow_heap w3 w.heap.size _ (Q.map bv).toArray 33 _ R3.out
      exact bodyPost_ret (results_cell_row (P := Try.prog) rfl _ _ w.heap.size 33 (Q.map bv).toArray (0, 0) _ rfl hres arr16B rfl (by rw [List.size_toArray]; exact i16c Q GL.out)) rfl ⟨rfl, B3.out.trans (grown_below (grown_setRow _ _ _) (Nat.le_refl _) B3.out.size)⟩
end Go.Proofs.Ytkgbhlppadpdfaa

/- gcm: counter, and crypt. -/
namespace Go.Proofs.Ytkgbhlppadpdfaa
open Go.RowKit
set_option maxRecDepth 100000
set_option linter.unusedVariables false
set_option linter.unusedSimpArgs false
/-- the first counter and n more -/
def cntG (F : List UInt8) (n : Nat) : List UInt8 := F.take 12 ++ putBig (big (F.drop 12) + n) 4
theorem cntG_len (F : List UInt8) (n : Nat) (h : F.length = 16) : (cntG F n).length = 16 := by simp [cntG, putBig_len, h]
theorem cntG_splice (F : List UInt8) (n : Nat) (h : F.length = 16) : splice (F.map bv) 12 ((putBig (big (F.drop 12) + n) 4).map bv) = (cntG F n).map bv := by
  have h1 : F = F.take 12 ++ F.drop 12 := (List.take_append_drop 12 F).symm
  have h2 : (F.take 12).length = 12 := by rw [List.length_take, h]; rfl
  have h3 : (F.drop 12).length = 4 := by rw [List.length_drop, h]
  unfold cntG
  generalize big (F.drop 12) + n = x
  generalize F.take 12 = A at h1 h2 ⊢
  generalize F.drop 12 = D at h1 h3
  rw [h1, List.map_append, List.map_append]
  have := splice_split (A.map bv) (D.map bv) [] ((putBig x 4).map bv) (by simp [h3, putBig_len])
  rw [List.length_map, h2, List.append_nil, List.append_nil] at this
  exact this
theorem bigF_lt (D : List UInt8) (h : D.length = 4) : big D < 4294967296 := by
  unfold big
  rw [h, show 4 - 8 = 0 from rfl, List.drop_zero]
  have := bigN_lt D
  rw [h] at this
  simpa using this
set_option maxHeartbeats 2000000 in
theorem gcounter_any (F : List UInt8) (n : Nat) (w : World) (hF : F.length = 16) (hn : n ≤ 1000000) :
    Calls Try.prog 53 #[.agg (F.map bv).toArray, .int .i64 (n : Int)] w fun e w' => e = .returned (.agg ((cntG F n).map bv).toArray) ∧ Below w.heap.size w w' := by
  have hz : ∀ W, (zeroValue 33).run Try.prog W = .ok (.agg zeros16.toArray) W := fun W => by kernel_rfl
  have HZL : Hid (zeros16.length = 16) := rfl
  generalize zeros16 = Z at hz HZL
  have HFL := Lib.hid hF
  have D4 : Hid ((F.drop 12).length = 4) := by show _ = _; rw [List.length_drop, hF]
  have BG := Lib.hid (fun A c W h1 h2 hr => big_n A 4 c (F.drop 12) W D4.out h1 h2 hr)
  have hx := bigF_lt (F.drop 12) D4.out
  have PB := Lib.hid (fun W => putBig_any (big (F.drop 12) + n) 4 W (by omega) (by omega))
  have HSP := Lib.hid (cntG_splice F n hF)
  have HCL := Lib.hid (cntG_len F n hF)
  have HPL := Lib.hid (putBig_len (big (F.drop 12) + n) 4)
  generalize cntG F n = R at HSP HCL ⊢
  generalize putBig (big (F.drop 12) + n) 4 = T at PB HSP HPL
  obtain ⟨x, hx0⟩ : ∃ x, big (F.drop 12) = x := ⟨_, rfl⟩
  rw [hx0] at BG hx PB
  obtain ⟨y, hy⟩ : ∃ y, y = x + n := ⟨_, rfl⟩
  rw [← hy] at PB
  have u1 : (x : Int) + (n : Int) = (y : Int) := by omega
  have u2 : IntKind.u64.wrap (y : Int) = (y : Int) := by rw [IntKind.wrap_u64]; omega
  have u3 : IntKind.u64.wrap (n : Int) = (n : Int) := by rw [IntKind.wrap_u64]; omega
  have hy6 : (y : Int) ≤ 5000000000 := by omega
  clear hF hx0 hx hn hy
  have G := Lib.hid (heap2 w (.cells (F.map bv).toArray 33) (.cells Z.toArray 33))
  go_enter Try.func53, Try.ntmps53
  go_upto_region 1 with (fail)
  generalize hV : (w.alloc _).alloc _ = W0 at G ⊢
  clear hV
  have sl := arr_from arr16B s8 ⟨w.heap.size, 0, none⟩ .i64 12 (by omega) (by omega)
  rw [show (12 : Int).toNat = 12 from rfl, show cutA ⟨w.heap.size, 0, none⟩ 16 12 = ⟨w.heap.size, 12, none⟩ from by unfold cutA; rw [if_neg (by omega), Addr.add_mid]] at sl
  have H0 : Hid (W0.drew.heap[w.heap.size]? = _) := G.out.1
  have H1 : Hid (W0.drew.heap[w.heap.size + 1]? = _) := G.out.2.1
  have HB : Hid (Below w.heap.size w W0.drew) := G.out.2.2.drew
  have HX : Hid (Below w.heap.size W0.drew W0.drew) := Below.refl _ _
  have HSR : Hid (Sl W0.drew (some ⟨w.heap.size, 12, none⟩) 4 (F.drop 12)) := by
    have h := row_sub H0.out 12 4 (lt_of_heap H0.out)
    rw [List.take_of_length_le (by rw [D4.out]; omega)] at h
    exact ⟨by rw [D4.out]; omega, by decide, h⟩
  refine regB_start (w.heap.size) (by kernel_rfl) ?_
  try simp only [Act.put, List.setIfInBounds_toArray, List.set_cons_zero, List.set_cons_succ]
  refine regB_take (v := ?_) 0 (some 5) rfl rfl (by kernel_rfl) (by kernel_rfl) (by kernel_rfl) (fun _ _ _ h => h) (by rfl) (fun W hW => ?_) ?_
  rotate_left
  · (go_simp; try rfl)
  simp only [Act.put, List.setIfInBounds_toArray, List.set_cons_zero, List.set_cons_succ]
  refine regB_take (v := ?_) 1 (some 6) rfl rfl (by kernel_rfl) (by kernel_rfl) (by kernel_rfl) (fun _ _ _ h => h) (by rfl) (fun W hW => ?_) ?_
  rotate_left
  · (go_simp; try rfl)
  simp only [Act.put, List.setIfInBounds_toArray, List.set_cons_zero, List.set_cons_succ]
  refine regB_take (v := ?_) 3 (some 8) rfl rfl (by kernel_rfl) (by kernel_rfl) (by kernel_rfl) (fun _ _ _ h => h) (by rfl) (fun W hW => ?_) ?_
  rotate_left
  · (go_simp; try rfl)
  simp only [Act.put, List.setIfInBounds_toArray, List.set_cons_zero, List.set_cons_succ]
  refine regB_take (v := ?_) 4 (some 9) rfl rfl (by kernel_rfl) (by kernel_rfl) (by kernel_rfl) (fun _ _ _ h => h) (by rfl) (fun W hW => ?_) ?_
  rotate_left
  · (go_simp; try rfl)
  simp only [Act.put, List.setIfInBounds_toArray, List.set_cons_zero, List.set_cons_succ]
  refine regB_eff 2 rfl (by kernel_rfl) (fun K hK => ?_)
  go_simp
  refine (BG.out _ 4 _ (by omega) (by decide) HSR.out.2.2).mono ?_
  rintro e w2 ⟨rfl, hb⟩
  have H0 := Lib.hid ((hb.block _ (lt_of_heap H0.out)).trans H0.out)
  have H1 := Lib.hid ((hb.block _ (lt_of_heap H1.out)).trans H1.out)
  have hE := hb.mono HB.out.size
  have HB := Lib.hid (HB.out.step hb)
  clear hb
  refine hK.out _ _ hE ?_
  have HX := Lib.hid (Below.trans HX.out hE)
  clear hE hK K
  try simp only [Act.put, List.setIfInBounds_toArray, List.set_cons_zero, List.set_cons_succ]
  refine regB_take (v := ?_) 5 (some 10) rfl rfl (by kernel_rfl) (by kernel_rfl) (by kernel_rfl) (fun _ _ _ h => h) (by rfl) (fun W hW => ?_) ?_
  rotate_left
  · (go_simp; try rfl)
  simp only [Act.put, List.setIfInBounds_toArray, List.set_cons_zero, List.set_cons_succ]
  refine regB_eff 6 rfl (by kernel_rfl) (fun K hK => ?_)
  go_simp
  refine (PB.out w2).mono ?_
  rintro e w3 ⟨g, hg, rfl, hk, hb⟩
  have H0 := Lib.hid ((hb.block _ (lt_of_heap H0.out)).trans H0.out)
  have H1 := Lib.hid ((hb.block _ (lt_of_heap H1.out)).trans H1.out)
  have hE := hb.mono HB.out.size
  have HB := Lib.hid (HB.out.step hb)
  have HT := Lib.hid hk
  clear hb hg hk
  refine hK.out _ _ hE ?_
  have HX := Lib.hid (Below.trans HX.out hE)
  clear hE hK K
  try simp only [Act.put, List.setIfInBounds_toArray, List.set_cons_zero, List.set_cons_succ]
  refine regB_eff 7 rfl (by kernel_rfl) (fun K hK => ?_)
  obtain ⟨w5, hrun, hblk, _, hgr⟩ := copy_run uT s8 (sT := 23) 3 w3 w.heap.size 12 (F.map bv) 33 H0.out (some ⟨w.heap.size, 12, none⟩) (some ⟨g, 0, none⟩) 4 4 4 4 w3.heap.size (T.map bv) (by rw [List.length_map, HPL.out]; rfl) (fun _ => rfl) (sl_row HPL.out (by omega) HT.out).2.2 (by rw [List.length_map, List.length_map, HPL.out, HFL.out]; omega) (bv_one _)
  rw [HSP.out] at hblk
  have E2 := Lib.hid hblk
  have E3 := Lib.hid ((hgr.block _ (lt_of_heap H1.out) (by simp)).trans H1.out)
  have hE : Below w.heap.size w3 w5 := grown_below hgr (Nat.le_refl _) HB.out.size
  have HB := Lib.hid (HB.out.trans hE)
  refine step_cpy rfl (.tmp 5) (.tmp 11) 23 23 rfl hrun ?_
  clear hrun hblk hgr
  refine hK.out _ _ hE ?_
  have HX := Lib.hid (Below.trans HX.out hE)
  clear hE hK K
  try simp only [Act.put, List.setIfInBounds_toArray, List.set_cons_zero, List.set_cons_succ]
  refine regB_done (by kernel_rfl) ?_
  simp only [List.getElem_toArray, List.getElem_cons_succ, List.getElem_cons_zero, Act.put, List.setIfInBounds_toArray, List.set_cons_zero, List.set_cons_succ]
  go_wp2_with (first
    | (refine wpList_ld rfl 33 (.tmp 2) rfl (load_arr arr16B rfl (i16c R HCL.out) E2.out) ?_)
    | (refine wpList_st rfl 33 (.tmp 4) (.tmp 13) rfl (store_arr (cs := R.map bv) (i16c R HCL.out) (bv_one _) E3.out (by rw [List.length_map, HCL.out]; exact HZL.out)) ?_))
  have hres := setRow_heap w5 (w.heap.size + 1) _ (R.map bv).toArray 33 _ E3.out
  exact bodyPost_ret (results_cell_row (P := Try.prog) rfl _ _ (w.heap.size + 1) 33 (R.map bv).toArray (0, 0) _ rfl hres arr16B rfl (by rw [List.size_toArray]; exact i16c R HCL.out)) rfl ⟨rfl, HB.out.trans (grown_below (grown_setRow _ _ _) (by omega) HB.out.size)⟩
end Go.Proofs.Ytkgbhlppadpdfaa
