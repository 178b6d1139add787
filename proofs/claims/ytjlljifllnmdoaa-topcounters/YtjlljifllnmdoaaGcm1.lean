/- gcm: wrong, and hash. -/
import Derived.Test.YtjlljifllnmdoaaCtr2
import Derived.Test.YtjlljifllnmdoaaGha4
import Derived.Test.YtjlljifllnmdoaaRefG3
import Derived.Test.YtjlljifllnmdoaaLiftP
import Derived.Test.YtjlljifllnmdoaaApp
import Derived.Test.YtjlljifllnmdoaaReg5
import Derived.Test.YtjlljifllnmdoaaOwn
namespace Go.Proofs.Ytjlljifllnmdoaa
open Go.RowKit
set_option maxRecDepth 100000
set_option linter.unusedVariables false
set_option linter.unusedSimpArgs false
/-- a key that enciphers, and has rounds -/
def GKey (w : World) (kp : Value) (E : List UInt8 → List UInt8) : Prop :=
  Enc w kp E ∧ ∃ n : Nat, 0 < n ∧ n ≤ 14 ∧ ∀ W, Below w.heap.size w W → Calls Try.prog 38 #[kp] W fun e w' => e = .returned (.int .i64 (n : Int)) ∧ W = w'
theorem GKey.ext {w w' : World} {kp : Value} {E : List UInt8 → List UInt8} (h : GKey w kp E) (hb : Below w.heap.size w w') : GKey w' kp E := by
  obtain ⟨h1, n, h2, h3, h4⟩ := h
  exact ⟨h1.ext hb, n, h2, h3, fun W hW => h4 W (hb.step hW)⟩
theorem KeyAt.gkey {w : World} {g n : Nat} {ws : List W32} (h : KeyAt w g ws n) (hn : 1 ≤ n) (hn2 : n ≤ 14) : GKey w (.pointer (some ⟨g, 0, none⟩)) (encL ws n) :=
  ⟨h.enc hn hn2, n, hn, hn2, fun W hW => rounds_any g ws n W (h.ext hW)⟩
set_option maxHeartbeats 1000000 in
theorem gwrong_any (kp : Value) (E : List UInt8 → List UInt8) (A : Option Addr) (n c : Nat) (w : World) (hE : GKey w kp E) (h0 : 0 < n) :
    Calls Try.prog 31 #[kp, .slice A n c] w fun e w' => e = .returned (.int .i64 0) ∧ w = w' := by
  obtain ⟨_, r, hr, hr2, hR⟩ := hE
  have RN := Lib.hid (hR w (Below.refl _ _))
  have t1 : ((r : Int) == 0) = false := by simp; omega
  have t2 : ((n : Int) == 0) = false := by simp; omega
  clear hR hr h0
  go_enter Try.func31, Try.ntmps31
  go_wp2_with fail
  refine RN.out.mono ?_
  rintro e w1 ⟨rfl, rfl⟩
  go_wp2
  go_ret
  exact ⟨rfl, rfl⟩
set_option maxHeartbeats 1000000 in
theorem gwrong_iv (kp : Value) (E : List UInt8 → List UInt8) (A : Option Addr) (c : Nat) (w : World) (hE : GKey w kp E) :
    Calls Try.prog 31 #[kp, .slice A 0 c] w fun e w' => e = .returned (.int .i64 6) ∧ w = w' := by
  obtain ⟨_, r, hr, hr2, hR⟩ := hE
  have RN := Lib.hid (hR w (Below.refl _ _))
  have t1 : ((r : Int) == 0) = false := by simp; omega
  clear hR hr
  go_enter Try.func31, Try.ntmps31
  go_wp2_with fail
  refine RN.out.mono ?_
  rintro e w1 ⟨rfl, rfl⟩
  go_wp2
  go_ret
  exact ⟨rfl, rfl⟩
/-- bytes with noughts behind, to whole blocks -/
def whG (b : List UInt8) : List UInt8 := b ++ List.replicate (padN b.length) 0
def joinW (ps : List Part) : List UInt8 := ps.flatMap fun q => whG q.2.2
theorem joinW_snoc (ps : List Part) (i : Nat) (q : Part) (h : ps[i]? = some q) : joinW (ps.take (i + 1)) = joinW (ps.take i) ++ whG q.2.2 := by
  rw [List.take_add_one, h, joinW, List.flatMap_append]; simp [joinW]
theorem padN_lt (n : Nat) : padN n < 16 := by unfold padN; omega
set_option maxHeartbeats 4000000 in
theorem ghashR_any (kp : Value) (E : List UInt8 → List UInt8) (A : Option Addr) (C N : Nat) (ps : List Part) (w : World) (hE : Enc w kp E) (hy : PartsAt w (A, C, ps)) (hN : ps.length = N) (hN3 : N ≤ 3) (hL : ∀ q ∈ ps, q.2.2.length ≤ 100000) :
    Calls Try.prog 32 #[kp, .slice A N C] w fun e w' => e = .returned (.agg ((gsumL (E zerB) (joinW ps)).map bv).toArray) ∧ Below w.heap.size w w' := by
  have hz : ∀ W, (zeroValue 23).run Try.prog W = .ok (.agg zeros16.toArray) W := fun W => by kernel_rfl
  have HZL : Hid (zeros16.length = 16) := rfl
  have BD : Hid (∀ W, (Instr.build 23 #[]).run Try.prog W = .ok (.agg (zerB.map bv).toArray) W) := fun W => by kernel_rfl
  have ENC := Lib.hid (fun W hW => hE.2 W hW zerB rfl)
  have HEL := Lib.hid (hE.1 zerB rfl)
  have GS := Lib.hid (fun A n c bs W hl hn hS => gsum_any (E zerB) A n c bs W HEL.out hl hn hS)
  generalize E zerB = EZ at ENC HEL GS ⊢
  generalize zerB.map bv = ZB at BD ENC
  generalize zeros16 = Z at hz HZL
  obtain ⟨h1, h2, h3, h4⟩ := hy
  simp only at h1 h2 h3 h4
  rw [hN] at h1
  have HN := Lib.hid hN; have H3 := Lib.hid h3; have H4 := Lib.hid h4; have HL := Lib.hid hL
  have GL := Lib.hid (gsumL_len EZ (joinW ps))
  obtain ⟨Q, HQ⟩ : ∃ Q, Hid (gsumL EZ (joinW ps) = Q) := ⟨_, rfl⟩
  rw [HQ.out] at GL ⊢
  clear hE hN h1 h2 h3 h4 hL
  have G := Lib.hid (heap_alloc_new' w (.cells Z.toArray 23))
  have GB : Hid (Below w.heap.size w (w.alloc (.cells Z.toArray 23))) := (Below.refl _ _).alloc (Nat.le_refl _) _
  have hs1 : Hid (w.heap.size + 1 ≤ (w.alloc (.cells Z.toArray 23)).heap.size) := by show _ ≤ _; simp
  go_enter Try.func32, Try.ntmps32
  go_upto_region 1 with (fail)
  generalize w.alloc _ = W0 at G GB hs1 ⊢
  go_wp2_with fail
  go_loopw [5, 10] (fun va vi wr => ∃ (i k : Nat) (A' : Option Addr) (c' : Nat), i ≤ N ∧ k ≤ 100016 * i ∧ vi = .int .i64 (i : Int) ∧ va = .slice A' k c' ∧ Hid ((joinW (ps.take i)).length = k) ∧ Hid (wr.ownsRow (w.heap.size + 1) 5 1 (.slice A' k c') k ((joinW (ps.take i)).map bv)) ∧ Hid (Below w.heap.size w wr) ∧
      Hid (wr.heap[w.heap.size]? = some (.cells Z.toArray 23 (0, 0)))) (fun _ i _ => N - (intOf i).toNat)
  case atStart => exact ⟨0, 0, none, 0, by omega, by omega, rfl, rfl, rfl, World.ownsRow_nil _ _ _ _, GB, G⟩
  case round =>
    clear G GB hs1
    obtain ⟨i, k, A', c', hi, hk, rfl, rfl, HK, HO, HB, HR⟩ := hrel
    by_cases hlt : i < N
    · have q1 : (i : Int) < (N : Int) := by omega
      obtain ⟨q, hq⟩ : ∃ q, ps[i]? = some q := ⟨_, List.getElem?_eq_getElem (by rw [HN.out]; exact hlt)⟩
      obtain ⟨b, o, rfl, hb, hc⟩ := H4.out.at_ (by rw [List.length_map, HN.out]; omega)
      have hSq := H3.out q (List.mem_of_getElem? hq)
      have hLq := HL.out q (List.mem_of_getElem? hq)
      have c1 : wr.cell? ⟨b, o + i, none⟩ = some (partV q) := (HB.out.cell hb).trans (hc i _ (by rw [List.getElem?_map, hq]; rfl))
      have hj := joinW_snoc ps i q hq
      obtain ⟨Aq, cq, bq⟩ := q
      obtain ⟨m, hm⟩ : ∃ m, bq.length = m := ⟨_, rfl⟩
      have c1' : wr.cell? ⟨b, o + i, none⟩ = some (.slice Aq m cq) := by rw [c1, ← hm]; rfl
      simp only at hSq hLq hj
      rw [hm] at hLq
      have HJ := Lib.hid hj; have HM := Lib.hid hm; have HSQ := Lib.hid (hSq.below HB.out); have HC1 := Lib.hid c1'
      have hs2 : Hid (w.heap.size + 1 ≤ wr.heap.size) := lt_of_heap HR.out
      have hkm : k + m ≤ 2147483647 := by omega
      clear hj hm hSq hq hc c1 c1' hb
      have c1 := HC1.out
      go_upto_region 6 with (
        at_builtin
        refine wpList_app8 rfl (.tmp 14) (.tmp 15) rfl (w.heap.size + 1) _ k (joinW (ps.take i)) rfl ?_ Aq m cq wr.heap.size bq rfl ?_ ?_ ?_ ?_ ?_
        · exact HO.out
        · exact HSQ.out.2.2
        · exact HM.out
        · exact hkm
        · exact hs2.out
        rintro v3 w3 hown hgr
        have HO3 := Lib.hid hown
        have HB3 : Hid (Below w.heap.size w w3) := HB.out.grown hgr HB.out.size (c_own_ge HO.out (Nat.le_succ _))
        have HR3 := Lib.hid ((hgr.block _ (lt_of_heap HR.out) (c_own_ne HO.out (Nat.lt_succ_self _))).trans HR.out)
        clear hown hgr)
      clear c1 HC1 HSQ HO HB HR hs2
      obtain ⟨A3, c3, rfl, hl3, h31, h32, hr3⟩ := own_read HO3.out
      clear hl3 h31 h32 hr3
      have hs3 : Hid (w.heap.size + 1 ≤ w3.heap.size) := lt_of_heap HR3.out
      have PD := Lib.hid (fun W => gpad_any m W (by omega))
      obtain ⟨p, hp⟩ : ∃ p, padN m = p := ⟨_, rfl⟩
      rw [hp] at PD
      have hp16 : p < 16 := by rw [← hp]; exact padN_lt m
      have HP := Lib.hid hp
      have hkm2 : k + m + p ≤ 2147483647 := by omega
      clear hp
      go_wp2_with fail
      refine (PD.out w3).mono ?_
      rintro e w4 ⟨rfl, rfl⟩
      go_upto_region 7 with (
        at_builtin
        refine wpList_app0 rfl (.tmp 17) (.tmp 20) rfl (w.heap.size + 1) _ (k + m) (joinW (ps.take i) ++ bq) rfl ?_ p rfl ?_ ?_ ?_
        · exact HO3.out
        · exact hkm2
        · exact hs3.out
        rintro v5 w5 hown hgr
        have HO5 := Lib.hid hown
        have HB5 : Hid (Below w.heap.size w w5) := HB3.out.grown hgr HB3.out.size (c_own_ge HO3.out (Nat.le_succ _))
        have HR5 := Lib.hid ((hgr.block _ (lt_of_heap HR3.out) (c_own_ne HO3.out (Nat.lt_succ_self _))).trans HR3.out)
        clear hown hgr)
      have HJ' : Hid (joinW (ps.take i) ++ bq ++ List.replicate p 0 = joinW (ps.take (i + 1))) := by show _ = _; rw [HJ.out, whG, HM.out, HP.out, List.append_assoc]
      have HO5' := HO5.out
      rw [HJ'.out] at HO5'
      obtain ⟨k', hk'⟩ : ∃ k', k + m + p = k' := ⟨_, rfl⟩
      rw [hk'] at HO5'
      obtain ⟨A5, c5, rfl, hl5, h51, h52, hr5⟩ := own_read HO5'
      have HO6 := Lib.hid HO5'
      have HL5 := Lib.hid hl5
      clear h51 h52 hr5 HO5' HO5 HO3 hl5
      have hk2 : k' ≤ 100016 * (i + 1) := by omega
      clear hkm hkm2
      go_wp2
      go_roundw
      case rel => exact ⟨i + 1, k', A5, c5, by omega, hk2, by go_num, rfl, HL5, HO6, HB5, HR5⟩
      case measure => simp [intOf]; omega
    · have hiN : i = N := by omega
      have HO' := HO.out
      have HK' := HK.out
      rw [List.take_of_length_le (by rw [HN.out]; omega)] at HO' HK'
      obtain ⟨A3, c3, he, hl3, h31, h32, hr3⟩ := own_read HO'
      injection he with he1 he2 he3
      subst he1; subst he3
      have HS3 := Lib.hid (sl_mk hl3 h31 h32 hr3)
      have HKJ := Lib.hid HK'
      clear hl3 h31 h32 hr3 he2 HO HO' HK HK' hiN
      generalize joinW ps = JW at HS3 HKJ HQ
      have q1 : ¬ ((i : Int) < (N : Int)) := by omega
      go_wp2_with (first
        | (refine wpList_run (o := ⟨some 24, _, _, _, _, _⟩) rfl (v := .agg ZB.toArray) (w' := wr) (exec_bld rfl (by simp only [List.map_toArray, List.map_nil]; exact BD.out wr)) ?_)
        | fail)
      refine (ENC.out wr HB.out).mono ?_
      rintro e w2 ⟨rfl, hb⟩
      have B2 : Hid (Below w.heap.size w w2) := HB.out.step hb
      have R2 := Lib.hid ((hb.block _ (lt_of_heap HR.out)).trans HR.out)
      have S2 := Lib.hid (HS3.out.below hb)
      clear hb HB HR HS3 ENC
      go_wp2_with fail
      refine (GS.out A' k c' JW w2 HKJ.out (by omega) S2.out).mono ?_
      rw [HQ.out]
      rintro e w3 ⟨rfl, hb⟩
      have B3 : Hid (Below w.heap.size w w3) := B2.out.step hb
      have R3 := Lib.hid ((hb.block _ (lt_of_heap R2.out)).trans R2.out)
      clear hb B2 R2 S2 GS
      go_wp2_with (first
        | (refine wpList_st rfl 23 (.tmp 4) (.tmp 27) rfl (store_arr (cs := Q.map bv) (i16c Q GL.out) (bv_one _) R3.out (by rw [List.length_map, GL.out]; exact HZL.out)) ?_))
      have hres := setRow_heap w3 w.heap.size _ (Q.map bv).toArray 23 _ R3.out
      exact bodyPost_ret (results_cell_row (P := Try.prog) rfl _ _ w.heap.size 23 (Q.map bv).toArray (0, 0) _ rfl hres arr16B rfl (by rw [List.size_toArray]; exact i16c Q GL.out)) rfl ⟨rfl, B3.out.trans (grown_below (grown_setRow _ _ _) (Nat.le_refl _) B3.out.size)⟩
end Go.Proofs.Ytjlljifllnmdoaa
