/- Laws of layer 8: part by part bytes are done as the whole. -/
import Derived.Test.YtbmhmjgomgkamaaCtr3
import Derived.Test.YtbmhmjgomgkamaaApp
import Derived.Test.YtbmhmjgomgkamaaLawsT2
namespace Go.Proofs.Ytbmhmjgomgkamaa
open Go.RowKit
set_option linter.unusedVariables false
set_option linter.unusedSimpArgs false
def c_join (ps : List Part) : List UInt8 := ps.flatMap (·.2.2)
theorem c_join_snoc (ps : List Part) (i : Nat) (q : Part) (h : ps[i]? = some q) : c_join (ps.take (i + 1)) = c_join (ps.take i) ++ q.2.2 := by
  rw [List.take_add_one, h, c_join, List.flatMap_append]; simp [c_join]
theorem ka_other {w w' : World} {g : Nat} {ws : List W32} {n : Nat} (h : KeyAt w g ws n) (hb : w'.heap[g]? = w.heap[g]?) : KeyAt w' g ws n := ⟨h.1, hb.trans h.2⟩
theorem kz_other {W W' : World} {g : Nat} {k n : List UInt8} {b : Bool} (h : KZ W g k b n) (hs : W.heap.size ≤ W'.heap.size) (hb : W'.heap[g]? = W.heap[g]?) : KZ W' g k b n := by
  have hc : ∀ i, W'.cell? ⟨g, i, none⟩ = W.cell? ⟨g, i, none⟩ := fun i => World.cell?_of_block (w := W) hb
  exact ⟨Nat.lt_of_lt_of_le h.1 hs, fun j v hv => (hc _).trans (h.2.1 j v hv), (hc _).trans h.2.2.1, fun j v hv => (hc _).trans (h.2.2.2 j v hv)⟩
set_option maxHeartbeats 4000000 in
theorem ctrParts_walk (w : World) (y : List UInt8 × Bool × List UInt8) (l : y.1.length = 32 ∧ y.2.2.length = 16) (z : Option Addr × Nat × List Part) (hy : PartsAt w z) :
    Calls Try.prog 4 #[.agg (kCells y.1 y.2.1 y.2.2).toArray, .slice z.1 z.2.2.length z.2.1] w fun e w' => e = .returned (.bool true) ∧ Below w.heap.size w w' := by
  obtain ⟨k, lg, iv⟩ := y
  obtain ⟨hk, hn⟩ := l
  obtain ⟨A, C, ps⟩ := z
  simp only at hk hn hy ⊢
  obtain ⟨h1, h2, h3, h4⟩ := hy
  simp only at h1 h2 h3 h4
  obtain ⟨N, hN⟩ : ∃ N, ps.length = N := ⟨_, rfl⟩
  rw [hN] at h1 ⊢
  have HKS := Lib.hid (fun W => keys_any k lg iv W hk hn)
  have HZL := Lib.hid (kCells_len k iv lg hk hn)
  have Z0 := Lib.hid (kz_new w k iv lg 25 hk hn)
  have HR : Hid (1 ≤ keyW lg + 6 ∧ keyW lg + 6 ≤ 14) := by show _ ∧ _; cases lg <;> simp [keyW]
  have HIV := Lib.hid hn
  clear hk hn
  generalize kCells k lg iv = Z at HKS HZL Z0 ⊢
  generalize keyW lg + 6 = nr at HKS HR
  generalize expandL (keyB k lg) = ws at HKS
  by_cases hbig : 20 < N
  · have e1 : (20 : Int) < (N : Int) := by omega
    clear hN h1 h2 h3 h4
    go_enter Try.func4, Try.ntmps4
    go_wp2
    go_ret
    exact ⟨rfl, (Below.refl _ _).alloc (Nat.le_refl _) _⟩
  have e1 : ¬ ((20 : Int) < (N : Int)) := by omega
  have HN := Lib.hid hN; have H3 := Lib.hid h3; have H4 := Lib.hid h4
  have hN20 : N ≤ 20 := by omega
  clear hN h1 h2 h3 h4 hbig
  go_enter Try.func4, Try.ntmps4
  go_wp2_with (first
    | (refine wpList_ld rfl 25 (.tmp 2) rfl (load_arr Try.underlying25 rfl (by rw [HZL.out]; exact iKey) (heap_alloc_new' w _)) ?_)
    | fail)
  generalize hV : w.alloc _ = Wa at Z0 ⊢
  have Ba := Lib.hid (below_of_alloc hV (Nat.le_refl w.heap.size))
  clear hV
  refine (HKS.out Wa).mono ?_
  rintro e W0 ⟨gk, rfl, hgk, hK, hb0⟩
  have K0 := Lib.hid hK
  have B0 := Lib.hid (Ba.out.step hb0)
  have Z0 := Lib.hid (Z0.out.ext hb0)
  have HGK : Hid (w.heap.size ≤ gk) := Nat.le_trans Ba.out.size hgk
  clear hK hb0 Ba HKS hgk
  go_wp2_with (first
    | (refine wpList_ld rfl 23 (.tmp 23) rfl (run_loadAt_mid W0 w.heap.size 33 23 (iv.map bv) _ Z0.out.2.2.2 arr16B rfl (i16z iv HIV.out)) ?_)
    | fail)
  refine (cnew_any gk nr ws iv W0 K0.out HIV.out).mono ?_
  rintro e W1 ⟨g, rfl, hg, hst, hb1⟩
  have ST1 := Lib.hid hst
  have K1 := Lib.hid (KeyAt.enc (K0.out.ext hb1) HR.out.1 HR.out.2)
  have B1 := Lib.hid (B0.out.step hb1)
  have Z1 := Lib.hid (Z0.out.ext hb1)
  have HG : Hid (w.heap.size < g) := Nat.lt_of_lt_of_le Z0.out.1 hg
  have HGK1 : Hid (gk < g) := Nat.lt_of_lt_of_le (lt_of_heap K0.out.2) hg
  have KA1 := Lib.hid (K0.out.ext hb1)
  clear hst hb1 hg B0 Z0 K0 K1
  have CS := Lib.hid (fun p A m c bs W hl hp hS H => cstr_any g nr p ws iv A m c bs W HR.out.1 HR.out.2 hl hp hS H)
  have CA := Lib.hid (fun p W H => cat_any g nr p ws iv W H)
  have CW := Lib.hid (fun A m c bs W hl hm hS (H : KeyAt W gk ws nr) => Crypt_any (.pointer (some ⟨gk, 0, none⟩)) (encL ws nr) iv A m c bs W HIV.out (H.enc HR.out.1 HR.out.2) hl hm hS)
  generalize strmF (encL ws nr) iv = F at CS CW
  go_wp2_with fail
  go_loopw [8, 9, 10] (fun v8 v9 vi wr => ∃ (i s : Nat) (A8 A9 : Option Addr) (c8 c9 : Nat), i ≤ N ∧ s ≤ 60 * i ∧ vi = .int .i64 (i : Int) ∧ v8 = .slice A8 s c8 ∧ v9 = .slice A9 s c9 ∧ Hid ((c_join (ps.take i)).length = s) ∧
      Hid (wr.ownsRow (g + 1) 5 1 (.slice A8 s c8) s ((c_join (ps.take i)).map bv)) ∧ Hid (wr.ownsRow (g + 1) 5 1 (.slice A9 s c9) s ((ctrL F 0 (c_join (ps.take i))).map bv)) ∧ Hid (Two (.slice A8 s c8) (.slice A9 s c9)) ∧
      Hid (StrAt wr g ws nr iv s) ∧ Hid (KeyAt wr gk ws nr) ∧ Hid (KZ wr w.heap.size k lg iv) ∧ Hid (Below w.heap.size w wr)) (fun _ _ i _ => N - (intOf i).toNat)
  case atStart => exact ⟨0, 0, none, none, 0, 0, by omega, by omega, rfl, rfl, rfl, rfl, World.ownsRow_nil _ _ _ _, World.ownsRow_nil _ _ _ _, two_nil _, ST1, KA1, Z1, B1⟩
  case round =>
    clear ST1 KA1 Z1 B1
    obtain ⟨i, s, A8, A9, c8, c9, hi, hs, rfl, rfl, rfl, HS, O8, O9, TW, ST, KA, ZK, HB⟩ := hrel
    by_cases hlt : i < N
    · have q1 : (i : Int) < (N : Int) := by omega
      obtain ⟨q, hq⟩ : ∃ q, ps[i]? = some q := ⟨_, List.getElem?_eq_getElem (by rw [HN.out]; exact hlt)⟩
      obtain ⟨b, o, rfl, hb, hc⟩ := H4.out.at_ (by rw [List.length_map, HN.out]; omega)
      have hSq := H3.out q (List.mem_of_getElem? hq)
      have c1 : wr.cell? ⟨b, o + i, none⟩ = some (partV q) := (HB.out.cell hb).trans (hc i _ (by rw [List.getElem?_map, hq]; rfl))
      have hj := c_join_snoc ps i q hq
      obtain ⟨Aq, cq, bq⟩ := q
      obtain ⟨m, hm⟩ : ∃ m, bq.length = m := ⟨_, rfl⟩
      have c1' : wr.cell? ⟨b, o + i, none⟩ = some (.slice Aq m cq) := by rw [c1, ← hm]; rfl
      have HJ := Lib.hid hj; have HM := Lib.hid hm; have HSQ := Lib.hid hSq; have HC1 := Lib.hid c1'
      have HBB := Lib.hid hb
      clear hj hm hSq hq hc c1 c1' hb
      by_cases hm2 : 60 < m
      · have q2 : (60 : Int) < (m : Int) := by omega
        have c1 := HC1.out
        go_wp2
        go_ret
        exact ⟨rfl, HB.out⟩
      · have q2 : ¬ ((60 : Int) < (m : Int)) := by omega
        have HC2 : Hid (∀ W, Below w.heap.size wr W → W.cell? ⟨b, o + i, none⟩ = some (.slice Aq m cq)) := fun W hW => (hW.cell HBB.out).trans HC1.out
        have c1 := HC1.out
        have hsm : s + m ≤ 2147483647 := by omega
        have hsN : s + m ≤ 60 * (i + 1) := by omega
        have HJ' : Hid (c_join (ps.take i) ++ bq = c_join (ps.take (i + 1))) := HJ.out.symm
        have HCJ : Hid (ctrL F 0 (c_join (ps.take i)) ++ ctrL F s bq = ctrL F 0 (c_join (ps.take (i + 1)))) := by show _ = _; rw [← HJ'.out, ctrL_append, HS.out, Nat.zero_add]
        have HLJ : Hid ((c_join (ps.take (i + 1))).length = s + m) := by show _ = _; rw [← HJ'.out, List.length_append, HS.out, HM.out]
        have HLC : Hid ((ctrL F s bq).length = m) := by show _ = _; rw [ctrL_len, HM.out]
        have CSq := Lib.hid (fun W hS H => CS.out s Aq m cq bq W HM.out hsm hS H)
        obtain ⟨X8, hX8⟩ : ∃ X8, c_join (ps.take (i + 1)) = X8 := ⟨_, rfl⟩
        rw [hX8] at HJ' HCJ HLJ
        have HX8 := Lib.hid hX8
        obtain ⟨s2, hs2⟩ : ∃ s2, s2 = s + m := ⟨_, rfl⟩
        rw [← hs2] at HLJ hsN CSq
        have HS2 := Lib.hid hs2
        have SR := Lib.hid (HSQ.out.below HB.out)
        have hq2 : ((s2 : Int) != (s2 : Int)) = false := by simp
        clear hX8 hs2 HJ
        go_wp2_with (
          at_builtin
          refine wpList_app8_at rfl (.tmp 38) (.tmp 42) rfl (g + 1) _ s (c_join (ps.take i)) rfl O8.out Aq m cq wr.heap.size bq rfl SR.out.2.2 HM.out hsm ST.out.lt ?_
          rintro v8 w2 hown hgr hat
          rw [HJ'.out, ← HS2.out] at hown
          obtain ⟨A82, c82, rfl, _⟩ := own_read hown
          have O82 := Lib.hid hown
          have O92 := Lib.hid (two_own O9.out hgr TW.out)
          have TW2 := Lib.hid (two_step O9.out TW.out hat)
          have HB2 := Lib.hid (HB.out.grown hgr HB.out.size (c_own_ge O8.out (Nat.le_succ_of_le (Nat.le_of_lt HG.out))))
          have ST2 := Lib.hid (ST.out.other (hgr.block _ ST.out.lt (c_own_ne O8.out (Nat.lt_succ_self g))))
          have KA2 := Lib.hid (ka_other KA.out (hgr.block _ (lt_of_heap KA.out.2) (c_own_ne O8.out (Nat.lt_succ_of_lt HGK1.out))))
          have ZK2 := Lib.hid (kz_other ZK.out hgr.size (hgr.block _ ZK.out.1 (c_own_ne O8.out (Nat.lt_succ_of_lt HG.out))))
          have c2 := HC2.out w2 ⟨hgr.os, hgr.tape, hgr.output, hgr.size, fun x hx => hgr.block x (Nat.lt_of_lt_of_le hx HB.out.size) (c_own_ne O8.out (Nat.lt_succ_of_lt (Nat.lt_trans hx HG.out)))⟩
          have SR2 := Lib.hid (HSQ.out.below HB2.out)
          clear hown hgr hat)
        refine (CSq.out w2 SR2.out ST2.out).mono ?_
        rintro e w3 ⟨v, rfl, hO, hst, hgr⟩
        obtain ⟨A5, c5, rfl, hl5, hc5, hm5, hr5⟩ := own_read hO
        have R5 := Lib.hid hr5
        have ST3 := Lib.hid hst
        have O83 := Lib.hid (c_own_gr O82.out hgr (Nat.lt_succ_self g))
        have O93 := Lib.hid (c_own_gr O92.out hgr (Nat.lt_succ_self g))
        have HB3 : Hid (Below w.heap.size w w3) := HB2.out.trans (grown_below hgr (Nat.le_of_lt HG.out) HB2.out.size)
        have KA3 := Lib.hid (ka_other KA2.out (hgr.block _ (lt_of_heap KA2.out.2) (fun e => by injection e with e; exact absurd e (Nat.ne_of_lt HGK1.out))))
        have ZK3 := Lib.hid (kz_other ZK2.out hgr.size (hgr.block _ ZK2.out.1 (fun e => by injection e with e; exact absurd e (Nat.ne_of_lt HG.out))))
        clear hO hst hgr hl5 hc5 hm5 hr5 O8 O9 TW HB ST KA ZK c1 O82 O92 HB2 ST2 KA2 ZK2 c2 SR SR2
        have CAq := Lib.hid (fun W H => CA.out s2 W H)
        go_wp2_with (
          at_builtin
          refine wpList_app8_at rfl (.tmp 44) (.tmp 50) rfl (g + 1) _ s (ctrL F 0 (c_join (ps.take i))) rfl O93.out A5 m c5 w3.heap.size (ctrL F s bq) rfl R5.out HLC.out hsm ST3.out.lt ?_
          rintro v9 w4 hown hgr hat
          rw [HCJ.out, ← HS2.out] at hown
          obtain ⟨A94, c94, rfl, _⟩ := own_read hown
          have O94 := Lib.hid hown
          have O84 := Lib.hid (two_own O83.out hgr TW2.out.symm)
          have TW4 := Lib.hid (two_step O83.out TW2.out.symm hat).symm
          have HB4 := Lib.hid (HB3.out.grown hgr HB3.out.size (c_own_ge O93.out (Nat.le_succ_of_le (Nat.le_of_lt HG.out))))
          have ST4 := Lib.hid (ST3.out.other (hgr.block _ ST3.out.lt (c_own_ne O93.out (Nat.lt_succ_self g))))
          have KA4 := Lib.hid (ka_other KA3.out (hgr.block _ (lt_of_heap KA3.out.2) (c_own_ne O93.out (Nat.lt_succ_of_lt HGK1.out))))
          have ZK4 := Lib.hid (kz_other ZK3.out hgr.size (hgr.block _ ZK3.out.1 (c_own_ne O93.out (Nat.lt_succ_of_lt HG.out))))
          clear hown hgr hat)
        refine (CAq.out w4 ST4.out).mono ?_
        rintro e w5 ⟨rfl, rfl⟩
        clear O83 O93 TW2 HB3 ST3 KA3 ZK3
        go_wp2_with fail
        go_roundw
        case rel =>
          refine ⟨i + 1, s2, A82, A94, c82, c94, by omega, hsN, by go_num, rfl, rfl, ?_, ?_, ?_, TW4, ST4, KA4, ZK4, HB4⟩
          · rw [HX8.out]; exact HLJ
          · rw [HX8.out]; exact O84
          · rw [HX8.out]; exact O94
        case measure => simp [intOf]; omega
    · have q1 : ¬ ((i : Int) < (N : Int)) := by omega
      have hs31 : s ≤ 2147483647 := by omega
      obtain ⟨A3, c3, he, hl3, h31, h32, hr3⟩ := own_read O8.out
      injection he with he1 he2 he3
      subst he1; subst he3
      have S8 : Hid (Sl wr A8 c8 (c_join (ps.take i))) := ⟨by omega, h32, hr3⟩
      clear hl3 h31 h32 hr3 he2 O8
      obtain ⟨A3, c3, he, hl3, h31, h32, hr3⟩ := own_read O9.out
      injection he with he1 he2 he3
      subst he1; subst he3
      have S9 : Hid (Sl wr A9 c9 (ctrL F 0 (c_join (ps.take i)))) := ⟨by omega, h32, hr3⟩
      clear hl3 h31 h32 hr3 he2 O9 TW
      have HLC : Hid ((ctrL F 0 (c_join (ps.take i))).length = s) := by show _ = _; rw [ctrL_len]; exact HS.out
      have CWq := Lib.hid (fun A c W hS H => CW.out A s c (c_join (ps.take i)) W HS.out hs31 hS H)
      generalize ctrL F 0 (c_join (ps.take i)) = X9 at S9 HLC CWq
      generalize c_join (ps.take i) = X8 at HS S8 CWq
      go_wp2_with fail
      have HX : Hid (Ext wr wr.drew) := (Below.refl _ _).drew
      have hq : ((strOf X9).toList == (strOf X9).toList) = true := beq_self_eq_true _
      refine reg_start (by kernel_rfl) ?_
      try simp only [Act.put, List.setIfInBounds_toArray, List.set_cons_zero, List.set_cons_succ]
      refine reg_take (v := ?_) 0 (some 57) rfl rfl (by kernel_rfl) (by kernel_rfl) (by kernel_rfl) (fun _ _ _ h => h) (by rfl) (fun W hW => ?_) ?_
      rotate_left
      · (go_simp; try rfl)
      simp only [Act.put, List.setIfInBounds_toArray, List.set_cons_zero, List.set_cons_succ]
      refine reg_conv 1 (some 58) (fun W hW => conv_string W A9 s c9 X9 HLC.out (S9.out.extk (HX.out.trans hW))) rfl rfl rfl rfl (by kernel_rfl) (by kernel_rfl) (by kernel_rfl) (fun _ _ _ h => h) (by rfl) ?_
      simp only [Act.put, List.setIfInBounds_toArray, List.set_cons_zero, List.set_cons_succ]
      refine reg_take (v := ?_) 2 (some 59) rfl rfl (by kernel_rfl) (by kernel_rfl) (by kernel_rfl) (fun _ _ _ h => h) (by rfl) (fun W hW => ?_) ?_
      rotate_left
      · (go_simp; try rfl)
      simp only [Act.put, List.setIfInBounds_toArray, List.set_cons_zero, List.set_cons_succ]
      refine reg_take (v := ?_) 3 (some 60) rfl rfl (by kernel_rfl) (by kernel_rfl) (by kernel_rfl) (fun _ _ _ h => h) (by rfl) (fun W hW => ?_) ?_
      rotate_left
      · (go_simp; try rfl)
      simp only [Act.put, List.setIfInBounds_toArray, List.set_cons_zero, List.set_cons_succ]
      refine reg_load 4 (some 61) (fun W hW => run_loadAt_mid W w.heap.size 33 23 (iv.map bv) _ (ZK.out.ext (HX.out.trans hW)).2.2.2 arr16B rfl (i16z iv HIV.out)) rfl rfl rfl rfl (by kernel_rfl) (by kernel_rfl) (by kernel_rfl) (fun _ _ _ h => h) (by rfl) ?_
      simp only [Act.put, List.setIfInBounds_toArray, List.set_cons_zero, List.set_cons_succ]
      refine reg_take (v := ?_) 5 (some 62) rfl rfl (by kernel_rfl) (by kernel_rfl) (by kernel_rfl) (fun _ _ _ h => h) (by rfl) (fun W hW => ?_) ?_
      rotate_left
      · (go_simp; try rfl)
      simp only [Act.put, List.setIfInBounds_toArray, List.set_cons_zero, List.set_cons_succ]
      refine reg_eff 6 rfl (by kernel_rfl) (fun K hK => ?_)
      go_simp
      refine (CWq.out _ _ _ (S8.out.extk HX.out) (KA.out.ext HX.out)).mono ?_
      rintro e w5 ⟨v5, rfl, hO5, hE⟩
      obtain ⟨A5, c5, rfl, hl5, hc5, hm5, hr5⟩ := own_read hO5
      have S5 : Hid (Sl w5 A5 c5 X9) := ⟨by omega, hm5, hr5⟩
      clear hO5 hc5 hm5 hr5 hl5
      refine hK.out _ _ hE ?_
      have HX := Lib.hid (Ext.trans HX.out hE)
      clear hE hK K
      try simp only [Act.put, List.setIfInBounds_toArray, List.set_cons_zero, List.set_cons_succ]
      refine reg_conv 7 (some 64) (fun W hW => conv_string W A5 s c5 X9 HLC.out (S5.out.extk hW)) rfl rfl rfl rfl (by kernel_rfl) (by kernel_rfl) (by kernel_rfl) (fun _ _ _ h => h) (by rfl) ?_
      simp only [Act.put, List.setIfInBounds_toArray, List.set_cons_zero, List.set_cons_succ]
      refine reg_take (v := ?_) 8 (some 65) rfl rfl (by kernel_rfl) (by kernel_rfl) (by kernel_rfl) (fun _ _ _ h => h) (by rfl) (fun W hW => ?_) ?_
      rotate_left
      · (go_simp; try rfl)
      simp only [Act.put, List.setIfInBounds_toArray, List.set_cons_zero, List.set_cons_succ]
      refine reg_take (v := ?_) 9 (some 66) rfl rfl (by kernel_rfl) (by kernel_rfl) (by kernel_rfl) (fun _ _ _ h => h) (by rfl) (fun W hW => ?_) ?_
      rotate_left
      · (go_simp; try rfl)
      simp only [Act.put, List.setIfInBounds_toArray, List.set_cons_zero, List.set_cons_succ]
      refine reg_take (v := ?_) 10 (some 67) rfl rfl (by kernel_rfl) (by kernel_rfl) (by kernel_rfl) (fun _ _ _ h => h) (by rfl) (fun W hW => ?_) ?_
      rotate_left
      · (go_simp; try rfl)
      simp only [Act.put, List.setIfInBounds_toArray, List.set_cons_zero, List.set_cons_succ]
      refine reg_eff 11 rfl (by kernel_rfl) (fun K hK => ?_)
      go_simp
      have hE : Ext w5 (w5.alloc (.cells #[.int .u8 1] 5)) := (Below.refl _ _).alloc (Nat.le_refl _) _
      refine hK.out _ _ hE ?_
      have HX := Lib.hid (Ext.trans HX.out hE)
      clear hE hK K
      try simp only [Act.put, List.setIfInBounds_toArray, List.set_cons_zero, List.set_cons_succ]
      refine reg_eff 12 rfl (by kernel_rfl) (fun K hK => ?_)
      go_simp
      refine (cstr_nil _ _ _ _).mono ?_
      rintro e w7 ⟨rfl, rfl⟩
      have hE : Ext (w5.alloc (.cells #[.int .u8 1] 5)) (w5.alloc (.cells #[.int .u8 1] 5)) := Below.refl _ _
      refine hK.out _ _ hE ?_
      have HX := Lib.hid (Ext.trans HX.out hE)
      clear hE hK K
      try simp only [Act.put, List.setIfInBounds_toArray, List.set_cons_zero, List.set_cons_succ]
      refine reg_take (v := ?_) 13 (some 70) rfl rfl (by kernel_rfl) (by kernel_rfl) (by kernel_rfl) (fun _ _ _ h => h) (by rfl) (fun W hW => ?_) ?_
      rotate_left
      · (go_simp; try rfl)
      simp only [Act.put, List.setIfInBounds_toArray, List.set_cons_zero, List.set_cons_succ]
      refine reg_take (v := ?_) 14 (some 71) rfl rfl (by kernel_rfl) (by kernel_rfl) (by kernel_rfl) (fun _ _ _ h => h) (by rfl) (fun W hW => ?_) ?_
      rotate_left
      · (go_simp; try rfl)
      simp only [Act.put, List.setIfInBounds_toArray, List.set_cons_zero, List.set_cons_succ]
      refine reg_take (v := ?_) 15 (some 72) rfl rfl (by kernel_rfl) (by kernel_rfl) (by kernel_rfl) (fun _ _ _ h => h) (by rfl) (fun W hW => ?_) ?_
      rotate_left
      · (go_simp; try rfl)
      simp only [Act.put, List.setIfInBounds_toArray, List.set_cons_zero, List.set_cons_succ]
      refine reg_take (v := ?_) 16 (some 73) rfl rfl (by kernel_rfl) (by kernel_rfl) (by kernel_rfl) (fun _ _ _ h => h) (by rfl) (fun W hW => ?_) ?_
      rotate_left
      · (go_simp; try rfl)
      simp only [Act.put, List.setIfInBounds_toArray, List.set_cons_zero, List.set_cons_succ]
      refine reg_take (v := ?_) 17 (some 74) rfl rfl (by kernel_rfl) (by kernel_rfl) (by kernel_rfl) (fun _ _ _ h => h) (by rfl) (fun W hW => ?_) ?_
      rotate_left
      · (go_simp; try rfl)
      simp only [Act.put, List.setIfInBounds_toArray, List.set_cons_zero, List.set_cons_succ]
      refine reg_eff 18 rfl (by kernel_rfl) (fun K hK => ?_)
      go_simp
      refine (cat_nil _).mono ?_
      rintro e w8 ⟨rfl, rfl⟩
      have hE : Ext (w5.alloc (.cells #[.int .u8 1] 5)) (w5.alloc (.cells #[.int .u8 1] 5)) := Below.refl _ _
      refine hK.out _ _ hE ?_
      have HX := Lib.hid (Ext.trans HX.out hE)
      clear hE hK K
      try simp only [Act.put, List.setIfInBounds_toArray, List.set_cons_zero, List.set_cons_succ]
      refine reg_take (v := ?_) 19 (some 76) rfl rfl (by kernel_rfl) (by kernel_rfl) (by kernel_rfl) (fun _ _ _ h => h) (by rfl) (fun W hW => ?_) ?_
      rotate_left
      · (go_simp; try rfl)
      simp only [Act.put, List.setIfInBounds_toArray, List.set_cons_zero, List.set_cons_succ]
      refine reg_take (v := ?_) 20 (some 77) rfl rfl (by kernel_rfl) (by kernel_rfl) (by kernel_rfl) (fun _ _ _ h => h) (by rfl) (fun W hW => ?_) ?_
      rotate_left
      · (go_simp; try rfl)
      simp only [Act.put, List.setIfInBounds_toArray, List.set_cons_zero, List.set_cons_succ]
      refine reg_take (v := ?_) 21 (some 78) rfl rfl (by kernel_rfl) (by kernel_rfl) (by kernel_rfl) (fun _ _ _ h => h) (by rfl) (fun W hW => ?_) ?_
      rotate_left
      · (go_simp; try rfl)
      simp only [Act.put, List.setIfInBounds_toArray, List.set_cons_zero, List.set_cons_succ]
      refine reg_eff 22 rfl (by kernel_rfl) (fun K hK => ?_)
      go_simp
      refine (awake8_any _).mono ?_
      rintro e w9 ⟨rfl, hE⟩
      refine hK.out _ _ hE ?_
      have HX := Lib.hid (Ext.trans HX.out hE)
      clear hE hK K
      try simp only [Act.put, List.setIfInBounds_toArray, List.set_cons_zero, List.set_cons_succ]
      refine reg_take (v := ?_) 23 (some 80) rfl rfl (by kernel_rfl) (by kernel_rfl) (by kernel_rfl) (fun _ _ _ h => h) (by rfl) (fun W hW => ?_) ?_
      rotate_left
      · (go_simp; try rfl)
      simp only [Act.put, List.setIfInBounds_toArray, List.set_cons_zero, List.set_cons_succ]
      refine reg_take (v := ?_) 24 (some 4) rfl rfl (by kernel_rfl) (by kernel_rfl) (by kernel_rfl) (fun _ _ _ h => h) (by rfl) (fun W hW => ?_) ?_
      rotate_left
      · (go_simp; try rfl)
      simp only [Act.put, List.setIfInBounds_toArray, List.set_cons_zero, List.set_cons_succ]
      refine reg_done (by kernel_rfl) ?_
      go_wp2
      go_ret
      exact ⟨rfl, HB.out.step HX.out⟩
end Go.Proofs.Ytbmhmjgomgkamaa
