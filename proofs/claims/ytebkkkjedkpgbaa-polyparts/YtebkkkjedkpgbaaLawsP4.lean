/- Laws of layer 5: written part by part bytes have the sum of the whole. -/
import Derived.Test.YtebkkkjedkpgbaaLawsP1
import Derived.Test.YtebkkkjedkpgbaaLiftP
import Derived.Test.YtebkkkjedkpgbaaRefS2
namespace Go.Proofs.Ytebkkkjedkpgbaa
open Go.RowKit
set_option linter.unusedVariables false
set_option linter.unusedSimpArgs false
def joinQ (ps : List Part) : List UInt8 := ps.flatMap (·.2.2)
theorem joinQ_snoc (ps : List Part) (i : Nat) (q : Part) (h : ps[i]? = some q) : joinQ (ps.take (i + 1)) = joinQ (ps.take i) ++ q.2.2 := by
  rw [List.take_add_one, h, joinQ, List.flatMap_append]; simp [joinQ]
theorem PAt.other {w w' : World} {g r s : Nat} {m : List UInt8} (H : PAt w g r s m) (hb : w'.heap[g]? = w.heap[g]?) : PAt w' g r s m := hb.trans H
theorem PAt.lt {w : World} {g r s : Nat} {m : List UInt8} (H : PAt w g r s m) : g < w.heap.size := lt_of_heap H
set_option maxHeartbeats 4000000 in
theorem polyParts_walk (w : World) (key : List UInt8) (lk : key.length = 32) (y : Option Addr × Nat × List Part) (hy : PartsAt w y) :
    Calls Try.prog 4 #[.agg (key.map bv).toArray, .slice y.1 y.2.2.length y.2.1] w fun e w' => e = .returned (.bool true) ∧ Below w.heap.size w w' := by
  obtain ⟨A, C, ps⟩ := y
  simp only at hy ⊢
  obtain ⟨h1, h2, h3, h4⟩ := hy
  simp only at h1 h2 h3 h4
  obtain ⟨N, hN⟩ : ∃ N, ps.length = N := ⟨_, rfl⟩
  rw [hN] at h1 ⊢
  have G := Lib.hid (heap_alloc_new' w (.cells (key.map bv).toArray 22))
  have GB : Hid (Below w.heap.size w (w.alloc (.cells (key.map bv).toArray 22))) := (Below.refl _ _).alloc (Nat.le_refl _) _
  by_cases hbig : 20 < N
  · have e1 : (20 : Int) < (N : Int) := by omega
    clear hN h1 h2 h3 h4
    go_enter Try.func4, Try.ntmps4
    go_wp2
    go_ret
    exact ⟨rfl, GB.out⟩
  have e1 : ¬ ((20 : Int) < (N : Int)) := by omega
  have HN := Lib.hid hN; have H3 := Lib.hid h3; have H4 := Lib.hid h4; have HLK := Lib.hid lk
  have hN20 : N ≤ 20 := by omega
  have HRL := Lib.hid (rOf_lt key lk)
  have NA := Lib.hid (fun W => pnew_any key W lk)
  have PS := Lib.hid (fun A k c b W hb hk hS => psum_any key A k c b W lk hb hk hS)
  have HPL : Hid (∀ b, psumL (rOf key) (sOf key) b = polyL key b) := fun b => rfl
  have LPL := Lib.hid (fun b => polyL_len key b)
  obtain ⟨r, HR⟩ : ∃ r, Hid (rOf key = r) := ⟨_, rfl⟩
  obtain ⟨s, HSS⟩ : ∃ s, Hid (sOf key = s) := ⟨_, rfl⟩
  rw [HR.out] at HRL NA HPL
  rw [HSS.out] at NA HPL
  have WA := Lib.hid (fun g m A k c b W hb hk hA hS H => pwrite_any g r s m A k c b W HRL.out hb hk hA hS H)
  have SA := Lib.hid (fun g m W H => pstSum_any g r s m W HRL.out H)
  clear hN h1 h2 h3 h4 hbig lk
  go_enter Try.func4, Try.ntmps4
  go_upto_region 3 with (fail)
  generalize hV : w.alloc _ = W0 at G GB ⊢
  clear hV
  go_wp2_with (first
    | (refine wpList_ld rfl 22 (.tmp 2) rfl (load_arr arr32P rfl (i32p key HLK.out) G.out) ?_))
  refine (NA.out W0).mono ?_
  rintro e w1 ⟨g, hg, rfl, hst, hB1⟩
  have ST1 := Lib.hid hst
  have HB1 : Hid (Below w.heap.size w w1) := GB.out.step hB1
  have HK1 := Lib.hid ((hB1.block _ (lt_of_heap G.out)).trans G.out)
  have HG : Hid (w.heap.size < g) := Nat.lt_of_lt_of_le (lt_of_heap G.out) hg
  clear hst hB1 hg G GB
  go_wp2_with fail
  go_loopw [6, 7] (fun va vi wr => ∃ (i k : Nat) (A' : Option Addr) (c' : Nat), i ≤ N ∧ k ≤ 100 * i ∧ vi = .int .i64 (i : Int) ∧ va = .slice A' k c' ∧ Hid ((joinQ (ps.take i)).length = k) ∧ Hid (wr.ownsRow (g + 1) 5 1 (.slice A' k c') k ((joinQ (ps.take i)).map bv)) ∧ Hid (PAt wr g r s (joinQ (ps.take i))) ∧ Hid (Below w.heap.size w wr) ∧
      Hid (wr.heap[w.heap.size]? = some (.cells (key.map bv).toArray 22 (0, 0)))) (fun _ i _ => N - (intOf i).toNat)
  case atStart => exact ⟨0, 0, none, 0, by omega, by omega, rfl, rfl, rfl, World.ownsRow_nil _ _ _ _, ST1, HB1, HK1⟩
  case round =>
    clear ST1 HB1 HK1
    obtain ⟨i, k, A', c', hi, hk, rfl, rfl, HK, HO, ST, HB, HKY⟩ := hrel
    by_cases hlt : i < N
    · have q1 : (i : Int) < (N : Int) := by omega
      obtain ⟨q, hq⟩ : ∃ q, ps[i]? = some q := ⟨_, List.getElem?_eq_getElem (by rw [HN.out]; exact hlt)⟩
      obtain ⟨b, o, rfl, hb, hc⟩ := H4.out.at_ (by rw [List.length_map, HN.out]; omega)
      have hSq := H3.out q (List.mem_of_getElem? hq)
      have c1 : wr.cell? ⟨b, o + i, none⟩ = some (partV q) := (HB.out.cell hb).trans (hc i _ (by rw [List.getElem?_map, hq]; rfl))
      have hj := joinQ_snoc ps i q hq
      obtain ⟨Aq, cq, bq⟩ := q
      obtain ⟨m, hm⟩ : ∃ m, bq.length = m := ⟨_, rfl⟩
      have c1' : wr.cell? ⟨b, o + i, none⟩ = some (.slice Aq m cq) := by rw [c1, ← hm]; rfl
      have HJ := Lib.hid hj; have HM := Lib.hid hm; have HSQ := Lib.hid hSq; have HC1 := Lib.hid c1'
      have HBB := Lib.hid hb
      clear hj hm hSq hq hc c1 c1' hb
      by_cases hm2 : 100 < m
      · have q2 : (100 : Int) < (m : Int) := by omega
        have c1 := HC1.out
        go_wp2
        go_ret
        exact ⟨rfl, HB.out⟩
      · have q2 : ¬ ((100 : Int) < (m : Int)) := by omega
        have hSr := Lib.hid (HSQ.out.below HB.out)
        have c1 := HC1.out
        go_wp2_with fail
        have hap : Hid (0 < m → ApartG Aq g) := by
          intro hm0
          obtain ⟨b1, o1, rfl, hb1, _⟩ := HSQ.out.2.2.at_ (by rw [List.length_map]; have := HM.out; show 0 < bq.length; omega)
          intro a ha
          injection ha with ha
          rw [← ha]; have := HG.out; show b1 ≠ g; omega
        refine (WA.out g (joinQ (ps.take i)) Aq m cq bq wr HM.out (by omega) hap.out hSr.out ST.out).mono ?_
        rintro e w2 ⟨⟨v2, rfl⟩, hst, hgr⟩
        have HJ' : Hid (joinQ (ps.take i) ++ bq = joinQ (ps.take (i + 1))) := HJ.out.symm
        rw [HJ'.out] at hst
        have ST2 := Lib.hid hst
        have HB2 : Hid (Below w.heap.size w w2) := HB.out.trans (grown_below hgr (Nat.le_of_lt HG.out) HB.out.size)
        have HK2 := Lib.hid ((hgr.block _ (lt_of_heap HKY.out) (by have := HG.out; simp; omega)).trans HKY.out)
        have HO2 : Hid (w2.ownsRow (g + 1) 5 1 (.slice A' k c') k ((joinQ (ps.take i)).map bv)) := by
          obtain ⟨g0, hv⟩ := HO.out
          refine ⟨g0, ?_⟩
          rcases hv with hv | ⟨gc, cap, cur, he, hgc, hcur, rr⟩
          · exact .inl hv
          · exact .inr ⟨gc, cap, cur, he, hgc, (hgr.block _ (lt_of_heap hcur) (by simp; omega)).trans hcur, rr⟩
        have c2 : w2.cell? ⟨b, o + i, none⟩ = some (.slice Aq m cq) := by
          have h0 := hgr.block b (Nat.lt_of_lt_of_le HBB.out HB.out.size) (by have h1 := HBB.out; have h2 := HG.out; simp; omega)
          have := HC1.out
          simpa [World.cell?, h0] using this
        have HSR2 := Lib.hid (HSQ.out.below HB2.out)
        have hs2 : Hid (g + 1 ≤ w2.heap.size) := by have := ST2.out.lt; show _ ≤ _; omega
        have hkm : k + m ≤ 2147483647 := by omega
        clear hst hgr c1 HO ST HB hSr HC1 HKY
        obtain ⟨M', hM'⟩ : ∃ M', joinQ (ps.take (i + 1)) = M' := ⟨_, rfl⟩
        rw [hM'] at ST2 HJ'
        have HM' := Lib.hid hM'
        have hK' : Hid (M'.length = k + m) := by show _ = _; rw [← HJ'.out, List.length_append, HK.out, HM.out]
        clear hM'
        obtain ⟨k', hk'⟩ : ∃ k', k' = k + m := ⟨_, rfl⟩
        have HK' := Lib.hid hk'
        rw [← hk'] at hK'
        have hk2 : k' ≤ 100 * (i + 1) := by omega
        have hZl := Lib.hid (LPL.out M')
        have HSA := Lib.hid (fun A c W hS => PS.out A k' c M' W hK'.out (by omega) hS)
        have hq := neq_bytes (P := Try.prog) arr16P Try.underlying5 s8 (polyL key M') (polyL key M') (polyL_len key M') (polyL_len key M')
        rw [show (!decide (polyL key M' = polyL key M')) = false from by simp] at hq
        have HST := Lib.hid (fun W H => SA.out g M' W H)
        rw [HPL.out M'] at HST
        generalize polyL key M' = Z at hq HSA HST hZl
        go_upto_region 12 with (
          at_builtin
          refine wpList_app8 rfl (.tmp 32) (.tmp 36) rfl (g + 1) _ k (joinQ (ps.take i)) rfl ?_ Aq m cq w2.heap.size bq rfl ?_ ?_ ?_ ?_ ?_
          · exact HO2.out
          · exact HSR2.out.2.2
          · exact HM.out
          · exact hkm
          · exact hs2.out
          rintro v3 w3 hown hgr
          rw [HJ'.out, ← HK'.out] at hown
          have HO3 := Lib.hid hown
          have HB3 : Hid (Below w.heap.size w w3) := HB2.out.grown hgr HB2.out.size (own_ge HO2.out (Nat.le_succ_of_le (Nat.le_of_lt HG.out)))
          have ST3 := Lib.hid (ST2.out.other (hgr.block _ ST2.out.lt (own_ne HO2.out (Nat.lt_succ_self g))))
          have HK3 := Lib.hid ((hgr.block _ (lt_of_heap HK2.out) (own_ne HO2.out (Nat.lt_succ_of_lt HG.out))).trans HK2.out)
          clear hown hgr)
        obtain ⟨A3, c3, rfl, hl3, h31, h32, hr3⟩ := own_read HO3.out
        have HS3 := Lib.hid (sl_mk hl3 h31 h32 hr3)
        clear hl3 h31 h32 hr3 hk' HO2 ST2 HB2 c2 HSR2 hs2 HK2
        have HX : Hid (Ext w3 w3.drew) := (Below.refl _ _).drew
        refine reg_start (by kernel_rfl) ?_
        try simp only [Act.put, List.setIfInBounds_toArray, List.set_cons_zero, List.set_cons_succ]
        refine reg_take (v := ?_) 0 (some 38) rfl rfl (by kernel_rfl) (by kernel_rfl) (by kernel_rfl) (fun _ _ _ h => h) (by rfl) (fun W hW => ?_) ?_
        rotate_left
        · (go_simp; try rfl)
        simp only [Act.put, List.setIfInBounds_toArray, List.set_cons_zero, List.set_cons_succ]
        refine reg_load 2 (some 40) (fun W hW => load_arr arr32P rfl (i32p key HLK.out) (((HX.out.trans hW).block _ (lt_of_heap HK3.out)).trans HK3.out)) rfl rfl rfl rfl (by kernel_rfl) (by kernel_rfl) (by kernel_rfl) (fun _ _ _ h => h) (by rfl) ?_
        simp only [Act.put, List.setIfInBounds_toArray, List.set_cons_zero, List.set_cons_succ]
        refine reg_take (v := ?_) 3 (some 41) rfl rfl (by kernel_rfl) (by kernel_rfl) (by kernel_rfl) (fun _ _ _ h => h) (by rfl) (fun W hW => ?_) ?_
        rotate_left
        · (go_simp; try rfl)
        simp only [Act.put, List.setIfInBounds_toArray, List.set_cons_zero, List.set_cons_succ]
        refine reg_eff 1 rfl (by kernel_rfl) (fun K hK => ?_)
        go_simp
        refine (HST.out _ (ST3.out.ext HX.out)).mono ?_
        rintro e w4 ⟨rfl, hE⟩
        refine hK.out _ _ hE ?_
        have HX := Lib.hid (Ext.trans HX.out hE)
        clear hE hK K
        try simp only [Act.put, List.setIfInBounds_toArray, List.set_cons_zero, List.set_cons_succ]
        refine reg_eff 4 rfl (by kernel_rfl) (fun K hK => ?_)
        go_simp
        refine (HSA.out _ _ _ (HS3.out.below HX.out)).mono ?_
        rintro e w5 ⟨rfl, hE⟩
        refine hK.out _ _ hE ?_
        have HX := Lib.hid (Ext.trans HX.out hE)
        clear hE hK K
        try simp only [Act.put, List.setIfInBounds_toArray, List.set_cons_zero, List.set_cons_succ]
        refine reg_take (v := ?_) 5 (some 43) rfl rfl (by kernel_rfl) (by kernel_rfl) (by kernel_rfl) (fun _ _ _ h => h) (by rfl) (fun W hW => ?_) ?_
        rotate_left
        · (go_simp; try rfl)
        simp only [Act.put, List.setIfInBounds_toArray, List.set_cons_zero, List.set_cons_succ]
        refine reg_done (by kernel_rfl) ?_
        have ST5 := Lib.hid (ST3.out.ext HX.out)
        have HO5 := Lib.hid (own_below HO3.out HX.out)
        have HB5 : Hid (Below w.heap.size w w5) := HB3.out.step HX.out
        have HK5 := Lib.hid ((HX.out.block _ (lt_of_heap HK3.out)).trans HK3.out)
        clear ST3 HO3 HS3 HB3 HK3 HX
        go_wp2
        go_roundw
        case rel =>
          refine ⟨i + 1, k', A3, c3, by omega, hk2, by go_num, rfl, ?_, ?_, ?_, HB5, HK5⟩
          · rw [HM'.out]; exact hK'
          · rw [HM'.out]; exact HO5
          · rw [HM'.out]; exact ST5
        case measure => simp [intOf]; omega
    · have q1 : ¬ ((i : Int) < (N : Int)) := by omega
      obtain ⟨M', hM'⟩ : ∃ M', joinQ (ps.take i) = M' := ⟨_, rfl⟩
      rw [hM'] at ST HO HK
      clear hM'
      have hZl := Lib.hid (LPL.out M')
      have HSA := Lib.hid (fun A c W hS => PS.out A k c M' W HK.out (by omega) hS)
      have hq := eql_bytes (P := Try.prog) arr16P Try.underlying5 s8 (polyL key M') (polyL key M') (polyL_len key M') (polyL_len key M')
      rw [show decide (polyL key M' = polyL key M') = true from by simp] at hq
      have HST := Lib.hid (fun W H => SA.out g M' W H)
      rw [HPL.out M'] at HST
      generalize polyL key M' = Z at hq HSA HST hZl
      have hl16 : (List.replicate 16 (0 : UInt8)).length = 16 := List.length_replicate
      have hq0 := eql_bytes (P := Try.prog) arr16P Try.underlying5 s8 (List.replicate 16 (0 : UInt8)) (List.replicate 16 (0 : UInt8)) hl16 hl16
      rw [show decide (List.replicate 16 (0 : UInt8) = List.replicate 16 (0 : UInt8)) = true from by simp] at hq0
      have HSN := Lib.hid (fun W => psum_nil W)
      have BD : Hid (∀ W, (Instr.build 24 #[]).run Try.prog W = .ok (.agg ((List.replicate 16 (0 : UInt8)).map bv).toArray) W) := fun W => by kernel_rfl
      generalize List.replicate 16 (0 : UInt8) = Z0 at hq0 HSN BD hl16
      obtain ⟨A3, c3, he, hl3, h31, h32, hr3⟩ := own_read HO.out
      injection he with he1 he2 he3
      subst he1; subst he3
      have HS3 := Lib.hid (sl_mk hl3 h31 h32 hr3)
      clear hl3 h31 h32 hr3 he2 HO
      go_wp2_with fail
      generalize hV : wr.alloc _ = W1
      have B1 := Lib.hid (below_of_alloc hV (Nat.le_refl wr.heap.size))
      clear hV
      refine (pwrite_nil (some ⟨wr.heap.size, 0, none⟩) 1 1 W1).mono ?_
      rintro e w2 ⟨⟨v2, rfl⟩, rfl⟩
      have ST1 := Lib.hid (ST.out.ext B1.out)
      have HS1 := Lib.hid (HS3.out.below B1.out)
      have FB1 := Lib.hid (HB.out.step B1.out)
      have HK1 := Lib.hid ((B1.out.block _ (lt_of_heap HKY.out)).trans HKY.out)
      clear B1 ST HS3 HB HKY
      go_upto_region 16 with (fail)
      have HX : Hid (Ext W1 W1.drew) := (Below.refl _ _).drew
      refine reg_start (by kernel_rfl) ?_
      try simp only [Act.put, List.setIfInBounds_toArray, List.set_cons_zero, List.set_cons_succ]
      refine reg_take (v := ?_) 0 (some 47) rfl rfl (by kernel_rfl) (by kernel_rfl) (by kernel_rfl) (fun _ _ _ h => h) (by rfl) (fun W hW => ?_) ?_
      rotate_left
      · (go_simp; try rfl)
      simp only [Act.put, List.setIfInBounds_toArray, List.set_cons_zero, List.set_cons_succ]
      refine reg_load 2 (some 49) (fun W hW => load_arr arr32P rfl (i32p key HLK.out) (((HX.out.trans hW).block _ (lt_of_heap HK1.out)).trans HK1.out)) rfl rfl rfl rfl (by kernel_rfl) (by kernel_rfl) (by kernel_rfl) (fun _ _ _ h => h) (by rfl) ?_
      simp only [Act.put, List.setIfInBounds_toArray, List.set_cons_zero, List.set_cons_succ]
      refine reg_take (v := ?_) 3 (some 50) rfl rfl (by kernel_rfl) (by kernel_rfl) (by kernel_rfl) (fun _ _ _ h => h) (by rfl) (fun W hW => ?_) ?_
      rotate_left
      · (go_simp; try rfl)
      simp only [Act.put, List.setIfInBounds_toArray, List.set_cons_zero, List.set_cons_succ]
      refine reg_eff 1 rfl (by kernel_rfl) (fun K hK => ?_)
      go_simp
      refine (HST.out _ (ST1.out.ext HX.out)).mono ?_
      rintro e w4 ⟨rfl, hE⟩
      refine hK.out _ _ hE ?_
      have HX := Lib.hid (Ext.trans HX.out hE)
      clear hE hK K
      try simp only [Act.put, List.setIfInBounds_toArray, List.set_cons_zero, List.set_cons_succ]
      refine reg_eff 4 rfl (by kernel_rfl) (fun K hK => ?_)
      go_simp
      refine (HSA.out _ _ _ (HS1.out.below HX.out)).mono ?_
      rintro e w5 ⟨rfl, hE⟩
      refine hK.out _ _ hE ?_
      have HX := Lib.hid (Ext.trans HX.out hE)
      clear hE hK K
      try simp only [Act.put, List.setIfInBounds_toArray, List.set_cons_zero, List.set_cons_succ]
      refine reg_take (v := ?_) 5 (some 52) rfl rfl (by kernel_rfl) (by kernel_rfl) (by kernel_rfl) (fun _ _ _ h => h) (by rfl) (fun W hW => ?_) ?_
      rotate_left
      · (go_simp; try rfl)
      simp only [Act.put, List.setIfInBounds_toArray, List.set_cons_zero, List.set_cons_succ]
      refine reg_take (v := ?_) 6 (some 53) rfl rfl (by kernel_rfl) (by kernel_rfl) (by kernel_rfl) (fun _ _ _ h => h) (by rfl) (fun W hW => ?_) ?_
      rotate_left
      · (go_simp; try rfl)
      simp only [Act.put, List.setIfInBounds_toArray, List.set_cons_zero, List.set_cons_succ]
      refine reg_take (v := ?_) 7 (some 54) rfl rfl (by kernel_rfl) (by kernel_rfl) (by kernel_rfl) (fun _ _ _ h => h) (by rfl) (fun W hW => ?_) ?_
      rotate_left
      · (go_simp; try rfl)
      simp only [Act.put, List.setIfInBounds_toArray, List.set_cons_zero, List.set_cons_succ]
      refine reg_take (v := ?_) 9 (some 56) rfl rfl (by kernel_rfl) (by kernel_rfl) (by kernel_rfl) (fun _ _ _ h => h) (by rfl) (fun W hW => ?_) ?_
      rotate_left
      · exact exec_bld rfl (by simp only [List.map_toArray, List.map_nil]; exact BD.out W)
      simp only [Act.put, List.setIfInBounds_toArray, List.set_cons_zero, List.set_cons_succ]
      refine reg_eff 8 rfl (by kernel_rfl) (fun K hK => ?_)
      go_simp
      refine (HSN.out _).mono ?_
      rintro e w6 ⟨rfl, hE⟩
      refine hK.out _ _ hE ?_
      have HX := Lib.hid (Ext.trans HX.out hE)
      clear hE hK K
      try simp only [Act.put, List.setIfInBounds_toArray, List.set_cons_zero, List.set_cons_succ]
      refine reg_take (v := ?_) 10 (some 57) rfl rfl (by kernel_rfl) (by kernel_rfl) (by kernel_rfl) (fun _ _ _ h => h) (by rfl) (fun W hW => ?_) ?_
      rotate_left
      · (go_simp; try rfl)
      simp only [Act.put, List.setIfInBounds_toArray, List.set_cons_zero, List.set_cons_succ]
      refine reg_take (v := ?_) 11 (some 58) rfl rfl (by kernel_rfl) (by kernel_rfl) (by kernel_rfl) (fun _ _ _ h => h) (by rfl) (fun W hW => ?_) ?_
      rotate_left
      · (go_simp; try rfl)
      simp only [Act.put, List.setIfInBounds_toArray, List.set_cons_zero, List.set_cons_succ]
      refine reg_take (v := ?_) 12 (some 59) rfl rfl (by kernel_rfl) (by kernel_rfl) (by kernel_rfl) (fun _ _ _ h => h) (by rfl) (fun W hW => ?_) ?_
      rotate_left
      · (go_simp; try rfl)
      simp only [Act.put, List.setIfInBounds_toArray, List.set_cons_zero, List.set_cons_succ]
      refine reg_eff 13 rfl (by kernel_rfl) (fun K hK => ?_)
      go_simp
      refine (pawake_any _).mono ?_
      rintro e w7 ⟨rfl, hE⟩
      refine hK.out _ _ hE ?_
      have HX := Lib.hid (Ext.trans HX.out hE)
      clear hE hK K
      try simp only [Act.put, List.setIfInBounds_toArray, List.set_cons_zero, List.set_cons_succ]
      refine reg_take (v := ?_) 14 (some 61) rfl rfl (by kernel_rfl) (by kernel_rfl) (by kernel_rfl) (fun _ _ _ h => h) (by rfl) (fun W hW => ?_) ?_
      rotate_left
      · (go_simp; try rfl)
      simp only [Act.put, List.setIfInBounds_toArray, List.set_cons_zero, List.set_cons_succ]
      refine reg_take (v := ?_) 15 (some 4) rfl rfl (by kernel_rfl) (by kernel_rfl) (by kernel_rfl) (fun _ _ _ h => h) (by rfl) (fun W hW => ?_) ?_
      rotate_left
      · (go_simp; try rfl)
      simp only [Act.put, List.setIfInBounds_toArray, List.set_cons_zero, List.set_cons_succ]
      refine reg_done (by kernel_rfl) ?_
      go_wp2
      go_ret
      exact ⟨rfl, FB1.out.step HX.out⟩
end Go.Proofs.Ytebkkkjedkpgbaa
