/- The walk of the law ShaParts. -/
import Derived.Test.YtefhaaofcibdcaaDoorLawsS3
import Derived.Test.YtefhaaofcibdcaaDoorLiftP
import Derived.Test.YtefhaaofcibdcaaDoorRefS2
namespace Go.Proofs.YtefhaaofcibdcaaDoor
open Go.RowKit
set_option linter.unusedVariables false
set_option linter.unusedSimpArgs false
def joinP (ps : List Part) : List UInt8 := ps.flatMap (·.2.2)
theorem joinP_snoc (ps : List Part) (i : Nat) (q : Part) (h : ps[i]? = some q) : joinP (ps.take (i + 1)) = joinP (ps.take i) ++ q.2.2 := by
  rw [List.take_add_one, h, joinP, List.flatMap_append]; simp [joinP]
set_option maxHeartbeats 4000000 in
theorem shaParts_walk (w : World) (y : Option Addr × Nat × List Part) (hy : PartsAt w y) (hR : Rnd w) :
    Calls Tryd.prog 6 #[.slice y.1 y.2.2.length y.2.1] w fun e w' => e = .returned (.bool true) ∧ Below w.heap.size w w' := by
  obtain ⟨A, C, ps⟩ := y
  simp only at hy ⊢
  obtain ⟨h1, h2, h3, h4⟩ := hy
  simp only at h1 h2 h3 h4
  obtain ⟨N, hN⟩ : ∃ N, ps.length = N := ⟨_, rfl⟩
  rw [hN] at h1 ⊢
  by_cases hbig : 20 < N
  · have e1 : (20 : Int) < (N : Int) := by omega
    clear hN h1 h2 h3 h4 hR
    go_enter Tryd.func6, Tryd.ntmps6
    go_wp2
    go_ret
    exact ⟨rfl, Below.refl _ _⟩
  have e1 : ¬ ((20 : Int) < (N : Int)) := by omega
  have HN := Lib.hid hN; have H3 := Lib.hid h3; have H4 := Lib.hid h4; have HR := Lib.hid hR
  have hN20 : N ≤ 20 := by omega
  clear hN h1 h2 h3 h4 hR hbig
  go_enter Tryd.func6, Tryd.ntmps6
  go_wp2_with fail
  refine (new_any w).mono ?_
  rintro e w1 ⟨rfl, hst, hB1⟩
  have ST1 := Lib.hid hst
  have HB1 := Lib.hid hB1
  have hgs0 : Hid (w.heap.size ≠ 0) := by have := HR.out.1; show _ ≠ 0; omega
  have HLT : Hid (∀ W, Below w.heap.size w W → w.heap.size < W.heap.size → True) := fun _ _ _ => trivial
  clear hst hB1 HLT
  generalize hgs : w.heap.size = gs at ST1 hgs0 ⊢
  have HGS := Lib.hid hgs
  rw [hgs] at HB1
  clear hgs
  go_wp2_with fail
  go_loopw [4, 5] (fun va vi wr => ∃ (i k : Nat) (A' : Option Addr) (c' : Nat), i ≤ N ∧ k ≤ 200 * i ∧ vi = .int .i64 (i : Int) ∧ va = .slice A' k c' ∧ Hid ((joinP (ps.take i)).length = k) ∧ Hid (wr.ownsRow (gs + 1) 5 1 (.slice A' k c') k ((joinP (ps.take i)).map bv)) ∧ Hid (StAt wr gs (joinP (ps.take i))) ∧ Hid (Below gs w wr)) (fun _ i _ => N - (intOf i).toNat)
  case atStart => exact ⟨0, 0, none, 0, by omega, by omega, rfl, rfl, rfl, World.ownsRow_nil _ _ _ _, ST1, HB1⟩
  case round =>
    clear ST1 HB1
    obtain ⟨i, k, A', c', hi, hk, rfl, rfl, HK, HO, ST, HB⟩ := hrel
    have hBw : Hid (Below w.heap.size w wr) := by show Below _ _ _; rw [HGS.out]; exact HB.out
    have R0 : Hid (Rnd wr) := HR.out.ext hBw.out
    by_cases hlt : i < N
    · have q1 : (i : Int) < (N : Int) := by omega
      obtain ⟨q, hq⟩ : ∃ q, ps[i]? = some q := ⟨_, List.getElem?_eq_getElem (by rw [HN.out]; exact hlt)⟩
      obtain ⟨b, o, rfl, hb, hc⟩ := H4.out.at_ (by rw [List.length_map, HN.out]; omega)
      have hSq := H3.out q (List.mem_of_getElem? hq)
      have c1 : wr.cell? ⟨b, o + i, none⟩ = some (partV q) := (hBw.out.cell hb).trans (hc i _ (by rw [List.getElem?_map, hq]; rfl))
      have hj := joinP_snoc ps i q hq
      obtain ⟨Aq, cq, bq⟩ := q
      obtain ⟨m, hm⟩ : ∃ m, bq.length = m := ⟨_, rfl⟩
      have c1' : wr.cell? ⟨b, o + i, none⟩ = some (.slice Aq m cq) := by rw [c1, ← hm]; rfl
      have HJ := Lib.hid hj; have HM := Lib.hid hm; have HSQ := Lib.hid hSq; have HC1 := Lib.hid c1'
      have HBB := Lib.hid hb
      clear hj hm hSq hq hc c1 c1' hb
      by_cases hm2 : 200 < m
      · have q2 : (200 : Int) < (m : Int) := by omega
        have c1 := HC1.out
        go_wp2
        go_ret
        exact ⟨rfl, hBw.out⟩
      · have q2 : ¬ ((200 : Int) < (m : Int)) := by omega
        have hSr := Lib.hid (HSQ.out.below hBw.out)
        have c1 := HC1.out
        go_wp2_with fail
        have hap : Hid (0 < m → ApartG Aq gs) := by
          intro hm0
          obtain ⟨b1, o1, rfl, hb1, _⟩ := HSQ.out.2.2.at_ (by rw [List.length_map]; have := HM.out; show 0 < bq.length; omega)
          intro a ha
          injection ha with ha
          rw [← ha]; have := HGS.out; show b1 ≠ gs; omega
        refine (write_any gs (joinP (ps.take i)) Aq m cq bq wr HM.out (by rw [HK.out]; omega) hgs0.out hap.out hSr.out ST.out R0.out).mono ?_
        rintro e w2 ⟨⟨v2, rfl⟩, hst, hgr⟩
        have HJ' : Hid (joinP (ps.take i) ++ bq = joinP (ps.take (i + 1))) := HJ.out.symm
        rw [HJ'.out] at hst
        have ST2 := Lib.hid hst
        have HB2 := Lib.hid (HB.out.trans (grown_below hgr (Nat.le_refl gs) (Nat.le_of_lt ST.out.lt)))
        have hBw2 : Hid (Below w.heap.size w w2) := by show Below _ _ _; rw [HGS.out]; exact HB2.out
        have HO2 : Hid (w2.ownsRow (gs + 1) 5 1 (.slice A' k c') k ((joinP (ps.take i)).map bv)) := by
          obtain ⟨g0, hv⟩ := HO.out
          refine ⟨g0, ?_⟩
          rcases hv with hv | ⟨gc, cap, cur, he, hgc, hcur, r⟩
          · exact .inl hv
          · exact .inr ⟨gc, cap, cur, he, hgc, (hgr.block _ (lt_of_heap hcur) (by simp; omega)).trans hcur, r⟩
        have c2 : w2.cell? ⟨b, o + i, none⟩ = some (.slice Aq m cq) := by
          have h0 := hgr.block b (Nat.lt_of_lt_of_le HBB.out hBw.out.size) (by have h1 := HBB.out; have h2 := HGS.out; simp; omega)
          have := HC1.out
          simpa [World.cell?, h0] using this
        have HSR2 := Lib.hid (HSQ.out.below hBw2.out)
        have hs2 : Hid (gs + 1 ≤ w2.heap.size) := by have := ST2.out.lt; show _ ≤ _; omega
        have hkm : k + m ≤ 2147483647 := by omega
        clear hst hgr c1 HO ST HB hSr HC1
        obtain ⟨M', hM'⟩ : ∃ M', joinP (ps.take (i + 1)) = M' := ⟨_, rfl⟩
        rw [hM'] at ST2 HJ'
        have HM' := Lib.hid hM'
        have hK' : Hid (M'.length = k + m) := by show _ = _; rw [← HJ'.out, List.length_append, HK.out, HM.out]
        clear hM'
        obtain ⟨k', hk'⟩ : ∃ k', k' = k + m := ⟨_, rfl⟩
        have HK' := Lib.hid hk'
        rw [← hk'] at hK'
        have hZl := Lib.hid (sumL_len M')
        have HSA := Lib.hid (fun A c W hS hW => sum_any A k' c M' W hK'.out hS hW)
        have hq := neq_bytes (P := Tryd.prog) arr32B Tryd.underlying5 s8 (sumL M') (sumL M') (sumL_len M') (sumL_len M')
        rw [show (!decide (sumL M' = sumL M')) = false from by simp] at hq
        have HSS := Lib.hid (fun W hS hW => stSum_any gs M' W (by rw [hK'.out]; omega) hS hW)
        generalize sumL M' = Z at hq HSA HSS hZl
        go_wp2_with (
          at_builtin
          refine wpList_app8 rfl (.tmp 29) (.tmp 33) rfl (gs + 1) _ k (joinP (ps.take i)) rfl ?_ Aq m cq w2.heap.size bq rfl ?_ ?_ ?_ ?_ ?_
          · exact HO2.out
          · exact HSR2.out.2.2
          · exact HM.out
          · exact hkm
          · exact hs2.out
          rintro v3 w3 hown hgr
          rw [HJ'.out, ← HK'.out] at hown
          have HO3 := Lib.hid hown
          have HB3 := Lib.hid (HB2.out.grown hgr (Nat.le_of_lt ST2.out.lt) (own_ge HO2.out (Nat.le_succ gs)))
          have ST3 := Lib.hid (ST2.out.other (hgr.block _ ST2.out.lt (own_ne HO2.out (Nat.lt_succ_self gs))))
          clear hown hgr)
        obtain ⟨A3, c3, rfl, hl3, h31, h32, hr3⟩ := own_read HO3.out
        have HS3 := Lib.hid (sl_mk hl3 h31 h32 hr3)
        have hBw3 : Hid (Below w.heap.size w w3) := by show Below _ _ _; rw [HGS.out]; exact HB3.out
        have R3 : Hid (Rnd w3) := HR.out.ext hBw3.out
        clear hl3 h31 h32 hr3 hk' HO2 ST2 HB2 c2 HSR2 hs2 hBw2
        refine (HSS.out w3 ST3.out R3.out).mono ?_
        rintro e w4 ⟨rfl, hB4⟩
        have ST4 := Lib.hid (ST3.out.ext hB4)
        have HO4 := Lib.hid (own_below HO3.out hB4)
        have HS4 := Lib.hid (HS3.out.below hB4)
        have R4 : Hid (Rnd w4) := R3.out.ext hB4
        have HB4 := Lib.hid (HB3.out.trans (hB4.mono (Nat.le_of_lt ST3.out.lt)))
        clear hB4 ST3 HO3 HS3 R3 HB3 hBw3
        go_wp2_with fail
        refine (HSA.out A3 c3 w4 HS4.out R4.out).mono ?_
        rintro e w5 ⟨rfl, hB5⟩
        have ST5 := Lib.hid (ST4.out.ext hB5)
        have HO5 := Lib.hid (own_below HO4.out hB5)
        have HB5 := Lib.hid (HB4.out.trans (hB5.mono (Nat.le_of_lt ST4.out.lt)))
        clear hB5 ST4 HO4 HS4 R4 HB4
        go_wp2_with fail
        refine (len_any gs M' k' w5 hK'.out ST5.out).mono ?_
        rintro e w6 ⟨rfl, rfl⟩
        have q5 : ((k' : Int) != (k' : Int)) = false := by simp
        go_wp2
        go_roundw
        case rel =>
          refine ⟨i + 1, k', A3, c3, by omega, ?_, by go_num, rfl, ?_, ?_, ?_, HB5⟩
          · have := HK'.out; omega
          · rw [HM'.out]; exact hK'
          · rw [HM'.out]; exact HO5
          · rw [HM'.out]; exact ST5
        case measure => simp [intOf]; omega
    · have q1 : ¬ ((i : Int) < (N : Int)) := by omega
      obtain ⟨M', hM'⟩ : ∃ M', joinP (ps.take i) = M' := ⟨_, rfl⟩
      rw [hM'] at ST HO HK
      clear hM'
      have hZl := Lib.hid (sumL_len M')
      have HSA := Lib.hid (fun A c W hS hW => sum_any A k c M' W HK.out hS hW)
      have hq := eql_bytes (P := Tryd.prog) arr32B Tryd.underlying5 s8 (sumL M') (sumL M') (sumL_len M') (sumL_len M')
      rw [show decide (sumL M' = sumL M') = true from by simp] at hq
      have HSS := Lib.hid (fun W hS hW => stSum_any gs M' W (by rw [HK.out]; omega) hS hW)
      generalize sumL M' = Z at hq HSA HSS hZl
      have hq0 := eql_bytes (P := Tryd.prog) arr32B Tryd.underlying5 s8 (sumL []) (sumL []) (sumL_len []) (sumL_len [])
      rw [show decide (sumL [] = sumL []) = true from by simp] at hq0
      have HSN := Lib.hid (fun W hW => stSum_nil W hW)
      have HS0 := Lib.hid (fun W hW => sum_any none 0 0 [] W rfl (nil_row W) hW)
      generalize sumL [] = Z0 at hq0 HSN HS0
      obtain ⟨A3, c3, he, hl3, h31, h32, hr3⟩ := own_read HO.out
      injection he with he1 he2 he3
      subst he1; subst he3
      have HS3 := Lib.hid (sl_mk hl3 h31 h32 hr3)
      clear hl3 h31 h32 hr3 he2 HO
      go_wp2_with fail
      generalize hV : wr.alloc _ = W1
      have B1 := Lib.hid (below_of_alloc hV (Nat.le_refl wr.heap.size))
      clear hV
      refine (write_nil (some ⟨wr.heap.size, 0, none⟩) 1 1 W1).mono ?_
      rintro e w2 ⟨⟨v2, rfl⟩, rfl⟩
      have ST1 := Lib.hid (ST.out.ext B1.out)
      have HS1 := Lib.hid (HS3.out.below B1.out)
      have R1 : Hid (Rnd W1) := R0.out.ext B1.out
      have FB1 := Lib.hid (hBw.out.step B1.out)
      clear B1 ST HS3 R0 hBw HB
      go_wp2_with fail
      refine (HSS.out W1 ST1.out R1.out).mono ?_
      rintro e w3 ⟨rfl, hB3⟩
      have HS4 := Lib.hid (HS1.out.below hB3)
      have R3 : Hid (Rnd w3) := R1.out.ext hB3
      have FB3 := Lib.hid (FB1.out.step hB3)
      clear hB3 HS1 R1 FB1
      go_wp2_with fail
      refine (HSA.out _ _ w3 HS4.out R3.out).mono ?_
      rintro e w4 ⟨rfl, hB4⟩
      have R4 : Hid (Rnd w4) := R3.out.ext hB4
      have FB4 := Lib.hid (FB3.out.step hB4)
      clear hB4 HS4 R3 FB3
      go_wp2_with fail
      refine (HSN.out w4 R4.out).mono ?_
      rintro e w5 ⟨rfl, hB5⟩
      have R5 : Hid (Rnd w5) := R4.out.ext hB5
      have FB5 := Lib.hid (FB4.out.step hB5)
      clear hB5 R4 FB4
      go_wp2_with fail
      refine (HS0.out w5 R5.out).mono ?_
      rintro e w6 ⟨rfl, hB6⟩
      have R6 : Hid (Rnd w6) := R5.out.ext hB6
      have FB6 := Lib.hid (FB5.out.step hB6)
      clear hB6 R5 FB5
      go_wp2_with fail
      refine (len_nil w6).mono ?_
      rintro e w7 ⟨rfl, rfl⟩
      go_wp2_with fail
      refine (awake2_any w6 R6.out).mono ?_
      rintro e w8 ⟨rfl, hB8⟩
      have FB8 := Lib.hid (FB6.out.step hB8)
      clear hB8
      go_wp2
      go_ret
      refine ⟨rfl, ?_⟩
      exact FB8.out
end Go.Proofs.YtefhaaofcibdcaaDoor
