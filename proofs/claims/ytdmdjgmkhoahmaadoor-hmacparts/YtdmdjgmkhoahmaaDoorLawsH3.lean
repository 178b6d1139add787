/- Laws of layer 7: written part by part bytes have the sum of the whole. -/
import Derived.Test.YtdmdjgmkhoahmaaDoorHma5
import Derived.Test.YtdmdjgmkhoahmaaDoorLiftP
namespace Go.Proofs.YtdmdjgmkhoahmaaDoor
open Go.RowKit
set_option linter.unusedVariables false
set_option linter.unusedSimpArgs false
def h_join (ps : List Part) : List UInt8 := ps.flatMap (·.2.2)
theorem h_join_snoc (ps : List Part) (i : Nat) (q : Part) (h : ps[i]? = some q) : h_join (ps.take (i + 1)) = h_join (ps.take i) ++ q.2.2 := by
  rw [List.take_add_one, h, h_join, List.flatMap_append]; simp [h_join]
theorem h_own_gr {w w' : World} {base : Nat} {e : TypeId} {s : Nat} {v : Value} {n : Nat} {xs : List Value} {g : Nat} (h : w.ownsRow base e s v n xs) (hb : w.grownBy w' (some g)) (hg : g < base) : w'.ownsRow base e s v n xs := by
  obtain ⟨h0, h | ⟨g1, cap, cur, hv, hg1, hh, r⟩⟩ := h
  · exact ⟨h0, .inl h⟩
  · exact ⟨h0, .inr ⟨g1, cap, cur, hv, hg1, (hb.block _ (lt_of_heap hh) (fun e => by injection e with e; omega)).trans hh, r⟩⟩
set_option maxHeartbeats 4000000 in
theorem hmacParts_walk (w : World) (A0 : Option Addr) (c0 : Nat) (key : List UInt8) (hS : Sl w A0 c0 key) (y : Option Addr × Nat × List Part) (hy : PartsAt w y) (hR : Rnd w) :
    Calls Tryd.prog 4 #[.slice A0 key.length c0, .slice y.1 y.2.2.length y.2.1] w fun e w' => e = .returned (.bool true) ∧ Below w.heap.size w w' := by
  obtain ⟨A, C, ps⟩ := y
  simp only at hy ⊢
  obtain ⟨h1, h2, h3, h4⟩ := hy
  simp only at h1 h2 h3 h4
  obtain ⟨N, hN⟩ : ∃ N, ps.length = N := ⟨_, rfl⟩
  rw [hN] at h1 ⊢
  obtain ⟨n, hn⟩ : ∃ n, key.length = n := ⟨_, rfl⟩
  rw [hn]
  by_cases hbig : 20 < N
  · have e1 : (20 : Int) < (N : Int) := by omega
    clear hN h1 h2 h3 h4 hR hn hS
    go_enter Tryd.func4, Tryd.ntmps4
    go_wp2
    go_ret
    exact ⟨rfl, Below.refl _ _⟩
  have e1 : ¬ ((20 : Int) < (N : Int)) := by omega
  by_cases hbig2 : 300 < n
  · have e2 : (300 : Int) < (n : Int) := by omega
    clear hN h1 h2 h3 h4 hR hn hS
    go_enter Tryd.func4, Tryd.ntmps4
    go_wp2
    go_ret
    exact ⟨rfl, Below.refl _ _⟩
  have e2 : ¬ ((300 : Int) < (n : Int)) := by omega
  have HN := Lib.hid hN; have H3 := Lib.hid h3; have H4 := Lib.hid h4; have HR := Lib.hid hR; have HS := Lib.hid hS
  have hN20 : N ≤ 20 := by omega
  have NA := Lib.hid (fun W hS hR => hnew_any A0 n c0 key W hn hS hR)
  have HMA := Lib.hid (fun A' k c' b W hl' hk hS hS' hR => hmac_any A0 n c0 key A' k c' b W hn hl' hk hS hS' hR)
  have HBK := Lib.hid (hblockL_len key)
  have HML := Lib.hid (fun b => hmacL_len key b)
  have HMD : Hid (∀ b, hsumL (hblockL key) (twistL (hblockL key) 54 ++ b) = hmacL key b) := fun b => rfl
  have HTB := Lib.hid (fun b => begun_twist (hblockL key) b HBK.out)
  have HTN := Lib.hid (begun_nil (hblockL key))
  have HTL := Lib.hid (twistL_len (hblockL key) 54 HBK.out)
  generalize hblockL key = KB at NA HBK HMD HTB HTN HTL
  generalize twistL KB 54 = T5 at HMD HTB HTN HTL
  clear hN h1 h2 h3 h4 hR hbig hbig2 hn hS
  go_enter Tryd.func4, Tryd.ntmps4
  go_wp2_with fail
  refine (NA.out w HS.out HR.out).mono ?_
  rintro e w1 ⟨g, rfl, hg, hH, hb1⟩
  have HH1 := Lib.hid hH
  have HB1 := Lib.hid hb1
  have HG : Hid (w.heap.size ≤ g) := hg
  have HG0 : Hid (g ≠ 0) := by have := HR.out.1; show _ ≠ 0; omega
  clear hH hb1 hg
  go_wp2_with fail
  go_loopw [6, 7] (fun va vi wr => ∃ (i k : Nat) (A' : Option Addr) (c' : Nat) (m : List UInt8), i ≤ N ∧ k ≤ 100 * i ∧ m.length ≤ 64 + k ∧ vi = .int .i64 (i : Int) ∧ va = .slice A' k c' ∧ Hid ((h_join (ps.take i)).length = k) ∧ Hid (wr.ownsRow (g + 1) 5 1 (.slice A' k c') k ((h_join (ps.take i)).map bv)) ∧
      Hid (HAt wr g KB m) ∧ Hid (begun KB m = T5 ++ h_join (ps.take i)) ∧ Hid (Below w.heap.size w wr)) (fun _ i _ => N - (intOf i).toNat)
  case atStart => exact ⟨0, 0, none, 0, [], by omega, by omega, by simp, rfl, rfl, rfl, World.ownsRow_nil _ _ _ _, HH1, by show _ = _; rw [HTN.out]; simp [h_join], HB1⟩
  case round =>
    clear HH1 HB1
    obtain ⟨i, k, A', c', m, hi, hk, hm64, rfl, rfl, HK, HO, ST, HBG, HB⟩ := hrel
    have R0 : Hid (Rnd wr) := HR.out.ext HB.out
    have HM64 := Lib.hid hm64
    clear hm64
    by_cases hlt : i < N
    · have q1 : (i : Int) < (N : Int) := by omega
      obtain ⟨q, hq⟩ : ∃ q, ps[i]? = some q := ⟨_, List.getElem?_eq_getElem (by rw [HN.out]; exact hlt)⟩
      obtain ⟨b, o, rfl, hb, hc⟩ := H4.out.at_ (by rw [List.length_map, HN.out]; omega)
      have hSq := H3.out q (List.mem_of_getElem? hq)
      have c1 : wr.cell? ⟨b, o + i, none⟩ = some (partV q) := (HB.out.cell hb).trans (hc i _ (by rw [List.getElem?_map, hq]; rfl))
      have hj := h_join_snoc ps i q hq
      obtain ⟨Aq, cq, bq⟩ := q
      obtain ⟨l, hl⟩ : ∃ l, bq.length = l := ⟨_, rfl⟩
      have c1' : wr.cell? ⟨b, o + i, none⟩ = some (.slice Aq l cq) := by rw [c1, ← hl]; rfl
      have HJ : Hid (h_join (ps.take i) ++ bq = h_join (ps.take (i + 1))) := hj.symm
      have HL := Lib.hid hl; have HSQ := Lib.hid hSq; have HC1 := Lib.hid c1'
      have HBB := Lib.hid hb
      clear hj hl hSq hq hc c1 c1' hb
      by_cases hl2 : 100 < l
      · have q2 : (100 : Int) < (l : Int) := by omega
        have c1 := HC1.out
        go_wp2
        go_ret
        exact ⟨rfl, HB.out⟩
      · have q2 : ¬ ((100 : Int) < (l : Int)) := by omega
        have hSr := Lib.hid (HSQ.out.below HB.out)
        have c1 := HC1.out
        obtain ⟨X, hX⟩ : ∃ X, h_join (ps.take (i + 1)) = X := ⟨_, rfl⟩
        rw [hX] at HJ
        have HX := Lib.hid hX
        obtain ⟨k2, hk2⟩ : ∃ k2, k2 = k + l := ⟨_, rfl⟩
        have HK2 := Lib.hid hk2
        have HXL : Hid (X.length = k2) := by show _ = _; rw [← HJ.out, List.length_append, HK.out, HL.out, HK2.out]
        have hk100 : k2 ≤ 100 * (i + 1) := by omega
        have hkl : k + l ≤ 2147483647 := by omega
        have HQ := Lib.hid (HMD.out X)
        have hqq := neq_bytes (P := Tryd.prog) arr32B Tryd.underlying5 s8 (hmacL key X) (hmacL key X) (HML.out X) (HML.out X)
        rw [show (!decide (hmacL key X = hmacL key X)) = false from by simp] at hqq
        have HSA := Lib.hid (fun W H hR => hsum_any g KB (T5 ++ X) W (by rw [List.length_append, HTL.out, HXL.out]; omega) H hR)
        rw [HQ.out] at HSA
        have HMX := Lib.hid (fun A c W hS hS' hR => HMA.out A k2 c X W HXL.out (by omega) hS hS' hR)
        generalize hmacL key X = Z at hqq HSA HMX HQ
        clear hX hk2
        go_wp2_with fail
        refine (hwrite_any g KB m Aq l cq bq wr HL.out (by have := HM64.out; omega) HG0.out (fun h0 => sl_apart HSQ.out HL.out HG.out h0) hSr.out ST.out R0.out).mono ?_
        rintro e w2 ⟨⟨v2, rfl⟩, hst, hgr⟩
        rw [HBG.out, List.append_assoc, HJ.out] at hst
        have ST2 := Lib.hid hst
        have HB2 : Hid (Below w.heap.size w w2) := HB.out.trans (grown_below hgr HG.out HB.out.size)
        have O2 := Lib.hid (h_own_gr HO.out hgr (Nat.lt_succ_self g))
        have c2 : w2.cell? ⟨b, o + i, none⟩ = some (.slice Aq l cq) := (grown_below hgr HG.out HB.out.size).cell HBB.out |>.trans HC1.out
        have SR2 := Lib.hid (HSQ.out.below HB2.out)
        clear hst hgr c1 hSr HO ST HB HC1 R0
        go_wp2_with (
          at_builtin
          refine wpList_app8_at rfl (.tmp 37) (.tmp 41) rfl (g + 1) _ k (h_join (ps.take i)) rfl O2.out Aq l cq w2.heap.size bq rfl SR2.out.2.2 HL.out hkl ST2.out.lt ?_
          rintro v3 w3 hown hgr hat
          rw [HJ.out, ← HK2.out] at hown
          obtain ⟨A3, c3, rfl, hl3, h31, h32, hr3⟩ := own_read hown
          have S3 := Lib.hid (sl_mk hl3 h31 h32 hr3)
          have O3 := Lib.hid hown
          have ST3 := Lib.hid (ST2.out.other (hgr.block _ ST2.out.lt (c_own_ne' O2.out (Nat.lt_succ_self g))))
          have HB3 := Lib.hid (HB2.out.grown hgr HB2.out.size (c_own_ge' O2.out (Nat.le_succ_of_le HG.out)))
          clear hown hgr hat hl3 h31 h32 hr3)
        refine (HSA.out w3 ST3.out (HR.out.ext HB3.out)).mono ?_
        rintro e w4 ⟨rfl, hb4⟩
        have B4 := Lib.hid (HB3.out.step hb4)
        have S4 := Lib.hid (S3.out.below hb4)
        have O4 := Lib.hid (own_below O3.out hb4)
        have ST4 := Lib.hid (ST3.out.ext hb4)
        clear hb4 O2 HB2 ST2 c2 SR2 O3 S3 ST3 HB3
        go_wp2_with fail
        refine (HMX.out _ _ w4 (HS.out.below B4.out) S4.out (HR.out.ext B4.out)).mono ?_
        rintro e w5 ⟨rfl, hb5⟩
        have B5 := Lib.hid (B4.out.step hb5)
        have O5 := Lib.hid (own_below O4.out hb5)
        have ST5 := Lib.hid (ST4.out.ext hb5)
        clear hb5 B4 O4 ST4 S4
        go_wp2_with fail
        go_roundw
        case rel =>
          refine ⟨i + 1, k2, A3, c3, T5 ++ X, by omega, hk100, ?_, by go_num, rfl, ?_, ?_, ST5, ?_, B5⟩
          · rw [List.length_append, HTL.out, HXL.out]; omega
          · rw [HX.out]; exact HXL
          · rw [HX.out]; exact O5
          · rw [HX.out]; exact HTB.out X
        case measure => simp [intOf]; omega
    · have q1 : ¬ ((i : Int) < (N : Int)) := by omega
      have HXL : Hid (([7] : List UInt8).length = 1) := rfl
      have HQ := Lib.hid (HMD.out [7])
      have hqq := eql_bytes (P := Tryd.prog) arr32B Tryd.underlying5 s8 (hmacL key [7]) (hmacL key [7]) (HML.out [7]) (HML.out [7])
      rw [show (decide (hmacL key [7] = hmacL key [7])) = true from by simp] at hqq
      have HSA := Lib.hid (fun W H hR => hsum_any g KB (T5 ++ [7]) W (by rw [List.length_append, HTL.out, HXL.out]; omega) H hR)
      rw [HQ.out] at HSA
      have HMX := Lib.hid (fun A c W hS hS' hR => HMA.out A 1 c [7] W HXL.out (by omega) hS hS' hR)
      generalize hmacL key [7] = Z at hqq HSA HMX HQ
      have hq0 := eql_bytes (P := Tryd.prog) arr32B Tryd.underlying5 s8 z32 z32 z32_len z32_len
      rw [show (decide (z32 = z32)) = true from by simp] at hq0
      have hbd : Hid (∀ W, (Instr.build 23 #[]).run Tryd.prog W = .ok (.agg (z32.map bv).toArray) W) := fun W => by kernel_rfl
      have HNS := Lib.hid (fun W => hsum_nil W)
      generalize z32 = Z0 at hq0 hbd HNS
      have R1 : ∀ W : World, Hid (Sl (W.alloc (.cells #[.int .u8 7] 5)) (some ⟨W.heap.size, 0, none⟩) 1 [7]) := fun W => sl_row (bs := [7]) rfl (by omega) (heap_alloc_new' W (.cells (([7] : List UInt8).map bv).toArray 5))
      go_wp2_with fail
      refine (hreset_any g KB m wr ST.out).mono ?_
      rintro e w2 ⟨⟨v2, rfl⟩, hst, hgr⟩
      have ST2 := Lib.hid hst
      have HB2 : Hid (Below w.heap.size w w2) := HB.out.trans (grown_below hgr HG.out HB.out.size)
      clear hst hgr HO ST HB R0
      go_wp2_with fail
      have S3 := R1 w2
      have B3 := Lib.hid (HB2.out.alloc HB2.out.size (.cells #[.int .u8 7] 5))
      have ST3 := Lib.hid (ST2.out.ext ((Below.refl _ w2).alloc (Nat.le_refl _) (.cells #[.int .u8 7] 5)))
      have HA3 : Hid (0 < 1 → ApartG (some ⟨w2.heap.size, 0, none⟩) g) := fun _ => apart_lt ST2.out.lt
      generalize w2.alloc (.cells #[.int .u8 7] 5) = W3 at S3 B3 ST3 ⊢
      refine (hwrite_any g KB [] (some ⟨w2.heap.size, 0, none⟩) 1 1 [7] W3 rfl (by simp) HG0.out HA3.out S3.out ST3.out (HR.out.ext B3.out)).mono ?_
      rintro e w4 ⟨⟨v4, rfl⟩, hst, hgr⟩
      rw [HTN.out] at hst
      have ST4 := Lib.hid hst
      have HB4 : Hid (Below w.heap.size w w4) := B3.out.trans (grown_below hgr HG.out B3.out.size)
      clear hst hgr S3 B3 ST3 HA3 ST2 HB2
      go_wp2_with fail
      have B5 := Lib.hid (HB4.out.alloc HB4.out.size (.cells #[.int .u8 1] 5))
      have ST5 := Lib.hid (ST4.out.ext ((Below.refl _ w4).alloc (Nat.le_refl _) (.cells #[.int .u8 1] 5)))
      generalize w4.alloc (.cells #[.int .u8 1] 5) = W5 at B5 ST5 ⊢
      refine (hwrite_nil _ _ _ W5).mono ?_
      rintro e w6 ⟨⟨v6, rfl⟩, rfl⟩
      clear ST4 HB4
      go_wp2_with fail
      refine (hreset_nil W5).mono ?_
      rintro e w6 ⟨⟨v7, rfl⟩, rfl⟩
      go_wp2_with fail
      refine (HSA.out W5 ST5.out (HR.out.ext B5.out)).mono ?_
      rintro e w6 ⟨rfl, hb6⟩
      have B6 := Lib.hid (B5.out.step hb6)
      clear hb6 ST5 B5
      go_wp2_with fail
      have S7 := R1 w6
      have B7 := Lib.hid (B6.out.alloc B6.out.size (.cells #[.int .u8 7] 5))
      generalize w6.alloc (.cells #[.int .u8 7] 5) = W7 at S7 B7 ⊢
      refine (HMX.out _ _ W7 (HS.out.below B7.out) S7.out (HR.out.ext B7.out)).mono ?_
      rintro e w8 ⟨rfl, hb8⟩
      have B8 := Lib.hid (B7.out.step hb8)
      clear hb8 B7 S7 B6
      go_wp2_with fail
      refine (HNS.out w8).mono ?_
      rintro e w9 ⟨rfl, hb9⟩
      have B9 := Lib.hid (B8.out.step hb9)
      clear hb9 B8
      go_wp2_with (first
        | (refine wpList_run (o := ⟨some 68, _, _, _, _, _⟩) rfl (v := .agg (Z0.map bv).toArray) (w' := w9) (hexec_build rfl (by simp only [List.map_toArray, List.map_nil]; exact hbd.out w9)) ?_)
        | fail)
      refine (awake7_any w9 (HR.out.ext B9.out)).mono ?_
      rintro e w10 ⟨rfl, hb10⟩
      have B10 := Lib.hid (B9.out.step hb10)
      clear hb10
      go_wp2
      go_ret
      exact ⟨rfl, B10.out⟩
end Go.Proofs.YtdmdjgmkhoahmaaDoor
