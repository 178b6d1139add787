/- Laws through the layers: HMAC is two sums. -/
import Derived.Test.YtfcnahbbieldfaaDoorHma4t
import Derived.Test.YtfcnahbbieldfaaDoorTopK
namespace Go.Proofs.YtfcnahbbieldfaaDoor
open Go.RowKit
set_option maxRecDepth 100000
set_option linter.unusedVariables false
set_option linter.unusedSimpArgs false
theorem y5_step (KB : List UInt8) (y : UInt8) (i : Nat) (hK : KB.length = 64) (hi : i < 64) : (twistL KB y).take i ++ [KB.getD i 0 ^^^ y] = (twistL KB y).take (i + 1) := by
  rw [List.take_succ_eq_append_getElem (by rw [twistL_len KB y hK]; exact hi)]
  congr 1
  simp only [twistL, xorL, List.getElem_zipWith, List.getElem_replicate]
  rw [List.getD_eq_getElem?_getD, List.getElem?_eq_getElem (by omega)]; rfl
theorem y5_end (KB : List UInt8) (y : UInt8) (hK : KB.length = 64) : (twistL KB y).take 64 = twistL KB y := List.take_of_length_le (by rw [twistL_len KB y hK]; omega)
theorem hmac64 (key b : List UInt8) (hK : key.length = 64) : hmacL key b = sumL (twistL key 92 ++ sumL (twistL key 54 ++ b)) := by
  have h1 : hblockL key = key := by
    have h2 : keyOf key = key := by rw [keyOf, if_neg (by omega)]
    rw [hblockL, h2, hK]; simp
  rw [hmacL, hsumL, h1, begun_twist key b hK]
theorem y5_cell {l : List UInt8} {i : Nat} (h : i < l.length) : (l.map bv)[i]? = some (.int .u8 ((l.getD i 0).toNat : Int)) := by
  simp [List.getD, h, bv]
theorem y5_apart {w : World} {A : Option Addr} {c k g : Nat} {b : List UInt8} (hS : Sl w A c b) (hb : b.length = k) (hg : w.heap.size ≤ g) : 0 < k → ApartG A g := by
  intro h0 a ha
  obtain ⟨b1, o1, he, hb1, _⟩ := hS.2.2.at_ (by rw [List.length_map, hb]; exact h0)
  rw [he] at ha
  injection ha with ha
  rw [← ha]; show b1 ≠ g; omega
theorem y5_new {g q : Nat} (h : q ≠ g) {k : Nat} : 0 < k → ApartG (some ⟨q, 0, none⟩) g := fun _ a ha => by
  injection ha with ha; rw [← ha]; exact h
theorem StAt.oth {w w' : World} {g : Nat} {m : List UInt8} (H : StAt w g m) (hb : w'.heap[g]? = w.heap[g]?) : StAt w' g m := by
  obtain ⟨h, h1, h2, h3⟩ := H
  exact ⟨h, h1, h2, hb.trans h3⟩
set_option maxHeartbeats 4000000 in
theorem topHmac_walk (w : World) (key : List UInt8) (hk : key.length = 64) (A : Option Addr) (c : Nat) (b : List UInt8) (h : Sl w A c b) (hR : Rnd w) :
    Calls Tryd.prog 3 #[.agg (key.map bv).toArray, .slice A b.length c] w fun e w' => e = .returned (.bool true) ∧ Below w.heap.size w w' := by
  have q1 : b.length ≤ 9223372036854775807 := by have := h.1; have := h.2.1; simp [maxLen] at this; omega
  have H := Lib.hid h; have HR := Lib.hid hR; have HK := Lib.hid hk
  obtain ⟨m, hm⟩ : ∃ m, b.length = m := ⟨_, rfl⟩
  have HM := Lib.hid hm
  rw [hm] at q1 ⊢
  have N0 := Lib.hid (heap_alloc_new' w (.cells (key.map bv).toArray 22))
  have B0 : Hid (Below w.heap.size w (w.alloc (.cells (key.map bv).toArray 22))) := (Below.refl _ _).alloc (Nat.le_refl _) _
  have CK : Hid (∀ (W : World) (i : Nat), W.heap[w.heap.size]? = some (.cells (key.map bv).toArray 22 (0, 0)) → i < 64 → W.cell? ⟨w.heap.size, i, none⟩ = some (.int .u8 ((key.getD i 0).toNat : Int))) := fun W i hW hi => by
    rw [cell_of_heap hW i]; exact y5_cell (by rw [hk]; exact hi)
  have SK : Hid (∀ (W : World), W.heap[w.heap.size]? = some (.cells (key.map bv).toArray 22 (0, 0)) → Sl W (some ⟨w.heap.size, 0, none⟩) 64 key) := fun W hW => sl_row hk (by omega) hW
  have T1 := Lib.hid (fun i hi => y5_step key 54 i hk hi)
  have T2 := Lib.hid (fun i hi => y5_step key 92 i hk hi)
  have E1 := Lib.hid (y5_end key 54 hk)
  have E2 := Lib.hid (y5_end key 92 hk)
  have L1 := Lib.hid (twistL_len key 54 hk)
  have L2 := Lib.hid (twistL_len key 92 hk)
  have HE := Lib.hid (hmac64 key b hk)
  obtain ⟨ZC, HZ⟩ : ∃ ZC, Hid ((key.map bv).toArray = ZC) := ⟨_, rfl⟩
  rw [HZ.out] at N0 B0 CK SK ⊢
  clear HZ h hk hm hR
  by_cases hb : 200 < m
  · have e1 : (200 : Int) < (m : Int) := by omega
    go_enter Tryd.func3, Tryd.ntmps3
    go_wp2
    go_ret
    exact ⟨rfl, B0.out⟩
  have e1 : ¬ ((200 : Int) < (m : Int)) := by omega
  have hm2 : m ≤ 200 := by omega
  clear hb
  have HMA := Lib.hid (fun W S1 S2 R => hmac_any (some ⟨w.heap.size, 0, none⟩) 64 64 key A m c b W HK.out HM.out (by omega) S1 S2 R)
  generalize twistL key 54 = P1 at T1 E1 L1 HE
  generalize twistL key 92 = P2 at T2 E2 L2 HE
  generalize hmacL key b = HH at HE HMA
  go_enter Tryd.func3, Tryd.ntmps3
  go_upto_region 1 with (fail)
  generalize w.alloc _ = W0 at N0 B0 ⊢
  go_wp2_with fail
  clear e1
  refine (new_any W0).mono ?_
  rintro e w1 ⟨rfl, hst, hb⟩
  obtain ⟨g1, hg1⟩ : ∃ g, W0.heap.size = g := ⟨_, rfl⟩
  rw [hg1] at hst ⊢
  have ST1 := Lib.hid hst
  have G1 : Hid (w.heap.size < g1) := by have := lt_of_heap N0.out; show _ < _; omega
  have B1 : Hid (Below w.heap.size w w1) := B0.out.step hb
  have N1 := Lib.hid ((hb.block _ (lt_of_heap N0.out)).trans N0.out)
  clear hst hb hg1 B0 N0
  go_wp2_with fail
  refine (new_any w1).mono ?_
  rintro e w2 ⟨rfl, hst, hb⟩
  have S1 : Hid (StAt w2 g1 []) := ST1.out.ext hb
  have hlt := StR.lt ST1.out
  obtain ⟨g2, hg2⟩ : ∃ g, w1.heap.size = g := ⟨_, rfl⟩
  rw [hg2] at hst hlt ⊢
  have S2 := Lib.hid hst
  have G2 : Hid (g1 < g2) := hlt
  have B2 : Hid (Below w.heap.size w w2) := B1.out.step hb
  have N2 := Lib.hid ((hb.block _ (lt_of_heap N1.out)).trans N1.out)
  clear hst hb hg2 hlt B1 N1 ST1
  go_upto_region 5 with (fail)
  have HS2 : Hid (w.heap.size + 1 ≤ w2.heap.size) := lt_of_heap N2.out
  go_loopw [7] (fun vi wr => ∃ (i : Nat), i ≤ 64 ∧ vi = .int .i64 (i : Int) ∧ Hid (StAt wr g1 (P1.take i)) ∧ Hid (StAt wr g2 (P2.take i)) ∧ Hid (Below (w.heap.size + 1) w2 wr)) (fun i _ => 64 - (intOf i).toNat)
  case atStart => exact ⟨0, by omega, rfl, S1, S2, Below.refl _ _⟩
  case round =>
    clear S1 S2
    obtain ⟨i, hi, rfl, S1, S2, HB⟩ := hrel
    have NR : Hid (wr.heap[w.heap.size]? = _) := (HB.out.block _ (Nat.lt_succ_self _)).trans N2.out
    have BR : Hid (Below w.heap.size w wr) := B2.out.trans (HB.out.mono (Nat.le_succ _))
    have RR' : Hid (Rnd wr) := HR.out.ext BR.out
    have HS3 : Hid (w.heap.size + 1 ≤ wr.heap.size) := Nat.le_trans HS2.out HB.out.size
    by_cases hlt : i < 64
    · have u1 : (i : Int) < 64 := by omega
      have c1 := CK.out wr i NR.out hlt
      have T1' := Lib.hid (T1.out i hlt)
      have T2' := Lib.hid (T2.out i hlt)
      generalize key.getD i 0 = x at c1 T1' T2'
      have X5 : bits .xor .u8 (x.toNat : Int) 54 = ((x ^^^ 54).toNat : Int) := xor8 x 54
      generalize x ^^^ 54 = y5 at X5 T1'
      go_wp2_with fail
      have M3 := Lib.hid (heap_alloc_new' wr (.cells ([y5].map bv).toArray 5))
      have E3 : Hid (Ext wr (wr.alloc (.cells ([y5].map bv).toArray 5))) := (Below.refl _ _).alloc (Nat.le_refl _) _
      change Calls _ _ _ (wr.alloc (.cells ([y5].map bv).toArray 5)) _
      have HG1 := Lib.hid (StR.lt S1.out); have HG2 := Lib.hid (StR.lt S2.out)
      generalize wr.alloc _ = W3 at M3 E3 ⊢
      have S13 : Hid (StAt W3 g1 (P1.take i)) := S1.out.ext E3.out
      have S23 : Hid (StAt W3 g2 (P2.take i)) := S2.out.ext E3.out
      have HB3 : Hid (Below (w.heap.size + 1) w2 W3) := HB.out.trans (E3.out.mono HS3.out)
      have NR3 : Hid (W3.heap[w.heap.size]? = _) := (E3.out.block _ (lt_of_heap NR.out)).trans NR.out
      refine (write_any g1 (P1.take i) (some ⟨wr.heap.size, 0, none⟩) 1 1 [y5] W3 rfl (by rw [List.length_take]; omega) (by have := G1.out; omega) (y5_new (by have := HG1.out; omega)) (sl_row rfl (by omega) M3.out) S13.out (RR'.out.ext E3.out)).mono ?_
      rintro e w4 ⟨⟨v4, rfl⟩, hst, hgr⟩
      rw [T1'.out] at hst
      have S14 := Lib.hid hst
      have S24 : Hid (StAt w4 g2 (P2.take i)) := S23.out.oth (hgr.block _ (StR.lt S23.out) (by have := G2.out; simp; omega))
      have HB4 : Hid (Below (w.heap.size + 1) w2 w4) := HB3.out.trans (grown_below hgr G1.out (Nat.le_trans HS2.out HB3.out.size))
      have NR4 : Hid (w4.heap[w.heap.size]? = _) := (hgr.block _ (lt_of_heap NR3.out) (by have := G1.out; simp; omega)).trans NR3.out
      have BR4 : Hid (Below w.heap.size w w4) := B2.out.trans (HB4.out.mono (Nat.le_succ _))
      have RR4 : Hid (Rnd w4) := HR.out.ext BR4.out
      have HS4 : Hid (w.heap.size + 1 ≤ w4.heap.size) := Nat.le_trans HS2.out HB4.out.size
      clear hst hgr S13 S23 HB3 NR3 M3 E3 c1 X5 RR' BR
      have c1 := CK.out w4 i NR4.out hlt
      clear T1'
      have T2' := Lib.hid (T2.out i hlt)
      generalize key.getD i 0 = x2 at c1 T2'
      have X5 : bits .xor .u8 (x2.toNat : Int) 92 = ((x2 ^^^ 92).toNat : Int) := xor8 x2 92
      generalize x2 ^^^ 92 = y6 at X5 T2'
      go_wp2_with fail
      have M5 := Lib.hid (heap_alloc_new' w4 (.cells ([y6].map bv).toArray 5))
      have E5 : Hid (Ext w4 (w4.alloc (.cells ([y6].map bv).toArray 5))) := (Below.refl _ _).alloc (Nat.le_refl _) _
      change Calls _ _ _ (w4.alloc (.cells ([y6].map bv).toArray 5)) _
      have HG4 := Lib.hid (StR.lt S24.out)
      generalize w4.alloc _ = W5 at M5 E5 ⊢
      have S15 : Hid (StAt W5 g1 (P1.take (i + 1))) := S14.out.ext E5.out
      have S25 : Hid (StAt W5 g2 (P2.take i)) := S24.out.ext E5.out
      have HB5 : Hid (Below (w.heap.size + 1) w2 W5) := HB4.out.trans (E5.out.mono HS4.out)
      refine (write_any g2 (P2.take i) (some ⟨w4.heap.size, 0, none⟩) 1 1 [y6] W5 rfl (by rw [List.length_take]; omega) (by have := G1.out; have := G2.out; omega) (y5_new (by have := HG4.out; omega)) (sl_row rfl (by omega) M5.out) S25.out (RR4.out.ext E5.out)).mono ?_
      rintro e w6 ⟨⟨v6, rfl⟩, hst, hgr⟩
      rw [T2'.out] at hst
      have S26 := Lib.hid hst
      have S16 : Hid (StAt w6 g1 (P1.take (i + 1))) := S15.out.oth (hgr.block _ (StR.lt S15.out) (by have := G2.out; simp; omega))
      have HB6 : Hid (Below (w.heap.size + 1) w2 w6) := HB5.out.trans (grown_below hgr (by have := G1.out; have := G2.out; omega) (Nat.le_trans HS2.out HB5.out.size))
      clear hst hgr S15 S25 HB5 M5 E5
      go_wp2
      go_roundw
      case rel => exact ⟨i + 1, by omega, by go_num, S16, S26, HB6⟩
      case measure => simp [intOf]; omega
    · have u1 : ¬ ((i : Int) < 64) := by omega
      obtain rfl : i = 64 := by omega
      rw [E1.out] at S1
      rw [E2.out] at S2
      have SA : Hid (Sl wr A c b) := H.out.below BR.out
      have AP1 : Hid (0 < m → ApartG A g1) := fun h0 => y5_apart H.out HM.out (Nat.le_of_lt G1.out) h0
      clear hlt hi T1 T2 E1 E2
      go_wp2_with fail
      refine (write_any g1 P1 A m c b wr HM.out (by rw [L1.out]; omega) (by have := G1.out; omega) AP1.out SA.out S1.out RR'.out).mono ?_
      rintro e w4 ⟨⟨v4, rfl⟩, hst, hgr⟩
      have S14 := Lib.hid hst
      have S24 : Hid (StAt w4 g2 P2) := S2.out.oth (hgr.block _ (StR.lt S2.out) (by have := G2.out; simp; omega))
      have HB4 : Hid (Below (w.heap.size + 1) w2 w4) := HB.out.trans (grown_below hgr G1.out (Nat.le_trans HS2.out HB.out.size))
      have BR4 : Hid (Below w.heap.size w w4) := B2.out.trans (HB4.out.mono (Nat.le_succ _))
      clear hst hgr S1 S2 HB NR BR RR' HS3 SA AP1
      have LS := Lib.hid (sumL_len (P1 ++ b))
      have SS := Lib.hid (fun W (hS : StAt W g1 (P1 ++ b)) (hR : Rnd W) => stSum_any g1 (P1 ++ b) W (by rw [List.length_append, L1.out, HM.out]; omega) hS hR)
      generalize sumL (P1 ++ b) = Z1 at LS HE SS
      go_wp2_with fail
      refine (SS.out w4 S14.out (HR.out.ext BR4.out)).mono ?_
      rintro e w5 ⟨rfl, hb5⟩
      have S25 : Hid (StAt w5 g2 P2) := S24.out.ext hb5
      have HB5 : Hid (Below (w.heap.size + 1) w2 w5) := HB4.out.trans (hb5.mono (Nat.le_trans HS2.out HB4.out.size))
      clear hb5 S14 S24 HB4 BR4 SS
      have hi32 : Hid ((Tryd.prog.info? 27).map (·.size) = some (Z1.map bv).length) := by show _ = _; rw [List.length_map, LS.out]; exact i32B
      have hle : Hid ((List.replicate 32 (Value.int .u8 0)).length = (Z1.map bv).length) := by show _ = _; rw [List.length_map, LS.out]; rfl
      go_upto_region 11 with (first
        | (refine wpList_st rfl 27 (.tmp 8) (.tmp 36) rfl (store_arr (cs := Z1.map bv) (old := List.replicate 32 (Value.int .u8 0)) hi32.out (bv_one _) (heap_alloc_new' w5 _) hle.out) ?_
           generalize hV : World.setRow _ _ _ = W6
           have M6 := Lib.hid (heap_of_setRow hV (heap_alloc_new' w5 _))
           have MB := Lib.hid (((Below.refl w5.heap.size w5).alloc (Nat.le_refl _) _).trans (below_of_setRow hV (Nat.le_refl w5.heap.size) (by simp)))
           clear hV)
        | fail)
      have HG5 := Lib.hid (StR.lt S25.out)
      have S26 : Hid (StAt W6 g2 P2) := S25.out.ext MB.out
      have HB6 : Hid (Below (w.heap.size + 1) w2 W6) := HB5.out.trans (MB.out.mono (Nat.le_trans HS2.out HB5.out.size))
      have BR6 : Hid (Below w.heap.size w W6) := B2.out.trans (HB6.out.mono (Nat.le_succ _))
      clear MB HB5 S25
      obtain ⟨q6, hq6⟩ : ∃ q, w5.heap.size = q := ⟨_, rfl⟩
      rw [hq6] at M6 HG5 ⊢
      clear hq6
      have ar1 := arr_all arr32B s8 ⟨q6, 0, none⟩
      have ar2 := arr_all arr64B s8 ⟨w.heap.size, 0, none⟩
      go_wp2_with fail
      refine (write_any g2 P2 (some ⟨q6, 0, none⟩) 32 32 Z1 W6 LS.out (by rw [L2.out]; omega) (by have := G1.out; have := G2.out; omega) (y5_new (by have := HG5.out; omega)) (sl_row LS.out (by omega) M6.out) S26.out (HR.out.ext BR6.out)).mono ?_
      rintro e w7 ⟨⟨v7, rfl⟩, hst, hgr⟩
      have S27 := Lib.hid hst
      have HB7 : Hid (Below (w.heap.size + 1) w2 w7) := HB6.out.trans (grown_below hgr (by have := G1.out; have := G2.out; omega) (Nat.le_trans HS2.out HB6.out.size))
      have BR7 : Hid (Below w.heap.size w w7) := B2.out.trans (HB7.out.mono (Nat.le_succ _))
      have NR7 : Hid (w7.heap[w.heap.size]? = _) := (HB7.out.block _ (Nat.lt_succ_self _)).trans N2.out
      clear hst hgr S26 HB6 BR6 M6 HG5
      go_wp2_with fail
      refine (HMA.out w7 (SK.out w7 NR7.out) (H.out.below BR7.out) (HR.out.ext BR7.out)).mono ?_
      rintro e w8 ⟨rfl, hb8⟩
      have S28 : Hid (StAt w8 g2 (P2 ++ Z1)) := S27.out.ext hb8
      have BR8 : Hid (Below w.heap.size w w8) := BR7.out.step hb8
      clear hb8 S27 HB7 BR7 NR7
      have SS := Lib.hid (fun W (hS : StAt W g2 (P2 ++ Z1)) (hR : Rnd W) => stSum_any g2 (P2 ++ Z1) W (by rw [List.length_append, L2.out, LS.out]; omega) hS hR)
      have LH := Lib.hid (sumL_len (P2 ++ Z1))
      rw [← HE.out] at SS LH
      clear HE
      have hqq := eql_bytes (P := Tryd.prog) arr32B Tryd.underlying5 s8 HH HH LH.out LH.out
      rw [decide_eq_true rfl] at hqq
      go_wp2_with fail
      refine (SS.out w8 S28.out (HR.out.ext BR8.out)).mono ?_
      rintro e w9 ⟨rfl, hb9⟩
      have BR9 : Hid (Below w.heap.size w w9) := BR8.out.step hb9
      clear hb9 S28 BR8
      go_wp2_with fail
      refine (tawake_any w9).mono ?_
      rintro e w10 ⟨rfl, hb10⟩
      have BR10 : Hid (Below w.heap.size w w10) := BR9.out.step hb10
      clear hb10
      go_wp2
      go_ret
      exact ⟨rfl, BR10.out⟩
end Go.Proofs.YtfcnahbbieldfaaDoor
