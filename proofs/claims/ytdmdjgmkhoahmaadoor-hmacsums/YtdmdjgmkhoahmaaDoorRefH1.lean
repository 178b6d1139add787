/- palfreyref07.Sum. -/
import Derived.Test.YtdmdjgmkhoahmaaDoorHma4
import Derived.Test.YtdmdjgmkhoahmaaDoorRefS4
namespace Go.Proofs.YtdmdjgmkhoahmaaDoor
open Go.RowKit
set_option linter.unusedVariables false
set_option linter.unusedSimpArgs false
theorem twist_step (KB : List UInt8) (y : UInt8) (i : Nat) (hK : KB.length = 64) (hi : i < 64) : (twistL KB y).take i ++ [KB.getD i 0 ^^^ y] = (twistL KB y).take (i + 1) := by
  rw [List.take_succ_eq_append_getElem (by rw [twistL_len KB y hK]; exact hi)]
  congr 1
  simp only [twistL, xorL, List.getElem_zipWith, List.getElem_replicate]
  rw [List.getD_eq_getElem?_getD, List.getElem?_eq_getElem (by omega)]; rfl
theorem twist_end (KB : List UInt8) (y : UInt8) (hK : KB.length = 64) : (twistL KB y).take 64 = twistL KB y := List.take_of_length_le (by rw [twistL_len KB y hK]; omega)
theorem hblock_get (key : List UInt8) (i : Nat) : (hblockL key).getD i 0 = if i < (keyOf key).length then (keyOf key).getD i 0 else 0 := by
  rw [hblockL, List.getD_eq_getElem?_getD]
  split
  · rename_i h
    rw [List.getElem?_append_left h, List.getD_eq_getElem?_getD]
  · rename_i h
    rw [List.getElem?_append_right (by omega), List.getElem?_replicate]
    split <;> rfl
theorem hmacL_ref (key b : List UInt8) : hmacL key b = sumL (twistL (hblockL key) 92 ++ sumL (twistL (hblockL key) 54 ++ b)) := by
  rw [hmacL, hsumL, begun_twist _ _ (hblockL_len key)]
theorem sl_cell8 {w : World} {A : Option Addr} {c i : Nat} {bs : List UInt8} (h : Sl w A c bs) (hi : i < bs.length) : ∃ b o, A = some ⟨b, o, none⟩ ∧ w.cell? ⟨b, o + i, none⟩ = some (.int .u8 ((bs.getD i 0).toNat : Int)) := by
  obtain ⟨b, o, rfl, _, hc⟩ := h.2.2.at_ (by rw [List.length_map]; omega)
  refine ⟨b, o, rfl, ?_⟩
  have := hc i (bv bs[i]) (by simp [hi])
  rw [this]; simp [List.getD, hi, bv]
theorem own_mono' {w : World} {base b' : Nat} {e : TypeId} {s : Nat} {v : Value} {n : Nat} {xs : List Value} (h : w.ownsRow base e s v n xs) (hb : b' ≤ base) : w.ownsRow b' e s v n xs := by
  obtain ⟨h0, h | ⟨g, cap, cur, hv, hg, r⟩⟩ := h
  · exact ⟨h0, .inl h⟩
  · exact ⟨h0, .inr ⟨g, cap, cur, hv, Nat.le_trans hb hg, r⟩⟩
theorem c_own_alloc {w : World} {base : Nat} {e : TypeId} {s : Nat} {v : Value} {n : Nat} {xs : List Value} (h : w.ownsRow base e s v n xs) (o : Obj) : (w.alloc o).ownsRow base e s v n xs := own_below h ((Below.refl _ _).alloc (Nat.le_refl _) o)
set_option maxHeartbeats 4000000 in
theorem refHmac_any (A : Option Addr) (n c : Nat) (key : List UInt8) (A' : Option Addr) (k c' : Nat) (b : List UInt8) (w : World) (hl : key.length = n) (hl' : b.length = k) (hn : n ≤ 2147000000) (hk : k ≤ 2146000000) (hS : Sl w A c key) (hS' : Sl w A' c' b) :
    Calls Tryd.prog 8 #[.slice A n c, .slice A' k c'] w fun e w' => ∃ v, e = .returned v ∧ w'.ownsRow w.heap.size 5 1 v 32 ((hmacL key b).map bv) ∧ Below w.heap.size w w' := by
  have HL := Lib.hid hl; have HL' := Lib.hid hl'; have HS := Lib.hid hS; have HS' := Lib.hid hS'
  have HKL := Lib.hid (keyOf_len key)
  have HBL := Lib.hid (hblockL_len key)
  obtain ⟨kl, hkl⟩ : ∃ kl, kl = (keyOf key).length := ⟨_, rfl⟩
  have HKE := Lib.hid hkl.symm
  rw [← hkl] at HKL
  have HGET := Lib.hid (fun i => hblock_get key i)
  rw [← hkl] at HGET
  have HKO : Hid (keyOf key = if 64 < n then sumL key else key) := by show _ = _; rw [keyOf, hl]
  have HM := Lib.hid (hmacL_ref key b)
  generalize hmacL key b = F at HM ⊢
  have R1 := Lib.hid (fun A c W hS => refSum_any A n c key W hl hn hS)
  have hkl64 : kl ≤ 64 := HKL.out
  clear hl hl' hS hS' hkl
  go_enter Tryd.func8, Tryd.ntmps8
  have hn31 : 0 + n ≤ 2147483647 := by omega
  go_upto_if 15 with (first
    | (at_builtin
       refine wpList_app8 rfl (.tmp 10) (.tmp 11) rfl w.heap.size _ 0 [] rfl ?_ A n c w.heap.size key rfl ?_ ?_ ?_ ?_ ?_
       · exact own_heap (g := w.heap.size) (heap_alloc_new' w _) (Nat.le_refl _) rfl (Nat.zero_le _)
       · exact HS.out.2.2.below ((Below.refl _ _).alloc (Nat.le_refl _) _)
       · exact HL.out
       · exact hn31
       · simp
       rintro v1 w1 hown hgr
       have HB1 := Lib.hid (((Below.refl w.heap.size w).alloc (Nat.le_refl _) _).grown hgr (by simp) (ge_own w.heap.size 0))
       rw [List.nil_append, Nat.zero_add] at hown
       obtain ⟨A1, c1, rfl, hl1, h11, h12, hr1⟩ := own_read hown
       have S1 := Lib.hid (sl_mk hl1 h11 h12 hr1)
       clear hgr hown hl1 h11 h12 hr1)
    | fail)
  go_cut [5, 15] from 16 to 17 (fun v5 v15 wx => ∃ (A5 : Option Addr) (c5 : Nat), v5 = .slice A5 kl c5 ∧ Hid (Sl wx A5 c5 (keyOf key)) ∧ Hid (Below w.heap.size w wx))
  case first =>
    by_cases hbig : 64 < n
    · have e1 : (64 : Int) < (n : Int) := by omega
      have hko : Hid (keyOf key = sumL key) := by show _ = _; rw [HKO.out, if_pos hbig]
      have hk32 : kl = 32 := by rw [← HKE.out, hko.out, sumL_len]
      go_wp2_with fail
      refine (R1.out A1 c1 w1 S1.out).mono ?_
      rintro e w2 ⟨v2, rfl, hO2, hb2⟩
      obtain ⟨A2, c2, rfl, hl2, h21, h22, hr2⟩ := own_read hO2
      have S2 := Lib.hid (sl_mk hl2 h21 h22 hr2)
      have HB2 := Lib.hid (HB1.out.step hb2)
      clear hO2 hl2 h21 h22 hr2 hb2
      go_wp2_with fail
      go_meet
      exact ⟨A2, c2, by rw [hk32], by rw [hko.out]; exact S2, HB2⟩
    · have e1 : ¬ ((64 : Int) < (n : Int)) := by omega
      have hko : Hid (keyOf key = key) := by show _ = _; rw [HKO.out, if_neg hbig]
      have hkn : kl = n := by rw [← HKE.out, hko.out, HL.out]
      go_wp2_with fail
      go_meet
      exact ⟨A1, c1, by rw [hkn], by rw [hko.out]; exact S1, HB1⟩
  case rest =>
    obtain ⟨A5, c5, rfl, S5, B5⟩ := hcut
    clear S1 HB1 R1 HKO hn31
    generalize keyOf key = KO at HKE HGET S5
    have TS54 := Lib.hid (fun i hi => twist_step (hblockL key) 54 i HBL.out hi)
    have TS92 := Lib.hid (fun i hi => twist_step (hblockL key) 92 i HBL.out hi)
    have TE54 := Lib.hid (twist_end (hblockL key) 54 HBL.out)
    have TE92 := Lib.hid (twist_end (hblockL key) 92 HBL.out)
    have TL54 := Lib.hid (twistL_len (hblockL key) 54 HBL.out)
    have TL92 := Lib.hid (twistL_len (hblockL key) 92 HBL.out)
    generalize twistL (hblockL key) 54 = T5 at TS54 TE54 TL54 HM
    generalize twistL (hblockL key) 92 = T9 at TS92 TE92 TL92 HM
    generalize hblockL key = KB at HBL HGET TS54 TS92
    obtain ⟨wo, hwo⟩ : ∃ x, x = wc := ⟨_, rfl⟩
    subst hwo
    go_wp2_with fail
    obtain ⟨q, hq⟩ : ∃ q, q = wo.heap.size := ⟨_, rfl⟩
    have HQ := Lib.hid hq
    clear hq
    go_loopw [6, 7, 8, 9] (fun v6 v7 vi _ wr => ∃ (i : Nat) (A6 A7 : Option Addr) (c6 c7 : Nat), i ≤ 64 ∧ vi = .int .i64 (i : Int) ∧ v6 = .slice A6 i c6 ∧ v7 = .slice A7 i c7 ∧
      Hid (wr.ownsRow q 5 1 (.slice A6 i c6) i ((T5.take i).map bv)) ∧ Hid (wr.ownsRow q 5 1 (.slice A7 i c7) i ((T9.take i).map bv)) ∧ Hid (Two (.slice A6 i c6) (.slice A7 i c7)) ∧ Hid (Below q wo wr)) (fun _ _ i _ _ => 64 - (intOf i).toNat)
    case atStart => exact ⟨0, none, none, 0, 0, by omega, rfl, rfl, rfl, World.ownsRow_nil _ _ _ _, World.ownsRow_nil _ _ _ _, two_nil _, Below.refl _ _⟩
    case round =>
      obtain ⟨i, A6, A7, c6, c7, hi, rfl, rfl, rfl, O6, O7, TW, BR⟩ := hrel
      have SR : Hid (Sl wr A5 c5 KO) := by show Sl _ _ _ _; exact S5.out.below (by rw [← HQ.out]; exact BR.out)
      have HQR : Hid (q ≤ wr.heap.size) := by have h1 := BR.out.size; have h2 := HQ.out; show _ ≤ _; omega
      by_cases hlt : i < 64
      · have q1 : (i : Int) < 64 := by omega
        obtain ⟨x, hx⟩ : ∃ x, KB.getD i 0 = x := ⟨_, rfl⟩
        have HG := HGET.out i
        rw [hx] at HG
        have TS5 := TS54.out i hlt
        have TS9 := TS92.out i hlt
        rw [hx] at TS5 TS9
        have HT5 := Lib.hid TS5; have HT9 := Lib.hid TS9
        clear hx TS5 TS9
        obtain ⟨wz, hwz⟩ : ∃ z, z = wr := ⟨_, rfl⟩
        go_upto_if 25 with (fail)
        go_cut [9, 25] from 26 to 29 (fun v9 v25 wx => v9 = .int .u8 (x.toNat : Int) ∧ wx = wz)
        case first =>
          by_cases hik : i < kl
          · have q2 : (i : Int) < (kl : Int) := by omega
            rw [if_pos hik] at HG
            obtain ⟨b0, o0, rfl, c1⟩ := sl_cell8 SR.out (i := i) (by rw [HKE.out]; exact hik)
            rw [← HG] at c1
            clear HG
            go_wp2_with fail
            go_meet
            exact ⟨rfl, hwz.symm⟩
          · have q2 : ¬ ((i : Int) < (kl : Int)) := by omega
            rw [if_neg hik] at HG
            go_wp2_with fail
            go_meet
            exact ⟨by rw [HG]; rfl, hwz.symm⟩
        case rest =>
          obtain ⟨rfl, hwc⟩ := hcut
          rw [hwz] at hwc
          subst hwc
          clear hwz HG
          have X5 : bits .xor .u8 (x.toNat : Int) 54 = ((x ^^^ 54).toNat : Int) := xor8 x 54
          have X9 : bits .xor .u8 (x.toNat : Int) 92 = ((x ^^^ 92).toNat : Int) := xor8 x 92
          generalize x ^^^ 54 = y5 at X5 HT5
          generalize x ^^^ 92 = y9 at X9 HT9
          have hb31 : i + 1 ≤ 2147483647 := by omega
          go_wp2_with (first
            | (at_builtin
               refine wpList_app8_at rfl (.tmp 30) (.tmp 33) rfl q _ i (T5.take i) rfl ?_ (some ⟨wc.heap.size, 0, none⟩) 1 1 (wc.heap.size + 1) [y5] rfl ?_ rfl hb31 ?_ ?_
               · exact c_own_alloc O6.out _
               · exact row_of_heap (bs := [y5]) (heap_alloc_new' wc (.cells ([y5].map bv).toArray 5)) (Nat.lt_succ_self _)
               · simp; have := HQR.out; omega
               rintro v6 w6 hown hgr hat
               rw [HT5.out] at hown
               obtain ⟨A62, c62, rfl, _⟩ := own_read hown
               have O62 := Lib.hid hown
               have O72 := Lib.hid (two_own (c_own_alloc O7.out (.cells ([y5].map bv).toArray 5)) hgr TW.out)
               have TW2 := Lib.hid (two_step (c_own_alloc O7.out (.cells ([y5].map bv).toArray 5)) TW.out hat)
               have B62 := Lib.hid ((BR.out.alloc HQR.out (.cells ([y5].map bv).toArray 5)).grown hgr (by simp; have := HQR.out; omega) (c_own_ge' O6.out (Nat.le_refl _)))
               have HQ6 : Hid (q ≤ w6.heap.size) := Nat.le_trans HQR.out (Nat.le_trans (by simp) hgr.size)
               clear hown hgr hat)
            | (at_builtin
               refine wpList_app8_at rfl (.tmp 35) (.tmp 38) rfl q _ i (T9.take i) rfl ?_ (some ⟨w6.heap.size, 0, none⟩) 1 1 (w6.heap.size + 1) [y9] rfl ?_ rfl hb31 ?_ ?_
               · exact c_own_alloc O72.out _
               · exact row_of_heap (bs := [y9]) (heap_alloc_new' w6 (.cells ([y9].map bv).toArray 5)) (Nat.lt_succ_self _)
               · simp; have := HQ6.out; omega
               rintro v7 w7 hown hgr hat
               rw [HT9.out] at hown
               obtain ⟨A73, c73, rfl, _⟩ := own_read hown
               have O73 := Lib.hid hown
               have O63 := Lib.hid (two_own (c_own_alloc O62.out (.cells ([y9].map bv).toArray 5)) hgr TW2.out.symm)
               have TW3 := Lib.hid (two_step (c_own_alloc O62.out (.cells ([y9].map bv).toArray 5)) TW2.out.symm hat).symm
               have B73 := Lib.hid ((B62.out.alloc HQ6.out (.cells ([y9].map bv).toArray 5)).grown hgr (by simp; have := HQ6.out; omega) (c_own_ge' O72.out (Nat.le_refl _)))
               clear hown hgr hat)
            | fail)
          go_roundw
          case rel => exact ⟨i + 1, A62, A73, c62, c73, by omega, by go_num, rfl, rfl, O63, O73, TW3, B73⟩
          case measure => simp [intOf]; omega
      · have q1 : ¬ ((i : Int) < 64) := by omega
        have hi64 : i = 64 := by omega
        subst hi64
        rw [TE54.out] at O6
        rw [TE92.out] at O7
        have SB : Hid (Sl wr A' c' b) := HS'.out.below (B5.out.step (by rw [← HQ.out]; exact BR.out))
        have hkk : 64 + k ≤ 2147483647 := by omega
        clear SR TS54 TS92 HGET S5 hi q1
        obtain ⟨n1, hn1⟩ : ∃ n1, n1 = 64 + k := ⟨_, rfl⟩
        have N1 := Lib.hid hn1
        have HL1 : Hid ((T5 ++ b).length = n1) := by show _ = _; rw [List.length_append, TL54.out, HL'.out, N1.out]
        have HA1 := Lib.hid (fun A c W hS => refSum_any A n1 c (T5 ++ b) W HL1.out (by omega) hS)
        have HL2 := Lib.hid (sumL_len (T5 ++ b))
        have HL3 : Hid ((T9 ++ sumL (T5 ++ b)).length = 96) := by show _ = _; rw [List.length_append, TL92.out, HL2.out]
        have HA2 := Lib.hid (fun A c W hS => refSum_any A 96 c (T9 ++ sumL (T5 ++ b)) W HL3.out (by omega) hS)
        rw [← HM.out] at HA2
        clear HM hn1
        generalize sumL (T5 ++ b) = Y at HA1 HL2 HL3 HA2
        go_wp2_with (first
          | (at_builtin
             refine wpList_app8_at rfl (.tmp 41) (.tmp 42) rfl q _ 64 T5 rfl O6.out A' k c' wr.heap.size b rfl SB.out.2.2 HL'.out hkk HQR.out ?_
             rintro v6 w6 hown hgr hat
             rw [← N1.out] at hown
             obtain ⟨A62, c62, rfl, hl6, h61, h62, hr6⟩ := own_read hown
             have S6 := Lib.hid (sl_mk hl6 h61 h62 hr6)
             have O72 := Lib.hid (two_own O7.out hgr TW.out)
             have B62 := Lib.hid (BR.out.grown hgr HQR.out (c_own_ge' O6.out (Nat.le_refl _)))
             have HQ6 : Hid (q ≤ w6.heap.size) := Nat.le_trans HQR.out hgr.size
             clear hown hgr hat hl6 h61 h62 hr6)
          | fail)
        refine (HA1.out _ _ w6 S6.out).mono ?_
        rintro e w8 ⟨v8, rfl, hO8, hb8⟩
        obtain ⟨A8, c8, rfl, hl8, h81, h82, hr8⟩ := own_read hO8
        have S8 := Lib.hid (sl_mk hl8 h81 h82 hr8)
        have O73 := Lib.hid (own_below O72.out hb8)
        have B8 := Lib.hid (B62.out.trans (hb8.mono HQ6.out))
        have HQ8 : Hid (q ≤ w8.heap.size) := Nat.le_trans HQ6.out hb8.size
        clear hO8 hl8 h81 h82 hr8 hb8
        go_wp2_with (first
          | (at_builtin
             refine wpList_app8_at rfl (.tmp 40) (.tmp 44) rfl q _ 64 T9 rfl O73.out A8 32 c8 w8.heap.size Y rfl S8.out.2.2 HL2.out (by omega) HQ8.out ?_
             rintro v9 w9 hown hgr hat
             obtain ⟨A9, c9, rfl, hl9, h91, h92, hr9⟩ := own_read hown
             have S9 := Lib.hid (sl_mk hl9 h91 h92 hr9)
             have B9 := Lib.hid (B8.out.grown hgr HQ8.out (c_own_ge' O73.out (Nat.le_refl _)))
             clear hown hgr hat hl9 h91 h92 hr9)
          | fail)
        refine (HA2.out _ _ w9 S9.out).mono ?_
        rintro e w10 ⟨v10, rfl, hO10, hb10⟩
        have O10 := Lib.hid hO10
        have B10 : Hid (Below w.heap.size w w10) := (B5.out.step (by rw [← HQ.out]; exact B9.out)).step hb10
        have HB9 : Hid (w.heap.size ≤ w9.heap.size) := (B5.out.step (by rw [← HQ.out]; exact B9.out)).size
        clear hO10 hb10
        go_wp2
        go_ret
        exact ⟨_, rfl, own_mono' O10.out HB9.out, B10.out⟩
end Go.Proofs.YtdmdjgmkhoahmaaDoor
