/- Joined: AesM4 Cbc8 LawsK2 LawsK3 LiftV. -/
import Derived.Test.YtpihnggegmbgfaaJoin1
import Derived.Test.YtpihnggegmbgfaaRefK2
import Derived.Test.YtpihnggegmbgfaaLiftN
/- What is enciphered is deciphered to what it was, and the other way round. -/
namespace Go.Proofs.Ytpihnggegmbgfaa
open Go.RowKit
set_option maxRecDepth 100000
set_option linter.unusedVariables false
theorem unmix_mix_l (s : List W32) : (s.map mixW).map unmixW = s := by rw [List.map_map]; exact map_id' _ unmix_mix s
theorem mix_unmix_l (s : List W32) : (s.map unmixW).map mixW = s := by rw [List.map_map]; exact map_id' _ mix_unmix s
theorem dec_enc_N (ws : List W32) (n : Nat) (b : List UInt8) (hw : ws.length = 60) (h1 : 1 ≤ n) (h2 : n ≤ 14) : ∀ i, i ≤ n - 1 → decN backL ws n (encL ws n b) i = encN sboxL ws b (n - 1 - i) := by
  intro i
  induction i with
  | zero =>
    intro _
    have hl := encN_len sboxL ws b (n - 1) hw (by omega)
    have hs : (shiftW 1 ((encN sboxL ws b (n - 1)).map (subW sboxL))).length = 4 := shiftW_len _ _
    rw [decN, encL, encT, cols_out _ (addW_len _ _ _ hs (by omega)), add_add _ _ _ hs (by omega), shift_31 _ (by rw [List.length_map]; exact hl), sub_back_l]
    rfl
  | succ i ih =>
    intro hi
    have e : n - 1 - i = (n - 1 - (i + 1)) + 1 := by omega
    have hl := encN_len sboxL ws b (n - 1 - (i + 1)) hw (by omega)
    have hs : (shiftW 1 ((encN sboxL ws b (n - 1 - (i + 1))).map (subW sboxL))).length = 4 := shiftW_len _ _
    rw [decN, ih (by omega)]
    rw [e, encN, add_add _ _ _ (by rw [List.length_map]; exact hs) (by omega), unmix_mix_l, shift_31 _ (by rw [List.length_map]; exact hl), sub_back_l]
theorem dec_enc (ws : List W32) (n : Nat) (b : List UInt8) (hw : ws.length = 60) (h1 : 1 ≤ n) (h2 : n ≤ 14) (hb : b.length = 16) : decL ws n (encL ws n b) = b := by
  have h := dec_enc_N ws n b hw h1 h2 (n - 1) (Nat.le_refl _)
  rw [decL, decT, h, Nat.sub_self, encN, add_add _ _ _ (colsL_len b) (by omega), out_cols b hb]
theorem enc_dec_N (ws : List W32) (n : Nat) (b : List UInt8) (hw : ws.length = 60) (h1 : 1 ≤ n) (h2 : n ≤ 14) : ∀ j, j ≤ n - 1 → encN sboxL ws (decL ws n b) j = decN backL ws n b (n - 1 - j) := by
  intro j
  induction j with
  | zero =>
    intro _
    have hl := decN_len backL ws n b (n - 1)
    rw [encN, decL, decT, cols_out _ (addW_len _ _ _ hl (by omega)), add_add _ _ _ hl (by omega)]
    rfl
  | succ j ih =>
    intro hj
    have e : n - 1 - j = (n - 1 - (j + 1)) + 1 := by omega
    have hl := decN_len backL ws n b (n - 1 - (j + 1))
    have ek : n - 1 - (n - 1 - (j + 1)) = j + 1 := by omega
    have ha : (addW ws (j + 1) (decN backL ws n b (n - 1 - (j + 1)))).length = 4 := addW_len _ _ _ hl (by omega)
    rw [encN, ih (by omega), e, decN, ek, back_sub_l, shift_13 _ (by rw [List.length_map]; exact ha), mix_unmix_l, add_add _ _ _ hl (by omega)]
theorem enc_dec (ws : List W32) (n : Nat) (b : List UInt8) (hw : ws.length = 60) (h1 : 1 ≤ n) (h2 : n ≤ 14) (hb : b.length = 16) : encL ws n (decL ws n b) = b := by
  have h := enc_dec_N ws n b hw h1 h2 (n - 1) (Nat.le_refl _)
  have hc : (addW ws n (colsL b)).length = 4 := addW_len _ _ _ (colsL_len b) (by omega)
  rw [encL, encT, h, Nat.sub_self, decN, back_sub_l, shift_13 _ hc, add_add _ _ _ (colsL_len b) (by omega), out_cols b hb]
end Go.Proofs.Ytpihnggegmbgfaa

/- The key of the laws of layer 9 in memory, and its round keys. -/
namespace Go.Proofs.Ytpihnggegmbgfaa
open Go.RowKit
set_option linter.unusedVariables false
set_option maxRecDepth 100000
set_option linter.unusedSimpArgs false
set_option maxHeartbeats 1000000 in
theorem kbytes9_any (k : List UInt8) (b : Bool) (n : List UInt8) (w : World) (hk : k.length = 32) (hn : n.length = 16) :
    Calls Try.prog 13 #[.agg (kCells k b n).toArray] w fun e w' => e = .returned (.slice (some ⟨w.heap.size, 0, none⟩) (4 * keyW b) 32) ∧ Sl w' (some ⟨w.heap.size, 0, none⟩) 32 (keyB k b) ∧ Below w.heap.size w w' := by
  have Z0 := kz_new w k n b 25 hk hn
  have HS := Lib.hid (Z0.key hk)
  have hc := Z0.2.2.1
  have sl := arr_to arr32Z s8 ⟨w.heap.size, 0, none⟩ .i64 16 (by omega) (by omega)
  rw [show (16 : Int).toNat = 16 from rfl] at sl
  have sl2 := arr_all arr32Z s8 ⟨w.heap.size, 0, none⟩
  clear Z0
  generalize (kCells k b n).toArray = Z at HS hc ⊢
  generalize keyB k b = KB at HS ⊢
  cases b
  · go_enter Try.func13, Try.ntmps13
    go_wp2
    go_ret
    exact ⟨rfl, HS.out, (Below.refl _ _).alloc (Nat.le_refl _) _⟩
  · go_enter Try.func13, Try.ntmps13
    go_wp2
    go_ret
    exact ⟨rfl, HS.out, (Below.refl _ _).alloc (Nat.le_refl _) _⟩
theorem iKey9 : (Try.prog.info? 25).map (·.size) = some 49 := by kernel_rfl
set_option maxHeartbeats 1000000 in
theorem keys9_any (k : List UInt8) (b : Bool) (n : List UInt8) (w : World) (hk : k.length = 32) (hn : n.length = 16) :
    Calls Try.prog 10 #[.agg (kCells k b n).toArray] w fun e w' => ∃ g, e = .returned (.tuple #[.pointer (some ⟨g, 0, none⟩), .bool true]) ∧ w.heap.size ≤ g ∧ KeyAt w' g (expandL (keyB k b)) (keyW b + 6) ∧ Below w.heap.size w w' := by
  have HBY := Lib.hid (fun W => kbytes9_any k b n W hk hn)
  have HL := Lib.hid (kCells_len k n b hk hn)
  have HKL := Lib.hid (keyB_len k b hk)
  have HW : Hid (keyW b = 4 ∨ keyW b = 8) := by show _ ∨ _; cases b <;> simp [keyW]
  generalize kCells k b n = Z at HBY HL ⊢
  generalize keyB k b = KB at HBY HKL ⊢
  generalize keyW b = nk at HBY HKL HW ⊢
  clear hk hn
  go_enter Try.func10, Try.ntmps10
  go_wp2_with (first
    | (refine wpList_ld rfl 25 (.tmp 1) rfl (load_arr Try.underlying25 rfl (by rw [HL.out]; exact iKey9) (heap_alloc_new' w _)) ?_)
    | fail)
  generalize hV : w.alloc _ = W0
  have B0 := Lib.hid (below_of_alloc hV (Nat.le_refl w.heap.size))
  clear hV
  refine (HBY.out W0).mono ?_
  rintro e w1 ⟨rfl, hS1, hb1⟩
  have S1 := Lib.hid hS1; have B1 := Lib.hid (B0.out.step hb1)
  clear hS1 hb1
  go_wp2_with fail
  refine (expand_any (some ⟨W0.heap.size, 0, none⟩) (4 * nk) 32 nk KB w1 HKL.out rfl HW.out S1.out).mono ?_
  rintro e w2 ⟨g, rfl, hg, hK, hb2⟩
  have K2 := Lib.hid hK; have B2 := Lib.hid (B1.out.step hb2)
  have HG : Hid (w.heap.size ≤ g) := Nat.le_trans B1.out.size hg
  clear hK hb2 hg
  go_wp2
  go_ret2
  exact ⟨g, rfl, HG.out, K2.out, B2.out⟩
end Go.Proofs.Ytpihnggegmbgfaa

/- Laws of layer 9: what is sealed is opened to what it was; what is no whole blocks is not opened. -/
namespace Go.Proofs.Ytpihnggegmbgfaa
open Go.RowKit
set_option maxRecDepth 100000
set_option linter.unusedVariables false
set_option linter.unusedSimpArgs false
set_option maxHeartbeats 2000000 in
theorem cbcBack_walk (w : World) (y : List UInt8 × Bool × List UInt8) (l : y.1.length = 32 ∧ y.2.2.length = 16) (A : Option Addr) (c : Nat) (b : List UInt8) (h : Sl w A c b) :
    Calls Try.prog 6 #[.agg (kCells y.1 y.2.1 y.2.2).toArray, .slice A b.length c] w fun e w' => e = .returned (.bool true) ∧ Below w.heap.size w w' := by
  obtain ⟨k, lg, iv⟩ := y
  obtain ⟨hk, hn⟩ := l
  simp only at hk hn ⊢
  have q1 : b.length ≤ 9223372036854775807 := by have := h.1; have := h.2.1; simp [maxLen] at this; omega
  have HN := Lib.hid hn; have H := Lib.hid h
  obtain ⟨n, hm⟩ : ∃ n, b.length = n := ⟨_, rfl⟩
  have HM := Lib.hid hm
  have hmc : n ≤ c := by rw [← hm]; exact h.1
  rw [hm] at q1 ⊢
  have HKS := Lib.hid (fun W => keys9_any k lg iv W hk hn)
  have HZL := Lib.hid (kCells_len k iv lg hk hn)
  have Z0 := Lib.hid (kz_new w k iv lg 25 hk hn)
  have HR : Hid (1 ≤ keyW lg + 6 ∧ keyW lg + 6 ≤ 14) := by show _ ∧ _; cases lg <;> simp [keyW]
  clear hk hn h
  generalize kCells k lg iv = Z at HKS HZL Z0 ⊢
  generalize keyW lg + 6 = nr at HKS HR
  generalize expandL (keyB k lg) = ws at HKS
  by_cases hb : 300 < n
  · go_enter Try.func6, Try.ntmps6
    go_wp2
    go_ret
    exact ⟨rfl, (Below.refl _ _).alloc (Nat.le_refl _) _⟩
  have hbb : n ≤ 300 := by omega
  clear hb q1 hm
  have HPB := Lib.hid (padB_len n)
  have hkk := padK9_le n
  have hm2 : n + padK9 n = (n / 16 + 1) * 16 := by unfold padK9; omega
  have HUP := Lib.hid (up_pad b)
  rw [HM.out] at HUP
  obtain ⟨mm, hmm⟩ : ∃ mm, n / 16 + 1 = mm := ⟨_, rfl⟩
  have hq : (n : Int) / 16 * 16 + 16 = ((16 * mm : Nat) : Int) := by omega
  have hq2 : n + padK9 n = 16 * mm := by omega
  have hlt : n < 16 * mm := by omega
  have HPL : Hid ((b ++ padB n).length = 16 * mm) := by show _ = _; rw [List.length_append, HM.out, HPB.out]; exact hq2
  have HTK : Hid ((b ++ padB n).take n = b) := by show _ = _; rw [← HM.out, List.take_left]
  have SE := Lib.hid (fun P E W (hE : Enc W (.pointer P) E) (hS : Sl W A c b) => seal_any P E iv A n c b W HN.out hE HM.out (by omega) hS)
  rw [hq2] at SE
  rw [Nat.mul_div_cancel_left mm (by omega)] at SE
  generalize b ++ padB n = PL at HUP HPL HTK SE
  have hmm2 : 16 * mm ≤ 400 := by omega
  obtain ⟨m2, hm22⟩ : ∃ m2, 16 * mm = m2 := ⟨_, rfl⟩
  rw [hm22] at hq SE hlt HPL hmm2
  clear hm2 hmm hq2 hkk HPB
  go_enter Try.func6, Try.ntmps6
  go_wp2_with (first
    | (refine wpList_ld rfl 25 (.tmp 2) rfl (load_arr Try.underlying25 rfl (by rw [HZL.out]; exact iKey9) (heap_alloc_new' w _)) ?_)
    | fail)
  generalize hV : w.alloc _ = Wa at Z0 ⊢
  have Ba := Lib.hid (below_of_alloc hV (Nat.le_refl w.heap.size))
  clear hV
  refine (HKS.out Wa).mono ?_
  rintro e W0 ⟨gk, rfl, _, hK, hb0⟩
  have K0 := Lib.hid (KeyAt.enc hK HR.out.1 HR.out.2)
  have D0 := Lib.hid (KeyAt.dcp hK HR.out.1 HR.out.2)
  have HDE : Hid (∀ x, x.length = 16 → decL ws nr (encL ws nr x) = x) := fun x hx => dec_enc ws nr x hK.1 HR.out.1 HR.out.2 hx
  have B0 := Lib.hid (Ba.out.step hb0)
  have Z0 := Lib.hid (Z0.out.ext hb0)
  clear hK hb0 Ba HKS
  generalize encL ws nr = E at K0 HDE
  generalize decL ws nr = D at D0 HDE
  have H0 := Lib.hid (H.out.below B0.out)
  have HUN : Hid (unchL D iv (chainL E iv PL mm) mm = PL) := unch_chain E D iv PL mm (by rw [HPL.out, hm22]) HN.out K0.out.1 HDE.out
  go_wp2_with (first
    | (refine wpList_ld rfl 23 (.tmp 21) rfl (run_loadAt_mid W0 w.heap.size 33 23 (iv.map bv) _ Z0.out.2.2.2 arr16B rfl (i16z iv HN.out)) ?_)
    | fail)
  refine (SE.out _ E W0 K0.out H0.out).mono ?_
  rintro e w1 ⟨v1, rfl, hO1, hb1⟩
  obtain ⟨A1, c1, rfl, hl1, hc1, hm1, hr1⟩ := own_read hO1
  have S1 : Hid (Sl w1 A1 c1 (chainL E iv PL mm)) := ⟨by omega, hm1, hr1⟩
  have L1 := Lib.hid hl1
  have Z1 := Lib.hid (Z0.out.ext hb1)
  have B1 := Lib.hid (B0.out.step hb1)
  have D1 := Lib.hid (D0.out.ext hb1)
  have H1 := Lib.hid (H0.out.extk hb1)
  generalize chainL E iv PL mm = CL at S1 L1 HUN
  clear hO1 hc1 hm1 hr1 hl1 hb1 SE K0 HDE B0 Z0 D0 H0
  go_wp2_with (first
    | (refine wpList_ld rfl 23 (.tmp 27) rfl (run_loadAt_mid w1 w.heap.size 33 23 (iv.map bv) _ Z1.out.2.2.2 arr16B rfl (i16z iv HN.out)) ?_)
    | fail)
  refine (open_any _ D iv A1 m2 c1 mm CL w1 HN.out D1.out L1.out hm22.symm (by omega) S1.out).mono ?_
  rintro e w2 ⟨v2, x2, rfl, hO2, hb2⟩
  have HOP : openO D iv CL = some n := by
    unfold openO
    rw [L1.out, if_neg (by omega), ← hm22, Nat.mul_div_cancel_left mm (by omega), HUN.out]
    exact HUP.out
  unfold OpenC at hO2
  rw [HOP, L1.out, ← hm22, Nat.mul_div_cancel_left mm (by omega), HUN.out] at hO2
  obtain ⟨rfl, _, hO2⟩ := hO2
  rw [HTK.out] at hO2
  obtain ⟨A2, c2, rfl, hl2, hc2, hm2, hr2⟩ := own_read hO2
  have S2 : Sl w2 A2 c2 b := ⟨by omega, hm2, hr2⟩
  have B2 := Lib.hid (B1.out.step hb2)
  have H2 := H1.out.extk hb2
  have cs1 := conv_string w2 A2 n c2 b hl2 S2
  have cs2 := conv_string w2 A n c b hl2 H2
  have hst : ((strOf b).toList == (strOf b).toList) = true := beq_self_eq_true _
  have hqq : ((m2 : Int) == (m2 : Int)) = true := beq_self_eq_true _
  clear hO2 hb2 HOP HUN HUP hr2 hm2 S2 H2 B1 Z1 D1 H1 S1
  go_wp2_with fail
  refine (awake9_any w2).mono ?_
  rintro e w3 ⟨rfl, hb3⟩
  go_wp2
  go_ret
  exact ⟨rfl, B2.out.step hb3⟩
set_option maxHeartbeats 2000000 in
theorem cbcShort_walk (w : World) (y : List UInt8 × Bool × List UInt8) (l : y.1.length = 32 ∧ y.2.2.length = 16) (A : Option Addr) (c : Nat) (b : List UInt8) (h : Sl w A c b) :
    Calls Try.prog 8 #[.agg (kCells y.1 y.2.1 y.2.2).toArray, .slice A b.length c] w fun e w' => e = .returned (.bool true) ∧ Below w.heap.size w w' := by
  obtain ⟨k, lg, iv⟩ := y
  obtain ⟨hk, hn⟩ := l
  simp only at hk hn ⊢
  have q1 : b.length ≤ 9223372036854775807 := by have := h.1; have := h.2.1; simp [maxLen] at this; omega
  have HN := Lib.hid hn; have H := Lib.hid h
  obtain ⟨n, hm⟩ : ∃ n, b.length = n := ⟨_, rfl⟩
  have HM := Lib.hid hm
  have hmc : n ≤ c := by rw [← hm]; exact h.1
  rw [hm] at q1 ⊢
  have HKS := Lib.hid (fun W => keys9_any k lg iv W hk hn)
  have HZL := Lib.hid (kCells_len k iv lg hk hn)
  have Z0 := Lib.hid (kz_new w k iv lg 25 hk hn)
  have HR : Hid (1 ≤ keyW lg + 6 ∧ keyW lg + 6 ≤ 14) := by show _ ∧ _; cases lg <;> simp [keyW]
  clear hk hn h
  generalize kCells k lg iv = Z at HKS HZL Z0 ⊢
  generalize keyW lg + 6 = nr at HKS HR
  generalize expandL (keyB k lg) = ws at HKS
  by_cases hb : 300 < n
  · go_enter Try.func8, Try.ntmps8
    go_wp2
    go_ret
    exact ⟨rfl, (Below.refl _ _).alloc (Nat.le_refl _) _⟩
  have hbb : n ≤ 300 := by omega
  clear hb q1 hm
  have HOD := Lib.hid (fun P D W (h16 : n % 16 ≠ 0) => open_odd P D iv A n c b W HM.out (by omega) h16)
  go_enter Try.func8, Try.ntmps8
  go_wp2_with (first
    | (refine wpList_ld rfl 25 (.tmp 2) rfl (load_arr Try.underlying25 rfl (by rw [HZL.out]; exact iKey9) (heap_alloc_new' w _)) ?_)
    | fail)
  generalize hV : w.alloc _ = Wa at Z0 ⊢
  have Ba := Lib.hid (below_of_alloc hV (Nat.le_refl w.heap.size))
  clear hV
  refine (HKS.out Wa).mono ?_
  rintro e W0 ⟨gk, rfl, _, hK, hb0⟩
  have K0 := Lib.hid (KeyAt.enc hK HR.out.1 HR.out.2)
  have D0 := Lib.hid (KeyAt.dcp hK HR.out.1 HR.out.2)
  have HDE : Hid (∀ x, x.length = 16 → decL ws nr (encL ws nr x) = x) := fun x hx => dec_enc ws nr x hK.1 HR.out.1 HR.out.2 hx
  have B0 := Lib.hid (Ba.out.step hb0)
  have Z0 := Lib.hid (Z0.out.ext hb0)
  clear hK hb0 Ba HKS
  generalize encL ws nr = E at K0 HDE
  generalize decL ws nr = D at D0 HDE
  have H0 := Lib.hid (H.out.below B0.out)
  have HOX : Hid (∀ W, Below W0.heap.size W0 W → Sl W A c b → Calls Try.prog 15 #[.pointer (some ⟨gk, 0, none⟩), .agg (iv.map bv).toArray, .slice A n c] W fun e w' => ∃ v x, e = .returned (.tuple #[v, .int .i64 x]) ∧ OpenC W D iv b v x w' ∧ Below W.heap.size W w') := fun W hW hS => by
    by_cases h16 : n % 16 = 0
    · exact open_any _ D iv A n c (n / 16) b W HN.out (D0.out.ext hW) HM.out (by omega) (by omega) hS
    · exact HOD.out _ D W h16
  clear HOD
  go_wp2_with (first
    | (refine wpList_ld rfl 23 (.tmp 21) rfl (run_loadAt_mid W0 w.heap.size 33 23 (iv.map bv) _ Z0.out.2.2.2 arr16B rfl (i16z iv HN.out)) ?_)
    | fail)
  refine (HOX.out W0 (Below.refl _ _) H0.out).mono ?_
  rintro e w2 ⟨v2, x2, rfl, hO2, hb2⟩
  have B2 := Lib.hid (B0.out.step hb2)
  have AW := Lib.hid (awake9_any w2)
  have HLC : Hid (openO D iv b = none ∨ ∃ k, openO D iv b = some k ∧ n ≤ k + 16) := by
    show _ ∨ _
    cases ho : openO D iv b with
    | none => exact .inl rfl
    | some k =>
      refine .inr ⟨k, rfl, ?_⟩
      unfold openO at ho
      split at ho
      · cases ho
      · rename_i h16
        have hul : (unchL D iv b (b.length / 16)).length = n := by
          have h1 := unB_up D iv b (b.length / 16)
          have h2 := (unB_len D iv HN.out D0.out.1 (b.length / 16) _ (blkUp_len b _)).2
          rw [h1] at h2
          rw [h2, HM.out]
          rw [HM.out] at h16
          omega
        exact upO_ge hul ho
  have hne : Hid (n % 16 ≠ 0 ∨ n = 0 → openO D iv b = none) := fun h => by
    unfold openO
    rw [HM.out]
    by_cases h16 : n % 16 = 0
    · rw [if_neg (by omega)]
      have h0 : n = 0 := by omega
      have hb0 : b = [] := List.length_eq_zero_iff.1 (HM.out.trans h0)
      have hz : unchL D iv b (n / 16) = [] := by rw [h0]; rfl
      rw [hz]; rfl
    · rw [if_pos h16]
  clear hb2 HOX D0 B0 Z0 H0 K0 HDE
  unfold OpenC at hO2
  rcases HLC.out with ho | ⟨k, ho, hk16⟩
  · rw [ho] at hO2
    obtain ⟨rfl, rfl⟩ := hO2
    by_cases h0 : n = 0
    · have e0 : ((n : Int) == 0) = true := by simp [h0]
      clear hne HLC ho
      go_wp2_with fail
      refine AW.out.mono ?_
      rintro e w3 ⟨rfl, hb3⟩
      go_wp2
      go_ret
      exact ⟨rfl, B2.out.step hb3⟩
    · have e0 : ((n : Int) == 0) = false := by simp; omega
      have et : (n : Int).tmod 16 = ((n % 16 : Nat) : Int) := by rw [Int.tmod_eq_emod_of_nonneg (by omega)]; omega
      have em : (n : Int) % 16 = ((n % 16 : Nat) : Int) := by omega
      obtain ⟨r, hr⟩ : ∃ r, n % 16 = r := ⟨_, rfl⟩
      rw [hr] at et em
      by_cases hr0 : r = 0
      · have e1 : ((r : Int) != 0) = false := by simp [hr0]
        have e1' : ((r : Int) == 0) = true := by simp [hr0]
        clear hne HLC ho hr
        go_wp2_with fail
        refine AW.out.mono ?_
        rintro e w3 ⟨rfl, hb3⟩
        go_wp2
        go_ret
        exact ⟨rfl, B2.out.step hb3⟩
      · have e1 : ((r : Int) != 0) = true := by simp; omega
        have e1' : ((r : Int) == 0) = false := by simp; omega
        clear hne HLC ho hr
        go_wp2_with fail
        refine AW.out.mono ?_
        rintro e w3 ⟨rfl, hb3⟩
        go_wp2
        go_ret
        exact ⟨rfl, B2.out.step hb3⟩
  · have hn16 : n % 16 = 0 ∧ n ≠ 0 := by
      refine ⟨?_, ?_⟩
      · by_cases h : n % 16 = 0
        · exact h
        · rw [hne.out (.inl h)] at ho; cases ho
      · intro h
        rw [hne.out (.inr h)] at ho; cases ho
    rw [ho] at hO2
    obtain ⟨rfl, hkn, hO2⟩ := hO2
    rw [HM.out] at hkn
    obtain ⟨A2, c2, rfl, _⟩ := own_read hO2
    have e0 : ((n : Int) == 0) = false := by simp; omega
    have et : (n : Int).tmod 16 = 0 := by rw [Int.tmod_eq_emod_of_nonneg (by omega)]; omega
    have em : (n : Int) % 16 = 0 := by omega
    have u1 : (k : Int) < (n : Int) := by omega
    have u2 : (n : Int) - 16 ≤ (k : Int) := by omega
    clear hne HLC ho hO2 hn16
    go_wp2_with fail
    refine AW.out.mono ?_
    rintro e w3 ⟨rfl, hb3⟩
    go_wp2
    go_ret
    exact ⟨rfl, B2.out.step hb3⟩
end Go.Proofs.Ytpihnggegmbgfaa

/- Laws of layer 9: what is enciphered hangs on all ahead of it. -/
namespace Go.Proofs.Ytpihnggegmbgfaa
open Go.RowKit
set_option maxRecDepth 100000
set_option linter.unusedVariables false
set_option linter.unusedSimpArgs false
theorem k9_sl_take {w : World} {A : Option Addr} {c q : Nat} {b : List UInt8} (h : Sl w A c b) : Sl w A c (b.take q) := by
  have := h.2.2.take q
  rw [← List.map_take] at this
  exact ⟨by have := h.1; rw [List.length_take]; omega, h.2.1, this⟩
theorem cut16m (A : Option Addr) (n c i : Nat) (h : i + 16 ≤ c) (W : World) :
    (Instr.sliceAt 26 (.slice A n c) (some (.int .i64 (i : Int))) (some (.int .i64 ((i : Int) + 16))) none).run Try.prog W = .ok (.slice (cutS A c i) 16 (c - i)) W := by
  have h := cut_mid (P := Try.prog) uT s8 A n c .i64 .i64 (i : Int) ((i : Int) + 16) (by omega) (by omega) (by omega) W
  rw [h, Int.toNat_natCast, show ((i : Int) + 16).toNat - i = 16 by omega]
theorem chain_block (E : List UInt8 → List UInt8) (iv PL : List UInt8) (m k : Nat) (hiv : iv.length = 16) (hE : ∀ x, x.length = 16 → (E x).length = 16) (hk : k < m) : ((chainL E iv PL m).drop (16 * k)).take 16 = cN E iv PL (k + 1) := by
  have hc : ∀ i, (cN E iv PL (i + 1)).length = 16 := fun i => cN_len E iv PL hiv hE (i + 1)
  have hl := flat16_len (fun i => cN E iv PL (i + 1)) hc m
  rw [chainL, ← blkAt_drop _ _ (by rw [hl]; omega)]
  exact blkAt_flat _ hc m k hk
theorem cN_congr (E : List UInt8 → List UInt8) (iv a b : List UInt8) : ∀ k, (∀ j, j < k → (blkAt a j).1 = (blkAt b j).1) → cN E iv a k = cN E iv b k
  | 0, _ => rfl
  | k + 1, h => by rw [cN, cN, cN_congr E iv a b k (fun j hj => h j (by omega)), h k (by omega)]
theorem cN_apart (E D : List UInt8 → List UInt8) (iv a b : List UInt8) (k : Nat) (hiv : iv.length = 16) (hE : ∀ x, x.length = 16 → (E x).length = 16) (hDE : ∀ x, x.length = 16 → D (E x) = x) (h : ∀ j, j < k → (blkAt a j).1 = (blkAt b j).1) (hne : (blkAt a k).1 ≠ (blkAt b k).1) : cN E iv a (k + 1) ≠ cN E iv b (k + 1) := by
  intro he
  have hc := cN_len E iv b hiv hE k
  rw [cN, cN, cN_congr E iv a b k h] at he
  have h1 : (xorL (blkAt a k).1 (cN E iv b k)).length = 16 := by rw [xorL_len, (blkAt a k).2, hc]; rfl
  have h2 : (xorL (blkAt b k).1 (cN E iv b k)).length = 16 := by rw [xorL_len, (blkAt b k).2, hc]; rfl
  have h3 := congrArg D he
  rw [hDE _ h1, hDE _ h2] at h3
  have h4 := congrArg (fun l => xorL l (cN E iv b k)) h3
  rw [xorL_twice _ _ (by rw [(blkAt a k).2, hc]), xorL_twice _ _ (by rw [(blkAt b k).2, hc])] at h4
  exact hne h4
set_option maxHeartbeats 8000000 in
theorem cbcChained_walk (w : World) (y : List UInt8 × Bool × List UInt8) (l : y.1.length = 32 ∧ y.2.2.length = 16) (A : Option Addr) (c : Nat) (a : List UInt8) (ha : Sl w A c a) (A' : Option Addr) (c' : Nat) (b : List UInt8) (h : Sl w A' c' b) :
    Calls Try.prog 7 #[.agg (kCells y.1 y.2.1 y.2.2).toArray, .slice A a.length c, .slice A' b.length c'] w fun e w' => e = .returned (.bool true) ∧ Below w.heap.size w w' := by
  obtain ⟨k, lg, iv⟩ := y
  obtain ⟨hk, hn⟩ := l
  simp only at hk hn ⊢
  have q1 : a.length ≤ 9223372036854775807 := by have := ha.1; have := ha.2.1; simp [maxLen] at this; omega
  have q2 : b.length ≤ 9223372036854775807 := by have := h.1; have := h.2.1; simp [maxLen] at this; omega
  have HN := Lib.hid hn; have HA := Lib.hid ha; have H := Lib.hid h
  obtain ⟨na, hma⟩ : ∃ n, a.length = n := ⟨_, rfl⟩
  obtain ⟨nb, hmb⟩ : ∃ n, b.length = n := ⟨_, rfl⟩
  have HMA := Lib.hid hma; have HMB := Lib.hid hmb
  rw [hma] at q1 ⊢
  rw [hmb] at q2 ⊢
  have HKS := Lib.hid (fun W => keys9_any k lg iv W hk hn)
  have HZL := Lib.hid (kCells_len k iv lg hk hn)
  have Z0 := Lib.hid (kz_new w k iv lg 25 hk hn)
  have HR : Hid (1 ≤ keyW lg + 6 ∧ keyW lg + 6 ≤ 14) := by show _ ∧ _; cases lg <;> simp [keyW]
  clear hk hn h ha
  generalize kCells k lg iv = Z at HKS HZL Z0 ⊢
  generalize keyW lg + 6 = nr at HKS HR
  generalize expandL (keyB k lg) = ws at HKS
  by_cases hb : 300 < na
  · go_enter Try.func7, Try.ntmps7
    go_wp2
    go_ret
    exact ⟨rfl, (Below.refl _ _).alloc (Nat.le_refl _) _⟩
  by_cases hb2 : 300 < nb
  · go_enter Try.func7, Try.ntmps7
    go_wp2
    go_ret
    exact ⟨rfl, (Below.refl _ _).alloc (Nat.le_refl _) _⟩
  have hba : na ≤ 300 := by omega
  have hbb : nb ≤ 300 := by omega
  clear q1 q2 hma hmb
  -- the padded texts
  have hkA := padK9_le na
  have hkB := padK9_le nb
  obtain ⟨ma, hmA⟩ : ∃ m, na + padK9 na = 16 * m := ⟨na / 16 + 1, by unfold padK9; omega⟩
  obtain ⟨mb, hmB⟩ : ∃ m, nb + padK9 nb = 16 * m := ⟨nb / 16 + 1, by unfold padK9; omega⟩
  have HPA := Lib.hid (padB_len na)
  have HPB := Lib.hid (padB_len nb)
  have SEA := Lib.hid (fun P E W (hE : Enc W (.pointer P) E) (hS : Sl W A c a) => seal_any P E iv A na c a W HN.out hE HMA.out (by omega) hS)
  have SEB := Lib.hid (fun P E W (hE : Enc W (.pointer P) E) (hS : Sl W A' c' b) => seal_any P E iv A' nb c' b W HN.out hE HMB.out (by omega) hS)
  rw [hmA, Nat.mul_div_cancel_left ma (by omega)] at SEA
  rw [hmB, Nat.mul_div_cancel_left mb (by omega)] at SEB
  have QA := Lib.hid (fun W => cpad_any na W (by omega))
  have QB := Lib.hid (fun W => cpad_any nb W (by omega))
  generalize padB na = PadA at HPA SEA QA
  generalize padB nb = PadB at HPB SEB QB
  generalize padK9 na = kA at HPA QA hkA hmA
  generalize padK9 nb = kB at HPB QB hkB hmB
  obtain ⟨la, hla⟩ : ∃ l, na + kA = l := ⟨_, rfl⟩
  obtain ⟨lb, hlb⟩ : ∃ l, nb + kB = l := ⟨_, rfl⟩
  have HLA : Hid (la = 16 * ma) := by show _ = _; omega
  have HLB : Hid (lb = 16 * mb) := by show _ = _; omega
  rw [← hmA, hla] at SEA
  rw [← hmB, hlb] at SEB
  obtain ⟨PA, hPA⟩ : ∃ l, a ++ PadA = l := ⟨_, rfl⟩
  obtain ⟨PB, hPB⟩ : ∃ l, b ++ PadB = l := ⟨_, rfl⟩
  rw [hPA] at SEA
  rw [hPB] at SEB
  have HPAL : Hid (PA.length = la) := by show _ = _; rw [← hPA, List.length_append, HMA.out, HPA.out]; exact hla
  have HPBL : Hid (PB.length = lb) := by show _ = _; rw [← hPB, List.length_append, HMB.out, HPB.out]; exact hlb
  have EPA := Lib.hid hPA; have EPB := Lib.hid hPB
  have ELA := Lib.hid hla; have ELB := Lib.hid hlb
  have hla3 : la ≤ 316 := by omega
  have hlb3 : lb ≤ 316 := by omega
  have hka31 : na + kA ≤ 2147483647 := by omega
  have hkb31 : nb + kB ≤ 2147483647 := by omega
  have h0a : 0 + na ≤ 2147483647 := by omega
  have h0b : 0 + nb ≤ 2147483647 := by omega
  clear hPA hPB hmA hmB hla hlb
  go_enter Try.func7, Try.ntmps7
  go_wp2_with (first
    | (refine wpList_ld rfl 25 (.tmp 3) rfl (load_arr Try.underlying25 rfl (by rw [HZL.out]; exact iKey9) (heap_alloc_new' w _)) ?_)
    | fail)
  generalize hV : w.alloc _ = Wa at Z0 ⊢
  have Ba := Lib.hid (below_of_alloc hV (Nat.le_refl w.heap.size))
  clear hV
  refine (HKS.out Wa).mono ?_
  rintro e W0 ⟨gk, rfl, _, hK, hb0⟩
  have K0 := Lib.hid (KeyAt.enc hK HR.out.1 HR.out.2)
  have HDE : Hid (∃ D : List UInt8 → List UInt8, ∀ x, x.length = 16 → D (encL ws nr x) = x) := ⟨decL ws nr, fun x hx => dec_enc ws nr x hK.1 HR.out.1 HR.out.2 hx⟩
  have B0 := Lib.hid (Ba.out.step hb0)
  have Z0 := Lib.hid (Z0.out.ext hb0)
  clear hK hb0 Ba HKS
  generalize encL ws nr = E at K0 HDE
  have HE16 := Lib.hid K0.out.1
  have HA0 := Lib.hid (HA.out.below B0.out)
  have HB0 := Lib.hid (H.out.below B0.out)
  have SXA := Lib.hid (SEA.out (some ⟨gk, 0, none⟩) E)
  have SXB := Lib.hid (SEB.out (some ⟨gk, 0, none⟩) E)
  have CA : Hid (∀ j, j < ma → ((chainL E iv PA ma).drop (16 * j)).take 16 = cN E iv PA (j + 1)) := fun j hj => chain_block E iv PA ma j HN.out HE16.out hj
  have CB : Hid (∀ j, j < mb → ((chainL E iv PB mb).drop (16 * j)).take 16 = cN E iv PB (j + 1)) := fun j hj => chain_block E iv PB mb j HN.out HE16.out hj
  generalize chainL E iv PA ma = XA at SXA CA
  generalize chainL E iv PB mb = XB at SXB CB
  clear SEA SEB
  go_wp2_with fail
  have HX : Hid (Ext W0 W0.drew) := (Below.refl _ _).drew
  refine reg_start (by kernel_rfl) ?_
  try simp only [Act.put, List.setIfInBounds_toArray, List.set_cons_zero, List.set_cons_succ]
  refine reg_take (v := ?_) 0 (some 29) rfl rfl (by kernel_rfl) (by kernel_rfl) (by kernel_rfl) (fun _ _ _ h => h) (by rfl) (fun W hW => ?_) ?_
  rotate_left
  · (go_simp; try rfl)
  simp only [Act.put, List.setIfInBounds_toArray, List.set_cons_zero, List.set_cons_succ]
  refine reg_take (v := ?_) 1 (some 30) rfl rfl (by kernel_rfl) (by kernel_rfl) (by kernel_rfl) (fun _ _ _ h => h) (by rfl) (fun W hW => ?_) ?_
  rotate_left
  · (go_simp; try rfl)
  simp only [Act.put, List.setIfInBounds_toArray, List.set_cons_zero, List.set_cons_succ]
  refine reg_load 2 (some 31) (fun W hW => run_loadAt_mid W w.heap.size 33 23 (iv.map bv) _ (Z0.out.ext (HX.out.trans hW)).2.2.2 arr16B rfl (i16z iv HN.out)) rfl rfl rfl rfl (by kernel_rfl) (by kernel_rfl) (by kernel_rfl) (fun _ _ _ h => h) (by rfl) ?_
  simp only [Act.put, List.setIfInBounds_toArray, List.set_cons_zero, List.set_cons_succ]
  refine reg_take (v := ?_) 3 (some 32) rfl rfl (by kernel_rfl) (by kernel_rfl) (by kernel_rfl) (fun _ _ _ h => h) (by rfl) (fun W hW => ?_) ?_
  rotate_left
  · (go_simp; try rfl)
  simp only [Act.put, List.setIfInBounds_toArray, List.set_cons_zero, List.set_cons_succ]
  refine reg_take (v := ?_) 5 (some 34) rfl rfl (by kernel_rfl) (by kernel_rfl) (by kernel_rfl) (fun _ _ _ h => h) (by rfl) (fun W hW => ?_) ?_
  rotate_left
  · (go_simp; try rfl)
  simp only [Act.put, List.setIfInBounds_toArray, List.set_cons_zero, List.set_cons_succ]
  refine reg_take (v := ?_) 6 (some 35) rfl rfl (by kernel_rfl) (by kernel_rfl) (by kernel_rfl) (fun _ _ _ h => h) (by rfl) (fun W hW => ?_) ?_
  rotate_left
  · (go_simp; try rfl)
  simp only [Act.put, List.setIfInBounds_toArray, List.set_cons_zero, List.set_cons_succ]
  refine reg_load 7 (some 36) (fun W hW => run_loadAt_mid W w.heap.size 33 23 (iv.map bv) _ (Z0.out.ext (HX.out.trans hW)).2.2.2 arr16B rfl (i16z iv HN.out)) rfl rfl rfl rfl (by kernel_rfl) (by kernel_rfl) (by kernel_rfl) (fun _ _ _ h => h) (by rfl) ?_
  simp only [Act.put, List.setIfInBounds_toArray, List.set_cons_zero, List.set_cons_succ]
  refine reg_take (v := ?_) 8 (some 37) rfl rfl (by kernel_rfl) (by kernel_rfl) (by kernel_rfl) (fun _ _ _ h => h) (by rfl) (fun W hW => ?_) ?_
  rotate_left
  · (go_simp; try rfl)
  simp only [Act.put, List.setIfInBounds_toArray, List.set_cons_zero, List.set_cons_succ]
  refine reg_eff 4 rfl (by kernel_rfl) (fun K hK => ?_)
  go_simp
  refine (SXA.out _ (K0.out.ext HX.out) (HA0.out.extk HX.out)).mono ?_
  rintro e w1 ⟨v1, rfl, hO1, hE⟩
  obtain ⟨A1, c1, rfl, hl1, hc1, hm1, hr1⟩ := own_read hO1
  have S1 : Hid (Sl w1 A1 c1 XA) := ⟨by omega, hm1, hr1⟩
  clear hO1 hm1 hr1
  refine hK.out _ _ hE ?_
  have HX := Lib.hid (Ext.trans HX.out hE)
  clear hE hK K
  try simp only [Act.put, List.setIfInBounds_toArray, List.set_cons_zero, List.set_cons_succ]
  refine reg_eff 9 rfl (by kernel_rfl) (fun K hK => ?_)
  go_simp
  refine (SXB.out _ (K0.out.ext HX.out) (HB0.out.extk HX.out)).mono ?_
  rintro e w2 ⟨v2, rfl, hO2, hE⟩
  obtain ⟨A2, c2, rfl, hl2, hc2, hm2, hr2⟩ := own_read hO2
  have S2 : Hid (Sl w2 A2 c2 XB) := ⟨by omega, hm2, hr2⟩
  have S1 : Hid (Sl w2 A1 c1 XA) := S1.out.extk hE
  clear hO2 hm2 hr2
  refine hK.out _ _ hE ?_
  have HX := Lib.hid (Ext.trans HX.out hE)
  clear hE hK K
  try simp only [Act.put, List.setIfInBounds_toArray, List.set_cons_zero, List.set_cons_succ]
  refine reg_take (v := ?_) 10 (some 9) rfl rfl (by kernel_rfl) (by kernel_rfl) (by kernel_rfl) (fun _ _ _ h => h) (by rfl) (fun W hW => ?_) ?_
  rotate_left
  · (go_simp; try rfl)
  simp only [Act.put, List.setIfInBounds_toArray, List.set_cons_zero, List.set_cons_succ]
  refine reg_take (v := ?_) 11 (some 10) rfl rfl (by kernel_rfl) (by kernel_rfl) (by kernel_rfl) (fun _ _ _ h => h) (by rfl) (fun W hW => ?_) ?_
  rotate_left
  · (go_simp; try rfl)
  simp only [Act.put, List.setIfInBounds_toArray, List.set_cons_zero, List.set_cons_succ]
  refine reg_done (by kernel_rfl) ?_
  have B2 : Hid (Below w.heap.size w w2) := B0.out.step HX.out
  have HA2 := Lib.hid (HA0.out.extk HX.out)
  have HB2 := Lib.hid (HB0.out.extk HX.out)
  have LX1 := Lib.hid hl1; have LX2 := Lib.hid hl2
  have C1 := Lib.hid hc1; have C2 := Lib.hid hc2
  clear Z0 B0 HA0 HB0 HX SXA SXB hl1 hl2 K0 HA H hc1 hc2
  go_wp2_with (
    at_builtin
    refine wpList_app8 rfl (.tmp 39) (.tmp 40) rfl w2.heap.size _ 0 [] rfl ?_ A na c w2.heap.size a rfl ?_ ?_ ?_ ?_ ?_
    · exact own_heap (g := w2.heap.size) (heap_alloc_new' w2 _) (Nat.le_refl _) rfl (Nat.zero_le _)
    · exact HA2.out.2.2.below ((Below.refl _ _).alloc (Nat.le_refl _) _)
    · exact HMA.out
    · exact h0a
    · simp
    rintro v3 w3 hown hgr
    have hB3 := Lib.hid (((Below.refl w2.heap.size w2).alloc (Nat.le_refl _) _).grown hgr (by simp) (ge_own w2.heap.size 0))
    rw [List.nil_append, Nat.zero_add] at hown
    obtain ⟨A3, c3, rfl, _⟩ := own_read hown
    have O3 := Lib.hid hown
    clear hgr hown)
  refine (QA.out w3).mono ?_
  rintro e w4 ⟨g4, hg4, rfl, hS4, hb4⟩
  have O4 := Lib.hid (c_own_below O3.out hb4)
  have B4 := Lib.hid (hB3.out.step hb4)
  have P4 := Lib.hid hS4
  clear hb4 hS4 O3 hB3 hg4
  have hB4s := Lib.hid B4.out.size
  go_wp2_with (first
    | (at_builtin
       refine wpList_app8 rfl (.tmp 41) (.tmp 44) rfl w2.heap.size _ na a rfl O4.out (some ⟨g4, 0, none⟩) kA kA w4.heap.size PadA rfl P4.out.2.2 HPA.out hka31 hB4s.out ?_
       rintro v5 w5 hown hgr
       rw [EPA.out, ELA.out] at hown
       have B5 := Lib.hid (B4.out.grown hgr B4.out.size (c_own_ge O4.out (Nat.le_refl _)))
       obtain ⟨A5, c5, rfl, hl5, hc5, hm5, hr5⟩ := own_read hown
       have S5 : Hid (Sl w5 A5 c5 PA) := ⟨by omega, hm5, hr5⟩
       have C5 := Lib.hid hc5
       have HB5 := Lib.hid (HB2.out.extk B5.out)
       clear hown hgr hl5 hm5 hr5 hc5)
    | (at_builtin
       refine wpList_app8 rfl (.tmp 46) (.tmp 47) rfl w5.heap.size _ 0 [] rfl ?_ A' nb c' w5.heap.size b rfl ?_ ?_ ?_ ?_ ?_
       · exact own_heap (g := w5.heap.size) (heap_alloc_new' w5 _) (Nat.le_refl _) rfl (Nat.zero_le _)
       · exact HB5.out.2.2.below ((Below.refl _ _).alloc (Nat.le_refl _) _)
       · exact HMB.out
       · exact h0b
       · simp
       rintro v6 w6 hown hgr
       have hB6 := Lib.hid (((Below.refl w5.heap.size w5).alloc (Nat.le_refl _) _).grown hgr (by simp) (ge_own w5.heap.size 0))
       rw [List.nil_append, Nat.zero_add] at hown
       obtain ⟨A6, c6, rfl, _⟩ := own_read hown
       have O6 := Lib.hid hown
       clear hgr hown))
  refine (QB.out w6).mono ?_
  rintro e w7 ⟨g7, hg7, rfl, hS7, hb7⟩
  have O7 := Lib.hid (c_own_below O6.out hb7)
  have B7 := Lib.hid (hB6.out.step hb7)
  have P7 := Lib.hid hS7
  clear hb7 hS7 O6 hB6 hg7
  have hB7s := Lib.hid B7.out.size
  have hqa : ((la : Int) != (la : Int)) = false := by simp
  have hqb : ((lb : Int) != (lb : Int)) = false := by simp
  go_wp2_with (first
    | (at_builtin
       refine wpList_app8 rfl (.tmp 48) (.tmp 51) rfl w5.heap.size _ nb b rfl O7.out (some ⟨g7, 0, none⟩) kB kB w7.heap.size PadB rfl P7.out.2.2 HPB.out hkb31 hB7s.out ?_
       rintro v8 w8 hown hgr
       rw [EPB.out, ELB.out] at hown
       have B8 := Lib.hid (B7.out.grown hgr B7.out.size (c_own_ge O7.out (Nat.le_refl _)))
       obtain ⟨A8, c8, rfl, hl8, hc8, hm8, hr8⟩ := own_read hown
       have S8 : Hid (Sl w8 A8 c8 PB) := ⟨by omega, hm8, hr8⟩
       have C8 := Lib.hid hc8
       clear hown hgr hl8 hm8 hr8 hc8)
    | fail)
  have B28 : Hid (Below w.heap.size w w8) := ((B2.out.step B5.out).step B8.out)
  have X1 := Lib.hid ((S1.out.extk B5.out).extk B8.out)
  have X2 := Lib.hid ((S2.out.extk B5.out).extk B8.out)
  have P1 := Lib.hid (S5.out.extk B8.out)
  have AW := Lib.hid (fun W => awake9_any W)
  clear S1 S2 S5 B2 B5 B8 O4 P4 O7 P7 B4 B7 HA2 HB2 HB5 hB4s hB7s EPA EPB ELA ELB HPA HPB HMA HMB QA QB
  go_loopw [13] (fun vi wr => ∃ (k i : Nat), Hid (i = 16 * k) ∧ i ≤ la ∧ vi = .int .i64 (i : Int) ∧ Hid (∀ j, j < k → (blkAt PA j).1 = (blkAt PB j).1) ∧ Hid (Ext w8 wr)) (fun v _ => 400 - (intOf v).toNat)
  case atStart => exact ⟨0, 0, rfl, by omega, rfl, fun j hj => by omega, Below.refl _ _⟩
  case round =>
    obtain ⟨k, i, HI, hi, rfl, HEQ, HBw⟩ := hrel
    have hi3 : i ≤ 316 := by omega
    by_cases h1 : i + 16 ≤ la
    · have u1 : (i : Int) + 16 ≤ (la : Int) := by omega
      by_cases h2 : i + 16 ≤ lb
      · have u2 : (i : Int) + 16 ≤ (lb : Int) := by omega
        have hwr0 : Hid (IntKind.i64.wrap ((i : Int) + 16) = (i : Int) + 16) := by show _ = _; rw [IntKind.wrap_i64]; omega
        have hkm : k < ma ∧ k < mb := by have := HI.out; have := HLA.out; have := HLB.out; omega
        have c5i : i + 16 ≤ c5 := by have := C5.out; omega
        have c8i : i + 16 ≤ c8 := by have := C8.out; omega
        have c1i : i + 16 ≤ c1 := by have := C1.out; omega
        have c2i : i + 16 ≤ c2 := by have := C2.out; omega
        have sl5 := cut16m A5 la c5 i c5i
        have sl8 := cut16m A8 lb c8 i c8i
        have sl1 := cut16m A1 la c1 i c1i
        have sl2 := cut16m A2 lb c2 i c2i
        have T5 : Hid (Sl wr (cutS A5 c5 i) (c5 - i) ((PA.drop i).take 16)) := k9_sl_take (sl_cut (P1.out.extk HBw.out) (by rw [HPAL.out]; omega))
        have T8 : Hid (Sl wr (cutS A8 c8 i) (c8 - i) ((PB.drop i).take 16)) := k9_sl_take (sl_cut (S8.out.extk HBw.out) (by rw [HPBL.out]; omega))
        have T1 : Hid (Sl wr (cutS A1 c1 i) (c1 - i) ((XA.drop i).take 16)) := k9_sl_take (sl_cut (X1.out.extk HBw.out) (by rw [LX1.out]; omega))
        have T2 : Hid (Sl wr (cutS A2 c2 i) (c2 - i) ((XB.drop i).take 16)) := k9_sl_take (sl_cut (X2.out.extk HBw.out) (by rw [LX2.out]; omega))
        have L5 : Hid (((PA.drop i).take 16).length = 16) := by show _ = _; rw [List.length_take, List.length_drop, HPAL.out]; omega
        have L8 : Hid (((PB.drop i).take 16).length = 16) := by show _ = _; rw [List.length_take, List.length_drop, HPBL.out]; omega
        have L1 : Hid (((XA.drop i).take 16).length = 16) := by show _ = _; rw [List.length_take, List.length_drop, LX1.out]; omega
        have L2 : Hid (((XB.drop i).take 16).length = 16) := by show _ = _; rw [List.length_take, List.length_drop, LX2.out]; omega
        have e5 : (PA.drop i).take 16 = (blkAt PA k).1 := by rw [blkAt_drop _ _ (by rw [HPAL.out]; have := HI.out; omega), HI.out]
        have e8 : (PB.drop i).take 16 = (blkAt PB k).1 := by rw [blkAt_drop _ _ (by rw [HPBL.out]; have := HI.out; omega), HI.out]
        have x1 : (XA.drop i).take 16 = cN E iv PA (k + 1) := by rw [HI.out]; exact CA.out k hkm.1
        have x2 : (XB.drop i).take 16 = cN E iv PB (k + 1) := by rw [HI.out]; exact CB.out k hkm.2
        have HIF : Hid ((PA.drop i).take 16 = (PB.drop i).take 16 → (XA.drop i).take 16 = (XB.drop i).take 16) := fun h => by
          rw [e5, e8] at h
          rw [x1, x2]
          exact cN_congr E iv PA PB (k + 1) fun j hj => by
            by_cases hjk : j < k
            · exact HEQ.out j hjk
            · obtain rfl : j = k := by omega
              exact h
        have HNF : Hid ((PA.drop i).take 16 ≠ (PB.drop i).take 16 → (XA.drop i).take 16 ≠ (XB.drop i).take 16) := fun h => by
          rw [e5, e8] at h
          rw [x1, x2]
          obtain ⟨D, hD⟩ := HDE.out
          exact cN_apart E D iv PA PB k HN.out HE16.out hD HEQ.out h
        have HNX : Hid ((PA.drop i).take 16 = (PB.drop i).take 16 → ∀ j, j < k + 1 → (blkAt PA j).1 = (blkAt PB j).1) := fun h j hj => by
          rw [e5, e8] at h
          by_cases hjk : j < k
          · exact HEQ.out j hjk
          · obtain rfl : j = k := by omega
            exact h
        clear e5 e8 x1 x2 hkm c5i c8i c1i c2i
        generalize (PA.drop i).take 16 = Pk at T5 L5 HIF HNF HNX
        generalize (PB.drop i).take 16 = Qk at T8 L8 HIF HNF HNX
        generalize (XA.drop i).take 16 = Xk at T1 L1 HIF HNF
        generalize (XB.drop i).take 16 = Yk at T2 L2 HIF HNF
        generalize cutS A5 c5 i = B5' at sl5 T5
        generalize cutS A8 c8 i = B8' at sl8 T8
        generalize cutS A1 c1 i = B1' at sl1 T1
        generalize cutS A2 c2 i = B2' at sl2 T2
        go_wp2_with fail
        by_cases hPQ : Pk = Qk
        · have hXY := HIF.out hPQ
          have HNY := Lib.hid (HNX.out hPQ)
          subst hPQ
          subst hXY
          have hq1 : ((strOf Pk).toList != (strOf Pk).toList) = false := by simp
          have hq2 : ((strOf Xk).toList != (strOf Xk).toList) = false := by simp
          have HX : Hid (Ext wr wr.drew) := (Below.refl _ _).drew
          have hwr := hwr0.out
          refine reg_start (by kernel_rfl) ?_
          try simp only [Act.put, List.setIfInBounds_toArray, List.set_cons_zero, List.set_cons_succ]
          refine reg_take (v := ?_) 0 (some 79) rfl rfl (by kernel_rfl) (by kernel_rfl) (by kernel_rfl) (fun _ _ _ h => h) (by rfl) (fun W hW => ?_) ?_
          rotate_left
          · (go_simp; try rfl)
          simp only [Act.put, List.setIfInBounds_toArray, List.set_cons_zero, List.set_cons_succ]
          refine reg_take (v := ?_) 1 (some 80) rfl rfl (by kernel_rfl) (by kernel_rfl) (by kernel_rfl) (fun _ _ _ h => h) (by rfl) (fun W hW => ?_) ?_
          rotate_left
          · (go_simp; try rfl)
          simp only [Act.put, List.setIfInBounds_toArray, List.set_cons_zero, List.set_cons_succ]
          refine reg_take (v := ?_) 2 (some 81) rfl rfl (by kernel_rfl) (by kernel_rfl) (by kernel_rfl) (fun _ _ _ h => h) (by rfl) (fun W hW => ?_) ?_
          rotate_left
          · (go_simp; try rfl)
          simp only [Act.put, List.setIfInBounds_toArray, List.set_cons_zero, List.set_cons_succ]
          refine reg_take (v := ?_) 3 (some 82) rfl rfl (by kernel_rfl) (by kernel_rfl) (by kernel_rfl) (fun _ _ _ h => h) (by rfl) (fun W hW => ?_) ?_
          rotate_left
          · (go_simp; try rfl)
          simp only [Act.put, List.setIfInBounds_toArray, List.set_cons_zero, List.set_cons_succ]
          refine reg_take (v := ?_) 4 (some 83) rfl rfl (by kernel_rfl) (by kernel_rfl) (by kernel_rfl) (fun _ _ _ h => h) (by rfl) (fun W hW => ?_) ?_
          rotate_left
          · (go_simp; try rfl)
          simp only [Act.put, List.setIfInBounds_toArray, List.set_cons_zero, List.set_cons_succ]
          refine reg_conv 5 (some 84) (fun W hW => conv_string W B5' 16 (c5 - i) Pk L5.out (T5.out.extk (HX.out.trans hW))) rfl rfl rfl rfl (by kernel_rfl) (by kernel_rfl) (by kernel_rfl) (fun _ _ _ h => h) (by rfl) ?_
          simp only [Act.put, List.setIfInBounds_toArray, List.set_cons_zero, List.set_cons_succ]
          refine reg_take (v := ?_) 6 (some 85) rfl rfl (by kernel_rfl) (by kernel_rfl) (by kernel_rfl) (fun _ _ _ h => h) (by rfl) (fun W hW => ?_) ?_
          rotate_left
          · (go_simp; try rfl)
          simp only [Act.put, List.setIfInBounds_toArray, List.set_cons_zero, List.set_cons_succ]
          refine reg_take (v := ?_) 7 (some 86) rfl rfl (by kernel_rfl) (by kernel_rfl) (by kernel_rfl) (fun _ _ _ h => h) (by rfl) (fun W hW => ?_) ?_
          rotate_left
          · (go_simp; try rfl)
          simp only [Act.put, List.setIfInBounds_toArray, List.set_cons_zero, List.set_cons_succ]
          refine reg_take (v := ?_) 8 (some 87) rfl rfl (by kernel_rfl) (by kernel_rfl) (by kernel_rfl) (fun _ _ _ h => h) (by rfl) (fun W hW => ?_) ?_
          rotate_left
          · (go_simp; try rfl)
          simp only [Act.put, List.setIfInBounds_toArray, List.set_cons_zero, List.set_cons_succ]
          refine reg_take (v := ?_) 9 (some 88) rfl rfl (by kernel_rfl) (by kernel_rfl) (by kernel_rfl) (fun _ _ _ h => h) (by rfl) (fun W hW => ?_) ?_
          rotate_left
          · (go_simp; try rfl)
          simp only [Act.put, List.setIfInBounds_toArray, List.set_cons_zero, List.set_cons_succ]
          refine reg_take (v := ?_) 10 (some 89) rfl rfl (by kernel_rfl) (by kernel_rfl) (by kernel_rfl) (fun _ _ _ h => h) (by rfl) (fun W hW => ?_) ?_
          rotate_left
          · (go_simp; try rfl)
          simp only [Act.put, List.setIfInBounds_toArray, List.set_cons_zero, List.set_cons_succ]
          refine reg_conv 11 (some 90) (fun W hW => conv_string W B8' 16 (c8 - i) Pk L8.out (T8.out.extk (HX.out.trans hW))) rfl rfl rfl rfl (by kernel_rfl) (by kernel_rfl) (by kernel_rfl) (fun _ _ _ h => h) (by rfl) ?_
          simp only [Act.put, List.setIfInBounds_toArray, List.set_cons_zero, List.set_cons_succ]
          refine reg_take (v := ?_) 12 (some 91) rfl rfl (by kernel_rfl) (by kernel_rfl) (by kernel_rfl) (fun _ _ _ h => h) (by rfl) (fun W hW => ?_) ?_
          rotate_left
          · (go_simp; try rfl)
          simp only [Act.put, List.setIfInBounds_toArray, List.set_cons_zero, List.set_cons_succ]
          refine reg_done (by kernel_rfl) ?_
          clear hwr
          go_wp2_with fail
          have HX2 := HX
          clear HX
          have HX : Hid (Ext wr.drew wr.drew.drew) := (Below.refl _ _).drew
          have hwr := hwr0.out
          refine reg_start (by kernel_rfl) ?_
          try simp only [Act.put, List.setIfInBounds_toArray, List.set_cons_zero, List.set_cons_succ]
          refine reg_take (v := ?_) 0 (some 108) rfl rfl (by kernel_rfl) (by kernel_rfl) (by kernel_rfl) (fun _ _ _ h => h) (by rfl) (fun W hW => ?_) ?_
          rotate_left
          · (go_simp; try rfl)
          simp only [Act.put, List.setIfInBounds_toArray, List.set_cons_zero, List.set_cons_succ]
          refine reg_take (v := ?_) 1 (some 109) rfl rfl (by kernel_rfl) (by kernel_rfl) (by kernel_rfl) (fun _ _ _ h => h) (by rfl) (fun W hW => ?_) ?_
          rotate_left
          · (go_simp; try rfl)
          simp only [Act.put, List.setIfInBounds_toArray, List.set_cons_zero, List.set_cons_succ]
          refine reg_take (v := ?_) 2 (some 110) rfl rfl (by kernel_rfl) (by kernel_rfl) (by kernel_rfl) (fun _ _ _ h => h) (by rfl) (fun W hW => ?_) ?_
          rotate_left
          · (go_simp; try rfl)
          simp only [Act.put, List.setIfInBounds_toArray, List.set_cons_zero, List.set_cons_succ]
          refine reg_take (v := ?_) 3 (some 111) rfl rfl (by kernel_rfl) (by kernel_rfl) (by kernel_rfl) (fun _ _ _ h => h) (by rfl) (fun W hW => ?_) ?_
          rotate_left
          · (go_simp; try rfl)
          simp only [Act.put, List.setIfInBounds_toArray, List.set_cons_zero, List.set_cons_succ]
          refine reg_take (v := ?_) 4 (some 112) rfl rfl (by kernel_rfl) (by kernel_rfl) (by kernel_rfl) (fun _ _ _ h => h) (by rfl) (fun W hW => ?_) ?_
          rotate_left
          · (go_simp; try rfl)
          simp only [Act.put, List.setIfInBounds_toArray, List.set_cons_zero, List.set_cons_succ]
          refine reg_conv 5 (some 113) (fun W hW => conv_string W B1' 16 (c1 - i) Xk L1.out ((T1.out.extk HX2.out).extk (HX.out.trans hW))) rfl rfl rfl rfl (by kernel_rfl) (by kernel_rfl) (by kernel_rfl) (fun _ _ _ h => h) (by rfl) ?_
          simp only [Act.put, List.setIfInBounds_toArray, List.set_cons_zero, List.set_cons_succ]
          refine reg_take (v := ?_) 6 (some 114) rfl rfl (by kernel_rfl) (by kernel_rfl) (by kernel_rfl) (fun _ _ _ h => h) (by rfl) (fun W hW => ?_) ?_
          rotate_left
          · (go_simp; try rfl)
          simp only [Act.put, List.setIfInBounds_toArray, List.set_cons_zero, List.set_cons_succ]
          refine reg_take (v := ?_) 7 (some 115) rfl rfl (by kernel_rfl) (by kernel_rfl) (by kernel_rfl) (fun _ _ _ h => h) (by rfl) (fun W hW => ?_) ?_
          rotate_left
          · (go_simp; try rfl)
          simp only [Act.put, List.setIfInBounds_toArray, List.set_cons_zero, List.set_cons_succ]
          refine reg_take (v := ?_) 8 (some 116) rfl rfl (by kernel_rfl) (by kernel_rfl) (by kernel_rfl) (fun _ _ _ h => h) (by rfl) (fun W hW => ?_) ?_
          rotate_left
          · (go_simp; try rfl)
          simp only [Act.put, List.setIfInBounds_toArray, List.set_cons_zero, List.set_cons_succ]
          refine reg_take (v := ?_) 9 (some 117) rfl rfl (by kernel_rfl) (by kernel_rfl) (by kernel_rfl) (fun _ _ _ h => h) (by rfl) (fun W hW => ?_) ?_
          rotate_left
          · (go_simp; try rfl)
          simp only [Act.put, List.setIfInBounds_toArray, List.set_cons_zero, List.set_cons_succ]
          refine reg_take (v := ?_) 10 (some 118) rfl rfl (by kernel_rfl) (by kernel_rfl) (by kernel_rfl) (fun _ _ _ h => h) (by rfl) (fun W hW => ?_) ?_
          rotate_left
          · (go_simp; try rfl)
          simp only [Act.put, List.setIfInBounds_toArray, List.set_cons_zero, List.set_cons_succ]
          refine reg_conv 11 (some 119) (fun W hW => conv_string W B2' 16 (c2 - i) Xk L2.out ((T2.out.extk HX2.out).extk (HX.out.trans hW))) rfl rfl rfl rfl (by kernel_rfl) (by kernel_rfl) (by kernel_rfl) (fun _ _ _ h => h) (by rfl) ?_
          simp only [Act.put, List.setIfInBounds_toArray, List.set_cons_zero, List.set_cons_succ]
          refine reg_take (v := ?_) 12 (some 120) rfl rfl (by kernel_rfl) (by kernel_rfl) (by kernel_rfl) (fun _ _ _ h => h) (by rfl) (fun W hW => ?_) ?_
          rotate_left
          · (go_simp; try rfl)
          simp only [Act.put, List.setIfInBounds_toArray, List.set_cons_zero, List.set_cons_succ]
          refine reg_done (by kernel_rfl) ?_
          clear hwr
          go_wp2_with fail
          go_roundw
          case rel => exact ⟨k + 1, i + 16, by (have := HI.out; show _ = _; omega), by omega, by go_num, HNY, HBw.out.step (HX2.out.step HX.out)⟩
          case measure => simp [intOf]; omega
        · have hXY := HNF.out hPQ
          have hq0 : ((strOf Pk).toList == (strOf Qk).toList) = false := by
            have := k_strOf_beq Pk Qk
            rw [this, decide_eq_false hPQ]
          have hq1 : ((strOf Pk).toList != (strOf Qk).toList) = true := by
            have := k_strOf_beq Pk Qk
            simp only [bne, this, decide_eq_false hPQ, Bool.not_false]
          have hq2 : ((strOf Xk).toList != (strOf Yk).toList) = true := by
            have := k_strOf_beq Xk Yk
            simp only [bne, this, decide_eq_false hXY, Bool.not_false]
          have hq3 : ¬ ((strOf Xk).toList = (strOf Yk).toList) := fun h => by rw [h] at hq2; simp at hq2
          have HX : Hid (Ext wr wr.drew) := (Below.refl _ _).drew
          have hwr := hwr0.out
          refine reg_start (by kernel_rfl) ?_
          try simp only [Act.put, List.setIfInBounds_toArray, List.set_cons_zero, List.set_cons_succ]
          refine reg_take (v := ?_) 0 (some 79) rfl rfl (by kernel_rfl) (by kernel_rfl) (by kernel_rfl) (fun _ _ _ h => h) (by rfl) (fun W hW => ?_) ?_
          rotate_left
          · (go_simp; try rfl)
          simp only [Act.put, List.setIfInBounds_toArray, List.set_cons_zero, List.set_cons_succ]
          refine reg_take (v := ?_) 1 (some 80) rfl rfl (by kernel_rfl) (by kernel_rfl) (by kernel_rfl) (fun _ _ _ h => h) (by rfl) (fun W hW => ?_) ?_
          rotate_left
          · (go_simp; try rfl)
          simp only [Act.put, List.setIfInBounds_toArray, List.set_cons_zero, List.set_cons_succ]
          refine reg_take (v := ?_) 2 (some 81) rfl rfl (by kernel_rfl) (by kernel_rfl) (by kernel_rfl) (fun _ _ _ h => h) (by rfl) (fun W hW => ?_) ?_
          rotate_left
          · (go_simp; try rfl)
          simp only [Act.put, List.setIfInBounds_toArray, List.set_cons_zero, List.set_cons_succ]
          refine reg_take (v := ?_) 3 (some 82) rfl rfl (by kernel_rfl) (by kernel_rfl) (by kernel_rfl) (fun _ _ _ h => h) (by rfl) (fun W hW => ?_) ?_
          rotate_left
          · (go_simp; try rfl)
          simp only [Act.put, List.setIfInBounds_toArray, List.set_cons_zero, List.set_cons_succ]
          refine reg_take (v := ?_) 4 (some 83) rfl rfl (by kernel_rfl) (by kernel_rfl) (by kernel_rfl) (fun _ _ _ h => h) (by rfl) (fun W hW => ?_) ?_
          rotate_left
          · (go_simp; try rfl)
          simp only [Act.put, List.setIfInBounds_toArray, List.set_cons_zero, List.set_cons_succ]
          refine reg_conv 5 (some 84) (fun W hW => conv_string W B5' 16 (c5 - i) Pk L5.out (T5.out.extk (HX.out.trans hW))) rfl rfl rfl rfl (by kernel_rfl) (by kernel_rfl) (by kernel_rfl) (fun _ _ _ h => h) (by rfl) ?_
          simp only [Act.put, List.setIfInBounds_toArray, List.set_cons_zero, List.set_cons_succ]
          refine reg_take (v := ?_) 6 (some 85) rfl rfl (by kernel_rfl) (by kernel_rfl) (by kernel_rfl) (fun _ _ _ h => h) (by rfl) (fun W hW => ?_) ?_
          rotate_left
          · (go_simp; try rfl)
          simp only [Act.put, List.setIfInBounds_toArray, List.set_cons_zero, List.set_cons_succ]
          refine reg_take (v := ?_) 7 (some 86) rfl rfl (by kernel_rfl) (by kernel_rfl) (by kernel_rfl) (fun _ _ _ h => h) (by rfl) (fun W hW => ?_) ?_
          rotate_left
          · (go_simp; try rfl)
          simp only [Act.put, List.setIfInBounds_toArray, List.set_cons_zero, List.set_cons_succ]
          refine reg_take (v := ?_) 8 (some 87) rfl rfl (by kernel_rfl) (by kernel_rfl) (by kernel_rfl) (fun _ _ _ h => h) (by rfl) (fun W hW => ?_) ?_
          rotate_left
          · (go_simp; try rfl)
          simp only [Act.put, List.setIfInBounds_toArray, List.set_cons_zero, List.set_cons_succ]
          refine reg_take (v := ?_) 9 (some 88) rfl rfl (by kernel_rfl) (by kernel_rfl) (by kernel_rfl) (fun _ _ _ h => h) (by rfl) (fun W hW => ?_) ?_
          rotate_left
          · (go_simp; try rfl)
          simp only [Act.put, List.setIfInBounds_toArray, List.set_cons_zero, List.set_cons_succ]
          refine reg_take (v := ?_) 10 (some 89) rfl rfl (by kernel_rfl) (by kernel_rfl) (by kernel_rfl) (fun _ _ _ h => h) (by rfl) (fun W hW => ?_) ?_
          rotate_left
          · (go_simp; try rfl)
          simp only [Act.put, List.setIfInBounds_toArray, List.set_cons_zero, List.set_cons_succ]
          refine reg_conv 11 (some 90) (fun W hW => conv_string W B8' 16 (c8 - i) Qk L8.out (T8.out.extk (HX.out.trans hW))) rfl rfl rfl rfl (by kernel_rfl) (by kernel_rfl) (by kernel_rfl) (fun _ _ _ h => h) (by rfl) ?_
          simp only [Act.put, List.setIfInBounds_toArray, List.set_cons_zero, List.set_cons_succ]
          refine reg_take (v := ?_) 12 (some 91) rfl rfl (by kernel_rfl) (by kernel_rfl) (by kernel_rfl) (fun _ _ _ h => h) (by rfl) (fun W hW => ?_) ?_
          rotate_left
          · (go_simp; try rfl)
          simp only [Act.put, List.setIfInBounds_toArray, List.set_cons_zero, List.set_cons_succ]
          refine reg_done (by kernel_rfl) ?_
          clear hwr
          go_wp2_with fail
          have HX2 := HX
          clear HX
          have HX : Hid (Ext wr.drew wr.drew.drew) := (Below.refl _ _).drew
          have hwr := hwr0.out
          refine reg_start (by kernel_rfl) ?_
          try simp only [Act.put, List.setIfInBounds_toArray, List.set_cons_zero, List.set_cons_succ]
          refine reg_take (v := ?_) 0 (some 92) rfl rfl (by kernel_rfl) (by kernel_rfl) (by kernel_rfl) (fun _ _ _ h => h) (by rfl) (fun W hW => ?_) ?_
          rotate_left
          · (go_simp; try rfl)
          simp only [Act.put, List.setIfInBounds_toArray, List.set_cons_zero, List.set_cons_succ]
          refine reg_take (v := ?_) 1 (some 93) rfl rfl (by kernel_rfl) (by kernel_rfl) (by kernel_rfl) (fun _ _ _ h => h) (by rfl) (fun W hW => ?_) ?_
          rotate_left
          · (go_simp; try rfl)
          simp only [Act.put, List.setIfInBounds_toArray, List.set_cons_zero, List.set_cons_succ]
          refine reg_take (v := ?_) 2 (some 94) rfl rfl (by kernel_rfl) (by kernel_rfl) (by kernel_rfl) (fun _ _ _ h => h) (by rfl) (fun W hW => ?_) ?_
          rotate_left
          · (go_simp; try rfl)
          simp only [Act.put, List.setIfInBounds_toArray, List.set_cons_zero, List.set_cons_succ]
          refine reg_take (v := ?_) 3 (some 95) rfl rfl (by kernel_rfl) (by kernel_rfl) (by kernel_rfl) (fun _ _ _ h => h) (by rfl) (fun W hW => ?_) ?_
          rotate_left
          · (go_simp; try rfl)
          simp only [Act.put, List.setIfInBounds_toArray, List.set_cons_zero, List.set_cons_succ]
          refine reg_take (v := ?_) 4 (some 96) rfl rfl (by kernel_rfl) (by kernel_rfl) (by kernel_rfl) (fun _ _ _ h => h) (by rfl) (fun W hW => ?_) ?_
          rotate_left
          · (go_simp; try rfl)
          simp only [Act.put, List.setIfInBounds_toArray, List.set_cons_zero, List.set_cons_succ]
          refine reg_conv 5 (some 97) (fun W hW => conv_string W B1' 16 (c1 - i) Xk L1.out ((T1.out.extk HX2.out).extk (HX.out.trans hW))) rfl rfl rfl rfl (by kernel_rfl) (by kernel_rfl) (by kernel_rfl) (fun _ _ _ h => h) (by rfl) ?_
          simp only [Act.put, List.setIfInBounds_toArray, List.set_cons_zero, List.set_cons_succ]
          refine reg_take (v := ?_) 6 (some 98) rfl rfl (by kernel_rfl) (by kernel_rfl) (by kernel_rfl) (fun _ _ _ h => h) (by rfl) (fun W hW => ?_) ?_
          rotate_left
          · (go_simp; try rfl)
          simp only [Act.put, List.setIfInBounds_toArray, List.set_cons_zero, List.set_cons_succ]
          refine reg_take (v := ?_) 7 (some 99) rfl rfl (by kernel_rfl) (by kernel_rfl) (by kernel_rfl) (fun _ _ _ h => h) (by rfl) (fun W hW => ?_) ?_
          rotate_left
          · (go_simp; try rfl)
          simp only [Act.put, List.setIfInBounds_toArray, List.set_cons_zero, List.set_cons_succ]
          refine reg_take (v := ?_) 8 (some 100) rfl rfl (by kernel_rfl) (by kernel_rfl) (by kernel_rfl) (fun _ _ _ h => h) (by rfl) (fun W hW => ?_) ?_
          rotate_left
          · (go_simp; try rfl)
          simp only [Act.put, List.setIfInBounds_toArray, List.set_cons_zero, List.set_cons_succ]
          refine reg_take (v := ?_) 9 (some 101) rfl rfl (by kernel_rfl) (by kernel_rfl) (by kernel_rfl) (fun _ _ _ h => h) (by rfl) (fun W hW => ?_) ?_
          rotate_left
          · (go_simp; try rfl)
          simp only [Act.put, List.setIfInBounds_toArray, List.set_cons_zero, List.set_cons_succ]
          refine reg_take (v := ?_) 10 (some 102) rfl rfl (by kernel_rfl) (by kernel_rfl) (by kernel_rfl) (fun _ _ _ h => h) (by rfl) (fun W hW => ?_) ?_
          rotate_left
          · (go_simp; try rfl)
          simp only [Act.put, List.setIfInBounds_toArray, List.set_cons_zero, List.set_cons_succ]
          refine reg_conv 11 (some 103) (fun W hW => conv_string W B2' 16 (c2 - i) Yk L2.out ((T2.out.extk HX2.out).extk (HX.out.trans hW))) rfl rfl rfl rfl (by kernel_rfl) (by kernel_rfl) (by kernel_rfl) (fun _ _ _ h => h) (by rfl) ?_
          simp only [Act.put, List.setIfInBounds_toArray, List.set_cons_zero, List.set_cons_succ]
          refine reg_take (v := ?_) 12 (some 104) rfl rfl (by kernel_rfl) (by kernel_rfl) (by kernel_rfl) (fun _ _ _ h => h) (by rfl) (fun W hW => ?_) ?_
          rotate_left
          · (go_simp; try rfl)
          simp only [Act.put, List.setIfInBounds_toArray, List.set_cons_zero, List.set_cons_succ]
          refine reg_take (v := ?_) 13 (some 105) rfl rfl (by kernel_rfl) (by kernel_rfl) (by kernel_rfl) (fun _ _ _ h => h) (by rfl) (fun W hW => ?_) ?_
          rotate_left
          · (go_simp; try rfl)
          simp only [Act.put, List.setIfInBounds_toArray, List.set_cons_zero, List.set_cons_succ]
          refine reg_eff 14 rfl (by kernel_rfl) (fun K hK => ?_)
          go_simp
          refine (AW.out _).mono ?_
          rintro e w9 ⟨rfl, hE⟩
          refine hK.out _ _ hE ?_
          have HX := Lib.hid (Ext.trans HX.out hE)
          clear hE hK K
          try simp only [Act.put, List.setIfInBounds_toArray, List.set_cons_zero, List.set_cons_succ]
          refine reg_take (v := ?_) 15 (some 107) rfl rfl (by kernel_rfl) (by kernel_rfl) (by kernel_rfl) (fun _ _ _ h => h) (by rfl) (fun W hW => ?_) ?_
          rotate_left
          · (go_simp; try rfl)
          simp only [Act.put, List.setIfInBounds_toArray, List.set_cons_zero, List.set_cons_succ]
          refine reg_take (v := ?_) 16 (some 6) rfl rfl (by kernel_rfl) (by kernel_rfl) (by kernel_rfl) (fun _ _ _ h => h) (by rfl) (fun W hW => ?_) ?_
          rotate_left
          · (go_simp; try rfl)
          simp only [Act.put, List.setIfInBounds_toArray, List.set_cons_zero, List.set_cons_succ]
          refine reg_done (by kernel_rfl) ?_
          clear hwr
          go_wp2
          go_ret
          have hq4 : ((strOf Xk).toList == (strOf Yk).toList) = false := by
            have := k_strOf_beq Xk Yk
            rw [this, decide_eq_false hXY]
          refine ⟨?_, (B28.out.step HBw.out).step (HX2.out.step HX.out)⟩
          rw [hq4]
          rfl
      · have u2 : ¬ ((i : Int) + 16 ≤ (lb : Int)) := by omega
        go_wp2_with fail
        refine (AW.out _).mono ?_
        rintro e w9 ⟨rfl, hE⟩
        go_wp2
        go_ret
        exact ⟨rfl, (B28.out.step HBw.out).step hE⟩
    · have u1 : ¬ ((i : Int) + 16 ≤ (la : Int)) := by omega
      go_wp2_with fail
      refine (AW.out _).mono ?_
      rintro e w9 ⟨rfl, hE⟩
      go_wp2
      go_ret
      exact ⟨rfl, (B28.out.step HBw.out).step hE⟩
end Go.Proofs.Ytpihnggegmbgfaa

/- A key, whether it is long, and an IV, that come in (layer 9). -/
namespace Go.Proofs.Ytpihnggegmbgfaa
open Go.RowKit Go.ChangeShapes Go.WideShapes Go.ChangeAt
set_option maxRecDepth 100000
set_option linter.unusedVariables false
set_option linter.unusedSimpArgs false
theorem k9_of_cells {H : Type} {enc : TypeId × Value → H} {W : World} {b0 : Nat} {sp : Nat → Bool} {held : Bool} {cs : List Value} {fuel : Nat} {x : DataW H × List MemPlace}
    (hf : DataW.trod enc Try.prog W b0 sp held fuel 25 cs = some x) : ∃ k b n, cs = kCells k b n ∧ k.length = 32 ∧ n.length = 16 := by
  obtain ⟨y0, y1, y2, m, _, hl, h0, h1, h2⟩ := Go.Deep.trod_struct3 Try.underlying25 hf
  have hc : Try.prog.cellsOf 25 = 49 := by kernel_rfl
  have c0 : Try.prog.cellsOf 22 = 32 := by kernel_rfl
  have c1 : Try.prog.cellsOf 4 = 1 := by kernel_rfl
  have c2 : Try.prog.cellsOf 23 = 16 := by kernel_rfl
  rw [hc] at hl
  rw [c0] at h0
  rw [c1] at h1
  rw [c2] at h2
  obtain ⟨z0, e0, hz0, w0⟩ := cells_ints Try.underlying22 Try.underlying5 (by kernel_rfl) c0 h0
  obtain ⟨b, e1, _⟩ := DataW.trod_bool Try.underlying4 h1
  obtain ⟨z2, e2, hz2, w2⟩ := cells_ints Try.underlying23 Try.underlying5 (by kernel_rfl) c2 h2
  obtain ⟨k, rfl⟩ := bytes_of w0
  obtain ⟨n, rfl⟩ := bytes_of w2
  refine ⟨k, b, n, ?_, by simpa using hz0, by simpa using hz2⟩
  have hs := split49 cs hl
  simp only [List.drop_zero] at e0
  rw [e0, e1, e2] at hs
  rw [hs]
  simp [kCells, Function.comp_def]
  rfl
theorem open_palfreylaw09_Key {H : Type} {enc : TypeId × Value → H} {W : World} {base b0 : Nat} {sp : Nat → Bool} {held : Bool} {v : Value} {d : DataW H} {p : List MemPlace}
    (hv : Value.okWide Try.prog W .any base 25 v) (h : DataW.Trod enc Try.prog W b0 sp held 25 v d p) :
    ∃ y : List UInt8 × Bool × List UInt8, v = .agg (kCells y.1 y.2.1 y.2.2).toArray ∧ y.1.length = 32 ∧ y.2.2.length = 16 := by
  obtain ⟨cs, rfl, hsz⟩ := okWide_struct Try.underlying25 hv
  obtain ⟨fuel, hf⟩ := h
  simp only [Value.cells] at hf
  obtain ⟨k, b, n, e, hk, hn⟩ := k9_of_cells hf
  refine ⟨(k, b, n), ?_, hk, hn⟩
  congr 1
  apply Array.ext'
  rw [e]
end Go.Proofs.Ytpihnggegmbgfaa
