/- Joined: AesM4 Cbc8 LawsK2 LiftV. -/
import Derived.Test.YtpihnggegmbgfaaJoin1
import Derived.Test.YtpihnggegmbgfaaRefK2
import Derived.Test.YtpihnggegmbgfaaLiftN
/- What is enciphered is deciphered to what it was, and the other way round. -/
namespace Go.Proofs.Ytpihnggegmbgfaa
open Go.RowKit
set_option maxRecDepth 100000
set_option linter.unusedVariables false
theorem unmix_mix_l (s : List W32) : (s.map mixW).map unmixW = s := by rw [List.map_map]; exact map_id' _ unmix_mix s
theorem mix_unmix_l (s : List W32) : (s.map unmixW).map mixW = s := by rw [List.map_map]; exact map_id' _ mix_unmix s
theorem dec_enc_N (ws : List W32) (n : Nat) (b : List UInt8) (hw : ws.length = 60) (h1 : 1 ≤ n) (h2 : n ≤ 14) : ∀ i, i ≤ n - 1 → decN backL ws n (encL ws n b) i = encN sboxL ws b (n - 1 - i) := by
  intro i
  induction i with
  | zero =>
    intro _
    have hl := encN_len sboxL ws b (n - 1) hw (by omega)
    have hs : (shiftW 1 ((encN sboxL ws b (n - 1)).map (subW sboxL))).length = 4 := shiftW_len _ _
    rw [decN, encL, encT, cols_out _ (addW_len _ _ _ hs (by omega)), add_add _ _ _ hs (by omega), shift_31 _ (by rw [List.length_map]; exact hl), sub_back_l]
    rfl
  | succ i ih =>
    intro hi
    have e : n - 1 - i = (n - 1 - (i + 1)) + 1 := by omega
    have hl := encN_len sboxL ws b (n - 1 - (i + 1)) hw (by omega)
    have hs : (shiftW 1 ((encN sboxL ws b (n - 1 - (i + 1))).map (subW sboxL))).length = 4 := shiftW_len _ _
    rw [decN, ih (by omega)]
    rw [e, encN, add_add _ _ _ (by rw [List.length_map]; exact hs) (by omega), unmix_mix_l, shift_31 _ (by rw [List.length_map]; exact hl), sub_back_l]
theorem dec_enc (ws : List W32) (n : Nat) (b : List UInt8) (hw : ws.length = 60) (h1 : 1 ≤ n) (h2 : n ≤ 14) (hb : b.length = 16) : decL ws n (encL ws n b) = b := by
  have h := dec_enc_N ws n b hw h1 h2 (n - 1) (Nat.le_refl _)
  rw [decL, decT, h, Nat.sub_self, encN, add_add _ _ _ (colsL_len b) (by omega), out_cols b hb]
theorem enc_dec_N (ws : List W32) (n : Nat) (b : List UInt8) (hw : ws.length = 60) (h1 : 1 ≤ n) (h2 : n ≤ 14) : ∀ j, j ≤ n - 1 → encN sboxL ws (decL ws n b) j = decN backL ws n b (n - 1 - j) := by
  intro j
  induction j with
  | zero =>
    intro _
    have hl := decN_len backL ws n b (n - 1)
    rw [encN, decL, decT, cols_out _ (addW_len _ _ _ hl (by omega)), add_add _ _ _ hl (by omega)]
    rfl
  | succ j ih =>
    intro hj
    have e : n - 1 - j = (n - 1 - (j + 1)) + 1 := by omega
    have hl := decN_len backL ws n b (n - 1 - (j + 1))
    have ek : n - 1 - (n - 1 - (j + 1)) = j + 1 := by omega
    have ha : (addW ws (j + 1) (decN backL ws n b (n - 1 - (j + 1)))).length = 4 := addW_len _ _ _ hl (by omega)
    rw [encN, ih (by omega), e, decN, ek, back_sub_l, shift_13 _ (by rw [List.length_map]; exact ha), mix_unmix_l, add_add _ _ _ hl (by omega)]
theorem enc_dec (ws : List W32) (n : Nat) (b : List UInt8) (hw : ws.length = 60) (h1 : 1 ≤ n) (h2 : n ≤ 14) (hb : b.length = 16) : encL ws n (decL ws n b) = b := by
  have h := enc_dec_N ws n b hw h1 h2 (n - 1) (Nat.le_refl _)
  have hc : (addW ws n (colsL b)).length = 4 := addW_len _ _ _ (colsL_len b) (by omega)
  rw [encL, encT, h, Nat.sub_self, decN, back_sub_l, shift_13 _ hc, add_add _ _ _ (colsL_len b) (by omega), out_cols b hb]
end Go.Proofs.Ytpihnggegmbgfaa

/- The key of the laws of layer 9 in memory, and its round keys. -/
namespace Go.Proofs.Ytpihnggegmbgfaa
open Go.RowKit
set_option linter.unusedVariables false
set_option maxRecDepth 100000
set_option linter.unusedSimpArgs false
set_option maxHeartbeats 1000000 in
theorem kbytes9_any (k : List UInt8) (b : Bool) (n : List UInt8) (w : World) (hk : k.length = 32) (hn : n.length = 16) :
    Calls Try.prog 13 #[.agg (kCells k b n).toArray] w fun e w' => e = .returned (.slice (some ⟨w.heap.size, 0, none⟩) (4 * keyW b) 32) ∧ Sl w' (some ⟨w.heap.size, 0, none⟩) 32 (keyB k b) ∧ Below w.heap.size w w' := by
  have Z0 := kz_new w k n b 25 hk hn
  have HS := Lib.hid (Z0.key hk)
  have hc := Z0.2.2.1
  have sl := arr_to arr32Z s8 ⟨w.heap.size, 0, none⟩ .i64 16 (by omega) (by omega)
  rw [show (16 : Int).toNat = 16 from rfl] at sl
  have sl2 := arr_all arr32Z s8 ⟨w.heap.size, 0, none⟩
  clear Z0
  generalize (kCells k b n).toArray = Z at HS hc ⊢
  generalize keyB k b = KB at HS ⊢
  cases b
  · go_enter Try.func13, Try.ntmps13
    go_wp2
    go_ret
    exact ⟨rfl, HS.out, (Below.refl _ _).alloc (Nat.le_refl _) _⟩
  · go_enter Try.func13, Try.ntmps13
    go_wp2
    go_ret
    exact ⟨rfl, HS.out, (Below.refl _ _).alloc (Nat.le_refl _) _⟩
theorem iKey9 : (Try.prog.info? 25).map (·.size) = some 49 := by kernel_rfl
set_option maxHeartbeats 1000000 in
theorem keys9_any (k : List UInt8) (b : Bool) (n : List UInt8) (w : World) (hk : k.length = 32) (hn : n.length = 16) :
    Calls Try.prog 10 #[.agg (kCells k b n).toArray] w fun e w' => ∃ g, e = .returned (.tuple #[.pointer (some ⟨g, 0, none⟩), .bool true]) ∧ w.heap.size ≤ g ∧ KeyAt w' g (expandL (keyB k b)) (keyW b + 6) ∧ Below w.heap.size w w' := by
  have HBY := Lib.hid (fun W => kbytes9_any k b n W hk hn)
  have HL := Lib.hid (kCells_len k n b hk hn)
  have HKL := Lib.hid (keyB_len k b hk)
  have HW : Hid (keyW b = 4 ∨ keyW b = 8) := by show _ ∨ _; cases b <;> simp [keyW]
  generalize kCells k b n = Z at HBY HL ⊢
  generalize keyB k b = KB at HBY HKL ⊢
  generalize keyW b = nk at HBY HKL HW ⊢
  clear hk hn
  go_enter Try.func10, Try.ntmps10
  go_wp2_with (first
    | (refine wpList_ld rfl 25 (.tmp 1) rfl (load_arr Try.underlying25 rfl (by rw [HL.out]; exact iKey9) (heap_alloc_new' w _)) ?_)
    | fail)
  generalize hV : w.alloc _ = W0
  have B0 := Lib.hid (below_of_alloc hV (Nat.le_refl w.heap.size))
  clear hV
  refine (HBY.out W0).mono ?_
  rintro e w1 ⟨rfl, hS1, hb1⟩
  have S1 := Lib.hid hS1; have B1 := Lib.hid (B0.out.step hb1)
  clear hS1 hb1
  go_wp2_with fail
  refine (expand_any (some ⟨W0.heap.size, 0, none⟩) (4 * nk) 32 nk KB w1 HKL.out rfl HW.out S1.out).mono ?_
  rintro e w2 ⟨g, rfl, hg, hK, hb2⟩
  have K2 := Lib.hid hK; have B2 := Lib.hid (B1.out.step hb2)
  have HG : Hid (w.heap.size ≤ g) := Nat.le_trans B1.out.size hg
  clear hK hb2 hg
  go_wp2
  go_ret2
  exact ⟨g, rfl, HG.out, K2.out, B2.out⟩
end Go.Proofs.Ytpihnggegmbgfaa

/- Laws of layer 9: what is sealed is opened to what it was; what is no whole blocks is not opened. -/
namespace Go.Proofs.Ytpihnggegmbgfaa
open Go.RowKit
set_option maxRecDepth 100000
set_option linter.unusedVariables false
set_option linter.unusedSimpArgs false
set_option maxHeartbeats 2000000 in
theorem cbcBack_walk (w : World) (y : List UInt8 × Bool × List UInt8) (l : y.1.length = 32 ∧ y.2.2.length = 16) (A : Option Addr) (c : Nat) (b : List UInt8) (h : Sl w A c b) :
    Calls Try.prog 6 #[.agg (kCells y.1 y.2.1 y.2.2).toArray, .slice A b.length c] w fun e w' => e = .returned (.bool true) ∧ Below w.heap.size w w' := by
  obtain ⟨k, lg, iv⟩ := y
  obtain ⟨hk, hn⟩ := l
  simp only at hk hn ⊢
  have q1 : b.length ≤ 9223372036854775807 := by have := h.1; have := h.2.1; simp [maxLen] at this; omega
  have HN := Lib.hid hn; have H := Lib.hid h
  obtain ⟨n, hm⟩ : ∃ n, b.length = n := ⟨_, rfl⟩
  have HM := Lib.hid hm
  have hmc : n ≤ c := by rw [← hm]; exact h.1
  rw [hm] at q1 ⊢
  have HKS := Lib.hid (fun W => keys9_any k lg iv W hk hn)
  have HZL := Lib.hid (kCells_len k iv lg hk hn)
  have Z0 := Lib.hid (kz_new w k iv lg 25 hk hn)
  have HR : Hid (1 ≤ keyW lg + 6 ∧ keyW lg + 6 ≤ 14) := by show _ ∧ _; cases lg <;> simp [keyW]
  clear hk hn h
  generalize kCells k lg iv = Z at HKS HZL Z0 ⊢
  generalize keyW lg + 6 = nr at HKS HR
  generalize expandL (keyB k lg) = ws at HKS
  by_cases hb : 300 < n
  · go_enter Try.func6, Try.ntmps6
    go_wp2
    go_ret
    exact ⟨rfl, (Below.refl _ _).alloc (Nat.le_refl _) _⟩
  have hbb : n ≤ 300 := by omega
  clear hb q1 hm
  have HPB := Lib.hid (padB_len n)
  have hkk := padK9_le n
  have hm2 : n + padK9 n = (n / 16 + 1) * 16 := by unfold padK9; omega
  have HUP := Lib.hid (up_pad b)
  rw [HM.out] at HUP
  obtain ⟨mm, hmm⟩ : ∃ mm, n / 16 + 1 = mm := ⟨_, rfl⟩
  have hq : (n : Int) / 16 * 16 + 16 = ((16 * mm : Nat) : Int) := by omega
  have hq2 : n + padK9 n = 16 * mm := by omega
  have hlt : n < 16 * mm := by omega
  have HPL : Hid ((b ++ padB n).length = 16 * mm) := by show _ = _; rw [List.length_append, HM.out, HPB.out]; exact hq2
  have HTK : Hid ((b ++ padB n).take n = b) := by show _ = _; rw [← HM.out, List.take_left]
  have SE := Lib.hid (fun P E W (hE : Enc W (.pointer P) E) (hS : Sl W A c b) => seal_any P E iv A n c b W HN.out hE HM.out (by omega) hS)
  rw [hq2] at SE
  rw [Nat.mul_div_cancel_left mm (by omega)] at SE
  generalize b ++ padB n = PL at HUP HPL HTK SE
  have hmm2 : 16 * mm ≤ 400 := by omega
  obtain ⟨m2, hm22⟩ : ∃ m2, 16 * mm = m2 := ⟨_, rfl⟩
  rw [hm22] at hq SE hlt HPL hmm2
  clear hm2 hmm hq2 hkk HPB
  go_enter Try.func6, Try.ntmps6
  go_wp2_with (first
    | (refine wpList_ld rfl 25 (.tmp 2) rfl (load_arr Try.underlying25 rfl (by rw [HZL.out]; exact iKey9) (heap_alloc_new' w _)) ?_)
    | fail)
  generalize hV : w.alloc _ = Wa at Z0 ⊢
  have Ba := Lib.hid (below_of_alloc hV (Nat.le_refl w.heap.size))
  clear hV
  refine (HKS.out Wa).mono ?_
  rintro e W0 ⟨gk, rfl, _, hK, hb0⟩
  have K0 := Lib.hid (KeyAt.enc hK HR.out.1 HR.out.2)
  have D0 := Lib.hid (KeyAt.dcp hK HR.out.1 HR.out.2)
  have HDE : Hid (∀ x, x.length = 16 → decL ws nr (encL ws nr x) = x) := fun x hx => dec_enc ws nr x hK.1 HR.out.1 HR.out.2 hx
  have B0 := Lib.hid (Ba.out.step hb0)
  have Z0 := Lib.hid (Z0.out.ext hb0)
  clear hK hb0 Ba HKS
  generalize encL ws nr = E at K0 HDE
  generalize decL ws nr = D at D0 HDE
  have H0 := Lib.hid (H.out.below B0.out)
  have HUN : Hid (unchL D iv (chainL E iv PL mm) mm = PL) := unch_chain E D iv PL mm (by rw [HPL.out, hm22]) HN.out K0.out.1 HDE.out
  go_wp2_with (first
    | (refine wpList_ld rfl 23 (.tmp 21) rfl (run_loadAt_mid W0 w.heap.size 33 23 (iv.map bv) _ Z0.out.2.2.2 arr16B rfl (i16z iv HN.out)) ?_)
    | fail)
  refine (SE.out _ E W0 K0.out H0.out).mono ?_
  rintro e w1 ⟨v1, rfl, hO1, hb1⟩
  obtain ⟨A1, c1, rfl, hl1, hc1, hm1, hr1⟩ := own_read hO1
  have S1 : Hid (Sl w1 A1 c1 (chainL E iv PL mm)) := ⟨by omega, hm1, hr1⟩
  have L1 := Lib.hid hl1
  have Z1 := Lib.hid (Z0.out.ext hb1)
  have B1 := Lib.hid (B0.out.step hb1)
  have D1 := Lib.hid (D0.out.ext hb1)
  have H1 := Lib.hid (H0.out.extk hb1)
  generalize chainL E iv PL mm = CL at S1 L1 HUN
  clear hO1 hc1 hm1 hr1 hl1 hb1 SE K0 HDE B0 Z0 D0 H0
  go_wp2_with (first
    | (refine wpList_ld rfl 23 (.tmp 27) rfl (run_loadAt_mid w1 w.heap.size 33 23 (iv.map bv) _ Z1.out.2.2.2 arr16B rfl (i16z iv HN.out)) ?_)
    | fail)
  refine (open_any _ D iv A1 m2 c1 mm CL w1 HN.out D1.out L1.out hm22.symm (by omega) S1.out).mono ?_
  rintro e w2 ⟨v2, x2, rfl, hO2, hb2⟩
  have HOP : openO D iv CL = some n := by
    unfold openO
    rw [L1.out, if_neg (by omega), ← hm22, Nat.mul_div_cancel_left mm (by omega), HUN.out]
    exact HUP.out
  unfold OpenC at hO2
  rw [HOP, L1.out, ← hm22, Nat.mul_div_cancel_left mm (by omega), HUN.out] at hO2
  obtain ⟨rfl, _, hO2⟩ := hO2
  rw [HTK.out] at hO2
  obtain ⟨A2, c2, rfl, hl2, hc2, hm2, hr2⟩ := own_read hO2
  have S2 : Sl w2 A2 c2 b := ⟨by omega, hm2, hr2⟩
  have B2 := Lib.hid (B1.out.step hb2)
  have H2 := H1.out.extk hb2
  have cs1 := conv_string w2 A2 n c2 b hl2 S2
  have cs2 := conv_string w2 A n c b hl2 H2
  have hst : ((strOf b).toList == (strOf b).toList) = true := beq_self_eq_true _
  have hqq : ((m2 : Int) == (m2 : Int)) = true := beq_self_eq_true _
  clear hO2 hb2 HOP HUN HUP hr2 hm2 S2 H2 B1 Z1 D1 H1 S1
  go_wp2_with fail
  refine (awake9_any w2).mono ?_
  rintro e w3 ⟨rfl, hb3⟩
  go_wp2
  go_ret
  exact ⟨rfl, B2.out.step hb3⟩
set_option maxHeartbeats 2000000 in
theorem cbcShort_walk (w : World) (y : List UInt8 × Bool × List UInt8) (l : y.1.length = 32 ∧ y.2.2.length = 16) (A : Option Addr) (c : Nat) (b : List UInt8) (h : Sl w A c b) :
    Calls Try.prog 8 #[.agg (kCells y.1 y.2.1 y.2.2).toArray, .slice A b.length c] w fun e w' => e = .returned (.bool true) ∧ Below w.heap.size w w' := by
  obtain ⟨k, lg, iv⟩ := y
  obtain ⟨hk, hn⟩ := l
  simp only at hk hn ⊢
  have q1 : b.length ≤ 9223372036854775807 := by have := h.1; have := h.2.1; simp [maxLen] at this; omega
  have HN := Lib.hid hn; have H := Lib.hid h
  obtain ⟨n, hm⟩ : ∃ n, b.length = n := ⟨_, rfl⟩
  have HM := Lib.hid hm
  have hmc : n ≤ c := by rw [← hm]; exact h.1
  rw [hm] at q1 ⊢
  have HKS := Lib.hid (fun W => keys9_any k lg iv W hk hn)
  have HZL := Lib.hid (kCells_len k iv lg hk hn)
  have Z0 := Lib.hid (kz_new w k iv lg 25 hk hn)
  have HR : Hid (1 ≤ keyW lg + 6 ∧ keyW lg + 6 ≤ 14) := by show _ ∧ _; cases lg <;> simp [keyW]
  clear hk hn h
  generalize kCells k lg iv = Z at HKS HZL Z0 ⊢
  generalize keyW lg + 6 = nr at HKS HR
  generalize expandL (keyB k lg) = ws at HKS
  by_cases hb : 300 < n
  · go_enter Try.func8, Try.ntmps8
    go_wp2
    go_ret
    exact ⟨rfl, (Below.refl _ _).alloc (Nat.le_refl _) _⟩
  have hbb : n ≤ 300 := by omega
  clear hb q1 hm
  have HOD := Lib.hid (fun P D W (h16 : n % 16 ≠ 0) => open_odd P D iv A n c b W HM.out (by omega) h16)
  go_enter Try.func8, Try.ntmps8
  go_wp2_with (first
    | (refine wpList_ld rfl 25 (.tmp 2) rfl (load_arr Try.underlying25 rfl (by rw [HZL.out]; exact iKey9) (heap_alloc_new' w _)) ?_)
    | fail)
  generalize hV : w.alloc _ = Wa at Z0 ⊢
  have Ba := Lib.hid (below_of_alloc hV (Nat.le_refl w.heap.size))
  clear hV
  refine (HKS.out Wa).mono ?_
  rintro e W0 ⟨gk, rfl, _, hK, hb0⟩
  have K0 := Lib.hid (KeyAt.enc hK HR.out.1 HR.out.2)
  have D0 := Lib.hid (KeyAt.dcp hK HR.out.1 HR.out.2)
  have HDE : Hid (∀ x, x.length = 16 → decL ws nr (encL ws nr x) = x) := fun x hx => dec_enc ws nr x hK.1 HR.out.1 HR.out.2 hx
  have B0 := Lib.hid (Ba.out.step hb0)
  have Z0 := Lib.hid (Z0.out.ext hb0)
  clear hK hb0 Ba HKS
  generalize encL ws nr = E at K0 HDE
  generalize decL ws nr = D at D0 HDE
  have H0 := Lib.hid (H.out.below B0.out)
  have HOX : Hid (∀ W, Below W0.heap.size W0 W → Sl W A c b → Calls Try.prog 15 #[.pointer (some ⟨gk, 0, none⟩), .agg (iv.map bv).toArray, .slice A n c] W fun e w' => ∃ v x, e = .returned (.tuple #[v, .int .i64 x]) ∧ OpenC W D iv b v x w' ∧ Below W.heap.size W w') := fun W hW hS => by
    by_cases h16 : n % 16 = 0
    · exact open_any _ D iv A n c (n / 16) b W HN.out (D0.out.ext hW) HM.out (by omega) (by omega) hS
    · exact HOD.out _ D W h16
  clear HOD
  go_wp2_with (first
    | (refine wpList_ld rfl 23 (.tmp 21) rfl (run_loadAt_mid W0 w.heap.size 33 23 (iv.map bv) _ Z0.out.2.2.2 arr16B rfl (i16z iv HN.out)) ?_)
    | fail)
  refine (HOX.out W0 (Below.refl _ _) H0.out).mono ?_
  rintro e w2 ⟨v2, x2, rfl, hO2, hb2⟩
  have B2 := Lib.hid (B0.out.step hb2)
  have AW := Lib.hid (awake9_any w2)
  have HLC : Hid (openO D iv b = none ∨ ∃ k, openO D iv b = some k ∧ n ≤ k + 16) := by
    show _ ∨ _
    cases ho : openO D iv b with
    | none => exact .inl rfl
    | some k =>
      refine .inr ⟨k, rfl, ?_⟩
      unfold openO at ho
      split at ho
      · cases ho
      · rename_i h16
        have hul : (unchL D iv b (b.length / 16)).length = n := by
          have h1 := unB_up D iv b (b.length / 16)
          have h2 := (unB_len D iv HN.out D0.out.1 (b.length / 16) _ (blkUp_len b _)).2
          rw [h1] at h2
          rw [h2, HM.out]
          rw [HM.out] at h16
          omega
        exact upO_ge hul ho
  have hne : Hid (n % 16 ≠ 0 ∨ n = 0 → openO D iv b = none) := fun h => by
    unfold openO
    rw [HM.out]
    by_cases h16 : n % 16 = 0
    · rw [if_neg (by omega)]
      have h0 : n = 0 := by omega
      have hb0 : b = [] := List.length_eq_zero_iff.1 (HM.out.trans h0)
      have hz : unchL D iv b (n / 16) = [] := by rw [h0]; rfl
      rw [hz]; rfl
    · rw [if_pos h16]
  clear hb2 HOX D0 B0 Z0 H0 K0 HDE
  unfold OpenC at hO2
  rcases HLC.out with ho | ⟨k, ho, hk16⟩
  · rw [ho] at hO2
    obtain ⟨rfl, rfl⟩ := hO2
    by_cases h0 : n = 0
    · have e0 : ((n : Int) == 0) = true := by simp [h0]
      clear hne HLC ho
      go_wp2_with fail
      refine AW.out.mono ?_
      rintro e w3 ⟨rfl, hb3⟩
      go_wp2
      go_ret
      exact ⟨rfl, B2.out.step hb3⟩
    · have e0 : ((n : Int) == 0) = false := by simp; omega
      have et : (n : Int).tmod 16 = ((n % 16 : Nat) : Int) := by rw [Int.tmod_eq_emod_of_nonneg (by omega)]; omega
      have em : (n : Int) % 16 = ((n % 16 : Nat) : Int) := by omega
      obtain ⟨r, hr⟩ : ∃ r, n % 16 = r := ⟨_, rfl⟩
      rw [hr] at et em
      by_cases hr0 : r = 0
      · have e1 : ((r : Int) != 0) = false := by simp [hr0]
        have e1' : ((r : Int) == 0) = true := by simp [hr0]
        clear hne HLC ho hr
        go_wp2_with fail
        refine AW.out.mono ?_
        rintro e w3 ⟨rfl, hb3⟩
        go_wp2
        go_ret
        exact ⟨rfl, B2.out.step hb3⟩
      · have e1 : ((r : Int) != 0) = true := by simp; omega
        have e1' : ((r : Int) == 0) = false := by simp; omega
        clear hne HLC ho hr
        go_wp2_with fail
        refine AW.out.mono ?_
        rintro e w3 ⟨rfl, hb3⟩
        go_wp2
        go_ret
        exact ⟨rfl, B2.out.step hb3⟩
  · have hn16 : n % 16 = 0 ∧ n ≠ 0 := by
      refine ⟨?_, ?_⟩
      · by_cases h : n % 16 = 0
        · exact h
        · rw [hne.out (.inl h)] at ho; cases ho
      · intro h
        rw [hne.out (.inr h)] at ho; cases ho
    rw [ho] at hO2
    obtain ⟨rfl, hkn, hO2⟩ := hO2
    rw [HM.out] at hkn
    obtain ⟨A2, c2, rfl, _⟩ := own_read hO2
    have e0 : ((n : Int) == 0) = false := by simp; omega
    have et : (n : Int).tmod 16 = 0 := by rw [Int.tmod_eq_emod_of_nonneg (by omega)]; omega
    have em : (n : Int) % 16 = 0 := by omega
    have u1 : (k : Int) < (n : Int) := by omega
    have u2 : (n : Int) - 16 ≤ (k : Int) := by omega
    clear hne HLC ho hO2 hn16
    go_wp2_with fail
    refine AW.out.mono ?_
    rintro e w3 ⟨rfl, hb3⟩
    go_wp2
    go_ret
    exact ⟨rfl, B2.out.step hb3⟩
end Go.Proofs.Ytpihnggegmbgfaa

/- A key, whether it is long, and an IV, that come in (layer 9). -/
namespace Go.Proofs.Ytpihnggegmbgfaa
open Go.RowKit Go.ChangeShapes Go.WideShapes Go.ChangeAt
set_option maxRecDepth 100000
set_option linter.unusedVariables false
set_option linter.unusedSimpArgs false
theorem k9_of_cells {H : Type} {enc : TypeId × Value → H} {W : World} {b0 : Nat} {sp : Nat → Bool} {held : Bool} {cs : List Value} {fuel : Nat} {x : DataW H × List MemPlace}
    (hf : DataW.trod enc Try.prog W b0 sp held fuel 25 cs = some x) : ∃ k b n, cs = kCells k b n ∧ k.length = 32 ∧ n.length = 16 := by
  obtain ⟨y0, y1, y2, m, _, hl, h0, h1, h2⟩ := Go.Deep.trod_struct3 Try.underlying25 hf
  have hc : Try.prog.cellsOf 25 = 49 := by kernel_rfl
  have c0 : Try.prog.cellsOf 22 = 32 := by kernel_rfl
  have c1 : Try.prog.cellsOf 4 = 1 := by kernel_rfl
  have c2 : Try.prog.cellsOf 23 = 16 := by kernel_rfl
  rw [hc] at hl
  rw [c0] at h0
  rw [c1] at h1
  rw [c2] at h2
  obtain ⟨z0, e0, hz0, w0⟩ := cells_ints Try.underlying22 Try.underlying5 (by kernel_rfl) c0 h0
  obtain ⟨b, e1, _⟩ := DataW.trod_bool Try.underlying4 h1
  obtain ⟨z2, e2, hz2, w2⟩ := cells_ints Try.underlying23 Try.underlying5 (by kernel_rfl) c2 h2
  obtain ⟨k, rfl⟩ := bytes_of w0
  obtain ⟨n, rfl⟩ := bytes_of w2
  refine ⟨k, b, n, ?_, by simpa using hz0, by simpa using hz2⟩
  have hs := split49 cs hl
  simp only [List.drop_zero] at e0
  rw [e0, e1, e2] at hs
  rw [hs]
  simp [kCells, Function.comp_def]
  rfl
theorem open_palfreylaw09_Key {H : Type} {enc : TypeId × Value → H} {W : World} {base b0 : Nat} {sp : Nat → Bool} {held : Bool} {v : Value} {d : DataW H} {p : List MemPlace}
    (hv : Value.okWide Try.prog W .any base 25 v) (h : DataW.Trod enc Try.prog W b0 sp held 25 v d p) :
    ∃ y : List UInt8 × Bool × List UInt8, v = .agg (kCells y.1 y.2.1 y.2.2).toArray ∧ y.1.length = 32 ∧ y.2.2.length = 16 := by
  obtain ⟨cs, rfl, hsz⟩ := okWide_struct Try.underlying25 hv
  obtain ⟨fuel, hf⟩ := h
  simp only [Value.cells] at hf
  obtain ⟨k, b, n, e, hk, hn⟩ := k9_of_cells hf
  refine ⟨(k, b, n), ?_, hk, hn⟩
  congr 1
  apply Array.ext'
  rw [e]
end Go.Proofs.Ytpihnggegmbgfaa
