/- Joined: Cbc8 LawsK2 Own LawsK4 LiftV. -/
import Derived.Test.YtpihnggegmbgfaaJoin1
import Derived.Test.YtpihnggegmbgfaaRefK2
import Derived.Test.YtpihnggegmbgfaaBits3
import Derived.Test.YtpihnggegmbgfaaSha8
import Derived.Test.YtpihnggegmbgfaaLiftN
/- The key of the laws of layer 9 in memory, and its round keys. -/
namespace Go.Proofs.Ytpihnggegmbgfaa
open Go.RowKit
set_option linter.unusedVariables false
set_option maxRecDepth 100000
set_option linter.unusedSimpArgs false
set_option maxHeartbeats 1000000 in
theorem kbytes9_any (k : List UInt8) (b : Bool) (n : List UInt8) (w : World) (hk : k.length = 32) (hn : n.length = 16) :
    Calls Try.prog 13 #[.agg (kCells k b n).toArray] w fun e w' => e = .returned (.slice (some ⟨w.heap.size, 0, none⟩) (4 * keyW b) 32) ∧ Sl w' (some ⟨w.heap.size, 0, none⟩) 32 (keyB k b) ∧ Below w.heap.size w w' := by
  have Z0 := kz_new w k n b 25 hk hn
  have HS := Lib.hid (Z0.key hk)
  have hc := Z0.2.2.1
  have sl := arr_to arr32Z s8 ⟨w.heap.size, 0, none⟩ .i64 16 (by omega) (by omega)
  rw [show (16 : Int).toNat = 16 from rfl] at sl
  have sl2 := arr_all arr32Z s8 ⟨w.heap.size, 0, none⟩
  clear Z0
  generalize (kCells k b n).toArray = Z at HS hc ⊢
  generalize keyB k b = KB at HS ⊢
  cases b
  · go_enter Try.func13, Try.ntmps13
    go_wp2
    go_ret
    exact ⟨rfl, HS.out, (Below.refl _ _).alloc (Nat.le_refl _) _⟩
  · go_enter Try.func13, Try.ntmps13
    go_wp2
    go_ret
    exact ⟨rfl, HS.out, (Below.refl _ _).alloc (Nat.le_refl _) _⟩
theorem iKey9 : (Try.prog.info? 25).map (·.size) = some 49 := by kernel_rfl
set_option maxHeartbeats 1000000 in
theorem keys9_any (k : List UInt8) (b : Bool) (n : List UInt8) (w : World) (hk : k.length = 32) (hn : n.length = 16) :
    Calls Try.prog 10 #[.agg (kCells k b n).toArray] w fun e w' => ∃ g, e = .returned (.tuple #[.pointer (some ⟨g, 0, none⟩), .bool true]) ∧ w.heap.size ≤ g ∧ KeyAt w' g (expandL (keyB k b)) (keyW b + 6) ∧ Below w.heap.size w w' := by
  have HBY := Lib.hid (fun W => kbytes9_any k b n W hk hn)
  have HL := Lib.hid (kCells_len k n b hk hn)
  have HKL := Lib.hid (keyB_len k b hk)
  have HW : Hid (keyW b = 4 ∨ keyW b = 8) := by show _ ∨ _; cases b <;> simp [keyW]
  generalize kCells k b n = Z at HBY HL ⊢
  generalize keyB k b = KB at HBY HKL ⊢
  generalize keyW b = nk at HBY HKL HW ⊢
  clear hk hn
  go_enter Try.func10, Try.ntmps10
  go_wp2_with (first
    | (refine wpList_ld rfl 25 (.tmp 1) rfl (load_arr Try.underlying25 rfl (by rw [HL.out]; exact iKey9) (heap_alloc_new' w _)) ?_)
    | fail)
  generalize hV : w.alloc _ = W0
  have B0 := Lib.hid (below_of_alloc hV (Nat.le_refl w.heap.size))
  clear hV
  refine (HBY.out W0).mono ?_
  rintro e w1 ⟨rfl, hS1, hb1⟩
  have S1 := Lib.hid hS1; have B1 := Lib.hid (B0.out.step hb1)
  clear hS1 hb1
  go_wp2_with fail
  refine (expand_any (some ⟨W0.heap.size, 0, none⟩) (4 * nk) 32 nk KB w1 HKL.out rfl HW.out S1.out).mono ?_
  rintro e w2 ⟨g, rfl, hg, hK, hb2⟩
  have K2 := Lib.hid hK; have B2 := Lib.hid (B1.out.step hb2)
  have HG : Hid (w.heap.size ≤ g) := Nat.le_trans B1.out.size hg
  clear hK hb2 hg
  go_wp2
  go_ret2
  exact ⟨g, rfl, HG.out, K2.out, B2.out⟩
end Go.Proofs.Ytpihnggegmbgfaa

/- Laws of layer 9: what is sealed is opened to what it was; what is no whole blocks is not opened. -/
namespace Go.Proofs.Ytpihnggegmbgfaa
open Go.RowKit
set_option maxRecDepth 100000
set_option linter.unusedVariables false
set_option linter.unusedSimpArgs false
set_option maxHeartbeats 2000000 in
theorem cbcBack_walk (w : World) (y : List UInt8 × Bool × List UInt8) (l : y.1.length = 32 ∧ y.2.2.length = 16) (A : Option Addr) (c : Nat) (b : List UInt8) (h : Sl w A c b) :
    Calls Try.prog 6 #[.agg (kCells y.1 y.2.1 y.2.2).toArray, .slice A b.length c] w fun e w' => e = .returned (.bool true) ∧ Below w.heap.size w w' := by
  obtain ⟨k, lg, iv⟩ := y
  obtain ⟨hk, hn⟩ := l
  simp only at hk hn ⊢
  have q1 : b.length ≤ 9223372036854775807 := by have := h.1; have := h.2.1; simp [maxLen] at this; omega
  have HN := Lib.hid hn; have H := Lib.hid h
  obtain ⟨n, hm⟩ : ∃ n, b.length = n := ⟨_, rfl⟩
  have HM := Lib.hid hm
  have hmc : n ≤ c := by rw [← hm]; exact h.1
  rw [hm] at q1 ⊢
  have HKS := Lib.hid (fun W => keys9_any k lg iv W hk hn)
  have HZL := Lib.hid (kCells_len k iv lg hk hn)
  have Z0 := Lib.hid (kz_new w k iv lg 25 hk hn)
  have HR : Hid (1 ≤ keyW lg + 6 ∧ keyW lg + 6 ≤ 14) := by show _ ∧ _; cases lg <;> simp [keyW]
  clear hk hn h
  generalize kCells k lg iv = Z at HKS HZL Z0 ⊢
  generalize keyW lg + 6 = nr at HKS HR
  generalize expandL (keyB k lg) = ws at HKS
  by_cases hb : 300 < n
  · go_enter Try.func6, Try.ntmps6
    go_wp2
    go_ret
    exact ⟨rfl, (Below.refl _ _).alloc (Nat.le_refl _) _⟩
  have hbb : n ≤ 300 := by omega
  clear hb q1 hm
  have HPB := Lib.hid (padB_len n)
  have hkk := padK9_le n
  have hm2 : n + padK9 n = (n / 16 + 1) * 16 := by unfold padK9; omega
  have HUP := Lib.hid (up_pad b)
  rw [HM.out] at HUP
  obtain ⟨mm, hmm⟩ : ∃ mm, n / 16 + 1 = mm := ⟨_, rfl⟩
  have hq : (n : Int) / 16 * 16 + 16 = ((16 * mm : Nat) : Int) := by omega
  have hq2 : n + padK9 n = 16 * mm := by omega
  have hlt : n < 16 * mm := by omega
  have HPL : Hid ((b ++ padB n).length = 16 * mm) := by show _ = _; rw [List.length_append, HM.out, HPB.out]; exact hq2
  have HTK : Hid ((b ++ padB n).take n = b) := by show _ = _; rw [← HM.out, List.take_left]
  have SE := Lib.hid (fun P E W (hE : Enc W (.pointer P) E) (hS : Sl W A c b) => seal_any P E iv A n c b W HN.out hE HM.out (by omega) hS)
  rw [hq2] at SE
  rw [Nat.mul_div_cancel_left mm (by omega)] at SE
  generalize b ++ padB n = PL at HUP HPL HTK SE
  have hmm2 : 16 * mm ≤ 400 := by omega
  obtain ⟨m2, hm22⟩ : ∃ m2, 16 * mm = m2 := ⟨_, rfl⟩
  rw [hm22] at hq SE hlt HPL hmm2
  clear hm2 hmm hq2 hkk HPB
  go_enter Try.func6, Try.ntmps6
  go_wp2_with (first
    | (refine wpList_ld rfl 25 (.tmp 2) rfl (load_arr Try.underlying25 rfl (by rw [HZL.out]; exact iKey9) (heap_alloc_new' w _)) ?_)
    | fail)
  generalize hV : w.alloc _ = Wa at Z0 ⊢
  have Ba := Lib.hid (below_of_alloc hV (Nat.le_refl w.heap.size))
  clear hV
  refine (HKS.out Wa).mono ?_
  rintro e W0 ⟨gk, rfl, _, hK, hb0⟩
  have K0 := Lib.hid (KeyAt.enc hK HR.out.1 HR.out.2)
  have D0 := Lib.hid (KeyAt.dcp hK HR.out.1 HR.out.2)
  have HDE : Hid (∀ x, x.length = 16 → decL ws nr (encL ws nr x) = x) := fun x hx => dec_enc ws nr x hK.1 HR.out.1 HR.out.2 hx
  have B0 := Lib.hid (Ba.out.step hb0)
  have Z0 := Lib.hid (Z0.out.ext hb0)
  clear hK hb0 Ba HKS
  generalize encL ws nr = E at K0 HDE
  generalize decL ws nr = D at D0 HDE
  have H0 := Lib.hid (H.out.below B0.out)
  have HUN : Hid (unchL D iv (chainL E iv PL mm) mm = PL) := unch_chain E D iv PL mm (by rw [HPL.out, hm22]) HN.out K0.out.1 HDE.out
  go_wp2_with (first
    | (refine wpList_ld rfl 23 (.tmp 21) rfl (run_loadAt_mid W0 w.heap.size 33 23 (iv.map bv) _ Z0.out.2.2.2 arr16B rfl (i16z iv HN.out)) ?_)
    | fail)
  refine (SE.out _ E W0 K0.out H0.out).mono ?_
  rintro e w1 ⟨v1, rfl, hO1, hb1⟩
  obtain ⟨A1, c1, rfl, hl1, hc1, hm1, hr1⟩ := own_read hO1
  have S1 : Hid (Sl w1 A1 c1 (chainL E iv PL mm)) := ⟨by omega, hm1, hr1⟩
  have L1 := Lib.hid hl1
  have Z1 := Lib.hid (Z0.out.ext hb1)
  have B1 := Lib.hid (B0.out.step hb1)
  have D1 := Lib.hid (D0.out.ext hb1)
  have H1 := Lib.hid (H0.out.extk hb1)
  generalize chainL E iv PL mm = CL at S1 L1 HUN
  clear hO1 hc1 hm1 hr1 hl1 hb1 SE K0 HDE B0 Z0 D0 H0
  go_wp2_with (first
    | (refine wpList_ld rfl 23 (.tmp 27) rfl (run_loadAt_mid w1 w.heap.size 33 23 (iv.map bv) _ Z1.out.2.2.2 arr16B rfl (i16z iv HN.out)) ?_)
    | fail)
  refine (open_any _ D iv A1 m2 c1 mm CL w1 HN.out D1.out L1.out hm22.symm (by omega) S1.out).mono ?_
  rintro e w2 ⟨v2, x2, rfl, hO2, hb2⟩
  have HOP : openO D iv CL = some n := by
    unfold openO
    rw [L1.out, if_neg (by omega), ← hm22, Nat.mul_div_cancel_left mm (by omega), HUN.out]
    exact HUP.out
  unfold OpenC at hO2
  rw [HOP, L1.out, ← hm22, Nat.mul_div_cancel_left mm (by omega), HUN.out] at hO2
  obtain ⟨rfl, _, hO2⟩ := hO2
  rw [HTK.out] at hO2
  obtain ⟨A2, c2, rfl, hl2, hc2, hm2, hr2⟩ := own_read hO2
  have S2 : Sl w2 A2 c2 b := ⟨by omega, hm2, hr2⟩
  have B2 := Lib.hid (B1.out.step hb2)
  have H2 := H1.out.extk hb2
  have cs1 := conv_string w2 A2 n c2 b hl2 S2
  have cs2 := conv_string w2 A n c b hl2 H2
  have hst : ((strOf b).toList == (strOf b).toList) = true := beq_self_eq_true _
  have hqq : ((m2 : Int) == (m2 : Int)) = true := beq_self_eq_true _
  clear hO2 hb2 HOP HUN HUP hr2 hm2 S2 H2 B1 Z1 D1 H1 S1
  go_wp2_with fail
  refine (awake9_any w2).mono ?_
  rintro e w3 ⟨rfl, hb3⟩
  go_wp2
  go_ret
  exact ⟨rfl, B2.out.step hb3⟩
set_option maxHeartbeats 2000000 in
theorem cbcShort_walk (w : World) (y : List UInt8 × Bool × List UInt8) (l : y.1.length = 32 ∧ y.2.2.length = 16) (A : Option Addr) (c : Nat) (b : List UInt8) (h : Sl w A c b) :
    Calls Try.prog 8 #[.agg (kCells y.1 y.2.1 y.2.2).toArray, .slice A b.length c] w fun e w' => e = .returned (.bool true) ∧ Below w.heap.size w w' := by
  obtain ⟨k, lg, iv⟩ := y
  obtain ⟨hk, hn⟩ := l
  simp only at hk hn ⊢
  have q1 : b.length ≤ 9223372036854775807 := by have := h.1; have := h.2.1; simp [maxLen] at this; omega
  have HN := Lib.hid hn; have H := Lib.hid h
  obtain ⟨n, hm⟩ : ∃ n, b.length = n := ⟨_, rfl⟩
  have HM := Lib.hid hm
  have hmc : n ≤ c := by rw [← hm]; exact h.1
  rw [hm] at q1 ⊢
  have HKS := Lib.hid (fun W => keys9_any k lg iv W hk hn)
  have HZL := Lib.hid (kCells_len k iv lg hk hn)
  have Z0 := Lib.hid (kz_new w k iv lg 25 hk hn)
  have HR : Hid (1 ≤ keyW lg + 6 ∧ keyW lg + 6 ≤ 14) := by show _ ∧ _; cases lg <;> simp [keyW]
  clear hk hn h
  generalize kCells k lg iv = Z at HKS HZL Z0 ⊢
  generalize keyW lg + 6 = nr at HKS HR
  generalize expandL (keyB k lg) = ws at HKS
  by_cases hb : 300 < n
  · go_enter Try.func8, Try.ntmps8
    go_wp2
    go_ret
    exact ⟨rfl, (Below.refl _ _).alloc (Nat.le_refl _) _⟩
  have hbb : n ≤ 300 := by omega
  clear hb q1 hm
  have HOD := Lib.hid (fun P D W (h16 : n % 16 ≠ 0) => open_odd P D iv A n c b W HM.out (by omega) h16)
  go_enter Try.func8, Try.ntmps8
  go_wp2_with (first
    | (refine wpList_ld rfl 25 (.tmp 2) rfl (load_arr Try.underlying25 rfl (by rw [HZL.out]; exact iKey9) (heap_alloc_new' w _)) ?_)
    | fail)
  generalize hV : w.alloc _ = Wa at Z0 ⊢
  have Ba := Lib.hid (below_of_alloc hV (Nat.le_refl w.heap.size))
  clear hV
  refine (HKS.out Wa).mono ?_
  rintro e W0 ⟨gk, rfl, _, hK, hb0⟩
  have K0 := Lib.hid (KeyAt.enc hK HR.out.1 HR.out.2)
  have D0 := Lib.hid (KeyAt.dcp hK HR.out.1 HR.out.2)
  have HDE : Hid (∀ x, x.length = 16 → decL ws nr (encL ws nr x) = x) := fun x hx => dec_enc ws nr x hK.1 HR.out.1 HR.out.2 hx
  have B0 := Lib.hid (Ba.out.step hb0)
  have Z0 := Lib.hid (Z0.out.ext hb0)
  clear hK hb0 Ba HKS
  generalize encL ws nr = E at K0 HDE
  generalize decL ws nr = D at D0 HDE
  have H0 := Lib.hid (H.out.below B0.out)
  have HOX : Hid (∀ W, Below W0.heap.size W0 W → Sl W A c b → Calls Try.prog 15 #[.pointer (some ⟨gk, 0, none⟩), .agg (iv.map bv).toArray, .slice A n c] W fun e w' => ∃ v x, e = .returned (.tuple #[v, .int .i64 x]) ∧ OpenC W D iv b v x w' ∧ Below W.heap.size W w') := fun W hW hS => by
    by_cases h16 : n % 16 = 0
    · exact open_any _ D iv A n c (n / 16) b W HN.out (D0.out.ext hW) HM.out (by omega) (by omega) hS
    · exact HOD.out _ D W h16
  clear HOD
  go_wp2_with (first
    | (refine wpList_ld rfl 23 (.tmp 21) rfl (run_loadAt_mid W0 w.heap.size 33 23 (iv.map bv) _ Z0.out.2.2.2 arr16B rfl (i16z iv HN.out)) ?_)
    | fail)
  refine (HOX.out W0 (Below.refl _ _) H0.out).mono ?_
  rintro e w2 ⟨v2, x2, rfl, hO2, hb2⟩
  have B2 := Lib.hid (B0.out.step hb2)
  have AW := Lib.hid (awake9_any w2)
  have HLC : Hid (openO D iv b = none ∨ ∃ k, openO D iv b = some k ∧ n ≤ k + 16) := by
    show _ ∨ _
    cases ho : openO D iv b with
    | none => exact .inl rfl
    | some k =>
      refine .inr ⟨k, rfl, ?_⟩
      unfold openO at ho
      split at ho
      · cases ho
      · rename_i h16
        have hul : (unchL D iv b (b.length / 16)).length = n := by
          have h1 := unB_up D iv b (b.length / 16)
          have h2 := (unB_len D iv HN.out D0.out.1 (b.length / 16) _ (blkUp_len b _)).2
          rw [h1] at h2
          rw [h2, HM.out]
          rw [HM.out] at h16
          omega
        exact upO_ge hul ho
  have hne : Hid (n % 16 ≠ 0 ∨ n = 0 → openO D iv b = none) := fun h => by
    unfold openO
    rw [HM.out]
    by_cases h16 : n % 16 = 0
    · rw [if_neg (by omega)]
      have h0 : n = 0 := by omega
      have hb0 : b = [] := List.length_eq_zero_iff.1 (HM.out.trans h0)
      have hz : unchL D iv b (n / 16) = [] := by rw [h0]; rfl
      rw [hz]; rfl
    · rw [if_pos h16]
  clear hb2 HOX D0 B0 Z0 H0 K0 HDE
  unfold OpenC at hO2
  rcases HLC.out with ho | ⟨k, ho, hk16⟩
  · rw [ho] at hO2
    obtain ⟨rfl, rfl⟩ := hO2
    by_cases h0 : n = 0
    · have e0 : ((n : Int) == 0) = true := by simp [h0]
      clear hne HLC ho
      go_wp2_with fail
      refine AW.out.mono ?_
      rintro e w3 ⟨rfl, hb3⟩
      go_wp2
      go_ret
      exact ⟨rfl, B2.out.step hb3⟩
    · have e0 : ((n : Int) == 0) = false := by simp; omega
      have et : (n : Int).tmod 16 = ((n % 16 : Nat) : Int) := by rw [Int.tmod_eq_emod_of_nonneg (by omega)]; omega
      have em : (n : Int) % 16 = ((n % 16 : Nat) : Int) := by omega
      obtain ⟨r, hr⟩ : ∃ r, n % 16 = r := ⟨_, rfl⟩
      rw [hr] at et em
      by_cases hr0 : r = 0
      · have e1 : ((r : Int) != 0) = false := by simp [hr0]
        have e1' : ((r : Int) == 0) = true := by simp [hr0]
        clear hne HLC ho hr
        go_wp2_with fail
        refine AW.out.mono ?_
        rintro e w3 ⟨rfl, hb3⟩
        go_wp2
        go_ret
        exact ⟨rfl, B2.out.step hb3⟩
      · have e1 : ((r : Int) != 0) = true := by simp; omega
        have e1' : ((r : Int) == 0) = false := by simp; omega
        clear hne HLC ho hr
        go_wp2_with fail
        refine AW.out.mono ?_
        rintro e w3 ⟨rfl, hb3⟩
        go_wp2
        go_ret
        exact ⟨rfl, B2.out.step hb3⟩
  · have hn16 : n % 16 = 0 ∧ n ≠ 0 := by
      refine ⟨?_, ?_⟩
      · by_cases h : n % 16 = 0
        · exact h
        · rw [hne.out (.inl h)] at ho; cases ho
      · intro h
        rw [hne.out (.inr h)] at ho; cases ho
    rw [ho] at hO2
    obtain ⟨rfl, hkn, hO2⟩ := hO2
    rw [HM.out] at hkn
    obtain ⟨A2, c2, rfl, _⟩ := own_read hO2
    have e0 : ((n : Int) == 0) = false := by simp; omega
    have et : (n : Int).tmod 16 = 0 := by rw [Int.tmod_eq_emod_of_nonneg (by omega)]; omega
    have em : (n : Int) % 16 = 0 := by omega
    have u1 : (k : Int) < (n : Int) := by omega
    have u2 : (n : Int) - 16 ≤ (k : Int) := by omega
    clear hne HLC ho hO2 hn16
    go_wp2_with fail
    refine AW.out.mono ?_
    rintro e w3 ⟨rfl, hb3⟩
    go_wp2
    go_ret
    exact ⟨rfl, B2.out.step hb3⟩
end Go.Proofs.Ytpihnggegmbgfaa

/- Own rows of bytes, opened, and turned at one place. -/
namespace Go.Proofs.Ytpihnggegmbgfaa
open Go.RowKit
set_option maxRecDepth 100000
set_option linter.unusedVariables false
set_option linter.unusedSimpArgs false
theorem o_sl_set {w : World} {g c k : Nat} {bs : List UInt8} {cur : Array Value} {t : TypeId} {fr : Nat × Nat} {x : UInt8} (h : Sl w (some ⟨g, 0, none⟩) c bs) (hc : w.heap[g]? = some (.cells cur t fr)) (hk : k < bs.length) :
    Sl (w.setCell ⟨g, k, none⟩ (.int .u8 (x.toNat : Int))) (some ⟨g, 0, none⟩) c (bs.set k x) := by
  obtain ⟨h1, h2, h3⟩ := h
  obtain ⟨b, o, he, hb, hcell⟩ := h3.at_ (by simpa using (by omega : 0 < bs.length))
  injection he with he
  injection he with he1 he2
  subst he1; subst he2
  refine ⟨by simpa using h1, h2, .inr ⟨g, 0, rfl, by simpa using hb, fun j u hu => ?_⟩⟩
  rw [List.getElem?_map, List.getElem?_set] at hu
  by_cases hj : k = j
  · subst hj
    simp [hk] at hu
    have hck := hcell k (bv bs[k]) (by simp [hk])
    rw [Nat.zero_add] at hck ⊢
    have hsz : k < cur.size := by
      simp only [World.cell?, hc] at hck
      rcases Nat.lt_or_ge k cur.size with h | h
      · exact h
      · simp [Array.getElem?_eq_none h] at hck
    simp [World.cell?, World.setCell, Array.getElem?_modify, hc, hsz, ← hu, bv]
  · rw [if_neg hj, ← List.getElem?_map] at hu
    rw [World.cell?_setCell_other _ _ _ _ (fun e => hj (by injection e with e1 e2; omega))]
    exact hcell j u hu
theorem o_open {w : World} {base : Nat} {v : Value} {n : Nat} {bs : List UInt8} (h : w.ownsRow base 5 1 v n (bs.map bv)) (hn : 0 < n) :
    ∃ g cap cur, v = .slice (some ⟨g, 0, none⟩) n cap ∧ base ≤ g ∧ w.heap[g]? = some (.cells cur 5 (0, 0)) ∧ Sl w (some ⟨g, 0, none⟩) cap bs ∧ bs.length = n := by
  obtain ⟨h0, ⟨rfl, h00⟩ | ⟨g, cap, cur, rfl, hg, hcur, hnc, hcm, hcs, htk⟩⟩ := h
  · omega
  rw [Nat.mul_one] at htk
  rw [List.length_map, Nat.mul_one] at h0
  refine ⟨g, cap, cur, rfl, hg, hcur, ⟨by omega, hcm, .inr ⟨g, 0, rfl, lt_of_heap hcur, fun j u hu => ?_⟩⟩, h0⟩
  have hj : j < n := by have h1 := (List.getElem?_eq_some_iff.1 hu).1; rw [List.length_map] at h1; omega
  rw [← htk, List.getElem?_take_of_lt hj] at hu
  rw [Nat.zero_add]
  simpa [World.cell?, hcur] using hu
theorem o_sl_cell {w : World} {g c k : Nat} {b : List UInt8} (h : Sl w (some ⟨g, 0, none⟩) c b) (hk : k < b.length) : w.cell? ⟨g, k, none⟩ = some (.int .u8 ((b.getD k 0).toNat : Int)) := by
  obtain ⟨b1, o1, he, _, hc⟩ := h.2.2.at_ (by rw [List.length_map]; omega)
  injection he with he
  injection he with he1 he2
  subst he1; subst he2
  have := hc k (bv b[k]) (by simp [hk])
  rw [Nat.zero_add] at this
  rw [this]; simp [List.getD, hk, bv]
theorem o_load_slice {P : Program} {ty e : TypeId} (hu : P.underlying ty = some (.slice e)) {W : World} {a : Addr} {v : Value} (h : W.cell? a = some v) :
    (Instr.loadAt ty (.pointer (some a))).run P W = .ok v W := by
  simp [Instr.loadAt, Instr.sureAddr, loadVar, isAgg, run_underlying hu, h]
theorem o_open' {w : World} {base : Nat} {v : Value} {n : Nat} {bs : List UInt8} (h : w.ownsRow base 5 1 v n (bs.map bv)) (hn : 0 < n) :
    ∃ g cap cur, v = .slice (some ⟨g, 0, none⟩) n cap ∧ base ≤ g ∧ w.heap[g]? = some (.cells cur 5 (0, 0)) ∧ Sl w (some ⟨g, 0, none⟩) cap bs ∧ n ≤ cap ∧ cur.size = cap ∧ bs.length = n := by
  obtain ⟨h0, ⟨rfl, h00⟩ | ⟨g, cap, cur, rfl, hg, hcur, hnc, hcm, hcs, htk⟩⟩ := h
  · omega
  rw [Nat.mul_one] at htk
  rw [List.length_map, Nat.mul_one] at h0
  refine ⟨g, cap, cur, rfl, hg, hcur, ⟨by omega, hcm, .inr ⟨g, 0, rfl, lt_of_heap hcur, fun j u hu => ?_⟩⟩, hnc, by simpa using hcs, h0⟩
  have hj : j < n := by have h1 := (List.getElem?_eq_some_iff.1 hu).1; rw [List.length_map] at h1; omega
  rw [← htk, List.getElem?_take_of_lt hj] at hu
  rw [Nat.zero_add]
  simpa [World.cell?, hcur] using hu
end Go.Proofs.Ytpihnggegmbgfaa

/- Laws of layer 9: a text of fewer bytes than a block. -/
namespace Go.Proofs.Ytpihnggegmbgfaa
open Go.RowKit
set_option maxRecDepth 100000
set_option linter.unusedVariables false
set_option linter.unusedSimpArgs false
def upTo (l : List UInt8) (i : Nat) : List UInt8 := l.take i ++ List.replicate (16 - i) 0
theorem upTo_step (l : List UInt8) (i : Nat) (hl : l.length = 16) (hi : i < 16) : (upTo l i).set i (l.getD i 0) = upTo l (i + 1) := by
  unfold upTo
  have hlt : i < l.length := by omega
  have h1 : (l.take i).length = i := by rw [List.length_take]; omega
  rw [List.set_append_right _ _ (by omega), h1, Nat.sub_self, show 16 - i = (16 - (i + 1)) + 1 by omega, List.replicate_succ, List.set_cons_zero]
  rw [List.take_succ_eq_append_getElem hlt, List.append_assoc]
  congr 1
  simp [List.getD, hlt]
theorem upTo_len (l : List UInt8) (i : Nat) (hl : l.length = 16) (hi : i ≤ 16) : (upTo l i).length = 16 := by
  unfold upTo
  rw [List.length_append, List.length_take, List.length_replicate]
  omega
theorem xor_getD (a b : List UInt8) (i : Nat) (ha : a.length = 16) (hb : b.length = 16) (hi : i < 16) : (xorL a b).getD i 0 = a.getD i 0 ^^^ b.getD i 0 := by
  have h1 : i < a.length := by omega
  have h2 : i < b.length := by omega
  simp [xorL, List.getD, List.getElem?_zipWith, h1, h2]
set_option maxHeartbeats 2000000 in
theorem cbcOne_walk (w : World) (y : List UInt8 × Bool × List UInt8) (l : y.1.length = 32 ∧ y.2.2.length = 16) (A : Option Addr) (c : Nat) (b : List UInt8) (h : Sl w A c b) :
    Calls Try.prog 9 #[.agg (kCells y.1 y.2.1 y.2.2).toArray, .slice A b.length c] w fun e w' => e = .returned (.bool true) ∧ Below w.heap.size w w' := by
  obtain ⟨k, lg, iv⟩ := y
  obtain ⟨hk, hn⟩ := l
  simp only at hk hn ⊢
  have q1 : b.length ≤ 9223372036854775807 := by have := h.1; have := h.2.1; simp [maxLen] at this; omega
  have HN := Lib.hid hn; have H := Lib.hid h
  obtain ⟨n, hm⟩ : ∃ n, b.length = n := ⟨_, rfl⟩
  have HM := Lib.hid hm
  have hmc : n ≤ c := by rw [← hm]; exact h.1
  rw [hm] at q1 ⊢
  have HKS := Lib.hid (fun W => keys9_any k lg iv W hk hn)
  have HZL := Lib.hid (kCells_len k iv lg hk hn)
  have Z0 := Lib.hid (kz_new w k iv lg 25 hk hn)
  have HR : Hid (1 ≤ keyW lg + 6 ∧ keyW lg + 6 ≤ 14) := by show _ ∧ _; cases lg <;> simp [keyW]
  clear hk hn h
  generalize kCells k lg iv = Z at HKS HZL Z0 ⊢
  generalize keyW lg + 6 = nr at HKS HR
  generalize expandL (keyB k lg) = ws at HKS
  by_cases hb : 15 < n
  · go_enter Try.func9, Try.ntmps9
    go_wp2
    go_ret
    exact ⟨rfl, (Below.refl _ _).alloc (Nat.le_refl _) _⟩
  have hbb : n ≤ 15 := by omega
  clear hb q1 hm
  have hn16 : n + padK9 n = 16 := by unfold padK9; omega
  have HPB := Lib.hid (padB_len n)
  have SE := Lib.hid (fun P E W (hE : Enc W (.pointer P) E) (hS : Sl W A c b) => seal_any P E iv A n c b W HN.out hE HM.out (by omega) hS)
  have HC1 : Hid (∀ E : List UInt8 → List UInt8, chainL E iv (b ++ padB n) 1 = E (xorL (b ++ padB n) iv)) := fun E => by
    have h1 : (blkAt (b ++ padB n) 0).1 = b ++ padB n := by
      rw [blkAt_drop _ _ (by rw [List.length_append, HM.out, HPB.out]; omega)]
      exact List.take_of_length_le (by rw [List.drop_zero, List.length_append, HM.out, HPB.out]; omega)
    show [] ++ E (xorL (blkAt (b ++ padB n) 0).1 iv) = _
    rw [h1, List.nil_append]
  rw [hn16, show 16 / 16 = 1 from rfl] at SE
  have SE : Hid (∀ P E W, Enc W (.pointer P) E → Sl W A c b → Calls Try.prog 11 #[.pointer P, .agg (iv.map bv).toArray, .slice A n c] W fun e w' => ∃ v, e = .returned v ∧ w'.ownsRow W.heap.size 5 1 v 16 ((E (xorL (b ++ padB n) iv)).map bv) ∧ Below W.heap.size W w') := fun P E W h1 h2 => by
    have := SE.out P E W h1 h2
    rw [HC1.out E] at this
    exact this
  have QA := Lib.hid (fun W => cpad_any n W (by omega))
  have HPL : Hid ((b ++ padB n).length = 16) := by show _ = _; rw [List.length_append, HM.out, HPB.out]; exact hn16
  generalize padB n = PadA at HPB HC1 SE QA HPL
  generalize padK9 n = kA at HPB QA hn16
  obtain ⟨PL, hPL⟩ : ∃ l, b ++ PadA = l := ⟨_, rfl⟩
  rw [hPL] at SE HPL
  have EPL := Lib.hid hPL
  have E16 := Lib.hid hn16
  have h31 : n + kA ≤ 2147483647 := by omega
  have h30 : 0 + n ≤ 2147483647 := by omega
  have hz : ∀ W, (zeroValue 23).run Try.prog W = .ok (.agg zeros16.toArray) W := fun W => by kernel_rfl
  clear HC1 hPL hn16
  go_enter Try.func9, Try.ntmps9
  go_wp2_with (first
    | (refine wpList_ld rfl 25 (.tmp 2) rfl (load_arr Try.underlying25 rfl (by rw [HZL.out]; exact iKey9) (heap_alloc_new' w _)) ?_)
    | fail)
  generalize hV : w.alloc _ = Wa at Z0 ⊢
  have Ba := Lib.hid (below_of_alloc hV (Nat.le_refl w.heap.size))
  clear hV
  refine (HKS.out Wa).mono ?_
  rintro e W0 ⟨gk, rfl, _, hK, hb0⟩
  have K0 := Lib.hid (KeyAt.enc hK HR.out.1 HR.out.2)
  have D0 := Lib.hid (KeyAt.dcp hK HR.out.1 HR.out.2)
  have HDE : Hid (∀ x, x.length = 16 → decL ws nr (encL ws nr x) = x) := fun x hx => dec_enc ws nr x hK.1 HR.out.1 HR.out.2 hx
  have B0 := Lib.hid (Ba.out.step hb0)
  have Z0 := Lib.hid (Z0.out.ext hb0)
  clear hK hb0 Ba HKS
  generalize encL ws nr = E at K0 HDE
  generalize decL ws nr = D at D0 HDE
  have H0 := Lib.hid (H.out.below B0.out)
  clear D0
  have HE16 := Lib.hid K0.out.1
  go_wp2_with (
    at_builtin
    refine wpList_app8 rfl (.tmp 21) (.tmp 22) rfl W0.heap.size _ 0 [] rfl ?_ A n c W0.heap.size b rfl ?_ ?_ ?_ ?_ ?_
    · exact own_heap (g := W0.heap.size) (heap_alloc_new' W0 _) (Nat.le_refl _) rfl (Nat.zero_le _)
    · exact H0.out.2.2.below ((Below.refl _ _).alloc (Nat.le_refl _) _)
    · exact HM.out
    · exact h30
    · simp
    rintro v3 w3 hown hgr
    have hB3 := Lib.hid (((Below.refl W0.heap.size W0).alloc (Nat.le_refl _) _).grown hgr (by simp) (ge_own W0.heap.size 0))
    rw [List.nil_append, Nat.zero_add] at hown
    obtain ⟨A3, c3, rfl, _⟩ := own_read hown
    have O3 := Lib.hid hown
    clear hgr hown)
  refine (QA.out w3).mono ?_
  rintro e w4 ⟨g4, hg4, rfl, hS4, hb4⟩
  have O4 := Lib.hid (c_own_below O3.out hb4)
  have B4 := Lib.hid (hB3.out.step hb4)
  have P4 := Lib.hid hS4
  clear hb4 hS4 O3 hB3 hg4
  have hB4s := Lib.hid B4.out.size
  go_wp2_with (first
    | (at_builtin
       refine wpList_app8 rfl (.tmp 23) (.tmp 26) rfl W0.heap.size _ n b rfl O4.out (some ⟨g4, 0, none⟩) kA kA w4.heap.size PadA rfl P4.out.2.2 HPB.out h31 hB4s.out ?_
       rintro v5 w5 hown hgr
       rw [EPL.out, E16.out] at hown
       have B5 := Lib.hid (B4.out.grown hgr B4.out.size (c_own_ge O4.out (Nat.le_refl _)))
       obtain ⟨g5, cap5, cur5, rfl, _, _, hS5, _⟩ := o_open hown (by omega)
       have S5 := Lib.hid hS5
       clear hown hgr hS5)
    | fail)
  have B5w : Hid (Below w.heap.size w w5) := B0.out.step B5.out
  have Z5 := Lib.hid (Z0.out.ext B5.out)
  have K5 := Lib.hid (K0.out.ext B5.out)
  have H5 := Lib.hid (H0.out.extk B5.out)
  have AW := Lib.hid (fun W => awake9_any W)
  have HXL : Hid ((xorL PL iv).length = 16) := by show _ = _; rw [xorL_len, HPL.out, HN.out]; rfl
  have HEN : Hid (∀ W, Below w5.heap.size w5 W → Calls Try.prog 21 #[.pointer (some ⟨gk, 0, none⟩), .agg ((xorL PL iv).map bv).toArray] W fun e w' => e = .returned (.agg ((E (xorL PL iv)).map bv).toArray) ∧ Below W.heap.size W w') := fun W hW => K5.out.2 W hW _ HXL.out
  have HEL : Hid ((E (xorL PL iv)).length = 16) := HE16.out _ HXL.out
  have SE := Lib.hid (fun W h1 h2 => SE.out (some ⟨gk, 0, none⟩) E W h1 h2)
  have HXG : Hid (∀ i, i < 16 → (xorL PL iv).getD i 0 = PL.getD i 0 ^^^ iv.getD i 0) := fun i hi => xor_getD PL iv i HPL.out HN.out hi
  generalize E (xorL PL iv) = EX at HEN HEL SE
  generalize xorL PL iv = XP at HXL HEN HXG
  have BX : Hid (Below w5.heap.size w5 (w5.alloc (.cells zeros16.toArray 23))) := (Below.refl _ _).alloc (Nat.le_refl _) _
  have G0 : Hid ((w5.alloc (.cells zeros16.toArray 23)).heap[w5.heap.size]? = some (.cells ((upTo XP 0).map bv).toArray 23 (0, 0))) := heap_alloc_new' w5 _
  clear B5 B0 Z0 K0 H0 O4 P4 B4 hB4s EPL E16 HPB HM H QA
  generalize w5.alloc _ = W6 at BX G0 ⊢
  obtain ⟨gX, hgX⟩ : ∃ g, w5.heap.size = g := ⟨_, rfl⟩
  rw [hgX] at G0 ⊢
  have HGX := Lib.hid hgX
  clear hgX
  go_loopw [9] (fun vi wr => ∃ (i : Nat), i ≤ 16 ∧ vi = .int .i64 (i : Int) ∧ Hid (Below w5.heap.size w5 wr) ∧ Hid (wr.heap[gX]? = some (.cells ((upTo XP i).map bv).toArray 23 (0, 0)))) (fun v _ => 16 - (intOf v).toNat)
  case atStart => exact ⟨0, by omega, rfl, BX, G0⟩
  case round =>
    clear BX G0
    obtain ⟨i, hi, rfl, HB, HG⟩ := hrel
    by_cases hlt : i < 16
    · have e1 : (i : Int) < 16 := by omega
      have c0 : wr.cell? ⟨g5, i, none⟩ = some (.int .u8 ((PL.getD i 0).toNat : Int)) := o_sl_cell (S5.out.extk HB.out) (by rw [HPL.out]; exact hlt)
      have c1 : wr.cell? ⟨w.heap.size, 33 + i, none⟩ = some (.int .u8 ((iv.getD i 0).toNat : Int)) := by
        have := (Z5.out.ext HB.out).2.2.2 i (bv (iv.getD i 0)) (by rw [List.getElem?_map]; simp [List.getD, HN.out, hlt])
        exact this
      have fz := frozen_of_heap HG.out i
      have c2 : wr.cell? ⟨gX, i, none⟩ = some (.int .u8 (((upTo XP i).getD i 0).toNat : Int)) := by
        rw [cell_of_heap HG.out, List.getElem?_map]
        simp [List.getD, upTo_len XP i HXL.out hi, hlt, bv]
      generalize (upTo XP i).getD i 0 = x0 at c2
      have HST := Lib.hid (upTo_step XP i HXL.out hlt)
      rw [HXG.out i hlt] at HST
      generalize PL.getD i 0 = x at c0 HST
      generalize iv.getD i 0 = y at c1 HST
      have hx := xor8 x y
      generalize x ^^^ y = z at hx HST
      go_wp2_with fail
      go_still_tail 11, (by kernel_rfl)
      change wpList _ _ _ _ _ wr.drew
      go_wp2
      go_roundw
      case rel =>
        refine ⟨i + 1, by omega, by go_num, ?_, ?_⟩
        · exact HB.out.drew.setCell (by rw [HGX.out]; exact Nat.le_refl _) _
        · have := heap_set (w := wr.drew) HG.out i (bv z)
          rw [← List.map_set, HST.out] at this
          exact this
      case measure => simp [intOf]; omega
    · have hi16 : i = 16 := by omega
      have e1 : ¬ ((i : Int) < 16) := by omega
      have HGF : Hid (wr.heap[gX]? = some (.cells (XP.map bv).toArray 23 (0, 0))) := by
        have := HG.out
        rw [hi16, upTo, List.take_of_length_le (by rw [HXL.out]; omega), Nat.sub_self, List.replicate_zero, List.append_nil] at this
        exact this
      clear HG hi16 HXG
      go_wp2_with (first
        | (refine wpList_ld rfl 23 (.tmp 8) rfl (load_arr arr16B rfl (i16z XP HXL.out) HGF.out) ?_)
        | fail)
      refine (HEN.out wr HB.out).mono ?_
      rintro e w7 ⟨rfl, hb7⟩
      have B7 := Lib.hid (HB.out.step hb7)
      clear hb7 HGF HEN
      go_wp2_with (first
        | (refine wpList_st rfl 23 (.tmp 10) (.tmp 48) rfl (store_arr (cs := EX.map bv) (i16z EX HEL.out) (bv_one _) (heap_alloc_new' w7 _) (by rw [List.length_map, HEL.out]; rfl)) ?_
           generalize hV : World.setRow _ _ _ = W8
           have F8 := Lib.hid (heap_of_setRow hV (heap_alloc_new' w7 _))
           have B8 : Hid (Below w5.heap.size w5 W8) := B7.out.step (((Below.refl _ w7).alloc (Nat.le_refl _) _).trans (below_of_setRow hV (Nat.le_refl _) (by simp)))
           clear hV)
        | fail)
      have Z8 := Lib.hid (Z5.out.ext B8.out)
      have K8 := Lib.hid (K5.out.ext B8.out)
      have H8 := Lib.hid (H5.out.extk B8.out)
      have BW : Hid (Below w.heap.size w W8) := B5w.out.step B8.out
      have sl1 := arr_all arr16B s8 ⟨w7.heap.size, 0, none⟩
      have SX : Hid (Sl W8 (some ⟨w7.heap.size, 0, none⟩) 16 EX) := sl_row HEL.out (by omega) F8.out
      have hst : ((strOf EX).toList == (strOf EX).toList) = true := beq_self_eq_true _
      clear Z5 K5 H5 B7 B8 F8 S5
      have HX : Hid (Ext W8 W8.drew) := (Below.refl _ _).drew
      refine reg_start (by kernel_rfl) ?_
      try simp only [Act.put, List.setIfInBounds_toArray, List.set_cons_zero, List.set_cons_succ]
      refine reg_take (v := ?_) 0 (some 49) rfl rfl (by kernel_rfl) (by kernel_rfl) (by kernel_rfl) (fun _ _ _ h => h) (by rfl) (fun W hW => ?_) ?_
      rotate_left
      · (go_simp; try rfl)
      simp only [Act.put, List.setIfInBounds_toArray, List.set_cons_zero, List.set_cons_succ]
      refine reg_take (v := ?_) 1 (some 50) rfl rfl (by kernel_rfl) (by kernel_rfl) (by kernel_rfl) (fun _ _ _ h => h) (by rfl) (fun W hW => ?_) ?_
      rotate_left
      · (go_simp; try rfl)
      simp only [Act.put, List.setIfInBounds_toArray, List.set_cons_zero, List.set_cons_succ]
      refine reg_load 2 (some 51) (fun W hW => run_loadAt_mid W w.heap.size 33 23 (iv.map bv) _ (Z8.out.ext (HX.out.trans hW)).2.2.2 arr16B rfl (i16z iv HN.out)) rfl rfl rfl rfl (by kernel_rfl) (by kernel_rfl) (by kernel_rfl) (fun _ _ _ h => h) (by rfl) ?_
      simp only [Act.put, List.setIfInBounds_toArray, List.set_cons_zero, List.set_cons_succ]
      refine reg_take (v := ?_) 3 (some 52) rfl rfl (by kernel_rfl) (by kernel_rfl) (by kernel_rfl) (fun _ _ _ h => h) (by rfl) (fun W hW => ?_) ?_
      rotate_left
      · (go_simp; try rfl)
      simp only [Act.put, List.setIfInBounds_toArray, List.set_cons_zero, List.set_cons_succ]
      refine reg_take (v := ?_) 6 (some 55) rfl rfl (by kernel_rfl) (by kernel_rfl) (by kernel_rfl) (fun _ _ _ h => h) (by rfl) (fun W hW => ?_) ?_
      rotate_left
      · (go_simp; try rfl)
      simp only [Act.put, List.setIfInBounds_toArray, List.set_cons_zero, List.set_cons_succ]
      refine reg_conv 7 (some 56) (fun W hW => conv_string W (some ⟨w7.heap.size, 0, none⟩) 16 16 EX HEL.out (SX.out.extk (HX.out.trans hW))) rfl rfl rfl rfl (by kernel_rfl) (by kernel_rfl) (by kernel_rfl) (fun _ _ _ h => h) (by rfl) ?_
      simp only [Act.put, List.setIfInBounds_toArray, List.set_cons_zero, List.set_cons_succ]
      refine reg_eff 4 rfl (by kernel_rfl) (fun K hK => ?_)
      go_simp
      refine (SE.out _ (K8.out.ext HX.out) (H8.out.extk HX.out)).mono ?_
      rintro e w9 ⟨v9, rfl, hO9, hE⟩
      obtain ⟨A9, c9, rfl, hl9, hc9, hm9, hr9⟩ := own_read hO9
      have S9 : Hid (Sl w9 A9 c9 EX) := ⟨by omega, hm9, hr9⟩
      clear hO9 hl9 hc9 hm9 hr9
      refine hK.out _ _ hE ?_
      have HX := Lib.hid (Ext.trans HX.out hE)
      clear hE hK K
      try simp only [Act.put, List.setIfInBounds_toArray, List.set_cons_zero, List.set_cons_succ]
      refine reg_conv 5 (some 54) (fun W hW => conv_string W A9 16 c9 EX HEL.out (S9.out.extk hW)) rfl rfl rfl rfl (by kernel_rfl) (by kernel_rfl) (by kernel_rfl) (fun _ _ _ h => h) (by rfl) ?_
      simp only [Act.put, List.setIfInBounds_toArray, List.set_cons_zero, List.set_cons_succ]
      refine reg_take (v := ?_) 8 (some 57) rfl rfl (by kernel_rfl) (by kernel_rfl) (by kernel_rfl) (fun _ _ _ h => h) (by rfl) (fun W hW => ?_) ?_
      rotate_left
      · (go_simp; try rfl)
      simp only [Act.put, List.setIfInBounds_toArray, List.set_cons_zero, List.set_cons_succ]
      refine reg_take (v := ?_) 9 (some 58) rfl rfl (by kernel_rfl) (by kernel_rfl) (by kernel_rfl) (fun _ _ _ h => h) (by rfl) (fun W hW => ?_) ?_
      rotate_left
      · (go_simp; try rfl)
      simp only [Act.put, List.setIfInBounds_toArray, List.set_cons_zero, List.set_cons_succ]
      refine reg_eff 10 rfl (by kernel_rfl) (fun K hK => ?_)
      go_simp
      refine (AW.out _).mono ?_
      rintro e w10 ⟨rfl, hE⟩
      refine hK.out _ _ hE ?_
      have HX := Lib.hid (Ext.trans HX.out hE)
      clear hE hK K
      try simp only [Act.put, List.setIfInBounds_toArray, List.set_cons_zero, List.set_cons_succ]
      refine reg_take (v := ?_) 11 (some 60) rfl rfl (by kernel_rfl) (by kernel_rfl) (by kernel_rfl) (fun _ _ _ h => h) (by rfl) (fun W hW => ?_) ?_
      rotate_left
      · (go_simp; try rfl)
      simp only [Act.put, List.setIfInBounds_toArray, List.set_cons_zero, List.set_cons_succ]
      refine reg_take (v := ?_) 12 (some 4) rfl rfl (by kernel_rfl) (by kernel_rfl) (by kernel_rfl) (fun _ _ _ h => h) (by rfl) (fun W hW => ?_) ?_
      rotate_left
      · (go_simp; try rfl)
      simp only [Act.put, List.setIfInBounds_toArray, List.set_cons_zero, List.set_cons_succ]
      refine reg_done (by kernel_rfl) ?_
      go_wp2
      go_ret
      exact ⟨rfl, BW.out.step HX.out⟩
end Go.Proofs.Ytpihnggegmbgfaa

/- A key, whether it is long, and an IV, that come in (layer 9). -/
namespace Go.Proofs.Ytpihnggegmbgfaa
open Go.RowKit Go.ChangeShapes Go.WideShapes Go.ChangeAt
set_option maxRecDepth 100000
set_option linter.unusedVariables false
set_option linter.unusedSimpArgs false
theorem k9_of_cells {H : Type} {enc : TypeId × Value → H} {W : World} {b0 : Nat} {sp : Nat → Bool} {held : Bool} {cs : List Value} {fuel : Nat} {x : DataW H × List MemPlace}
    (hf : DataW.trod enc Try.prog W b0 sp held fuel 25 cs = some x) : ∃ k b n, cs = kCells k b n ∧ k.length = 32 ∧ n.length = 16 := by
  obtain ⟨y0, y1, y2, m, _, hl, h0, h1, h2⟩ := Go.Deep.trod_struct3 Try.underlying25 hf
  have hc : Try.prog.cellsOf 25 = 49 := by kernel_rfl
  have c0 : Try.prog.cellsOf 22 = 32 := by kernel_rfl
  have c1 : Try.prog.cellsOf 4 = 1 := by kernel_rfl
  have c2 : Try.prog.cellsOf 23 = 16 := by kernel_rfl
  rw [hc] at hl
  rw [c0] at h0
  rw [c1] at h1
  rw [c2] at h2
  obtain ⟨z0, e0, hz0, w0⟩ := cells_ints Try.underlying22 Try.underlying5 (by kernel_rfl) c0 h0
  obtain ⟨b, e1, _⟩ := DataW.trod_bool Try.underlying4 h1
  obtain ⟨z2, e2, hz2, w2⟩ := cells_ints Try.underlying23 Try.underlying5 (by kernel_rfl) c2 h2
  obtain ⟨k, rfl⟩ := bytes_of w0
  obtain ⟨n, rfl⟩ := bytes_of w2
  refine ⟨k, b, n, ?_, by simpa using hz0, by simpa using hz2⟩
  have hs := split49 cs hl
  simp only [List.drop_zero] at e0
  rw [e0, e1, e2] at hs
  rw [hs]
  simp [kCells, Function.comp_def]
  rfl
theorem open_palfreylaw09_Key {H : Type} {enc : TypeId × Value → H} {W : World} {base b0 : Nat} {sp : Nat → Bool} {held : Bool} {v : Value} {d : DataW H} {p : List MemPlace}
    (hv : Value.okWide Try.prog W .any base 25 v) (h : DataW.Trod enc Try.prog W b0 sp held 25 v d p) :
    ∃ y : List UInt8 × Bool × List UInt8, v = .agg (kCells y.1 y.2.1 y.2.2).toArray ∧ y.1.length = 32 ∧ y.2.2.length = 16 := by
  obtain ⟨cs, rfl, hsz⟩ := okWide_struct Try.underlying25 hv
  obtain ⟨fuel, hf⟩ := h
  simp only [Value.cells] at hf
  obtain ⟨k, b, n, e, hk, hn⟩ := k9_of_cells hf
  refine ⟨(k, b, n), ?_, hk, hn⟩
  congr 1
  apply Array.ext'
  rw [e]
end Go.Proofs.Ytpihnggegmbgfaa
