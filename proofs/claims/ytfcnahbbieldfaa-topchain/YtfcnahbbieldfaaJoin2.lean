/- Joined: TopC LawsY4. -/
import Derived.Test.YtfcnahbbieldfaaJoin1
import Derived.Test.YtfcnahbbieldfaaChn1
import Derived.Test.YtfcnahbbieldfaaCbc6
/- Bytes copied onto noughts, one by one (the laws through the layers). -/
namespace Go.Proofs.Ytfcnahbbieldfaa
open Go.RowKit
set_option maxRecDepth 100000
set_option linter.unusedVariables false
set_option linter.unusedSimpArgs false
/-- the first i of N bytes, copied onto noughts -/
def copyT (src : List UInt8) (N i : Nat) : List UInt8 := src.take i ++ List.replicate (N - i) 0
theorem copyT_len (src : List UInt8) (N i : Nat) (h : i ≤ src.length) (hi : i ≤ N) : (copyT src N i).length = N := by simp [copyT]; omega
theorem copyT_step (src : List UInt8) (N i : Nat) (hi : i < N) (h : i < src.length) : ((copyT src N i).map bv).set i (.int .u8 ((src.getD i 0).toNat : Int)) = (copyT src N (i + 1)).map bv := by
  have e : copyT src N i = src.take i ++ (0 :: List.replicate (N - (i + 1)) 0) := by
    rw [copyT, show N - i = (N - (i + 1)) + 1 by omega, List.replicate_succ]
  have hl : ((src.take i).map bv).length = i := by simp; omega
  rw [e, List.map_append, List.set_append_right _ _ (by omega), hl, Nat.sub_self, copyT, List.take_succ_eq_append_getElem h]
  simp only [List.map_append, List.map_cons, List.map_nil, List.set_cons_zero, List.append_assoc, List.singleton_append]
  simp only [List.getD, List.getElem?_eq_getElem h, Option.getD_some, bv]
theorem copyT_end (src : List UInt8) (N : Nat) : copyT src N N = src.take N := by simp [copyT]
theorem getT_map_bv {l : List UInt8} {i : Nat} (h : i < l.length) : (l.map bv)[i]? = some (.int .u8 ((l.getD i 0).toNat : Int)) := by
  simp [List.getD, h, bv]
theorem kz_set {W : World} {g q o : Nat} {k n : List UInt8} {b : Bool} {v : Value} (h : KZ W g k b n) (hq : g < q) : KZ (W.setCell ⟨q, o, none⟩ v) g k b n := by
  have hc : ∀ j, (W.setCell ⟨q, o, none⟩ v).cell? ⟨g, j, none⟩ = W.cell? ⟨g, j, none⟩ := fun j => World.cell?_setCell_other _ _ _ _ (fun e => by injection e with e1; omega)
  exact ⟨by simpa using h.1, fun j u hu => (hc _).trans (h.2.1 j u hu), (hc _).trans h.2.2.1, fun j u hu => (hc _).trans (h.2.2.2 j u hu)⟩
end Go.Proofs.Ytfcnahbbieldfaa

/- Laws through the layers: chained mode is each block and the one ahead, enciphered. -/
namespace Go.Proofs.Ytfcnahbbieldfaa
open Go.RowKit
set_option maxRecDepth 100000
set_option linter.unusedVariables false
set_option linter.unusedSimpArgs false
theorem y4_take {w : World} {A : Option Addr} {c q : Nat} {b : List UInt8} (h : Sl w A c b) : Sl w A c (b.take q) := by
  have := h.2.2.take q
  rw [← List.map_take] at this
  exact ⟨by have := h.1; rw [List.length_take]; omega, h.2.1, this⟩
theorem i16y (l : List UInt8) (h : l.length = 16) : (Try.prog.info? 23).map (·.size) = some (l.map bv).length := i16z l h
set_option maxHeartbeats 8000000 in
theorem topChain_walk (w : World) (y : List UInt8 × Bool × List UInt8) (l : y.1.length = 32 ∧ y.2.2.length = 16) (A : Option Addr) (c : Nat) (a : List UInt8) (ha : Sl w A c a) (A' : Option Addr) (c' : Nat) (b : List UInt8) (h : Sl w A' c' b) :
    Calls Try.prog 4 #[.agg (kCells y.1 y.2.1 y.2.2).toArray, .slice A a.length c, .slice A' b.length c'] w fun e w' => e = .returned (.bool true) ∧ Below w.heap.size w w' := by
  obtain ⟨k, lg, iv⟩ := y
  obtain ⟨lk, ln⟩ := l
  simp only at lk ln ⊢
  have q1 : a.length ≤ 9223372036854775807 := by have := ha.1; have := ha.2.1; simp [maxLen] at this; omega
  have q2 : b.length ≤ 9223372036854775807 := by have := h.1; have := h.2.1; simp [maxLen] at this; omega
  have HA := Lib.hid ha; have H := Lib.hid h
  obtain ⟨na, hma⟩ : ∃ n, a.length = n := ⟨_, rfl⟩
  obtain ⟨nb, hmb⟩ : ∃ n, b.length = n := ⟨_, rfl⟩
  have HMA := Lib.hid hma; have HMB := Lib.hid hmb
  rw [hma] at q1 ⊢
  rw [hmb] at q2 ⊢
  have N0 := Lib.hid (heap_alloc_new' w (.cells (kCells k lg iv).toArray 25))
  have B0 : Hid (Below w.heap.size w (w.alloc (.cells (kCells k lg iv).toArray 25))) := (Below.refl _ _).alloc (Nat.le_refl _) _
  have HLD := Lib.hid (ld_keyT N0.out lk ln)
  have Z0 := Lib.hid (kz_new w k iv lg 25 lk ln)
  have HBY := Lib.hid (fun W => tbytes_any k lg iv W lk ln)
  have HKL := Lib.hid (keyB_len k lg lk)
  have HW : Hid (keyW lg = 4 ∨ keyW lg = 8) := by show _ ∨ _; cases lg <;> simp [keyW]
  have HLN := Lib.hid ln
  obtain ⟨ZC, HZ⟩ : ∃ ZC, Hid ((kCells k lg iv).toArray = ZC) := ⟨_, rfl⟩
  rw [HZ.out] at N0 B0 HLD Z0 HBY ⊢
  clear HZ h ha lk ln hma hmb
  by_cases hb : 96 < na
  · have e1 : (96 : Int) < (na : Int) := by omega
    go_enter Try.func4, Try.ntmps4
    go_wp2
    go_ret
    exact ⟨rfl, B0.out⟩
  have e1 : ¬ ((96 : Int) < (na : Int)) := by omega
  have hna : na ≤ 96 := by omega
  clear hb
  obtain ⟨r, hr⟩ : ∃ r, r = na % 16 := ⟨_, rfl⟩
  have f3 : (na : Int) % 16 = (r : Int) := by omega
  have f4 : (na : Int).tmod 16 = (r : Int) := by rw [Int.tmod_eq_emod_of_nonneg (by omega)]; exact f3
  have HRR := Lib.hid hr
  clear hr
  by_cases hb : r ≠ 0
  · have f6 : ((r : Int) != 0) = true := by simp; omega
    go_enter Try.func4, Try.ntmps4
    go_wp2
    go_ret
    exact ⟨rfl, B0.out⟩
  have f6 : ((r : Int) != 0) = false := by simp; omega
  have h16 : Hid (na % 16 = 0) := by have := HRR.out; show _ = _; omega
  clear hb
  by_cases hb : na = 0
  · have f7 : ((na : Int) == 0) = true := by simp; omega
    go_enter Try.func4, Try.ntmps4
    go_wp2
    go_ret
    exact ⟨rfl, B0.out⟩
  have f7 : ((na : Int) == 0) = false := by simp; omega
  have hn0 : Hid (na ≠ 0) := hb
  clear hb
  by_cases hb : 100 < nb
  · have f8 : (100 : Int) < (nb : Int) := by omega
    go_enter Try.func4, Try.ntmps4
    go_wp2
    go_ret
    exact ⟨rfl, B0.out⟩
  have f8 : ¬ ((100 : Int) < (nb : Int)) := by omega
  have hnb : nb ≤ 100 := by omega
  clear hb
  generalize keyB k lg = KB at HBY HKL
  generalize keyW lg = nk at HBY HKL HW
  go_enter Try.func4, Try.ntmps4
  go_upto_region 1 with (fail)
  generalize w.alloc _ = W0 at N0 B0 HLD Z0 ⊢
  go_wp2_with (first
    | (refine wpList_ld rfl 25 (.tmp 3) rfl HLD.out ?_)
    | fail)
  clear e1 f3 f4 f6 f7 f8
  refine (HBY.out W0).mono ?_
  rintro e w1 ⟨rfl, hS1, hb1⟩
  have S1 := Lib.hid hS1
  have B1 : Hid (Below w.heap.size w w1) := B0.out.step hb1
  have Z1 := Lib.hid (Z0.out.ext hb1)
  clear hS1 hb1 B0 N0 HLD Z0 HBY
  go_wp2_with fail
  refine (expand_any (some ⟨W0.heap.size, 0, none⟩) (4 * nk) 32 nk KB w1 HKL.out rfl HW.out S1.out).mono ?_
  rintro e w2 ⟨p, rfl, hg, hK, hb2'⟩
  obtain ⟨E, HEE⟩ : ∃ E, Hid (E = encL (expandL KB) (nk + 6)) := ⟨_, rfl⟩
  have K2 := Lib.hid (KeyAt.enc hK (by omega) (by rcases HW.out with h | h <;> omega))
  rw [← HEE.out] at K2
  have B2 : Hid (Below w.heap.size w w2) := B1.out.step hb2'
  have Z2 := Lib.hid (Z1.out.ext hb2')
  clear hg hK hb2' B1 Z1 S1 HEE
  have HE16 := Lib.hid K2.out.1
  -- what is sealed
  obtain ⟨na16, hn16⟩ : ∃ j, na = j + 16 := ⟨na - 16, by have := h16.out; have := hn0.out; omega⟩
  obtain ⟨m, hm⟩ : ∃ m, na = 16 * m := ⟨na / 16, by have := h16.out; omega⟩
  have hkb := padK9_le nb
  obtain ⟨q, hq⟩ : ∃ q, nb + padK9 nb = 16 * q := ⟨nb / 16 + 1, by unfold padK9; omega⟩
  obtain ⟨nq, hnq⟩ : ∃ nq, nb + padK9 nb = nq := ⟨_, rfl⟩
  have hpa : padK9 na = 16 := by have := h16.out; unfold padK9; omega
  have hpb : padK9 (na + nb) = padK9 nb := by have := h16.out; unfold padK9; omega
  have hAL : a.length = 16 * m := by rw [HMA.out, hm]
  have hABL : (a ++ b).length = na + nb := by rw [List.length_append, HMA.out, HMB.out]
  have SX := Lib.hid (fun W hE hS => seal_any (some ⟨p, 0, none⟩) E iv A na c a W HLN.out hE HMA.out (by omega) hS)
  rw [hpa, show (na + 16) / 16 = m + 1 by omega, chain_app E iv a (padB na) m 1 hAL] at SX
  have SY := Lib.hid (fun W A8 c8 hE hS => seal_any (some ⟨p, 0, none⟩) E iv A8 (na + nb) c8 (a ++ b) W HLN.out hE hABL (by omega) hS)
  rw [hpb, pad_add na nb h16.out, List.append_assoc a b (padB nb), show (na + nb + padK9 nb) / 16 = m + q by omega, show na + nb + padK9 nb = na + nq by omega, chain_app E iv a (b ++ padB nb) m q hAL] at SY
  have HLL : Hid ((cN E iv a m).length = 16) := cN_len E iv a HLN.out HE16.out m
  have SZ := Lib.hid (fun W hE hS => seal_any (some ⟨p, 0, none⟩) E (cN E iv a m) A' nb c' b W HLL.out hE HMB.out (by omega) hS)
  rw [show (nb + padK9 nb) / 16 = q by omega, hnq] at SZ
  have HCL : Hid ((chainL E iv a m).length = na) := by show _ = _; rw [chain_len E iv a m HLN.out HE16.out, hm]
  have HRL : Hid ((chainL E (cN E iv a m) (padB na) 1).length = 16) := chain_len E _ _ 1 HLL.out HE16.out
  have HTL : Hid ((chainL E (cN E iv a m) (b ++ padB nb) q).length = nq) := by show _ = _; rw [chain_len E _ _ q HLL.out HE16.out]; omega
  have HCD : Hid ((chainL E iv a m).drop na16 = cN E iv a m) := by
    have := chain_last E iv a m HLN.out HE16.out (by omega)
    rwa [show 16 * m - 16 = na16 by omega] at this
  generalize chainL E (cN E iv a m) (padB na) 1 = R at SX HRL
  generalize chainL E (cN E iv a m) (b ++ padB nb) q = T at SY SZ HTL
  generalize cN E iv a m = L at SZ HLL HCD
  generalize chainL E iv a m = C at SX SY HCL HCD
  have hnq1 : 16 ≤ nq := by omega
  have hnq2 : nq ≤ 116 := by omega
  have HM1 := Lib.hid hn16
  have hnaL : na16 + 16 ≤ 96 := by omega
  clear hm hkb hq hnq hpa hpb hAL hn16 hABL
  go_wp2_with (first
    | (refine wpList_ld rfl 23 (.tmp 41) rfl (run_loadAt_mid w2 w.heap.size 33 23 (iv.map bv) _ Z2.out.2.2.2 arr16B rfl (i16z iv HLN.out)) ?_)
    | fail)
  refine (SX.out w2 K2.out (HA.out.below B2.out)).mono ?_
  rintro e w3 ⟨v3, rfl, hO, hb1⟩
  obtain ⟨A3, c3, rfl, hl3, h31, h32, hr3⟩ := own_read hO
  have S3 := Lib.hid (sl_mk hl3 h31 h32 hr3)
  have B3 : Hid (Below w.heap.size w w3) := B2.out.step hb1
  have K3 := Lib.hid (K2.out.ext hb1)
  have Z3 := Lib.hid (Z2.out.ext hb1)
  have C3 := Lib.hid h31
  clear hl3 h31 h32 hr3 hO hb1 B2 SX K2 Z2
  go_wp2_with fail
  have w31 : 0 + na ≤ 2147483647 := by omega
  have w32 : na + nb ≤ 2147483647 := by omega
  have HX : Hid (Below w3.heap.size w3 w3.drew) := (Below.refl _ _).drew
  have HS0 : Hid (w3.heap.size ≤ w3.drew.heap.size) := Nat.le_refl _
  refine regB_start (w3.heap.size) (by kernel_rfl) ?_
  try simp only [Act.put, List.setIfInBounds_toArray, List.set_cons_zero, List.set_cons_succ]
  generalize w3.drew = WD at HX HS0 ⊢
  refine regB_take (v := ?_) 0 (some 45) rfl rfl (by kernel_rfl) (by kernel_rfl) (by kernel_rfl) (fun _ _ _ h => h) (by rfl) (fun W hW => ?_) ?_
  rotate_left
  · (go_simp; try rfl)
  simp only [Act.put, List.setIfInBounds_toArray, List.set_cons_zero, List.set_cons_succ]
  refine regB_take (v := ?_) 1 (some 46) rfl rfl (by kernel_rfl) (by kernel_rfl) (by kernel_rfl) (fun _ _ _ h => h) (by rfl) (fun W hW => ?_) ?_
  rotate_left
  · (go_simp; try rfl)
  simp only [Act.put, List.setIfInBounds_toArray, List.set_cons_zero, List.set_cons_succ]
  refine regB_load 2 (some 47) (fun W hW => run_loadAt_mid W w.heap.size 33 23 (iv.map bv) _ (Z3.out.ext (HX.out.trans hW)).2.2.2 arr16B rfl (i16z iv HLN.out)) rfl rfl rfl rfl (by kernel_rfl) (by kernel_rfl) (by kernel_rfl) (fun _ _ _ h => h) (by rfl) ?_
  simp only [Act.put, List.setIfInBounds_toArray, List.set_cons_zero, List.set_cons_succ]
  refine regB_take (v := ?_) 4 (some 49) rfl rfl (by kernel_rfl) (by kernel_rfl) (by kernel_rfl) (fun _ _ _ h => h) (by rfl) (fun W hW => ?_) ?_
  rotate_left
  · (go_simp; try rfl)
  simp only [Act.put, List.setIfInBounds_toArray, List.set_cons_zero, List.set_cons_succ]
  refine regB_take (v := ?_) 6 (some 51) rfl rfl (by kernel_rfl) (by kernel_rfl) (by kernel_rfl) (fun _ _ _ h => h) (by rfl) (fun W hW => ?_) ?_
  rotate_left
  · (go_simp; try rfl)
  simp only [Act.put, List.setIfInBounds_toArray, List.set_cons_zero, List.set_cons_succ]
  refine regB_eff 3 rfl (by kernel_rfl) (fun K hK => ?_)
  go_simp
  have OW1 := Lib.hid (own_heap (base := w3.heap.size) (bs := []) (n := 0) (heap_alloc_new' WD (.cells #[] 5)) HS0.out rfl (Nat.zero_le _))
  have hE : Below w3.heap.size WD (WD.alloc (.cells #[] 5)) := (Below.refl _ WD).alloc HS0.out _
  have HS1 : Hid (w3.heap.size ≤ (WD.alloc (.cells #[] 5)).heap.size) := Nat.le_trans HS0.out hE.size
  generalize WD.heap.size = q1 at OW1 ⊢
  generalize WD.alloc (.cells #[] 5) = W1 at hE OW1 HS1 hK ⊢
  refine hK.out _ _ hE ?_
  have HX := Lib.hid (Below.trans HX.out hE)
  clear hE hK K
  try simp only [Act.put, List.setIfInBounds_toArray, List.set_cons_zero, List.set_cons_succ]
  refine regB_eff 5 rfl (by kernel_rfl) (fun K hK => ?_)
  refine step_app8 rfl (.tmp 48) (.tmp 49) rfl w3.heap.size _ 0 [] rfl ?_ A na c W1.heap.size a rfl ?_ ?_ ?_ ?_ ?_
  · exact OW1.out
  · exact (HA.out.below (B3.out.trans (HX.out.mono B3.out.size))).2.2
  · exact HMA.out
  · exact w31
  · exact HS1.out
  rintro v7 W2 hown hgr
  rw [List.nil_append, Nat.zero_add] at hown
  have OW2 := Lib.hid hown
  have hE : Below w3.heap.size W1 W2 := (Below.refl _ _).grown hgr HS1.out (c_own_ge OW1.out (Nat.le_refl _))
  have HS2 : Hid (w3.heap.size ≤ W2.heap.size) := Nat.le_trans HS1.out hE.size
  clear hown hgr
  refine hK.out _ _ hE ?_
  have HX := Lib.hid (Below.trans HX.out hE)
  clear hE hK K
  try simp only [Act.put, List.setIfInBounds_toArray, List.set_cons_zero, List.set_cons_succ]
  refine regB_eff 7 rfl (by kernel_rfl) (fun K hK => ?_)
  refine step_app8 rfl (.tmp 50) (.tmp 51) rfl w3.heap.size _ na a rfl ?_ A' nb c' W2.heap.size b rfl ?_ ?_ ?_ ?_ ?_
  · exact OW2.out
  · exact (H.out.below (B3.out.trans (HX.out.mono B3.out.size))).2.2
  · exact HMB.out
  · exact w32
  · exact HS2.out
  rintro v8 W3 hown hgr
  have hE : Below w3.heap.size W2 W3 := (Below.refl _ _).grown hgr HS2.out (c_own_ge OW2.out (Nat.le_refl _))
  have HS3 : Hid (w3.heap.size ≤ W3.heap.size) := Nat.le_trans HS2.out hE.size
  obtain ⟨A8, c8, rfl, hl8, h81, h82, hr8⟩ := own_read hown
  have S8 := Lib.hid (sl_mk hl8 h81 h82 hr8)
  clear hown hgr hl8 h81 h82 hr8
  refine hK.out _ _ hE ?_
  have HX := Lib.hid (Below.trans HX.out hE)
  clear hE hK K
  try simp only [Act.put, List.setIfInBounds_toArray, List.set_cons_zero, List.set_cons_succ]
  refine regB_eff 8 rfl (by kernel_rfl) (fun K hK => ?_)
  go_simp
  refine (SY.out _ A8 c8 (K3.out.ext HX.out) S8.out).mono ?_
  rintro e W4 ⟨v4, rfl, hO4, hE'⟩
  have hE : Below w3.heap.size W3 W4 := hE'.mono HS3.out
  obtain ⟨g4, c4, cur4, rfl, hg4, hcur4, hS4, hcp4, hcs4, _⟩ := o_open' hO4 (by omega)
  have S4 := Lib.hid hS4
  have C4 := Lib.hid hcp4
  have HG4 := Lib.hid (lt_of_heap hcur4)
  clear hO4 hE' hg4 hcur4 hS4 hcp4 hcs4
  refine hK.out _ _ hE ?_
  have HX := Lib.hid (Below.trans HX.out hE)
  clear hE hK K
  try simp only [Act.put, List.setIfInBounds_toArray, List.set_cons_zero, List.set_cons_succ]
  refine regB_take (v := ?_) 9 (some 10) rfl rfl (by kernel_rfl) (by kernel_rfl) (by kernel_rfl) (fun _ _ _ h => h) (by rfl) (fun W hW => ?_) ?_
  rotate_left
  · (go_simp; try rfl)
  simp only [Act.put, List.setIfInBounds_toArray, List.set_cons_zero, List.set_cons_succ]
  refine regB_done (by kernel_rfl) ?_
  have B4 : Hid (Below w.heap.size w W4) := B3.out.trans (HX.out.mono B3.out.size)
  have K4 := Lib.hid (K3.out.ext HX.out)
  have P3 := Lib.hid (y4_take (q := na) (S3.out.below HX.out))
  have P4 := Lib.hid (y4_take (q := na) S4.out)
  have P5 := Lib.hid (sl_cut (k := na) S4.out (by rw [List.length_append, HCL.out]; omega))
  rw [List.take_left' HCL.out] at P3 P4
  rw [List.drop_left' HCL.out] at P5
  have hc3 : na ≤ c3 := by have := C3.out; omega
  have hc4 : na ≤ c4 := by have := C4.out; omega
  clear HX K3 B3 S3 C3 SY Z3
  have sl1 := cut_to uT s8 A3 (na + 16) c3 .i64 (na : Int) (by omega) (by omega)
  have sl2 := cut_to uT s8 (some ⟨g4, 0, none⟩) (na + nq) c4 .i64 (na : Int) (by omega) (by omega)
  rw [Int.toNat_natCast] at sl1 sl2
  have t1 : ¬ ((na : Int) + (nq : Int) < (na : Int) + 16) := by omega
  have t2 : ((strOf C).toList != (strOf C).toList) = false := by simp
  have hwr0 : Hid (IntKind.i64.wrap ((na : Int) + 16) = (na : Int) + 16) := by show _ = _; rw [IntKind.wrap_i64]; omega
  have hz16 : ∀ W, (zeroValue 23).run Try.prog W = .ok (.agg ((copyT L 16 0).map bv).toArray) W := fun W => by
    have : copyT L 16 0 = List.replicate 16 0 := by simp [copyT]
    rw [this]; rfl
  have t1' : decide ((nq : Int) < 16) = false := decide_eq_false (by omega)
  go_wp2_with fail
  have HX : Hid (Ext W4 W4.drew) := (Below.refl _ _).drew
  have hwr := hwr0.out
  refine reg_start (by kernel_rfl) ?_
  try simp only [Act.put, List.setIfInBounds_toArray, List.set_cons_zero, List.set_cons_succ]
  refine reg_take (v := ?_) 0 (some 54) rfl rfl (by kernel_rfl) (by kernel_rfl) (by kernel_rfl) (fun _ _ _ h => h) (by rfl) (fun W hW => ?_) ?_
  rotate_left
  · (go_simp; try rfl)
  simp only [Act.put, List.setIfInBounds_toArray, List.set_cons_zero, List.set_cons_succ]
  refine reg_take (v := ?_) 1 (some 55) rfl rfl (by kernel_rfl) (by kernel_rfl) (by kernel_rfl) (fun _ _ _ h => h) (by rfl) (fun W hW => ?_) ?_
  rotate_left
  · (go_simp; try rfl)
  simp only [Act.put, List.setIfInBounds_toArray, List.set_cons_zero, List.set_cons_succ]
  refine reg_take (v := ?_) 2 (some 56) rfl rfl (by kernel_rfl) (by kernel_rfl) (by kernel_rfl) (fun _ _ _ h => h) (by rfl) (fun W hW => ?_) ?_
  rotate_left
  · (go_simp; try rfl)
  simp only [Act.put, List.setIfInBounds_toArray, List.set_cons_zero, List.set_cons_succ]
  refine reg_take (v := ?_) 3 (some 57) rfl rfl (by kernel_rfl) (by kernel_rfl) (by kernel_rfl) (fun _ _ _ h => h) (by rfl) (fun W hW => ?_) ?_
  rotate_left
  · (go_simp; try rfl)
  simp only [Act.put, List.setIfInBounds_toArray, List.set_cons_zero, List.set_cons_succ]
  refine reg_take (v := ?_) 4 (some 58) rfl rfl (by kernel_rfl) (by kernel_rfl) (by kernel_rfl) (fun _ _ _ h => h) (by rfl) (fun W hW => ?_) ?_
  rotate_left
  · (go_simp; try rfl)
  simp only [Act.put, List.setIfInBounds_toArray, List.set_cons_zero, List.set_cons_succ]
  refine reg_take (v := ?_) 5 (some 59) rfl rfl (by kernel_rfl) (by kernel_rfl) (by kernel_rfl) (fun _ _ _ h => h) (by rfl) (fun W hW => ?_) ?_
  rotate_left
  · (go_simp; try rfl)
  simp only [Act.put, List.setIfInBounds_toArray, List.set_cons_zero, List.set_cons_succ]
  refine reg_take (v := ?_) 6 (some 60) rfl rfl (by kernel_rfl) (by kernel_rfl) (by kernel_rfl) (fun _ _ _ h => h) (by rfl) (fun W hW => ?_) ?_
  rotate_left
  · (go_simp; try rfl)
  simp only [Act.put, List.setIfInBounds_toArray, List.set_cons_zero, List.set_cons_succ]
  refine reg_take (v := ?_) 7 (some 61) rfl rfl (by kernel_rfl) (by kernel_rfl) (by kernel_rfl) (fun _ _ _ h => h) (by rfl) (fun W hW => ?_) ?_
  rotate_left
  · (go_simp; try rfl)
  simp only [Act.put, List.setIfInBounds_toArray, List.set_cons_zero, List.set_cons_succ]
  refine reg_take (v := ?_) 8 (some 62) rfl rfl (by kernel_rfl) (by kernel_rfl) (by kernel_rfl) (fun _ _ _ h => h) (by rfl) (fun W hW => ?_) ?_
  rotate_left
  · (go_simp; try rfl)
  simp only [Act.put, List.setIfInBounds_toArray, List.set_cons_zero, List.set_cons_succ]
  refine reg_take (v := ?_) 9 (some 63) rfl rfl (by kernel_rfl) (by kernel_rfl) (by kernel_rfl) (fun _ _ _ h => h) (by rfl) (fun W hW => ?_) ?_
  rotate_left
  · (go_simp; try rfl)
  simp only [Act.put, List.setIfInBounds_toArray, List.set_cons_zero, List.set_cons_succ]
  refine reg_take (v := ?_) 10 (some 64) rfl rfl (by kernel_rfl) (by kernel_rfl) (by kernel_rfl) (fun _ _ _ h => h) (by rfl) (fun W hW => ?_) ?_
  rotate_left
  · (go_simp; try rfl)
  simp only [Act.put, List.setIfInBounds_toArray, List.set_cons_zero, List.set_cons_succ]
  refine reg_take (v := ?_) 11 (some 65) rfl rfl (by kernel_rfl) (by kernel_rfl) (by kernel_rfl) (fun _ _ _ h => h) (by rfl) (fun W hW => ?_) ?_
  rotate_left
  · (go_simp; try rfl)
  simp only [Act.put, List.setIfInBounds_toArray, List.set_cons_zero, List.set_cons_succ]
  refine reg_take (v := ?_) 12 (some 66) rfl rfl (by kernel_rfl) (by kernel_rfl) (by kernel_rfl) (fun _ _ _ h => h) (by rfl) (fun W hW => ?_) ?_
  rotate_left
  · (go_simp; try rfl)
  simp only [Act.put, List.setIfInBounds_toArray, List.set_cons_zero, List.set_cons_succ]
  refine reg_take (v := ?_) 13 (some 67) rfl rfl (by kernel_rfl) (by kernel_rfl) (by kernel_rfl) (fun _ _ _ h => h) (by rfl) (fun W hW => ?_) ?_
  rotate_left
  · (go_simp; try rfl)
  simp only [Act.put, List.setIfInBounds_toArray, List.set_cons_zero, List.set_cons_succ]
  refine reg_take (v := ?_) 14 (some 68) rfl rfl (by kernel_rfl) (by kernel_rfl) (by kernel_rfl) (fun _ _ _ h => h) (by rfl) (fun W hW => ?_) ?_
  rotate_left
  · (go_simp; try rfl)
  simp only [Act.put, List.setIfInBounds_toArray, List.set_cons_zero, List.set_cons_succ]
  refine reg_take (v := ?_) 15 (some 69) rfl rfl (by kernel_rfl) (by kernel_rfl) (by kernel_rfl) (fun _ _ _ h => h) (by rfl) (fun W hW => ?_) ?_
  rotate_left
  · (go_simp; try rfl)
  simp only [Act.put, List.setIfInBounds_toArray, List.set_cons_zero, List.set_cons_succ]
  refine reg_take (v := ?_) 16 (some 70) rfl rfl (by kernel_rfl) (by kernel_rfl) (by kernel_rfl) (fun _ _ _ h => h) (by rfl) (fun W hW => ?_) ?_
  rotate_left
  · (go_simp; try rfl)
  simp only [Act.put, List.setIfInBounds_toArray, List.set_cons_zero, List.set_cons_succ]
  refine reg_take (v := ?_) 17 (some 71) rfl rfl (by kernel_rfl) (by kernel_rfl) (by kernel_rfl) (fun _ _ _ h => h) (by rfl) (fun W hW => ?_) ?_
  rotate_left
  · (go_simp; try rfl)
  simp only [Act.put, List.setIfInBounds_toArray, List.set_cons_zero, List.set_cons_succ]
  refine reg_take (v := ?_) 18 (some 72) rfl rfl (by kernel_rfl) (by kernel_rfl) (by kernel_rfl) (fun _ _ _ h => h) (by rfl) (fun W hW => ?_) ?_
  rotate_left
  · (go_simp; try rfl)
  simp only [Act.put, List.setIfInBounds_toArray, List.set_cons_zero, List.set_cons_succ]
  refine reg_conv 19 (some 73) (fun W hW => conv_string W A3 na c3 C HCL.out (P3.out.below (HX.out.trans hW))) rfl rfl rfl rfl (by kernel_rfl) (by kernel_rfl) (by kernel_rfl) (fun _ _ _ h => h) (by rfl) ?_
  simp only [Act.put, List.setIfInBounds_toArray, List.set_cons_zero, List.set_cons_succ]
  refine reg_take (v := ?_) 20 (some 74) rfl rfl (by kernel_rfl) (by kernel_rfl) (by kernel_rfl) (fun _ _ _ h => h) (by rfl) (fun W hW => ?_) ?_
  rotate_left
  · (go_simp; try rfl)
  simp only [Act.put, List.setIfInBounds_toArray, List.set_cons_zero, List.set_cons_succ]
  refine reg_take (v := ?_) 21 (some 75) rfl rfl (by kernel_rfl) (by kernel_rfl) (by kernel_rfl) (fun _ _ _ h => h) (by rfl) (fun W hW => ?_) ?_
  rotate_left
  · (go_simp; try rfl)
  simp only [Act.put, List.setIfInBounds_toArray, List.set_cons_zero, List.set_cons_succ]
  refine reg_take (v := ?_) 22 (some 76) rfl rfl (by kernel_rfl) (by kernel_rfl) (by kernel_rfl) (fun _ _ _ h => h) (by rfl) (fun W hW => ?_) ?_
  rotate_left
  · (go_simp; try rfl)
  simp only [Act.put, List.setIfInBounds_toArray, List.set_cons_zero, List.set_cons_succ]
  refine reg_take (v := ?_) 23 (some 77) rfl rfl (by kernel_rfl) (by kernel_rfl) (by kernel_rfl) (fun _ _ _ h => h) (by rfl) (fun W hW => ?_) ?_
  rotate_left
  · (go_simp; try rfl)
  simp only [Act.put, List.setIfInBounds_toArray, List.set_cons_zero, List.set_cons_succ]
  refine reg_conv 24 (some 78) (fun W hW => conv_string W (some ⟨g4, 0, none⟩) na c4 C HCL.out (P4.out.below (HX.out.trans hW))) rfl rfl rfl rfl (by kernel_rfl) (by kernel_rfl) (by kernel_rfl) (fun _ _ _ h => h) (by rfl) ?_
  simp only [Act.put, List.setIfInBounds_toArray, List.set_cons_zero, List.set_cons_succ]
  refine reg_take (v := ?_) 25 (some 79) rfl rfl (by kernel_rfl) (by kernel_rfl) (by kernel_rfl) (fun _ _ _ h => h) (by rfl) (fun W hW => ?_) ?_
  rotate_left
  · (go_simp; try rfl)
  simp only [Act.put, List.setIfInBounds_toArray, List.set_cons_zero, List.set_cons_succ]
  refine reg_take (v := ?_) 26 (some 80) rfl rfl (by kernel_rfl) (by kernel_rfl) (by kernel_rfl) (fun _ _ _ h => h) (by rfl) (fun W hW => ?_) ?_
  rotate_left
  · (go_simp; try rfl)
  simp only [Act.put, List.setIfInBounds_toArray, List.set_cons_zero, List.set_cons_succ]
  refine reg_done (by kernel_rfl) ?_
  clear hwr sl1 sl2 t1 t2 t1'
  have EX := HX
  clear HX
  generalize W4.drew = W5 at EX ⊢
  go_upto_region 12 with (fail)
  obtain ⟨qq, HQ⟩ : ∃ q, Hid (W5.heap.size = q) := ⟨_, rfl⟩
  have M0 := Lib.hid (heap_alloc_new' W5 (.cells ((copyT L 16 0).map bv).toArray 23))
  have E0 : Hid (Ext W5 (W5.alloc (.cells ((copyT L 16 0).map bv).toArray 23))) := (Below.refl _ _).alloc (Nat.le_refl _) _
  rw [HQ.out] at M0 ⊢
  generalize W5.alloc _ = W6 at M0 E0 ⊢
  clear hz16
  have hqg : Hid (g4 < qq) := by show _ < _; rw [← HQ.out]; exact Nat.lt_of_lt_of_le HG4.out EX.out.size
  have S5 := Lib.hid (S4.out.below EX.out)
  have HGT : Hid (∀ i, i < 16 → (C ++ T).getD (na16 + i) 0 = L.getD i 0) := by
    intro i hi
    have e1 : ((C ++ T).drop na16).getD i 0 = L.getD i 0 := by
      rw [List.drop_append_of_le_length (by rw [HCL.out]; have := HM1.out; omega), HCD.out]
      simp only [List.getD_eq_getElem?_getD]
      rw [List.getElem?_append_left (by rw [HLL.out]; exact hi)]
    rw [← e1]
    simp [List.getD_eq_getElem?_getD, List.getElem?_drop]
  have HCTL : Hid ((C ++ T).length = na + nq) := by show _ = _; rw [List.length_append, HCL.out, HTL.out]
  go_loopw [12] (fun vi wr => ∃ (i : Nat), i ≤ 16 ∧ vi = .int .i64 (i : Int) ∧ Hid (Ext W5 wr) ∧ Hid (wr.heap[qq]? = some (.cells ((copyT L 16 i).map bv).toArray 23 (0, 0)))) (fun i _ => 16 - (intOf i).toNat)
  case atStart => exact ⟨0, by omega, rfl, E0, M0⟩
  case round =>
    clear E0 M0
    obtain ⟨i, hi, rfl, HE, HM0⟩ := hrel
    by_cases hlt : i < 16
    · have u1 : (i : Int) < 16 := by omega
      obtain ⟨pp, hpp⟩ : ∃ pp, pp = na16 + i := ⟨_, rfl⟩
      have e5 : (na : Int) - 16 = (na16 : Int) := by have := HM1.out; omega
      have e6 : (na16 : Int) + (i : Int) = (pp : Int) := by omega
      have hp1 : (pp : Int) < (na : Int) + (nq : Int) := by have := HM1.out; omega
      have hp2 : pp < na + nq := by omega
      have c1 := o_sl_cell (k := pp) (S5.out.below HE.out) (by rw [HCTL.out]; exact hp2)
      rw [hpp, HGT.out i hlt, ← hpp] at c1
      have c2 := cell_of_heap HM0.out i
      rw [getT_map_bv (by rw [copyT_len _ _ _ (by rw [HLL.out]; omega) (by omega)]; exact hlt)] at c2
      have fz := frozen_of_heap HM0.out i
      have HST := Lib.hid (copyT_step L 16 i hlt (by rw [HLL.out]; omega))
      have y1 : IntKind.i64.wrap (na16 : Int) = (na16 : Int) := by rw [IntKind.wrap_i64]; omega
      have y2 : IntKind.i64.wrap (pp : Int) = (pp : Int) := by rw [IntKind.wrap_i64]; omega
      generalize L.getD i 0 = x at c1 HST
      generalize (copyT L 16 i).getD i 0 = x0 at c2
      have hx8 : x.toNat < 256 := x.toNat_lt
      clear hpp hp2
      go_wp2
      go_roundw
      case rel =>
        have hm := heap_set HM0.out i (.int .u8 (x.toNat : Int))
        rw [HST.out] at hm
        exact ⟨i + 1, by omega, by go_num, HE.out.setCell (Nat.le_of_eq HQ.out) _, hm⟩
      case measure => simp [intOf]; omega
    · have u1 : ¬ ((i : Int) < 16) := by omega
      obtain rfl : i = 16 := by omega
      have HM1' := HM0
      rw [copyT_end, List.take_of_length_le (by rw [HLL.out]; omega)] at HM1'
      clear hlt hi HM0
      have B6 : Hid (Below w.heap.size w wr) := B4.out.step (EX.out.trans HE.out)
      have K6 := Lib.hid (K4.out.ext (EX.out.trans HE.out))
      have P6 := Lib.hid (P5.out.below (EX.out.trans HE.out))
      have sl3 := cut_from uT s8 (some ⟨g4, 0, none⟩) (na + nq) c4 .i64 (na : Int) (by omega) (by omega)
      rw [Int.toNat_natCast, show na + nq - na = nq by omega] at sl3
      have t3 : ((strOf T).toList == (strOf T).toList) = true := by simp
      generalize cutS (some ⟨g4, 0, none⟩) c4 na = AC at sl3 P6
      generalize c4 - na = cc at sl3 P6
      clear P5 P3 P4 S4 S5 EX HE B4 K4 HGT HCD
      go_wp2_with fail
      have HX : Hid (Ext wr wr.drew) := (Below.refl _ _).drew
      refine reg_start (by kernel_rfl) ?_
      try simp only [Act.put, List.setIfInBounds_toArray, List.set_cons_zero, List.set_cons_succ]
      refine reg_take (v := ?_) 0 (some 95) rfl rfl (by kernel_rfl) (by kernel_rfl) (by kernel_rfl) (fun _ _ _ h => h) (by rfl) (fun W hW => ?_) ?_
      rotate_left
      · (go_simp; try rfl)
      simp only [Act.put, List.setIfInBounds_toArray, List.set_cons_zero, List.set_cons_succ]
      refine reg_take (v := ?_) 1 (some 96) rfl rfl (by kernel_rfl) (by kernel_rfl) (by kernel_rfl) (fun _ _ _ h => h) (by rfl) (fun W hW => ?_) ?_
      rotate_left
      · (go_simp; try rfl)
      simp only [Act.put, List.setIfInBounds_toArray, List.set_cons_zero, List.set_cons_succ]
      refine reg_take (v := ?_) 2 (some 97) rfl rfl (by kernel_rfl) (by kernel_rfl) (by kernel_rfl) (fun _ _ _ h => h) (by rfl) (fun W hW => ?_) ?_
      rotate_left
      · (go_simp; try rfl)
      simp only [Act.put, List.setIfInBounds_toArray, List.set_cons_zero, List.set_cons_succ]
      refine reg_take (v := ?_) 3 (some 98) rfl rfl (by kernel_rfl) (by kernel_rfl) (by kernel_rfl) (fun _ _ _ h => h) (by rfl) (fun W hW => ?_) ?_
      rotate_left
      · (go_simp; try rfl)
      simp only [Act.put, List.setIfInBounds_toArray, List.set_cons_zero, List.set_cons_succ]
      refine reg_conv 4 (some 99) (fun W hW => conv_string W AC nq cc T HTL.out (P6.out.below (HX.out.trans hW))) rfl rfl rfl rfl (by kernel_rfl) (by kernel_rfl) (by kernel_rfl) (fun _ _ _ h => h) (by rfl) ?_
      simp only [Act.put, List.setIfInBounds_toArray, List.set_cons_zero, List.set_cons_succ]
      refine reg_take (v := ?_) 5 (some 100) rfl rfl (by kernel_rfl) (by kernel_rfl) (by kernel_rfl) (fun _ _ _ h => h) (by rfl) (fun W hW => ?_) ?_
      rotate_left
      · (go_simp; try rfl)
      simp only [Act.put, List.setIfInBounds_toArray, List.set_cons_zero, List.set_cons_succ]
      refine reg_load 6 (some 101) (fun W hW => load_arr arr16B rfl (i16y L HLL.out) (((HX.out.trans hW).block _ (lt_of_heap HM1'.out)).trans HM1'.out)) rfl rfl rfl rfl (by kernel_rfl) (by kernel_rfl) (by kernel_rfl) (fun _ _ _ h => h) (by rfl) ?_
      simp only [Act.put, List.setIfInBounds_toArray, List.set_cons_zero, List.set_cons_succ]
      refine reg_take (v := ?_) 7 (some 102) rfl rfl (by kernel_rfl) (by kernel_rfl) (by kernel_rfl) (fun _ _ _ h => h) (by rfl) (fun W hW => ?_) ?_
      rotate_left
      · (go_simp; try rfl)
      simp only [Act.put, List.setIfInBounds_toArray, List.set_cons_zero, List.set_cons_succ]
      refine reg_eff 8 rfl (by kernel_rfl) (fun K hK => ?_)
      go_simp
      refine (SZ.out _ (K6.out.ext HX.out) ((H.out.below B6.out).below HX.out)).mono ?_
      rintro e w7 ⟨v7, rfl, hO, hE⟩
      obtain ⟨A7, c7, rfl, hl7, h71, h72, hr7⟩ := own_read hO
      have S7 := Lib.hid (sl_mk hl7 h71 h72 hr7)
      clear hl7 h71 h72 hr7 hO
      refine hK.out _ _ hE ?_
      have HX := Lib.hid (Ext.trans HX.out hE)
      clear hE hK K
      try simp only [Act.put, List.setIfInBounds_toArray, List.set_cons_zero, List.set_cons_succ]
      refine reg_conv 9 (some 104) (fun W hW => conv_string W A7 nq c7 T HTL.out (S7.out.below hW)) rfl rfl rfl rfl (by kernel_rfl) (by kernel_rfl) (by kernel_rfl) (fun _ _ _ h => h) (by rfl) ?_
      simp only [Act.put, List.setIfInBounds_toArray, List.set_cons_zero, List.set_cons_succ]
      refine reg_take (v := ?_) 10 (some 105) rfl rfl (by kernel_rfl) (by kernel_rfl) (by kernel_rfl) (fun _ _ _ h => h) (by rfl) (fun W hW => ?_) ?_
      rotate_left
      · (go_simp; try rfl)
      simp only [Act.put, List.setIfInBounds_toArray, List.set_cons_zero, List.set_cons_succ]
      refine reg_take (v := ?_) 11 (some 106) rfl rfl (by kernel_rfl) (by kernel_rfl) (by kernel_rfl) (fun _ _ _ h => h) (by rfl) (fun W hW => ?_) ?_
      rotate_left
      · (go_simp; try rfl)
      simp only [Act.put, List.setIfInBounds_toArray, List.set_cons_zero, List.set_cons_succ]
      refine reg_eff 12 rfl (by kernel_rfl) (fun K hK => ?_)
      go_simp
      refine (tawake_any _).mono ?_
      rintro e w8 ⟨rfl, hE⟩
      have S7 := Lib.hid (S7.out.below hE)
      refine hK.out _ _ hE ?_
      have HX := Lib.hid (Ext.trans HX.out hE)
      clear hE hK K
      try simp only [Act.put, List.setIfInBounds_toArray, List.set_cons_zero, List.set_cons_succ]
      refine reg_take (v := ?_) 13 (some 108) rfl rfl (by kernel_rfl) (by kernel_rfl) (by kernel_rfl) (fun _ _ _ h => h) (by rfl) (fun W hW => ?_) ?_
      rotate_left
      · (go_simp; try rfl)
      simp only [Act.put, List.setIfInBounds_toArray, List.set_cons_zero, List.set_cons_succ]
      refine reg_take (v := ?_) 14 (some 6) rfl rfl (by kernel_rfl) (by kernel_rfl) (by kernel_rfl) (fun _ _ _ h => h) (by rfl) (fun W hW => ?_) ?_
      rotate_left
      · (go_simp; try rfl)
      simp only [Act.put, List.setIfInBounds_toArray, List.set_cons_zero, List.set_cons_succ]
      refine reg_done (by kernel_rfl) ?_
      have B8 : Hid (Below w.heap.size w w8) := B6.out.step HX.out
      go_wp2
      go_ret
      exact ⟨rfl, B8.out⟩
end Go.Proofs.Ytfcnahbbieldfaa
