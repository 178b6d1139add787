/- Joined: Gcm2 Gcm3 Gcm4 Gcm5 Gcm6 Alg16 Alg17 Alg11 LiftZ LiftZ2 Door LawsB2. -/
import Derived.Test.YtimgggpojbpfkaaGreatDoorJoin3
import Derived.Test.YtimgggpojbpfkaaGreatDoorJoin1
import Derived.Test.YtimgggpojbpfkaaGreatDoorJoin2
import Derived.Lib.SmallJoins
import Derived.Test.YtimgggpojbpfkaaGreatDoorRows
import Derived.Test.YtimgggpojbpfkaaGreatDoorSha2
import Derived.LaidMore
import Derived.OpenShut
import Derived.ProofKit
/- gcm: counter, and crypt. -/
namespace Go.Proofs.YtimgggpojbpfkaaGreatDoor
open Go.RowKit
set_option maxRecDepth 100000
set_option linter.unusedVariables false
set_option linter.unusedSimpArgs false
/-- the first counter and n more -/
def cntG (F : List UInt8) (n : Nat) : List UInt8 := F.take 12 ++ putBig (big (F.drop 12) + n) 4
theorem cntG_len (F : List UInt8) (n : Nat) (h : F.length = 16) : (cntG F n).length = 16 := by simp [cntG, putBig_len, h]
theorem cntG_splice (F : List UInt8) (n : Nat) (h : F.length = 16) : splice (F.map bv) 12 ((putBig (big (F.drop 12) + n) 4).map bv) = (cntG F n).map bv := by
  have h1 : F = F.take 12 ++ F.drop 12 := (List.take_append_drop 12 F).symm
  have h2 : (F.take 12).length = 12 := by rw [List.length_take, h]; rfl
  have h3 : (F.drop 12).length = 4 := by rw [List.length_drop, h]
  unfold cntG
  generalize big (F.drop 12) + n = x
  generalize F.take 12 = A at h1 h2 ⊢
  generalize F.drop 12 = D at h1 h3
  rw [h1, List.map_append, List.map_append]
  have := splice_split (A.map bv) (D.map bv) [] ((putBig x 4).map bv) (by simp [h3, putBig_len])
  rw [List.length_map, h2, List.append_nil, List.append_nil] at this
  exact this
theorem bigF_lt (D : List UInt8) (h : D.length = 4) : big D < 4294967296 := by
  unfold big
  rw [h, show 4 - 8 = 0 from rfl, List.drop_zero]
  have := bigN_lt D
  rw [h] at this
  simpa using this
set_option maxHeartbeats 2000000 in
theorem gcounter_any (F : List UInt8) (n : Nat) (w : World) (hF : F.length = 16) (hn : n ≤ 1000000) :
    Calls Tryz.prog 73 #[.agg (F.map bv).toArray, .int .i64 (n : Int)] w fun e w' => e = .returned (.agg ((cntG F n).map bv).toArray) ∧ Below w.heap.size w w' := by
  have hz : ∀ W, (zeroValue 64).run Tryz.prog W = .ok (.agg zeros16.toArray) W := fun W => by kernel_rfl
  have HZL : Hid (zeros16.length = 16) := rfl
  generalize zeros16 = Z at hz HZL
  have HFL := Lib.hid hF
  have D4 : Hid ((F.drop 12).length = 4) := by show _ = _; rw [List.length_drop, hF]
  have BG := Lib.hid (fun A c W h1 h2 hr => big_n A 4 c (F.drop 12) W D4.out h1 h2 hr)
  have hx := bigF_lt (F.drop 12) D4.out
  have PB := Lib.hid (fun W => putBig_any (big (F.drop 12) + n) 4 W (by omega) (by omega))
  have HSP := Lib.hid (cntG_splice F n hF)
  have HCL := Lib.hid (cntG_len F n hF)
  have HPL := Lib.hid (putBig_len (big (F.drop 12) + n) 4)
  generalize cntG F n = R at HSP HCL ⊢
  generalize putBig (big (F.drop 12) + n) 4 = T at PB HSP HPL
  obtain ⟨x, hx0⟩ : ∃ x, big (F.drop 12) = x := ⟨_, rfl⟩
  rw [hx0] at BG hx PB
  obtain ⟨y, hy⟩ : ∃ y, y = x + n := ⟨_, rfl⟩
  rw [← hy] at PB
  have u1 : (x : Int) + (n : Int) = (y : Int) := by omega
  have u2 : IntKind.u64.wrap (y : Int) = (y : Int) := by rw [IntKind.wrap_u64]; omega
  have u3 : IntKind.u64.wrap (n : Int) = (n : Int) := by rw [IntKind.wrap_u64]; omega
  have hy6 : (y : Int) ≤ 5000000000 := by omega
  clear hF hx0 hx hn hy
  have G := Lib.hid (heap2 w (.cells (F.map bv).toArray 64) (.cells Z.toArray 64))
  go_enter Tryz.func73, Tryz.ntmps73
  go_upto_region 1 with (fail)
  generalize hV : (w.alloc _).alloc _ = W0 at G ⊢
  clear hV
  have sl := arr_from arr16B s8 ⟨w.heap.size, 0, none⟩ .i64 12 (by omega) (by omega)
  rw [show (12 : Int).toNat = 12 from rfl, show cutA ⟨w.heap.size, 0, none⟩ 16 12 = ⟨w.heap.size, 12, none⟩ from by unfold cutA; rw [if_neg (by omega), Addr.add_mid]] at sl
  have H0 : Hid (W0.drew.heap[w.heap.size]? = _) := G.out.1
  have H1 : Hid (W0.drew.heap[w.heap.size + 1]? = _) := G.out.2.1
  have HB : Hid (Below w.heap.size w W0.drew) := G.out.2.2.drew
  have HX : Hid (Below w.heap.size W0.drew W0.drew) := Below.refl _ _
  have HSR : Hid (Sl W0.drew (some ⟨w.heap.size, 12, none⟩) 4 (F.drop 12)) := by
    have h := row_sub H0.out 12 4 (lt_of_heap H0.out)
    rw [List.take_of_length_le (by rw [D4.out]; omega)] at h
    exact ⟨by rw [D4.out]; omega, by decide, h⟩
  refine regB_start (w.heap.size) (by kernel_rfl) ?_
  try simp only [Act.put, List.setIfInBounds_toArray, List.set_cons_zero, List.set_cons_succ]
  refine regB_take (v := ?_) 0 (some 5) rfl rfl (by kernel_rfl) (by kernel_rfl) (by kernel_rfl) (fun _ _ _ h => h) (by rfl) (fun W hW => ?_) ?_
  rotate_left
  · (go_simp; try rfl)
  simp only [Act.put, List.setIfInBounds_toArray, List.set_cons_zero, List.set_cons_succ]
  refine regB_take (v := ?_) 1 (some 6) rfl rfl (by kernel_rfl) (by kernel_rfl) (by kernel_rfl) (fun _ _ _ h => h) (by rfl) (fun W hW => ?_) ?_
  rotate_left
  · (go_simp; try rfl)
  simp only [Act.put, List.setIfInBounds_toArray, List.set_cons_zero, List.set_cons_succ]
  refine regB_take (v := ?_) 3 (some 8) rfl rfl (by kernel_rfl) (by kernel_rfl) (by kernel_rfl) (fun _ _ _ h => h) (by rfl) (fun W hW => ?_) ?_
  rotate_left
  · (go_simp; try rfl)
  simp only [Act.put, List.setIfInBounds_toArray, List.set_cons_zero, List.set_cons_succ]
  refine regB_take (v := ?_) 4 (some 9) rfl rfl (by kernel_rfl) (by kernel_rfl) (by kernel_rfl) (fun _ _ _ h => h) (by rfl) (fun W hW => ?_) ?_
  rotate_left
  · (go_simp; try rfl)
  simp only [Act.put, List.setIfInBounds_toArray, List.set_cons_zero, List.set_cons_succ]
  refine regB_eff 2 rfl (by kernel_rfl) (fun K hK => ?_)
  go_simp
  refine (BG.out _ 4 _ (by omega) (by decide) HSR.out.2.2).mono ?_
  rintro e w2 ⟨rfl, hb⟩
  have H0 := Lib.hid ((hb.block _ (lt_of_heap H0.out)).trans H0.out)
  have H1 := Lib.hid ((hb.block _ (lt_of_heap H1.out)).trans H1.out)
  have hE := hb.mono HB.out.size
  have HB := Lib.hid (HB.out.step hb)
  clear hb
  refine hK.out _ _ hE ?_
  have HX := Lib.hid (Below.trans HX.out hE)
  clear hE hK K
  try simp only [Act.put, List.setIfInBounds_toArray, List.set_cons_zero, List.set_cons_succ]
  refine regB_take (v := ?_) 5 (some 10) rfl rfl (by kernel_rfl) (by kernel_rfl) (by kernel_rfl) (fun _ _ _ h => h) (by rfl) (fun W hW => ?_) ?_
  rotate_left
  · (go_simp; try rfl)
  simp only [Act.put, List.setIfInBounds_toArray, List.set_cons_zero, List.set_cons_succ]
  refine regB_eff 6 rfl (by kernel_rfl) (fun K hK => ?_)
  go_simp
  refine (PB.out w2).mono ?_
  rintro e w3 ⟨g, hg, rfl, hk, hb⟩
  have H0 := Lib.hid ((hb.block _ (lt_of_heap H0.out)).trans H0.out)
  have H1 := Lib.hid ((hb.block _ (lt_of_heap H1.out)).trans H1.out)
  have hE := hb.mono HB.out.size
  have HB := Lib.hid (HB.out.step hb)
  have HT := Lib.hid hk
  clear hb hg hk
  refine hK.out _ _ hE ?_
  have HX := Lib.hid (Below.trans HX.out hE)
  clear hE hK K
  try simp only [Act.put, List.setIfInBounds_toArray, List.set_cons_zero, List.set_cons_succ]
  refine regB_eff 7 rfl (by kernel_rfl) (fun K hK => ?_)
  obtain ⟨w5, hrun, hblk, _, hgr⟩ := copy_run uT s8 (sT := 22) 3 w3 w.heap.size 12 (F.map bv) 64 H0.out (some ⟨w.heap.size, 12, none⟩) (some ⟨g, 0, none⟩) 4 4 4 4 w3.heap.size (T.map bv) (by rw [List.length_map, HPL.out]; rfl) (fun _ => rfl) (sl_row HPL.out (by omega) HT.out).2.2 (by rw [List.length_map, List.length_map, HPL.out, HFL.out]; omega) (bv_one _)
  rw [HSP.out] at hblk
  have E2 := Lib.hid hblk
  have E3 := Lib.hid ((hgr.block _ (lt_of_heap H1.out) (by simp)).trans H1.out)
  have hE : Below w.heap.size w3 w5 := grown_below hgr (Nat.le_refl _) HB.out.size
  have HB := Lib.hid (HB.out.trans hE)
  refine step_cpy rfl (.tmp 5) (.tmp 11) 22 22 rfl hrun ?_
  clear hrun hblk hgr
  refine hK.out _ _ hE ?_
  have HX := Lib.hid (Below.trans HX.out hE)
  clear hE hK K
  try simp only [Act.put, List.setIfInBounds_toArray, List.set_cons_zero, List.set_cons_succ]
  refine regB_done (by kernel_rfl) ?_
  simp only [List.getElem_toArray, List.getElem_cons_succ, List.getElem_cons_zero, Act.put, List.setIfInBounds_toArray, List.set_cons_zero, List.set_cons_succ]
  go_wp2_with (first
    | (refine wpList_ld rfl 64 (.tmp 2) rfl (load_arr arr16B rfl (i16c R HCL.out) E2.out) ?_)
    | (refine wpList_st rfl 64 (.tmp 4) (.tmp 13) rfl (store_arr (cs := R.map bv) (i16c R HCL.out) (bv_one _) E3.out (by rw [List.length_map, HCL.out]; exact HZL.out)) ?_))
  have hres := setRow_heap w5 (w.heap.size + 1) _ (R.map bv).toArray 64 _ E3.out
  exact bodyPost_ret (results_cell_row (P := Tryz.prog) rfl _ _ (w.heap.size + 1) 64 (R.map bv).toArray (0, 0) _ rfl hres arr16B rfl (by rw [List.size_toArray]; exact i16c R HCL.out)) rfl ⟨rfl, HB.out.trans (grown_below (grown_setRow _ _ _) (by omega) HB.out.size)⟩
end Go.Proofs.YtimgggpojbpfkaaGreatDoor

/- gcm: crypt. -/
namespace Go.Proofs.YtimgggpojbpfkaaGreatDoor
open Go.RowKit
set_option maxRecDepth 100000
set_option linter.unusedVariables false
set_option linter.unusedSimpArgs false
/-- the text's stream -/
def gcF (E : List UInt8 → List UInt8) (F : List UInt8) : Nat → UInt8 := blkF fun i => E (cntG F (i + 1))
def gcL (E : List UInt8 → List UInt8) (F b : List UInt8) : List UInt8 := ctrL (gcF E F) 0 b
theorem gcL_len (E : List UInt8 → List UInt8) (F b : List UInt8) : (gcL E F b).length = b.length := ctrL_len _ _ _
/-- a block for itself -/
theorem gc_block (E : List UInt8 → List UInt8) (F b : List UInt8) (hF : F.length = 16) (i : Nat) (hb : b.length ≤ 16) : ctrL (strmF E (cntG F (i + 1))) 0 b = ctrL (gcF E F) (16 * i) b := by
  refine ctrL_congr _ _ b 0 (16 * i) fun j hj => ?_
  have hj16 : j < 16 := by omega
  show (E (countL (cntG F (i + 1)) ((0 + j) / 16))).getD ((0 + j) % 16) 0 = (E (cntG F ((16 * i + j) / 16 + 1))).getD ((16 * i + j) % 16) 0
  rw [show (0 + j) / 16 = 0 by omega, show (0 + j) % 16 = j by omega, show (16 * i + j) / 16 = i by omega, show (16 * i + j) % 16 = j by omega, count_zero _ (cntG_len F _ hF)]
theorem gc_step (E : List UInt8 → List UInt8) (F b : List UInt8) (hF : F.length = 16) (i lo e : Nat) (hlo : lo = 16 * i) (he : e ≤ lo + 16) (hle : lo ≤ e) (hb : lo ≤ b.length) :
    ctrL (gcF E F) 0 (b.take lo) ++ ctrL (strmF E (cntG F (i + 1))) 0 ((b.drop lo).take (e - lo)) = ctrL (gcF E F) 0 (b.take e) := by
  subst hlo
  rw [gc_block E F _ hF i (by rw [List.length_take]; omega)]
  have h := ctrL_append (gcF E F) (b.take (16 * i)) 0 ((b.drop (16 * i)).take (e - 16 * i))
  rw [List.length_take, Nat.min_eq_left hb, Nat.zero_add] at h
  rw [← h]
  congr 1
  have : e = 16 * i + (e - 16 * i) := by omega
  rw [this, List.take_add]
  congr 2
  omega
theorem min_eqs (lo n e : Nat) (h : e = min (lo + 16) n) : (if (lo : Int) + 16 < (n : Int) then (lo : Int) + 16 else (n : Int)) = (e : Int) ∧ (if (n : Int) < (lo : Int) + 16 then (n : Int) else (lo : Int) + 16) = (e : Int) ∧ min ((lo : Int) + 16) (n : Int) = (e : Int) ∧ (if (lo : Int) + 16 ≤ (n : Int) then (lo : Int) + 16 else (n : Int)) = (e : Int) := by
  refine ⟨?_, ?_, ?_, ?_⟩
  · split <;> omega
  · split <;> omega
  · omega
  · split <;> omega
set_option maxHeartbeats 4000000 in
theorem gcrypt_any (kp : Value) (E : List UInt8 → List UInt8) (F : List UInt8) (A : Option Addr) (n c : Nat) (b : List UInt8) (w : World) (hF : F.length = 16) (hE : Enc w kp E) (hl : b.length = n) (hn : n ≤ 100000) (hS : Sl w A c b) :
    Calls Tryz.prog 45 #[kp, .agg (F.map bv).toArray, .slice A n c] w fun e w' => ∃ v, e = .returned v ∧ w'.ownsRow w.heap.size 5 1 v n ((gcL E F b).map bv) ∧ Below w.heap.size w w' := by
  have HF := Lib.hid hF; have HE := Lib.hid hE; have HL := Lib.hid hl; have HS := Lib.hid hS
  have hmk := make_room (P := Tryz.prog) uT made8 rfl .i64 .i64 (n + 16) (by omega) (by omega) (w.alloc (.cells (F.map bv).toArray 64))
  have hcn : c ≤ maxLen ∧ n ≤ c := ⟨hS.2.1, by have := hS.1; omega⟩
  obtain ⟨N, hN⟩ : ∃ N, N = (n + 15) / 16 := ⟨_, rfl⟩
  have hNi : ((n : Int) + 15) / 16 = (N : Int) := by omega
  have hcap : (n : Int) + 16 = ((n + 16 : Nat) : Int) := by omega
  obtain ⟨n16, hn16⟩ : ∃ n16, n16 = n + 16 := ⟨_, rfl⟩
  rw [← hn16] at hmk hcap
  have HMX : Hid (n16 ≤ maxLen) := by show _ ≤ _; simp [maxLen]; omega
  have HNN := Lib.hid hN
  have STN : Hid (ctrL (gcF E F) 0 (b.take (min (16 * N) n)) = gcL E F b) := by show _ = _; rw [gcL, List.take_of_length_le (by omega)]
  have CT := Lib.hid (fun i W => gcounter_any F (i + 1) W hF)
  clear hF hE hl hS hN hn16
  have G := heap2 w (.cells (F.map bv).toArray 64) (.cells (Array.replicate n16 (Value.int .u8 0)) 5)
  have GO : Hid (((w.alloc (.cells (F.map bv).toArray 64)).alloc (.cells (Array.replicate n16 (Value.int .u8 0)) 5)).ownsRow (w.heap.size + 1) 5 1 (.slice (some ⟨w.heap.size + 1, 0, none⟩) 0 n16) 0 (([] : List UInt8).map bv)) := own_room (Nat.le_refl _) HMX.out G.2.1
  have G0 := Lib.hid G.1; have GB := Lib.hid G.2.2
  generalize gcL E F b = R at STN ⊢
  clear G
  go_enter Tryz.func45, Tryz.ntmps45
  go_upto_region 3 with (fail)
  generalize (w.alloc _).alloc _ = W0 at GO G0 GB ⊢
  clear hmk
  have HNI := Lib.hid hNi
  clear hNi
  go_loopw [7, 18] (fun vo vi wr => ∃ (i m : Nat) (A' : Option Addr) (c' : Nat), i ≤ N ∧ m = min (16 * i) n ∧ vi = .int .i64 (i : Int) ∧ vo = .slice A' m c' ∧ Hid (wr.ownsRow (w.heap.size + 1) 5 1 (.slice A' m c') m ((ctrL (gcF E F) 0 (b.take m)).map bv)) ∧ Hid (Below w.heap.size w wr) ∧
      Hid (wr.heap[w.heap.size]? = some (.cells (F.map bv).toArray 64 (0, 0)))) (fun _ i _ => N - (intOf i).toNat)
  case atStart => exact ⟨0, 0, _, _, by omega, by omega, rfl, rfl, GO, GB, G0⟩
  case round =>
    clear GO G0 GB
    obtain ⟨i, m, A', c', hi, hm, rfl, rfl, HO, HB, H0⟩ := hrel
    by_cases hlt : i < N
    · have q1 : (i : Int) < ((n : Int) + 15) / 16 := by have := HNI.out; omega
      have hNN := HNN.out
      obtain ⟨lo, hlo⟩ : ∃ lo, lo = 16 * i := ⟨_, rfl⟩
      obtain ⟨e, he⟩ : ∃ e, e = min (lo + 16) n := ⟨_, rfl⟩
      have hml : m = lo := by omega
      subst hml
      have u1 : 16 * (i : Int) = (m : Int) := by omega
      obtain ⟨um1, um2, um3, um4⟩ := min_eqs m n e he
      have hme : m ≤ e ∧ e ≤ n ∧ e ≤ m + 16 := by omega
      have hi5 : i ≤ 10000 := by omega
      have HM16 : Hid (e = min (16 * (i + 1)) n) := by show _ = _; rw [he, hlo]; omega
      obtain ⟨i1, hi1⟩ : ∃ i1, i1 = i + 1 := ⟨_, rfl⟩
      have u4 : (i : Int) + 1 = (i1 : Int) := by omega
      have sl := cut_mid uT s8 A n c .i64 .i64 (m : Int) (e : Int) (by omega) (by omega) (by omega)
      rw [Int.toNat_natCast, Int.toNat_natCast] at sl
      have SB : Hid (Sl wr (cutS A c m) (c - m) ((b.drop m).take (e - m))) := sl_take' (sl_cut (HS.out.below HB.out) (by rw [HL.out]; omega))
      have HBL : Hid (((b.drop m).take (e - m)).length = e - m) := by show _ = _; rw [List.length_take, List.length_drop, HL.out]; omega
      have HST := Lib.hid (gc_step E F b HF.out i m e hlo hme.2.2 hme.1 (by rw [HL.out]; omega))
      have CTR := Lib.hid (CT.out i wr (by omega))
      have CRY := Lib.hid (fun W (hW : Below w.heap.size w W) hS => Crypt_any kp E (cntG F (i + 1)) (cutS A c m) (e - m) (c - m) ((b.drop m).take (e - m)) W (cntG_len F _ HF.out) (HE.out.ext hW) HBL.out (by omega) hS)
      generalize cntG F (i + 1) = CN at CTR CRY HST
      generalize (b.drop m).take (e - m) = X at SB HBL HST CRY
      rw [← hi1] at CTR
      obtain ⟨t, ht⟩ : ∃ t, t = e - m := ⟨_, rfl⟩
      rw [← ht] at sl HBL CRY
      have hmt : m + t ≤ 2147483647 := by omega
      have HT : Hid (m + t = e) := by show _ = _; omega
      have hE8 : (e : Int) ≤ 100000 := by omega
      have hm8 : (m : Int) ≤ 100000 := by omega
      clear hlo he ht hNN hme hm hi1
      go_upto_region 6 with (fail)
      go_wp2_with (first
        | (refine wpList_ld rfl 64 (.tmp 4) rfl (load_arr arr16B rfl (i16c F HF.out) H0.out) ?_)
        | fail)
      refine CTR.out.mono ?_
      rintro e2 w2 ⟨rfl, hb⟩
      have B2 : Hid (Below w.heap.size w w2) := HB.out.step hb
      have F2 := Lib.hid ((hb.block _ (lt_of_heap H0.out)).trans H0.out)
      have O2 := Lib.hid (c_own_below HO.out hb)
      have S2 := Lib.hid (SB.out.below hb)
      clear hb HB H0 HO SB CTR
      go_wp2_with fail
      refine (CRY.out w2 B2.out S2.out).mono ?_
      rintro e3 w3 ⟨v3, rfl, hO, hb⟩
      obtain ⟨A3, c3, rfl, hl3, h31, h32, hr3⟩ := own_read hO
      have B3 : Hid (Below w.heap.size w w3) := B2.out.step hb
      have F3 := Lib.hid ((hb.block _ (lt_of_heap F2.out)).trans F2.out)
      have O3 := Lib.hid (c_own_below O2.out hb)
      have R3 := Lib.hid hr3
      have L3 := Lib.hid hl3
      have hs3 : Hid (w.heap.size + 1 ≤ w3.heap.size) := lt_of_heap F3.out
      clear hb B2 F2 O2 S2 hl3 h31 h32 hr3 hO CRY
      go_upto_region 7 with (
        at_builtin
        refine wpList_app8 rfl (.tmp 31) (.tmp 38) rfl (w.heap.size + 1) _ m (ctrL (gcF E F) 0 (b.take m)) rfl ?_ A3 t c3 w3.heap.size (ctrL (strmF E CN) 0 X) rfl ?_ ?_ ?_ ?_ ?_
        · exact O3.out
        · exact R3.out
        · exact L3.out
        · exact hmt
        · exact hs3.out
        rintro v4 w4 hown hgr
        rw [HST.out, HT.out] at hown
        have O4 := Lib.hid hown
        have B4 : Hid (Below w.heap.size w w4) := B3.out.grown hgr B3.out.size (c_own_ge O3.out (Nat.le_succ _))
        have F4 := Lib.hid ((hgr.block _ (lt_of_heap F3.out) (c_own_ne O3.out (Nat.lt_succ_self _))).trans F3.out)
        clear hown hgr)
      obtain ⟨A5, c5, rfl, hl5, h51, h52, hr5⟩ := own_read O4.out
      clear hl5 h51 h52 hr5 O3 B3 F3 R3 L3 hs3
      have q9 := HM16.out
      go_wp2
      go_roundw
      case rel => exact ⟨i + 1, e, A5, c5, by omega, q9, by go_num, rfl, O4, B4, F4⟩
      case measure => simp [intOf]; omega
    · have q1 : ¬ ((i : Int) < ((n : Int) + 15) / 16) := by have := HNI.out; omega
      have hiN : i = N := by omega
      subst hiN
      have hO := HO.out
      have hmn : m = n := by have := HNN.out; omega
      rw [hm, STN.out, ← hm, hmn] at hO
      have HO2 := Lib.hid hO
      rw [hmn]
      clear hO HO hm hmn
      go_wp2
      go_ret
      exact ⟨_, rfl, own_mono HO2.out (Nat.le_succ _), HB.out⟩
end Go.Proofs.YtimgggpojbpfkaaGreatDoor

/- gcm: tag. -/
namespace Go.Proofs.YtimgggpojbpfkaaGreatDoor
open Go.RowKit
set_option maxRecDepth 100000
set_option linter.unusedVariables false
set_option linter.unusedSimpArgs false
def CellG (B : Nat) (W : World) (v : Value) (X : List Value) (b : Bool) : Prop := ∃ (g : Nat) (Y : List Value), v = .pointer (some ⟨g, 0, none⟩) ∧ B ≤ g ∧ W.heap[g]? = some (.cells Y.toArray 64 (0, 0)) ∧ Y.length = 16 ∧ (b = true → Y = X)
theorem CellG.ext {B : Nat} {W W' : World} {v : Value} {X : List Value} {b : Bool} (h : CellG B W v X b) (hE : Ext W W') : CellG B W' v X b := by
  obtain ⟨g, Y, h1, h2, h3, h4⟩ := h
  exact ⟨g, Y, h1, h2, (hE.block _ (lt_of_heap h3)).trans h3, h4⟩
structure GJ (B : Nat) (w : World) (LB EB : List UInt8) (L : Nat → Bool) (v9 v10 v16 v19 : Value) (W : World) : Prop where
  b : Below B w W
  hB : B ≤ W.heap.size
  f4 : L 4 = true → v16 = .agg (LB.map bv).toArray
  f7 : L 7 = true → v19 = .agg (EB.map bv).toArray
  f8 : L 8 = true → CellG B W v9 (LB.map bv) (L 10)
  f9 : L 9 = true → CellG B W v10 (EB.map bv) (L 11)
  fd : L 8 = true → L 9 = true → v9 ≠ v10
  d10 : L 10 = true → L 8 = true
  d11 : L 11 = true → L 9 = true
theorem GJ.ext {B : Nat} {w : World} {LB EB : List UInt8} {L : Nat → Bool} {v9 v10 v16 v19 : Value} {W W' : World} (h : GJ B w LB EB L v9 v10 v16 v19 W) (hE : Ext W W') : GJ B w LB EB L v9 v10 v16 v19 W' :=
  ⟨h.b.trans (RowKit.Below.mono hE h.hB), Nat.le_trans h.hB hE.size, h.f4, h.f7, fun a => (h.f8 a).ext hE, fun a => (h.f9 a).ext hE, h.fd, h.d10, h.d11⟩
theorem ptr_neG {g g' : Nat} (h : g ≠ g') : Value.pointer (some ⟨g, 0, none⟩) ≠ .pointer (some ⟨g', 0, none⟩) := by
  intro e; injection e with e; injection e with e; injection e with e; exact h e
theorem heap_otherG {W W' : World} {g g' : Nat} {cs : Array Value} {o : Obj} (hV : W.setRow g cs = W') (hne : g' ≠ g) (h : W.heap[g']? = some o) : W'.heap[g']? = some o := by
  rw [← hV, setRow_other _ _ _ _ hne]; exact h
theorem joinW_three (A3 A4 A5 : Option Addr) (c3 c4 c5 : Nat) (aad x LB : List UInt8) (h : LB.length = 16) : joinW [(A3, c3, aad), (A4, c4, x), (A5, c5, LB)] = whG aad ++ whG x ++ LB := by
  have hw : whG LB = LB := by rw [whG, h]; simp [padN]
  simp only [joinW, List.flatMap_cons, List.flatMap_nil, hw, List.append_nil, List.append_assoc]
theorem rows_three {W : World} {q : Nat} {A3 A4 A5 : Option Addr} {c3 c4 c5 k3 k4 k5 : Nat} {aad x LB : List UInt8} {t : TypeId} {fr : Nat × Nat} (h : W.heap[q]? = some (.cells #[.slice A3 k3 c3, .slice A4 k4 c4, .slice A5 k5 c5] t fr)) (h3 : aad.length = k3) (h4 : x.length = k4) (h5 : LB.length = k5)
    (S3 : Sl W A3 c3 aad) (S4 : Sl W A4 c4 x) (S5 : Sl W A5 c5 LB) : PartsAt W (some ⟨q, 0, none⟩, 3, [(A3, c3, aad), (A4, c4, x), (A5, c5, LB)]) := by
  refine ⟨Nat.le_refl _, by simp [maxLen], ?_, .inr ⟨q, 0, rfl, lt_of_heap h, fun j u hu => ?_⟩⟩
  · intro r hr
    simp only [List.mem_cons, List.not_mem_nil, or_false] at hr
    rcases hr with rfl | rfl | rfl
    · exact S3
    · exact S4
    · exact S5
  · rw [Nat.zero_add, cell_of_heap (cs := [.slice A3 k3 c3, .slice A4 k4 c4, .slice A5 k5 c5]) h]
    rw [← h3, ← h4, ← h5]
    exact hu
def six (L : Nat → Bool) : Prop := L 0 = true ∧ L 1 = true ∧ L 2 = true ∧ L 3 = true ∧ L 5 = true ∧ L 6 = true
def mkG (kp : Value) (F : Array Value) (A3 A4 : Option Addr) (k3 c3 k4 c4 p : Nat) (v9 v10 v16 v19 : Value) : Act := { tmps := #[kp, .agg F, .slice A3 k3 c3, .slice A4 k4 c4, undef, .pointer (some ⟨p, 0, none⟩), undef, undef, .slice none 0 0, v9, v10, undef, .slice A3 k3 c3, .int .i64 (k3 : Int), .slice A4 k4 c4, .int .i64 (k4 : Int), v16, kp, .agg F, v19, undef, undef, undef, undef, undef, undef, undef, undef, undef], defers := [] }
/-- the tag of an aad and a sealed text -/
def tagG (E : List UInt8 → List UInt8) (F aad x : List UInt8) : List UInt8 := xorL (gsumL (E zerB) (whG aad ++ whG x ++ lenL (aad.length : Int) (x.length : Int))) (E F)
theorem tagG_len (E : List UInt8 → List UInt8) (F aad x : List UInt8) (h : (E F).length = 16) : (tagG E F aad x).length = 16 := by rw [tagG, xorL_len, gsumL_len, h]; rfl
set_option maxHeartbeats 8000000 in
theorem gtag_any (kp : Value) (E : List UInt8 → List UInt8) (F : List UInt8) (A3 A4 : Option Addr) (k3 c3 k4 c4 : Nat) (aad x : List UInt8) (w : World) (hF : F.length = 16) (hE : Enc w kp E) (h3 : aad.length = k3) (h4 : x.length = k4) (h31 : k3 ≤ 100000) (h41 : k4 ≤ 100000)
    (S3 : Sl w A3 c3 aad) (S4 : Sl w A4 c4 x) :
    Calls Tryz.prog 46 #[kp, .agg (F.map bv).toArray, .slice A3 k3 c3, .slice A4 k4 c4] w (NewRow w 16 (tagG E F aad x)) := by
  have hz : ∀ W, (zeroValue 64).run Tryz.prog W = .ok (.agg zeros16.toArray) W := fun W => by kernel_rfl
  have hlz : Hid (zeros16.length = 16) := rfl
  have HF := Lib.hid hF; have H3 := Lib.hid h3; have H4 := Lib.hid h4; have HS3 := Lib.hid S3; have HS4 := Lib.hid S4; have HE := Lib.hid hE
  have GL := Lib.hid (fun W => glen_any (k3 : Int) (k4 : Int) W)
  have ENC := Lib.hid (fun W hW => hE.2 W hW F hF)
  have HEL := Lib.hid (hE.1 F hF)
  have HLL := Lib.hid (lenL_len (k3 : Int) (k4 : Int))
  have HTG : Hid (tagG E F aad x = xorL (gsumL (E zerB) (whG aad ++ whG x ++ lenL (k3 : Int) (k4 : Int))) (E F)) := by show _ = _; rw [tagG, h3, h4]
  rw [HTG.out]
  generalize E F = EB at ENC HEL ⊢
  generalize lenL (k3 : Int) (k4 : Int) = LB at GL HLL ⊢
  generalize zeros16 = Z at hz hlz
  have G := Lib.hid (heap_alloc_new' w (.cells (F.map bv).toArray 64))
  have GB : Hid (Below w.heap.size w (w.alloc (.cells (F.map bv).toArray 64))) := (Below.refl _ _).alloc (Nat.le_refl _) _
  clear hF hE h3 h4 S3 S4 HTG
  obtain ⟨FV, HFV⟩ : ∃ FV, Hid ((F.map bv).toArray = FV) := ⟨_, rfl⟩
  go_enter Tryz.func46, Tryz.ntmps46
  go_upto_region 1 with (fail)
  generalize w.alloc _ = W0 at G GB ⊢
  have BX : Hid (Below w.heap.size w W0.drew) := GB.out.drew
  have H0 : Hid (W0.drew.heap[w.heap.size]? = _) := G.out
  have hsz : Hid (W0.heap.size = W0.drew.heap.size) := rfl
  have hle : Hid (w.heap.size ≤ W0.heap.size) := GB.out.size
  refine regB_start (W0.heap.size) (by kernel_rfl) ?_
  try simp only [Act.put, List.setIfInBounds_toArray, List.set_cons_zero, List.set_cons_succ]
  generalize W0.drew = WD at BX H0 hsz ⊢
  refine regB_take (v := ?_) 0 (some 12) rfl rfl (by kernel_rfl) (by kernel_rfl) (by kernel_rfl) (fun _ _ _ h => h) (by rfl) (fun W hW => ?_) ?_
  rotate_left
  · (go_simp; try rfl)
  simp only [Act.put, List.setIfInBounds_toArray, List.set_cons_zero, List.set_cons_succ]
  refine regB_take (v := ?_) 1 (some 13) rfl rfl (by kernel_rfl) (by kernel_rfl) (by kernel_rfl) (fun _ _ _ h => h) (by rfl) (fun W hW => ?_) ?_
  rotate_left
  · (go_simp; try rfl)
  simp only [Act.put, List.setIfInBounds_toArray, List.set_cons_zero, List.set_cons_succ]
  refine regB_take (v := ?_) 2 (some 14) rfl rfl (by kernel_rfl) (by kernel_rfl) (by kernel_rfl) (fun _ _ _ h => h) (by rfl) (fun W hW => ?_) ?_
  rotate_left
  · (go_simp; try rfl)
  simp only [Act.put, List.setIfInBounds_toArray, List.set_cons_zero, List.set_cons_succ]
  refine regB_take (v := ?_) 3 (some 15) rfl rfl (by kernel_rfl) (by kernel_rfl) (by kernel_rfl) (fun _ _ _ h => h) (by rfl) (fun W hW => ?_) ?_
  rotate_left
  · (go_simp; try rfl)
  simp only [Act.put, List.setIfInBounds_toArray, List.set_cons_zero, List.set_cons_succ]
  refine regB_take (v := ?_) 5 (some 17) rfl rfl (by kernel_rfl) (by kernel_rfl) (by kernel_rfl) (fun _ _ _ h => h) (by rfl) (fun W hW => ?_) ?_
  rotate_left
  · (go_simp; try rfl)
  simp only [Act.put, List.setIfInBounds_toArray, List.set_cons_zero, List.set_cons_succ]
  refine regB_load 6 (some 18) (fun W hW => load_arr arr16B rfl (i16c F HF.out) ((hW.block _ (by have := lt_of_heap H0.out; have := hsz.out; omega)).trans H0.out)) rfl rfl rfl rfl (by kernel_rfl) (by kernel_rfl) (by kernel_rfl) (fun _ _ _ h => h) (by rfl) ?_
  simp only [Act.put, List.setIfInBounds_toArray, List.set_cons_zero, List.set_cons_succ]
  have HLL0 := HLL.out
  refine regB_inv (fun L a' W => six L ∧ ∃ v9 v10 v16 v19, a' = mkG kp (F.map bv).toArray A3 A4 k3 c3 k4 c4 w.heap.size v9 v10 v16 v19 ∧ GJ W0.heap.size WD LB EB L v9 v10 v16 v19 W) (by kernel_rfl) (by decide) (by kernel_rfl) (fun L a' W h => ?_) ?_
    (And.intro ?_ (And.intro ?_ (And.intro ?_ (And.intro ?_ (And.intro ?_ (And.intro ?_ (And.intro ?_ (And.intro ?_ (And.intro ?_ (And.intro ?_ (And.intro ?_ (And.intro ?_ trivial)))))))))))) ?_
  · obtain ⟨_, v9, v10, v16, v19, rfl, H⟩ := h
    exact H.b
  · exact ⟨⟨rfl, rfl, rfl, rfl, rfl, rfl⟩, _, _, _, _, rfl, ⟨Below.refl _ _, Nat.le_of_eq hsz.out, fun h => (by cases h), fun h => (by cases h), fun h => (by cases h), fun h => (by cases h), fun h => (by cases h), fun h => (by cases h), fun h => (by cases h)⟩⟩
  · rintro L a W ⟨h6, _⟩ hLi; rw [h6.1] at hLi; cases hLi
  · rintro L a W ⟨h6, _⟩ hLi; rw [h6.2.1] at hLi; cases hLi
  · rintro L a W ⟨h6, _⟩ hLi; rw [h6.2.2.1] at hLi; cases hLi
  · rintro L a W ⟨h6, _⟩ hLi; rw [h6.2.2.2.1] at hLi; cases hLi
  · rintro L a W ⟨h6, v9, v10, v16, v19, rfl, H⟩ hLi hd K0 hK
    simp only [mkG]
    go_simp
    refine (GL.out W).mono ?_
    rintro e W' ⟨rfl, hb⟩
    have H' := H.ext hb
    exact hK.out _ _ ⟨h6, v9, v10, _, v19, rfl, ⟨H'.b, H'.hB, fun _ => rfl, fun h => H'.f7 h, fun h => H'.f8 h, fun h => H'.f9 h, fun h h' => H'.fd h h', fun h => H'.d10 h, fun h => H'.d11 h⟩⟩
  · rintro L a W ⟨h6, _⟩ hLi; rw [h6.2.2.2.2.1] at hLi; cases hLi
  · rintro L a W ⟨h6, _⟩ hLi; rw [h6.2.2.2.2.2] at hLi; cases hLi
  · rintro L a W ⟨h6, v9, v10, v16, v19, rfl, H⟩ hLi hd K0 hK
    simp only [mkG]
    go_simp
    refine (ENC.out W (BX.out.trans (H.b.mono hle.out))).mono ?_
    rintro e W' ⟨rfl, hb⟩
    have H' := H.ext hb
    exact hK.out _ _ ⟨h6, v9, v10, v16, _, rfl, ⟨H'.b, H'.hB, fun h => H'.f4 h, fun _ => rfl, fun h => H'.f8 h, fun h => H'.f9 h, fun h h' => H'.fd h h', fun h => H'.d10 h, fun h => H'.d11 h⟩⟩
  · rintro L a W ⟨h6, v9, v10, v16, v19, rfl, H⟩ hLi hd K0 hK
    simp only [mkG]
    go_simp
    have H' := H.ext ((Below.refl W.heap.size W).alloc (Nat.le_refl _) (.cells Z.toArray 64))
    have hN := heap_alloc_new' W (.cells Z.toArray 64)
    refine hK.out _ _ ⟨h6, _, v10, v16, v19, rfl, ⟨H'.b, H'.hB, fun h => H'.f4 h, fun h => H'.f7 h, fun _ => ⟨W.heap.size, Z, rfl, H.hB, hN, hlz.out, fun h => ?_⟩, fun h => H'.f9 h, fun _ h' => ?_, fun _ => rfl, fun h => H'.d11 h⟩⟩
    · have := H.d10 h; rw [this] at hLi; cases hLi
    · obtain ⟨g3, Y3, rfl, _, h3, _⟩ := H.f9 h'
      exact ptr_neG (by have := lt_of_heap h3; omega)
  · rintro L a W ⟨h6, v9, v10, v16, v19, rfl, H⟩ hLi hd K0 hK
    simp only [mkG]
    go_simp
    have H' := H.ext ((Below.refl W.heap.size W).alloc (Nat.le_refl _) (.cells Z.toArray 64))
    have hN := heap_alloc_new' W (.cells Z.toArray 64)
    refine hK.out _ _ ⟨h6, v9, _, v16, v19, rfl, ⟨H'.b, H'.hB, fun h => H'.f4 h, fun h => H'.f7 h, fun h => H'.f8 h, fun _ => ⟨W.heap.size, Z, rfl, H.hB, hN, hlz.out, fun h => ?_⟩, fun h' _ => ?_, fun h => H'.d10 h, fun _ => rfl⟩⟩
    · have := H.d11 h; rw [this] at hLi; cases hLi
    · obtain ⟨g3, Y3, rfl, _, h3, _⟩ := H.f8 h'
      exact ptr_neG (by have := lt_of_heap h3; omega)
  · rintro L a W ⟨h6, v9, v10, v16, v19, rfl, H⟩ hLi hd K0 hK
    have d4 := hd ⟨4, .data⟩ (by simp) rfl
    have d8 := hd ⟨8, .data⟩ (by simp) rfl
    have d9 := hd ⟨9, .phase⟩ (by simp) rfl
    obtain rfl := H.f4 d4
    have hne := H.fd d8 d9
    obtain ⟨g2, Y2, rfl, hq2, h2, l2, _⟩ := H.f8 d8
    obtain ⟨g3, Y3, rfl, hq3, h3, l3, e3⟩ := H.f9 d9
    have hn : g3 ≠ g2 := fun e => hne (by rw [e])
    refine step_st1 rfl 64 (.tmp 9) (.tmp 16) rfl (store_arr (cs := LB.map bv) (i16c LB HLL0) (bv_one _) h2 (by rw [List.length_map, HLL0]; exact l2)) ?_
    generalize hV : World.setRow _ _ _ = W'
    have hbl : Below W0.heap.size W W' := below_of_setRow hV hq2 H.hB
    exact hK.out _ _ ⟨h6, _, _, _, v19, rfl, ⟨H.b.trans hbl, Nat.le_trans H.hB hbl.size, fun _ => rfl, fun h => H.f7 h, fun _ => ⟨g2, LB.map bv, rfl, hq2, heap_of_setRow hV h2, by rw [List.length_map, HLL0], fun _ => rfl⟩, fun _ => ⟨g3, Y3, rfl, hq3, heap_otherG hV hn h3, l3, fun h => e3 h⟩, fun _ _ => hne, fun _ => d8, fun h => H.d11 h⟩⟩
  · rintro L a W ⟨h6, v9, v10, v16, v19, rfl, H⟩ hLi hd K0 hK
    have d7 := hd ⟨7, .data⟩ (by simp) rfl
    have d8 := hd ⟨8, .phase⟩ (by simp) rfl
    have d9 := hd ⟨9, .data⟩ (by simp) rfl
    obtain rfl := H.f7 d7
    have hne := H.fd d8 d9
    obtain ⟨g2, Y2, rfl, hq2, h2, l2, e2⟩ := H.f8 d8
    obtain ⟨g3, Y3, rfl, hq3, h3, l3, _⟩ := H.f9 d9
    have hn : g2 ≠ g3 := fun e => hne (by rw [e])
    refine step_st1 rfl 64 (.tmp 10) (.tmp 19) rfl (store_arr (cs := EB.map bv) (i16c EB HEL.out) (bv_one _) h3 (by rw [List.length_map, HEL.out]; exact l3)) ?_
    generalize hV : World.setRow _ _ _ = W'
    have hbl : Below W0.heap.size W W' := below_of_setRow hV hq3 H.hB
    exact hK.out _ _ ⟨h6, _, _, v16, _, rfl, ⟨H.b.trans hbl, Nat.le_trans H.hB hbl.size, fun h => H.f4 h, fun _ => rfl, fun _ => ⟨g2, Y2, rfl, hq2, heap_otherG hV hn h2, l2, fun h => e2 h⟩, fun _ => ⟨g3, EB.map bv, rfl, hq3, heap_of_setRow hV h3, by rw [List.length_map, HEL.out], fun _ => rfl⟩, fun _ _ => hne, fun h => H.d10 h, fun _ => d9⟩⟩
  rintro L a W hL ⟨_, v9, v10, v16, v19, rfl, H⟩
  obtain ⟨g2, Y2, rfl, hq2, h2, l2, e2⟩ := H.f8 (hL 8)
  obtain ⟨g3, Y3, rfl, hq3, h3, l3, e3⟩ := H.f9 (hL 9)
  obtain rfl := e2 (hL 10)
  obtain rfl := e3 (hL 11)
  obtain rfl := H.f4 (hL 4)
  obtain rfl := H.f7 (hL 7)
  have H2 := Lib.hid h2; have H3' := Lib.hid h3; have HB : Hid (Below w.heap.size w W) := BX.out.trans (H.b.mono hle.out)
  have HQ2 : Hid (w.heap.size ≤ g2) := Nat.le_trans hle.out hq2
  clear h2 h3 H hL l2 l3 e2 e3 hq2 hq3 BX H0 GL ENC
  have ar1 := arr_all arr16B s8 ⟨g2, 0, none⟩
  have ar2 := arr_all arr16B s8 ⟨g3, 0, none⟩
  simp only [mkG]
  go_wp2_with fail
  have N1 := Lib.hid (heap_alloc_new' W (.cells #[.slice A3 k3 c3, .slice A4 k4 c4, .slice (some ⟨g2, 0, none⟩) 16 16] 22))
  have E1 : Hid (Ext W (W.alloc (.cells #[.slice A3 k3 c3, .slice A4 k4 c4, .slice (some ⟨g2, 0, none⟩) 16 16] 22))) := (Below.refl _ _).alloc (Nat.le_refl _) _
  generalize W.alloc _ = W1 at N1 E1 ⊢
  generalize W.heap.size = q at N1 ⊢
  have B1 : Hid (Below w.heap.size w W1) := HB.out.step E1.out
  have K2 := Lib.hid ((E1.out.block _ (lt_of_heap H2.out)).trans H2.out)
  have K3 := Lib.hid ((E1.out.block _ (lt_of_heap H3'.out)).trans H3'.out)
  have PA := Lib.hid (rows_three N1.out H3.out H4.out HLL0 (HS3.out.below B1.out) (HS4.out.below B1.out) (sl_row HLL0 (by omega) K2.out))
  have HJW := Lib.hid (joinW_three A3 A4 (some ⟨g2, 0, none⟩) c3 c4 16 aad x LB HLL0)
  have hlens : ∀ r ∈ [(A3, c3, aad), (A4, c4, x), (some (⟨g2, 0, none⟩ : Addr), 16, LB)], r.2.2.length ≤ 100000 := by
    intro r hr
    simp only [List.mem_cons, List.not_mem_nil, or_false] at hr
    rcases hr with rfl | rfl | rfl
    · show aad.length ≤ _; rw [H3.out]; exact h31
    · show x.length ≤ _; rw [H4.out]; exact h41
    · show LB.length ≤ _; rw [HLL0]; omega
  have HASH := Lib.hid (ghashR_any kp E (some ⟨q, 0, none⟩) 3 3 [(A3, c3, aad), (A4, c4, x), (some ⟨g2, 0, none⟩, 16, LB)] W1 (HE.out.ext B1.out) PA.out rfl (by omega) hlens)
  rw [HJW.out] at HASH
  have GSL := Lib.hid (gsumL_len (E zerB) (whG aad ++ whG x ++ LB))
  obtain ⟨T, HTT⟩ : ∃ T, Hid (gsumL (E zerB) (whG aad ++ whG x ++ LB) = T) := ⟨_, rfl⟩
  rw [HTT.out] at HASH GSL
  clear hlens PA HJW N1 E1 HB H2 H3' ar1
  refine HASH.out.mono ?_
  rintro e w2 ⟨rfl, hb⟩
  have B2 : Hid (Below w.heap.size w w2) := B1.out.step hb
  have K4 := Lib.hid ((hb.block _ (lt_of_heap K3.out)).trans K3.out)
  clear hb B1 K3 K2 HASH
  go_upto_region 3 with (first
    | (refine wpList_st rfl 64 (.tmp 11) (.tmp 25) rfl (store_arr (cs := T.map bv) (i16c T GSL.out) (bv_one _) (heap_alloc_new' w2 _) (by rw [List.length_map, GSL.out]; exact hlz.out)) ?_
       generalize hV : World.setRow _ _ _ = W3
       have M3 := Lib.hid (heap_of_setRow hV (heap_alloc_new' w2 _))
       have MB := Lib.hid (((Below.refl w2.heap.size w2).alloc (Nat.le_refl _) _).trans (below_of_setRow hV (Nat.le_refl w2.heap.size) (by simp)))
       clear hV)
    | fail)
  have B3 : Hid (Below w.heap.size w W3) := B2.out.step MB.out
  have K5 := Lib.hid ((MB.out.block _ (lt_of_heap K4.out)).trans K4.out)
  clear B2 K4 MB
  generalize w2.heap.size = q3 at M3 ⊢
  have ar1 := arr_all arr16B s8 ⟨q3, 0, none⟩
  have HX : Hid (Ext W3 W3.drew) := (Below.refl _ _).drew
  have XC := Lib.hid (fun A B W hS hS' => xor_n A B 16 16 16 16 16 T EB W GSL.out HEL.out rfl hS hS' (by omega) (by omega))
  obtain ⟨R, HR⟩ : ∃ R, Hid (xorL T EB = R) := ⟨_, rfl⟩
  rw [HR.out] at XC
  refine reg_start (by kernel_rfl) ?_
  try simp only [Act.put, List.setIfInBounds_toArray, List.set_cons_zero, List.set_cons_succ]
  refine reg_take (v := ?_) 0 (some 26) rfl rfl (by kernel_rfl) (by kernel_rfl) (by kernel_rfl) (fun _ _ _ h => h) (by rfl) (fun W hW => ?_) ?_
  rotate_left
  · (go_simp; try rfl)
  simp only [Act.put, List.setIfInBounds_toArray, List.set_cons_zero, List.set_cons_succ]
  refine reg_take (v := ?_) 1 (some 27) rfl rfl (by kernel_rfl) (by kernel_rfl) (by kernel_rfl) (fun _ _ _ h => h) (by rfl) (fun W hW => ?_) ?_
  rotate_left
  · (go_simp; try rfl)
  simp only [Act.put, List.setIfInBounds_toArray, List.set_cons_zero, List.set_cons_succ]
  refine reg_eff 2 rfl (by kernel_rfl) (fun K hK => ?_)
  go_simp
  refine (XC.out _ _ _ ((sl_row GSL.out (by omega) M3.out).below HX.out) ((sl_row HEL.out (by omega) K5.out).below HX.out)).mono ?_
  rintro e w4 ⟨g, hg, rfl, hk, hE⟩
  have K6 := Lib.hid hk
  have HG := Lib.hid hg
  clear hk hg
  refine hK.out _ _ hE ?_
  have HX := Lib.hid (Ext.trans HX.out hE)
  clear hE hK K
  try simp only [Act.put, List.setIfInBounds_toArray, List.set_cons_zero, List.set_cons_succ]
  refine reg_take (v := ?_) 3 (some 8) rfl rfl (by kernel_rfl) (by kernel_rfl) (by kernel_rfl) (fun _ _ _ h => h) (by rfl) (fun W hW => ?_) ?_
  rotate_left
  · (go_simp; try rfl)
  simp only [Act.put, List.setIfInBounds_toArray, List.set_cons_zero, List.set_cons_succ]
  refine reg_done (by kernel_rfl) ?_
  have B4 : Hid (Below w.heap.size w w4) := B3.out.step HX.out
  go_wp2
  go_ret
  exact ⟨g, Nat.le_trans B3.out.size HG.out, rfl, by rw [HTT.out, HR.out]; exact K6.out, B4.out⟩
end Go.Proofs.YtimgggpojbpfkaaGreatDoor

/- gcm: First, and both. -/
namespace Go.Proofs.YtimgggpojbpfkaaGreatDoor
open Go.RowKit
set_option maxRecDepth 100000
set_option linter.unusedVariables false
set_option linter.unusedSimpArgs false
def one15 : List UInt8 := [0, 0, 0, 0, 0, 0, 0, 0, 0, 0, 0, 0, 0, 0, 0, 1]
def firstG (E : List UInt8 → List UInt8) (iv : List UInt8) : List UInt8 := if iv.length = 12 then iv ++ [0, 0, 0, 1] else gsumL (E zerB) (whG iv ++ lenL 0 (iv.length : Int))
theorem firstG_len (E : List UInt8 → List UInt8) (iv : List UInt8) : (firstG E iv).length = 16 := by
  unfold firstG; split
  · rename_i h; simp [h]
  · exact gsumL_len _ _
theorem first_splice (iv : List UInt8) (h : iv.length = 12) : splice (one15.map bv) 0 (iv.map bv) = (iv ++ [0, 0, 0, 1]).map bv := by
  have := splice_split [] ((List.replicate 12 (0 : UInt8)).map bv) (([0, 0, 0, 1] : List UInt8).map bv) (iv.map bv) (by simp [h])
  simp only [List.length_nil, List.nil_append] at this
  rw [List.map_append, ← this]
  rfl
theorem joinW_two (A3 A5 : Option Addr) (c3 c5 : Nat) (aad LB : List UInt8) (h : LB.length = 16) : joinW [(A3, c3, aad), (A5, c5, LB)] = whG aad ++ LB := by
  have hw : whG LB = LB := by rw [whG, h]; simp [padN]
  simp only [joinW, List.flatMap_cons, List.flatMap_nil, hw, List.append_nil]
theorem rows_two {W : World} {q : Nat} {A3 A5 : Option Addr} {c3 c5 k3 k5 : Nat} {aad LB : List UInt8} {t : TypeId} {fr : Nat × Nat} (h : W.heap[q]? = some (.cells #[.slice A3 k3 c3, .slice A5 k5 c5] t fr)) (h3 : aad.length = k3) (h5 : LB.length = k5)
    (S3 : Sl W A3 c3 aad) (S5 : Sl W A5 c5 LB) : PartsAt W (some ⟨q, 0, none⟩, 2, [(A3, c3, aad), (A5, c5, LB)]) := by
  refine ⟨Nat.le_refl _, by simp [maxLen], ?_, .inr ⟨q, 0, rfl, lt_of_heap h, fun j u hu => ?_⟩⟩
  · intro r hr
    simp only [List.mem_cons, List.not_mem_nil, or_false] at hr
    rcases hr with rfl | rfl
    · exact S3
    · exact S5
  · rw [Nat.zero_add, cell_of_heap (cs := [.slice A3 k3 c3, .slice A5 k5 c5]) h]
    rw [← h3, ← h5]
    exact hu
set_option maxHeartbeats 4000000 in
theorem gfirst_any (kp : Value) (E : List UInt8 → List UInt8) (A : Option Addr) (n c : Nat) (iv : List UInt8) (w : World) (hE : GKey w kp E) (hl : iv.length = n) (h0 : 0 < n) (hn : n ≤ 100000) (hS : Sl w A c iv) :
    Calls Tryz.prog 72 #[kp, .slice A n c] w fun e w' => e = .returned (.agg ((firstG E iv).map bv).toArray) ∧ Below w.heap.size w w' := by
  have hz : ∀ W, (zeroValue 64).run Tryz.prog W = .ok (.agg zeros16.toArray) W := fun W => by kernel_rfl
  have hlz : Hid (zeros16.length = 16) := rfl
  have BD : Hid (∀ W, (Instr.build 64 #[(15, .int .u8 1)]).run Tryz.prog W = .ok (.agg (one15.map bv).toArray) W) := fun W => by kernel_rfl
  have H15 : Hid (one15.length = 16) := rfl
  generalize zeros16 = Z at hz hlz
  have HE := Lib.hid hE; have HL := Lib.hid hl; have HS := Lib.hid hS
  have WR := Lib.hid (fun W (hW : Below w.heap.size w W) => gwrong_any kp E A n c W (hE.ext hW) h0)
  have G := Lib.hid (heap_alloc_new' w (.cells Z.toArray 64))
  have GB : Hid (Below w.heap.size w (w.alloc (.cells Z.toArray 64))) := (Below.refl _ _).alloc (Nat.le_refl _) _
  have FL := Lib.hid (firstG_len E iv)
  by_cases h12 : n = 12
  · have HSP := Lib.hid (first_splice iv (hl.trans h12))
    have HFE : Hid (firstG E iv = iv ++ [0, 0, 0, 1]) := by show _ = _; rw [firstG, if_pos (hl.trans h12)]
    rw [← HFE.out] at HSP
    generalize firstG E iv = R at HSP FL ⊢
    generalize one15 = O at BD HSP H15
    have t12 : ((n : Int) == 12) = true := by simp [h12]
    have HN12 := Lib.hid h12
    clear hE hl hS h12 h0
    go_enter Tryz.func72, Tryz.ntmps72
    go_upto_region 1 with (fail)
    generalize w.alloc _ = W0 at G GB ⊢
    go_wp2_with fail
    refine (WR.out W0 GB.out).mono ?_
    rintro e w1 ⟨rfl, rfl⟩
    go_upto_region 5 with (first
      | (refine wpList_run (o := ⟨some 17, _, _, _, _, _⟩) rfl (v := .agg (O.map bv).toArray) (w' := W0) (exec_bld rfl (by simp only [List.map_toArray, List.map_cons, List.map_nil]; exact BD.out _)) ?_)
      | (refine wpList_st rfl 64 (.tmp 5) (.tmp 17) rfl (store_arr (cs := O.map bv) (i16c O H15.out) (bv_one _) (heap_alloc_new' W0 _) (by rw [List.length_map, H15.out]; exact hlz.out)) ?_
         generalize hV : World.setRow _ _ _ = W3
         have M3 := Lib.hid (heap_of_setRow hV (heap_alloc_new' W0 _))
         have MB := Lib.hid (((Below.refl W0.heap.size W0).alloc (Nat.le_refl _) _).trans (below_of_setRow hV (Nat.le_refl W0.heap.size) (by simp)))
         clear hV)
      | fail)
    have B3 : Hid (Below w.heap.size w W3) := GB.out.step MB.out
    have G3 := Lib.hid ((MB.out.block _ (lt_of_heap G.out)).trans G.out)
    have HQ : Hid (w.heap.size < W0.heap.size) := lt_of_heap G.out
    clear MB GB G WR
    generalize W0.heap.size = q at M3 HQ ⊢
    have ar := arr_all arr16B s8 ⟨q, 0, none⟩
    have S3 := Lib.hid (HS.out.below B3.out)
    obtain ⟨W4, hcopy, hblk, _, hgr⟩ := copy_run uT s8 (sT := 22) 3 W3 q 0 (O.map bv) 64 M3.out (some ⟨q, 0, none⟩) A 16 16 n c W3.heap.size (iv.map bv) (by rw [List.length_map, HL.out, HN12.out]; rfl) (fun _ => rfl) S3.out.2.2 (by rw [List.length_map, List.length_map, HL.out, H15.out, HN12.out]; omega) (bv_one _)
    rw [HSP.out] at hblk
    have M4 := Lib.hid hblk
    have B4 : Hid (Below w.heap.size w W4) := B3.out.trans (grown_below hgr (Nat.le_of_lt HQ.out) B3.out.size)
    have G4 := Lib.hid ((hgr.block _ (lt_of_heap G3.out) (by have := HQ.out; simp; omega)).trans G3.out)
    clear hblk hgr B3 G3 M3
    go_wp2_with (first
      | (refine wpList_ld rfl 64 (.tmp 5) rfl (load_arr arr16B rfl (i16c R FL.out) M4.out) ?_)
      | (refine wpList_st rfl 64 (.tmp 4) (.tmp 21) rfl (store_arr (cs := R.map bv) (i16c R FL.out) (bv_one _) G4.out (by rw [List.length_map, FL.out]; exact hlz.out)) ?_))
    have hres := setRow_heap W4 w.heap.size _ (R.map bv).toArray 64 _ G4.out
    exact bodyPost_ret (results_cell_row (P := Tryz.prog) rfl _ _ w.heap.size 64 (R.map bv).toArray (0, 0) _ rfl hres arr16B rfl (by rw [List.size_toArray]; exact i16c R FL.out)) rfl ⟨rfl, B4.out.trans (grown_below (grown_setRow _ _ _) (Nat.le_refl _) B4.out.size)⟩
  · have HFE : Hid (firstG E iv = gsumL (E zerB) (whG iv ++ lenL 0 (n : Int))) := by show _ = _; rw [firstG, if_neg (by omega), hl]
    rw [HFE.out] at FL ⊢
    have t12 : ((n : Int) == 12) = false := by simp; omega
    have GL := Lib.hid (fun W => glen_any 0 (n : Int) W)
    have HLL := Lib.hid (lenL_len 0 (n : Int))
    generalize lenL 0 (n : Int) = LB at GL HLL FL ⊢
    clear hE hl hS h12 h0
    go_enter Tryz.func72, Tryz.ntmps72
    go_upto_region 1 with (fail)
    generalize w.alloc _ = W0 at G GB ⊢
    go_wp2_with fail
    refine (WR.out W0 GB.out).mono ?_
    rintro e w1 ⟨rfl, rfl⟩
    go_wp2_with fail
    refine (GL.out W0).mono ?_
    rintro e w1 ⟨rfl, hb⟩
    have B1 : Hid (Below w.heap.size w w1) := GB.out.step hb
    have G1 := Lib.hid ((hb.block _ (lt_of_heap G.out)).trans G.out)
    clear hb GB G WR GL
    go_upto_region 8 with (first
      | (refine wpList_st rfl 64 (.tmp 6) (.tmp 24) rfl (store_arr (cs := LB.map bv) (i16c LB HLL.out) (bv_one _) (heap_alloc_new' w1 _) (by rw [List.length_map, HLL.out]; exact hlz.out)) ?_
         generalize hV : World.setRow _ _ _ = W3
         have M3 := Lib.hid (heap_of_setRow hV (heap_alloc_new' w1 _))
         have MB := Lib.hid (((Below.refl w1.heap.size w1).alloc (Nat.le_refl _) _).trans (below_of_setRow hV (Nat.le_refl w1.heap.size) (by simp)))
         clear hV)
      | fail)
    have B3 : Hid (Below w.heap.size w W3) := B1.out.step MB.out
    have G3 := Lib.hid ((MB.out.block _ (lt_of_heap G1.out)).trans G1.out)
    clear MB B1 G1
    generalize w1.heap.size = q at M3 ⊢
    have ar := arr_all arr16B s8 ⟨q, 0, none⟩
    go_wp2_with fail
    have N1 := Lib.hid (heap_alloc_new' W3 (.cells #[.slice A n c, .slice (some ⟨q, 0, none⟩) 16 16] 22))
    have E1 : Hid (Ext W3 (W3.alloc (.cells #[.slice A n c, .slice (some ⟨q, 0, none⟩) 16 16] 22))) := (Below.refl _ _).alloc (Nat.le_refl _) _
    generalize W3.alloc _ = W4 at N1 E1 ⊢
    generalize W3.heap.size = q2 at N1 ⊢
    have B4 : Hid (Below w.heap.size w W4) := B3.out.step E1.out
    have G4 := Lib.hid ((E1.out.block _ (lt_of_heap G3.out)).trans G3.out)
    have K2 := Lib.hid ((E1.out.block _ (lt_of_heap M3.out)).trans M3.out)
    have PA := Lib.hid (rows_two N1.out HL.out HLL.out (HS.out.below B4.out) (sl_row HLL.out (by omega) K2.out))
    have HJW := Lib.hid (joinW_two A (some ⟨q, 0, none⟩) c 16 iv LB HLL.out)
    have hlens : ∀ r ∈ [(A, c, iv), (some (⟨q, 0, none⟩ : Addr), 16, LB)], r.2.2.length ≤ 100000 := by
      intro r hr
      simp only [List.mem_cons, List.not_mem_nil, or_false] at hr
      rcases hr with rfl | rfl
      · show iv.length ≤ _; rw [HL.out]; exact hn
      · show LB.length ≤ _; rw [HLL.out]; omega
    have HASH := Lib.hid (ghashR_any kp E (some ⟨q2, 0, none⟩) 2 2 [(A, c, iv), (some ⟨q, 0, none⟩, 16, LB)] W4 (HE.out.1.ext B4.out) PA.out rfl (by omega) hlens)
    rw [HJW.out] at HASH
    obtain ⟨R, HR⟩ : ∃ R, Hid (gsumL (E zerB) (whG iv ++ LB) = R) := ⟨_, rfl⟩
    rw [HR.out] at HASH FL
    clear hlens PA HJW N1 E1 B3 G3 K2
    refine HASH.out.mono ?_
    rintro e w5 ⟨rfl, hb⟩
    have B5 : Hid (Below w.heap.size w w5) := B4.out.step hb
    have G5 := Lib.hid ((hb.block _ (lt_of_heap G4.out)).trans G4.out)
    clear hb B4 G4 HASH
    go_wp2_with (first
      | (refine wpList_st rfl 64 (.tmp 4) (.tmp 29) rfl (store_arr (cs := R.map bv) (i16c R FL.out) (bv_one _) G5.out (by rw [List.length_map, FL.out]; exact hlz.out)) ?_))
    have hres := setRow_heap w5 w.heap.size _ (R.map bv).toArray 64 _ G5.out
    exact bodyPost_ret (results_cell_row (P := Tryz.prog) rfl _ _ w.heap.size 64 (R.map bv).toArray (0, 0) _ rfl hres arr16B rfl (by rw [List.size_toArray]; exact i16c R FL.out)) rfl ⟨by rw [HR.out], B5.out.trans (grown_below (grown_setRow _ _ _) (Nat.le_refl _) B5.out.size)⟩
set_option maxHeartbeats 1000000 in
theorem gboth_any (F : FuncId) (cap : Array Value) (R : Value → Int → World → Prop) (kp : Value) (E : List UInt8 → List UInt8) (A : Option Addr) (n c : Nat) (iv : List UInt8) (w : World) (hE : GKey w kp E) (hl : iv.length = n) (h0 : 0 < n) (hn : n ≤ 100000) (hS : Sl w A c iv)
    (hcall : ∀ args W, (callFunc F args).run Tryz.prog W = .ok (.enter F args) W)
    (hF : ∀ W, Ext w W → Calls Tryz.prog F (#[.agg ((firstG E iv).map bv).toArray] ++ cap) W fun e W' => ∃ v x, e = .returned (.tuple #[v, .int .i64 x]) ∧ Ext W W' ∧ R v x W') :
    Calls Tryz.prog 43 #[kp, .slice A n c, .func (.func F) #[] cap] w fun e w' => ∃ v x, e = .returned (.tuple #[v, .int .i64 x]) ∧ Ext w w' ∧ R v x w' := by
  have WR := Lib.hid (gwrong_any kp E A n c w hE h0)
  have FI := Lib.hid (gfirst_any kp E A n c iv w hE hl h0 hn hS)
  have HF := Lib.hid hF
  generalize firstG E iv = X at FI HF
  clear hE hl h0 hS hF
  go_enter Tryz.func43, Tryz.ntmps43
  go_wp2_with fail
  refine WR.out.mono ?_
  rintro e w1 ⟨rfl, rfl⟩
  go_wp2_with fail
  refine FI.out.mono ?_
  rintro e w1 ⟨rfl, hb⟩
  have B1 : Hid (Ext w w1) := hb
  clear hb
  go_wp2_with fail
  refine (HF.out w1 B1.out).mono ?_
  rintro e w2 ⟨v, x, rfl, hE, hR⟩
  have HR := Lib.hid hR
  have B2 := Lib.hid (B1.out.trans hE)
  clear hE hR
  go_wp2
  go_ret2
  exact ⟨v, x, rfl, B2.out, HR.out⟩
end Go.Proofs.YtimgggpojbpfkaaGreatDoor

/- gcm: what Seal and Open hand to both; Seal and Open. -/
namespace Go.Proofs.YtimgggpojbpfkaaGreatDoor
open Go.RowKit
set_option maxRecDepth 100000
set_option linter.unusedVariables false
set_option linter.unusedSimpArgs false
/-- bytes, sealed -/
def sealG (E : List UInt8 → List UInt8) (F aad b : List UInt8) : List UInt8 := gcL E F b ++ tagG E F aad (gcL E F b)
theorem sealG_len (E : List UInt8 → List UInt8) (F aad b : List UInt8) (h : (E F).length = 16) : (sealG E F aad b).length = b.length + 16 := by rw [sealG, List.length_append, gcL_len, tagG_len _ _ _ _ h]
theorem box_extG {W W' : World} {g : Nat} {v : Value} {t : TypeId} {fr : Nat × Nat} (h : W.heap[g]? = some (.cells #[v] t fr)) (hE : Below W.heap.size W W') : W'.heap[g]? = some (.cells #[v] t fr) := (hE.block _ (lt_of_heap h)).trans h
theorem box_cellG {W : World} {g : Nat} {v : Value} {t : TypeId} {fr : Nat × Nat} (h : W.heap[g]? = some (.cells #[v] t fr)) : W.cell? ⟨g, 0, none⟩ = some v := by rw [cell_of_heap (cs := [v]) h]; rfl
theorem ge_ownG {a g : Nat} (h : a ≤ g) {n c : Nat} : ∀ k, (Value.slice (some ⟨g, 0, none⟩) n c).ownBlock = some k → a ≤ k := by
  intro k hk
  simp [Value.ownBlock] at hk
  omega
set_option maxHeartbeats 4000000 in
theorem gseal1_any (p : Nat) (E : List UInt8 → List UInt8) (F : List UInt8) (g1 g2 g3 : Nat) (A3 A4 : Option Addr) (k3 c3 k4 c4 : Nat) (aad x : List UInt8) (w : World) (hF : F.length = 16) (hE : Enc w (.pointer (some ⟨p, 0, none⟩)) E) (h3 : aad.length = k3) (h4 : x.length = k4) (h31 : k3 ≤ 1000) (h41 : k4 ≤ 1000)
    (S3 : Sl w A3 c3 aad) (S4 : Sl w A4 c4 x) (H1 : w.heap[g1]? = some (.cells #[.pointer (some ⟨p, 0, none⟩)] 60 (0, 0))) (H2 : w.heap[g2]? = some (.cells #[.slice A4 k4 c4] 22 (0, 0))) (H3 : w.heap[g3]? = some (.cells #[.slice A3 k3 c3] 22 (0, 0))) :
    Calls Tryz.prog 44 #[.agg (F.map bv).toArray, .pointer (some ⟨g1, 0, none⟩), .pointer (some ⟨g2, 0, none⟩), .pointer (some ⟨g3, 0, none⟩)] w fun e w' =>
      ∃ v, e = .returned (.tuple #[v, .int .i64 0]) ∧ w'.ownsRow w.heap.size 5 1 v (k4 + 16) ((sealG E F aad x).map bv) ∧ Below w.heap.size w w' := by
  have HF := Lib.hid hF; have HS3 := Lib.hid S3; have HS4 := Lib.hid S4; have HH1 := Lib.hid H1; have HH2 := Lib.hid H2; have HH3 := Lib.hid H3
  have CR := Lib.hid (fun W (hW : Below w.heap.size w W) hS => gcrypt_any (.pointer (some ⟨p, 0, none⟩)) E F A4 k4 c4 x W hF (hE.ext hW) h4 (by omega) hS)
  have HCL : Hid ((gcL E F x).length = k4) := by show _ = _; rw [gcL_len]; exact h4
  have TA := Lib.hid (fun A c W (hW : Below w.heap.size w W) hS3 hS => gtag_any (.pointer (some ⟨p, 0, none⟩)) E F A3 A k3 c3 k4 c aad (gcL E F x) W hF (hE.ext hW) h3 HCL.out (by omega) (by omega) hS3 hS)
  have HSE : Hid (gcL E F x ++ tagG E F aad (gcL E F x) = sealG E F aad x) := rfl
  have HTL := Lib.hid (tagG_len E F aad (gcL E F x) (hE.1 F hF))
  generalize tagG E F aad (gcL E F x) = T at TA HSE HTL
  generalize gcL E F x = C at CR HCL TA HSE
  generalize sealG E F aad x = R at HSE ⊢
  have G := Lib.hid (heap_alloc_new' w (.cells (F.map bv).toArray 64))
  have GB : Hid (Below w.heap.size w (w.alloc (.cells (F.map bv).toArray 64))) := (Below.refl _ _).alloc (Nat.le_refl _) _
  have hk31 : k4 + 16 ≤ 2147483647 := by omega
  clear hF hE h3 h4 S3 S4 H1 H2 H3
  go_enter Tryz.func44, Tryz.ntmps44
  go_upto_region 1 with (fail)
  generalize w.alloc _ = W0 at G GB ⊢
  have c1 := box_cellG (box_extG HH1.out GB.out)
  have c2 := box_cellG (box_extG HH2.out GB.out)
  go_upto_region 2 with (first
    | (refine wpList_ld rfl 64 (.tmp 4) rfl (load_arr arr16B rfl (i16c F HF.out) G.out) ?_))
  refine (CR.out W0 GB.out (HS4.out.below GB.out)).mono ?_
  rintro e w1 ⟨v1, rfl, hO, hb1⟩
  obtain ⟨A1, cc1, rfl, hl3, h31', h32, hr3⟩ := own_read hO
  have S1 := Lib.hid (sl_mk hl3 h31' h32 hr3)
  have O1 := Lib.hid hO
  have B1 : Hid (Below w.heap.size w w1) := GB.out.step hb1
  have F1 := Lib.hid ((hb1.block _ (lt_of_heap G.out)).trans G.out)
  have hge : Hid (w.heap.size ≤ W0.heap.size) := GB.out.size
  clear hl3 h31' h32 hr3 hO hb1 c1 c2 GB G CR
  have c1 := box_cellG (box_extG HH1.out B1.out)
  have c3' := box_cellG (box_extG HH3.out B1.out)
  go_wp2_with (first
    | (refine wpList_ld rfl 64 (.tmp 4) rfl (load_arr arr16B rfl (i16c F HF.out) F1.out) ?_))
  refine (TA.out A1 cc1 w1 B1.out (HS3.out.below B1.out) S1.out).mono ?_
  rintro e w2 ⟨g2', hg2, rfl, hk2, hb2⟩
  have B2 : Hid (Below w.heap.size w w2) := B1.out.step hb2
  have O2 := Lib.hid (c_own_below (own_mono O1.out hge.out) hb2)
  have T2 := Lib.hid hk2
  have HS2 : Hid (w.heap.size ≤ w2.heap.size) := B2.out.size
  clear hg2 hk2 hb2 c1 c3' B1 F1 O1 S1 TA
  go_wp2_with (first
    | (at_builtin
       refine wpList_app8 rfl (.tmp 12) (.tmp 17) rfl w.heap.size _ k4 C rfl ?_ (some ⟨g2', 0, none⟩) 16 16 w2.heap.size T rfl ?_ ?_ ?_ ?_ ?_
       · exact O2.out
       · exact (sl_row HTL.out (by omega) T2.out).2.2
       · exact HTL.out
       · exact hk31
       · exact HS2.out
       rintro v4 w4 hown hgr
       have HO4 := Lib.hid hown
       have B4 : Hid (Below w.heap.size w w4) := B2.out.grown hgr B2.out.size (c_own_ge O2.out (Nat.le_refl _))
       clear hown hgr)
    | fail)
  go_ret2
  exact ⟨_, rfl, by rw [← HSE.out]; exact HO4.out, B4.out⟩
theorem gcallSeal : ∀ args W, (callFunc 44 args).run Tryz.prog W = .ok (.enter 44 args) W := fun _ _ => by kernel_rfl
theorem gcallOpen : ∀ args W, (callFunc 47 args).run Tryz.prog W = .ok (.enter 47 args) W := fun _ _ => by kernel_rfl
theorem heap_thr (w : World) (o1 o2 o3 : Obj) : (((w.alloc o1).alloc o2).alloc o3).heap[w.heap.size]? = some o1 ∧ (((w.alloc o1).alloc o2).alloc o3).heap[w.heap.size + 1]? = some o2 ∧ (((w.alloc o1).alloc o2).alloc o3).heap[w.heap.size + 2]? = some o3 ∧ Below w.heap.size w (((w.alloc o1).alloc o2).alloc o3) := heap3 w o1 o2 o3
set_option maxHeartbeats 2000000 in
theorem gseal_any (p : Nat) (E : List UInt8 → List UInt8) (iv aad x : List UInt8) (A2 A3 A4 : Option Addr) (k2 c2 k3 c3 k4 c4 : Nat) (w : World) (hE : GKey w (.pointer (some ⟨p, 0, none⟩)) E) (h2 : iv.length = k2) (h20 : 0 < k2) (h21 : k2 ≤ 1000) (h3 : aad.length = k3) (h4 : x.length = k4) (h31 : k3 ≤ 1000) (h41 : k4 ≤ 1000)
    (S2 : Sl w A2 c2 iv) (S3 : Sl w A3 c3 aad) (S4 : Sl w A4 c4 x) :
    Calls Tryz.prog 25 #[.pointer (some ⟨p, 0, none⟩), .slice A2 k2 c2, .slice A3 k3 c3, .slice A4 k4 c4] w fun e w' =>
      ∃ v, e = .returned (.tuple #[v, .int .i64 0]) ∧ w'.ownsRow w.heap.size 5 1 v (k4 + 16) ((sealG E (firstG E iv) aad x).map bv) ∧ Below w.heap.size w w' := by
  have G := heap_thr w (.cells #[.pointer (some ⟨p, 0, none⟩)] 60) (.cells #[.slice A3 k3 c3] 22) (.cells #[.slice A4 k4 c4] 22)
  have BA : Hid (Calls Tryz.prog 43 #[.pointer (some ⟨p, 0, none⟩), .slice A2 k2 c2, .func (.func 44) #[] #[.pointer (some ⟨w.heap.size, 0, none⟩), .pointer (some ⟨w.heap.size + 2, 0, none⟩), .pointer (some ⟨w.heap.size + 1, 0, none⟩)]] (((w.alloc (.cells #[.pointer (some ⟨p, 0, none⟩)] 60)).alloc (.cells #[.slice A3 k3 c3] 22)).alloc (.cells #[.slice A4 k4 c4] 22)) fun e w' =>
      ∃ v y, e = .returned (.tuple #[v, .int .i64 y]) ∧ Ext (((w.alloc (.cells #[.pointer (some ⟨p, 0, none⟩)] 60)).alloc (.cells #[.slice A3 k3 c3] 22)).alloc (.cells #[.slice A4 k4 c4] 22)) w' ∧ (y = 0 ∧ w'.ownsRow w.heap.size 5 1 v (k4 + 16) ((sealG E (firstG E iv) aad x).map bv))) := by
    generalize ((w.alloc _).alloc _).alloc _ = W0 at G ⊢
    refine gboth_any 44 _ (fun v y w' => y = 0 ∧ w'.ownsRow w.heap.size 5 1 v (k4 + 16) ((sealG E (firstG E iv) aad x).map bv)) _ E A2 k2 c2 iv W0 (hE.ext G.2.2.2) h2 h20 (by omega) (S2.below G.2.2.2) gcallSeal fun W hW => ?_
    have hb := G.2.2.2.step hW
    refine (gseal1_any p E (firstG E iv) w.heap.size (w.heap.size + 2) (w.heap.size + 1) A3 A4 k3 c3 k4 c4 aad x W (firstG_len _ _) (hE.1.ext hb) h3 h4 h31 h41 (S3.below hb) (S4.below hb) (box_extG G.1 hW) (box_extG G.2.2.1 hW) (box_extG G.2.1 hW)).mono ?_
    rintro e w' ⟨v, rfl, hO, hB⟩
    exact ⟨v, 0, rfl, hB, rfl, own_mono hO hb.size⟩
  have GB := Lib.hid G.2.2.2
  clear G hE h2 h3 h4 S2 S3 S4
  generalize sealG E (firstG E iv) aad x = R at BA ⊢
  go_enter Tryz.func25, Tryz.ntmps25
  go_wp2_with fail
  refine BA.out.mono ?_
  rintro e w' ⟨v, y, rfl, hE, rfl, hO⟩
  have HO := Lib.hid hO
  have HB : Hid (Below w.heap.size w w') := GB.out.step hE
  clear hO hE
  go_wp2
  go_ret2
  exact ⟨_, rfl, HO.out, HB.out⟩
/-- what opening comes to -/
def OpenG (w : World) (E : List UInt8 → List UInt8) (F aad b : List UInt8) (m : Nat) (v : Value) (x : Int) (w' : World) : Prop :=
  if tagG E F aad (b.take m) = b.drop m then x = 0 ∧ w'.ownsRow w.heap.size 5 1 v m ((gcL E F (b.take m)).map bv) else v = .slice none 0 0 ∧ x = 7
set_option maxHeartbeats 8000000 in
theorem gopen1_any (p : Nat) (E : List UInt8 → List UInt8) (F : List UInt8) (g1 g2 g3 : Nat) (A3 A4 : Option Addr) (k3 c3 k4 c4 m : Nat) (aad x : List UInt8) (w : World) (hF : F.length = 16) (hE : Enc w (.pointer (some ⟨p, 0, none⟩)) E) (h3 : aad.length = k3) (h4 : x.length = k4) (h31 : k3 ≤ 1000) (h41 : k4 ≤ 1000) (hm : k4 = m + 16)
    (S3 : Sl w A3 c3 aad) (S4 : Sl w A4 c4 x) (H1 : w.heap[g1]? = some (.cells #[.pointer (some ⟨p, 0, none⟩)] 60 (0, 0))) (H2 : w.heap[g2]? = some (.cells #[.slice A4 k4 c4] 22 (0, 0))) (H3 : w.heap[g3]? = some (.cells #[.slice A3 k3 c3] 22 (0, 0))) :
    Calls Tryz.prog 47 #[.agg (F.map bv).toArray, .pointer (some ⟨g2, 0, none⟩), .pointer (some ⟨g1, 0, none⟩), .pointer (some ⟨g3, 0, none⟩)] w fun e w' =>
      ∃ v y, e = .returned (.tuple #[v, .int .i64 y]) ∧ Below w.heap.size w w' ∧ OpenG w E F aad x m v y w' := by
  have HF := Lib.hid hF; have HS3 := Lib.hid S3; have HS4 := Lib.hid S4; have HH1 := Lib.hid H1; have HH2 := Lib.hid H2; have HH3 := Lib.hid H3
  have htl : (x.take m).length = m := by rw [List.length_take, h4]; omega
  have hdl : (x.drop m).length = 16 := by rw [List.length_drop, h4]; omega
  have ST := Lib.hid (sl_take' (q := m) S4)
  have SD := Lib.hid (sl_cut (k := m) S4 (by omega))
  have CR := Lib.hid (fun W (hW : Below w.heap.size w W) hS => gcrypt_any (.pointer (some ⟨p, 0, none⟩)) E F A4 m c4 (x.take m) W hF (hE.ext hW) htl (by omega) hS)
  have TA := Lib.hid (fun W (hW : Below w.heap.size w W) hS3 hS => gtag_any (.pointer (some ⟨p, 0, none⟩)) E F A3 A4 k3 c3 m c4 aad (x.take m) W hF (hE.ext hW) h3 htl (by omega) (by omega) hS3 hS)
  have HTL := Lib.hid (tagG_len E F aad (x.take m) (hE.1 F hF))
  have EQ := Lib.hid (fun A W hS hS' => equal_n A (cutS A4 c4 m) 16 16 16 (c4 - m) (tagG E F aad (x.take m)) (x.drop m) W HTL.out hdl hS hS' (by omega) (by omega))
  have PN := Lib.hid (fun (h : decide (tagG E F aad (x.take m) = x.drop m) = false) (w' : World) => (show OpenG w E F aad x m (.slice none 0 0) 7 w' from by unfold OpenG; rw [if_neg (of_decide_eq_false h)]; exact ⟨rfl, rfl⟩))
  have PY := Lib.hid (fun (h : decide (tagG E F aad (x.take m) = x.drop m) = true) (v : Value) (w' : World) (ho : w'.ownsRow w.heap.size 5 1 v m ((gcL E F (x.take m)).map bv)) => (show OpenG w E F aad x m v 0 w' from by unfold OpenG; rw [if_pos (of_decide_eq_true h)]; exact ⟨rfl, ho⟩))
  generalize OpenG w E F aad x m = PO at PN PY ⊢
  generalize tagG E F aad (x.take m) = T at TA HTL EQ PN PY
  generalize gcL E F (x.take m) = C at CR PY
  generalize x.take m = X1 at ST TA CR
  generalize x.drop m = X2 at SD EQ PN PY
  have sl1 := cut_to uT s8 A4 k4 c4 .i64 (m : Int) (by omega) (by have := S4.1; omega)
  have sl2 := cut_from uT s8 A4 k4 c4 .i64 (m : Int) (by omega) (by omega)
  rw [Int.toNat_natCast] at sl1 sl2
  rw [show k4 - m = 16 by omega] at sl2
  have u1 : (k4 : Int) - 16 = (m : Int) := by omega
  have u2 : IntKind.i64.wrap ((k4 : Int) - 16) = (m : Int) := by rw [IntKind.wrap_i64]; omega
  have u3 : IntKind.i64.wrap (m : Int) = (m : Int) := by rw [IntKind.wrap_i64]; omega
  have hmc : m ≤ c4 := by have := S4.1; omega
  have hmk : m ≤ k4 := by omega
  have h16 : ¬ ((k4 : Int) < 16) := by omega
  have G := Lib.hid (heap_alloc_new' w (.cells (F.map bv).toArray 64))
  have GB : Hid (Below w.heap.size w (w.alloc (.cells (F.map bv).toArray 64))) := (Below.refl _ _).alloc (Nat.le_refl _) _
  clear hF hE h3 h4 S3 S4 H1 H2 H3 htl hdl hm
  go_enter Tryz.func47, Tryz.ntmps47
  go_upto_region 1 with (fail)
  generalize w.alloc _ = W0 at G GB ⊢
  have c2 := box_cellG (box_extG HH2.out GB.out)
  go_upto_region 3 with (fail)
  clear c2
  have HX : Hid (Ext W0 W0.drew) := (Below.refl _ _).drew
  refine reg_start (by kernel_rfl) ?_
  try simp only [Act.put, List.setIfInBounds_toArray, List.set_cons_zero, List.set_cons_succ]
  refine reg_load 0 (some 12) (fun W hW => o_load_slice uT (box_cellG (box_extG HH2.out (GB.out.step (HX.out.trans hW))))) rfl rfl rfl rfl (by kernel_rfl) (by kernel_rfl) (by kernel_rfl) (fun _ _ _ h => h) (by rfl) ?_
  simp only [Act.put, List.setIfInBounds_toArray, List.set_cons_zero, List.set_cons_succ]
  refine reg_load 1 (some 13) (fun W hW => o_load_slice uT (box_cellG (box_extG HH2.out (GB.out.step (HX.out.trans hW))))) rfl rfl rfl rfl (by kernel_rfl) (by kernel_rfl) (by kernel_rfl) (fun _ _ _ h => h) (by rfl) ?_
  simp only [Act.put, List.setIfInBounds_toArray, List.set_cons_zero, List.set_cons_succ]
  refine reg_take (v := ?_) 2 (some 14) rfl rfl (by kernel_rfl) (by kernel_rfl) (by kernel_rfl) (fun _ _ _ h => h) (by rfl) (fun W hW => ?_) ?_
  rotate_left
  · (go_simp; try rfl)
  simp only [Act.put, List.setIfInBounds_toArray, List.set_cons_zero, List.set_cons_succ]
  refine reg_take (v := ?_) 3 (some 15) rfl rfl (by kernel_rfl) (by kernel_rfl) (by kernel_rfl) (fun _ _ _ h => h) (by rfl) (fun W hW => ?_) ?_
  rotate_left
  · (go_simp; try rfl)
  simp only [Act.put, List.setIfInBounds_toArray, List.set_cons_zero, List.set_cons_succ]
  refine reg_take (v := ?_) 4 (some 16) rfl rfl (by kernel_rfl) (by kernel_rfl) (by kernel_rfl) (fun _ _ _ h => h) (by rfl) (fun W hW => ?_) ?_
  rotate_left
  · (go_simp; try rfl)
  simp only [Act.put, List.setIfInBounds_toArray, List.set_cons_zero, List.set_cons_succ]
  refine reg_load 5 (some 17) (fun W hW => o_load_slice uT (box_cellG (box_extG HH2.out (GB.out.step (HX.out.trans hW))))) rfl rfl rfl rfl (by kernel_rfl) (by kernel_rfl) (by kernel_rfl) (fun _ _ _ h => h) (by rfl) ?_
  simp only [Act.put, List.setIfInBounds_toArray, List.set_cons_zero, List.set_cons_succ]
  refine reg_load 6 (some 18) (fun W hW => o_load_slice uT (box_cellG (box_extG HH2.out (GB.out.step (HX.out.trans hW))))) rfl rfl rfl rfl (by kernel_rfl) (by kernel_rfl) (by kernel_rfl) (fun _ _ _ h => h) (by rfl) ?_
  simp only [Act.put, List.setIfInBounds_toArray, List.set_cons_zero, List.set_cons_succ]
  refine reg_take (v := ?_) 7 (some 19) rfl rfl (by kernel_rfl) (by kernel_rfl) (by kernel_rfl) (fun _ _ _ h => h) (by rfl) (fun W hW => ?_) ?_
  rotate_left
  · (go_simp; try rfl)
  simp only [Act.put, List.setIfInBounds_toArray, List.set_cons_zero, List.set_cons_succ]
  refine reg_take (v := ?_) 8 (some 20) rfl rfl (by kernel_rfl) (by kernel_rfl) (by kernel_rfl) (fun _ _ _ h => h) (by rfl) (fun W hW => ?_) ?_
  rotate_left
  · (go_simp; try rfl)
  simp only [Act.put, List.setIfInBounds_toArray, List.set_cons_zero, List.set_cons_succ]
  refine reg_take (v := ?_) 9 (some 21) rfl rfl (by kernel_rfl) (by kernel_rfl) (by kernel_rfl) (fun _ _ _ h => h) (by rfl) (fun W hW => ?_) ?_
  rotate_left
  · (go_simp; try rfl)
  simp only [Act.put, List.setIfInBounds_toArray, List.set_cons_zero, List.set_cons_succ]
  refine reg_take (v := ?_) 10 (some 7) rfl rfl (by kernel_rfl) (by kernel_rfl) (by kernel_rfl) (fun _ _ _ h => h) (by rfl) (fun W hW => ?_) ?_
  rotate_left
  · (go_simp; try rfl)
  simp only [Act.put, List.setIfInBounds_toArray, List.set_cons_zero, List.set_cons_succ]
  refine reg_take (v := ?_) 11 (some 8) rfl rfl (by kernel_rfl) (by kernel_rfl) (by kernel_rfl) (fun _ _ _ h => h) (by rfl) (fun W hW => ?_) ?_
  rotate_left
  · (go_simp; try rfl)
  simp only [Act.put, List.setIfInBounds_toArray, List.set_cons_zero, List.set_cons_succ]
  refine reg_done (by kernel_rfl) ?_
  have B1 : Hid (Below w.heap.size w W0.drew) := GB.out.step HX.out
  have F1 : Hid (W0.drew.heap[w.heap.size]? = _) := G.out
  generalize W0.drew = w1 at B1 F1 ⊢
  clear G GB HX
  have c1 := box_cellG (box_extG HH1.out B1.out)
  have c3' := box_cellG (box_extG HH3.out B1.out)
  go_wp2_with (first
    | (refine wpList_ld rfl 64 (.tmp 4) rfl (load_arr arr16B rfl (i16c F HF.out) F1.out) ?_))
  refine (TA.out w1 B1.out (HS3.out.below B1.out) (ST.out.below B1.out)).mono ?_
  rintro e w2 ⟨g2', hg2, rfl, hk2, hb2⟩
  have B2 : Hid (Below w.heap.size w w2) := B1.out.step hb2
  have F2 := Lib.hid ((hb2.block _ (lt_of_heap F1.out)).trans F1.out)
  have T2 := Lib.hid hk2
  clear hg2 hk2 hb2 c1 c3' B1 F1 TA
  go_wp2_with fail
  refine (EQ.out _ w2 (sl_row HTL.out (by omega) T2.out) (SD.out.below B2.out)).mono ?_
  rintro e w3 ⟨rfl, hb⟩
  have B3 : Hid (Below w.heap.size w w3) := B2.out.step hb
  have F3 := Lib.hid ((hb.block _ (lt_of_heap F2.out)).trans F2.out)
  clear hb B2 F2 T2 EQ SD
  generalize hbb : decide (T = X2) = bb at PN PY
  have PN := PN.out; have PY := PY.out
  cases bb with
  | false =>
    have PN' := Lib.hid (PN rfl)
    clear hbb PN PY
    go_wp2_with fail
    go_ret2
    exact ⟨_, _, rfl, B3.out, PN'.out _⟩
  | true =>
    have PY' := Lib.hid (PY rfl)
    clear hbb PN PY
    have c1 := box_cellG (box_extG HH1.out B3.out)
    go_wp2_with (first
      | (refine wpList_ld rfl 64 (.tmp 4) rfl (load_arr arr16B rfl (i16c F HF.out) F3.out) ?_))
    refine (CR.out w3 B3.out (ST.out.below B3.out)).mono ?_
    rintro e w4 ⟨v, rfl, hO, hb⟩
    have B4 : Hid (Below w.heap.size w w4) := B3.out.step hb
    have O4 := Lib.hid (own_mono hO B3.out.size)
    clear hO hb c1
    go_wp2
    go_ret2
    exact ⟨_, _, rfl, B4.out, PY'.out _ _ O4.out⟩
set_option maxHeartbeats 2000000 in
theorem gopen_any (p : Nat) (E : List UInt8 → List UInt8) (iv aad x : List UInt8) (A2 A3 A4 : Option Addr) (k2 c2 k3 c3 k4 c4 m : Nat) (w : World) (hE : GKey w (.pointer (some ⟨p, 0, none⟩)) E) (h2 : iv.length = k2) (h20 : 0 < k2) (h21 : k2 ≤ 1000) (h3 : aad.length = k3) (h4 : x.length = k4) (h31 : k3 ≤ 1000) (h41 : k4 ≤ 1000) (hm : k4 = m + 16)
    (S2 : Sl w A2 c2 iv) (S3 : Sl w A3 c3 aad) (S4 : Sl w A4 c4 x) :
    Calls Tryz.prog 26 #[.pointer (some ⟨p, 0, none⟩), .slice A2 k2 c2, .slice A3 k3 c3, .slice A4 k4 c4] w fun e w' =>
      ∃ v y, e = .returned (.tuple #[v, .int .i64 y]) ∧ OpenG w E (firstG E iv) aad x m v y w' ∧ Below w.heap.size w w' := by
  have G := heap_thr w (.cells #[.pointer (some ⟨p, 0, none⟩)] 60) (.cells #[.slice A3 k3 c3] 22) (.cells #[.slice A4 k4 c4] 22)
  have BA : Hid (Calls Tryz.prog 43 #[.pointer (some ⟨p, 0, none⟩), .slice A2 k2 c2, .func (.func 47) #[] #[.pointer (some ⟨w.heap.size + 2, 0, none⟩), .pointer (some ⟨w.heap.size, 0, none⟩), .pointer (some ⟨w.heap.size + 1, 0, none⟩)]] (((w.alloc (.cells #[.pointer (some ⟨p, 0, none⟩)] 60)).alloc (.cells #[.slice A3 k3 c3] 22)).alloc (.cells #[.slice A4 k4 c4] 22)) fun e w' =>
      ∃ v y, e = .returned (.tuple #[v, .int .i64 y]) ∧ Ext (((w.alloc (.cells #[.pointer (some ⟨p, 0, none⟩)] 60)).alloc (.cells #[.slice A3 k3 c3] 22)).alloc (.cells #[.slice A4 k4 c4] 22)) w' ∧ OpenG w E (firstG E iv) aad x m v y w') := by
    generalize ((w.alloc _).alloc _).alloc _ = W0 at G ⊢
    refine gboth_any 47 _ (fun v y w' => OpenG w E (firstG E iv) aad x m v y w') _ E A2 k2 c2 iv W0 (hE.ext G.2.2.2) h2 h20 (by omega) (S2.below G.2.2.2) gcallOpen fun W hW => ?_
    have hb := G.2.2.2.step hW
    refine (gopen1_any p E (firstG E iv) w.heap.size (w.heap.size + 2) (w.heap.size + 1) A3 A4 k3 c3 k4 c4 m aad x W (firstG_len _ _) (hE.1.ext hb) h3 h4 h31 h41 hm (S3.below hb) (S4.below hb) (box_extG G.1 hW) (box_extG G.2.2.1 hW) (box_extG G.2.1 hW)).mono ?_
    rintro e w' ⟨v, y, rfl, hB, hO⟩
    refine ⟨v, y, rfl, hB, ?_⟩
    unfold OpenG at hO ⊢
    split
    · rename_i h; rw [if_pos h] at hO; exact ⟨hO.1, own_mono hO.2 hb.size⟩
    · rename_i h; rw [if_neg h] at hO; exact hO
  have GB := Lib.hid G.2.2.2
  clear G hE h2 h3 h4 S2 S3 S4 hm
  generalize OpenG w E (firstG E iv) aad x m = R at BA ⊢
  go_enter Tryz.func26, Tryz.ntmps26
  go_wp2_with fail
  refine BA.out.mono ?_
  rintro e w' ⟨v, y, rfl, hE, hO⟩
  have HO := Lib.hid hO
  have HB : Hid (Below w.heap.size w w') := GB.out.step hE
  clear hO hE
  go_wp2
  go_ret2
  exact ⟨_, _, rfl, HO.out, HB.out⟩
end Go.Proofs.YtimgggpojbpfkaaGreatDoor

/- algo.Do: what is opened by CHACHA; sealed and opened by GCM. -/
namespace Go.Proofs.YtimgggpojbpfkaaGreatDoor
open Go.RowKit Go.Shelf
set_option linter.unusedVariables false
set_option linter.unusedSimpArgs false
set_option maxRecDepth 100000
def openRow (w0 : World) (m : Nat) (ok : Bool) (X : List UInt8) (v : Value) (y : Int) (W : World) : Prop := if ok = true then y = 0 ∧ W.ownsRow w0.heap.size 5 1 v m (X.map bv) else v = .slice none 0 0 ∧ y = 7
set_option maxHeartbeats 2000000 in
theorem do6o_any (key iv aad b : List UInt8) (Ak Ai Aa Ab : Option Addr) (kn kc vn ic an ac n cb : Nat) (w : World) (m : Nat) (hk : key.length = kn) (hkn : kn = 32) (hi : iv.length = vn) (hvn : vn = 12) (ha : aad.length = an) (hb : b.length = n) (ha2 : an ≤ 1000) (hn : n ≤ 1000) (hm : n = m + 16) (S1 : Sl w Ak kc key) (S2 : Sl w Ai ic iv) (S3 : Sl w Aa ac aad) (S4 : Sl w Ab cb b) :
    Calls Tryz.prog 6 #[.agg (parV 6 true Ak kn kc Ai vn ic Aa an ac).toArray, .slice Ab n cb] w fun e w' => ∃ v y, e = .returned (.tuple #[v, .int .i64 y]) ∧ openRow w m (decide (tagL key iv aad (b.take m) = b.drop m)) (cryptC key iv 1#32 (b.take m)) v y w' ∧ Below w.heap.size w w' := by
  refine (do_any (openRow w m (decide (tagL key iv aad (b.take m) = b.drop m)) (cryptC key iv 1#32 (b.take m))) 6 true Ak kn kc Ai vn ic Aa an ac Ab n cb w (by omega) (by omega) (by omega) (by omega) ?_).mono ?_
  · intro k n0 d W hx h1 h2 hh hk6 hi6 ha6 hr hD hbb
    obtain rfl : k = 6 := by omega
    have hD : ByKey n0 W d 29 := hD
    obtain ⟨g, t, hg, rfl, hcell⟩ := hD
    refine ⟨49, #[.pointer (some ⟨g, 0, none⟩)], rfl, enters_of Tryz.func49 (by kernel_rfl) rfl, ?_⟩
    show Calls Tryz.prog 49 #[.agg (parV 6 true Ak kn kc Ai vn ic Aa an ac).toArray, .slice Ab n cb, .pointer (some ⟨g, 0, none⟩)] W _
    subst hkn
    subst hvn
    refine byKey1_any _ 29 (enters_of Tryz.func29 (by kernel_rfl) rfl) 6 true Ak 32 kc Ai 12 ic Aa an ac Ab n cb g t W hcell ?_
    intro W2 hb2
    have b2 := hbb.step hb2
    refine (aopen_any key iv aad b Ak Ai Aa Ab kc ic an ac n cb m W2 hk hi ha hb (by omega) (by omega) hm (S1.below b2) (S2.below b2) (S3.below b2) (S4.below b2)).mono ?_
    rintro e W3 ⟨v, y, rfl, hO, hb3⟩
    refine ⟨_, _, rfl, ?_, hb3⟩
    unfold OpenE at hO
    unfold openRow
    by_cases hq : tagL key iv aad (b.take m) = b.drop m
    · rw [if_pos hq] at hO
      rw [if_pos (by simpa using hq)]
      exact ⟨hO.1, Go.Joins.ownsRow_le hO.2 b2.size⟩
    · rw [if_neg hq] at hO
      rw [if_neg (by simpa using hq)]
      exact hO
  · rintro e w' ⟨v, y, rfl, hD, hbb⟩
    have h1 : checkR 6 true kn vn an = 0 := by
      have : ¬ ((1000 : Int) < (an : Int)) := by omega
      subst hkn; subst hvn; simp [checkR, hasA, hasW, keyP, ivP, aadK, this]
    have h2 : (roomR 6 true (n : Int)).2 = 0 := by
      have : ¬ ((n : Int) < 0) := by omega
      have h16 : ¬ (n < 16) := by omega
      simp [roomR, hasA, hasW, roomP, lessR, this, h16]
    unfold DoR at hD
    rw [if_neg (by rw [h1]; simp), if_neg (by rw [h2]; simp)] at hD
    exact ⟨v, y, rfl, hD, hbb⟩
set_option maxHeartbeats 2000000 in
theorem do5s_any (key iv aad b : List UInt8) (Ak Ai Aa Ab : Option Addr) (kn kc vn ic an ac n cb : Nat) (w : World) (nk : Nat) (hk : key.length = kn) (hkn : kn = 4 * nk) (hnk : nk = 4 ∨ nk = 8) (hi : iv.length = vn) (hv1 : 1 ≤ vn) (hv2 : vn ≤ 64) (ha : aad.length = an) (hb : b.length = n) (ha2 : an ≤ 1000) (hn : n ≤ 1000) (S1 : Sl w Ak kc key) (S2 : Sl w Ai ic iv) (S3 : Sl w Aa ac aad) (S4 : Sl w Ab cb b) :
    Calls Tryz.prog 6 #[.agg (parV 5 false Ak kn kc Ai vn ic Aa an ac).toArray, .slice Ab n cb] w fun e w' => ∃ v y, e = .returned (.tuple #[v, .int .i64 y]) ∧ sealRow w (n + 16) (sealG (encL (expandL key) (nk + 6)) (firstG (encL (expandL key) (nk + 6)) iv) aad b) v y w' ∧ Below w.heap.size w w' := by
  refine (do_any (sealRow w (n + 16) (sealG (encL (expandL key) (nk + 6)) (firstG (encL (expandL key) (nk + 6)) iv) aad b)) 5 false Ak kn kc Ai vn ic Aa an ac Ab n cb w (by omega) (by omega) (by omega) (by omega) ?_).mono ?_
  · intro k n0 d W hx h1 h2 hh hk6 hi6 ha6 hr hD hbb
    obtain rfl : k = 5 := by omega
    have hD : ByAes n0 W d 25 := hD
    obtain ⟨g, t, hg, rfl, hcell⟩ := hD
    refine ⟨33, #[.pointer (some ⟨g, 0, none⟩)], rfl, enters_of Tryz.func33 (by kernel_rfl) rfl, ?_⟩
    show Calls Tryz.prog 33 #[.agg (parV 5 false Ak kn kc Ai vn ic Aa an ac).toArray, .slice Ab n cb, .pointer (some ⟨g, 0, none⟩)] W _
    refine byAES1_any _ 25 (enters_of Tryz.func25 (by kernel_rfl) rfl) 5 false Ak kn kc Ai vn ic Aa an ac Ab n cb g t nk key W hk hkn hnk (S1.below hbb) hcell ?_
    intro p W2 hb2 hK
    have b2 := hbb.step hb2
    refine (gseal_any p (encL (expandL key) (nk + 6)) iv aad b Ai Aa Ab vn ic an ac n cb W2 (KeyAt.gkey hK (by omega) (by omega)) hi (by omega) (by omega) ha hb ha2 hn (S2.below b2) (S3.below b2) (S4.below b2)).mono ?_
    rintro e W3 ⟨v, rfl, hO, hb3⟩
    exact ⟨_, _, rfl, ⟨rfl, Go.Joins.ownsRow_le hO b2.size⟩, hb3⟩
  · rintro e w' ⟨v, y, rfl, hD, hbb⟩
    have h1 : checkR 5 false kn vn an = 0 := by
      have : ¬ ((1000 : Int) < (an : Int)) := by omega
      simp [checkR, hasA, hasW, keyP, ivP, aadK, this, hv1, hv2]; omega
    have h2 : (roomR 5 false (n : Int)).2 = 0 := by
      have : ¬ ((n : Int) < 0) := by omega
      simp [roomR, hasA, hasW, roomP, this]
    unfold DoR at hD
    rw [if_neg (by rw [h1]; simp), if_neg (by rw [h2]; simp)] at hD
    exact ⟨v, y, rfl, hD, hbb⟩
set_option maxHeartbeats 2000000 in
theorem do5o_any (key iv aad b : List UInt8) (Ak Ai Aa Ab : Option Addr) (kn kc vn ic an ac n cb : Nat) (w : World) (nk : Nat) (hk : key.length = kn) (hkn : kn = 4 * nk) (hnk : nk = 4 ∨ nk = 8) (hi : iv.length = vn) (hv1 : 1 ≤ vn) (hv2 : vn ≤ 64) (ha : aad.length = an) (hb : b.length = n) (ha2 : an ≤ 1000) (hn : n ≤ 1000) (m : Nat) (hm : n = m + 16) (S1 : Sl w Ak kc key) (S2 : Sl w Ai ic iv) (S3 : Sl w Aa ac aad) (S4 : Sl w Ab cb b) :
    Calls Tryz.prog 6 #[.agg (parV 5 true Ak kn kc Ai vn ic Aa an ac).toArray, .slice Ab n cb] w fun e w' => ∃ v y, e = .returned (.tuple #[v, .int .i64 y]) ∧ openRow w m (decide (tagG (encL (expandL key) (nk + 6)) (firstG (encL (expandL key) (nk + 6)) iv) aad (b.take m) = b.drop m)) (gcL (encL (expandL key) (nk + 6)) (firstG (encL (expandL key) (nk + 6)) iv) (b.take m)) v y w' ∧ Below w.heap.size w w' := by
  refine (do_any (openRow w m (decide (tagG (encL (expandL key) (nk + 6)) (firstG (encL (expandL key) (nk + 6)) iv) aad (b.take m) = b.drop m)) (gcL (encL (expandL key) (nk + 6)) (firstG (encL (expandL key) (nk + 6)) iv) (b.take m))) 5 true Ak kn kc Ai vn ic Aa an ac Ab n cb w (by omega) (by omega) (by omega) (by omega) ?_).mono ?_
  · intro k n0 d W hx h1 h2 hh hk6 hi6 ha6 hr hD hbb
    obtain rfl : k = 5 := by omega
    have hD : ByAes n0 W d 26 := hD
    obtain ⟨g, t, hg, rfl, hcell⟩ := hD
    refine ⟨33, #[.pointer (some ⟨g, 0, none⟩)], rfl, enters_of Tryz.func33 (by kernel_rfl) rfl, ?_⟩
    show Calls Tryz.prog 33 #[.agg (parV 5 true Ak kn kc Ai vn ic Aa an ac).toArray, .slice Ab n cb, .pointer (some ⟨g, 0, none⟩)] W _
    refine byAES1_any _ 26 (enters_of Tryz.func26 (by kernel_rfl) rfl) 5 true Ak kn kc Ai vn ic Aa an ac Ab n cb g t nk key W hk hkn hnk (S1.below hbb) hcell ?_
    intro p W2 hb2 hK
    have b2 := hbb.step hb2
    refine (gopen_any p (encL (expandL key) (nk + 6)) iv aad b Ai Aa Ab vn ic an ac n cb m W2 (KeyAt.gkey hK (by omega) (by omega)) hi (by omega) (by omega) ha hb ha2 hn hm (S2.below b2) (S3.below b2) (S4.below b2)).mono ?_
    rintro e W3 ⟨v, y, rfl, hO, hb3⟩
    refine ⟨_, _, rfl, ?_, hb3⟩
    unfold OpenG at hO
    unfold openRow
    by_cases hq : tagG (encL (expandL key) (nk + 6)) (firstG (encL (expandL key) (nk + 6)) iv) aad (b.take m) = b.drop m
    · rw [if_pos hq] at hO
      rw [if_pos (by simpa using hq)]
      exact ⟨hO.1, Go.Joins.ownsRow_le hO.2 b2.size⟩
    · rw [if_neg hq] at hO
      rw [if_neg (by simpa using hq)]
      exact hO
  · rintro e w' ⟨v, y, rfl, hD, hbb⟩
    have h1 : checkR 5 true kn vn an = 0 := by
      have : ¬ ((1000 : Int) < (an : Int)) := by omega
      simp [checkR, hasA, hasW, keyP, ivP, aadK, this, hv1, hv2]; omega
    have h2 : (roomR 5 true (n : Int)).2 = 0 := by
      have : ¬ ((n : Int) < 0) := by omega
      have h16 : ¬ (n < 16) := by omega
      simp [roomR, hasA, hasW, roomP, lessR, this, h16]
    unfold DoR at hD
    rw [if_neg (by rw [h1]; simp), if_neg (by rw [h2]; simp)] at hD
    exact ⟨v, y, rfl, hD, hbb⟩
end Go.Proofs.YtimgggpojbpfkaaGreatDoor

/- algo.Do sealed by params of an algorithm from 5 on; opened again with a byte of the tag turned. -/
namespace Go.Proofs.YtimgggpojbpfkaaGreatDoor
open Go.RowKit Go.Shelf
set_option linter.unusedVariables false
set_option linter.unusedSimpArgs false
set_option maxRecDepth 100000
theorem turn_row (C T : List UInt8) (m q : Nat) (d : UInt8) (hC : C.length = m) (hT : T.length = 16) (hq : q < 16) (hd : d ≠ 0) :
    ((C ++ T).set (m + q) ((C ++ T).getD (m + q) 0 ^^^ d)).take m = C ∧ ((C ++ T).set (m + q) ((C ++ T).getD (m + q) 0 ^^^ d)).drop m ≠ T := by
  have e0 : (C ++ T).set (m + q) ((C ++ T).getD (m + q) 0 ^^^ d) = C ++ T.set q (T.getD q 0 ^^^ d) := by
    rw [List.set_append_right _ _ (by omega), hC, Nat.add_sub_cancel_left]
    congr 3
    rw [List.getD_eq_getElem?_getD, List.getElem?_append_right (by omega), hC, Nat.add_sub_cancel_left, List.getD_eq_getElem?_getD]
  rw [e0]
  refine ⟨List.take_left' hC, ?_⟩
  rw [List.drop_left' hC]
  intro e
  have := congrArg (fun l => l.getD q 0) e
  simp only [List.getD_eq_getElem?_getD] at this
  rw [List.getElem?_set_self (by omega), Option.getD_some] at this
  have h2 := congrArg (T[q]?.getD 0 ^^^ ·) this
  simp only [UInt8.xor_self] at h2
  rw [← UInt8.xor_assoc, UInt8.xor_self, UInt8.zero_xor] at h2
  exact hd h2
theorem encL_len17 (ws : List W32) (n : Nat) (b : List UInt8) (hw : ws.length = 60) (hn : n ≤ 14) : (encL ws n b).length = 16 := by
  unfold encL encT
  rw [outL_len, addW_len _ _ _ (shiftW_len _ _) (by omega)]
/-- a sealed text that is not opened with a byte of its tag turned -/
def TurnOK (x : Int) (Ak : Option Addr) (kn kc : Nat) (Ai : Option Addr) (vn ic : Nat) (Aa : Option Addr) (an ac : Nat) (key iv aad : List UInt8) (n : Nat) (X : List UInt8) : Prop :=
  X.length = n + 16 ∧ ∀ (q : Nat) (d : UInt8), q < 16 → d ≠ 0 → ∀ (A4 : Option Addr) (n4 c4 : Nat) (W : World), n4 = n + 16 → Sl W Ak kc key → Sl W Ai ic iv → Sl W Aa ac aad → Sl W A4 c4 (X.set (n + q) (X.getD (n + q) 0 ^^^ d)) →
    Calls Tryz.prog 6 #[.agg (parV x true Ak kn kc Ai vn ic Aa an ac).toArray, .slice A4 n4 c4] W fun e w' => e = .returned (.tuple #[.slice none 0 0, .int .i64 7]) ∧ Below W.heap.size W w'
theorem openRow_no {w0 w' : World} {m : Nat} {ok : Bool} {X : List UInt8} {v : Value} {y : Int} (h : openRow w0 m ok X v y w') (hk : ok = false) : v = .slice none 0 0 ∧ y = 7 := by
  subst hk
  exact h
set_option maxHeartbeats 2000000 in
theorem dos_any (x : Int) (Ak : Option Addr) (kn kc : Nat) (Ai : Option Addr) (vn ic : Nat) (Aa : Option Addr) (an ac : Nat) (Ab : Option Addr) (n cb : Nat) (key iv aad b : List UInt8) (w : World) (hx : 5 ≤ x) (hk : key.length = kn) (hi : iv.length = vn) (ha : aad.length = an) (hb : b.length = n)
    (k2 : kn ≤ 2147000000) (i2 : vn ≤ 2147000000) (a2 : an ≤ 2147000000) (hn : n ≤ 900) (S1 : Sl w Ak kc key) (S2 : Sl w Ai ic iv) (S3 : Sl w Aa ac aad) (S4 : Sl w Ab cb b) :
    Calls Tryz.prog 6 #[.agg (parV x false Ak kn kc Ai vn ic Aa an ac).toArray, .slice Ab n cb] w fun e w' => ∃ v y, e = .returned (.tuple #[v, .int .i64 y]) ∧
      ((v = .slice none 0 0 ∧ y ≠ 0) ∨ (y = 0 ∧ ∃ X, w'.ownsRow w.heap.size 5 1 v (n + 16) (X.map bv) ∧ TurnOK x Ak kn kc Ai vn ic Aa an ac key iv aad n X)) ∧ Below w.heap.size w w' := by
  by_cases hc : checkR x false kn vn an = 0
  · obtain ⟨h1, h2, h3, h4⟩ := check_zero hc
    have hx6 : x = 5 ∨ x = 6 := by
      unfold hasA at h1
      simp only [Bool.and_eq_true, decide_eq_true_eq] at h1
      omega
    rcases hx6 with rfl | rfl
    · have h2 : (decide (kn ∈ ([16, 32] : List Nat))) = true := h2
      have h3 : (decide (1 ≤ vn) && decide (vn ≤ 64)) = true := h3
      have h4 : (an : Int) ≤ 1000 := h4
      simp only [decide_eq_true_eq, List.mem_cons, List.not_mem_nil, or_false] at h2
      simp only [Bool.and_eq_true, decide_eq_true_eq] at h3
      obtain ⟨nk, hkn, hnk⟩ : ∃ nk, kn = 4 * nk ∧ (nk = 4 ∨ nk = 8) := by
        rcases h2 with h2 | h2
        · exact ⟨4, by omega, .inl rfl⟩
        · exact ⟨8, by omega, .inr rfl⟩
      refine (do5s_any key iv aad b Ak Ai Aa Ab kn kc vn ic an ac n cb w nk hk hkn hnk hi h3.1 h3.2 ha hb (by omega) (by omega) S1 S2 S3 S4).mono ?_
      rintro e w' ⟨v, y, rfl, ⟨rfl, hO⟩, hbb⟩
      have hEF : (encL (expandL key) (nk + 6) (firstG (encL (expandL key) (nk + 6)) iv)).length = 16 := encL_len17 _ _ _ (expandL_len _ (by omega)) (by omega)
      refine ⟨v, 0, rfl, .inr ⟨rfl, _, hO, by rw [sealG_len _ _ _ _ hEF, hb], ?_⟩, hbb⟩
      intro q d hq hd A4 n4 c4 W hn4 T1 T2 T3 T4
      have hlen : ((sealG (encL (expandL key) (nk + 6)) (firstG (encL (expandL key) (nk + 6)) iv) aad b).set (n + q) ((sealG (encL (expandL key) (nk + 6)) (firstG (encL (expandL key) (nk + 6)) iv) aad b).getD (n + q) 0 ^^^ d)).length = n4 := by
        rw [List.length_set, sealG_len _ _ _ _ hEF, hb, hn4]
      refine (do5o_any key iv aad _ Ak Ai Aa A4 kn kc vn ic an ac n4 c4 W nk hk hkn hnk hi h3.1 h3.2 ha hlen (by omega) (by omega) n hn4 T1 T2 T3 T4).mono ?_
      rintro e w2 ⟨v2, y2, rfl, hop, hb2⟩
      obtain ⟨t1, t2⟩ := turn_row (gcL (encL (expandL key) (nk + 6)) (firstG (encL (expandL key) (nk + 6)) iv) b) (tagG (encL (expandL key) (nk + 6)) (firstG (encL (expandL key) (nk + 6)) iv) aad (gcL (encL (expandL key) (nk + 6)) (firstG (encL (expandL key) (nk + 6)) iv) b)) n q d (by rw [gcL_len]; exact hb) (tagG_len _ _ _ _ hEF) hq hd
      have hno := openRow_no hop (by
        rw [decide_eq_false_iff_not]
        unfold sealG
        rw [t1]
        exact fun e => t2 e.symm)
      obtain ⟨rfl, rfl⟩ := hno
      exact ⟨rfl, hb2⟩
    · have h2 : (decide (kn ∈ ([32] : List Nat))) = true := h2
      have h3 : (decide (vn ∈ ([12] : List Nat))) = true := h3
      have h4 : (an : Int) ≤ 1000 := h4
      simp only [decide_eq_true_eq, List.mem_cons, List.not_mem_nil, or_false] at h2 h3
      subst h2
      subst h3
      refine (do6s_any key iv aad b Ak Ai Aa Ab kc ic an ac n cb w hk hi ha hb (by omega) (by omega) S1 S2 S3 S4).mono ?_
      rintro e w' ⟨v, rfl, hO, hbb⟩
      have hsl : (sealE key iv aad b).length = n + 16 := by rw [sealE, List.length_append, cryptC_len, tagL_len, hb]
      refine ⟨v, 0, rfl, .inr ⟨rfl, _, hO, hsl, ?_⟩, hbb⟩
      intro q d hq hd A4 n4 c4 W hn4 T1 T2 T3 T4
      have hlen : ((sealE key iv aad b).set (n + q) ((sealE key iv aad b).getD (n + q) 0 ^^^ d)).length = n4 := by rw [List.length_set, hsl, hn4]
      refine (do6o_any key iv aad _ Ak Ai Aa A4 32 kc 12 ic an ac n4 c4 W n hk rfl hi rfl ha hlen (by omega) (by omega) hn4 T1 T2 T3 T4).mono ?_
      rintro e w2 ⟨v2, y2, rfl, hop, hb2⟩
      obtain ⟨t1, t2⟩ := turn_row (cryptC key iv 1#32 b) (tagL key iv aad (cryptC key iv 1#32 b)) n q d (by rw [cryptC_len]; exact hb) (tagL_len _ _ _ _) hq hd
      have hno := openRow_no hop (by
        rw [decide_eq_false_iff_not]
        unfold sealE
        rw [t1]
        exact fun e => t2 e.symm)
      obtain ⟨rfl, rfl⟩ := hno
      exact ⟨rfl, hb2⟩
  · refine (do_any (fun _ _ _ => False) x false Ak kn kc Ai vn ic Aa an ac Ab n cb w (by omega) (by omega) (by omega) (by omega) ?_).mono ?_
    · intro k n0 d W hxk h1 h2 hh hk6 hi6 ha6 hr hD hbb
      exfalso
      apply hc
      subst hxk
      unfold checkR
      rw [hasA_yes h1 h2 hh, Int.toNat_natCast, hk6, hi6, if_neg (by decide), if_neg (by decide), if_neg (by decide), if_neg (by omega)]
    · rintro e w' ⟨v, y, rfl, hD, hbb⟩
      unfold DoR at hD
      rw [if_pos hc] at hD
      obtain ⟨rfl, rfl⟩ := hD
      exact ⟨_, _, rfl, .inl ⟨rfl, hc⟩, hbb⟩
end Go.Proofs.YtimgggpojbpfkaaGreatDoor

/- palfreyref12: Class, Room; the law's short. -/
namespace Go.Proofs.YtimgggpojbpfkaaGreatDoor
open Go.RowKit Go.Shelf
set_option linter.unusedVariables false
set_option linter.unusedSimpArgs false
set_option maxRecDepth 100000
def clsR (x : Int) : Int := if x < 1 ∨ 6 < x then 0 else clsK x.toNat
def shortR (kn vn an : Nat) : Bool := decide (kn ≤ 120) && decide (vn ≤ 100) && decide (an ≤ 1100)
set_option maxHeartbeats 2000000 in
theorem short_any (x : Int) (o : Bool) (Ak : Option Addr) (kn kc : Nat) (Ai : Option Addr) (vn ic : Nat) (Aa : Option Addr) (an ac : Nat) (w : World) (h1 : kn ≤ 9223372036854775807) (h2 : vn ≤ 9223372036854775807) (h3 : an ≤ 9223372036854775807) :
    Calls Tryz.prog 4 #[.agg (parV x o Ak kn kc Ai vn ic Aa an ac).toArray] w fun e w' => e = .returned (.bool (shortR kn vn an)) ∧ Below w.heap.size w w' := by
  have PC := Lib.hid (fun (W : World) (g : Nat) (t : TypeId) (fr : Nat × Nat) (h : W.heap[g]? = some (.cells (parV x o Ak kn kc Ai vn ic Aa an ac).toArray t fr)) => par_cells h)
  obtain ⟨y, hy⟩ : ∃ y, y = shortR kn vn an := ⟨_, rfl⟩
  rw [← hy]
  have HY := Lib.hid hy
  clear hy
  generalize parV x o Ak kn kc Ai vn ic Aa an ac = PV at PC ⊢
  go_enter Tryz.func4, Tryz.ntmps4
  go_upto_region 1 with (fail)
  have HB := Lib.hid (heap_alloc_new' w (.cells PV.toArray 24))
  have B0 : Hid (Below w.heap.size w (w.alloc (.cells PV.toArray 24))) := (Below.refl _ _).alloc (Nat.le_refl _) _
  generalize w.alloc _ = W0 at HB B0 ⊢
  have c2 := (PC.out _ _ _ _ HB.out).2.2.1
  have c3 := (PC.out _ _ _ _ HB.out).2.2.2.1
  have c4 := (PC.out _ _ _ _ HB.out).2.2.2.2
  clear PC HB
  by_cases t1 : kn ≤ 120
  · have s1 : (kn : Int) ≤ 120 := by omega
    by_cases t2 : vn ≤ 100
    · have s2 : (vn : Int) ≤ 100 := by omega
      by_cases t3 : an ≤ 1100
      · have s3 : (an : Int) ≤ 1100 := by omega
        have HYV : y = true := by rw [HY.out, shortR, decide_eq_true t1, decide_eq_true t2, decide_eq_true t3]; rfl
        subst HYV
        clear t1 t2 t3 HY
        go_wp2
        go_ret
        exact ⟨by simp [s3], B0.out⟩
      · have s3 : ¬ ((an : Int) ≤ 1100) := by omega
        have HYV : y = false := by rw [HY.out, shortR, decide_eq_false t3, Bool.and_false]
        subst HYV
        clear t1 t2 t3 HY
        go_wp2
        go_ret
        exact ⟨by simp [s3], B0.out⟩
    · have s2 : ¬ ((vn : Int) ≤ 100) := by omega
      have HYV : y = false := by rw [HY.out, shortR, decide_eq_false t2, Bool.and_false, Bool.false_and]
      subst HYV
      clear t1 t2 HY
      go_wp2
      go_ret
      exact ⟨by simp [s2], B0.out⟩
  · have s1 : ¬ ((kn : Int) ≤ 120) := by omega
    have HYV : y = false := by rw [HY.out, shortR, decide_eq_false t1, Bool.false_and, Bool.false_and]
    subst HYV
    clear t1 HY
    go_wp2
    go_ret
    exact ⟨by simp [s1], B0.out⟩
end Go.Proofs.YtimgggpojbpfkaaGreatDoor

/- Params that come in (layer 12). -/
namespace Go.Proofs.YtimgggpojbpfkaaGreatDoor
open Go.RowKit Go.ChangeShapes Go.WideShapes Go.ChangeAt
set_option maxRecDepth 100000
set_option linter.unusedVariables false
set_option linter.unusedSimpArgs false
structure ParY where
  (x : Int) (o : Bool) (A1 : Option Addr) (c1 : Nat) (k : List UInt8) (A2 : Option Addr) (c2 : Nat) (iv : List UInt8) (A3 : Option Addr) (c3 : Nat) (a : List UInt8)
def ParY.cells (y : ParY) : List Value := [.int .i64 y.x, .bool y.o, .slice y.A1 y.k.length y.c1, .slice y.A2 y.iv.length y.c2, .slice y.A3 y.a.length y.c3]
def ParY.ok (y : ParY) (w : World) : Prop := (Lit.int .i64 y.x).wf = true ∧ Sl w y.A1 y.c1 y.k ∧ Sl w y.A2 y.c2 y.iv ∧ Sl w y.A3 y.c3 y.a
theorem split5x1 (L : List Value) (h : L.length = 5) : L = L.take 1 ++ ((L.drop 1).take 1 ++ ((L.drop 2).take 1 ++ ((L.drop 3).take 1 ++ (L.drop 4).take 1))) := by
  match L, h with
  | [a, b, c, d, e], _ => rfl
theorem trod5 {P : Program} {H : Type} {enc : TypeId × Value → H} {w : World} {base : Nat} {spare : Nat → Bool} {held : Bool} {t : TypeId} {f0 f1 f2 f3 f4 : Field} {fuel : Nat} {cs : List Value} {x : DataW H × List MemPlace} (ht : P.underlying t = some (.struct #[f0, f1, f2, f3, f4])) (h : DataW.trod enc P w base spare held fuel t cs = some x) :
    ∃ y0 y1 y2 y3 y4 n, cs.length = P.cellsOf t ∧ DataW.trod enc P w base spare held n f0.type ((cs.drop f0.offset).take (P.cellsOf f0.type)) = some y0 ∧
      DataW.trod enc P w base spare held n f1.type ((cs.drop f1.offset).take (P.cellsOf f1.type)) = some y1 ∧ DataW.trod enc P w base spare held n f2.type ((cs.drop f2.offset).take (P.cellsOf f2.type)) = some y2 ∧
      DataW.trod enc P w base spare held n f3.type ((cs.drop f3.offset).take (P.cellsOf f3.type)) = some y3 ∧ DataW.trod enc P w base spare held n f4.type ((cs.drop f4.offset).take (P.cellsOf f4.type)) = some y4 := by
  obtain ⟨xs, n, _, rfl, hl, hlen, hf⟩ := DataW.trod_struct ht h
  match xs, hlen with
  | [y0, y1, y2, y3, y4], _ => exact ⟨y0, y1, y2, y3, y4, n, hl, by simpa using hf 0 f0 rfl, by simpa using hf 1 f1 rfl, by simpa using hf 2 f2 rfl, by simpa using hf 3 f3 rfl, by simpa using hf 4 f4 rfl⟩
theorem open_palfreyref12_Params {H : Type} {enc : TypeId × Value → H} {W : World} {base : Nat} {v : Value} {d : DataW H} {p : List MemPlace}
    (hv : Value.okWide Tryz.prog W .any base 24 v) (h : DataW.Trod enc Tryz.prog W 0 (fun _ => true) true 24 v d p) :
    ∃ y : ParY, v = .agg y.cells.toArray ∧ y.ok W := by
  obtain ⟨cs, rfl, hsz⟩ := okWide_struct Tryz.underlying24 hv
  obtain ⟨fuel, hf⟩ := h
  obtain ⟨y0, y1, y2, y3, y4, m, hl, h0, h1, h2, h3, h4⟩ := trod5 Tryz.underlying24 hf
  simp only [Value.cells] at hl h0 h1 h2 h3 h4
  have hc : Tryz.prog.cellsOf 24 = 5 := by kernel_rfl
  have c0 : Tryz.prog.cellsOf 3 = 1 := by kernel_rfl
  have c1 : Tryz.prog.cellsOf 4 = 1 := by kernel_rfl
  have c2 : Tryz.prog.cellsOf 22 = 1 := by kernel_rfl
  rw [hc] at hl
  rw [c0] at h0
  rw [c1] at h1
  rw [c2] at h2 h3 h4
  obtain ⟨x, e0, _, wx⟩ := DataW.trod_int Tryz.underlying3 h0
  obtain ⟨b, e1, _⟩ := DataW.trod_bool Tryz.underlying4 h1
  obtain ⟨A1, k1, k, e2, s1⟩ := open_bytes_cs h2
  obtain ⟨A2, k2, iv, e3, s2⟩ := open_bytes_cs h3
  obtain ⟨A3, k3, a, e4, s3⟩ := open_bytes_cs h4
  refine ⟨⟨x, b, A1, k1, k, A2, k2, iv, A3, k3, a⟩, ?_, wx, s1, s2, s3⟩
  congr 1
  apply Array.ext'
  have hs := split5x1 cs.toList hl
  simp only [List.drop_zero] at e0
  rw [e0, e1, e2, e3, e4] at hs
  rw [hs]
  simp [ParY.cells]
end Go.Proofs.YtimgggpojbpfkaaGreatDoor

/- Params, a text, which byte of the tag is turned, and how, that come in (law AlgoTurned). -/
namespace Go.Proofs.YtimgggpojbpfkaaGreatDoor
open Go.RowKit Go.ChangeShapes Go.WideShapes Go.ChangeAt
set_option maxRecDepth 100000
set_option linter.unusedVariables false
set_option linter.unusedSimpArgs false
theorem p_of_cells {H : Type} {enc : TypeId × Value → H} {W : World} {fuel : Nat} {cs : List Value} {x : DataW H × List MemPlace}
    (hf : DataW.trod enc Tryz.prog W 0 (fun _ => true) true fuel 24 cs = some x) : ∃ y : ParY, cs = y.cells ∧ y.ok W := by
  obtain ⟨y0, y1, y2, y3, y4, m, hl, h0, h1, h2, h3, h4⟩ := trod5 Tryz.underlying24 hf
  have hc : Tryz.prog.cellsOf 24 = 5 := by kernel_rfl
  have c0 : Tryz.prog.cellsOf 3 = 1 := by kernel_rfl
  have c1 : Tryz.prog.cellsOf 4 = 1 := by kernel_rfl
  have c2 : Tryz.prog.cellsOf 22 = 1 := by kernel_rfl
  rw [hc] at hl
  rw [c0] at h0
  rw [c1] at h1
  rw [c2] at h2 h3 h4
  obtain ⟨x, e0, _, wx⟩ := DataW.trod_int Tryz.underlying3 h0
  obtain ⟨b, e1, _⟩ := DataW.trod_bool Tryz.underlying4 h1
  obtain ⟨A1, k1, k, e2, s1⟩ := open_bytes_cs h2
  obtain ⟨A2, k2, iv, e3, s2⟩ := open_bytes_cs h3
  obtain ⟨A3, k3, a, e4, s3⟩ := open_bytes_cs h4
  refine ⟨⟨x, b, A1, k1, k, A2, k2, iv, A3, k3, a⟩, ?_, wx, s1, s2, s3⟩
  have hs := split5x1 cs hl
  simp only [List.drop_zero] at e0
  rw [e0, e1, e2, e3, e4] at hs
  rw [hs]
  simp [ParY.cells]
structure TurnZ where
  (p : ParY) (A : Option Addr) (cap : Nat) (b : List UInt8) (at_ : UInt8) (by_ : UInt8)
def TurnZ.cells (y : TurnZ) : List Value := y.p.cells ++ [.slice y.A y.b.length y.cap, .int .u8 (y.at_.toNat : Int), .int .u8 (y.by_.toNat : Int)]
def TurnZ.ok (y : TurnZ) (w : World) : Prop := y.p.ok w ∧ Sl w y.A y.cap y.b
theorem split8z (L : List Value) (h : L.length = 8) : L = L.take 5 ++ ((L.drop 5).take 1 ++ ((L.drop 6).take 1 ++ (L.drop 7).take 1)) := by
  match L, h with
  | [a, b, c, d, e, f, g, i], _ => rfl
theorem open_palfreylaw12_Turned {H : Type} {enc : TypeId × Value → H} {W : World} {base : Nat} {v : Value} {d : DataW H} {p : List MemPlace}
    (hv : Value.okWide Tryz.prog W .any base 26 v) (h : DataW.Trod enc Tryz.prog W 0 (fun _ => true) true 26 v d p) :
    ∃ y : TurnZ, v = .agg y.cells.toArray ∧ y.ok W := by
  obtain ⟨cs, rfl, hsz⟩ := okWide_struct Tryz.underlying26 hv
  obtain ⟨fuel, hf⟩ := h
  obtain ⟨y0, y1, y2, y3, m, _, hl, h0, h1, h2, h3⟩ := Go.Joins.trod_struct4 Tryz.underlying26 hf
  simp only [Value.cells] at hl h0 h1 h2 h3
  have hc : Tryz.prog.cellsOf 26 = 8 := by kernel_rfl
  have c0 : Tryz.prog.cellsOf 24 = 5 := by kernel_rfl
  have c1 : Tryz.prog.cellsOf 22 = 1 := by kernel_rfl
  have c2 : Tryz.prog.cellsOf 5 = 1 := by kernel_rfl
  rw [hc] at hl
  rw [c0] at h0
  rw [c1] at h1
  rw [c2] at h2 h3
  obtain ⟨py, e0, hp⟩ := p_of_cells h0
  obtain ⟨A, cap, b, e1, hs⟩ := open_bytes_cs h1
  obtain ⟨a2, e2, _, w2⟩ := DataW.trod_int Tryz.underlying5 h2
  obtain ⟨a3, e3, _, w3⟩ := DataW.trod_int Tryz.underlying5 h3
  obtain ⟨at_, rfl⟩ := u8_of w2
  obtain ⟨by_, rfl⟩ := u8_of w3
  refine ⟨⟨py, A, cap, b, at_, by_⟩, ?_, hp, hs⟩
  congr 1
  apply Array.ext'
  have hs := split8z cs.toList hl
  simp only [List.drop_zero] at e0
  rw [e0, e1, e2, e3] at hs
  rw [hs]
  simp [TurnZ.cells]
end Go.Proofs.YtimgggpojbpfkaaGreatDoor

/- What the row's condition on the rounds' numbers gives the walks. -/
namespace Go.Proofs.YtimgggpojbpfkaaGreatDoor
open Go.ChangeShapes Go.WideShapes Go.ChangeAt Go.RowKit
set_option linter.unusedVariables false
set_option linter.unusedSimpArgs false
theorem gRounds : Tryz.prog.globalNamed "palfrey/sha.rounds" = some 0 := by kernel_rfl
theorem tRounds : (Tryz.prog.globals[0]?).map (·.type) = some 168 := by kernel_rfl
theorem laidL : (Rows.laid_palfrey_sha_rounds : DataW Unit) = .agg (roundsL.map fun (n : Nat) => .lit (.int .u32 (n : Int))) := rfl
theorem roundsL_lt : ∀ i, i < 64 → roundsL.getD i 0 < 4294967296 := by decide
theorem rnd_of_laid {W : World} (h : laidMetH Tryz.prog [("palfrey/sha.rounds", Rows.laid_palfrey_sha_rounds)] W) : Rnd W := by
  rw [MakeChecks.laidMetH_plain _ _ _ (by kernel_rfl)] at h
  obtain ⟨ps, ⟨g0, t0, cs0, f0, p0, q0, hg0, ht0, hv0, hd0, _, _⟩, _, _⟩ := h
  obtain rfl := Option.some.inj (gRounds.symm.trans hg0)
  obtain rfl := Option.some.inj (tRounds.symm.trans ht0)
  obtain ⟨xs, m1, rfl, hx1, hlen, hn, hel⟩ := DataW.trod_array Tryz.underlying168 hd0
  have c1 : Tryz.prog.cellsOf 76 = 1 := by kernel_rfl
  have c64 : Tryz.prog.cellsOf 168 = 64 := by kernel_rfl
  rw [laidL] at hx1
  simp only [Prod.mk.injEq, DataW.agg.injEq] at hx1
  have hc : ∀ i, i < 64 → W.cell? ⟨0, i, none⟩ = some (wv (kL i)) := by
    intro i hi
    have h1 := hel i hi
    have hix : i < xs.length := by omega
    rw [List.getElem?_eq_getElem hix] at h1
    obtain ⟨k, e1, e2, _⟩ := DataW.trod_int Tryz.underlying76 h1
    have h2 := congrArg (fun l => l[i]?) hx1.1
    simp only [List.getElem?_map, List.getElem?_eq_getElem hix] at h2
    have h3 : i < roundsL.length := hi
    rw [List.getElem?_eq_getElem h3] at h2
    simp only [Option.map_some, Option.some.injEq, e2, DataW.lit.injEq, Lit.int.injEq, true_and] at h2
    rw [World.var?_cell hg0 hv0 i]
    rw [c1, Nat.mul_one] at e1
    have h4 := congrArg (fun l => l[0]?) e1
    simp [List.getElem?_take] at h4
    rw [h4, ← h2]
    have h5 := roundsL_lt i hi
    simp only [List.getD, List.getElem?_eq_getElem h3, Option.getD_some] at h5
    simp only [wv, kL, List.getD, List.getElem?_eq_getElem h3, Option.getD_some, BitVec.toNat_ofNat, Nat.mod_eq_of_lt h5]
  refine ⟨?_, hc⟩
  have := hc 0 (by omega)
  rcases Nat.eq_zero_or_pos W.heap.size with h0 | h0
  · simp [World.cell?, Array.getElem?_eq_none (show W.heap.size ≤ 0 by omega)] at this
  · exact h0
end Go.Proofs.YtimgggpojbpfkaaGreatDoor

/- Laws of layer 12: with a byte of the tag turned what is sealed is not opened. -/
namespace Go.Proofs.YtimgggpojbpfkaaGreatDoor
open Go.RowKit Go.Shelf
set_option linter.unusedVariables false
set_option linter.unusedSimpArgs false
set_option maxRecDepth 100000
theorem i5T : (Tryz.prog.info? 24).map (·.size) = some 5 := by kernel_rfl
theorem i5A : (Tryz.prog.info? 28).map (·.size) = some 5 := by kernel_rfl
theorem shortT_yes {kn vn an : Nat} (h : shortR kn vn an = true) : kn ≤ 120 ∧ vn ≤ 100 ∧ an ≤ 1100 := by
  simp [shortR] at h
  omega
theorem turn_cells {W : World} {g : Nat} {PV : List Value} {A : Option Addr} {n c : Nat} {a_ b_ : Int} {t : TypeId} {fr : Nat × Nat} (hl : PV.length = 5) (h : W.heap[g]? = some (.cells (PV ++ ([.slice A n c, .int .u8 a_, .int .u8 b_] : List Value)).toArray t fr)) :
    W.rangeAt g 0 PV ∧ W.cell? ⟨g, 5, none⟩ = some (.slice A n c) ∧ W.cell? ⟨g, 6, none⟩ = some (.int .u8 a_) ∧ W.cell? ⟨g, 7, none⟩ = some (.int .u8 b_) := by
  refine ⟨fun j v hv => ?_, ?_, ?_, ?_⟩
  · have hj := (List.getElem?_eq_some_iff.1 hv).1
    rw [cell_of_heap h, Nat.zero_add, List.getElem?_append_left hj]; exact hv
  · rw [cell_of_heap h, List.getElem?_append_right (by omega), hl]; rfl
  · rw [cell_of_heap h, List.getElem?_append_right (by omega), hl]; rfl
  · rw [cell_of_heap h, List.getElem?_append_right (by omega), hl]; rfl
theorem zeroPar12 (W : World) : (zeroValue 24).run Tryz.prog W = .ok (.agg zeroPar.toArray) W := by kernel_rfl
theorem zeroParA (W : World) : (zeroValue 28).run Tryz.prog W = .ok (.agg zeroPar.toArray) W := by kernel_rfl
theorem turn_cellsV (x : Int) (o : Bool) (Ak : Option Addr) (kc : Nat) (k : List UInt8) (Ai : Option Addr) (ic : Nat) (iv : List UInt8) (Aa : Option Addr) (ac : Nat) (aad : List UInt8) (A : Option Addr) (c : Nat) (b : List UInt8) (at_ by_ : UInt8) :
    TurnZ.cells ⟨⟨x, o, Ak, kc, k, Ai, ic, iv, Aa, ac, aad⟩, A, c, b, at_, by_⟩ = parV x o Ak k.length kc Ai iv.length ic Aa aad.length ac ++ ([.slice A b.length c, .int .u8 (at_.toNat : Int), .int .u8 (by_.toNat : Int)] : List Value) := by
  unfold TurnZ.cells ParY.cells parV
  rfl
set_option maxHeartbeats 8000000 in
theorem algoTurned_walk (w : World) (y : TurnZ) (l : y.ok w) (hR : Rnd w) :
    Calls Tryz.prog 3 #[.agg y.cells.toArray] w fun e w' => e = .returned (.bool true) ∧ Below w.heap.size w w' := by
  obtain ⟨⟨x, o, Ak, kc, k, Ai, ic, iv, Aa, ac, aad⟩, A, c, b, at_, by_⟩ := y
  obtain ⟨⟨wx, hs1, hs2, hs3⟩, hsb⟩ := l
  simp only at wx hs1 hs2 hs3 hsb
  clear hR
  have hx : -9223372036854775808 ≤ x ∧ x ≤ 9223372036854775807 := bounds_i64 wx
  clear wx
  have S1 := Lib.hid hs1; have S2 := Lib.hid hs2; have S3 := Lib.hid hs3; have SB := Lib.hid hsb
  have q1 : k.length ≤ 9223372036854775807 := by have := hs1.1; have := hs1.2.1; simp [maxLen] at this; omega
  have q2 : iv.length ≤ 9223372036854775807 := by have := hs2.1; have := hs2.2.1; simp [maxLen] at this; omega
  have q3 : aad.length ≤ 9223372036854775807 := by have := hs3.1; have := hs3.2.1; simp [maxLen] at this; omega
  have q4 : b.length ≤ 9223372036854775807 := by have := hsb.1; have := hsb.2.1; simp [maxLen] at this; omega
  rw [turn_cellsV]
  obtain ⟨kn, hkn⟩ : ∃ m, k.length = m := ⟨_, rfl⟩
  obtain ⟨vn, hvn⟩ : ∃ m, iv.length = m := ⟨_, rfl⟩
  obtain ⟨an, han⟩ : ∃ m, aad.length = m := ⟨_, rfl⟩
  obtain ⟨n, hbn⟩ : ∃ m, b.length = m := ⟨_, rfl⟩
  have HKN := Lib.hid hkn; have HVN := Lib.hid hvn; have HAN := Lib.hid han; have HBN := Lib.hid hbn
  rw [hkn] at q1 ⊢
  rw [hvn] at q2 ⊢
  rw [han] at q3 ⊢
  rw [hbn] at q4 ⊢
  clear hkn hvn han hbn hs1 hs2 hs3 hsb
  have SH := Lib.hid (fun W => short_any x o Ak kn kc Ai vn ic Aa an ac W q1 q2 q3)
  have PC := Lib.hid (fun (W : World) (g : Nat) (t : TypeId) (fr : Nat × Nat) (h : W.heap[g]? = some (.cells (parV x o Ak kn kc Ai vn ic Aa an ac).toArray t fr)) => par_cells h)
  have PL : Hid ((parV x o Ak kn kc Ai vn ic Aa an ac).length = 5) := rfl
  have P1 := Lib.hid (par_one x o Ak kn kc Ai vn ic Aa an ac)
  have HSH : Hid (shortR kn vn an = false ∨ (kn ≤ 120 ∧ vn ≤ 100 ∧ an ≤ 1100)) := by
    show _ ∨ _
    cases h : shortR kn vn an with
    | false => exact .inl rfl
    | true => exact .inr (shortT_yes h)
  have OF : Hid (kn ≤ 2147000000 → vn ≤ 2147000000 → an ≤ 2147000000 → ∀ W, Sl W Ak kc k → Sl W Ai ic iv → Sl W Aa ac aad → Calls Tryz.prog 5 #[.agg (parV x o Ak kn kc Ai vn ic Aa an ac).toArray] W fun e w' => ∃ A1 c1 A2 c2 A3 c3, e = .returned (.agg (parV x o A1 kn c1 A2 vn c2 A3 an c3).toArray) ∧ Sl w' A1 c1 k ∧ Sl w' A2 c2 iv ∧ Sl w' A3 c3 aad ∧ Below W.heap.size W w') :=
    fun h1 h2 h3 W a b c => of_any x o Ak kn kc Ai vn ic Aa an ac k iv aad W HKN.out HVN.out HAN.out h1 h2 h3 a b c
  have N0 := Lib.hid (turn_cells PL.out (heap_alloc_new' w (.cells (parV x o Ak kn kc Ai vn ic Aa an ac ++ ([.slice A n c, .int .u8 (at_.toNat : Int), .int .u8 (by_.toNat : Int)] : List Value)).toArray 26)))
  obtain ⟨TC, HTC⟩ : ∃ TC, Hid ((parV x o Ak kn kc Ai vn ic Aa an ac ++ ([.slice A n c, .int .u8 (at_.toNat : Int), .int .u8 (by_.toNat : Int)] : List Value)).toArray = TC) := ⟨_, rfl⟩
  rw [HTC.out] at N0 ⊢
  obtain ⟨PV, HPVE⟩ : ∃ PV, Hid (parV x o Ak kn kc Ai vn ic Aa an ac = PV) := ⟨_, rfl⟩
  rw [HPVE.out] at SH PC PL P1 OF N0
  obtain ⟨sh, hsh⟩ : ∃ s, shortR kn vn an = s := ⟨_, rfl⟩
  rw [hsh] at SH HSH
  have hz5 := zeroPar12
  have hzA := zeroParA
  have HZ5 : Hid (zeroPar.length = 5) := rfl
  generalize zeroPar = ZP at hz5 hzA HZ5
  obtain ⟨yb, hyb⟩ : ∃ yb : Int, yb = (by_.toNat : Int) := ⟨_, rfl⟩
  obtain ⟨ya, hya⟩ : ∃ ya : Int, ya = (at_.toNat : Int) := ⟨_, rfl⟩
  rw [← hyb, ← hya] at N0
  have HYB := Lib.hid hyb; have HYA := Lib.hid hya
  clear hsh q1 q2 q3 HTC HPVE hyb hya
  go_enter Tryz.func3, Tryz.ntmps3
  go_upto_region 1 with (fail)
  generalize hV : w.alloc _ = W0 at N0 ⊢
  have B0 := Lib.hid (below_of_alloc hV (Nat.le_refl w.heap.size))
  have Z0 : Hid (W0.heap.size = w.heap.size + 1) := by show _ = _; rw [← hV]; simp
  clear hV
  have HX : Hid (Below (w.heap.size + 1) W0 W0.drew) := (Below.refl _ _).drew
  have hlt : w.heap.size < w.heap.size + 1 := Nat.lt_succ_self _
  refine regB_start (w.heap.size + 1) (by kernel_rfl) ?_
  try simp only [Act.put, List.setIfInBounds_toArray, List.set_cons_zero, List.set_cons_succ]
  refine regB_take (v := ?_) 0 (some 12) rfl rfl (by kernel_rfl) (by kernel_rfl) (by kernel_rfl) (fun _ _ _ h => h) (by rfl) (fun W hW => ?_) ?_
  rotate_left
  · (go_simp; try rfl)
  simp only [Act.put, List.setIfInBounds_toArray, List.set_cons_zero, List.set_cons_succ]
  refine regB_load 1 (some 13) (fun W hW => run_loadAt_mid W w.heap.size 0 24 PV _ (fun j v hv => (hW.cell hlt).trans ((HX.out.cell hlt).trans (N0.out.1 j v hv))) Tryz.underlying24 rfl (by rw [PL.out]; exact i5T)) rfl rfl rfl rfl (by kernel_rfl) (by kernel_rfl) (by kernel_rfl) (fun _ _ _ h => h) (by rfl) ?_
  simp only [Act.put, List.setIfInBounds_toArray, List.set_cons_zero, List.set_cons_succ]
  refine regB_take (v := ?_) 2 (some 14) rfl rfl (by kernel_rfl) (by kernel_rfl) (by kernel_rfl) (fun _ _ _ h => h) (by rfl) (fun W hW => ?_) ?_
  rotate_left
  · (go_simp; try rfl)
  simp only [Act.put, List.setIfInBounds_toArray, List.set_cons_zero, List.set_cons_succ]
  refine regB_load 3 (some 15) (fun W hW => o_load_slice uT ((hW.cell hlt).trans ((HX.out.cell hlt).trans N0.out.2.1))) rfl rfl rfl rfl (by kernel_rfl) (by kernel_rfl) (by kernel_rfl) (fun _ _ _ h => h) (by rfl) ?_
  simp only [Act.put, List.setIfInBounds_toArray, List.set_cons_zero, List.set_cons_succ]
  refine regB_take (v := ?_) 4 (some 16) rfl rfl (by kernel_rfl) (by kernel_rfl) (by kernel_rfl) (fun _ _ _ h => h) (by rfl) (fun W hW => ?_) ?_
  rotate_left
  · (go_simp; try rfl)
  simp only [Act.put, List.setIfInBounds_toArray, List.set_cons_zero, List.set_cons_succ]
  refine regB_load 5 (some 17) (fun W hW => load_cell Tryz.underlying5 ((hW.cell hlt).trans ((HX.out.cell hlt).trans N0.out.2.2.1))) rfl rfl rfl rfl (by kernel_rfl) (by kernel_rfl) (by kernel_rfl) (fun _ _ _ h => h) (by rfl) ?_
  simp only [Act.put, List.setIfInBounds_toArray, List.set_cons_zero, List.set_cons_succ]
  refine regB_take (v := ?_) 6 (some 18) rfl rfl (by kernel_rfl) (by kernel_rfl) (by kernel_rfl) (fun _ _ _ h => h) (by rfl) (fun W hW => ?_) ?_
  rotate_left
  · (go_simp; try rfl)
  simp only [Act.put, List.setIfInBounds_toArray, List.set_cons_zero, List.set_cons_succ]
  refine regB_load 7 (some 19) (fun W hW => load_cell Tryz.underlying5 ((hW.cell hlt).trans ((HX.out.cell hlt).trans N0.out.2.2.2))) rfl rfl rfl rfl (by kernel_rfl) (by kernel_rfl) (by kernel_rfl) (fun _ _ _ h => h) (by rfl) ?_
  simp only [Act.put, List.setIfInBounds_toArray, List.set_cons_zero, List.set_cons_succ]
  refine regB_eff 8 rfl (by kernel_rfl) (fun K hK => ?_)
  go_simp
  have hE : Below (w.heap.size + 1) W0.drew (W0.drew.alloc (.cells ZP.toArray 24)) := ((Below.refl _ W0.drew).alloc (Nat.le_of_eq Z0.out.symm) _)
  refine hK.out _ _ hE ?_
  have HX := Lib.hid (Below.trans HX.out hE)
  clear hE hK K
  try simp only [Act.put, List.setIfInBounds_toArray, List.set_cons_zero, List.set_cons_succ]
  refine regB_eff 9 rfl (by kernel_rfl) (fun K hK => ?_)
  refine step_st1 rfl 24 (.tmp 3) (.tmp 13) rfl (store_arr (cs := PV) (by rw [PL.out]; exact i5T) P1.out (old := ZP) (heap_alloc_new' W0.drew _) (by rw [PL.out]; exact HZ5.out)) ?_
  generalize hV : World.setRow _ _ _ = W2
  have F2 : Hid (W2.heap[W0.heap.size]? = some (.cells PV.toArray 24 (0, 0))) := heap_of_setRow hV (heap_alloc_new' W0.drew _)
  have hE : Below (w.heap.size + 1) (W0.drew.alloc (.cells ZP.toArray 24)) W2 := by rw [← hV]; exact grown_below (grown_setRow _ _ _) (Nat.le_of_eq Z0.out.symm) (by have := Z0.out; simp; omega)
  clear hV
  refine hK.out _ _ hE ?_
  have HX := Lib.hid (Below.trans HX.out hE)
  clear hE hK K
  try simp only [Act.put, List.setIfInBounds_toArray, List.set_cons_zero, List.set_cons_succ]
  refine regB_take (v := ?_) 10 (some 4) rfl rfl (by kernel_rfl) (by kernel_rfl) (by kernel_rfl) (fun _ _ _ h => h) (by rfl) (fun W hW => ?_) ?_
  rotate_left
  · (go_simp; try rfl)
  simp only [Act.put, List.setIfInBounds_toArray, List.set_cons_zero, List.set_cons_succ]
  refine regB_take (v := ?_) 11 (some 5) rfl rfl (by kernel_rfl) (by kernel_rfl) (by kernel_rfl) (fun _ _ _ h => h) (by rfl) (fun W hW => ?_) ?_
  rotate_left
  · (go_simp; try rfl)
  simp only [Act.put, List.setIfInBounds_toArray, List.set_cons_zero, List.set_cons_succ]
  refine regB_take (v := ?_) 12 (some 6) rfl rfl (by kernel_rfl) (by kernel_rfl) (by kernel_rfl) (fun _ _ _ h => h) (by rfl) (fun W hW => ?_) ?_
  rotate_left
  · (go_simp; try rfl)
  simp only [Act.put, List.setIfInBounds_toArray, List.set_cons_zero, List.set_cons_succ]
  refine regB_done (by kernel_rfl) ?_
  have B2 : Hid (Below w.heap.size w W2) := B0.out.trans (HX.out.mono (Nat.le_succ _))
  clear HX N0 B0 hlt Z0
  generalize W0.heap.size = g3 at F2 ⊢
  by_cases hbig : 100 < n
  · have e1 : (100 : Int) < (n : Int) := by omega
    go_wp2
    go_ret
    exact ⟨rfl, B2.out⟩
  have e1 : ¬ ((100 : Int) < (n : Int)) := by omega
  have hn100 : n ≤ 100 := by omega
  clear hbig
  go_wp2_with (first
    | (refine wpList_ld rfl 24 (.tmp 3) rfl (load_arr Tryz.underlying24 rfl (by rw [PL.out]; exact i5T) F2.out) ?_)
    | fail)
  refine (SH.out W2).mono ?_
  rintro e w3 ⟨rfl, hb⟩
  have B3 : Hid (Below w.heap.size w w3) := B2.out.step hb
  have F3 := Lib.hid ((hb.block _ (lt_of_heap F2.out)).trans F2.out)
  clear hb B2 F2 SH
  cases sh
  · go_wp2
    go_ret
    exact ⟨rfl, B3.out⟩
  obtain ⟨s1, s2, s3⟩ : kn ≤ 120 ∧ vn ≤ 100 ∧ an ≤ 1100 := by
    rcases HSH.out with h | h
    · cases h
    · exact h
  have OF2 := Lib.hid (OF.out (by omega) (by omega) (by omega))
  have hk20 : kn ≤ 2147000000 := by omega
  have hv20 : vn ≤ 2147000000 := by omega
  have ha20 : an ≤ 2147000000 := by omega
  clear HSH OF
  have c0 := (PC.out _ _ _ _ F3.out).1
  by_cases hx5 : x < 5
  · go_wp2
    go_ret
    exact ⟨rfl, B3.out⟩
  have hx5' : Hid (5 ≤ x) := by show _ ≤ _; omega
  by_cases hy0 : yb = 0
  · have e2 : (yb == 0) = true := by simp [hy0]
    clear hy0
    go_wp2
    go_ret
    exact ⟨rfl, B3.out⟩
  have e2 : (yb == 0) = false := by simp [hy0]
  have HBY : Hid (by_ ≠ 0) := fun h => hy0 (by rw [HYB.out, h]; rfl)
  clear hy0
  go_wp2_with (first
    | (refine wpList_ld rfl 24 (.tmp 3) rfl (load_arr Tryz.underlying24 rfl (by rw [PL.out]; exact i5T) F3.out) ?_)
    | fail)
  clear c0 e2 hx5
  refine (OF2.out _ (S1.out.below B3.out) (S2.out.below B3.out) (S3.out.below B3.out)).mono ?_
  rintro e w4 ⟨A1, c1, A2, c2, A3, c3, rfl, hT1, hT2, hT3, hb⟩
  have T1 := Lib.hid hT1; have T2 := Lib.hid hT2; have T3 := Lib.hid hT3
  have B4 : Hid (Below w.heap.size w w4) := B3.out.step hb
  clear hb hT1 hT2 hT3 B3 F3 OF2 PC PL P1 s1 s2 s3
  have QL : Hid (∀ o, (parV x o A1 kn c1 A2 vn c2 A3 an c3).length = 5) := fun _ => rfl
  have Q1 := Lib.hid (fun o => par_one x o A1 kn c1 A2 vn c2 A3 an c3)
  have QC := Lib.hid (fun (o : Bool) (W : World) (g : Nat) (t : TypeId) (fr : Nat × Nat) (h : W.heap[g]? = some (.cells (parV x o A1 kn c1 A2 vn c2 A3 an c3).toArray t fr)) => (par_cells h).2.1)
  have QS : Hid (∀ o o', (parV x o A1 kn c1 A2 vn c2 A3 an c3).set 1 (.bool o') = parV x o' A1 kn c1 A2 vn c2 A3 an c3) := fun _ _ => rfl
  have DO1 := Lib.hid (fun W a1 a2 a3 a4 => dos_any x A1 kn c1 A2 vn c2 A3 an c3 A n c k iv aad b W hx5'.out HKN.out HVN.out HAN.out HBN.out hk20 hv20 ha20 (by omega) a1 a2 a3 a4)
  have HTK : Hid (∀ X, TurnOK x A1 kn c1 A2 vn c2 A3 an c3 k iv aad n X → X.length = n + 16 ∧ ∀ (q : Nat) (d : UInt8), q < 16 → d ≠ 0 → ∀ (A4 : Option Addr) (n4 c4 : Nat) (W : World), n4 = n + 16 → Sl W A1 c1 k → Sl W A2 c2 iv → Sl W A3 c3 aad → Sl W A4 c4 (X.set (n + q) (X.getD (n + q) 0 ^^^ d)) →
    Calls Tryz.prog 6 #[.agg (parV x true A1 kn c1 A2 vn c2 A3 an c3).toArray, .slice A4 n4 c4] W fun e w' => e = .returned (.tuple #[.slice none 0 0, .int .i64 7]) ∧ Below W.heap.size W w') := fun X h => h
  generalize TurnOK x A1 kn c1 A2 vn c2 A3 an c3 k iv aad n = TK at DO1 HTK
  generalize hPQ : (fun o => parV x o A1 kn c1 A2 vn c2 A3 an c3) = PQ
  have HPQ : Hid (∀ o, parV x o A1 kn c1 A2 vn c2 A3 an c3 = PQ o) := fun o => by rw [← hPQ]
  clear hPQ
  rw [HPQ.out o]
  have QL' : Hid (∀ o, (PQ o).length = 5) := fun o => by rw [← HPQ.out]; exact QL.out o
  have Q1' : Hid (∀ o, ∀ v ∈ PQ o, v.oneCell' = true) := fun o => by rw [← HPQ.out]; exact Q1.out o
  have QC' : Hid (∀ (o : Bool) (W : World) (g : Nat) (t : TypeId) (fr : Nat × Nat), W.heap[g]? = some (.cells (PQ o).toArray t fr) → W.cell? ⟨g, 1, none⟩ = some (.bool o)) := fun o W g t fr h => by rw [← HPQ.out] at h; exact QC.out o W g t fr h
  have QS' : Hid (∀ o o', (PQ o).set 1 (.bool o') = PQ o') := fun o o' => by rw [← HPQ.out, ← HPQ.out]; exact QS.out o o'
  rw [HPQ.out false] at DO1
  rw [HPQ.out true] at HTK
  clear QL Q1 QC QS HPQ
  go_upto_region 5 with (first
    | (refine wpList_st rfl 28 (.tmp 7) (.tmp 38) rfl (store_arr (cs := PQ o) (by rw [QL'.out]; exact i5A) (Q1'.out o) (old := ZP) (heap_alloc_new' w4 _) (by rw [QL'.out]; exact HZ5.out)) ?_
       generalize hV : World.setRow _ _ _ = W5
       have F5 : Hid (W5.heap[w4.heap.size]? = some (.cells (PQ o).toArray 28 (0, 0))) := heap_of_setRow hV (heap_alloc_new' w4 _)
       have X5 : Hid (Below w4.heap.size w4 W5) := ((Below.refl w4.heap.size w4).alloc (Nat.le_refl _) _).trans (below_of_setRow hV (Nat.le_refl w4.heap.size) (by simp))
       clear hV)
    | fail)
  obtain ⟨g7, hg7⟩ : ∃ g, g = w4.heap.size := ⟨_, rfl⟩
  rw [← hg7] at F5 X5 ⊢
  have HG7 := Lib.hid hg7
  clear hg7
  have c1' := QC'.out _ _ _ _ _ F5.out
  have fz := frozen_of_heap F5.out 1
  go_upto_region 6 with (fail)
  generalize hV : W5.setCell _ _ = W6
  have F6 : Hid (W6.heap[g7]? = some (.cells (PQ false).toArray 28 (0, 0))) := by
    have h := heap_set F5.out 1 (.bool false)
    rw [QS'.out] at h
    rw [← hV]; exact h
  have X6 : Hid (Below g7 w4 W6) := by rw [← hV]; exact X5.out.setCell (Nat.le_refl _) _
  clear hV c1' fz F5 X5
  have X6' : Hid (Below w4.heap.size w4 W6) := by show Below _ _ _; rw [← HG7.out]; exact X6.out
  have B6 : Hid (Below w.heap.size w W6) := B4.out.step X6'.out
  go_wp2_with (first
    | (refine wpList_ld rfl 28 (.tmp 7) rfl (load_arr Tryz.underlying28 rfl (by rw [QL'.out]; exact i5A) F6.out) ?_)
    | fail)
  refine (DO1.out W6 (T1.out.below X6'.out) (T2.out.below X6'.out) (T3.out.below X6'.out) (SB.out.below B6.out)).mono ?_
  rintro e w7 ⟨v, yy, rfl, hcase, hb⟩
  have F7 := Lib.hid ((hb.block _ (lt_of_heap F6.out)).trans F6.out)
  have B7 : Hid (Below w.heap.size w w7) := B6.out.step hb
  have X7 : Hid (Below g7 w4 w7) := X6.out.trans (hb.mono (Nat.le_of_lt (lt_of_heap F6.out)))
  have L7 : Hid (g7 < W6.heap.size) := lt_of_heap F6.out
  clear hb F6 X6 X6' B6 DO1
  rcases hcase with ⟨rfl, hyy⟩ | ⟨rfl, X, hO, hTK⟩
  · have e3 : (yy != 0) = true := by simp [hyy]
    clear hyy
    go_wp2_with fail
    refine (awake12_any w7).mono ?_
    rintro e w8 ⟨rfl, hb⟩
    have B8 := Lib.hid (B7.out.step hb)
    go_wp2
    go_ret
    exact ⟨rfl, B8.out⟩
  obtain ⟨hXL, hOP⟩ := HTK.out X hTK
  obtain ⟨p, hp⟩ : ∃ p, p = n + 16 := ⟨_, rfl⟩
  rw [← hp] at hO hXL
  obtain ⟨g8, cap, cur, rfl, hg8, hcur, hS8, hcp, hcs, _⟩ := o_open' hO (by omega)
  have C7 := Lib.hid hcur; have S7 := Lib.hid hS8; have HG8 : Hid (W6.heap.size ≤ g8) := hg8; have HXL := Lib.hid hXL; have HOP := Lib.hid hOP
  have hp16 : ¬ ((p : Int) < 16) := by omega
  have hat := at_.toNat_lt
  obtain ⟨r, hr⟩ : ∃ r, r = at_.toNat % 16 := ⟨_, rfl⟩
  obtain ⟨p1, hp1⟩ : ∃ p1, p1 = p - 1 := ⟨_, rfl⟩
  obtain ⟨j, hj⟩ : ∃ j, j = p1 - r := ⟨_, rfl⟩
  have hYA := HYA.out
  have d1 : (p : Int) - 1 = (p1 : Int) := by omega
  have d2 : ya % 16 = (r : Int) := by omega
  have d3 : ya.tmod 16 = (r : Int) := by rw [Int.tmod_eq_emod_of_nonneg (by omega)]; exact d2
  have d4 : (p1 : Int) - (r : Int) = (j : Int) := by omega
  have d5 : (j : Int) < (p : Int) := by omega
  have d6 : j < p := by omega
  have d7 : p ≤ 200 := by omega
  have d8 : p1 ≤ 200 := by omega
  have d9 : r < 16 := by omega
  have hya0 : 0 ≤ ya ∧ ya < 256 := by omega
  have HJ : Hid (j = n + (15 - r)) := by show _ = _; omega
  have HR16 : Hid (15 - r < 16) := by show _ < _; omega
  have HP := Lib.hid hp
  clear hr hp1 hj hYA hp hcur hS8 hg8 hXL hOP hO hcs hat hTK
  have c5 := o_sl_cell S7.out (k := j) (by rw [HXL.out]; exact d6)
  have fz := frozen_of_heap C7.out j
  have SX := Lib.hid (fun (t : TypeId) (fr : Nat × Nat) (x : UInt8) (W : World) (hS : Sl W (some ⟨g8, 0, none⟩) cap X) (hc : W.heap[g8]? = some (.cells cur t fr)) => o_sl_set (x := x) (k := j) hS hc (by rw [HXL.out]; exact d6))
  have HXE : Hid (X.set j (X.getD j 0 ^^^ by_) = X.set (n + (15 - r)) (X.getD (n + (15 - r)) 0 ^^^ by_)) := by show _ = _; rw [HJ.out]
  obtain ⟨xb, HXB⟩ : ∃ xb, Hid (X.getD j 0 = xb) := ⟨_, rfl⟩
  rw [HXB.out] at c5 HXE
  have y5 := xor8 xb by_
  rw [← HYB.out] at y5
  obtain ⟨xy, HXY⟩ : ∃ xy, Hid (xb ^^^ by_ = xy) := ⟨_, rfl⟩
  rw [HXY.out] at y5 HXE
  have hcp2 := hcp
  clear hcp
  go_upto_region 12 with (fail)
  generalize hV : w7.setCell _ _ = W8
  have S8 : Hid (Sl W8 (some ⟨g8, 0, none⟩) cap (X.set j xy)) := by rw [← hV]; exact SX.out _ _ xy w7 S7.out C7.out
  have hg78 : g7 ≠ g8 := by have h1 := L7.out; have h2 := HG8.out; omega
  have F8 : Hid (W8.heap[g7]? = some (.cells (PQ false).toArray 28 (0, 0))) := by rw [← hV]; exact (Below.heap_setCell w7 _ _ _ hg78).trans F7.out
  have X8 : Hid (Below g7 w4 W8) := by rw [← hV]; exact X7.out.setCell (by have h1 := L7.out; have h2 := HG8.out; show g7 ≤ g8; omega) _
  have B8 : Hid (Below w.heap.size w W8) := by rw [← hV]; exact B7.out.setCell (by have h1 := L7.out; have h2 := HG8.out; have h3 := B4.out.size; have h4 := HG7.out; show w.heap.size ≤ g8; omega) _
  clear hV c5 fz y5 F7 X7 B7 S7 C7 SX hcp2 d1 d2 d3 d4 d5
  have c1' := QC'.out _ _ _ _ _ F8.out
  have fz := frozen_of_heap F8.out 1
  go_upto_region 13 with (fail)
  generalize hV : W8.setCell _ _ = W9
  have F9 : Hid (W9.heap[g7]? = some (.cells (PQ true).toArray 28 (0, 0))) := by
    have h := heap_set F8.out 1 (.bool true)
    rw [QS'.out] at h
    rw [← hV]; exact h
  have X9 : Hid (Below w4.heap.size w4 W9) := by show Below _ _ _; rw [← HG7.out, ← hV]; exact X8.out.setCell (Nat.le_refl _) _
  have S9 : Hid (Sl W9 (some ⟨g8, 0, none⟩) cap (X.set j xy)) := by
    obtain ⟨s1, s2, s3⟩ := S8.out
    obtain ⟨b1, o1, he, hb1, hc⟩ := s3.at_ (by rw [List.length_map, List.length_set, HXL.out]; omega)
    injection he with he
    injection he with he1 he2
    subst he1; subst he2
    refine ⟨s1, s2, .inr ⟨g8, 0, rfl, by rw [← hV]; simpa using hb1, fun j u hu => ?_⟩⟩
    rw [← hV, World.cell?_setCell_other _ _ _ _ (fun e => by injection e with e1 e2; exact hg78 e1)]
    exact hc j u hu
  have B9 : Hid (Below w.heap.size w W9) := B4.out.step X9.out
  clear hV c1' fz F8 X8 B8 S8
  rw [HXE.out] at S9
  go_wp2_with (first
    | (refine wpList_ld rfl 28 (.tmp 7) rfl (load_arr Tryz.underlying28 rfl (by rw [QL'.out]; exact i5A) F9.out) ?_)
    | fail)
  refine (HOP.out (15 - r) by_ HR16.out HBY.out (some ⟨g8, 0, none⟩) p cap W9 HP.out (T1.out.below X9.out) (T2.out.below X9.out) (T3.out.below X9.out) S9.out).mono ?_
  rintro e w10 ⟨rfl, hb⟩
  have B10 := Lib.hid (B9.out.step hb)
  clear hb
  go_wp2_with fail
  refine (awake12_any w10).mono ?_
  rintro e w11 ⟨rfl, hb⟩
  have B11 := Lib.hid (B10.out.step hb)
  go_wp2
  go_ret
  exact ⟨rfl, B11.out⟩
end Go.Proofs.YtimgggpojbpfkaaGreatDoor
