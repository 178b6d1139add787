/- gcm: crypt. -/
import Derived.Test.YtjlljifllnmdoaaGcm2
namespace Go.Proofs.Ytjlljifllnmdoaa
open Go.RowKit
set_option maxRecDepth 100000
set_option linter.unusedVariables false
set_option linter.unusedSimpArgs false
/-- the text's stream -/
def gcF (E : List UInt8 → List UInt8) (F : List UInt8) : Nat → UInt8 := blkF fun i => E (cntG F (i + 1))
def gcL (E : List UInt8 → List UInt8) (F b : List UInt8) : List UInt8 := ctrL (gcF E F) 0 b
theorem gcL_len (E : List UInt8 → List UInt8) (F b : List UInt8) : (gcL E F b).length = b.length := ctrL_len _ _ _
/-- a block for itself -/
theorem gc_block (E : List UInt8 → List UInt8) (F b : List UInt8) (hF : F.length = 16) (i : Nat) (hb : b.length ≤ 16) : ctrL (strmF E (cntG F (i + 1))) 0 b = ctrL (gcF E F) (16 * i) b := by
  refine ctrL_congr _ _ b 0 (16 * i) fun j hj => ?_
  have hj16 : j < 16 := by omega
  show (E (countL (cntG F (i + 1)) ((0 + j) / 16))).getD ((0 + j) % 16) 0 = (E (cntG F ((16 * i + j) / 16 + 1))).getD ((16 * i + j) % 16) 0
  rw [show (0 + j) / 16 = 0 by omega, show (0 + j) % 16 = j by omega, show (16 * i + j) / 16 = i by omega, show (16 * i + j) % 16 = j by omega, count_zero _ (cntG_len F _ hF)]
theorem gc_step (E : List UInt8 → List UInt8) (F b : List UInt8) (hF : F.length = 16) (i lo e : Nat) (hlo : lo = 16 * i) (he : e ≤ lo + 16) (hle : lo ≤ e) (hb : lo ≤ b.length) :
    ctrL (gcF E F) 0 (b.take lo) ++ ctrL (strmF E (cntG F (i + 1))) 0 ((b.drop lo).take (e - lo)) = ctrL (gcF E F) 0 (b.take e) := by
  subst hlo
  rw [gc_block E F _ hF i (by rw [List.length_take]; omega)]
  have h := ctrL_append (gcF E F) (b.take (16 * i)) 0 ((b.drop (16 * i)).take (e - 16 * i))
  rw [List.length_take, Nat.min_eq_left hb, Nat.zero_add] at h
  rw [← h]
  congr 1
  have : e = 16 * i + (e - 16 * i) := by omega
  rw [this, List.take_add]
  congr 2
  omega
theorem min_eqs (lo n e : Nat) (h : e = min (lo + 16) n) : (if (lo : Int) + 16 < (n : Int) then (lo : Int) + 16 else (n : Int)) = (e : Int) ∧ (if (n : Int) < (lo : Int) + 16 then (n : Int) else (lo : Int) + 16) = (e : Int) ∧ min ((lo : Int) + 16) (n : Int) = (e : Int) ∧ (if (lo : Int) + 16 ≤ (n : Int) then (lo : Int) + 16 else (n : Int)) = (e : Int) := by
  refine ⟨?_, ?_, ?_, ?_⟩
  · split <;> omega
  · split <;> omega
  · omega
  · split <;> omega
set_option maxHeartbeats 4000000 in
theorem gcrypt_any (kp : Value) (E : List UInt8 → List UInt8) (F : List UInt8) (A : Option Addr) (n c : Nat) (b : List UInt8) (w : World) (hF : F.length = 16) (hE : Enc w kp E) (hl : b.length = n) (hn : n ≤ 100000) (hS : Sl w A c b) :
    Calls Try.prog 29 #[kp, .agg (F.map bv).toArray, .slice A n c] w fun e w' => ∃ v, e = .returned v ∧ w'.ownsRow w.heap.size 5 1 v n ((gcL E F b).map bv) ∧ Below w.heap.size w w' := by
  have HF := Lib.hid hF; have HE := Lib.hid hE; have HL := Lib.hid hl; have HS := Lib.hid hS
  have hmk := make_room (P := Try.prog) uT made8 rfl .i64 .i64 (n + 16) (by omega) (by omega) (w.alloc (.cells (F.map bv).toArray 23))
  have hcn : c ≤ maxLen ∧ n ≤ c := ⟨hS.2.1, by have := hS.1; omega⟩
  obtain ⟨N, hN⟩ : ∃ N, N = (n + 15) / 16 := ⟨_, rfl⟩
  have hNi : ((n : Int) + 15) / 16 = (N : Int) := by omega
  have hcap : (n : Int) + 16 = ((n + 16 : Nat) : Int) := by omega
  obtain ⟨n16, hn16⟩ : ∃ n16, n16 = n + 16 := ⟨_, rfl⟩
  rw [← hn16] at hmk hcap
  have HMX : Hid (n16 ≤ maxLen) := by show _ ≤ _; simp [maxLen]; omega
  have HNN := Lib.hid hN
  have STN : Hid (ctrL (gcF E F) 0 (b.take (min (16 * N) n)) = gcL E F b) := by show _ = _; rw [gcL, List.take_of_length_le (by omega)]
  have CT := Lib.hid (fun i W => gcounter_any F (i + 1) W hF)
  clear hF hE hl hS hN hn16
  have G := heap2 w (.cells (F.map bv).toArray 23) (.cells (Array.replicate n16 (Value.int .u8 0)) 5)
  have GO : Hid (((w.alloc (.cells (F.map bv).toArray 23)).alloc (.cells (Array.replicate n16 (Value.int .u8 0)) 5)).ownsRow (w.heap.size + 1) 5 1 (.slice (some ⟨w.heap.size + 1, 0, none⟩) 0 n16) 0 (([] : List UInt8).map bv)) := own_room (Nat.le_refl _) HMX.out G.2.1
  have G0 := Lib.hid G.1; have GB := Lib.hid G.2.2
  generalize gcL E F b = R at STN ⊢
  clear G
  go_enter Try.func29, Try.ntmps29
  go_upto_region 3 with (fail)
  generalize (w.alloc _).alloc _ = W0 at GO G0 GB ⊢
  clear hmk
  have HNI := Lib.hid hNi
  clear hNi
  go_loopw [7, 18] (fun vo vi wr => ∃ (i m : Nat) (A' : Option Addr) (c' : Nat), i ≤ N ∧ m = min (16 * i) n ∧ vi = .int .i64 (i : Int) ∧ vo = .slice A' m c' ∧ Hid (wr.ownsRow (w.heap.size + 1) 5 1 (.slice A' m c') m ((ctrL (gcF E F) 0 (b.take m)).map bv)) ∧ Hid (Below w.heap.size w wr) ∧
      Hid (wr.heap[w.heap.size]? = some (.cells (F.map bv).toArray 23 (0, 0)))) (fun _ i _ => N - (intOf i).toNat)
  case atStart => exact ⟨0, 0, _, _, by omega, by omega, rfl, rfl, GO, GB, G0⟩
  case round =>
    clear GO G0 GB
    obtain ⟨i, m, A', c', hi, hm, rfl, rfl, HO, HB, H0⟩ := hrel
    by_cases hlt : i < N
    · have q1 : (i : Int) < ((n : Int) + 15) / 16 := by have := HNI.out; omega
      have hNN := HNN.out
      obtain ⟨lo, hlo⟩ : ∃ lo, lo = 16 * i := ⟨_, rfl⟩
      obtain ⟨e, he⟩ : ∃ e, e = min (lo + 16) n := ⟨_, rfl⟩
      have hml : m = lo := by omega
      subst hml
      have u1 : 16 * (i : Int) = (m : Int) := by omega
      obtain ⟨um1, um2, um3, um4⟩ := min_eqs m n e he
      have hme : m ≤ e ∧ e ≤ n ∧ e ≤ m + 16 := by omega
      have hi5 : i ≤ 10000 := by omega
      have HM16 : Hid (e = min (16 * (i + 1)) n) := by show _ = _; rw [he, hlo]; omega
      obtain ⟨i1, hi1⟩ : ∃ i1, i1 = i + 1 := ⟨_, rfl⟩
      have u4 : (i : Int) + 1 = (i1 : Int) := by omega
      have sl := cut_mid uT s8 A n c .i64 .i64 (m : Int) (e : Int) (by omega) (by omega) (by omega)
      rw [Int.toNat_natCast, Int.toNat_natCast] at sl
      have SB : Hid (Sl wr (cutS A c m) (c - m) ((b.drop m).take (e - m))) := sl_take' (sl_cut (HS.out.below HB.out) (by rw [HL.out]; omega))
      have HBL : Hid (((b.drop m).take (e - m)).length = e - m) := by show _ = _; rw [List.length_take, List.length_drop, HL.out]; omega
      have HST := Lib.hid (gc_step E F b HF.out i m e hlo hme.2.2 hme.1 (by rw [HL.out]; omega))
      have CTR := Lib.hid (CT.out i wr (by omega))
      have CRY := Lib.hid (fun W (hW : Below w.heap.size w W) hS => Crypt_any kp E (cntG F (i + 1)) (cutS A c m) (e - m) (c - m) ((b.drop m).take (e - m)) W (cntG_len F _ HF.out) (HE.out.ext hW) HBL.out (by omega) hS)
      generalize cntG F (i + 1) = CN at CTR CRY HST
      generalize (b.drop m).take (e - m) = X at SB HBL HST CRY
      rw [← hi1] at CTR
      obtain ⟨t, ht⟩ : ∃ t, t = e - m := ⟨_, rfl⟩
      rw [← ht] at sl HBL CRY
      have hmt : m + t ≤ 2147483647 := by omega
      have HT : Hid (m + t = e) := by show _ = _; omega
      have hE8 : (e : Int) ≤ 100000 := by omega
      have hm8 : (m : Int) ≤ 100000 := by omega
      clear hlo he ht hNN hme hm hi1
      go_upto_region 6 with (fail)
      go_wp2_with (first
        | (refine wpList_ld rfl 23 (.tmp 4) rfl (load_arr arr16B rfl (i16c F HF.out) H0.out) ?_)
        | fail)
      refine CTR.out.mono ?_
      rintro e2 w2 ⟨rfl, hb⟩
      have B2 : Hid (Below w.heap.size w w2) := HB.out.step hb
      have F2 := Lib.hid ((hb.block _ (lt_of_heap H0.out)).trans H0.out)
      have O2 := Lib.hid (c_own_below HO.out hb)
      have S2 := Lib.hid (SB.out.below hb)
      clear hb HB H0 HO SB CTR
      go_wp2_with fail
      refine (CRY.out w2 B2.out S2.out).mono ?_
      rintro e3 w3 ⟨v3, rfl, hO, hb⟩
      obtain ⟨A3, c3, rfl, hl3, h31, h32, hr3⟩ := own_read hO
      have B3 : Hid (Below w.heap.size w w3) := B2.out.step hb
      have F3 := Lib.hid ((hb.block _ (lt_of_heap F2.out)).trans F2.out)
      have O3 := Lib.hid (c_own_below O2.out hb)
      have R3 := Lib.hid hr3
      have L3 := Lib.hid hl3
      have hs3 : Hid (w.heap.size + 1 ≤ w3.heap.size) := lt_of_heap F3.out
      clear hb B2 F2 O2 S2 hl3 h31 h32 hr3 hO CRY
      go_upto_region 7 with (
        at_builtin
        refine wpList_app8 rfl (.tmp 31) (.tmp 38) rfl (w.heap.size + 1) _ m (ctrL (gcF E F) 0 (b.take m)) rfl ?_ A3 t c3 w3.heap.size (ctrL (strmF E CN) 0 X) rfl ?_ ?_ ?_ ?_ ?_
        · exact O3.out
        · exact R3.out
        · exact L3.out
        · exact hmt
        · exact hs3.out
        rintro v4 w4 hown hgr
        rw [HST.out, HT.out] at hown
        have O4 := Lib.hid hown
        have B4 : Hid (Below w.heap.size w w4) := B3.out.grown hgr B3.out.size (c_own_ge O3.out (Nat.le_succ _))
        have F4 := Lib.hid ((hgr.block _ (lt_of_heap F3.out) (c_own_ne O3.out (Nat.lt_succ_self _))).trans F3.out)
        clear hown hgr)
      obtain ⟨A5, c5, rfl, hl5, h51, h52, hr5⟩ := own_read O4.out
      clear hl5 h51 h52 hr5 O3 B3 F3 R3 L3 hs3
      have q9 := HM16.out
      go_wp2
      go_roundw
      case rel => exact ⟨i + 1, e, A5, c5, by omega, q9, by go_num, rfl, O4, B4, F4⟩
      case measure => simp [intOf]; omega
    · have q1 : ¬ ((i : Int) < ((n : Int) + 15) / 16) := by have := HNI.out; omega
      have hiN : i = N := by omega
      subst hiN
      have hO := HO.out
      have hmn : m = n := by have := HNN.out; omega
      rw [hm, STN.out, ← hm, hmn] at hO
      have HO2 := Lib.hid hO
      rw [hmn]
      clear hO HO hm hmn
      go_wp2
      go_ret
      exact ⟨_, rfl, own_mono HO2.out (Nat.le_succ _), HB.out⟩
end Go.Proofs.Ytjlljifllnmdoaa
