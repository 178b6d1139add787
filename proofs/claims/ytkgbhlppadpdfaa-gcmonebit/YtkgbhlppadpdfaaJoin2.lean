/- Joined: Gcm3 Gcm4 Gcm5 Gcm6 LiftX Gcm7 Gcm8 GcmM GcmM2 LiftY LawsX3 LawsX5. -/
import Derived.Test.YtkgbhlppadpdfaaJoin1
import Derived.Test.YtkgbhlppadpdfaaLiftC
import Derived.Lib.SmallJoins
import Derived.Deep.MidRow
/- gcm: crypt. -/
namespace Go.Proofs.Ytkgbhlppadpdfaa
open Go.RowKit
set_option maxRecDepth 100000
set_option linter.unusedVariables false
set_option linter.unusedSimpArgs false
/-- the text's stream -/
def gcF (E : List UInt8 → List UInt8) (F : List UInt8) : Nat → UInt8 := blkF fun i => E (cntG F (i + 1))
def gcL (E : List UInt8 → List UInt8) (F b : List UInt8) : List UInt8 := ctrL (gcF E F) 0 b
theorem gcL_len (E : List UInt8 → List UInt8) (F b : List UInt8) : (gcL E F b).length = b.length := ctrL_len _ _ _
/-- a block for itself -/
theorem gc_block (E : List UInt8 → List UInt8) (F b : List UInt8) (hF : F.length = 16) (i : Nat) (hb : b.length ≤ 16) : ctrL (strmF E (cntG F (i + 1))) 0 b = ctrL (gcF E F) (16 * i) b := by
  refine ctrL_congr _ _ b 0 (16 * i) fun j hj => ?_
  have hj16 : j < 16 := by omega
  show (E (countL (cntG F (i + 1)) ((0 + j) / 16))).getD ((0 + j) % 16) 0 = (E (cntG F ((16 * i + j) / 16 + 1))).getD ((16 * i + j) % 16) 0
  rw [show (0 + j) / 16 = 0 by omega, show (0 + j) % 16 = j by omega, show (16 * i + j) / 16 = i by omega, show (16 * i + j) % 16 = j by omega, count_zero _ (cntG_len F _ hF)]
theorem gc_step (E : List UInt8 → List UInt8) (F b : List UInt8) (hF : F.length = 16) (i lo e : Nat) (hlo : lo = 16 * i) (he : e ≤ lo + 16) (hle : lo ≤ e) (hb : lo ≤ b.length) :
    ctrL (gcF E F) 0 (b.take lo) ++ ctrL (strmF E (cntG F (i + 1))) 0 ((b.drop lo).take (e - lo)) = ctrL (gcF E F) 0 (b.take e) := by
  subst hlo
  rw [gc_block E F _ hF i (by rw [List.length_take]; omega)]
  have h := ctrL_append (gcF E F) (b.take (16 * i)) 0 ((b.drop (16 * i)).take (e - 16 * i))
  rw [List.length_take, Nat.min_eq_left hb, Nat.zero_add] at h
  rw [← h]
  congr 1
  have : e = 16 * i + (e - 16 * i) := by omega
  rw [this, List.take_add]
  congr 2
  omega
theorem min_eqs (lo n e : Nat) (h : e = min (lo + 16) n) : (if (lo : Int) + 16 < (n : Int) then (lo : Int) + 16 else (n : Int)) = (e : Int) ∧ (if (n : Int) < (lo : Int) + 16 then (n : Int) else (lo : Int) + 16) = (e : Int) ∧ min ((lo : Int) + 16) (n : Int) = (e : Int) ∧ (if (lo : Int) + 16 ≤ (n : Int) then (lo : Int) + 16 else (n : Int)) = (e : Int) := by
  refine ⟨?_, ?_, ?_, ?_⟩
  · split <;> omega
  · split <;> omega
  · omega
  · split <;> omega
set_option maxHeartbeats 4000000 in
theorem gcrypt_any (kp : Value) (E : List UInt8 → List UInt8) (F : List UInt8) (A : Option Addr) (n c : Nat) (b : List UInt8) (w : World) (hF : F.length = 16) (hE : Enc w kp E) (hl : b.length = n) (hn : n ≤ 100000) (hS : Sl w A c b) :
    Calls Try.prog 26 #[kp, .agg (F.map bv).toArray, .slice A n c] w fun e w' => ∃ v, e = .returned v ∧ w'.ownsRow w.heap.size 5 1 v n ((gcL E F b).map bv) ∧ Below w.heap.size w w' := by
  have HF := Lib.hid hF; have HE := Lib.hid hE; have HL := Lib.hid hl; have HS := Lib.hid hS
  have hmk := make_room (P := Try.prog) uT made8 rfl .i64 .i64 (n + 16) (by omega) (by omega) (w.alloc (.cells (F.map bv).toArray 33))
  have hcn : c ≤ maxLen ∧ n ≤ c := ⟨hS.2.1, by have := hS.1; omega⟩
  obtain ⟨N, hN⟩ : ∃ N, N = (n + 15) / 16 := ⟨_, rfl⟩
  have hNi : ((n : Int) + 15) / 16 = (N : Int) := by omega
  have hcap : (n : Int) + 16 = ((n + 16 : Nat) : Int) := by omega
  obtain ⟨n16, hn16⟩ : ∃ n16, n16 = n + 16 := ⟨_, rfl⟩
  rw [← hn16] at hmk hcap
  have HMX : Hid (n16 ≤ maxLen) := by show _ ≤ _; simp [maxLen]; omega
  have HNN := Lib.hid hN
  have STN : Hid (ctrL (gcF E F) 0 (b.take (min (16 * N) n)) = gcL E F b) := by show _ = _; rw [gcL, List.take_of_length_le (by omega)]
  have CT := Lib.hid (fun i W => gcounter_any F (i + 1) W hF)
  clear hF hE hl hS hN hn16
  have G := heap2 w (.cells (F.map bv).toArray 33) (.cells (Array.replicate n16 (Value.int .u8 0)) 5)
  have GO : Hid (((w.alloc (.cells (F.map bv).toArray 33)).alloc (.cells (Array.replicate n16 (Value.int .u8 0)) 5)).ownsRow (w.heap.size + 1) 5 1 (.slice (some ⟨w.heap.size + 1, 0, none⟩) 0 n16) 0 (([] : List UInt8).map bv)) := own_room (Nat.le_refl _) HMX.out G.2.1
  have G0 := Lib.hid G.1; have GB := Lib.hid G.2.2
  generalize gcL E F b = R at STN ⊢
  clear G
  go_enter Try.func26, Try.ntmps26
  go_upto_region 3 with (fail)
  generalize (w.alloc _).alloc _ = W0 at GO G0 GB ⊢
  clear hmk
  have HNI := Lib.hid hNi
  clear hNi
  go_loopw [7, 18] (fun vo vi wr => ∃ (i m : Nat) (A' : Option Addr) (c' : Nat), i ≤ N ∧ m = min (16 * i) n ∧ vi = .int .i64 (i : Int) ∧ vo = .slice A' m c' ∧ Hid (wr.ownsRow (w.heap.size + 1) 5 1 (.slice A' m c') m ((ctrL (gcF E F) 0 (b.take m)).map bv)) ∧ Hid (Below w.heap.size w wr) ∧
      Hid (wr.heap[w.heap.size]? = some (.cells (F.map bv).toArray 33 (0, 0)))) (fun _ i _ => N - (intOf i).toNat)
  case atStart => exact ⟨0, 0, _, _, by omega, by omega, rfl, rfl, GO, GB, G0⟩
  case round =>
    clear GO G0 GB
    obtain ⟨i, m, A', c', hi, hm, rfl, rfl, HO, HB, H0⟩ := hrel
    by_cases hlt : i < N
    · have q1 : (i : Int) < ((n : Int) + 15) / 16 := by have := HNI.out; omega
      have hNN := HNN.out
      obtain ⟨lo, hlo⟩ : ∃ lo, lo = 16 * i := ⟨_, rfl⟩
      obtain ⟨e, he⟩ : ∃ e, e = min (lo + 16) n := ⟨_, rfl⟩
      have hml : m = lo := by omega
      subst hml
      have u1 : 16 * (i : Int) = (m : Int) := by omega
      obtain ⟨um1, um2, um3, um4⟩ := min_eqs m n e he
      have hme : m ≤ e ∧ e ≤ n ∧ e ≤ m + 16 := by omega
      have hi5 : i ≤ 10000 := by omega
      have HM16 : Hid (e = min (16 * (i + 1)) n) := by show _ = _; rw [he, hlo]; omega
      obtain ⟨i1, hi1⟩ : ∃ i1, i1 = i + 1 := ⟨_, rfl⟩
      have u4 : (i : Int) + 1 = (i1 : Int) := by omega
      have sl := cut_mid uT s8 A n c .i64 .i64 (m : Int) (e : Int) (by omega) (by omega) (by omega)
      rw [Int.toNat_natCast, Int.toNat_natCast] at sl
      have SB : Hid (Sl wr (cutS A c m) (c - m) ((b.drop m).take (e - m))) := sl_take' (sl_cut (HS.out.below HB.out) (by rw [HL.out]; omega))
      have HBL : Hid (((b.drop m).take (e - m)).length = e - m) := by show _ = _; rw [List.length_take, List.length_drop, HL.out]; omega
      have HST := Lib.hid (gc_step E F b HF.out i m e hlo hme.2.2 hme.1 (by rw [HL.out]; omega))
      have CTR := Lib.hid (CT.out i wr (by omega))
      have CRY := Lib.hid (fun W (hW : Below w.heap.size w W) hS => Crypt_any kp E (cntG F (i + 1)) (cutS A c m) (e - m) (c - m) ((b.drop m).take (e - m)) W (cntG_len F _ HF.out) (HE.out.ext hW) HBL.out (by omega) hS)
      generalize cntG F (i + 1) = CN at CTR CRY HST
      generalize (b.drop m).take (e - m) = X at SB HBL HST CRY
      rw [← hi1] at CTR
      obtain ⟨t, ht⟩ : ∃ t, t = e - m := ⟨_, rfl⟩
      rw [← ht] at sl HBL CRY
      have hmt : m + t ≤ 2147483647 := by omega
      have HT : Hid (m + t = e) := by show _ = _; omega
      have hE8 : (e : Int) ≤ 100000 := by omega
      have hm8 : (m : Int) ≤ 100000 := by omega
      clear hlo he ht hNN hme hm hi1
      go_upto_region 6 with (fail)
      go_wp2_with (first
        | (refine wpList_ld rfl 33 (.tmp 4) rfl (load_arr arr16B rfl (i16c F HF.out) H0.out) ?_)
        | fail)
      refine CTR.out.mono ?_
      rintro e2 w2 ⟨rfl, hb⟩
      have B2 : Hid (Below w.heap.size w w2) := HB.out.step hb
      have F2 := Lib.hid ((hb.block _ (lt_of_heap H0.out)).trans H0.out)
      have O2 := Lib.hid (c_own_below HO.out hb)
      have S2 := Lib.hid (SB.out.below hb)
      clear hb HB H0 HO SB CTR
      go_wp2_with fail
      refine (CRY.out w2 B2.out S2.out).mono ?_
      rintro e3 w3 ⟨v3, rfl, hO, hb⟩
      obtain ⟨A3, c3, rfl, hl3, h31, h32, hr3⟩ := own_read hO
      have B3 : Hid (Below w.heap.size w w3) := B2.out.step hb
      have F3 := Lib.hid ((hb.block _ (lt_of_heap F2.out)).trans F2.out)
      have O3 := Lib.hid (c_own_below O2.out hb)
      have R3 := Lib.hid hr3
      have L3 := Lib.hid hl3
      have hs3 : Hid (w.heap.size + 1 ≤ w3.heap.size) := lt_of_heap F3.out
      clear hb B2 F2 O2 S2 hl3 h31 h32 hr3 hO CRY
      go_upto_region 7 with (
        at_builtin
        refine wpList_app8 rfl (.tmp 31) (.tmp 38) rfl (w.heap.size + 1) _ m (ctrL (gcF E F) 0 (b.take m)) rfl ?_ A3 t c3 w3.heap.size (ctrL (strmF E CN) 0 X) rfl ?_ ?_ ?_ ?_ ?_
        · exact O3.out
        · exact R3.out
        · exact L3.out
        · exact hmt
        · exact hs3.out
        rintro v4 w4 hown hgr
        rw [HST.out, HT.out] at hown
        have O4 := Lib.hid hown
        have B4 : Hid (Below w.heap.size w w4) := B3.out.grown hgr B3.out.size (c_own_ge O3.out (Nat.le_succ _))
        have F4 := Lib.hid ((hgr.block _ (lt_of_heap F3.out) (c_own_ne O3.out (Nat.lt_succ_self _))).trans F3.out)
        clear hown hgr)
      obtain ⟨A5, c5, rfl, hl5, h51, h52, hr5⟩ := own_read O4.out
      clear hl5 h51 h52 hr5 O3 B3 F3 R3 L3 hs3
      have q9 := HM16.out
      go_wp2
      go_roundw
      case rel => exact ⟨i + 1, e, A5, c5, by omega, q9, by go_num, rfl, O4, B4, F4⟩
      case measure => simp [intOf]; omega
    · have q1 : ¬ ((i : Int) < ((n : Int) + 15) / 16) := by have := HNI.out; omega
      have hiN : i = N := by omega
      subst hiN
      have hO := HO.out
      have hmn : m = n := by have := HNN.out; omega
      rw [hm, STN.out, ← hm, hmn] at hO
      have HO2 := Lib.hid hO
      rw [hmn]
      clear hO HO hm hmn
      go_wp2
      go_ret
      exact ⟨_, rfl, own_mono HO2.out (Nat.le_succ _), HB.out⟩
end Go.Proofs.Ytkgbhlppadpdfaa

/- gcm: tag. -/
namespace Go.Proofs.Ytkgbhlppadpdfaa
open Go.RowKit
set_option maxRecDepth 100000
set_option linter.unusedVariables false
set_option linter.unusedSimpArgs false
def CellG (B : Nat) (W : World) (v : Value) (X : List Value) (b : Bool) : Prop := ∃ (g : Nat) (Y : List Value), v = .pointer (some ⟨g, 0, none⟩) ∧ B ≤ g ∧ W.heap[g]? = some (.cells Y.toArray 33 (0, 0)) ∧ Y.length = 16 ∧ (b = true → Y = X)
theorem CellG.ext {B : Nat} {W W' : World} {v : Value} {X : List Value} {b : Bool} (h : CellG B W v X b) (hE : Ext W W') : CellG B W' v X b := by
  obtain ⟨g, Y, h1, h2, h3, h4⟩ := h
  exact ⟨g, Y, h1, h2, (hE.block _ (lt_of_heap h3)).trans h3, h4⟩
structure GJ (B : Nat) (w : World) (LB EB : List UInt8) (L : Nat → Bool) (v9 v10 v16 v19 : Value) (W : World) : Prop where
  b : Below B w W
  hB : B ≤ W.heap.size
  f4 : L 4 = true → v16 = .agg (LB.map bv).toArray
  f7 : L 7 = true → v19 = .agg (EB.map bv).toArray
  f8 : L 8 = true → CellG B W v9 (LB.map bv) (L 10)
  f9 : L 9 = true → CellG B W v10 (EB.map bv) (L 11)
  fd : L 8 = true → L 9 = true → v9 ≠ v10
  d10 : L 10 = true → L 8 = true
  d11 : L 11 = true → L 9 = true
theorem GJ.ext {B : Nat} {w : World} {LB EB : List UInt8} {L : Nat → Bool} {v9 v10 v16 v19 : Value} {W W' : World} (h : GJ B w LB EB L v9 v10 v16 v19 W) (hE : Ext W W') : GJ B w LB EB L v9 v10 v16 v19 W' :=
  ⟨h.b.trans (RowKit.Below.mono hE h.hB), Nat.le_trans h.hB hE.size, h.f4, h.f7, fun a => (h.f8 a).ext hE, fun a => (h.f9 a).ext hE, h.fd, h.d10, h.d11⟩
theorem ptr_neG {g g' : Nat} (h : g ≠ g') : Value.pointer (some ⟨g, 0, none⟩) ≠ .pointer (some ⟨g', 0, none⟩) := by
  intro e; injection e with e; injection e with e; injection e with e; exact h e
theorem heap_otherG {W W' : World} {g g' : Nat} {cs : Array Value} {o : Obj} (hV : W.setRow g cs = W') (hne : g' ≠ g) (h : W.heap[g']? = some o) : W'.heap[g']? = some o := by
  rw [← hV, setRow_other _ _ _ _ hne]; exact h
theorem joinW_three (A3 A4 A5 : Option Addr) (c3 c4 c5 : Nat) (aad x LB : List UInt8) (h : LB.length = 16) : joinW [(A3, c3, aad), (A4, c4, x), (A5, c5, LB)] = whG aad ++ whG x ++ LB := by
  have hw : whG LB = LB := by rw [whG, h]; simp [padN]
  simp only [joinW, List.flatMap_cons, List.flatMap_nil, hw, List.append_nil, List.append_assoc]
theorem rows_three {W : World} {q : Nat} {A3 A4 A5 : Option Addr} {c3 c4 c5 k3 k4 k5 : Nat} {aad x LB : List UInt8} {t : TypeId} {fr : Nat × Nat} (h : W.heap[q]? = some (.cells #[.slice A3 k3 c3, .slice A4 k4 c4, .slice A5 k5 c5] t fr)) (h3 : aad.length = k3) (h4 : x.length = k4) (h5 : LB.length = k5)
    (S3 : Sl W A3 c3 aad) (S4 : Sl W A4 c4 x) (S5 : Sl W A5 c5 LB) : PartsAt W (some ⟨q, 0, none⟩, 3, [(A3, c3, aad), (A4, c4, x), (A5, c5, LB)]) := by
  refine ⟨Nat.le_refl _, by simp [maxLen], ?_, .inr ⟨q, 0, rfl, lt_of_heap h, fun j u hu => ?_⟩⟩
  · intro r hr
    simp only [List.mem_cons, List.not_mem_nil, or_false] at hr
    rcases hr with rfl | rfl | rfl
    · exact S3
    · exact S4
    · exact S5
  · rw [Nat.zero_add, cell_of_heap (cs := [.slice A3 k3 c3, .slice A4 k4 c4, .slice A5 k5 c5]) h]
    rw [← h3, ← h4, ← h5]
    exact hu
def six (L : Nat → Bool) : Prop := L 0 = true ∧ L 1 = true ∧ L 2 = true ∧ L 3 = true ∧ L 5 = true ∧ L 6 = true
def mkG (kp : Value) (F : Array Value) (A3 A4 : Option Addr) (k3 c3 k4 c4 p : Nat) (v9 v10 v16 v19 : Value) : Act := { tmps := #[kp, .agg F, .slice A3 k3 c3, .slice A4 k4 c4, undef, .pointer (some ⟨p, 0, none⟩), undef, undef, .slice none 0 0, v9, v10, undef, .slice A3 k3 c3, .int .i64 (k3 : Int), .slice A4 k4 c4, .int .i64 (k4 : Int), v16, kp, .agg F, v19, undef, undef, undef, undef, undef, undef, undef, undef, undef], defers := [] }
/-- the tag of an aad and a sealed text -/
def tagG (E : List UInt8 → List UInt8) (F aad x : List UInt8) : List UInt8 := xorL (gsumL (E zerB) (whG aad ++ whG x ++ lenL (aad.length : Int) (x.length : Int))) (E F)
theorem tagG_len (E : List UInt8 → List UInt8) (F aad x : List UInt8) (h : (E F).length = 16) : (tagG E F aad x).length = 16 := by rw [tagG, xorL_len, gsumL_len, h]; rfl
set_option maxHeartbeats 8000000 in
theorem gtag_any (kp : Value) (E : List UInt8 → List UInt8) (F : List UInt8) (A3 A4 : Option Addr) (k3 c3 k4 c4 : Nat) (aad x : List UInt8) (w : World) (hF : F.length = 16) (hE : Enc w kp E) (h3 : aad.length = k3) (h4 : x.length = k4) (h31 : k3 ≤ 100000) (h41 : k4 ≤ 100000)
    (S3 : Sl w A3 c3 aad) (S4 : Sl w A4 c4 x) :
    Calls Try.prog 27 #[kp, .agg (F.map bv).toArray, .slice A3 k3 c3, .slice A4 k4 c4] w (NewRow w 16 (tagG E F aad x)) := by
  have hz : ∀ W, (zeroValue 33).run Try.prog W = .ok (.agg zeros16.toArray) W := fun W => by kernel_rfl
  have hlz : Hid (zeros16.length = 16) := rfl
  have HF := Lib.hid hF; have H3 := Lib.hid h3; have H4 := Lib.hid h4; have HS3 := Lib.hid S3; have HS4 := Lib.hid S4; have HE := Lib.hid hE
  have GL := Lib.hid (fun W => glen_any (k3 : Int) (k4 : Int) W)
  have ENC := Lib.hid (fun W hW => hE.2 W hW F hF)
  have HEL := Lib.hid (hE.1 F hF)
  have HLL := Lib.hid (lenL_len (k3 : Int) (k4 : Int))
  have HTG : Hid (tagG E F aad x = xorL (gsumL (E zerB) (whG aad ++ whG x ++ lenL (k3 : Int) (k4 : Int))) (E F)) := by show _ = _; rw [tagG, h3, h4]
  rw [HTG.out]
  generalize E F = EB at ENC HEL ⊢
  generalize lenL (k3 : Int) (k4 : Int) = LB at GL HLL ⊢
  generalize zeros16 = Z at hz hlz
  have G := Lib.hid (heap_alloc_new' w (.cells (F.map bv).toArray 33))
  have GB : Hid (Below w.heap.size w (w.alloc (.cells (F.map bv).toArray 33))) := (Below.refl _ _).alloc (Nat.le_refl _) _
  clear hF hE h3 h4 S3 S4 HTG
  obtain ⟨FV, HFV⟩ : ∃ FV, Hid ((F.map bv).toArray = FV) := ⟨_, rfl⟩
  go_enter Try.func27, Try.ntmps27
  go_upto_region 1 with (fail)
  generalize w.alloc _ = W0 at G GB ⊢
  have BX : Hid (Below w.heap.size w W0.drew) := GB.out.drew
  have H0 : Hid (W0.drew.heap[w.heap.size]? = _) := G.out
  have hsz : Hid (W0.heap.size = W0.drew.heap.size) := rfl
  have hle : Hid (w.heap.size ≤ W0.heap.size) := GB.out.size
  refine regB_start (W0.heap.size) (by kernel_rfl) ?_
  try simp only [Act.put, List.setIfInBounds_toArray, List.set_cons_zero, List.set_cons_succ]
  generalize W0.drew = WD at BX H0 hsz ⊢
  refine regB_take (v := ?_) 0 (some 12) rfl rfl (by kernel_rfl) (by kernel_rfl) (by kernel_rfl) (fun _ _ _ h => h) (by rfl) (fun W hW => ?_) ?_
  rotate_left
  · (go_simp; try rfl)
  simp only [Act.put, List.setIfInBounds_toArray, List.set_cons_zero, List.set_cons_succ]
  refine regB_take (v := ?_) 1 (some 13) rfl rfl (by kernel_rfl) (by kernel_rfl) (by kernel_rfl) (fun _ _ _ h => h) (by rfl) (fun W hW => ?_) ?_
  rotate_left
  · (go_simp; try rfl)
  simp only [Act.put, List.setIfInBounds_toArray, List.set_cons_zero, List.set_cons_succ]
  refine regB_take (v := ?_) 2 (some 14) rfl rfl (by kernel_rfl) (by kernel_rfl) (by kernel_rfl) (fun _ _ _ h => h) (by rfl) (fun W hW => ?_) ?_
  rotate_left
  · (go_simp; try rfl)
  simp only [Act.put, List.setIfInBounds_toArray, List.set_cons_zero, List.set_cons_succ]
  refine regB_take (v := ?_) 3 (some 15) rfl rfl (by kernel_rfl) (by kernel_rfl) (by kernel_rfl) (fun _ _ _ h => h) (by rfl) (fun W hW => ?_) ?_
  rotate_left
  · (go_simp; try rfl)
  simp only [Act.put, List.setIfInBounds_toArray, List.set_cons_zero, List.set_cons_succ]
  refine regB_take (v := ?_) 5 (some 17) rfl rfl (by kernel_rfl) (by kernel_rfl) (by kernel_rfl) (fun _ _ _ h => h) (by rfl) (fun W hW => ?_) ?_
  rotate_left
  · (go_simp; try rfl)
  simp only [Act.put, List.setIfInBounds_toArray, List.set_cons_zero, List.set_cons_succ]
  refine regB_load 6 (some 18) (fun W hW => load_arr arr16B rfl (i16c F HF.out) ((hW.block _ (by have := lt_of_heap H0.out; have := hsz.out; omega)).trans H0.out)) rfl rfl rfl rfl (by kernel_rfl) (by kernel_rfl) (by kernel_rfl) (fun _ _ _ h => h) (by rfl) ?_
  simp only [Act.put, List.setIfInBounds_toArray, List.set_cons_zero, List.set_cons_succ]
  have HLL0 := HLL.out
  refine regB_inv (fun L a' W => six L ∧ ∃ v9 v10 v16 v19, a' = mkG kp (F.map bv).toArray A3 A4 k3 c3 k4 c4 w.heap.size v9 v10 v16 v19 ∧ GJ W0.heap.size WD LB EB L v9 v10 v16 v19 W) (by kernel_rfl) (by decide) (by kernel_rfl) (fun L a' W h => ?_) ?_
    (And.intro ?_ (And.intro ?_ (And.intro ?_ (And.intro ?_ (And.intro ?_ (And.intro ?_ (And.intro ?_ (And.intro ?_ (And.intro ?_ (And.intro ?_ (And.intro ?_ (And.intro ?_ trivial)))))))))))) ?_
  · obtain ⟨_, v9, v10, v16, v19, rfl, H⟩ := h
    exact H.b
  · exact ⟨⟨rfl, rfl, rfl, rfl, rfl, rfl⟩, _, _, _, _, rfl, ⟨Below.refl _ _, Nat.le_of_eq hsz.out, fun h => (by cases h), fun h => (by cases h), fun h => (by cases h), fun h => (by cases h), fun h => (by cases h), fun h => (by cases h), fun h => (by cases h)⟩⟩
  · rintro L a W ⟨h6, _⟩ hLi; rw [h6.1] at hLi; cases hLi
  · rintro L a W ⟨h6, _⟩ hLi; rw [h6.2.1] at hLi; cases hLi
  · rintro L a W ⟨h6, _⟩ hLi; rw [h6.2.2.1] at hLi; cases hLi
  · rintro L a W ⟨h6, _⟩ hLi; rw [h6.2.2.2.1] at hLi; cases hLi
  · rintro L a W ⟨h6, v9, v10, v16, v19, rfl, H⟩ hLi hd K0 hK
    simp only [mkG]
    go_simp
    refine (GL.out W).mono ?_
    rintro e W' ⟨rfl, hb⟩
    have H' := H.ext hb
    exact hK.out _ _ ⟨h6, v9, v10, _, v19, rfl, ⟨H'.b, H'.hB, fun _ => rfl, fun h => H'.f7 h, fun h => H'.f8 h, fun h => H'.f9 h, fun h h' => H'.fd h h', fun h => H'.d10 h, fun h => H'.d11 h⟩⟩
  · rintro L a W ⟨h6, _⟩ hLi; rw [h6.2.2.2.2.1] at hLi; cases hLi
  · rintro L a W ⟨h6, _⟩ hLi; rw [h6.2.2.2.2.2] at hLi; cases hLi
  · rintro L a W ⟨h6, v9, v10, v16, v19, rfl, H⟩ hLi hd K0 hK
    simp only [mkG]
    go_simp
    refine (ENC.out W (BX.out.trans (H.b.mono hle.out))).mono ?_
    rintro e W' ⟨rfl, hb⟩
    have H' := H.ext hb
    exact hK.out _ _ ⟨h6, v9, v10, v16, _, rfl, ⟨H'.b, H'.hB, fun h => H'.f4 h, fun _ => rfl, fun h => H'.f8 h, fun h => H'.f9 h, fun h h' => H'.fd h h', fun h => H'.d10 h, fun h => H'.d11 h⟩⟩
  · rintro L a W ⟨h6, v9, v10, v16, v19, rfl, H⟩ hLi hd K0 hK
    simp only [mkG]
    go_simp
    have H' := H.ext ((Below.refl W.heap.size W).alloc (Nat.le_refl _) (.cells Z.toArray 33))
    have hN := heap_alloc_new' W (.cells Z.toArray 33)
    refine hK.out _ _ ⟨h6, _, v10, v16, v19, rfl, ⟨H'.b, H'.hB, fun h => H'.f4 h, fun h => H'.f7 h, fun _ => ⟨W.heap.size, Z, rfl, H.hB, hN, hlz.out, fun h => ?_⟩, fun h => H'.f9 h, fun _ h' => ?_, fun _ => rfl, fun h => H'.d11 h⟩⟩
    · have := H.d10 h; rw [this] at hLi; cases hLi
    · obtain ⟨g3, Y3, rfl, _, h3, _⟩ := H.f9 h'
      exact ptr_neG (by have := lt_of_heap h3; omega)
  · rintro L a W ⟨h6, v9, v10, v16, v19, rfl, H⟩ hLi hd K0 hK
    simp only [mkG]
    go_simp
    have H' := H.ext ((Below.refl W.heap.size W).alloc (Nat.le_refl _) (.cells Z.toArray 33))
    have hN := heap_alloc_new' W (.cells Z.toArray 33)
    refine hK.out _ _ ⟨h6, v9, _, v16, v19, rfl, ⟨H'.b, H'.hB, fun h => H'.f4 h, fun h => H'.f7 h, fun h => H'.f8 h, fun _ => ⟨W.heap.size, Z, rfl, H.hB, hN, hlz.out, fun h => ?_⟩, fun h' _ => ?_, fun h => H'.d10 h, fun _ => rfl⟩⟩
    · have := H.d11 h; rw [this] at hLi; cases hLi
    · obtain ⟨g3, Y3, rfl, _, h3, _⟩ := H.f8 h'
      exact ptr_neG (by have := lt_of_heap h3; omega)
  · rintro L a W ⟨h6, v9, v10, v16, v19, rfl, H⟩ hLi hd K0 hK
    have d4 := hd ⟨4, .data⟩ (by simp) rfl
    have d8 := hd ⟨8, .data⟩ (by simp) rfl
    have d9 := hd ⟨9, .phase⟩ (by simp) rfl
    obtain rfl := H.f4 d4
    have hne := H.fd d8 d9
    obtain ⟨g2, Y2, rfl, hq2, h2, l2, _⟩ := H.f8 d8
    obtain ⟨g3, Y3, rfl, hq3, h3, l3, e3⟩ := H.f9 d9
    have hn : g3 ≠ g2 := fun e => hne (by rw [e])
    refine step_st1 rfl 33 (.tmp 9) (.tmp 16) rfl (store_arr (cs := LB.map bv) (i16c LB HLL0) (bv_one _) h2 (by rw [List.length_map, HLL0]; exact l2)) ?_
    generalize hV : World.setRow _ _ _ = W'
    have hbl : Below W0.heap.size W W' := below_of_setRow hV hq2 H.hB
    exact hK.out _ _ ⟨h6, _, _, _, v19, rfl, ⟨H.b.trans hbl, Nat.le_trans H.hB hbl.size, fun _ => rfl, fun h => H.f7 h, fun _ => ⟨g2, LB.map bv, rfl, hq2, heap_of_setRow hV h2, by rw [List.length_map, HLL0], fun _ => rfl⟩, fun _ => ⟨g3, Y3, rfl, hq3, heap_otherG hV hn h3, l3, fun h => e3 h⟩, fun _ _ => hne, fun _ => d8, fun h => H.d11 h⟩⟩
  · rintro L a W ⟨h6, v9, v10, v16, v19, rfl, H⟩ hLi hd K0 hK
    have d7 := hd ⟨7, .data⟩ (by simp) rfl
    have d8 := hd ⟨8, .phase⟩ (by simp) rfl
    have d9 := hd ⟨9, .data⟩ (by simp) rfl
    obtain rfl := H.f7 d7
    have hne := H.fd d8 d9
    obtain ⟨g2, Y2, rfl, hq2, h2, l2, e2⟩ := H.f8 d8
    obtain ⟨g3, Y3, rfl, hq3, h3, l3, _⟩ := H.f9 d9
    have hn : g2 ≠ g3 := fun e => hne (by rw [e])
    refine step_st1 rfl 33 (.tmp 10) (.tmp 19) rfl (store_arr (cs := EB.map bv) (i16c EB HEL.out) (bv_one _) h3 (by rw [List.length_map, HEL.out]; exact l3)) ?_
    generalize hV : World.setRow _ _ _ = W'
    have hbl : Below W0.heap.size W W' := below_of_setRow hV hq3 H.hB
    exact hK.out _ _ ⟨h6, _, _, v16, _, rfl, ⟨H.b.trans hbl, Nat.le_trans H.hB hbl.size, fun h => H.f4 h, fun _ => rfl, fun _ => ⟨g2, Y2, rfl, hq2, heap_otherG hV hn h2, l2, fun h => e2 h⟩, fun _ => ⟨g3, EB.map bv, rfl, hq3, heap_of_setRow hV h3, by rw [List.length_map, HEL.out], fun _ => rfl⟩, fun _ _ => hne, fun h => H.d10 h, fun _ => d9⟩⟩
  rintro L a W hL ⟨_, v9, v10, v16, v19, rfl, H⟩
  obtain ⟨g2, Y2, rfl, hq2, h2, l2, e2⟩ := H.f8 (hL 8)
  obtain ⟨g3, Y3, rfl, hq3, h3, l3, e3⟩ := H.f9 (hL 9)
  obtain rfl := e2 (hL 10)
  obtain rfl := e3 (hL 11)
  obtain rfl := H.f4 (hL 4)
  obtain rfl := H.f7 (hL 7)
  have H2 := Lib.hid h2; have H3' := Lib.hid h3; have HB : Hid (Below w.heap.size w W) := BX.out.trans (H.b.mono hle.out)
  have HQ2 : Hid (w.heap.size ≤ g2) := Nat.le_trans hle.out hq2
  clear h2 h3 H hL l2 l3 e2 e3 hq2 hq3 BX H0 GL ENC
  have ar1 := arr_all arr16B s8 ⟨g2, 0, none⟩
  have ar2 := arr_all arr16B s8 ⟨g3, 0, none⟩
  simp only [mkG]
  go_wp2_with fail
  have N1 := Lib.hid (heap_alloc_new' W (.cells #[.slice A3 k3 c3, .slice A4 k4 c4, .slice (some ⟨g2, 0, none⟩) 16 16] 23))
  have E1 : Hid (Ext W (W.alloc (.cells #[.slice A3 k3 c3, .slice A4 k4 c4, .slice (some ⟨g2, 0, none⟩) 16 16] 23))) := (Below.refl _ _).alloc (Nat.le_refl _) _
  generalize W.alloc _ = W1 at N1 E1 ⊢
  generalize W.heap.size = q at N1 ⊢
  have B1 : Hid (Below w.heap.size w W1) := HB.out.step E1.out
  have K2 := Lib.hid ((E1.out.block _ (lt_of_heap H2.out)).trans H2.out)
  have K3 := Lib.hid ((E1.out.block _ (lt_of_heap H3'.out)).trans H3'.out)
  have PA := Lib.hid (rows_three N1.out H3.out H4.out HLL0 (HS3.out.below B1.out) (HS4.out.below B1.out) (sl_row HLL0 (by omega) K2.out))
  have HJW := Lib.hid (joinW_three A3 A4 (some ⟨g2, 0, none⟩) c3 c4 16 aad x LB HLL0)
  have hlens : ∀ r ∈ [(A3, c3, aad), (A4, c4, x), (some (⟨g2, 0, none⟩ : Addr), 16, LB)], r.2.2.length ≤ 100000 := by
    intro r hr
    simp only [List.mem_cons, List.not_mem_nil, or_false] at hr
    rcases hr with rfl | rfl | rfl
    · show aad.length ≤ _; rw [H3.out]; exact h31
    · show x.length ≤ _; rw [H4.out]; exact h41
    · show LB.length ≤ _; rw [HLL0]; omega
  have HASH := Lib.hid (ghashR_any kp E (some ⟨q, 0, none⟩) 3 3 [(A3, c3, aad), (A4, c4, x), (some ⟨g2, 0, none⟩, 16, LB)] W1 (HE.out.ext B1.out) PA.out rfl (by omega) hlens)
  rw [HJW.out] at HASH
  have GSL := Lib.hid (gsumL_len (E zerB) (whG aad ++ whG x ++ LB))
  obtain ⟨T, HTT⟩ : ∃ T, Hid (gsumL (E zerB) (whG aad ++ whG x ++ LB) = T) := ⟨_, rfl⟩
  rw [HTT.out] at HASH GSL
  clear hlens PA HJW N1 E1 HB H2 H3' ar1
  refine HASH.out.mono ?_
  rintro e w2 ⟨rfl, hb⟩
  have B2 : Hid (Below w.heap.size w w2) := B1.out.step hb
  have K4 := Lib.hid ((hb.block _ (lt_of_heap K3.out)).trans K3.out)
  clear hb B1 K3 K2 HASH
  go_upto_region 3 with (first
    | (refine wpList_st rfl 33 (.tmp 11) (.tmp 25) rfl (store_arr (cs := T.map bv) (i16c T GSL.out) (bv_one _) (heap_alloc_new' w2 _) (by rw [List.length_map, GSL.out]; exact hlz.out)) ?_
       generalize hV : World.setRow _ _ _ = W3
       have M3 := Lib.hid (heap_of_setRow hV (heap_alloc_new' w2 _))
       have MB := Lib.hid (((Below.refl w2.heap.size w2).alloc (Nat.le_refl _) _).trans (below_of_setRow hV (Nat.le_refl w2.heap.size) (by simp)))
       clear hV)
    | fail)
  have B3 : Hid (Below w.heap.size w W3) := B2.out.step MB.out
  have K5 := Lib.hid ((MB.out.block _ (lt_of_heap K4.out)).trans K4.out)
  clear B2 K4 MB
  generalize w2.heap.size = q3 at M3 ⊢
  have ar1 := arr_all arr16B s8 ⟨q3, 0, none⟩
  have HX : Hid (Ext W3 W3.drew) := (Below.refl _ _).drew
  have XC := Lib.hid (fun A B W hS hS' => xor_n A B 16 16 16 16 16 T EB W GSL.out HEL.out rfl hS hS' (by omega) (by omega))
  obtain ⟨R, HR⟩ : ∃ R, Hid (xorL T EB = R) := ⟨_, rfl⟩
  rw [HR.out] at XC
  refine reg_start (by kernel_rfl) ?_
  try simp only [Act.put, List.setIfInBounds_toArray, List.set_cons_zero, List.set_cons_succ]
  refine reg_take (v := ?_) 0 (some 26) rfl rfl (by kernel_rfl) (by kernel_rfl) (by kernel_rfl) (fun _ _ _ h => h) (by rfl) (fun W hW => ?_) ?_
  rotate_left
  · (go_simp; try rfl)
  simp only [Act.put, List.setIfInBounds_toArray, List.set_cons_zero, List.set_cons_succ]
  refine reg_take (v := ?_) 1 (some 27) rfl rfl (by kernel_rfl) (by kernel_rfl) (by kernel_rfl) (fun _ _ _ h => h) (by rfl) (fun W hW => ?_) ?_
  rotate_left
  · (go_simp; try rfl)
  simp only [Act.put, List.setIfInBounds_toArray, List.set_cons_zero, List.set_cons_succ]
  refine reg_eff 2 rfl (by kernel_rfl) (fun K hK => ?_)
  go_simp
  refine (XC.out _ _ _ ((sl_row GSL.out (by omega) M3.out).below HX.out) ((sl_row HEL.out (by omega) K5.out).below HX.out)).mono ?_
  rintro e w4 ⟨g, hg, rfl, hk, hE⟩
  have K6 := Lib.hid hk
  have HG := Lib.hid hg
  clear hk hg
  refine hK.out _ _ hE ?_
  have HX := Lib.hid (Ext.trans HX.out hE)
  clear hE hK K
  try simp only [Act.put, List.setIfInBounds_toArray, List.set_cons_zero, List.set_cons_succ]
  refine reg_take (v := ?_) 3 (some 8) rfl rfl (by kernel_rfl) (by kernel_rfl) (by kernel_rfl) (fun _ _ _ h => h) (by rfl) (fun W hW => ?_) ?_
  rotate_left
  · (go_simp; try rfl)
  simp only [Act.put, List.setIfInBounds_toArray, List.set_cons_zero, List.set_cons_succ]
  refine reg_done (by kernel_rfl) ?_
  have B4 : Hid (Below w.heap.size w w4) := B3.out.step HX.out
  go_wp2
  go_ret
  exact ⟨g, Nat.le_trans B3.out.size HG.out, rfl, by rw [HTT.out, HR.out]; exact K6.out, B4.out⟩
end Go.Proofs.Ytkgbhlppadpdfaa

/- gcm: First, and both. -/
namespace Go.Proofs.Ytkgbhlppadpdfaa
open Go.RowKit
set_option maxRecDepth 100000
set_option linter.unusedVariables false
set_option linter.unusedSimpArgs false
def one15 : List UInt8 := [0, 0, 0, 0, 0, 0, 0, 0, 0, 0, 0, 0, 0, 0, 0, 1]
def firstG (E : List UInt8 → List UInt8) (iv : List UInt8) : List UInt8 := if iv.length = 12 then iv ++ [0, 0, 0, 1] else gsumL (E zerB) (whG iv ++ lenL 0 (iv.length : Int))
theorem firstG_len (E : List UInt8 → List UInt8) (iv : List UInt8) : (firstG E iv).length = 16 := by
  unfold firstG; split
  · rename_i h; simp [h]
  · exact gsumL_len _ _
theorem first_splice (iv : List UInt8) (h : iv.length = 12) : splice (one15.map bv) 0 (iv.map bv) = (iv ++ [0, 0, 0, 1]).map bv := by
  have := splice_split [] ((List.replicate 12 (0 : UInt8)).map bv) (([0, 0, 0, 1] : List UInt8).map bv) (iv.map bv) (by simp [h])
  simp only [List.length_nil, List.nil_append] at this
  rw [List.map_append, ← this]
  rfl
theorem joinW_two (A3 A5 : Option Addr) (c3 c5 : Nat) (aad LB : List UInt8) (h : LB.length = 16) : joinW [(A3, c3, aad), (A5, c5, LB)] = whG aad ++ LB := by
  have hw : whG LB = LB := by rw [whG, h]; simp [padN]
  simp only [joinW, List.flatMap_cons, List.flatMap_nil, hw, List.append_nil]
theorem rows_two {W : World} {q : Nat} {A3 A5 : Option Addr} {c3 c5 k3 k5 : Nat} {aad LB : List UInt8} {t : TypeId} {fr : Nat × Nat} (h : W.heap[q]? = some (.cells #[.slice A3 k3 c3, .slice A5 k5 c5] t fr)) (h3 : aad.length = k3) (h5 : LB.length = k5)
    (S3 : Sl W A3 c3 aad) (S5 : Sl W A5 c5 LB) : PartsAt W (some ⟨q, 0, none⟩, 2, [(A3, c3, aad), (A5, c5, LB)]) := by
  refine ⟨Nat.le_refl _, by simp [maxLen], ?_, .inr ⟨q, 0, rfl, lt_of_heap h, fun j u hu => ?_⟩⟩
  · intro r hr
    simp only [List.mem_cons, List.not_mem_nil, or_false] at hr
    rcases hr with rfl | rfl
    · exact S3
    · exact S5
  · rw [Nat.zero_add, cell_of_heap (cs := [.slice A3 k3 c3, .slice A5 k5 c5]) h]
    rw [← h3, ← h5]
    exact hu
set_option maxHeartbeats 4000000 in
theorem gfirst_any (kp : Value) (E : List UInt8 → List UInt8) (A : Option Addr) (n c : Nat) (iv : List UInt8) (w : World) (hE : GKey w kp E) (hl : iv.length = n) (h0 : 0 < n) (hn : n ≤ 100000) (hS : Sl w A c iv) :
    Calls Try.prog 13 #[kp, .slice A n c] w fun e w' => e = .returned (.agg ((firstG E iv).map bv).toArray) ∧ Below w.heap.size w w' := by
  have hz : ∀ W, (zeroValue 33).run Try.prog W = .ok (.agg zeros16.toArray) W := fun W => by kernel_rfl
  have hlz : Hid (zeros16.length = 16) := rfl
  have BD : Hid (∀ W, (Instr.build 33 #[(15, .int .u8 1)]).run Try.prog W = .ok (.agg (one15.map bv).toArray) W) := fun W => by kernel_rfl
  have H15 : Hid (one15.length = 16) := rfl
  generalize zeros16 = Z at hz hlz
  have HE := Lib.hid hE; have HL := Lib.hid hl; have HS := Lib.hid hS
  have WR := Lib.hid (fun W (hW : Below w.heap.size w W) => gwrong_any kp E A n c W (hE.ext hW) h0)
  have G := Lib.hid (heap_alloc_new' w (.cells Z.toArray 33))
  have GB : Hid (Below w.heap.size w (w.alloc (.cells Z.toArray 33))) := (Below.refl _ _).alloc (Nat.le_refl _) _
  have FL := Lib.hid (firstG_len E iv)
  by_cases h12 : n = 12
  · have HSP := Lib.hid (first_splice iv (hl.trans h12))
    have HFE : Hid (firstG E iv = iv ++ [0, 0, 0, 1]) := by show _ = _; rw [firstG, if_pos (hl.trans h12)]
    rw [← HFE.out] at HSP
    generalize firstG E iv = R at HSP FL ⊢
    generalize one15 = O at BD HSP H15
    have t12 : ((n : Int) == 12) = true := by simp [h12]
    have HN12 := Lib.hid h12
    clear hE hl hS h12 h0
    go_enter Try.func13, Try.ntmps13
    go_upto_region 1 with (fail)
    generalize w.alloc _ = W0 at G GB ⊢
    go_wp2_with fail
    refine (WR.out W0 GB.out).mono ?_
    rintro e w1 ⟨rfl, rfl⟩
    go_upto_region 5 with (first
      | (refine wpList_run (o := ⟨some 17, _, _, _, _, _⟩) rfl (v := .agg (O.map bv).toArray) (w' := W0) (exec_bld rfl (by simp only [List.map_toArray, List.map_cons, List.map_nil]; exact BD.out _)) ?_)
      | (refine wpList_st rfl 33 (.tmp 5) (.tmp 17) rfl (store_arr (cs := O.map bv) (i16c O H15.out) (bv_one _) (heap_alloc_new' W0 _) (by rw [List.length_map, H15.out]; exact hlz.out)) ?_
         generalize hV : World.setRow _ _ _ = W3
         have M3 := Lib.hid (heap_of_setRow hV (heap_alloc_new' W0 _))
         have MB := Lib.hid (((Below.refl W0.heap.size W0).alloc (Nat.le_refl _) _).trans (below_of_setRow hV (Nat.le_refl W0.heap.size) (by simp)))
         clear hV)
      | fail)
    have B3 : Hid (Below w.heap.size w W3) := GB.out.step MB.out
    have G3 := Lib.hid ((MB.out.block _ (lt_of_heap G.out)).trans G.out)
    have HQ : Hid (w.heap.size < W0.heap.size) := lt_of_heap G.out
    clear MB GB G WR
    generalize W0.heap.size = q at M3 HQ ⊢
    have ar := arr_all arr16B s8 ⟨q, 0, none⟩
    have S3 := Lib.hid (HS.out.below B3.out)
    obtain ⟨W4, hcopy, hblk, _, hgr⟩ := copy_run uT s8 (sT := 23) 3 W3 q 0 (O.map bv) 33 M3.out (some ⟨q, 0, none⟩) A 16 16 n c W3.heap.size (iv.map bv) (by rw [List.length_map, HL.out, HN12.out]; rfl) (fun _ => rfl) S3.out.2.2 (by rw [List.length_map, List.length_map, HL.out, H15.out, HN12.out]; omega) (bv_one _)
    rw [HSP.out] at hblk
    have M4 := Lib.hid hblk
    have B4 : Hid (Below w.heap.size w W4) := B3.out.trans (grown_below hgr (Nat.le_of_lt HQ.out) B3.out.size)
    have G4 := Lib.hid ((hgr.block _ (lt_of_heap G3.out) (by have := HQ.out; simp; omega)).trans G3.out)
    clear hblk hgr B3 G3 M3
    go_wp2_with (first
      | (refine wpList_ld rfl 33 (.tmp 5) rfl (load_arr arr16B rfl (i16c R FL.out) M4.out) ?_)
      | (refine wpList_st rfl 33 (.tmp 4) (.tmp 21) rfl (store_arr (cs := R.map bv) (i16c R FL.out) (bv_one _) G4.out (by rw [List.length_map, FL.out]; exact hlz.out)) ?_))
    have hres := setRow_heap W4 w.heap.size _ (R.map bv).toArray 33 _ G4.out
    exact bodyPost_ret (results_cell_row (P := Try.prog) rfl _ _ w.heap.size 33 (R.map bv).toArray (0, 0) _ rfl hres arr16B rfl (by rw [List.size_toArray]; exact i16c R FL.out)) rfl ⟨rfl, B4.out.trans (grown_below (grown_setRow _ _ _) (Nat.le_refl _) B4.out.size)⟩
  · have HFE : Hid (firstG E iv = gsumL (E zerB) (whG iv ++ lenL 0 (n : Int))) := by show _ = _; rw [firstG, if_neg (by omega), hl]
    rw [HFE.out] at FL ⊢
    have t12 : ((n : Int) == 12) = false := by simp; omega
    have GL := Lib.hid (fun W => glen_any 0 (n : Int) W)
    have HLL := Lib.hid (lenL_len 0 (n : Int))
    generalize lenL 0 (n : Int) = LB at GL HLL FL ⊢
    clear hE hl hS h12 h0
    go_enter Try.func13, Try.ntmps13
    go_upto_region 1 with (fail)
    generalize w.alloc _ = W0 at G GB ⊢
    go_wp2_with fail
    refine (WR.out W0 GB.out).mono ?_
    rintro e w1 ⟨rfl, rfl⟩
    go_wp2_with fail
    refine (GL.out W0).mono ?_
    rintro e w1 ⟨rfl, hb⟩
    have B1 : Hid (Below w.heap.size w w1) := GB.out.step hb
    have G1 := Lib.hid ((hb.block _ (lt_of_heap G.out)).trans G.out)
    clear hb GB G WR GL
    go_upto_region 8 with (first
      | (refine wpList_st rfl 33 (.tmp 6) (.tmp 24) rfl (store_arr (cs := LB.map bv) (i16c LB HLL.out) (bv_one _) (heap_alloc_new' w1 _) (by rw [List.length_map, HLL.out]; exact hlz.out)) ?_
         generalize hV : World.setRow _ _ _ = W3
         have M3 := Lib.hid (heap_of_setRow hV (heap_alloc_new' w1 _))
         have MB := Lib.hid (((Below.refl w1.heap.size w1).alloc (Nat.le_refl _) _).trans (below_of_setRow hV (Nat.le_refl w1.heap.size) (by simp)))
         clear hV)
      | fail)
    have B3 : Hid (Below w.heap.size w W3) := B1.out.step MB.out
    have G3 := Lib.hid ((MB.out.block _ (lt_of_heap G1.out)).trans G1.out)
    clear MB B1 G1
    generalize w1.heap.size = q at M3 ⊢
    have ar := arr_all arr16B s8 ⟨q, 0, none⟩
    go_wp2_with fail
    have N1 := Lib.hid (heap_alloc_new' W3 (.cells #[.slice A n c, .slice (some ⟨q, 0, none⟩) 16 16] 23))
    have E1 : Hid (Ext W3 (W3.alloc (.cells #[.slice A n c, .slice (some ⟨q, 0, none⟩) 16 16] 23))) := (Below.refl _ _).alloc (Nat.le_refl _) _
    generalize W3.alloc _ = W4 at N1 E1 ⊢
    generalize W3.heap.size = q2 at N1 ⊢
    have B4 : Hid (Below w.heap.size w W4) := B3.out.step E1.out
    have G4 := Lib.hid ((E1.out.block _ (lt_of_heap G3.out)).trans G3.out)
    have K2 := Lib.hid ((E1.out.block _ (lt_of_heap M3.out)).trans M3.out)
    have PA := Lib.hid (rows_two N1.out HL.out HLL.out (HS.out.below B4.out) (sl_row HLL.out (by omega) K2.out))
    have HJW := Lib.hid (joinW_two A (some ⟨q, 0, none⟩) c 16 iv LB HLL.out)
    have hlens : ∀ r ∈ [(A, c, iv), (some (⟨q, 0, none⟩ : Addr), 16, LB)], r.2.2.length ≤ 100000 := by
      intro r hr
      simp only [List.mem_cons, List.not_mem_nil, or_false] at hr
      rcases hr with rfl | rfl
      · show iv.length ≤ _; rw [HL.out]; exact hn
      · show LB.length ≤ _; rw [HLL.out]; omega
    have HASH := Lib.hid (ghashR_any kp E (some ⟨q2, 0, none⟩) 2 2 [(A, c, iv), (some ⟨q, 0, none⟩, 16, LB)] W4 (HE.out.1.ext B4.out) PA.out rfl (by omega) hlens)
    rw [HJW.out] at HASH
    obtain ⟨R, HR⟩ : ∃ R, Hid (gsumL (E zerB) (whG iv ++ LB) = R) := ⟨_, rfl⟩
    rw [HR.out] at HASH FL
    clear hlens PA HJW N1 E1 B3 G3 K2
    refine HASH.out.mono ?_
    rintro e w5 ⟨rfl, hb⟩
    have B5 : Hid (Below w.heap.size w w5) := B4.out.step hb
    have G5 := Lib.hid ((hb.block _ (lt_of_heap G4.out)).trans G4.out)
    clear hb B4 G4 HASH
    go_wp2_with (first
      | (refine wpList_st rfl 33 (.tmp 4) (.tmp 29) rfl (store_arr (cs := R.map bv) (i16c R FL.out) (bv_one _) G5.out (by rw [List.length_map, FL.out]; exact hlz.out)) ?_))
    have hres := setRow_heap w5 w.heap.size _ (R.map bv).toArray 33 _ G5.out
    exact bodyPost_ret (results_cell_row (P := Try.prog) rfl _ _ w.heap.size 33 (R.map bv).toArray (0, 0) _ rfl hres arr16B rfl (by rw [List.size_toArray]; exact i16c R FL.out)) rfl ⟨by rw [HR.out], B5.out.trans (grown_below (grown_setRow _ _ _) (Nat.le_refl _) B5.out.size)⟩
set_option maxHeartbeats 1000000 in
theorem gboth_any (F : FuncId) (cap : Array Value) (R : Value → Int → World → Prop) (kp : Value) (E : List UInt8 → List UInt8) (A : Option Addr) (n c : Nat) (iv : List UInt8) (w : World) (hE : GKey w kp E) (hl : iv.length = n) (h0 : 0 < n) (hn : n ≤ 100000) (hS : Sl w A c iv)
    (hcall : ∀ args W, (callFunc F args).run Try.prog W = .ok (.enter F args) W)
    (hF : ∀ W, Ext w W → Calls Try.prog F (#[.agg ((firstG E iv).map bv).toArray] ++ cap) W fun e W' => ∃ v x, e = .returned (.tuple #[v, .int .i64 x]) ∧ Ext W W' ∧ R v x W') :
    Calls Try.prog 24 #[kp, .slice A n c, .func (.func F) #[] cap] w fun e w' => ∃ v x, e = .returned (.tuple #[v, .int .i64 x]) ∧ Ext w w' ∧ R v x w' := by
  have WR := Lib.hid (gwrong_any kp E A n c w hE h0)
  have FI := Lib.hid (gfirst_any kp E A n c iv w hE hl h0 hn hS)
  have HF := Lib.hid hF
  generalize firstG E iv = X at FI HF
  clear hE hl h0 hS hF
  go_enter Try.func24, Try.ntmps24
  go_wp2_with fail
  refine WR.out.mono ?_
  rintro e w1 ⟨rfl, rfl⟩
  go_wp2_with fail
  refine FI.out.mono ?_
  rintro e w1 ⟨rfl, hb⟩
  have B1 : Hid (Ext w w1) := hb
  clear hb
  go_wp2_with fail
  refine (HF.out w1 B1.out).mono ?_
  rintro e w2 ⟨v, x, rfl, hE, hR⟩
  have HR := Lib.hid hR
  have B2 := Lib.hid (B1.out.trans hE)
  clear hE hR
  go_wp2
  go_ret2
  exact ⟨v, x, rfl, B2.out, HR.out⟩
end Go.Proofs.Ytkgbhlppadpdfaa

/- gcm: what Seal and Open hand to both; Seal and Open. -/
namespace Go.Proofs.Ytkgbhlppadpdfaa
open Go.RowKit
set_option maxRecDepth 100000
set_option linter.unusedVariables false
set_option linter.unusedSimpArgs false
/-- bytes, sealed -/
def sealG (E : List UInt8 → List UInt8) (F aad b : List UInt8) : List UInt8 := gcL E F b ++ tagG E F aad (gcL E F b)
theorem sealG_len (E : List UInt8 → List UInt8) (F aad b : List UInt8) (h : (E F).length = 16) : (sealG E F aad b).length = b.length + 16 := by rw [sealG, List.length_append, gcL_len, tagG_len _ _ _ _ h]
theorem box_extG {W W' : World} {g : Nat} {v : Value} {t : TypeId} {fr : Nat × Nat} (h : W.heap[g]? = some (.cells #[v] t fr)) (hE : Below W.heap.size W W') : W'.heap[g]? = some (.cells #[v] t fr) := (hE.block _ (lt_of_heap h)).trans h
theorem box_cellG {W : World} {g : Nat} {v : Value} {t : TypeId} {fr : Nat × Nat} (h : W.heap[g]? = some (.cells #[v] t fr)) : W.cell? ⟨g, 0, none⟩ = some v := by rw [cell_of_heap (cs := [v]) h]; rfl
theorem ge_ownG {a g : Nat} (h : a ≤ g) {n c : Nat} : ∀ k, (Value.slice (some ⟨g, 0, none⟩) n c).ownBlock = some k → a ≤ k := by
  intro k hk
  simp [Value.ownBlock] at hk
  omega
set_option maxHeartbeats 4000000 in
theorem gseal1_any (p : Nat) (E : List UInt8 → List UInt8) (F : List UInt8) (g1 g2 g3 : Nat) (A3 A4 : Option Addr) (k3 c3 k4 c4 : Nat) (aad x : List UInt8) (w : World) (hF : F.length = 16) (hE : Enc w (.pointer (some ⟨p, 0, none⟩)) E) (h3 : aad.length = k3) (h4 : x.length = k4) (h31 : k3 ≤ 1000) (h41 : k4 ≤ 1000)
    (S3 : Sl w A3 c3 aad) (S4 : Sl w A4 c4 x) (H1 : w.heap[g1]? = some (.cells #[.pointer (some ⟨p, 0, none⟩)] 27 (0, 0))) (H2 : w.heap[g2]? = some (.cells #[.slice A4 k4 c4] 23 (0, 0))) (H3 : w.heap[g3]? = some (.cells #[.slice A3 k3 c3] 23 (0, 0))) :
    Calls Try.prog 25 #[.agg (F.map bv).toArray, .pointer (some ⟨g1, 0, none⟩), .pointer (some ⟨g2, 0, none⟩), .pointer (some ⟨g3, 0, none⟩)] w fun e w' =>
      ∃ v, e = .returned (.tuple #[v, .int .i64 0]) ∧ w'.ownsRow w.heap.size 5 1 v (k4 + 16) ((sealG E F aad x).map bv) ∧ Below w.heap.size w w' := by
  have HF := Lib.hid hF; have HS3 := Lib.hid S3; have HS4 := Lib.hid S4; have HH1 := Lib.hid H1; have HH2 := Lib.hid H2; have HH3 := Lib.hid H3
  have CR := Lib.hid (fun W (hW : Below w.heap.size w W) hS => gcrypt_any (.pointer (some ⟨p, 0, none⟩)) E F A4 k4 c4 x W hF (hE.ext hW) h4 (by omega) hS)
  have HCL : Hid ((gcL E F x).length = k4) := by show _ = _; rw [gcL_len]; exact h4
  have TA := Lib.hid (fun A c W (hW : Below w.heap.size w W) hS3 hS => gtag_any (.pointer (some ⟨p, 0, none⟩)) E F A3 A k3 c3 k4 c aad (gcL E F x) W hF (hE.ext hW) h3 HCL.out (by omega) (by omega) hS3 hS)
  have HSE : Hid (gcL E F x ++ tagG E F aad (gcL E F x) = sealG E F aad x) := rfl
  have HTL := Lib.hid (tagG_len E F aad (gcL E F x) (hE.1 F hF))
  generalize tagG E F aad (gcL E F x) = T at TA HSE HTL
  generalize gcL E F x = C at CR HCL TA HSE
  generalize sealG E F aad x = R at HSE ⊢
  have G := Lib.hid (heap_alloc_new' w (.cells (F.map bv).toArray 33))
  have GB : Hid (Below w.heap.size w (w.alloc (.cells (F.map bv).toArray 33))) := (Below.refl _ _).alloc (Nat.le_refl _) _
  have hk31 : k4 + 16 ≤ 2147483647 := by omega
  clear hF hE h3 h4 S3 S4 H1 H2 H3
  go_enter Try.func25, Try.ntmps25
  go_upto_region 1 with (fail)
  generalize w.alloc _ = W0 at G GB ⊢
  have c1 := box_cellG (box_extG HH1.out GB.out)
  have c2 := box_cellG (box_extG HH2.out GB.out)
  go_upto_region 2 with (first
    | (refine wpList_ld rfl 33 (.tmp 4) rfl (load_arr arr16B rfl (i16c F HF.out) G.out) ?_))
  refine (CR.out W0 GB.out (HS4.out.below GB.out)).mono ?_
  rintro e w1 ⟨v1, rfl, hO, hb1⟩
  obtain ⟨A1, cc1, rfl, hl3, h31', h32, hr3⟩ := own_read hO
  have S1 := Lib.hid (sl_mk hl3 h31' h32 hr3)
  have O1 := Lib.hid hO
  have B1 : Hid (Below w.heap.size w w1) := GB.out.step hb1
  have F1 := Lib.hid ((hb1.block _ (lt_of_heap G.out)).trans G.out)
  have hge : Hid (w.heap.size ≤ W0.heap.size) := GB.out.size
  clear hl3 h31' h32 hr3 hO hb1 c1 c2 GB G CR
  have c1 := box_cellG (box_extG HH1.out B1.out)
  have c3' := box_cellG (box_extG HH3.out B1.out)
  go_wp2_with (first
    | (refine wpList_ld rfl 33 (.tmp 4) rfl (load_arr arr16B rfl (i16c F HF.out) F1.out) ?_))
  refine (TA.out A1 cc1 w1 B1.out (HS3.out.below B1.out) S1.out).mono ?_
  rintro e w2 ⟨g2', hg2, rfl, hk2, hb2⟩
  have B2 : Hid (Below w.heap.size w w2) := B1.out.step hb2
  have O2 := Lib.hid (c_own_below (own_mono O1.out hge.out) hb2)
  have T2 := Lib.hid hk2
  have HS2 : Hid (w.heap.size ≤ w2.heap.size) := B2.out.size
  clear hg2 hk2 hb2 c1 c3' B1 F1 O1 S1 TA
  go_wp2_with (first
    | (at_builtin
       refine wpList_app8 rfl (.tmp 12) (.tmp 17) rfl w.heap.size _ k4 C rfl ?_ (some ⟨g2', 0, none⟩) 16 16 w2.heap.size T rfl ?_ ?_ ?_ ?_ ?_
       · exact O2.out
       · exact (sl_row HTL.out (by omega) T2.out).2.2
       · exact HTL.out
       · exact hk31
       · exact HS2.out
       rintro v4 w4 hown hgr
       have HO4 := Lib.hid hown
       have B4 : Hid (Below w.heap.size w w4) := B2.out.grown hgr B2.out.size (c_own_ge O2.out (Nat.le_refl _))
       clear hown hgr)
    | fail)
  go_ret2
  exact ⟨_, rfl, by rw [← HSE.out]; exact HO4.out, B4.out⟩
theorem gcallSeal : ∀ args W, (callFunc 25 args).run Try.prog W = .ok (.enter 25 args) W := fun _ _ => by kernel_rfl
theorem gcallOpen : ∀ args W, (callFunc 40 args).run Try.prog W = .ok (.enter 40 args) W := fun _ _ => by kernel_rfl
theorem heap_thr (w : World) (o1 o2 o3 : Obj) : (((w.alloc o1).alloc o2).alloc o3).heap[w.heap.size]? = some o1 ∧ (((w.alloc o1).alloc o2).alloc o3).heap[w.heap.size + 1]? = some o2 ∧ (((w.alloc o1).alloc o2).alloc o3).heap[w.heap.size + 2]? = some o3 ∧ Below w.heap.size w (((w.alloc o1).alloc o2).alloc o3) := heap3 w o1 o2 o3
set_option maxHeartbeats 2000000 in
theorem gseal_any (p : Nat) (E : List UInt8 → List UInt8) (iv aad x : List UInt8) (A2 A3 A4 : Option Addr) (k2 c2 k3 c3 k4 c4 : Nat) (w : World) (hE : GKey w (.pointer (some ⟨p, 0, none⟩)) E) (h2 : iv.length = k2) (h20 : 0 < k2) (h21 : k2 ≤ 1000) (h3 : aad.length = k3) (h4 : x.length = k4) (h31 : k3 ≤ 1000) (h41 : k4 ≤ 1000)
    (S2 : Sl w A2 c2 iv) (S3 : Sl w A3 c3 aad) (S4 : Sl w A4 c4 x) :
    Calls Try.prog 12 #[.pointer (some ⟨p, 0, none⟩), .slice A2 k2 c2, .slice A3 k3 c3, .slice A4 k4 c4] w fun e w' =>
      ∃ v, e = .returned (.tuple #[v, .int .i64 0]) ∧ w'.ownsRow w.heap.size 5 1 v (k4 + 16) ((sealG E (firstG E iv) aad x).map bv) ∧ Below w.heap.size w w' := by
  have G := heap_thr w (.cells #[.pointer (some ⟨p, 0, none⟩)] 27) (.cells #[.slice A3 k3 c3] 23) (.cells #[.slice A4 k4 c4] 23)
  have BA : Hid (Calls Try.prog 24 #[.pointer (some ⟨p, 0, none⟩), .slice A2 k2 c2, .func (.func 25) #[] #[.pointer (some ⟨w.heap.size, 0, none⟩), .pointer (some ⟨w.heap.size + 2, 0, none⟩), .pointer (some ⟨w.heap.size + 1, 0, none⟩)]] (((w.alloc (.cells #[.pointer (some ⟨p, 0, none⟩)] 27)).alloc (.cells #[.slice A3 k3 c3] 23)).alloc (.cells #[.slice A4 k4 c4] 23)) fun e w' =>
      ∃ v y, e = .returned (.tuple #[v, .int .i64 y]) ∧ Ext (((w.alloc (.cells #[.pointer (some ⟨p, 0, none⟩)] 27)).alloc (.cells #[.slice A3 k3 c3] 23)).alloc (.cells #[.slice A4 k4 c4] 23)) w' ∧ (y = 0 ∧ w'.ownsRow w.heap.size 5 1 v (k4 + 16) ((sealG E (firstG E iv) aad x).map bv))) := by
    generalize ((w.alloc _).alloc _).alloc _ = W0 at G ⊢
    refine gboth_any 25 _ (fun v y w' => y = 0 ∧ w'.ownsRow w.heap.size 5 1 v (k4 + 16) ((sealG E (firstG E iv) aad x).map bv)) _ E A2 k2 c2 iv W0 (hE.ext G.2.2.2) h2 h20 (by omega) (S2.below G.2.2.2) gcallSeal fun W hW => ?_
    have hb := G.2.2.2.step hW
    refine (gseal1_any p E (firstG E iv) w.heap.size (w.heap.size + 2) (w.heap.size + 1) A3 A4 k3 c3 k4 c4 aad x W (firstG_len _ _) (hE.1.ext hb) h3 h4 h31 h41 (S3.below hb) (S4.below hb) (box_extG G.1 hW) (box_extG G.2.2.1 hW) (box_extG G.2.1 hW)).mono ?_
    rintro e w' ⟨v, rfl, hO, hB⟩
    exact ⟨v, 0, rfl, hB, rfl, own_mono hO hb.size⟩
  have GB := Lib.hid G.2.2.2
  clear G hE h2 h3 h4 S2 S3 S4
  generalize sealG E (firstG E iv) aad x = R at BA ⊢
  go_enter Try.func12, Try.ntmps12
  go_wp2_with fail
  refine BA.out.mono ?_
  rintro e w' ⟨v, y, rfl, hE, rfl, hO⟩
  have HO := Lib.hid hO
  have HB : Hid (Below w.heap.size w w') := GB.out.step hE
  clear hO hE
  go_wp2
  go_ret2
  exact ⟨_, rfl, HO.out, HB.out⟩
/-- what opening comes to -/
def OpenG (w : World) (E : List UInt8 → List UInt8) (F aad b : List UInt8) (m : Nat) (v : Value) (x : Int) (w' : World) : Prop :=
  if tagG E F aad (b.take m) = b.drop m then x = 0 ∧ w'.ownsRow w.heap.size 5 1 v m ((gcL E F (b.take m)).map bv) else v = .slice none 0 0 ∧ x = 7
set_option maxHeartbeats 8000000 in
theorem gopen1_any (p : Nat) (E : List UInt8 → List UInt8) (F : List UInt8) (g1 g2 g3 : Nat) (A3 A4 : Option Addr) (k3 c3 k4 c4 m : Nat) (aad x : List UInt8) (w : World) (hF : F.length = 16) (hE : Enc w (.pointer (some ⟨p, 0, none⟩)) E) (h3 : aad.length = k3) (h4 : x.length = k4) (h31 : k3 ≤ 1000) (h41 : k4 ≤ 1000) (hm : k4 = m + 16)
    (S3 : Sl w A3 c3 aad) (S4 : Sl w A4 c4 x) (H1 : w.heap[g1]? = some (.cells #[.pointer (some ⟨p, 0, none⟩)] 27 (0, 0))) (H2 : w.heap[g2]? = some (.cells #[.slice A4 k4 c4] 23 (0, 0))) (H3 : w.heap[g3]? = some (.cells #[.slice A3 k3 c3] 23 (0, 0))) :
    Calls Try.prog 40 #[.agg (F.map bv).toArray, .pointer (some ⟨g2, 0, none⟩), .pointer (some ⟨g1, 0, none⟩), .pointer (some ⟨g3, 0, none⟩)] w fun e w' =>
      ∃ v y, e = .returned (.tuple #[v, .int .i64 y]) ∧ Below w.heap.size w w' ∧ OpenG w E F aad x m v y w' := by
  have HF := Lib.hid hF; have HS3 := Lib.hid S3; have HS4 := Lib.hid S4; have HH1 := Lib.hid H1; have HH2 := Lib.hid H2; have HH3 := Lib.hid H3
  have htl : (x.take m).length = m := by rw [List.length_take, h4]; omega
  have hdl : (x.drop m).length = 16 := by rw [List.length_drop, h4]; omega
  have ST := Lib.hid (sl_take' (q := m) S4)
  have SD := Lib.hid (sl_cut (k := m) S4 (by omega))
  have CR := Lib.hid (fun W (hW : Below w.heap.size w W) hS => gcrypt_any (.pointer (some ⟨p, 0, none⟩)) E F A4 m c4 (x.take m) W hF (hE.ext hW) htl (by omega) hS)
  have TA := Lib.hid (fun W (hW : Below w.heap.size w W) hS3 hS => gtag_any (.pointer (some ⟨p, 0, none⟩)) E F A3 A4 k3 c3 m c4 aad (x.take m) W hF (hE.ext hW) h3 htl (by omega) (by omega) hS3 hS)
  have HTL := Lib.hid (tagG_len E F aad (x.take m) (hE.1 F hF))
  have EQ := Lib.hid (fun A W hS hS' => equal_n A (cutS A4 c4 m) 16 16 16 (c4 - m) (tagG E F aad (x.take m)) (x.drop m) W HTL.out hdl hS hS' (by omega) (by omega))
  have PN := Lib.hid (fun (h : decide (tagG E F aad (x.take m) = x.drop m) = false) (w' : World) => (show OpenG w E F aad x m (.slice none 0 0) 7 w' from by unfold OpenG; rw [if_neg (of_decide_eq_false h)]; exact ⟨rfl, rfl⟩))
  have PY := Lib.hid (fun (h : decide (tagG E F aad (x.take m) = x.drop m) = true) (v : Value) (w' : World) (ho : w'.ownsRow w.heap.size 5 1 v m ((gcL E F (x.take m)).map bv)) => (show OpenG w E F aad x m v 0 w' from by unfold OpenG; rw [if_pos (of_decide_eq_true h)]; exact ⟨rfl, ho⟩))
  generalize OpenG w E F aad x m = PO at PN PY ⊢
  generalize tagG E F aad (x.take m) = T at TA HTL EQ PN PY
  generalize gcL E F (x.take m) = C at CR PY
  generalize x.take m = X1 at ST TA CR
  generalize x.drop m = X2 at SD EQ PN PY
  have sl1 := cut_to uT s8 A4 k4 c4 .i64 (m : Int) (by omega) (by have := S4.1; omega)
  have sl2 := cut_from uT s8 A4 k4 c4 .i64 (m : Int) (by omega) (by omega)
  rw [Int.toNat_natCast] at sl1 sl2
  rw [show k4 - m = 16 by omega] at sl2
  have u1 : (k4 : Int) - 16 = (m : Int) := by omega
  have u2 : IntKind.i64.wrap ((k4 : Int) - 16) = (m : Int) := by rw [IntKind.wrap_i64]; omega
  have u3 : IntKind.i64.wrap (m : Int) = (m : Int) := by rw [IntKind.wrap_i64]; omega
  have hmc : m ≤ c4 := by have := S4.1; omega
  have hmk : m ≤ k4 := by omega
  have h16 : ¬ ((k4 : Int) < 16) := by omega
  have G := Lib.hid (heap_alloc_new' w (.cells (F.map bv).toArray 33))
  have GB : Hid (Below w.heap.size w (w.alloc (.cells (F.map bv).toArray 33))) := (Below.refl _ _).alloc (Nat.le_refl _) _
  clear hF hE h3 h4 S3 S4 H1 H2 H3 htl hdl hm
  go_enter Try.func40, Try.ntmps40
  go_upto_region 1 with (fail)
  generalize w.alloc _ = W0 at G GB ⊢
  have c2 := box_cellG (box_extG HH2.out GB.out)
  go_upto_region 3 with (fail)
  clear c2
  have HX : Hid (Ext W0 W0.drew) := (Below.refl _ _).drew
  refine reg_start (by kernel_rfl) ?_
  try simp only [Act.put, List.setIfInBounds_toArray, List.set_cons_zero, List.set_cons_succ]
  refine reg_load 0 (some 12) (fun W hW => o_load_slice uT (box_cellG (box_extG HH2.out (GB.out.step (HX.out.trans hW))))) rfl rfl rfl rfl (by kernel_rfl) (by kernel_rfl) (by kernel_rfl) (fun _ _ _ h => h) (by rfl) ?_
  simp only [Act.put, List.setIfInBounds_toArray, List.set_cons_zero, List.set_cons_succ]
  refine reg_load 1 (some 13) (fun W hW => o_load_slice uT (box_cellG (box_extG HH2.out (GB.out.step (HX.out.trans hW))))) rfl rfl rfl rfl (by kernel_rfl) (by kernel_rfl) (by kernel_rfl) (fun _ _ _ h => h) (by rfl) ?_
  simp only [Act.put, List.setIfInBounds_toArray, List.set_cons_zero, List.set_cons_succ]
  refine reg_take (v := ?_) 2 (some 14) rfl rfl (by kernel_rfl) (by kernel_rfl) (by kernel_rfl) (fun _ _ _ h => h) (by rfl) (fun W hW => ?_) ?_
  rotate_left
  · (go_simp; try rfl)
  simp only [Act.put, List.setIfInBounds_toArray, List.set_cons_zero, List.set_cons_succ]
  refine reg_take (v := ?_) 3 (some 15) rfl rfl (by kernel_rfl) (by kernel_rfl) (by kernel_rfl) (fun _ _ _ h => h) (by rfl) (fun W hW => ?_) ?_
  rotate_left
  · (go_simp; try rfl)
  simp only [Act.put, List.setIfInBounds_toArray, List.set_cons_zero, List.set_cons_succ]
  refine reg_take (v := ?_) 4 (some 16) rfl rfl (by kernel_rfl) (by kernel_rfl) (by kernel_rfl) (fun _ _ _ h => h) (by rfl) (fun W hW => ?_) ?_
  rotate_left
  · (go_simp; try rfl)
  simp only [Act.put, List.setIfInBounds_toArray, List.set_cons_zero, List.set_cons_succ]
  refine reg_load 5 (some 17) (fun W hW => o_load_slice uT (box_cellG (box_extG HH2.out (GB.out.step (HX.out.trans hW))))) rfl rfl rfl rfl (by kernel_rfl) (by kernel_rfl) (by kernel_rfl) (fun _ _ _ h => h) (by rfl) ?_
  simp only [Act.put, List.setIfInBounds_toArray, List.set_cons_zero, List.set_cons_succ]
  refine reg_load 6 (some 18) (fun W hW => o_load_slice uT (box_cellG (box_extG HH2.out (GB.out.step (HX.out.trans hW))))) rfl rfl rfl rfl (by kernel_rfl) (by kernel_rfl) (by kernel_rfl) (fun _ _ _ h => h) (by rfl) ?_
  simp only [Act.put, List.setIfInBounds_toArray, List.set_cons_zero, List.set_cons_succ]
  refine reg_take (v := ?_) 7 (some 19) rfl rfl (by kernel_rfl) (by kernel_rfl) (by kernel_rfl) (fun _ _ _ h => h) (by rfl) (fun W hW => ?_) ?_
  rotate_left
  · (go_simp; try rfl)
  simp only [Act.put, List.setIfInBounds_toArray, List.set_cons_zero, List.set_cons_succ]
  refine reg_take (v := ?_) 8 (some 20) rfl rfl (by kernel_rfl) (by kernel_rfl) (by kernel_rfl) (fun _ _ _ h => h) (by rfl) (fun W hW => ?_) ?_
  rotate_left
  · (go_simp; try rfl)
  simp only [Act.put, List.setIfInBounds_toArray, List.set_cons_zero, List.set_cons_succ]
  refine reg_take (v := ?_) 9 (some 21) rfl rfl (by kernel_rfl) (by kernel_rfl) (by kernel_rfl) (fun _ _ _ h => h) (by rfl) (fun W hW => ?_) ?_
  rotate_left
  · (go_simp; try rfl)
  simp only [Act.put, List.setIfInBounds_toArray, List.set_cons_zero, List.set_cons_succ]
  refine reg_take (v := ?_) 10 (some 7) rfl rfl (by kernel_rfl) (by kernel_rfl) (by kernel_rfl) (fun _ _ _ h => h) (by rfl) (fun W hW => ?_) ?_
  rotate_left
  · (go_simp; try rfl)
  simp only [Act.put, List.setIfInBounds_toArray, List.set_cons_zero, List.set_cons_succ]
  refine reg_take (v := ?_) 11 (some 8) rfl rfl (by kernel_rfl) (by kernel_rfl) (by kernel_rfl) (fun _ _ _ h => h) (by rfl) (fun W hW => ?_) ?_
  rotate_left
  · (go_simp; try rfl)
  simp only [Act.put, List.setIfInBounds_toArray, List.set_cons_zero, List.set_cons_succ]
  refine reg_done (by kernel_rfl) ?_
  have B1 : Hid (Below w.heap.size w W0.drew) := GB.out.step HX.out
  have F1 : Hid (W0.drew.heap[w.heap.size]? = _) := G.out
  generalize W0.drew = w1 at B1 F1 ⊢
  clear G GB HX
  have c1 := box_cellG (box_extG HH1.out B1.out)
  have c3' := box_cellG (box_extG HH3.out B1.out)
  go_wp2_with (first
    | (refine wpList_ld rfl 33 (.tmp 4) rfl (load_arr arr16B rfl (i16c F HF.out) F1.out) ?_))
  refine (TA.out w1 B1.out (HS3.out.below B1.out) (ST.out.below B1.out)).mono ?_
  rintro e w2 ⟨g2', hg2, rfl, hk2, hb2⟩
  have B2 : Hid (Below w.heap.size w w2) := B1.out.step hb2
  have F2 := Lib.hid ((hb2.block _ (lt_of_heap F1.out)).trans F1.out)
  have T2 := Lib.hid hk2
  clear hg2 hk2 hb2 c1 c3' B1 F1 TA
  go_wp2_with fail
  refine (EQ.out _ w2 (sl_row HTL.out (by omega) T2.out) (SD.out.below B2.out)).mono ?_
  rintro e w3 ⟨rfl, hb⟩
  have B3 : Hid (Below w.heap.size w w3) := B2.out.step hb
  have F3 := Lib.hid ((hb.block _ (lt_of_heap F2.out)).trans F2.out)
  clear hb B2 F2 T2 EQ SD
  generalize hbb : decide (T = X2) = bb at PN PY
  have PN := PN.out; have PY := PY.out
  cases bb with
  | false =>
    have PN' := Lib.hid (PN rfl)
    clear hbb PN PY
    go_wp2_with fail
    go_ret2
    exact ⟨_, _, rfl, B3.out, PN'.out _⟩
  | true =>
    have PY' := Lib.hid (PY rfl)
    clear hbb PN PY
    have c1 := box_cellG (box_extG HH1.out B3.out)
    go_wp2_with (first
      | (refine wpList_ld rfl 33 (.tmp 4) rfl (load_arr arr16B rfl (i16c F HF.out) F3.out) ?_))
    refine (CR.out w3 B3.out (ST.out.below B3.out)).mono ?_
    rintro e w4 ⟨v, rfl, hO, hb⟩
    have B4 : Hid (Below w.heap.size w w4) := B3.out.step hb
    have O4 := Lib.hid (own_mono hO B3.out.size)
    clear hO hb c1
    go_wp2
    go_ret2
    exact ⟨_, _, rfl, B4.out, PY'.out _ _ O4.out⟩
set_option maxHeartbeats 2000000 in
theorem gopen_any (p : Nat) (E : List UInt8 → List UInt8) (iv aad x : List UInt8) (A2 A3 A4 : Option Addr) (k2 c2 k3 c3 k4 c4 m : Nat) (w : World) (hE : GKey w (.pointer (some ⟨p, 0, none⟩)) E) (h2 : iv.length = k2) (h20 : 0 < k2) (h21 : k2 ≤ 1000) (h3 : aad.length = k3) (h4 : x.length = k4) (h31 : k3 ≤ 1000) (h41 : k4 ≤ 1000) (hm : k4 = m + 16)
    (S2 : Sl w A2 c2 iv) (S3 : Sl w A3 c3 aad) (S4 : Sl w A4 c4 x) :
    Calls Try.prog 20 #[.pointer (some ⟨p, 0, none⟩), .slice A2 k2 c2, .slice A3 k3 c3, .slice A4 k4 c4] w fun e w' =>
      ∃ v y, e = .returned (.tuple #[v, .int .i64 y]) ∧ OpenG w E (firstG E iv) aad x m v y w' ∧ Below w.heap.size w w' := by
  have G := heap_thr w (.cells #[.pointer (some ⟨p, 0, none⟩)] 27) (.cells #[.slice A3 k3 c3] 23) (.cells #[.slice A4 k4 c4] 23)
  have BA : Hid (Calls Try.prog 24 #[.pointer (some ⟨p, 0, none⟩), .slice A2 k2 c2, .func (.func 40) #[] #[.pointer (some ⟨w.heap.size + 2, 0, none⟩), .pointer (some ⟨w.heap.size, 0, none⟩), .pointer (some ⟨w.heap.size + 1, 0, none⟩)]] (((w.alloc (.cells #[.pointer (some ⟨p, 0, none⟩)] 27)).alloc (.cells #[.slice A3 k3 c3] 23)).alloc (.cells #[.slice A4 k4 c4] 23)) fun e w' =>
      ∃ v y, e = .returned (.tuple #[v, .int .i64 y]) ∧ Ext (((w.alloc (.cells #[.pointer (some ⟨p, 0, none⟩)] 27)).alloc (.cells #[.slice A3 k3 c3] 23)).alloc (.cells #[.slice A4 k4 c4] 23)) w' ∧ OpenG w E (firstG E iv) aad x m v y w') := by
    generalize ((w.alloc _).alloc _).alloc _ = W0 at G ⊢
    refine gboth_any 40 _ (fun v y w' => OpenG w E (firstG E iv) aad x m v y w') _ E A2 k2 c2 iv W0 (hE.ext G.2.2.2) h2 h20 (by omega) (S2.below G.2.2.2) gcallOpen fun W hW => ?_
    have hb := G.2.2.2.step hW
    refine (gopen1_any p E (firstG E iv) w.heap.size (w.heap.size + 2) (w.heap.size + 1) A3 A4 k3 c3 k4 c4 m aad x W (firstG_len _ _) (hE.1.ext hb) h3 h4 h31 h41 hm (S3.below hb) (S4.below hb) (box_extG G.1 hW) (box_extG G.2.2.1 hW) (box_extG G.2.1 hW)).mono ?_
    rintro e w' ⟨v, y, rfl, hB, hO⟩
    refine ⟨v, y, rfl, hB, ?_⟩
    unfold OpenG at hO ⊢
    split
    · rename_i h; rw [if_pos h] at hO; exact ⟨hO.1, own_mono hO.2 hb.size⟩
    · rename_i h; rw [if_neg h] at hO; exact hO
  have GB := Lib.hid G.2.2.2
  clear G hE h2 h3 h4 S2 S3 S4 hm
  generalize OpenG w E (firstG E iv) aad x m = R at BA ⊢
  go_enter Try.func20, Try.ntmps20
  go_wp2_with fail
  refine BA.out.mono ?_
  rintro e w' ⟨v, y, rfl, hE, hO⟩
  have HO := Lib.hid hO
  have HB : Hid (Below w.heap.size w w') := GB.out.step hE
  clear hO hE
  go_wp2
  go_ret2
  exact ⟨_, _, rfl, HO.out, HB.out⟩
end Go.Proofs.Ytkgbhlppadpdfaa

/- A key, whether it is long, an IV and an aad that come in (layer 10). -/
namespace Go.Proofs.Ytkgbhlppadpdfaa
open Go.RowKit Go.ChangeShapes Go.WideShapes Go.ChangeAt
set_option maxRecDepth 100000
set_option linter.unusedVariables false
set_option linter.unusedSimpArgs false
structure KeyX where
  (k : List UInt8) (lg : Bool) (A2 : Option Addr) (c2 : Nat) (iv : List UInt8) (A3 : Option Addr) (c3 : Nat) (a : List UInt8)
def KeyX.cells (y : KeyX) : List Value := y.k.map bv ++ [.bool y.lg, .slice y.A2 y.iv.length y.c2, .slice y.A3 y.a.length y.c3]
def KeyX.ok (y : KeyX) (w : World) : Prop := y.k.length = 32 ∧ Sl w y.A2 y.c2 y.iv ∧ Sl w y.A3 y.c3 y.a
theorem split35 (L : List Value) (h : L.length = 35) : L = L.take 32 ++ ((L.drop 32).take 1 ++ ((L.drop 33).take 1 ++ (L.drop 34).take 1)) := by
  have h1 := List.take_append_drop 32 L
  have h2 := List.take_append_drop 1 (L.drop 32)
  have h3 := List.take_append_drop 1 (L.drop 33)
  rw [List.drop_drop] at h2 h3
  have h4 : (L.drop 34).take 1 = L.drop 34 := List.take_of_length_le (by simp; omega)
  rw [h4, show L.drop 34 = L.drop (33 + 1) from rfl, h3, show L.drop 33 = L.drop (32 + 1) from rfl, h2, h1]
theorem open_palfreylaw10_Key {H : Type} {enc : TypeId × Value → H} {W : World} {base : Nat} {v : Value} {d : DataW H} {p : List MemPlace}
    (hv : Value.okWide Try.prog W .any base 25 v) (h : DataW.Trod enc Try.prog W 0 (fun _ => true) true 25 v d p) :
    ∃ y : KeyX, v = .agg y.cells.toArray ∧ y.ok W := by
  obtain ⟨cs, rfl, hsz⟩ := okWide_struct Try.underlying25 hv
  obtain ⟨fuel, hf⟩ := h
  obtain ⟨y0, y1, y2, y3, m, _, hl, h0, h1, h2, h3⟩ := Go.Joins.trod_struct4 Try.underlying25 hf
  simp only [Value.cells] at hl h0 h1 h2 h3
  have hc : Try.prog.cellsOf 25 = 35 := by kernel_rfl
  have c0 : Try.prog.cellsOf 22 = 32 := by kernel_rfl
  have c1 : Try.prog.cellsOf 4 = 1 := by kernel_rfl
  have c2 : Try.prog.cellsOf 23 = 1 := by kernel_rfl
  rw [hc] at hl
  rw [c0] at h0
  rw [c1] at h1
  rw [c2] at h2 h3
  obtain ⟨z0, e0, hz0, w0⟩ := cells_ints Try.underlying22 Try.underlying5 (by kernel_rfl) c0 h0
  obtain ⟨b, e1, _⟩ := DataW.trod_bool Try.underlying4 h1
  obtain ⟨k, rfl⟩ := bytes_of w0
  obtain ⟨A2, c2', iv, e2, s2⟩ := open_bytes_cs h2
  obtain ⟨A3, c3, a, e3, s3⟩ := open_bytes_cs h3
  refine ⟨⟨k, b, A2, c2', iv, A3, c3, a⟩, ?_, by simpa using hz0, s2, s3⟩
  congr 1
  apply Array.ext'
  have hs := split35 cs.toList hl
  simp only [List.drop_zero] at e0
  rw [e0, e1, e2, e3] at hs
  rw [hs]
  simp [KeyX.cells, Function.comp_def]
  exact fun _ _ => rfl
end Go.Proofs.Ytkgbhlppadpdfaa

/- Layer 10's laws' own functions: short, bytes, keys, awake. -/
namespace Go.Proofs.Ytkgbhlppadpdfaa
open Go.RowKit
set_option maxRecDepth 100000
set_option linter.unusedVariables false
set_option linter.unusedSimpArgs false
theorem keyX_cells {W : World} {g : Nat} {y : KeyX} {t : TypeId} {fr : Nat × Nat} (h : W.heap[g]? = some (.cells y.cells.toArray t fr)) (hk : y.k.length = 32) :
    W.cell? ⟨g, 32, none⟩ = some (.bool y.lg) ∧ W.cell? ⟨g, 33, none⟩ = some (.slice y.A2 y.iv.length y.c2) ∧ W.cell? ⟨g, 34, none⟩ = some (.slice y.A3 y.a.length y.c3) := by
  refine ⟨?_, ?_, ?_⟩ <;> rw [cell_of_heap h, KeyX.cells, List.getElem?_append_right (by simp [hk]), List.length_map, hk] <;> rfl
theorem keyX_len (y : KeyX) (hk : y.k.length = 32) : y.cells.length = 35 := by simp [KeyX.cells, hk]
theorem iKeyX : (Try.prog.info? 25).map (·.size) = some 35 := by kernel_rfl
theorem ld_keyX {W : World} {g : Nat} {y : KeyX} {t : TypeId} {fr : Nat × Nat} (h : W.heap[g]? = some (.cells y.cells.toArray t fr)) (hk : y.k.length = 32) : (Instr.loadAt 25 (.pointer (some ⟨g, 0, none⟩))).run Try.prog W = .ok (.agg y.cells.toArray) W :=
  run_loadAt_mid W g 0 25 y.cells _ (fun j v hv => by rw [cell_of_heap h, Nat.zero_add]; exact hv) Try.underlying25 rfl (by rw [keyX_len y hk]; exact iKeyX)
/-- which bytes of it are the key -/
def keyBX (k : List UInt8) (b : Bool) : List UInt8 := if b then k else k.take 16
def keyWX (b : Bool) : Nat := if b then 8 else 4
theorem keyBX_len (k : List UInt8) (b : Bool) (hk : k.length = 32) : (keyBX k b).length = 4 * keyWX b := by
  cases b <;> simp [keyBX, keyWX, hk]
theorem keyX_sl {W : World} {g : Nat} {y : KeyX} {t : TypeId} {fr : Nat × Nat} (h : W.heap[g]? = some (.cells y.cells.toArray t fr)) (hk : y.k.length = 32) : Sl W (some ⟨g, 0, none⟩) 32 (keyBX y.k y.lg) := by
  refine ⟨by rw [keyBX_len y.k y.lg hk]; cases y.lg <;> simp [keyWX], by simp [maxLen], .inr ⟨g, 0, rfl, lt_of_heap h, fun j u hu => ?_⟩⟩
  have hj := (List.getElem?_eq_some_iff.1 hu).1
  rw [List.length_map, keyBX_len y.k y.lg hk] at hj
  have hj32 : j < 32 := by cases hlg : y.lg <;> rw [hlg] at hj <;> simp [keyWX] at hj <;> omega
  rw [Nat.zero_add, cell_of_heap h, KeyX.cells, List.getElem?_append_left (by simp [hk]; exact hj32)]
  rw [← hu]
  cases hlg : y.lg
  · rw [hlg] at hj
    simp only [keyBX, Bool.false_eq_true, if_false, List.map_take]
    rw [List.getElem?_take_of_lt (by simpa [keyWX] using hj)]
  · rfl
def shortX (y : KeyX) : Bool := decide (y.iv.length ≤ 100) && decide (y.a.length ≤ 100)
set_option maxHeartbeats 1000000 in
theorem xshort_any (y : KeyX) (w : World) (hk : y.k.length = 32) : Calls Try.prog 10 #[.agg y.cells.toArray] w fun e w' => e = .returned (.bool (shortX y)) ∧ Below w.heap.size w w' := by
  have H := keyX_cells (heap_alloc_new' w (.cells y.cells.toArray 25)) hk
  have HB : Hid (Below w.heap.size w (w.alloc (.cells y.cells.toArray 25))) := (Below.refl _ _).alloc (Nat.le_refl _) _
  unfold shortX
  clear hk
  generalize y.cells.toArray = Z at H HB ⊢
  generalize y.iv.length = n1 at H ⊢
  generalize y.a.length = n2 at H ⊢
  obtain ⟨h0, h1, h2⟩ := H
  rcases Nat.lt_or_ge 100 n1 with q1 | q1
  · have e1 : decide (n1 ≤ 100) = false := by simp; omega
    rw [e1, Bool.false_and]
    have i1 : ¬ ((n1 : Int) ≤ 100) := by omega
    clear e1
    go_enter Try.func10, Try.ntmps10
    go_wp2
    go_ret
    exact ⟨rfl, HB.out⟩
  · have e1 : decide (n1 ≤ 100) = true := by simp; omega
    have i1 : ((n1 : Int) ≤ 100) := by omega
    rw [e1, Bool.true_and]
    clear e1
    rcases Nat.lt_or_ge 100 n2 with q2 | q2
    · have e2 : decide (n2 ≤ 100) = false := by simp; omega
      have i2 : ¬ ((n2 : Int) ≤ 100) := by omega
      rw [e2]
      clear e2
      go_enter Try.func10, Try.ntmps10
      go_wp2
      go_ret
      exact ⟨rfl, HB.out⟩
    · have e2 : decide (n2 ≤ 100) = true := by simp; omega
      have i2 : ((n2 : Int) ≤ 100) := by omega
      rw [e2]
      clear e2
      go_enter Try.func10, Try.ntmps10
      go_wp2
      go_ret
      exact ⟨rfl, HB.out⟩
theorem arr32X : Try.prog.underlying 22 = some (.array 32 5) := Try.underlying22
set_option maxHeartbeats 1000000 in
theorem xbytes_any (y : KeyX) (w : World) (hk : y.k.length = 32) :
    Calls Try.prog 18 #[.agg y.cells.toArray] w fun e w' => e = .returned (.slice (some ⟨w.heap.size, 0, none⟩) (4 * keyWX y.lg) 32) ∧ Sl w' (some ⟨w.heap.size, 0, none⟩) 32 (keyBX y.k y.lg) ∧ Below w.heap.size w w' := by
  have HA := heap_alloc_new' w (.cells y.cells.toArray 25)
  have HS := Lib.hid (keyX_sl HA hk)
  have hc := (keyX_cells HA hk).1
  have HB : Hid (Below w.heap.size w (w.alloc (.cells y.cells.toArray 25))) := (Below.refl _ _).alloc (Nat.le_refl _) _
  have sl := arr_to arr32X s8 ⟨w.heap.size, 0, none⟩ .i64 16 (by omega) (by omega)
  rw [show (16 : Int).toNat = 16 from rfl] at sl
  have sl2 := arr_all arr32X s8 ⟨w.heap.size, 0, none⟩
  clear HA hk
  generalize y.cells.toArray = Z at HS hc HB ⊢
  generalize keyBX y.k y.lg = KB at HS ⊢
  cases hlg : y.lg
  · rw [hlg] at hc
    go_enter Try.func18, Try.ntmps18
    go_wp2
    go_ret
    exact ⟨rfl, HS.out, HB.out⟩
  · rw [hlg] at hc
    go_enter Try.func18, Try.ntmps18
    go_wp2
    go_ret
    exact ⟨rfl, HS.out, HB.out⟩
set_option maxHeartbeats 1000000 in
theorem xkeys_any (y : KeyX) (w : World) (hk : y.k.length = 32) :
    Calls Try.prog 11 #[.agg y.cells.toArray] w fun e w' => ∃ g E, e = .returned (.tuple #[.pointer (some ⟨g, 0, none⟩), .bool true]) ∧ E = encL (expandL (keyBX y.k y.lg)) (keyWX y.lg + 6) ∧ GKey w' (.pointer (some ⟨g, 0, none⟩)) E ∧ Below w.heap.size w w' := by
  have HBY := Lib.hid (fun W => xbytes_any y W hk)
  have HLD := Lib.hid (ld_keyX (heap_alloc_new' w (.cells y.cells.toArray 25)) hk)
  have HKL := Lib.hid (keyBX_len y.k y.lg hk)
  have HW : Hid (keyWX y.lg = 4 ∨ keyWX y.lg = 8) := by show _ ∨ _; cases y.lg <;> simp [keyWX]
  have GB : Hid (Below w.heap.size w (w.alloc (.cells y.cells.toArray 25))) := (Below.refl _ _).alloc (Nat.le_refl _) _
  generalize y.cells.toArray = Z at HBY HLD GB ⊢
  generalize keyBX y.k y.lg = KB at HBY HKL ⊢
  generalize keyWX y.lg = nk at HBY HKL HW ⊢
  clear hk
  go_enter Try.func11, Try.ntmps11
  go_upto_region 1 with (fail)
  generalize w.alloc _ = W0 at HLD GB ⊢
  go_wp2_with (first
    | (refine wpList_ld rfl 25 (.tmp 1) rfl HLD.out ?_)
    | fail)
  refine (HBY.out W0).mono ?_
  rintro e w1 ⟨rfl, hS1, hb1⟩
  have S1 := Lib.hid hS1; have B1 := Lib.hid (GB.out.step hb1)
  clear hS1 hb1
  go_wp2_with fail
  refine (expand_any (some ⟨W0.heap.size, 0, none⟩) (4 * nk) 32 nk KB w1 HKL.out rfl HW.out S1.out).mono ?_
  rintro e w2 ⟨g, rfl, hg, hK, hb2⟩
  have K2 := Lib.hid (KeyAt.gkey hK (by omega) (by rcases HW.out with h | h <;> omega)); have B2 := Lib.hid (B1.out.step hb2)
  clear hK hb2 hg
  go_wp2
  go_ret2
  exact ⟨g, _, rfl, rfl, K2.out, B2.out⟩
def z16 : List UInt8 := List.replicate 16 0
def z12 : List UInt8 := List.replicate 12 0
def exF : List UInt8 := [0, 0, 0, 0, 0, 0, 0, 0, 0, 0, 0, 0, 0, 0, 0, 1]
theorem ex_gcm : (encL (expandL z16) 10 exF).take 4 = [88, 226, 252, 206] := by decide +kernel
theorem hash_zero (h : List UInt8) (hh : h.length = 16) : gsumL h (whG [] ++ whG [] ++ lenL 0 0) = zerB := by
  have e : whG [] ++ whG [] ++ lenL 0 0 = zerB := by decide
  rw [e]
  have : gsumL h zerB = gmulL (mixF zerB fun k => byteF zerB (16 * 0 + k)) h := rfl
  rw [this, show (mixF zerB fun k => byteF zerB (16 * 0 + k)) = zerB from by decide, gmul_comm _ _ rfl hh, gmul_zero]
theorem seal_empty : (sealG (encL (expandL z16) 10) (firstG (encL (expandL z16) 10) z12) [] []).take 4 = [88, 226, 252, 206] := by
  have hf : firstG (encL (expandL z16) 10) z12 = exF := rfl
  rw [hf]
  have hs : sealG (encL (expandL z16) 10) exF [] [] = tagG (encL (expandL z16) 10) exF [] [] := rfl
  rw [hs, tagG]
  have hw : (expandL z16).length = 60 := expandL_len _ (by decide)
  have hlen : ∀ x, x.length = 16 → (encL (expandL z16) 10 x).length = 16 := fun x hx => by rw [encL, encT, outL_len, addW_len _ _ _ (shiftW_len _ _) (by omega)]
  have h0 : gsumL (encL (expandL z16) 10 zerB) (whG [] ++ whG [] ++ lenL ((([] : List UInt8).length : Nat) : Int) ((([] : List UInt8).length : Nat) : Int)) = zerB := hash_zero _ (hlen _ rfl)
  rw [h0]
  have hx : xorL zerB (encL (expandL z16) 10 exF) = encL (expandL z16) 10 exF := xorL_zeros _ (hlen _ rfl)
  rw [hx]
  exact ex_gcm
end Go.Proofs.Ytkgbhlppadpdfaa

/- Layer 10's laws' own awake; what was sealed is opened. -/
namespace Go.Proofs.Ytkgbhlppadpdfaa
open Go.RowKit
set_option maxRecDepth 100000
set_option linter.unusedVariables false
set_option linter.unusedSimpArgs false
theorem slX_none (W : World) : Sl W none 0 [] := ⟨by simp, by simp [maxLen], .inl rfl⟩
theorem getD_take4 (X : List UInt8) (h : X.take 4 = [88, 226, 252, 206]) : X.getD 0 0 = 88 ∧ X.getD 1 0 = 226 ∧ X.getD 2 0 = 252 ∧ X.getD 3 0 = 206 := by
  have e : ∀ i, i < 4 → X.getD i 0 = ([88, 226, 252, 206] : List UInt8).getD i 0 := fun i hi => by
    rw [← h, List.getD_eq_getElem?_getD, List.getD_eq_getElem?_getD, List.getElem?_take_of_lt hi]
  exact ⟨e 0 (by decide), e 1 (by decide), e 2 (by decide), e 3 (by decide)⟩
set_option maxHeartbeats 4000000 in
theorem awake10_any (w : World) : Calls Try.prog 14 #[] w fun e w' => e = .returned (.bool true) ∧ Below w.heap.size w w' := by
  have hmk1 : ∀ W, (Instr.makeSlice 23 (.int .i64 16) (.int .i64 16)).run Try.prog W = .ok (.slice (some ⟨W.heap.size, 0, none⟩) 16 16) (W.alloc (.cells (z16.map bv).toArray 5)) := fun W => by
    rw [z16, List.map_replicate]; exact make_run (P := Try.prog) uT made8 rfl .i64 .i64 16 (by omega) (by omega) W
  have hmk2 : ∀ W, (Instr.makeSlice 23 (.int .i64 12) (.int .i64 12)).run Try.prog W = .ok (.slice (some ⟨W.heap.size, 0, none⟩) 12 12) (W.alloc (.cells (z12.map bv).toArray 5)) := fun W => by
    rw [z12, List.map_replicate]; exact make_run (P := Try.prog) uT made8 rfl .i64 .i64 12 (by omega) (by omega) W
  have L1 : Hid (z16.length = 16) := List.length_replicate
  have L2 : Hid (z12.length = 12) := List.length_replicate
  have EX := Lib.hid (fun A W S => expand_any A 16 16 4 z16 W L1.out rfl (.inl rfl) S)
  have SE := Lib.hid (fun g A2 W hE S2 => gseal_any g (encL (expandL z16) 10) z12 [] [] A2 none none 12 12 0 0 0 0 W hE L2.out (by omega) (by omega) rfl rfl (by omega) (by omega) S2 (slX_none W) (slX_none W))
  obtain ⟨x0, x1, x2, x3⟩ := getD_take4 _ seal_empty
  have HX0 := Lib.hid x0; have HX1 := Lib.hid x1; have HX2 := Lib.hid x2; have HX3 := Lib.hid x3
  clear x0 x1 x2 x3
  generalize sealG (encL (expandL z16) 10) (firstG (encL (expandL z16) 10) z12) [] [] = X at SE HX0 HX1 HX2 HX3
  generalize expandL z16 = ws at EX SE
  generalize z16 = Z1 at hmk1 L1 EX
  generalize z12 = Z2 at hmk2 L2 SE
  go_enter Try.func14, Try.ntmps14
  go_wp2_with fail
  have N1 := Lib.hid (heap_alloc_new' w (.cells (Z1.map bv).toArray 5))
  have B0 : Hid (Below w.heap.size w (w.alloc (.cells (Z1.map bv).toArray 5))) := (Below.refl _ _).alloc (Nat.le_refl _) _
  generalize w.alloc _ = W0 at N1 B0 ⊢
  refine (EX.out _ W0 (sl_row L1.out (by omega) N1.out)).mono ?_
  rintro e w1 ⟨g, rfl, _, hK, hb⟩
  have K1 := Lib.hid (KeyAt.gkey hK (by omega) (by omega))
  have B1 : Hid (Below w.heap.size w w1) := B0.out.step hb
  clear hK hb N1 EX B0
  go_wp2_with fail
  have N2 := Lib.hid (heap_alloc_new' w1 (.cells (Z2.map bv).toArray 5))
  have E2 : Hid (Ext w1 (w1.alloc (.cells (Z2.map bv).toArray 5))) := (Below.refl _ _).alloc (Nat.le_refl _) _
  generalize w1.alloc _ = W2 at N2 E2 ⊢
  refine (SE.out g _ W2 (K1.out.ext E2.out) (sl_row L2.out (by omega) N2.out)).mono ?_
  rintro e w3 ⟨v, rfl, hO, hb⟩
  have B3 : Hid (Below w.heap.size w w3) := (B1.out.step E2.out).step hb
  obtain ⟨g5, cap, cur, rfl, _, _, hS5, _⟩ := o_open hO (by omega)
  have hl5 : X.length = 16 := by have := hO.1; simpa using this
  have c0 := o_sl_cell hS5 (k := 0) (by omega)
  have c1 := o_sl_cell hS5 (k := 1) (by omega)
  have c2 := o_sl_cell hS5 (k := 2) (by omega)
  have c3 := o_sl_cell hS5 (k := 3) (by omega)
  rw [HX0.out] at c0
  rw [HX1.out] at c1
  rw [HX2.out] at c2
  rw [HX3.out] at c3
  clear hO hS5 hb SE B1 K1 N2 E2 hl5 hmk1 hmk2
  have t0 : ((88 : UInt8).toNat : Int) = 88 := rfl
  have t1 : ((226 : UInt8).toNat : Int) = 226 := rfl
  have t2 : ((252 : UInt8).toNat : Int) = 252 := rfl
  have t3 : ((206 : UInt8).toNat : Int) = 206 := rfl
  rw [t0] at c0
  rw [t1] at c1
  rw [t2] at c2
  rw [t3] at c3
  go_wp2
  go_ret
  exact ⟨rfl, B3.out⟩
/-- what was sealed is opened to what it was -/
theorem openG_seal {w w' : World} {E : List UInt8 → List UInt8} {F aad b : List UInt8} {m : Nat} {v : Value} {y : Int} (hm : b.length = m) (h : OpenG w E F aad (sealG E F aad b) m v y w') :
    y = 0 ∧ w'.ownsRow w.heap.size 5 1 v m (b.map bv) := by
  have hl : (gcL E F b).length = m := by rw [gcL_len]; exact hm
  have e1 : (sealG E F aad b).take m = gcL E F b := by rw [sealG, List.take_left' hl]
  have e2 : (sealG E F aad b).drop m = tagG E F aad (gcL E F b) := by rw [sealG, List.drop_left' hl]
  unfold OpenG at h
  rw [e1, e2, if_pos rfl] at h
  have hb : gcL E F (gcL E F b) = b := ctrL_back _ _ _
  rw [hb] at h
  exact h
end Go.Proofs.Ytkgbhlppadpdfaa

/- The hash of GCM: two rows of bytes that differ in one byte have different sums, if the key is not nought. -/
namespace Go.Proofs.Ytkgbhlppadpdfaa
open Go.RowKit
set_option maxRecDepth 100000
set_option linter.unusedVariables false
theorem mixF_get (y : List UInt8) (f : Nat → UInt8) (k : Nat) (hk : k < 16) : (mixF y f).getD k 0 = y.getD k 0 ^^^ f k := by
  simp [mixF, List.getD, hk]
theorem xor_right_inj8 (a b x : UInt8) (h : a ^^^ x = b ^^^ x) : a = b := by
  have := congrArg (· ^^^ x) h
  simpa [UInt8.xor_assoc] using this
theorem xor_left_inj8 (a b x : UInt8) (h : x ^^^ a = x ^^^ b) : a = b := by
  rw [UInt8.xor_comm x a, UInt8.xor_comm x b] at h
  exact xor_right_inj8 a b x h
theorem mixF_inj (y y' : List UInt8) (f f' : Nat → UInt8) (hy : y.length = 16) (hy' : y'.length = 16) (hf : ∀ k, k < 16 → f k = f' k) (h : mixF y f = mixF y' f') : y = y' := by
  apply List.ext_getElem
  · rw [hy, hy']
  · intro i h1 h2
    have hi : i < 16 := by omega
    have := congrArg (fun l => l.getD i 0) h
    simp only [mixF_get _ _ _ hi, hf i hi] at this
    have := xor_right_inj8 _ _ _ this
    simpa [List.getD, h1, h2] using this
theorem mixF_differ (y : List UInt8) (f f' : Nat → UInt8) (k : Nat) (hk : k < 16) (hf : f k ≠ f' k) : mixF y f ≠ mixF y f' := by
  intro h
  have := congrArg (fun l => l.getD k 0) h
  simp only [mixF_get _ _ _ hk] at this
  exact hf (xor_left_inj8 _ _ _ this)
theorem gsF_congr (h y : List UInt8) (f f' : Nat → UInt8) : ∀ N, (∀ k, k < 16 * N → f k = f' k) → gsF h y f N = gsF h y f' N
  | 0, _ => rfl
  | N + 1, hf => by
    rw [gsF, gsF, gsF_congr h y f f' N fun k hk => hf k (by omega)]
    congr 1
    unfold mixF
    refine List.map_congr_left fun k hk => ?_
    show _ ^^^ f (16 * N + k) = _ ^^^ f' (16 * N + k)
    rw [hf (16 * N + k) (by have := List.mem_range.1 hk; omega)]
theorem gsF_ne (h y : List UInt8) (f f' : Nat → UInt8) (p : Nat) (hh : h.length = 16) (hy : y.length = 16) (h0 : h ≠ zerB) (hf : ∀ k, k ≠ p → f k = f' k) (hp : f p ≠ f' p) : ∀ N, p < 16 * N → gsF h y f N ≠ gsF h y f' N
  | 0, hN => by omega
  | N + 1, hN => by
    intro e
    rw [gsF, gsF] at e
    have e2 := gmul_inj _ _ h (mixF_len _ _) (mixF_len _ _) hh h0 e
    by_cases hlt : p < 16 * N
    · refine gsF_ne h y f f' p hh hy h0 hf hp N hlt (mixF_inj _ _ _ _ (gsF_len _ _ _ _ hy) (gsF_len _ _ _ _ hy) (fun k hk => hf _ (by omega)) e2)
    · rw [gsF_congr h y f f' N fun k hk => hf k (by omega)] at e2
      refine mixF_differ _ _ _ (p - 16 * N) (by omega) ?_ e2
      show f (16 * N + (p - 16 * N)) ≠ f' (16 * N + (p - 16 * N))
      rw [show 16 * N + (p - 16 * N) = p by omega]
      exact hp
/-- one byte turned turns the sum -/
theorem gsum_set_ne (h M : List UInt8) (p : Nat) (d : UInt8) (hh : h.length = 16) (h0 : h ≠ zerB) (hp : p < M.length) (hd : d ≠ 0) : gsumL h (M.set p (M.getD p 0 ^^^ d)) ≠ gsumL h M := by
  unfold gsumL
  rw [List.length_set]
  refine gsF_ne h zerB _ _ p hh rfl h0 (fun k hk => ?_) ?_ _ (by omega)
  · unfold byteF
    rw [List.getD_eq_getElem?_getD, List.getElem?_set_ne (Ne.symm hk), ← List.getD_eq_getElem?_getD]
  · unfold byteF
    intro e
    rw [List.getD_eq_getElem?_getD, List.getElem?_set_self hp] at e
    simp only [Option.getD_some] at e
    have : M.getD p 0 ^^^ d = M.getD p 0 ^^^ 0 := by rw [e, UInt8.xor_zero]
    exact hd (xor_left_inj8 _ _ _ this)
end Go.Proofs.Ytkgbhlppadpdfaa

/- gcm: with one byte turned of the text or the aad it is not opened. -/
namespace Go.Proofs.Ytkgbhlppadpdfaa
open Go.RowKit
set_option maxRecDepth 100000
set_option linter.unusedVariables false
theorem xorL_right_inj (a b c : List UInt8) (ha : a.length = 16) (hb : b.length = 16) (hc : c.length = 16) (h : xorL a c = xorL b c) : a = b := by
  apply List.ext_getElem
  · rw [ha, hb]
  · intro i h1 h2
    have hi : i < c.length := by omega
    have := congrArg (fun l => l.getD i 0) h
    simp only [xorL, List.getD_eq_getElem?_getD, List.getElem?_zipWith, List.getElem?_eq_getElem h1, List.getElem?_eq_getElem h2, List.getElem?_eq_getElem hi, Option.getD_some] at this
    exact xor_right_inj8 _ _ _ this
theorem whG_set (b : List UInt8) (i : Nat) (x : UInt8) (h : i < b.length) : whG (b.set i x) = (whG b).set i x := by
  rw [whG, whG, List.length_set, List.set_append_left _ _ h]
theorem getD_app_left (a b : List UInt8) (i : Nat) (h : i < a.length) : (a ++ b).getD i 0 = a.getD i 0 := by
  rw [List.getD_eq_getElem?_getD, List.getElem?_append_left h, List.getD_eq_getElem?_getD]
theorem getD_app_right (a b : List UInt8) (i : Nat) : (a ++ b).getD (a.length + i) 0 = b.getD i 0 := by
  rw [List.getD_eq_getElem?_getD, List.getElem?_append_right (by omega), Nat.add_sub_cancel_left, List.getD_eq_getElem?_getD]
theorem whG_lt (b : List UInt8) (i : Nat) (h : i < b.length) : i < (whG b).length ∧ (whG b).getD i 0 = b.getD i 0 := by
  refine ⟨by rw [whG, List.length_append]; omega, by rw [whG, getD_app_left _ _ _ h]⟩
theorem tagG_ne (E : List UInt8 → List UInt8) (F M M' : List UInt8) (hEF : (E F).length = 16) (h : xorL (gsumL (E zerB) M') (E F) = xorL (gsumL (E zerB) M) (E F)) : gsumL (E zerB) M' = gsumL (E zerB) M :=
  xorL_right_inj _ _ _ (gsumL_len _ _) (gsumL_len _ _) hEF h
theorem tagG_aad_ne (E : List UInt8 → List UInt8) (F aad x : List UInt8) (i : Nat) (d : UInt8) (hEF : (E F).length = 16) (hEZ : (E zerB).length = 16) (h0 : E zerB ≠ zerB) (hi : i < aad.length) (hd : d ≠ 0) :
    tagG E F (aad.set i (aad.getD i 0 ^^^ d)) x ≠ tagG E F aad x := by
  intro h
  rw [tagG, tagG, List.length_set, whG_set _ _ _ hi] at h
  have e := tagG_ne E F _ _ hEF h
  obtain ⟨l1, g1⟩ := whG_lt aad i hi
  have hM : (whG aad).set i (aad.getD i 0 ^^^ d) ++ whG x ++ lenL (aad.length : Int) (x.length : Int) = (whG aad ++ whG x ++ lenL (aad.length : Int) (x.length : Int)).set i ((whG aad ++ whG x ++ lenL (aad.length : Int) (x.length : Int)).getD i 0 ^^^ d) := by
    rw [List.append_assoc, List.append_assoc, List.set_append_left _ _ l1, getD_app_left _ _ _ l1, g1]
  rw [hM] at e
  exact gsum_set_ne (E zerB) _ i d hEZ h0 (by rw [List.length_append, List.length_append]; omega) hd e
theorem tagG_text_ne (E : List UInt8 → List UInt8) (F aad x : List UInt8) (i : Nat) (d : UInt8) (hEF : (E F).length = 16) (hEZ : (E zerB).length = 16) (h0 : E zerB ≠ zerB) (hi : i < x.length) (hd : d ≠ 0) :
    tagG E F aad (x.set i (x.getD i 0 ^^^ d)) ≠ tagG E F aad x := by
  intro h
  rw [tagG, tagG, List.length_set, whG_set _ _ _ hi] at h
  have e := tagG_ne E F _ _ hEF h
  obtain ⟨l1, g1⟩ := whG_lt x i hi
  have hM : whG aad ++ (whG x).set i (x.getD i 0 ^^^ d) ++ lenL (aad.length : Int) (x.length : Int) = (whG aad ++ whG x ++ lenL (aad.length : Int) (x.length : Int)).set ((whG aad).length + i) ((whG aad ++ whG x ++ lenL (aad.length : Int) (x.length : Int)).getD ((whG aad).length + i) 0 ^^^ d) := by
    rw [List.append_assoc, List.append_assoc, getD_app_right, List.set_append_right _ _ (by omega), Nat.add_sub_cancel_left, List.set_append_left _ _ l1, getD_app_left _ _ _ l1, g1]
  rw [hM] at e
  exact gsum_set_ne (E zerB) _ _ d hEZ h0 (by rw [List.length_append, List.length_append]; omega) hd e
/-- with one byte of the text turned it is not opened -/
theorem openG_text {w w' : World} {E : List UInt8 → List UInt8} {F aad b : List UInt8} {m i : Nat} {d : UInt8} {v : Value} {y : Int} (hEF : (E F).length = 16) (hEZ : (E zerB).length = 16) (h0 : E zerB ≠ zerB) (hm : b.length = m) (hi : i < m) (hd : d ≠ 0)
    (h : OpenG w E F aad ((sealG E F aad b).set i ((sealG E F aad b).getD i 0 ^^^ d)) m v y w') : v = .slice none 0 0 ∧ y = 7 := by
  have hl : (gcL E F b).length = m := by rw [gcL_len]; exact hm
  have e0 : (sealG E F aad b).set i ((sealG E F aad b).getD i 0 ^^^ d) = (gcL E F b).set i ((gcL E F b).getD i 0 ^^^ d) ++ tagG E F aad (gcL E F b) := by
    rw [sealG, getD_app_left _ _ _ (by omega), List.set_append_left _ _ (by omega)]
  have hl' : ((gcL E F b).set i ((gcL E F b).getD i 0 ^^^ d)).length = m := by rw [List.length_set]; exact hl
  rw [e0] at h
  unfold OpenG at h
  rw [List.take_left' hl', List.drop_left' hl', if_neg (tagG_text_ne E F aad _ i d hEF hEZ h0 (by omega) hd)] at h
  exact h
/-- with one byte of the aad turned it is not opened -/
theorem openG_aad {w w' : World} {E : List UInt8 → List UInt8} {F aad b : List UInt8} {m i : Nat} {d : UInt8} {v : Value} {y : Int} (hEF : (E F).length = 16) (hEZ : (E zerB).length = 16) (h0 : E zerB ≠ zerB) (hm : b.length = m) (hi : i < aad.length) (hd : d ≠ 0)
    (h : OpenG w E F (aad.set i (aad.getD i 0 ^^^ d)) (sealG E F aad b) m v y w') : v = .slice none 0 0 ∧ y = 7 := by
  have hl : (gcL E F b).length = m := by rw [gcL_len]; exact hm
  unfold OpenG at h
  rw [sealG, List.take_left' hl, List.drop_left' hl, if_neg (tagG_aad_ne E F aad _ i d hEF hEZ h0 hi hd)] at h
  exact h
end Go.Proofs.Ytkgbhlppadpdfaa

/- A key, a text, which bit is turned, and of what, that come in (law GcmOneBit). -/
namespace Go.Proofs.Ytkgbhlppadpdfaa
open Go.RowKit Go.ChangeShapes Go.WideShapes Go.ChangeAt
set_option maxRecDepth 100000
set_option linter.unusedVariables false
set_option linter.unusedSimpArgs false
structure BitY where
  (z : KeyX) (A : Option Addr) (c : Nat) (b : List UInt8) (at_ : Nat) (ad : Bool)
def BitY.cells (y : BitY) : List Value := y.z.cells ++ [.slice y.A y.b.length y.c, .int .u16 (y.at_ : Int), .bool y.ad]
def BitY.ok (y : BitY) (w : World) : Prop := y.z.ok w ∧ y.at_ < 65536 ∧ Sl w y.A y.c y.b
theorem x_of_cells {H : Type} {enc : TypeId × Value → H} {W : World} {cs : List Value} {fuel : Nat} {x : DataW H × List MemPlace}
    (hf : DataW.trod enc Try.prog W 0 (fun _ => true) true fuel 25 cs = some x) : ∃ y : KeyX, cs = y.cells ∧ y.ok W := by
  obtain ⟨y0, y1, y2, y3, m, _, hl, h0, h1, h2, h3⟩ := Go.Joins.trod_struct4 Try.underlying25 hf
  have hc : Try.prog.cellsOf 25 = 35 := by kernel_rfl
  have c0 : Try.prog.cellsOf 22 = 32 := by kernel_rfl
  have c1 : Try.prog.cellsOf 4 = 1 := by kernel_rfl
  have c2 : Try.prog.cellsOf 23 = 1 := by kernel_rfl
  rw [hc] at hl
  rw [c0] at h0
  rw [c1] at h1
  rw [c2] at h2 h3
  obtain ⟨z0, e0, hz0, w0⟩ := cells_ints Try.underlying22 Try.underlying5 (by kernel_rfl) c0 h0
  obtain ⟨b, e1, _⟩ := DataW.trod_bool Try.underlying4 h1
  obtain ⟨k, rfl⟩ := bytes_of w0
  obtain ⟨A2, c2', iv, e2, s2⟩ := open_bytes_cs h2
  obtain ⟨A3, c3, a, e3, s3⟩ := open_bytes_cs h3
  refine ⟨⟨k, b, A2, c2', iv, A3, c3, a⟩, ?_, by simpa using hz0, s2, s3⟩
  have hs := split35 cs hl
  simp only [List.drop_zero] at e0
  rw [e0, e1, e2, e3] at hs
  rw [hs]
  simp [KeyX.cells, Function.comp_def]
  exact fun _ _ => rfl
theorem split38 (L : List Value) (h : L.length = 38) : L = L.take 35 ++ ((L.drop 35).take 1 ++ ((L.drop 36).take 1 ++ (L.drop 37).take 1)) := by
  have h1 := List.take_append_drop 35 L
  have h2 := List.take_append_drop 1 (L.drop 35)
  have h3 := List.take_append_drop 1 (L.drop 36)
  rw [List.drop_drop] at h2 h3
  have h4 : (L.drop 37).take 1 = L.drop 37 := List.take_of_length_le (by simp; omega)
  rw [h4, show L.drop 37 = L.drop (36 + 1) from rfl, h3, show L.drop 36 = L.drop (35 + 1) from rfl, h2, h1]
theorem open_palfreylaw10_OneBit {H : Type} {enc : TypeId × Value → H} {W : World} {base : Nat} {v : Value} {d : DataW H} {p : List MemPlace}
    (hv : Value.okWide Try.prog W .any base 48 v) (h : DataW.Trod enc Try.prog W 0 (fun _ => true) true 48 v d p) :
    ∃ y : BitY, v = .agg y.cells.toArray ∧ y.ok W := by
  obtain ⟨cs, rfl, hsz⟩ := okWide_struct Try.underlying48 hv
  obtain ⟨fuel, hf⟩ := h
  obtain ⟨y0, y1, y2, y3, m, _, hl, h0, h1, h2, h3⟩ := Go.Joins.trod_struct4 Try.underlying48 hf
  simp only [Value.cells] at hl h0 h1 h2 h3
  have hc : Try.prog.cellsOf 48 = 38 := by kernel_rfl
  have c0 : Try.prog.cellsOf 25 = 35 := by kernel_rfl
  have c1 : Try.prog.cellsOf 23 = 1 := by kernel_rfl
  have c2 : Try.prog.cellsOf 46 = 1 := by kernel_rfl
  have c3 : Try.prog.cellsOf 4 = 1 := by kernel_rfl
  rw [hc] at hl
  rw [c0] at h0
  rw [c1] at h1
  rw [c2] at h2
  rw [c3] at h3
  obtain ⟨z, e0, hz⟩ := x_of_cells h0
  obtain ⟨A, cap, b, e1, hs⟩ := open_bytes_cs h1
  obtain ⟨a2, e2, _, w2⟩ := DataW.trod_int Try.underlying46 h2
  obtain ⟨ad, e3, _⟩ := DataW.trod_bool Try.underlying4 h3
  obtain ⟨at_, rfl, hat⟩ := u16_of w2
  refine ⟨⟨z, A, cap, b, at_, ad⟩, ?_, hz, hat, hs⟩
  congr 1
  apply Array.ext'
  have hs := split38 cs.toList hl
  simp only [List.drop_zero] at e0
  rw [e0, e1, e2, e3] at hs
  rw [hs]
  simp [BitY.cells]
end Go.Proofs.Ytkgbhlppadpdfaa

/- Laws of layer 10: with one bit of the tag turned what is sealed is not opened. -/
namespace Go.Proofs.Ytkgbhlppadpdfaa
open Go.RowKit
set_option maxRecDepth 100000
set_option linter.unusedVariables false
set_option linter.unusedSimpArgs false
theorem xorX_self_ne (x d : UInt8) (h : x = x ^^^ d) : d = 0 := by
  have := congrArg (x ^^^ ·) h
  simp only [UInt8.xor_self] at this
  rw [← UInt8.xor_assoc, UInt8.xor_self, UInt8.zero_xor] at this
  exact this.symm
theorem openG_turned {w w' : World} {E : List UInt8 → List UInt8} {F aad b : List UInt8} {m q : Nat} {d : UInt8} {v : Value} {y : Int} (hE : (E F).length = 16) (hm : b.length = m) (hq : q < 16) (hd : d ≠ 0)
    (h : OpenG w E F aad ((sealG E F aad b).set (m + q) ((sealG E F aad b).getD (m + q) 0 ^^^ d)) m v y w') : v = .slice none 0 0 ∧ y = 7 := by
  have hl : (gcL E F b).length = m := by rw [gcL_len]; exact hm
  have hT := tagG_len E F aad (gcL E F b) hE
  have e0 : (sealG E F aad b).set (m + q) ((sealG E F aad b).getD (m + q) 0 ^^^ d) = gcL E F b ++ (tagG E F aad (gcL E F b)).set q ((tagG E F aad (gcL E F b)).getD q 0 ^^^ d) := by
    rw [sealG, List.set_append_right _ _ (by omega), hl, Nat.add_sub_cancel_left]
    congr 3
    rw [List.getD_eq_getElem?_getD, List.getElem?_append_right (by omega), hl, Nat.add_sub_cancel_left, List.getD_eq_getElem?_getD]
  rw [e0] at h
  unfold OpenG at h
  rw [List.take_left' hl, List.drop_left' hl] at h
  rw [if_neg] at h
  · exact h
  · intro e
    generalize tagG E F aad (gcL E F b) = T at e hT
    have := congrArg (fun l => l.getD q 0) e
    simp only [List.getD_eq_getElem?_getD] at this
    rw [List.getElem?_set_self (by omega)] at this
    exact hd (xorX_self_ne _ _ this)
theorem bitX_byte8 : ∀ k, k < 8 → IntKind.u8.wrap (2 ^ k) = ((UInt8.ofNat (2 ^ k)).toNat : Int) ∧ UInt8.ofNat (2 ^ k) ≠ 0 := by decide
set_option maxHeartbeats 4000000 in
theorem gcmTurned_walk (w : World) (y : KeyX) (l : y.ok w) (A : Option Addr) (c : Nat) (b : List UInt8) (h : Sl w A c b) (bit : UInt8) :
    Calls Try.prog 6 #[.agg y.cells.toArray, .slice A b.length c, .int .u8 (bit.toNat : Int)] w fun e w' => e = .returned (.bool true) ∧ Below w.heap.size w w' := by
  obtain ⟨lk, l2, l3⟩ := l
  have q1 : b.length ≤ 9223372036854775807 := by have := h.1; have := h.2.1; simp [maxLen] at this; omega
  have q2 : y.iv.length ≤ 9223372036854775807 := by have := l2.1; have := l2.2.1; simp [maxLen] at this; omega
  have H := Lib.hid h; have HY2 := Lib.hid l2; have HY3 := Lib.hid l3
  obtain ⟨m, hm⟩ : ∃ m, b.length = m := ⟨_, rfl⟩
  have HM := Lib.hid hm
  rw [hm] at q1 ⊢
  have N0 := Lib.hid (heap_alloc_new' w (.cells y.cells.toArray 25))
  have B0 : Hid (Below w.heap.size w (w.alloc (.cells y.cells.toArray 25))) := (Below.refl _ _).alloc (Nat.le_refl _) _
  have HLD := Lib.hid (fun (W : World) (g : Nat) (hh : W.heap[g]? = some (.cells y.cells.toArray 25 (0, 0))) => ld_keyX hh lk)
  have HC := Lib.hid (fun (W : World) (g : Nat) (hh : W.heap[g]? = some (.cells y.cells.toArray 25 (0, 0))) => keyX_cells hh lk)
  have HS := Lib.hid (fun W => xshort_any y W lk)
  have HKS := Lib.hid (fun W => xkeys_any y W lk)
  clear h l2 l3 hm lk
  obtain ⟨Z, HZ⟩ : ∃ Z, Hid (y.cells.toArray = Z) := ⟨_, rfl⟩
  rw [HZ.out] at N0 B0 HLD HC HS HKS ⊢
  clear HZ
  have HSB : Hid (shortX y = true → y.iv.length ≤ 100 ∧ y.a.length ≤ 100) := fun h => by unfold shortX at h; simpa using h
  generalize shortX y = sb at HS HSB
  obtain ⟨k, lg, A2, c2, iv, A3, c3, a⟩ := y
  simp only at HC HKS HSB q2 HY2 HY3
  obtain ⟨ki, hki⟩ : ∃ ki, iv.length = ki := ⟨_, rfl⟩
  obtain ⟨ka, hka⟩ : ∃ ka, a.length = ka := ⟨_, rfl⟩
  rw [hki, hka] at HC HSB
  rw [hki] at q2
  have HKI := Lib.hid hki; have HKA := Lib.hid hka
  clear hki hka
  by_cases hb : 100 < m
  · have e1 : (100 : Int) < (m : Int) := by omega
    go_enter Try.func6, Try.ntmps6
    go_wp2
    go_ret
    exact ⟨rfl, B0.out⟩
  have e1 : ¬ ((100 : Int) < (m : Int)) := by omega
  have hb2 : m ≤ 100 := by omega
  clear hb
  go_enter Try.func6, Try.ntmps6
  go_upto_region 1 with (fail)
  generalize w.alloc _ = W0 at N0 B0 ⊢
  go_wp2_with (first
    | (refine wpList_ld rfl 25 (.tmp 3) rfl (HLD.out _ _ N0.out) ?_)
    | fail)
  refine (HS.out W0).mono ?_
  rintro e w1 ⟨rfl, hb1⟩
  have B1 : Hid (Below w.heap.size w w1) := B0.out.step hb1
  have N1 := Lib.hid ((hb1.block _ (lt_of_heap N0.out)).trans N0.out)
  clear hb1 B0 N0 HS
  cases sb with
  | false =>
    go_wp2_with fail
    go_ret
    exact ⟨rfl, B1.out⟩
  | true =>
  have HIA := Lib.hid (HSB.out rfl)
  clear HSB
  obtain ⟨d0, d1, d2⟩ := HC.out _ _ N1.out
  by_cases hi0 : ki = 0
  case pos =>
    have e2 : ((ki : Int) == 0) = true := by simp [hi0]
    clear hi0
    go_wp2_with fail
    go_ret
    exact ⟨rfl, B1.out⟩
  have e2 : ((ki : Int) == 0) = false := by simp; omega
  have hki0 : 0 < ki := by omega
  have hki1 : ki ≤ 100 := HIA.out.1
  have hka1 : ka ≤ 100 := HIA.out.2
  clear hi0 HIA
  go_wp2_with (first
    | (refine wpList_ld rfl 25 (.tmp 3) rfl (HLD.out _ _ N1.out) ?_)
    | fail)
  clear d0 d1 d2
  refine (HKS.out w1).mono ?_
  rintro e w2 ⟨p, E, rfl, hE0, hG, hb1⟩
  have K2 := Lib.hid hG
  have HEF := Lib.hid (hG.1.1 (firstG E iv) (firstG_len _ _))
  have B2 : Hid (Below w.heap.size w w2) := B1.out.step hb1
  have N2 := Lib.hid ((hb1.block _ (lt_of_heap N1.out)).trans N1.out)
  clear hE0 hG hb1 B1 N1 HKS
  have SE := Lib.hid (fun W hE S2 S3 S4 => gseal_any p E iv a b A2 A3 A ki c2 ka c3 m c W hE HKI.out hki0 (by omega) HKA.out HM.out (by omega) (by omega) S2 S3 S4)
  have HXL : Hid ((sealG E (firstG E iv) a b).length = m + 16) := by show _ = _; rw [sealG_len _ _ _ _ HEF.out, HM.out]
  have OP := Lib.hid (fun X' A4 c4 W (hX : X'.length = m + 16) hE S2 S3 S4 => gopen_any p E iv a X' A2 A3 A4 ki c2 ka c3 (m + 16) c4 m W hE HKI.out hki0 (by omega) HKA.out hX (by omega) (by omega) rfl S2 S3 S4)
  have OS := Lib.hid (fun w w' v y h => openG_seal (w := w) (w' := w') (E := E) (F := firstG E iv) (aad := a) (b := b) (v := v) (y := y) HM.out h)
  have OT := Lib.hid (fun q d w w' v y hq hd h => openG_turned (w := w) (w' := w') (E := E) (F := firstG E iv) (aad := a) (b := b) (q := q) (d := d) (v := v) (y := y) HEF.out HM.out hq hd h)
  generalize OpenG = OE at OP OS OT
  generalize sealG E (firstG E iv) a b = X at SE OP OS OT HXL
  obtain ⟨d0, d1, d2⟩ := HC.out _ _ N2.out
  go_wp2_with fail
  clear d0 d1 d2
  refine (SE.out w2 K2.out (HY2.out.below B2.out) (HY3.out.below B2.out) (H.out.below B2.out)).mono ?_
  rintro e w3 ⟨v3, rfl, hO, hb1⟩
  obtain ⟨A4, c4, rfl, hl3, h31, h32, hr3⟩ := own_read hO
  have S3 := Lib.hid (sl_mk hl3 h31 h32 hr3)
  have B3 : Hid (Below w.heap.size w w3) := B2.out.step hb1
  have N3 := Lib.hid ((hb1.block _ (lt_of_heap N2.out)).trans N2.out)
  have K3 := Lib.hid (K2.out.ext hb1)
  have hm31 : 0 + (m + 16) ≤ 2147483647 := by omega
  clear hl3 h31 h32 hr3 hO hb1 B2 N2 SE K2
  go_upto_region 10 with (
    at_builtin
    refine wpList_app8 rfl (.tmp 58) (.tmp 59) rfl w3.heap.size _ 0 [] rfl ?_ A4 (m + 16) c4 w3.heap.size X rfl ?_ ?_ ?_ ?_ ?_
    · exact own_heap (g := w3.heap.size) (heap_alloc_new' w3 _) (Nat.le_refl _) rfl (Nat.zero_le _)
    · exact S3.out.2.2.below ((Below.refl _ _).alloc (Nat.le_refl _) _)
    · exact HXL.out
    · exact hm31
    · simp
    rintro v4 w4 hown hgr
    have HB4 := Lib.hid (((Below.refl w3.heap.size w3).alloc (Nat.le_refl _) _).grown hgr (by simp) (ge_own w3.heap.size 0))
    rw [List.nil_append, Nat.zero_add] at hown
    have HO4 := Lib.hid hown
    clear hgr hown)
  obtain ⟨g5, cap, cur, rfl, hg5, hcur, hS5, hcp, hcs, _⟩ := o_open' HO4.out (by omega)
  have C4 := Lib.hid hcur
  have HCP := Lib.hid hcp
  have HG5 : Hid (w3.heap.size ≤ g5) := hg5
  have T4 := Lib.hid hS5
  clear hcur hcp hcs hg5 hS5 HO4
  obtain ⟨nn, hnn⟩ : ∃ nn, nn = bit.toNat % 128 := ⟨_, rfl⟩
  obtain ⟨kq, hkq⟩ : ∃ kq, kq = nn / 8 := ⟨_, rfl⟩
  obtain ⟨kr, hkr⟩ : ∃ kr, kr = nn % 8 := ⟨_, rfl⟩
  have e3 : (bit.toNat : Int) % 128 = (nn : Int) := by omega
  have e3' : (bit.toNat : Int).tmod 128 = (nn : Int) := by rw [Int.tmod_eq_emod_of_nonneg (by omega)]; exact e3
  have e4 : (nn : Int) / 8 = (kq : Int) := by omega
  have e4' : (nn : Int).tdiv 8 = (kq : Int) := by rw [Int.tdiv_eq_ediv_of_nonneg (by omega)]; exact e4
  have e5 : (nn : Int) % 8 = (kr : Int) := by omega
  have e5' : (nn : Int).tmod 8 = (kr : Int) := by rw [Int.tmod_eq_emod_of_nonneg (by omega)]; exact e5
  have hkq16 : kq < 16 := by omega
  have hkr8 : kr < 8 := by omega
  have hb256 : bit.toNat < 256 := bit.toNat_lt
  clear hnn hkq hkr
  obtain ⟨pq, hpq⟩ : ∃ pq, pq = m + kq := ⟨_, rfl⟩
  have e6 : (m : Int) + (kq : Int) = (pq : Int) := by omega
  have hpq1 : pq < m + 16 := by omega
  have hpq2 : (pq : Int) < (m : Int) + 16 := by omega
  have HPQ := Lib.hid hpq
  have y1 : IntKind.i64.wrap (kq : Int) = (kq : Int) := by rw [IntKind.wrap_i64]; omega
  have y2 : IntKind.i64.wrap (pq : Int) = (pq : Int) := by rw [IntKind.wrap_i64]; omega
  have y3 : IntKind.i64.wrap (kr : Int) = (kr : Int) := by rw [IntKind.wrap_i64]; omega
  clear hpq
  go_upto_region 11 with (fail)
  have c5 := o_sl_cell T4.out (k := pq) (by rw [HXL.out]; exact hpq1)
  have fz := frozen_of_heap C4.out pq
  have hcp2 := HCP.out
  obtain ⟨y4, hdb⟩ := bitX_byte8 kr hkr8
  generalize UInt8.ofNat (2 ^ kr) = db at y4 hdb
  have HDB := Lib.hid hdb
  have SX := Lib.hid (fun (t : TypeId) (fr : Nat × Nat) (x : UInt8) (W : World) (hS : Sl W (some ⟨g5, 0, none⟩) cap X) (hc : W.heap[g5]? = some (.cells cur t fr)) => o_sl_set (x := x) (k := pq) hS hc (by rw [HXL.out]; exact hpq1))
  have HXE : Hid (X.set pq (X.getD pq 0 ^^^ db) = X.set (m + kq) (X.getD (m + kq) 0 ^^^ db)) := by show _ = _; rw [HPQ.out]
  obtain ⟨xb, HXB⟩ : ∃ xb, Hid (X.getD pq 0 = xb) := ⟨_, rfl⟩
  rw [HXB.out] at c5 HXE
  have hxb : xb.toNat < 256 := xb.toNat_lt
  have y5 := xor8 xb db
  obtain ⟨xy, HXY⟩ : ∃ xy, Hid (xb ^^^ db = xy) := ⟨_, rfl⟩
  rw [HXY.out] at y5 HXE
  go_still_tail 13, (by kernel_rfl)
  change wpList _ _ _ _ _ w4.drew
  go_upto_region 12 with (fail)
  clear c5 fz
  have T5 : Hid (Sl (w4.setCell ⟨g5, pq, none⟩ (.int .u8 (xy.toNat : Int))).drew (some ⟨g5, 0, none⟩) cap (X.set pq xy)) := SX.out _ _ xy w4 T4.out C4.out
  have B34 : Hid (Below w3.heap.size w3 (w4.setCell ⟨g5, pq, none⟩ (.int .u8 (xy.toNat : Int))).drew) := (HB4.out.setCell HG5.out _).drew
  generalize (w4.setCell _ _).drew = W4 at T5 B34 ⊢
  have B4 : Hid (Below w.heap.size w W4) := B3.out.step B34.out
  have N4 := Lib.hid ((B34.out.block _ (lt_of_heap N3.out)).trans N3.out)
  have K4 := Lib.hid (K3.out.ext B34.out)
  have S4 := Lib.hid (S3.out.below B34.out)
  clear C4 HCP B3 N3 S3 T4 SX e3 e3' e4 e4' e5 e5' e6 y1 y2 y3 y4 y5 hcp2 K3 B34 HB4 HG5
  obtain ⟨d0, d1, d2⟩ := HC.out _ _ N4.out
  go_wp2_with fail
  clear d0 d1 d2
  refine (OP.out _ (some ⟨g5, 0, none⟩) cap W4 (by rw [List.length_set]; exact HXL.out) K4.out (HY2.out.below B4.out) (HY3.out.below B4.out) T5.out).mono ?_
  rintro e w5 ⟨v5, y5, rfl, hO, hb1⟩
  rw [HXE.out] at hO
  obtain ⟨rfl, rfl⟩ := OT.out _ _ _ _ _ _ hkq16 HDB.out hO
  have B5 : Hid (Below w.heap.size w w5) := B4.out.step hb1
  have N5 := Lib.hid ((hb1.block _ (lt_of_heap N4.out)).trans N4.out)
  have K5 := Lib.hid (K4.out.ext hb1)
  have S5 := Lib.hid (S4.out.below hb1)
  clear hO hb1 B4 N4 OT S4 K4 T5
  obtain ⟨d0, d1, d2⟩ := HC.out _ _ N5.out
  go_wp2_with fail
  clear d0 d1 d2
  refine (OP.out X A4 c4 w5 HXL.out K5.out (HY2.out.below B5.out) (HY3.out.below B5.out) S5.out).mono ?_
  rintro e w6 ⟨v6, y6, rfl, hO, hb1⟩
  obtain ⟨rfl, hO2⟩ := OS.out _ _ _ _ hO
  obtain ⟨A6, c6, rfl, hl3, h31, h32, hr3⟩ := own_read hO2
  have S6 := Lib.hid (sl_mk hl3 h31 h32 hr3)
  have B6 : Hid (Below w.heap.size w w6) := B5.out.step hb1
  clear hl3 h31 h32 hr3 hO2 hO hb1 B5 N5 OP OS K5
  have cv1 := conv_string w6 A6 m c6 b HM.out S6.out
  have cv2 := conv_string w6 A m c b HM.out (H.out.below B6.out)
  have hxx : ((strOf b).toList == (strOf b).toList) = true := by simp
  go_wp2_with fail
  refine (awake10_any w6).mono ?_
  rintro e w7 ⟨rfl, hb1⟩
  have B7 : Hid (Below w.heap.size w w7) := B6.out.step hb1
  clear cv1 cv2 hb1
  go_wp2
  go_ret
  exact ⟨rfl, B7.out⟩
end Go.Proofs.Ytkgbhlppadpdfaa

/- Laws of layer 10: with one bit turned of the text or the aad what is sealed is not opened. -/
namespace Go.Proofs.Ytkgbhlppadpdfaa
open Go.RowKit
set_option maxRecDepth 100000
set_option linter.unusedVariables false
set_option linter.unusedSimpArgs false
theorem x_gr_setCell (w : World) (g o : Nat) (v : Value) : w.grownBy (w.setCell ⟨g, o, none⟩ v) (some g) :=
  ⟨rfl, rfl, rfl, by simp, fun k _ hk => Below.heap_setCell w _ v k (fun h => hk (by rw [h]))⟩
theorem x_own_gr {w w' : World} {base : Nat} {e : TypeId} {s : Nat} {v : Value} {n : Nat} {xs : List Value} {g : Nat} (h : w.ownsRow base e s v n xs) (hb : w.grownBy w' (some g)) (hg : g < base) : w'.ownsRow base e s v n xs := by
  obtain ⟨h0, h | ⟨g0, cap, cur, hv, hg0, hh, r⟩⟩ := h
  · exact ⟨h0, .inl h⟩
  · exact ⟨h0, .inr ⟨g0, cap, cur, hv, hg0, (hb.block _ (lt_of_heap hh) (by simp; omega)).trans hh, r⟩⟩
theorem x_load_bool {P : Program} {ty : TypeId} (hu : P.underlying ty = some .bool) {W : World} {a : Addr} {v : Value} (h : W.cell? a = some v) :
    (Instr.loadAt ty (.pointer (some a))).run P W = .ok v W := by
  simp [Instr.loadAt, Instr.sureAddr, loadVar, isAgg, run_underlying hu, h]
theorem bit_cell {W : World} {g : Nat} {y : BitY} {t : TypeId} {fr : Nat × Nat} (h : W.heap[g]? = some (.cells y.cells.toArray t fr)) (hk : y.z.k.length = 32) :
    W.rangeAt g 0 y.z.cells ∧ W.cell? ⟨g, 35, none⟩ = some (.slice y.A y.b.length y.c) ∧ W.cell? ⟨g, 36, none⟩ = some (.int .u16 (y.at_ : Int)) ∧ W.cell? ⟨g, 37, none⟩ = some (.bool y.ad) := by
  have hz := keyX_len y.z hk
  refine ⟨fun j v hv => ?_, ?_, ?_, ?_⟩
  · have hj := (List.getElem?_eq_some_iff.1 hv).1
    rw [cell_of_heap h, BitY.cells, Nat.zero_add, List.getElem?_append_left hj]; exact hv
  · rw [cell_of_heap h, BitY.cells, List.getElem?_append_right (by omega), hz]; rfl
  · rw [cell_of_heap h, BitY.cells, List.getElem?_append_right (by omega), hz]; rfl
  · rw [cell_of_heap h, BitY.cells, List.getElem?_append_right (by omega), hz]; rfl
def zeros35 : List Value := List.replicate 32 (Value.int .u8 0) ++ [.bool false, .slice none 0 0, .slice none 0 0]
theorem zeroKey35 (W : World) : (zeroValue 25).run Try.prog W = .ok (.agg zeros35.toArray) W := by kernel_rfl
theorem xCells_one (y : KeyX) : ∀ v ∈ y.cells, v.oneCell' = true := by
  intro v hv
  simp only [KeyX.cells, List.mem_append, List.mem_cons, List.not_mem_nil, or_false] at hv
  rcases hv with hv | rfl | rfl | rfl
  · exact bv_one y.k v hv
  · rfl
  · rfl
  · rfl
set_option maxHeartbeats 8000000 in
theorem gcmOneBit_walk (w : World) (y : BitY) (l : y.ok w) :
    Calls Try.prog 7 #[.agg y.cells.toArray] w fun e w' => e = .returned (.bool true) ∧ Below w.heap.size w w' := by
  obtain ⟨⟨lk, l2, l3⟩, hat, h⟩ := l
  have RC := Lib.hid (bit_cell (heap_alloc_new' w (.cells y.cells.toArray 48)) lk)
  have GB : Hid (Below w.heap.size w (w.alloc (.cells y.cells.toArray 48))) := (Below.refl _ _).alloc (Nat.le_refl _) _
  have hsz0 : Hid ((w.alloc (.cells y.cells.toArray 48)).heap.size = w.heap.size + 1) := by show _ = _; simp
  generalize y.cells.toArray = YC at RC GB hsz0 ⊢
  obtain ⟨z, A, c, b, at_, ad⟩ := y
  simp only at lk l2 l3 hat h RC
  have q1 : b.length ≤ 9223372036854775807 := by have := h.1; have := h.2.1; simp [maxLen] at this; omega
  have q2 : z.iv.length ≤ 9223372036854775807 := by have := l2.1; have := l2.2.1; simp [maxLen] at this; omega
  have H := Lib.hid h; have HY2 := Lib.hid l2; have HY3 := Lib.hid l3
  obtain ⟨m, hm⟩ : ∃ m, b.length = m := ⟨_, rfl⟩
  have HM := Lib.hid hm
  rw [hm] at q1 RC
  have HLD := Lib.hid (fun (W : World) (g : Nat) (hh : W.heap[g]? = some (.cells z.cells.toArray 25 (0, 0))) => ld_keyX hh lk)
  have HC := Lib.hid (fun (W : World) (g : Nat) (hh : W.heap[g]? = some (.cells z.cells.toArray 25 (0, 0))) => keyX_cells hh lk)
  have HS := Lib.hid (fun W => xshort_any z W lk)
  have HKS := Lib.hid (fun W => xkeys_any z W lk)
  have hzl : Hid ((Try.prog.info? 25).map (·.size) = some z.cells.length) := by show _ = _; rw [keyX_len z lk]; exact iKeyX
  have hz35 : Hid (zeros35.length = z.cells.length) := by show _ = _; rw [keyX_len z lk]; rfl
  have HZO := Lib.hid (xCells_one z)
  have hzv := zeroKey35
  generalize zeros35 = Z35 at hz35 hzv
  clear h l2 l3 hm lk
  obtain ⟨ZL, HZ⟩ : ∃ ZL, Hid (z.cells = ZL) := ⟨_, rfl⟩
  rw [HZ.out] at HLD HC HS HKS hzl hz35 HZO RC
  clear HZ
  have HSB : Hid (shortX z = true → z.iv.length ≤ 100 ∧ z.a.length ≤ 100) := fun h => by unfold shortX at h; simpa using h
  generalize shortX z = sb at HS HSB
  obtain ⟨k, lg, A2, c2, iv, A3, c3, a⟩ := z
  simp only at HC HKS HSB q2 HY2 HY3
  obtain ⟨ki, hki⟩ : ∃ ki, iv.length = ki := ⟨_, rfl⟩
  obtain ⟨ka, hka⟩ : ∃ ka, a.length = ka := ⟨_, rfl⟩
  rw [hki, hka] at HC HSB
  rw [hki] at q2
  have HKI := Lib.hid hki; have HKA := Lib.hid hka
  have HAT := Lib.hid hat
  clear hki hka
  go_enter Try.func7, Try.ntmps7
  go_upto_region 1 with (fail)
  generalize w.alloc _ = W0 at RC GB hsz0 ⊢
  have HX : Hid (Below (w.heap.size + 1) W0 W0.drew) := (Below.refl _ _).drew
  have hlt : w.heap.size < w.heap.size + 1 := Nat.lt_succ_self _
  refine regB_start (w.heap.size + 1) (by kernel_rfl) ?_
  try simp only [Act.put, List.setIfInBounds_toArray, List.set_cons_zero, List.set_cons_succ]
  refine regB_take (v := ?_) 0 (some 16) rfl rfl (by kernel_rfl) (by kernel_rfl) (by kernel_rfl) (fun _ _ _ h => h) (by rfl) (fun W hW => ?_) ?_
  rotate_left
  · (go_simp; try rfl)
  simp only [Act.put, List.setIfInBounds_toArray, List.set_cons_zero, List.set_cons_succ]
  refine regB_load 1 (some 17) (fun W hW => run_loadAt_mid W w.heap.size 0 25 ZL _ (fun j v hv => (hW.cell hlt).trans ((HX.out.cell hlt).trans (RC.out.1 j v hv))) Try.underlying25 rfl hzl.out) rfl rfl rfl rfl (by kernel_rfl) (by kernel_rfl) (by kernel_rfl) (fun _ _ _ h => h) (by rfl) ?_
  simp only [Act.put, List.setIfInBounds_toArray, List.set_cons_zero, List.set_cons_succ]
  refine regB_take (v := ?_) 2 (some 18) rfl rfl (by kernel_rfl) (by kernel_rfl) (by kernel_rfl) (fun _ _ _ h => h) (by rfl) (fun W hW => ?_) ?_
  rotate_left
  · (go_simp; try rfl)
  simp only [Act.put, List.setIfInBounds_toArray, List.set_cons_zero, List.set_cons_succ]
  refine regB_load 3 (some 19) (fun W hW => o_load_slice uT ((hW.cell hlt).trans ((HX.out.cell hlt).trans RC.out.2.1))) rfl rfl rfl rfl (by kernel_rfl) (by kernel_rfl) (by kernel_rfl) (fun _ _ _ h => h) (by rfl) ?_
  simp only [Act.put, List.setIfInBounds_toArray, List.set_cons_zero, List.set_cons_succ]
  refine regB_take (v := ?_) 4 (some 20) rfl rfl (by kernel_rfl) (by kernel_rfl) (by kernel_rfl) (fun _ _ _ h => h) (by rfl) (fun W hW => ?_) ?_
  rotate_left
  · (go_simp; try rfl)
  simp only [Act.put, List.setIfInBounds_toArray, List.set_cons_zero, List.set_cons_succ]
  refine regB_load 5 (some 21) (fun W hW => load_cell Try.underlying46 ((hW.cell hlt).trans ((HX.out.cell hlt).trans RC.out.2.2.1))) rfl rfl rfl rfl (by kernel_rfl) (by kernel_rfl) (by kernel_rfl) (fun _ _ _ h => h) (by rfl) ?_
  simp only [Act.put, List.setIfInBounds_toArray, List.set_cons_zero, List.set_cons_succ]
  refine regB_take (v := ?_) 6 (some 22) rfl rfl (by kernel_rfl) (by kernel_rfl) (by kernel_rfl) (fun _ _ _ h => h) (by rfl) (fun W hW => ?_) ?_
  rotate_left
  · (go_simp; try rfl)
  simp only [Act.put, List.setIfInBounds_toArray, List.set_cons_zero, List.set_cons_succ]
  refine regB_load 7 (some 23) (fun W hW => x_load_bool Try.underlying4 ((hW.cell hlt).trans ((HX.out.cell hlt).trans RC.out.2.2.2))) rfl rfl rfl rfl (by kernel_rfl) (by kernel_rfl) (by kernel_rfl) (fun _ _ _ h => h) (by rfl) ?_
  simp only [Act.put, List.setIfInBounds_toArray, List.set_cons_zero, List.set_cons_succ]
  refine regB_eff 8 rfl (by kernel_rfl) (fun K hK => ?_)
  go_simp
  have hE : Below (w.heap.size + 1) W0.drew (W0.drew.alloc (.cells Z35.toArray 25)) := ((Below.refl _ W0.drew).alloc (Nat.le_of_eq hsz0.out.symm) _)
  refine hK.out _ _ hE ?_
  have HX := Lib.hid (Below.trans HX.out hE)
  clear hE hK K
  try simp only [Act.put, List.setIfInBounds_toArray, List.set_cons_zero, List.set_cons_succ]
  refine regB_eff 9 rfl (by kernel_rfl) (fun K hK => ?_)
  refine step_st1 rfl 25 (.tmp 3) (.tmp 17) rfl (store_arr (cs := ZL) hzl.out HZO.out (old := Z35) (heap_alloc_new' W0.drew _) hz35.out) ?_
  generalize hV : World.setRow _ _ _ = W2
  have F2 : Hid (W2.heap[W0.heap.size]? = some (.cells ZL.toArray 25 (0, 0))) := heap_of_setRow hV (heap_alloc_new' W0.drew _)
  have hE : Below (w.heap.size + 1) (W0.drew.alloc (.cells Z35.toArray 25)) W2 := by rw [← hV]; exact grown_below (grown_setRow _ _ _) (Nat.le_of_eq hsz0.out.symm) (by have := hsz0.out; simp; omega)
  clear hV
  refine hK.out _ _ hE ?_
  have HX := Lib.hid (Below.trans HX.out hE)
  clear hE hK K
  try simp only [Act.put, List.setIfInBounds_toArray, List.set_cons_zero, List.set_cons_succ]
  refine regB_take (v := ?_) 10 (some 4) rfl rfl (by kernel_rfl) (by kernel_rfl) (by kernel_rfl) (fun _ _ _ h => h) (by rfl) (fun W hW => ?_) ?_
  rotate_left
  · (go_simp; try rfl)
  simp only [Act.put, List.setIfInBounds_toArray, List.set_cons_zero, List.set_cons_succ]
  refine regB_take (v := ?_) 11 (some 5) rfl rfl (by kernel_rfl) (by kernel_rfl) (by kernel_rfl) (fun _ _ _ h => h) (by rfl) (fun W hW => ?_) ?_
  rotate_left
  · (go_simp; try rfl)
  simp only [Act.put, List.setIfInBounds_toArray, List.set_cons_zero, List.set_cons_succ]
  refine regB_take (v := ?_) 12 (some 6) rfl rfl (by kernel_rfl) (by kernel_rfl) (by kernel_rfl) (fun _ _ _ h => h) (by rfl) (fun W hW => ?_) ?_
  rotate_left
  · (go_simp; try rfl)
  simp only [Act.put, List.setIfInBounds_toArray, List.set_cons_zero, List.set_cons_succ]
  refine regB_done (by kernel_rfl) ?_
  have B0 : Hid (Below w.heap.size w W2) := GB.out.trans (HX.out.mono (Nat.le_succ _))
  generalize W0.heap.size = q at F2 ⊢
  have N0 := F2
  clear HX GB RC hlt HZO hzv hz35 hsz0 hzl F2
  by_cases hb : 100 < m
  · have e1 : (100 : Int) < (m : Int) := by omega
    go_wp2
    go_ret
    exact ⟨rfl, B0.out⟩
  have e1 : ¬ ((100 : Int) < (m : Int)) := by omega
  have hb2 : m ≤ 100 := by omega
  clear hb
  go_wp2_with (first
    | (refine wpList_ld rfl 25 (.tmp 3) rfl (HLD.out _ _ N0.out) ?_)
    | fail)
  refine (HS.out W2).mono ?_
  rintro e w1 ⟨rfl, hb1⟩
  have B1 : Hid (Below w.heap.size w w1) := B0.out.step hb1
  have N1 := Lib.hid ((hb1.block _ (lt_of_heap N0.out)).trans N0.out)
  clear hb1 B0 N0 HS
  cases sb with
  | false =>
    go_wp2_with fail
    go_ret
    exact ⟨rfl, B1.out⟩
  | true =>
  have HIA := Lib.hid (HSB.out rfl)
  clear HSB
  obtain ⟨d0, d1, d2⟩ := HC.out _ _ N1.out
  by_cases hi0 : ki = 0
  case pos =>
    have e2 : ((ki : Int) == 0) = true := by simp [hi0]
    clear hi0
    go_wp2_with fail
    go_ret
    exact ⟨rfl, B1.out⟩
  have e2 : ((ki : Int) == 0) = false := by simp; omega
  have hki0 : 0 < ki := by omega
  have hki1 : ki ≤ 100 := HIA.out.1
  have hka1 : ka ≤ 100 := HIA.out.2
  clear hi0 HIA
  go_wp2_with (first
    | (refine wpList_ld rfl 25 (.tmp 3) rfl (HLD.out _ _ N1.out) ?_)
    | fail)
  clear d0 d1 d2
  refine (HKS.out w1).mono ?_
  rintro e w2 ⟨p, E, rfl, hE0, hG, hb1⟩
  have K2 := Lib.hid hG
  have HEF := Lib.hid (hG.1.1 (firstG E iv) (firstG_len _ _))
  have B2 : Hid (Below w.heap.size w w2) := B1.out.step hb1
  have N2 := Lib.hid ((hb1.block _ (lt_of_heap N1.out)).trans N1.out)
  clear hE0 hG hb1 B1 N1 HKS
  have SE := Lib.hid (fun W hE S2 S3 S4 => gseal_any p E iv a b A2 A3 A ki c2 ka c3 m c W hE HKI.out hki0 (by omega) HKA.out HM.out (by omega) (by omega) S2 S3 S4)
  have ENZ := Lib.hid (fun W hW => K2.out.1.2 W hW zerB rfl)
  have HEZ := Lib.hid (K2.out.1.1 zerB rfl)
  have BD : Hid (∀ W, (Instr.build 33 #[]).run Try.prog W = .ok (.agg (zerB.map bv).toArray) W) := fun W => by kernel_rfl
  have hq := eql_bytes (P := Try.prog) arr16B Try.underlying5 s8 (E zerB) zerB HEZ.out rfl
  obtain ⟨EZ, HEE⟩ : ∃ EZ, Hid (E zerB = EZ) := ⟨_, rfl⟩
  rw [HEE.out] at ENZ hq HEZ
  have HD0 : Hid (decide (EZ = zerB) = false → E zerB ≠ zerB) := fun h => by rw [HEE.out]; exact of_decide_eq_false h
  generalize decide (EZ = zerB) = d0 at hq HD0
  obtain ⟨ZB, HZB⟩ : ∃ ZB, Hid (zerB.map bv = ZB) := ⟨_, rfl⟩
  rw [HZB.out] at ENZ BD hq
  go_wp2_with (first
    | (refine wpList_run (o := ⟨some 46, _, _, _, _, _⟩) rfl (v := .agg ZB.toArray) (w' := w2) (exec_bld rfl (by simp only [List.map_toArray, List.map_nil]; exact BD.out w2)) ?_)
    | fail)
  refine (ENZ.out w2 (Below.refl _ _)).mono ?_
  rintro e w3 ⟨rfl, hb1⟩
  have B3 : Hid (Below w.heap.size w w3) := B2.out.step hb1
  have N3 := Lib.hid ((hb1.block _ (lt_of_heap N2.out)).trans N2.out)
  have K3 := Lib.hid (K2.out.ext hb1)
  clear hb1 B2 N2 K2 ENZ
  obtain ⟨d0', d1, d2⟩ := HC.out _ _ N3.out
  cases d0 with
  | true =>
    go_wp2_with (first
      | (refine wpList_run (o := ⟨some 48, _, _, _, _, _⟩) rfl (v := .agg ZB.toArray) (w' := w3) (exec_bld rfl (by simp only [List.map_toArray, List.map_nil]; exact BD.out w3)) ?_)
      | fail)
    refine (awake10_any w3).mono ?_
    rintro e w4 ⟨rfl, hb1⟩
    have B4 : Hid (Below w.heap.size w w4) := B3.out.step hb1
    clear hb1
    go_wp2
    go_ret
    exact ⟨rfl, B4.out⟩
  | false =>
  have H0 := Lib.hid (HD0.out rfl)
  have HEZ2 : Hid ((E zerB).length = 16) := by show _ = _; rw [HEE.out]; exact HEZ.out
  have HXL : Hid ((sealG E (firstG E iv) a b).length = m + 16) := by show _ = _; rw [sealG_len _ _ _ _ HEF.out, HM.out]
  have OP := Lib.hid (fun own A5 c5 (hown : own.length = ka) X' A4 c4 W (hX : X'.length = m + 16) hE S2 S3 S4 => gopen_any p E iv own X' A2 A5 A4 ki c2 ka c5 (m + 16) c4 m W hE HKI.out hki0 (by omega) hown hX (by omega) (by omega) rfl S2 S3 S4)
  have OT := Lib.hid (fun i d w w' v y hi hd h => openG_text (w := w) (w' := w') (E := E) (F := firstG E iv) (aad := a) (b := b) (i := i) (d := d) (v := v) (y := y) HEF.out HEZ2.out H0.out HM.out hi hd h)
  have OA := Lib.hid (fun i d w w' v y hi hd h => openG_aad (w := w) (w' := w') (E := E) (F := firstG E iv) (aad := a) (b := b) (m := m) (i := i) (d := d) (v := v) (y := y) HEF.out HEZ2.out H0.out HM.out hi hd h)
  generalize OpenG = OE at OP OT OA
  generalize sealG E (firstG E iv) a b = X at SE OT OA HXL
  clear HD0
  go_wp2_with (first
    | (refine wpList_run (o := ⟨some 48, _, _, _, _, _⟩) rfl (v := .agg ZB.toArray) (w' := w3) (exec_bld rfl (by simp only [List.map_toArray, List.map_nil]; exact BD.out w3)) ?_)
    | fail)
  clear d0' d1 d2 hq
  refine (SE.out w3 K3.out (HY2.out.below B3.out) (HY3.out.below B3.out) (H.out.below B3.out)).mono ?_
  rintro e w4 ⟨v3, rfl, hO, hb1⟩
  obtain ⟨g4, cap4, cur4, rfl, hg4, hcur4, hS4, hcp4, _, _⟩ := o_open' hO (by omega)
  have C4 := Lib.hid hcur4
  have HCP4 := Lib.hid hcp4
  have HG4 : Hid (q < g4) := by have := lt_of_heap N3.out; show _ < _; omega
  have HG3 : Hid (w3.heap.size ≤ g4) := hg4
  have E34 := Lib.hid hb1
  have T4 := Lib.hid hS4
  have B4 : Hid (Below w.heap.size w w4) := B3.out.step hb1
  have N4 := Lib.hid ((hb1.block _ (lt_of_heap N3.out)).trans N3.out)
  have K4 := Lib.hid (K3.out.ext hb1)
  have hk31 : 0 + ka ≤ 2147483647 := by omega
  clear hO hcur4 hS4 hcp4 hg4 hb1 SE
  have NA := Lib.hid (((((Below.refl w4.heap.size w4).alloc (Nat.le_refl _) (.cells #[] 5)).block _ (lt_of_heap N4.out)).trans N4.out))
  obtain ⟨d0', d1, d2⟩ := HC.out _ _ NA.out
  go_upto_region 13 with (
    at_builtin
    refine wpList_app8 rfl (.tmp 71) (.tmp 73) rfl w4.heap.size _ 0 [] rfl ?_ A3 ka c3 w4.heap.size a rfl ?_ ?_ ?_ ?_ ?_
    · exact own_heap (g := w4.heap.size) (heap_alloc_new' w4 _) (Nat.le_refl _) rfl (Nat.zero_le _)
    · exact (HY3.out.below B4.out).2.2.below ((Below.refl _ _).alloc (Nat.le_refl _) _)
    · exact HKA.out
    · exact hk31
    · simp
    rintro v5 w5 hown hgr
    have HB5 := Lib.hid (((Below.refl w4.heap.size w4).alloc (Nat.le_refl _) _).grown hgr (by simp) (ge_own w4.heap.size 0))
    rw [List.nil_append, Nat.zero_add] at hown
    have HO5 := Lib.hid hown
    clear hgr hown)
  clear d0' d1 d2 NA
  have B5 : Hid (Below w.heap.size w w5) := B4.out.step HB5.out
  have T5 := Lib.hid (T4.out.below HB5.out)
  have C5 := Lib.hid ((HB5.out.block _ (lt_of_heap C4.out)).trans C4.out)
  have HQ5 : Hid (q < w4.heap.size) := lt_of_heap N4.out
  have HG44 : Hid (g4 < w4.heap.size) := lt_of_heap C4.out
  clear C4
  obtain ⟨A5, c5, rfl, hl5, h51, h52, hr5⟩ := own_read HO5.out
  have S5 := Lib.hid (sl_mk hl5 h51 h52 hr5)
  clear hl5 h51 h52 hr5
  have hat2 := HAT.out
  by_cases hc1 : ad = true ∧ 0 < ka
  case pos =>
    obtain ⟨rfl, hka0⟩ := hc1
    have t1 : (0 : Int) < (ka : Int) := by omega
    obtain ⟨g5, cap5, cur5, hv5, hg5, hcur5, hS5', hcp5, _, _⟩ := o_open' HO5.out hka0
    injection hv5 with hv1 hv2 hv3
    subst hv1; subst hv3
    clear hv2
    have C5o := Lib.hid hcur5
    have HG5 : Hid (w4.heap.size ≤ g5) := hg5
    have hcpx := hcp5
    clear hcur5 hS5' hcp5 hg5 HO5
    obtain ⟨k8, hk8⟩ : ∃ k8, k8 = 8 * ka := ⟨_, rfl⟩
    obtain ⟨nn, hnn⟩ : ∃ nn, nn = at_ % k8 := ⟨_, rfl⟩
    obtain ⟨kq, hkq⟩ : ∃ kq, kq = nn / 8 := ⟨_, rfl⟩
    obtain ⟨kr, hkr⟩ : ∃ kr, kr = nn % 8 := ⟨_, rfl⟩
    have hk80 : 0 < k8 := by omega
    have hnn8 : nn < k8 := by rw [hnn]; exact Nat.mod_lt _ hk80
    have e2' : 8 * (ka : Int) = (k8 : Int) := by omega
    have e3 : (at_ : Int) % (k8 : Int) = (nn : Int) := by rw [hnn]; exact (Int.natCast_emod at_ k8).symm
    have e3' : (at_ : Int).tmod (k8 : Int) = (nn : Int) := by rw [Int.tmod_eq_emod_of_nonneg (by omega)]; exact e3
    have e4 : (nn : Int) / 8 = (kq : Int) := by omega
    have e4' : (nn : Int).tdiv 8 = (kq : Int) := by rw [Int.tdiv_eq_ediv_of_nonneg (by omega)]; exact e4
    have e5 : (nn : Int) % 8 = (kr : Int) := by omega
    have e5' : (nn : Int).tmod 8 = (kr : Int) := by rw [Int.tmod_eq_emod_of_nonneg (by omega)]; exact e5
    have hkql : kq < ka := by omega
    have hkr8 : kr < 8 := by omega
    have hk8i : (k8 : Int) ≤ 1000 := by omega
    have hk8j : ((k8 : Int) == 0) = false := by simp; omega
    have hk8n : k8 ≠ 0 := by omega
    clear hnn hkq hkr hk8 hnn8
    have hkqi : (kq : Int) < (ka : Int) := by omega
    have hkqj : (kq : Int) < (ka : Int) := by omega
    have hkqk : kq < ka := by omega
    have y1 : IntKind.i64.wrap (kq : Int) = (kq : Int) := by rw [IntKind.wrap_i64]; omega
    have y3 : IntKind.i64.wrap (kr : Int) = (kr : Int) := by rw [IntKind.wrap_i64]; omega
    go_upto_region 15 with (fail)
    have c5' := o_sl_cell S5.out (k := kq) (by rw [HKA.out]; exact hkqk)
    have fz := frozen_of_heap C5o.out kq
    obtain ⟨y4, hdb⟩ := bitX_byte8 kr hkr8
    generalize UInt8.ofNat (2 ^ kr) = db at y4 hdb
    have HDB := Lib.hid hdb
    have SX := Lib.hid (fun (t : TypeId) (fr : Nat × Nat) (x : UInt8) (W : World) (hS : Sl W (some ⟨g5, 0, none⟩) c5 a) (hc : W.heap[g5]? = some (.cells cur5 t fr)) => o_sl_set (x := x) (k := kq) hS hc (by rw [HKA.out]; exact hkqk))
    obtain ⟨xb, HXB⟩ : ∃ xb, Hid (a.getD kq 0 = xb) := ⟨_, rfl⟩
    have HXE : Hid (a.set kq (a.getD kq 0 ^^^ db) = a.set kq (xb ^^^ db)) := by show _ = _; rw [HXB.out]
    rw [HXB.out] at c5'
    have hxb : xb.toNat < 256 := xb.toNat_lt
    have y5 := xor8 xb db
    obtain ⟨xy, HXY⟩ : ∃ xy, Hid (xb ^^^ db = xy) := ⟨_, rfl⟩
    rw [HXY.out] at y5 HXE
    go_still_tail 10, (by kernel_rfl)
    change wpList _ _ _ _ _ w5.drew
    go_upto_region 20 with (fail)
    clear c5' fz
    have TT : Hid (Sl (w5.setCell ⟨g5, kq, none⟩ (.int .u8 (xy.toNat : Int))).drew (some ⟨g5, 0, none⟩) c5 (a.set kq xy)) := SX.out _ _ xy w5 S5.out C5o.out
    have hqg : q < g5 := Nat.lt_of_lt_of_le HQ5.out HG5.out
    have B46 : Hid (Below w4.heap.size w4 (w5.setCell ⟨g5, kq, none⟩ (.int .u8 (xy.toNat : Int))).drew) := (HB5.out.setCell HG5.out _).drew
    generalize (w5.setCell _ _).drew = W6 at TT B46 ⊢
    have B6 : Hid (Below w.heap.size w W6) := B4.out.step B46.out
    have N6 := Lib.hid ((B46.out.block _ (lt_of_heap N4.out)).trans N4.out)
    have K6 := Lib.hid (K4.out.ext B46.out)
    have T6 := Lib.hid (T4.out.below B46.out)
    clear e2' e3 e3' e4 e4' e5 e5' y1 y3 y4 y5 hk8i hk8j hkqi hkqj t1
    obtain ⟨d0', d1, d2⟩ := HC.out _ _ N6.out
    go_wp2_with fail
    clear d0' d1 d2
    refine (OP.out _ (some ⟨g5, 0, none⟩) c5 (by rw [List.length_set]; exact HKA.out) X (some ⟨g4, 0, none⟩) cap4 W6 HXL.out K6.out (HY2.out.below B6.out) TT.out T6.out).mono ?_
    rintro e w7 ⟨v7, y7, rfl, hO, hb1⟩
    rw [← HXE.out] at hO
    obtain ⟨rfl, rfl⟩ := OA.out _ _ _ _ _ _ (by rw [HKA.out]; exact hkql) HDB.out hO
    have B7 : Hid (Below w.heap.size w w7) := B6.out.step hb1
    clear hO hb1
    go_wp2_with fail
    refine (awake10_any w7).mono ?_
    rintro e w8 ⟨rfl, hb1⟩
    have B8 : Hid (Below w.heap.size w w8) := B7.out.step hb1
    clear hb1
    go_wp2
    go_ret
    exact ⟨rfl, B8.out⟩
  by_cases hc2 : ad = false ∧ 0 < m
  case pos =>
    obtain ⟨rfl, hm0⟩ := hc2
    have t1 : (0 : Int) < (m : Int) := by omega
    clear hc1
    obtain ⟨k8, hk8⟩ : ∃ k8, k8 = 8 * m := ⟨_, rfl⟩
    obtain ⟨nn, hnn⟩ : ∃ nn, nn = at_ % k8 := ⟨_, rfl⟩
    obtain ⟨kq, hkq⟩ : ∃ kq, kq = nn / 8 := ⟨_, rfl⟩
    obtain ⟨kr, hkr⟩ : ∃ kr, kr = nn % 8 := ⟨_, rfl⟩
    have hk80 : 0 < k8 := by omega
    have hnn8 : nn < k8 := by rw [hnn]; exact Nat.mod_lt _ hk80
    have e2' : 8 * (m : Int) = (k8 : Int) := by omega
    have e3 : (at_ : Int) % (k8 : Int) = (nn : Int) := by rw [hnn]; exact (Int.natCast_emod at_ k8).symm
    have e3' : (at_ : Int).tmod (k8 : Int) = (nn : Int) := by rw [Int.tmod_eq_emod_of_nonneg (by omega)]; exact e3
    have e4 : (nn : Int) / 8 = (kq : Int) := by omega
    have e4' : (nn : Int).tdiv 8 = (kq : Int) := by rw [Int.tdiv_eq_ediv_of_nonneg (by omega)]; exact e4
    have e5 : (nn : Int) % 8 = (kr : Int) := by omega
    have e5' : (nn : Int).tmod 8 = (kr : Int) := by rw [Int.tmod_eq_emod_of_nonneg (by omega)]; exact e5
    have hkql : kq < m := by omega
    have hkr8 : kr < 8 := by omega
    have hk8i : (k8 : Int) ≤ 1000 := by omega
    have hk8j : ((k8 : Int) == 0) = false := by simp; omega
    have hk8n : k8 ≠ 0 := by omega
    clear hnn hkq hkr hk8 hnn8
    have hkqi : (kq : Int) < (m : Int) := by omega
    have hkqj : (kq : Int) < ((m : Int) + 16) := by omega
    have hkqk : kq < (m + 16) := by omega
    have y1 : IntKind.i64.wrap (kq : Int) = (kq : Int) := by rw [IntKind.wrap_i64]; omega
    have y3 : IntKind.i64.wrap (kr : Int) = (kr : Int) := by rw [IntKind.wrap_i64]; omega
    go_upto_region 18 with (fail)
    have c5' := o_sl_cell T5.out (k := kq) (by rw [HXL.out]; exact hkqk)
    have fz := frozen_of_heap C5.out kq
    obtain ⟨y4, hdb⟩ := bitX_byte8 kr hkr8
    generalize UInt8.ofNat (2 ^ kr) = db at y4 hdb
    have HDB := Lib.hid hdb
    have SX := Lib.hid (fun (t : TypeId) (fr : Nat × Nat) (x : UInt8) (W : World) (hS : Sl W (some ⟨g4, 0, none⟩) cap4 X) (hc : W.heap[g4]? = some (.cells cur4 t fr)) => o_sl_set (x := x) (k := kq) hS hc (by rw [HXL.out]; exact hkqk))
    obtain ⟨xb, HXB⟩ : ∃ xb, Hid (X.getD kq 0 = xb) := ⟨_, rfl⟩
    have HXE : Hid (X.set kq (X.getD kq 0 ^^^ db) = X.set kq (xb ^^^ db)) := by show _ = _; rw [HXB.out]
    rw [HXB.out] at c5'
    have hxb : xb.toNat < 256 := xb.toNat_lt
    have y5 := xor8 xb db
    obtain ⟨xy, HXY⟩ : ∃ xy, Hid (xb ^^^ db = xy) := ⟨_, rfl⟩
    rw [HXY.out] at y5 HXE
    go_still_tail 10, (by kernel_rfl)
    change wpList _ _ _ _ _ w5.drew
    go_upto_region 20 with (fail)
    clear c5' fz
    have TT : Hid (Sl (w5.setCell ⟨g4, kq, none⟩ (.int .u8 (xy.toNat : Int))).drew (some ⟨g4, 0, none⟩) cap4 (X.set kq xy)) := SX.out _ _ xy w5 T5.out C5.out
    have gr4 := x_gr_setCell w5 g4 kq (.int .u8 (xy.toNat : Int))
    have OWN : Hid ((w5.setCell ⟨g4, kq, none⟩ (.int .u8 (xy.toNat : Int))).ownsRow w4.heap.size 5 1 (.slice A5 ka c5) ka (a.map bv)) := x_own_gr HO5.out gr4 HG44.out
    obtain ⟨A7, c7, he7, hl7, h71, h72, hr7⟩ := own_read OWN.out
    injection he7 with he71 he72 he73
    subst he71; subst he73
    have S7 : Hid (Sl (w5.setCell ⟨g4, kq, none⟩ (.int .u8 (xy.toNat : Int))).drew A5 c5 a) := sl_mk hl7 h71 h72 hr7
    have B36 : Hid (Below w3.heap.size w3 (w5.setCell ⟨g4, kq, none⟩ (.int .u8 (xy.toNat : Int))).drew) := ((E34.out.trans (HB5.out.mono E34.out.size)).setCell HG3.out _).drew
    clear he72 hl7 h71 h72 hr7 OWN gr4
    generalize (w5.setCell _ _).drew = W6 at TT B36 S7 ⊢
    have B6 : Hid (Below w.heap.size w W6) := B3.out.step B36.out
    have N6 := Lib.hid ((B36.out.block _ (lt_of_heap N3.out)).trans N3.out)
    have K6 := Lib.hid (K3.out.ext B36.out)
    clear e2' e3 e3' e4 e4' e5 e5' y1 y3 y4 y5 hk8i hk8j hkqi hkqj t1
    obtain ⟨d0', d1, d2⟩ := HC.out _ _ N6.out
    go_wp2_with fail
    clear d0' d1 d2
    refine (OP.out a A5 c5 HKA.out _ (some ⟨g4, 0, none⟩) cap4 W6 (by rw [List.length_set]; exact HXL.out) K6.out (HY2.out.below B6.out) S7.out TT.out).mono ?_
    rintro e w7 ⟨v7, y7, rfl, hO, hb1⟩
    rw [← HXE.out] at hO
    obtain ⟨rfl, rfl⟩ := OT.out _ _ _ _ _ _ hkql HDB.out hO
    have B7 : Hid (Below w.heap.size w w7) := B6.out.step hb1
    clear hO hb1
    go_wp2_with fail
    refine (awake10_any w7).mono ?_
    rintro e w8 ⟨rfl, hb1⟩
    have B8 : Hid (Below w.heap.size w w8) := B7.out.step hb1
    clear hb1
    go_wp2
    go_ret
    exact ⟨rfl, B8.out⟩
  cases ad with
  | true =>
    have t1 : ¬ ((0 : Int) < (ka : Int)) := by intro h; exact hc1 ⟨rfl, by omega⟩
    clear hc1 hc2
    go_wp2_with fail
    refine (awake10_any w5).mono ?_
    rintro e w8 ⟨rfl, hb1⟩
    have B8 : Hid (Below w.heap.size w w8) := B5.out.step hb1
    clear hb1
    go_wp2
    go_ret
    exact ⟨rfl, B8.out⟩
  | false =>
    have t1 : ¬ ((0 : Int) < (m : Int)) := by intro h; exact hc2 ⟨rfl, by omega⟩
    clear hc1 hc2
    go_wp2_with fail
    refine (awake10_any w5).mono ?_
    rintro e w8 ⟨rfl, hb1⟩
    have B8 : Hid (Below w.heap.size w w8) := B5.out.step hb1
    clear hb1
    go_wp2
    go_ret
    exact ⟨rfl, B8.out⟩
end Go.Proofs.Ytkgbhlppadpdfaa
