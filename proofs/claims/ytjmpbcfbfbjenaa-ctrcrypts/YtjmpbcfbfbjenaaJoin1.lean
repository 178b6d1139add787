/- Joined: Ctr1 LiftC LiftN KeyZ Ctr2 Ref1. -/
import Derived.Test.YtjmpbcfbfbjenaaCtrM
import Derived.Test.YtjmpbcfbfbjenaaLaws3
import Derived.Test.YtjmpbcfbfbjenaaAes10
import Derived.Test.YtjmpbcfbfbjenaaLift
import Derived.Deep.Strs
import Derived.Test.YtjmpbcfbfbjenaaBits3
import Derived.Test.YtjmpbcfbfbjenaaReg
/- Package ctr: crypt, Crypt. -/
namespace Go.Proofs.Ytjmpbcfbfbjenaa
open Go.RowKit
set_option linter.unusedVariables false
set_option maxRecDepth 100000
set_option linter.unusedSimpArgs false
theorem c_own_below {w w' : World} {base : Nat} {e : TypeId} {s : Nat} {v : Value} {n : Nat} {xs : List Value} (h : w.ownsRow base e s v n xs) (hb : Below w.heap.size w w') : w'.ownsRow base e s v n xs := by
  obtain ⟨h0, h | ⟨g, cap, cur, hv, hg, hh, r⟩⟩ := h
  · exact ⟨h0, .inl h⟩
  · exact ⟨h0, .inr ⟨g, cap, cur, hv, hg, (hb.block _ (lt_of_heap hh)).trans hh, r⟩⟩
theorem c_own_ge {w : World} {base : Nat} {e : TypeId} {s : Nat} {v : Value} {n : Nat} {xs : List Value} (h : w.ownsRow base e s v n xs) {B : Nat} (hB : B ≤ base) : ∀ g, v.ownBlock = some g → B ≤ g := fun g hq => Nat.le_trans hB (h.lt g hq).1
theorem c_own_ne {w : World} {base : Nat} {e : TypeId} {s : Nat} {v : Value} {n : Nat} {xs : List Value} (h : w.ownsRow base e s v n xs) {g : Nat} (hB : g < base) : some g ≠ v.ownBlock := fun hq => by have := (h.lt g hq.symm).1; omega
theorem own_mono {w : World} {base b' : Nat} {e : TypeId} {s : Nat} {v : Value} {n : Nat} {xs : List Value} (h : w.ownsRow base e s v n xs) (hb : b' ≤ base) : w.ownsRow b' e s v n xs := by
  obtain ⟨h0, h | ⟨g, cap, cur, hv, hg, r⟩⟩ := h
  · exact ⟨h0, .inl h⟩
  · exact ⟨h0, .inr ⟨g, cap, cur, hv, Nat.le_trans hb hg, r⟩⟩
theorem c_hid_mp {J J' : Act → World → Prop} (h : Hid (J = J')) {a : Act} {w : World} (hh : J' a w) : J a w := by rw [h.out]; exact hh
/-- a label in a scope, behind code of which none jumps, to which its own code jumps back -/
theorem c_scope_label {P : Program} {a : Act} {w : World} {Q : Exit → Act → World → Prop} {ahead rest : Code} (l : Nat) (J : Act → World → Prop) (μ : Act → World → Nat) (hf : findLabel (ahead.seq ((Code.label l).seq rest)) l = some (Code.skip.seq rest)) (h0 : ahead.wp P (fun e a w => e = .normal ∧ J a w) a w)
    (pass : ∀ a w, J a w → rest.wp P (Exit.jump l (fun a' w' => J a' w' ∧ μ a' w' < μ a w) Q) a w) : (Code.scope (ahead.seq ((Code.label l).seq rest))).wp P Q a w := by
  refine wp_scope_jumps l J μ hf (wp_seq (Code.wp_mono ?_ h0)) (fun a w h => wp_seq (wp_skip (pass a w h)))
  rintro e a w ⟨rfl, hJ⟩
  refine wp_seq (wp_label ?_)
  refine Code.wp_mono ?_ (pass a w hJ)
  intro e a w h
  cases e <;> first | exact h | exact ⟨h.1, h.2.1⟩
theorem make_room {P : Program} {t e : TypeId} {z : Value} {bytes : Nat} (ht : P.underlying t = some (.slice e)) (hi : (P.info? e).map (fun i => (i.zero, i.size, i.bytes)) = some (some z, 1, bytes)) (hz : z.cells = #[z])
    (kl kc : IntKind) (n : Nat) (hb : bytes * n ≤ 281474976710656) (h63 : n ≤ 9223372036854775807) (W : World) :
    (Instr.makeSlice t (.int kl 0) (.int kc (n : Int))).run P W = .ok (.slice (some ⟨W.heap.size, 0, none⟩) 0 n) (W.alloc (.cells (List.replicate n z).toArray e)) := by
  obtain ⟨i, hi, h1, h2, h3⟩ := info_parts hi
  have hr := run_make (P := P) W t e i z ht hi h1 kl kc 0 n (by omega) (by omega) (by rw [h3, ← Int.natCast_mul]; omega) (by omega)
  rw [Int.toNat_natCast, h2, Nat.mul_one, madeCells_one z hz] at hr
  exact hr
theorem own_room {w : World} {g n base : Nat} {z : Value} {e : TypeId} (hb : base ≤ g) (hn : n ≤ maxLen) (h : w.heap[g]? = some (.cells (Array.replicate n z) e (0, 0))) : w.ownsRow base e 1 (.slice (some ⟨g, 0, none⟩) 0 n) 0 [] :=
  ⟨rfl, .inr ⟨g, n, _, rfl, hb, h, Nat.zero_le _, hn, by simp, by simp⟩⟩
/-- a block's cells from r on, as a slice -/
theorem sl_from {W : World} {g r : Nat} {x : List UInt8} {t : TypeId} {fr : Nat × Nat} (hx : x.length = 16) (hr : r < 16) (hk : W.heap[g]? = some (.cells (x.map bv).toArray t fr)) : Sl W (some (cutA ⟨g, 0, none⟩ 16 r)) (16 - r) (x.drop r) := by
  have h := sl_cut (sl_row hx (by omega) hk) (k := r) (by omega)
  have e : cutS (some ⟨g, 0, none⟩) 16 r = some (cutA ⟨g, 0, none⟩ 16 r) := by
    unfold cutS cutA; split <;> rfl
  rw [e] at h
  exact h
theorem i16c (l : List UInt8) (h : l.length = 16) : (Try.prog.info? 23).map (·.size) = some (l.map bv).length := by rw [List.length_map, h]; exact i16B
/-- what enciphers, as calls see it -/
def Enc (w : World) (kp : Value) (E : List UInt8 → List UInt8) : Prop :=
  (∀ x, x.length = 16 → (E x).length = 16) ∧ ∀ W, Below w.heap.size w W → ∀ x, x.length = 16 → Calls Try.prog 36 #[kp, .agg (x.map bv).toArray] W fun e w' => e = .returned (.agg ((E x).map bv).toArray) ∧ Below W.heap.size W w'
theorem Enc.ext {w w' : World} {kp : Value} {E : List UInt8 → List UInt8} (h : Enc w kp E) (hb : Below w.heap.size w w') : Enc w' kp E := ⟨h.1, fun W hW x hx => h.2 W (hb.step hW) x hx⟩
theorem KeyAt.enc {w : World} {g n : Nat} {ws : List W32} (h : KeyAt w g ws n) (hn : 1 ≤ n) (hn2 : n ≤ 14) : Enc w (.pointer (some ⟨g, 0, none⟩)) (encL ws n) :=
  ⟨fun x hx => by rw [encL, encT, outL_len, addW_len _ _ _ (shiftW_len _ _) (by have := h.1; omega)], fun W hW x hx => enc_any g n ws x W hx hn hn2 (h.ext hW)⟩
theorem enc_nil (w : World) : Enc w (.pointer none) (fun _ => List.replicate 16 0) :=
  ⟨fun _ _ => by simp, fun W _ x hx => enc_none _ x W hx (fun W' _ => rounds_nil W')⟩
/-- the stream of what enciphers, and an iv -/
def strmF (E : List UInt8 → List UInt8) (iv : List UInt8) : Nat → UInt8 := blkF fun i => E (countL iv i)
theorem c_left {n j m t : Nat} (h : m = n - j ∧ j ≤ n) (h2 : t ≤ m) : Hid (m - t = n - (j + t) ∧ j + t ≤ n) := by
  show _ ∧ _; omega
set_option maxHeartbeats 4000000 in
theorem ctrc_any (kp : Value) (E : List UInt8 → List UInt8) (iv : List UInt8) (p : Nat) (A : Option Addr) (n c : Nat) (bs : List UInt8) (w : World) (hiv : iv.length = 16) (hE : Enc w kp E) (hl : bs.length = n) (hn : p + n ≤ 2147483647) (hS : Sl w A c bs) :
    Calls Try.prog 33 #[kp, .agg (iv.map bv).toArray, .int .i64 (p : Int), .slice A n c] w fun e w' => ∃ v, e = .returned v ∧ w'.ownsRow w.heap.size 5 1 v n ((ctrL (strmF E iv) p bs).map bv) ∧ Below w.heap.size w w' := by
  have hz : ∀ W, (zeroValue 23).run Try.prog W = .ok (.agg zeros16.toArray) W := fun W => by kernel_rfl
  have HZL : Hid (zeros16.length = 16) := rfl
  generalize zeros16 = Z at hz HZL
  have HIV := Lib.hid hiv; have HE := Lib.hid hE; have HL := Lib.hid hl; have HS := Lib.hid hS; have HN := Lib.hid hn
  have STEP : Hid (∀ j m, j ≤ n → m = min (n - j) (16 - (p + j) % 16) → ctrL (strmF E iv) p (bs.take j) ++ xorL (bs.drop j) ((E (countL iv ((p + j) / 16))).drop ((p + j) % 16)) = ctrL (strmF E iv) p (bs.take (j + m))) := fun j m h1 h2 => ctr_step (fun i => E (countL iv i)) p j m bs (hE.1 _ (countL_len _ _)) (by omega) (by omega)
  have ST0 : Hid (ctrL (strmF E iv) p (bs.take 0) = []) := by show _ = _; rw [List.take_zero]; rfl
  have STN : Hid (ctrL (strmF E iv) p (bs.take n) = ctrL (strmF E iv) p bs) := by show _ = _; rw [List.take_of_length_le (by omega)]
  have hmk := make_room (P := Try.prog) uT made8 rfl .i64 .i64 n (by omega) (by omega) (w.alloc (.cells (iv.map bv).toArray 23))
  have hn31 : n ≤ 2147483647 := by omega
  have HMX : Hid (n ≤ maxLen) := by show _ ≤ _; simp [maxLen]; omega
  clear hiv hE hl hn hS
  obtain ⟨q, HQ⟩ : ∃ q, Hid (w.heap.size = q) := ⟨_, rfl⟩
  generalize ctrL (strmF E iv) p = CT at STEP ST0 STN ⊢
  go_enter Try.func33, Try.ntmps33
  go_wp2
  have G := heap2 w (.cells (iv.map bv).toArray 23) (.cells (Array.replicate n (Value.int .u8 0)) 5)
  obtain ⟨J, HJ0⟩ : ∃ J : Act → World → Prop, Hid (J = fun a' w' => ∃ (j s : Nat) (A' : Option Addr) (m c' : Nat) (v9 u4 u6 u7 u8 u10 u11 u12 u13 u14 u15 u16 u17 u18 u19 u20 u21 u22 u23 u24 u25 u26 u27 u28 u29 u30 u31 u32 u33 u34 u35 u36 u37 u38 u39 u40 u41 : Value),
      a' = { tmps := #[kp, .agg (iv.map bv).toArray, .int .i64 (s : Int), .slice A' m c', u4, .pointer (some ⟨q, 0, none⟩), u6, u7, u8, v9, u10, u11, u12, u13, u14, u15, u16, u17, u18, u19, u20, u21, u22, u23, u24, u25, u26, u27, u28, u29, u30, u31, u32, u33, u34, u35, u36, u37, u38, u39, u40, u41], defers := [] } ∧
      Hid (s = p + j) ∧ Hid (m = n - j ∧ j ≤ n) ∧ Hid (Sl w A' c' (bs.drop j)) ∧ Hid (Below w.heap.size w w') ∧ Hid (w'.heap[q]? = some (.cells (iv.map bv).toArray 23 (0, 0))) ∧
      Hid (w'.ownsRow (q + 1) 5 1 v9 j ((CT (bs.take j)).map bv))) := ⟨_, rfl⟩
  rw [HQ.out]
  refine c_scope_label 0 J (fun a' _ => (sliceLen (a'.tmps.getD 3 undef))) rfl ?first ?pass
  case first =>
    go_wp2
    rw [HJ0.out]
    refine ⟨0, p, A, n, c, _, _, _, _, _, _, _, _, _, _, _, _, _, _, _, _, _, _, _, _, _, _, _, _, _, _, _, _, _, _, _, _, _, _, _, _, _, rfl, ?_, ?_, HS, ?_, ?_, ?_⟩
    · exact rfl
    · show _ ∧ _; omega
    · exact G.2.2
    · show _ = _; rw [← HQ.out]; exact G.1
    · show World.ownsRow _ _ _ _ _ _ _; rw [ST0.out]; exact own_room (by have := HQ.out; omega) HMX.out G.2.1
  case pass =>
    clear G hmk
    intro a' w' hJ'
    rw [HJ0.out] at hJ'
    obtain ⟨j, s, A', m, c', v9, u4, u6, u7, u8, u10, u11, u12, u13, u14, u15, u16, u17, u18, u19, u20, u21, u22, u23, u24, u25, u26, u27, u28, u29, u30, u31, u32, u33, u34, u35, u36, u37, u38, u39, u40, u41, rfl, HSJ, HJ, HA, HB, H0, HO⟩ := hJ'
    have hdl : (bs.drop j).length = m := by have h1 := HL.out; have h2 := HJ.out; rw [List.length_drop]; omega
    by_cases hm : 0 < m
    · have e1 : (0 : Int) < (m : Int) := by omega
      obtain ⟨k, hk⟩ : ∃ k, k = s / 16 := ⟨_, rfl⟩
      obtain ⟨r, hr⟩ : ∃ r, r = s % 16 := ⟨_, rfl⟩
      obtain ⟨t, ht⟩ : ∃ t, t = min m (16 - r) := ⟨_, rfl⟩
      have u1 : (s : Int) / 16 = (k : Int) := by omega
      have u2 : (s : Int) % 16 = (r : Int) := by omega
      have hks : k < 18446744073709551616 := by have h1 := HSJ.out; have h2 := HJ.out; have h3 := HN.out; omega
      have hs31 : s ≤ 2147483647 := by have h1 := HSJ.out; have h2 := HJ.out; have h3 := HN.out; omega
      have hm31 : m ≤ 2147483647 := by have h2 := HJ.out; omega
      have hk31 : k ≤ 2147483647 := by omega
      have hr16 : r < 16 := by omega
      have hjt : Hid (j + t ≤ 2147483647) := by have h1 := HSJ.out; have h2 := HJ.out; have h3 := HN.out; show _ ≤ _; omega
      have HST := Lib.hid (STEP.out j t HJ.out.2 (by have h1 := HSJ.out; have h2 := HJ.out; rw [← h1, ← hr]; omega))
      rw [← HSJ.out, ← hk, ← hr] at HST
      have HT := Lib.hid ht
      have ht16 : Hid (t ≤ m ∧ t ≤ 16 ∧ 0 < t ∧ 0 < m) := by show _ ∧ _ ∧ _ ∧ _; omega
      have hcut := cut_from uT s8 A' m c' .i64 (t : Int) (by omega) (by omega)
      rw [Int.toNat_natCast] at hcut
      obtain ⟨X, hX⟩ : ∃ X, X = bs.drop j := ⟨_, rfl⟩
      rw [← hX] at HST
      have HXL : Hid (X.length = m) := by show _ = _; rw [hX]; exact hdl
      have HXS : Hid (Sl w A' c' X) := by show Sl _ _ _ _; rw [hX]; exact HA.out
      have HCL := Lib.hid (countL_len iv k)
      have HC := Lib.hid (fun W => count_any iv k W HIV.out hks)
      generalize countL iv k = CB at HST HCL HC
      have HEL := Lib.hid (HE.out.1 CB HCL.out)
      have HEC := Lib.hid (fun W hW => HE.out.2 W hW CB HCL.out)
      generalize E CB = EB at HST HEL HEC
      clear hX hdl ht hk hr
      go_wp2_with (first
        | (refine wpList_ld rfl 23 (.tmp 5) rfl (load_arr arr16B rfl (i16c iv HIV.out) H0.out) ?_)
        | fail)
      refine (HC.out w').mono ?_
      rintro e w1 ⟨rfl, hb1⟩
      have B1 := Lib.hid (HB.out.step hb1)
      have O1 := Lib.hid (c_own_below HO.out hb1)
      have I1 := Lib.hid ((hb1.block _ (lt_of_heap H0.out)).trans H0.out)
      clear hb1 HC
      go_wp2_with fail
      refine (HEC.out w1 B1.out).mono ?_
      rintro e w2 ⟨rfl, hb2⟩
      have B2 := Lib.hid (B1.out.step hb2)
      have O2 := Lib.hid (c_own_below O1.out hb2)
      have I2 := Lib.hid ((hb2.block _ (lt_of_heap I1.out)).trans I1.out)
      clear hb2 B1 O1 I1 HEC
      have sl := arr_from arr16B s8 ⟨w2.heap.size, 0, none⟩ .i64 (r : Int) (by omega) (by omega)
      rw [Int.toNat_natCast] at sl
      go_wp2_with (first
        | (refine wpList_st rfl 23 (.tmp 10) (.tmp 24) rfl (store_arr (cs := EB.map bv) (old := Z) (i16c EB HEL.out) (bv_one _) (heap_alloc_new' w2 _) (by rw [List.length_map, HEL.out, HZL.out])) ?_
           generalize hV : World.setRow _ _ _ = W3
           have M3 := Lib.hid (heap_of_setRow hV (heap_alloc_new' w2 _))
           have MB := Lib.hid (((Below.refl w2.heap.size w2).alloc (Nat.le_refl _) _).trans (below_of_setRow hV (Nat.le_refl w2.heap.size) (by simp)))
           clear hV)
        | fail)
      have B3 := Lib.hid (B2.out.step MB.out)
      have O3 := Lib.hid (c_own_below O2.out MB.out)
      have I3 := Lib.hid ((MB.out.block _ (lt_of_heap I2.out)).trans I2.out)
      clear MB B2 O2 I2
      generalize w2.heap.size = g10 at M3 ⊢
      refine (xor_n A' (some (cutA ⟨g10, 0, none⟩ 16 r)) m (16 - r) t c' (16 - r) X (EB.drop r) W3 HXL.out (by rw [List.length_drop, HEL.out]) HT.out.symm (HXS.out.below B3.out) (sl_from HEL.out hr16 M3.out) hm31 (by omega)).mono ?_
      rintro e w4 ⟨g3, hg3, rfl, hk3, hb4⟩
      have B4 := Lib.hid (B3.out.step hb4)
      have O4 := Lib.hid (c_own_below O3.out hb4)
      have I4 := Lib.hid ((hb4.block _ (lt_of_heap I3.out)).trans I3.out)
      have R4 := Lib.hid (row_of_heap hk3 (Nat.lt_succ_self g3))
      have XL : Hid ((xorL X (EB.drop r)).length = t) := by show _ = _; rw [xorL_len, List.length_drop, HEL.out, HXL.out, HT.out]
      generalize xorL X (EB.drop r) = XR at HST R4 XL
      clear hb4 hk3 hg3 B3 O3 I3
      have hq4 : Hid (q + 1 ≤ w4.heap.size) := lt_of_heap I4.out
      go_wp2_with (
        at_builtin
        refine wpList_app8 rfl (.tmp 30) (.tmp 31) rfl (q + 1) v9 j (CT (bs.take j)) rfl O4.out (some ⟨g3, 0, none⟩) t t (g3 + 1) XR rfl R4.out XL.out hjt.out hq4.out ?_
        rintro v5 w5 hown hgr
        rw [HST.out] at hown
        have O5 := Lib.hid hown
        have B5 := Lib.hid (B4.out.grown hgr (by have := hq4.out; have := HQ.out; omega) (c_own_ge O4.out (by have := HQ.out; omega)))
        have I5 := Lib.hid ((hgr.block _ (lt_of_heap I4.out) (c_own_ne O4.out (Nat.lt_succ_self q))).trans I4.out)
        clear hown hgr)
      go_step3
      have hA := sl_cut HA.out (k := t) (by have h1 := HL.out; have h2 := HJ.out; have h3 := ht16.out; rw [List.length_drop]; omega)
      rw [List.drop_drop] at hA
      have hwr : wrap64 ((s : Int) + (t : Int)) = ((s + t : Nat) : Int) := by have h1 := HSJ.out; have h2 := HJ.out; have h3 := HN.out; have h4 := ht16.out; rw [wrap64]; omega
      refine ⟨rfl, c_hid_mp HJ0 ⟨j + t, s + t, cutS A' c' t, m - t, c' - t, v5, _, _, _, _, _, _, _, _, _, _, _, _, _, _, _, _, _, _, _, _, _, _, _, _, _, _, _, _, _, _, _, _, _, _, _, _, by rw [hwr], ?_, ?_, ?_, B5, I5, O5⟩, ?_⟩
      · have h1 := HSJ.out; show _ = _; omega
      · exact c_left HJ.out ht16.out.1
      · exact hA
      · exact Nat.sub_lt ht16.out.2.2.2 ht16.out.2.2.1
    · have hj : j = n := by have h2 := HJ.out; omega
      have e1 : ¬ ((0 : Int) < (m : Int)) := by omega
      rw [hj, STN.out] at HO
      clear hdl
      go_wp2_with fail
      simp only [Exit.jump]
      go_ret
      exact ⟨_, rfl, own_mono HO.out (by have := HQ.out; omega), HB.out⟩
set_option maxHeartbeats 1000000 in
theorem Crypt_any (kp : Value) (E : List UInt8 → List UInt8) (iv : List UInt8) (A : Option Addr) (n c : Nat) (bs : List UInt8) (w : World) (hiv : iv.length = 16) (hE : Enc w kp E) (hl : bs.length = n) (hn : n ≤ 2147483647) (hS : Sl w A c bs) :
    Calls Try.prog 9 #[kp, .agg (iv.map bv).toArray, .slice A n c] w fun e w' => ∃ v, e = .returned v ∧ w'.ownsRow w.heap.size 5 1 v n ((ctrL (strmF E iv) 0 bs).map bv) ∧ Below w.heap.size w w' := by
  have HIV := Lib.hid hiv
  have hB0 : Below w.heap.size w (w.alloc (.cells (iv.map bv).toArray 23)) := (Below.refl _ _).alloc (Nat.le_refl _) _
  have HC := Lib.hid (ctrc_any kp E iv 0 A n c bs (w.alloc (.cells (iv.map bv).toArray 23)) hiv (hE.ext hB0) hl (by omega) (hS.below hB0))
  have HB0 := Lib.hid hB0
  clear hiv hE hl hS hB0
  generalize ctrL (strmF E iv) 0 bs = R at HC ⊢
  go_enter Try.func9, Try.ntmps9
  go_wp2_with (first
    | (refine wpList_ld rfl 23 (.tmp 4) rfl (load_arr arr16B rfl (i16c iv HIV.out) (heap_alloc_new' w _)) ?_)
    | fail)
  refine HC.out.mono ?_
  rintro e w1 ⟨v, rfl, hO, hB⟩
  have HO := Lib.hid hO; have HB1 := Lib.hid (HB0.out.step hB)
  clear hO hB
  go_wp2_with fail
  go_ret
  exact ⟨_, rfl, own_mono HO.out (by simp), HB1.out⟩
end Go.Proofs.Ytjmpbcfbfbjenaa

/- Rows of integers within a struct. -/
namespace Go.Proofs.Ytjmpbcfbfbjenaa
open Go.RowKit Go.ChangeShapes Go.WideShapes Go.ChangeAt
set_option maxRecDepth 100000
set_option linter.unusedVariables false
set_option linter.unusedSimpArgs false
/-- cells that read as a row of integers -/
theorem cells_ints {H : Type} {enc : TypeId × Value → H} {P : Program} {W : World} {b0 : Nat} {sp : Nat → Bool} {held : Bool} {t e : TypeId} {n : Nat} {k : IntKind} {cs : List Value} {fuel : Nat} {x : DataW H × List MemPlace}
    (ht : P.underlying t = some (.array n e)) (he : P.underlying e = some (.int k)) (hce : P.cellsOf e = 1) (hct : P.cellsOf t = n)
    (hf : DataW.trod enc P W b0 sp held fuel t cs = some x) :
    ∃ zs : List Int, cs = zs.map (Value.int k) ∧ zs.length = n ∧ ∀ z ∈ zs, (Lit.int k z).wf = true := by
  obtain ⟨xs, m, _, _, hl, hxl, hget⟩ := DataW.trod_array ht hf
  rw [hce] at hget
  have hcl : cs.length = n := by rw [hl, hct]
  have key : ∀ i, i < n → ∃ z, cs[i]? = some (.int k z) ∧ (Lit.int k z).wf = true := by
    intro i hi
    have h1 := hget i hi
    have hx : ∃ y, xs[i]? = some y := ⟨xs[i], List.getElem?_eq_getElem (by omega)⟩
    obtain ⟨y, hy⟩ := hx
    rw [hy] at h1
    obtain ⟨z, hz, _, hw⟩ := DataW.trod_int he h1
    refine ⟨z, ?_, hw⟩
    rw [Nat.mul_one] at hz
    have := congrArg (fun l => l[0]?) hz
    simpa [List.getElem?_take] using this
  refine ⟨cs.map (fun v => match v with | .int _ z => z | _ => 0), ?_, by rw [List.length_map, hcl], ?_⟩
  · rw [List.map_map]
    apply List.ext_getElem?
    intro i
    by_cases hi : i < n
    · obtain ⟨z, hz, _⟩ := key i hi
      simp [hz]
    · rw [List.getElem?_eq_none (by omega), List.getElem?_eq_none (by simp; omega)]
  · intro z hz
    obtain ⟨v, hv, rfl⟩ := List.mem_map.1 hz
    obtain ⟨i, hi, rfl⟩ := List.mem_iff_getElem.1 hv
    obtain ⟨z, hz, hw⟩ := key i (by omega)
    rw [List.getElem?_eq_getElem hi, Option.some.injEq] at hz
    rw [hz]; exact hw
end Go.Proofs.Ytjmpbcfbfbjenaa

/- A key, whether it is long, and an IV, that come in (layer 8). -/
namespace Go.Proofs.Ytjmpbcfbfbjenaa
open Go.RowKit Go.ChangeShapes Go.WideShapes Go.ChangeAt
set_option maxRecDepth 100000
set_option linter.unusedVariables false
set_option linter.unusedSimpArgs false
def kCells (k : List UInt8) (b : Bool) (n : List UInt8) : List Value := k.map bv ++ ([.bool b] ++ n.map bv)
theorem split49 (L : List Value) (h : L.length = 49) : L = L.take 32 ++ ((L.drop 32).take 1 ++ (L.drop 33).take 16) := by
  have h1 := List.take_append_drop 32 L
  have h2 := List.take_append_drop 1 (L.drop 32)
  rw [List.drop_drop] at h2
  have h4 : (L.drop 33).take 16 = L.drop 33 := List.take_of_length_le (by simp; omega)
  rw [h4, show L.drop 33 = L.drop (32 + 1) from rfl, h2, h1]
theorem k_of_cells {H : Type} {enc : TypeId × Value → H} {W : World} {b0 : Nat} {sp : Nat → Bool} {held : Bool} {cs : List Value} {fuel : Nat} {x : DataW H × List MemPlace}
    (hf : DataW.trod enc Try.prog W b0 sp held fuel 25 cs = some x) : ∃ k b n, cs = kCells k b n ∧ k.length = 32 ∧ n.length = 16 := by
  obtain ⟨y0, y1, y2, m, _, hl, h0, h1, h2⟩ := Go.Deep.trod_struct3 Try.underlying25 hf
  have hc : Try.prog.cellsOf 25 = 49 := by kernel_rfl
  have c0 : Try.prog.cellsOf 22 = 32 := by kernel_rfl
  have c1 : Try.prog.cellsOf 4 = 1 := by kernel_rfl
  have c2 : Try.prog.cellsOf 23 = 16 := by kernel_rfl
  rw [hc] at hl
  rw [c0] at h0
  rw [c1] at h1
  rw [c2] at h2
  obtain ⟨z0, e0, hz0, w0⟩ := cells_ints Try.underlying22 Try.underlying5 (by kernel_rfl) c0 h0
  obtain ⟨b, e1, _⟩ := DataW.trod_bool Try.underlying4 h1
  obtain ⟨z2, e2, hz2, w2⟩ := cells_ints Try.underlying23 Try.underlying5 (by kernel_rfl) c2 h2
  obtain ⟨k, rfl⟩ := bytes_of w0
  obtain ⟨n, rfl⟩ := bytes_of w2
  refine ⟨k, b, n, ?_, by simpa using hz0, by simpa using hz2⟩
  have hs := split49 cs hl
  simp only [List.drop_zero] at e0
  rw [e0, e1, e2] at hs
  rw [hs]
  simp [kCells, Function.comp_def]
  rfl
theorem open_palfreylaw08_Key {H : Type} {enc : TypeId × Value → H} {W : World} {base b0 : Nat} {sp : Nat → Bool} {held : Bool} {v : Value} {d : DataW H} {p : List MemPlace}
    (hv : Value.okWide Try.prog W .any base 25 v) (h : DataW.Trod enc Try.prog W b0 sp held 25 v d p) :
    ∃ y : List UInt8 × Bool × List UInt8, v = .agg (kCells y.1 y.2.1 y.2.2).toArray ∧ y.1.length = 32 ∧ y.2.2.length = 16 := by
  obtain ⟨cs, rfl, hsz⟩ := okWide_struct Try.underlying25 hv
  obtain ⟨fuel, hf⟩ := h
  simp only [Value.cells] at hf
  obtain ⟨k, b, n, e, hk, hn⟩ := k_of_cells hf
  refine ⟨(k, b, n), ?_, hk, hn⟩
  congr 1
  apply Array.ext'
  rw [e]
end Go.Proofs.Ytjmpbcfbfbjenaa

/- A key with its IV in memory, and its round keys (the laws' own functions bytes, keys). -/
namespace Go.Proofs.Ytjmpbcfbfbjenaa
open Go.RowKit
set_option linter.unusedVariables false
set_option maxRecDepth 100000
set_option linter.unusedSimpArgs false
theorem k_strOf_beq (a b : List UInt8) : ((strOf a).toList == (strOf b).toList) = decide (a = b) := by
  have h : ∀ l : List UInt8, (strOf l).toList = l := fun l => by rw [ByteArray.toList_eq]; rfl
  rw [h, h]; rw [Bool.eq_iff_iff]; simp
theorem k_strOf_size (a : List UInt8) : (strOf a).size = a.length := by simp [strOf, ByteArray.size]
theorem k_strOf_append (a b : List UInt8) : strOf a ++ strOf b = strOf (a ++ b) := by
  apply ByteArray.ext; simp [strOf]
theorem Sl.extk {w w' : World} {A : Option Addr} {c : Nat} {bs : List UInt8} (h : Sl w A c bs) (hb : Ext w w') : Sl w' A c bs := h.below hb
theorem k_range_ext {W W' : World} {g o : Nat} {cs : List Value} (h : W.rangeAt g o cs) (hg : g < W.heap.size) (hE : Ext W W') : W'.rangeAt g o cs := fun j v hv => (hE.cell hg).trans (h j v hv)
/-- which bytes of it are the key -/
def keyB (k : List UInt8) (b : Bool) : List UInt8 := if b then k else k.take 16
def keyW (b : Bool) : Nat := if b then 8 else 4
theorem keyB_len (k : List UInt8) (b : Bool) (hk : k.length = 32) : (keyB k b).length = 4 * keyW b := by
  cases b <;> simp [keyB, keyW, hk]
def KZ (W : World) (g : Nat) (k : List UInt8) (b : Bool) (n : List UInt8) : Prop := g < W.heap.size ∧ W.rangeAt g 0 (k.map bv) ∧ W.cell? ⟨g, 32, none⟩ = some (.bool b) ∧ W.rangeAt g 33 (n.map bv)
theorem KZ.ext {W W' : World} {g : Nat} {k n : List UInt8} {b : Bool} (h : KZ W g k b n) (hE : Ext W W') : KZ W' g k b n :=
  ⟨Nat.lt_of_lt_of_le h.1 hE.size, k_range_ext h.2.1 h.1 hE, (hE.cell h.1).trans h.2.2.1, k_range_ext h.2.2.2 h.1 hE⟩
theorem kz_of {W : World} {g : Nat} {k n : List UInt8} {b : Bool} {post : List Value} {t : TypeId} {fr : Nat × Nat} (h : W.heap[g]? = some (.cells (kCells k b n ++ post).toArray t fr)) (hk : k.length = 32) (hn : n.length = 16) : KZ W g k b n := by
  refine ⟨lt_of_heap h, fun j v hv => ?_, ?_, fun j v hv => ?_⟩
  · have hj := (List.getElem?_eq_some_iff.1 hv).1
    rw [cell_of_heap h, kCells, Nat.zero_add, List.append_assoc, List.getElem?_append_left hj]; exact hv
  · rw [cell_of_heap h, kCells, List.append_assoc, List.getElem?_append_right (by simp [hk]), List.length_map, hk]; rfl
  · have hj := (List.getElem?_eq_some_iff.1 hv).1
    rw [cell_of_heap h, kCells, List.append_assoc, List.getElem?_append_right (by simp [hk]; omega), List.length_map, hk, List.append_assoc, List.getElem?_append_right (by simp; omega), List.getElem?_append_left (by simp at hj ⊢; omega)]
    rw [show 33 + j - 32 - [Value.bool b].length = j by simp; omega]; exact hv
theorem kz_new (w : World) (k n : List UInt8) (b : Bool) (t : TypeId) (hk : k.length = 32) (hn : n.length = 16) : KZ (w.alloc (.cells (kCells k b n).toArray t)) w.heap.size k b n :=
  kz_of (post := []) (by rw [List.append_nil]; exact heap_alloc_new' w _) hk hn
theorem kCells_len (k n : List UInt8) (b : Bool) (hk : k.length = 32) (hn : n.length = 16) : (kCells k b n).length = 49 := by simp [kCells, hk, hn]
theorem KZ.key {W : World} {g : Nat} {k n : List UInt8} {b : Bool} (h : KZ W g k b n) (hk : k.length = 32) : Sl W (some ⟨g, 0, none⟩) 32 (keyB k b) := by
  refine ⟨by rw [keyB_len k b hk]; cases b <;> simp [keyW], by simp [maxLen], .inr ⟨g, 0, rfl, h.1, fun j u hu => ?_⟩⟩
  refine h.2.1 j u ?_
  cases b
  · simp only [keyB, Bool.false_eq_true, if_false, List.map_take] at hu
    rw [List.getElem?_take] at hu
    split at hu
    · exact hu
    · cases hu
  · exact hu
theorem arr32Z : Try.prog.underlying 22 = some (.array 32 5) := Try.underlying22
theorem i16z (l : List UInt8) (h : l.length = 16) : (Try.prog.info? 23).map (·.size) = some (l.map bv).length := by rw [List.length_map, h]; exact i16B
set_option maxHeartbeats 1000000 in
theorem kbytes_any (k : List UInt8) (b : Bool) (n : List UInt8) (w : World) (hk : k.length = 32) (hn : n.length = 16) :
    Calls Try.prog 11 #[.agg (kCells k b n).toArray] w fun e w' => e = .returned (.slice (some ⟨w.heap.size, 0, none⟩) (4 * keyW b) 32) ∧ Sl w' (some ⟨w.heap.size, 0, none⟩) 32 (keyB k b) ∧ Below w.heap.size w w' := by
  have Z0 := kz_new w k n b 25 hk hn
  have HS := Lib.hid (Z0.key hk)
  have hc := Z0.2.2.1
  have sl := arr_to arr32Z s8 ⟨w.heap.size, 0, none⟩ .i64 16 (by omega) (by omega)
  rw [show (16 : Int).toNat = 16 from rfl] at sl
  have sl2 := arr_all arr32Z s8 ⟨w.heap.size, 0, none⟩
  clear Z0
  generalize (kCells k b n).toArray = Z at HS hc ⊢
  generalize keyB k b = KB at HS ⊢
  cases b
  · go_enter Try.func11, Try.ntmps11
    go_wp2
    go_ret
    exact ⟨rfl, HS.out, (Below.refl _ _).alloc (Nat.le_refl _) _⟩
  · go_enter Try.func11, Try.ntmps11
    go_wp2
    go_ret
    exact ⟨rfl, HS.out, (Below.refl _ _).alloc (Nat.le_refl _) _⟩
theorem iKey : (Try.prog.info? 25).map (·.size) = some 49 := by kernel_rfl
set_option maxHeartbeats 1000000 in
theorem keys_any (k : List UInt8) (b : Bool) (n : List UInt8) (w : World) (hk : k.length = 32) (hn : n.length = 16) :
    Calls Try.prog 8 #[.agg (kCells k b n).toArray] w fun e w' => ∃ g, e = .returned (.tuple #[.pointer (some ⟨g, 0, none⟩), .bool true]) ∧ w.heap.size ≤ g ∧ KeyAt w' g (expandL (keyB k b)) (keyW b + 6) ∧ Below w.heap.size w w' := by
  have HBY := Lib.hid (fun W => kbytes_any k b n W hk hn)
  have HL := Lib.hid (kCells_len k n b hk hn)
  have HKL := Lib.hid (keyB_len k b hk)
  have HW : Hid (keyW b = 4 ∨ keyW b = 8) := by show _ ∨ _; cases b <;> simp [keyW]
  generalize kCells k b n = Z at HBY HL ⊢
  generalize keyB k b = KB at HBY HKL ⊢
  generalize keyW b = nk at HBY HKL HW ⊢
  clear hk hn
  go_enter Try.func8, Try.ntmps8
  go_wp2_with (first
    | (refine wpList_ld rfl 25 (.tmp 1) rfl (load_arr Try.underlying25 rfl (by rw [HL.out]; exact iKey) (heap_alloc_new' w _)) ?_)
    | fail)
  generalize hV : w.alloc _ = W0
  have B0 := Lib.hid (below_of_alloc hV (Nat.le_refl w.heap.size))
  clear hV
  refine (HBY.out W0).mono ?_
  rintro e w1 ⟨rfl, hS1, hb1⟩
  have S1 := Lib.hid hS1; have B1 := Lib.hid (B0.out.step hb1)
  clear hS1 hb1
  go_wp2_with fail
  refine (expand_any (some ⟨W0.heap.size, 0, none⟩) (4 * nk) 32 nk KB w1 HKL.out rfl HW.out S1.out).mono ?_
  rintro e w2 ⟨g, rfl, hg, hK, hb2⟩
  have K2 := Lib.hid hK; have B2 := Lib.hid (B1.out.step hb2)
  have HG : Hid (w.heap.size ≤ g) := Nat.le_trans B1.out.size hg
  clear hK hb2 hg
  go_wp2
  go_ret2
  exact ⟨g, rfl, HG.out, K2.out, B2.out⟩
end Go.Proofs.Ytjmpbcfbfbjenaa

/- The law file's own 'awake' (layer 8). -/
namespace Go.Proofs.Ytjmpbcfbfbjenaa
open Go.RowKit
set_option linter.unusedVariables false
set_option maxRecDepth 100000
set_option linter.unusedSimpArgs false
def nineL : List UInt8 := [0, 0, 0, 0, 0, 0, 0, 0, 0, 0, 0, 0, 0, 0, 0, 9]
def nineV : Array Value := #[.int .u8 0, .int .u8 0, .int .u8 0, .int .u8 0, .int .u8 0, .int .u8 0, .int .u8 0, .int .u8 0, .int .u8 0, .int .u8 0, .int .u8 0, .int .u8 0, .int .u8 0, .int .u8 0, .int .u8 0, .int .u8 9]
theorem nine_lit : (nineL.map bv).toArray = nineV := rfl
theorem xorL_zeros (y : List UInt8) (h : y.length = 16) : xorL (List.replicate 16 0) y = y := by
  apply List.ext_getElem
  · rw [xorL_len, List.length_replicate, h]; rfl
  · intro i h1 h2
    simp only [xorL, List.getElem_zipWith, List.getElem_replicate]
    exact UInt8.zero_xor
theorem ctr_zeros (E : List UInt8 → List UInt8) (x : List UInt8) (hx : x.length = 16) (hE : (E x).length = 16) : ctrL (strmF E x) 0 (List.replicate 16 0) = E x := by
  have h := ctrL_block (fun i => E (countL x i)) 0 (List.replicate 16 0) (by show (E (countL x 0)).length = 16; rw [count_zero x hx]; exact hE)
  simp only [Nat.zero_div, Nat.zero_mod, List.drop_zero, List.length_replicate, Nat.sub_zero, Nat.min_self] at h
  rw [count_zero x hx, xorL_zeros _ hE, List.take_of_length_le (by simp)] at h
  exact h.symm
def zer16c : List UInt8 := List.replicate 16 0
theorem zer16c_len : zer16c.length = 16 := by simp [zer16c]
set_option maxHeartbeats 4000000 in
theorem awake8_any (w : World) : Calls Try.prog 12 #[] w fun e w' => e = .returned (.bool true) ∧ Below w.heap.size w w' := by
  have hz : ∀ W, (zeroValue 23).run Try.prog W = .ok (.agg zeros16.toArray) W := fun W => by kernel_rfl
  have HZL : Hid (zeros16.length = 16) := rfl
  have hmk : ∀ W, (Instr.makeSlice 26 (.int .i64 16) (.int .i64 16)).run Try.prog W = .ok (.slice (some ⟨W.heap.size, 0, none⟩) 16 16) (W.alloc (.cells (zer16c.map bv).toArray 5)) := fun W => by
    rw [zer16c, List.map_replicate]; exact make_run (P := Try.prog) uT made8 rfl .i64 .i64 16 (by omega) (by omega) W
  have hbd : ∀ W, (Instr.build 23 #[(15, .int .u8 9)]).run Try.prog W = .ok (.agg nineV) W := fun W => by kernel_rfl
  have BD := Lib.hid hbd
  have HZC := Lib.hid zer16c_len
  have HX16 := Lib.hid (fun A W (hS : Sl W A 16 zer16c) => expand_any A 16 16 4 zer16c W zer16c_len rfl (.inl rfl) hS)
  have HWS : Hid ((expandL zer16c).length = 60) := expandL_len _ (by rw [zer16c_len]; omega)
  have HXZ := Lib.hid (ctr_zeros (encL (expandL zer16c) 10) nineL rfl)
  generalize expandL zer16c = ws at HX16 HWS HXZ
  have HCZ : Hid (List.replicate 16 0 = zer16c) := rfl
  rw [HCZ.out] at HXZ
  have S0 := Lib.hid (fun (W : World) => sl_row (g := W.heap.size) zer16c_len (by omega) (heap_alloc_new' W (.cells (zer16c.map bv).toArray 5)))
  clear HCZ
  generalize zer16c = Z0 at hmk HX16 HXZ S0 HZC
  generalize zeros16 = Z at hz HZL
  go_enter Try.func12, Try.ntmps12
  go_wp2_with fail
  refine (HX16.out _ _ (S0.out w)).mono ?_
  rintro e w1 ⟨gk, rfl, _, hK1, hb1⟩
  have K1 := Lib.hid (KeyAt.enc hK1 (by omega) (by omega))
  have B1 : Hid (Below w.heap.size w w1) := ((Below.refl w.heap.size w).alloc (Nat.le_refl _) _).step hb1
  clear hK1 hb1 HX16
  have HEL := Lib.hid (K1.out.1 nineL rfl)
  have HEC := Lib.hid (fun W hW => K1.out.2 W hW nineL rfl)
  have HCR := Lib.hid (fun A W hW (hS : Sl W A 16 Z0) => Crypt_any (.pointer (some ⟨gk, 0, none⟩)) (encL ws (4 + 6)) nineL A 16 16 Z0 W rfl (K1.out.ext hW) HZC.out (by omega) hS)
  have HXZ := Lib.hid (HXZ.out HEL.out)
  rw [HXZ.out] at HCR
  rw [nine_lit] at HEC HCR
  generalize encL ws (4 + 6) nineL = EB at HEL HEC HCR
  clear K1 HXZ
  generalize nineV = NV at BD HEC HCR hbd
  go_wp2_with (first
    | (refine wpList_run (o := ⟨some 10, _, _, _, _, _⟩) rfl (v := .agg NV) (w' := w1) (exec_build rfl (by simp only [List.map_toArray, List.map_cons, List.map_nil]; exact BD.out w1)) ?_)
    | fail)
  refine (HEC.out w1 (Below.refl _ _)).mono ?_
  rintro e w2 ⟨rfl, hb2⟩
  have X2 : Hid (Ext w1 w2) := hb2
  clear hb2
  go_wp2_with (first
    | (refine wpList_st rfl 23 (.tmp 3) (.tmp 11) rfl (store_arr (cs := EB.map bv) (old := Z) (i16c EB HEL.out) (bv_one _) (heap_alloc_new' w2 _) (by rw [List.length_map, HEL.out, HZL.out])) ?_
       generalize hV : World.setRow _ _ _ = W3
       have M3 := Lib.hid (heap_of_setRow hV (heap_alloc_new' w2 _))
       have MB := Lib.hid (((Below.refl w2.heap.size w2).alloc (Nat.le_refl _) _).trans (below_of_setRow hV (Nat.le_refl w2.heap.size) (by simp)))
       clear hV)
    | fail)
  generalize w2.heap.size = g3 at M3 ⊢
  have X3 : Hid (Ext w1 W3) := X2.out.step MB.out
  clear X2 MB
  have S3 := Lib.hid (sl_row HEL.out (by omega) M3.out)
  have sl := arr_all arr16B s8 ⟨g3, 0, none⟩
  have HX : Hid (Ext W3 W3.drew) := (Below.refl _ _).drew
  have hq : ((strOf EB).toList == (strOf EB).toList) = true := beq_self_eq_true _
  refine reg_start (by kernel_rfl) ?_
  try simp only [Act.put, List.setIfInBounds_toArray, List.set_cons_zero, List.set_cons_succ]
  generalize W3.drew = W4 at HX ⊢
  refine reg_take (v := ?_) 0 (some 12) rfl rfl (by kernel_rfl) (by kernel_rfl) (by kernel_rfl) (fun _ _ _ h => h) (by rfl) (fun W hW => ?_) ?_
  rotate_left
  · (go_simp; try rfl)
  simp only [Act.put, List.setIfInBounds_toArray, List.set_cons_zero, List.set_cons_succ]
  refine reg_take (v := ?_) 1 (some 13) rfl rfl (by kernel_rfl) (by kernel_rfl) (by kernel_rfl) (fun _ _ _ h => h) (by rfl) (fun W hW => ?_) ?_
  rotate_left
  · (go_simp; try rfl)
  simp only [Act.put, List.setIfInBounds_toArray, List.set_cons_zero, List.set_cons_succ]
  refine reg_take (v := ?_) 2 (some 14) rfl rfl (by kernel_rfl) (by kernel_rfl) (by kernel_rfl) (fun _ _ _ h => h) (by rfl) (fun W hW => ?_) ?_
  rotate_left
  · (go_simp; try rfl)
  simp only [Act.put, List.setIfInBounds_toArray, List.set_cons_zero, List.set_cons_succ]
  refine reg_take (v := ?_) 3 (some 15) rfl rfl (by kernel_rfl) (by kernel_rfl) (by kernel_rfl) (fun _ _ _ h => h) (by rfl) (fun W hW => ?_) ?_
  rotate_left
  · (go_simp; try rfl)
  simp only [Act.put, List.setIfInBounds_toArray, List.set_cons_zero, List.set_cons_succ]
  refine reg_take (v := ?_) 4 (some 16) rfl rfl (by kernel_rfl) (by kernel_rfl) (by kernel_rfl) (fun _ _ _ h => h) (by rfl) (fun W hW => ?_) ?_
  rotate_left
  · exact exec_build rfl (by simp only [List.map_toArray, List.map_cons, List.map_nil]; exact BD.out W)
  simp only [Act.put, List.setIfInBounds_toArray, List.set_cons_zero, List.set_cons_succ]
  refine reg_take (v := ?_) 8 (some 20) rfl rfl (by kernel_rfl) (by kernel_rfl) (by kernel_rfl) (fun _ _ _ h => h) (by rfl) (fun W hW => ?_) ?_
  rotate_left
  · (go_simp; try rfl)
  simp only [Act.put, List.setIfInBounds_toArray, List.set_cons_zero, List.set_cons_succ]
  refine reg_conv 9 (some 21) (fun W hW => conv_string W (some ⟨g3, 0, none⟩) 16 16 EB HEL.out (S3.out.extk (HX.out.trans hW))) rfl rfl rfl rfl (by kernel_rfl) (by kernel_rfl) (by kernel_rfl) (fun _ _ _ h => h) (by rfl) ?_
  simp only [Act.put, List.setIfInBounds_toArray, List.set_cons_zero, List.set_cons_succ]
  refine reg_eff 5 rfl (by kernel_rfl) (fun K hK => ?_)
  go_simp
  have hE : Ext W4 (W4.alloc (.cells (Z0.map bv).toArray 5)) := (Below.refl _ _).alloc (Nat.le_refl _) _
  have S5 := Lib.hid (S0.out W4)
  refine hK.out _ _ hE ?_
  have HX := Lib.hid (Ext.trans HX.out hE)
  clear hE hK K
  try simp only [Act.put, List.setIfInBounds_toArray, List.set_cons_zero, List.set_cons_succ]
  refine reg_eff 6 rfl (by kernel_rfl) (fun K hK => ?_)
  go_simp
  refine (HCR.out (some ⟨W4.heap.size, 0, none⟩) _ (X3.out.step HX.out) S5.out).mono ?_
  rintro e w5 ⟨v5, rfl, hO5, hE⟩
  obtain ⟨A5, c5, rfl, hl5, hc5, hm5, hr5⟩ := own_read hO5
  have S6 : Hid (Sl w5 A5 c5 EB) := ⟨by omega, hm5, hr5⟩
  clear hO5 hl5 hc5 hm5 hr5
  refine hK.out _ _ hE ?_
  have HX := Lib.hid (Ext.trans HX.out hE)
  clear hE hK K
  try simp only [Act.put, List.setIfInBounds_toArray, List.set_cons_zero, List.set_cons_succ]
  refine reg_conv 7 (some 19) (fun W hW => conv_string W A5 16 c5 EB HEL.out (S6.out.extk hW)) rfl rfl rfl rfl (by kernel_rfl) (by kernel_rfl) (by kernel_rfl) (fun _ _ _ h => h) (by rfl) ?_
  simp only [Act.put, List.setIfInBounds_toArray, List.set_cons_zero, List.set_cons_succ]
  refine reg_take (v := ?_) 10 (some 22) rfl rfl (by kernel_rfl) (by kernel_rfl) (by kernel_rfl) (fun _ _ _ h => h) (by rfl) (fun W hW => ?_) ?_
  rotate_left
  · (go_simp; try rfl)
  simp only [Act.put, List.setIfInBounds_toArray, List.set_cons_zero, List.set_cons_succ]
  refine reg_take (v := ?_) 11 (some 23) rfl rfl (by kernel_rfl) (by kernel_rfl) (by kernel_rfl) (fun _ _ _ h => h) (by rfl) (fun W hW => ?_) ?_
  rotate_left
  · (go_simp; try rfl)
  simp only [Act.put, List.setIfInBounds_toArray, List.set_cons_zero, List.set_cons_succ]
  refine reg_take (v := ?_) 12 (some 0) rfl rfl (by kernel_rfl) (by kernel_rfl) (by kernel_rfl) (fun _ _ _ h => h) (by rfl) (fun W hW => ?_) ?_
  rotate_left
  · (go_simp; try rfl)
  simp only [Act.put, List.setIfInBounds_toArray, List.set_cons_zero, List.set_cons_succ]
  refine reg_done (by kernel_rfl) ?_
  go_wp2
  go_ret
  exact ⟨rfl, B1.out.step (X3.out.step HX.out)⟩
end Go.Proofs.Ytjmpbcfbfbjenaa

/- Contracts of the document's own answers for layer 1: Little, Big, PutLittle, PutBig. -/
namespace Go.Proofs.Ytjmpbcfbfbjenaa
open Go.RowKit
set_option maxRecDepth 100000
set_option linter.unusedVariables false
set_option linter.unusedSimpArgs false

theorem ref_step (U N x : Nat) (hU : U * x < 18446744073709551616) (hN : N + U * x < 18446744073709551616) :
    ∃ V M U' : Nat, IntKind.u64.wrap ((U : Int) * (x : Int)) = (V : Int) ∧ IntKind.u64.wrap ((N : Int) + (V : Int)) = (M : Int) ∧ IntKind.u64.wrap ((U : Int) * 256) = (U' : Int) ∧ M = N + U * x ∧ U' = U * 256 % 18446744073709551616 := by
  refine ⟨U * x, N + U * x, U * 256 % 18446744073709551616, ?_, ?_, ?_, rfl, rfl⟩
  · rw [IntKind.wrap_u64, ← Int.natCast_mul]; omega
  · rw [IntKind.wrap_u64]; omega
  · rw [IntKind.wrap_u64]; omega
theorem pow_lt8 (k : Nat) (hk : k < 8) : 256 ^ (k + 1) ≤ 18446744073709551616 := by
  have h : (256 : Nat) ^ 8 = 18446744073709551616 := by decide
  rw [← h]; exact Nat.pow_le_pow_right (by decide) (by omega)
theorem unit_step (k : Nat) (hk : k < 8) : 256 ^ k % 18446744073709551616 = 256 ^ k := by
  have := pow_lt8 k hk
  rw [Nat.pow_succ] at this
  have hp : 0 < 256 ^ k := Nat.pow_pos (by decide)
  exact Nat.mod_eq_of_lt (by omega)

theorem bigN_cons (x : UInt8) (l : List UInt8) : bigN (x :: l) = x.toNat * 256 ^ l.length + bigN l := by
  have := bigN_append [x] l
  simpa [bigN] using this
/-- the last j bytes -/
def lastL (bs : List UInt8) (j : Nat) : List UInt8 := bs.drop (bs.length - j)
theorem lastL_succ (bs : List UInt8) (j : Nat) (h : j < bs.length) : lastL bs (j + 1) = bs[bs.length - 1 - j] :: lastL bs j := by
  unfold lastL
  rw [List.drop_eq_getElem_cons (by omega)]
  simp only [show bs.length - (j + 1) + 1 = bs.length - j by omega, show bs.length - (j + 1) = bs.length - 1 - j by omega]
  rw [show bs.length - 1 - j + 1 = bs.length - j by omega]
theorem lastL_len (bs : List UInt8) (j : Nat) (h : j ≤ bs.length) : (lastL bs j).length = j := by simp [lastL]; omega

theorem refPutLittle_any (x many : Nat) (w : World) (hx : x < 18446744073709551616) (hm : many ≤ 2147483647) :
    Calls Try.prog 96 #[.int .u64 (x : Int), .int .i64 (many : Int)] w fun e w' => ∃ v, e = .returned v ∧ w'.ownsRow w.heap.size 5 1 v many ((putLittle x many).map bv) ∧ Below w.heap.size w w' := by
  have HX := Lib.hid hx
  clear hx
  go_enter Try.func96, Try.ntmps96
  go_wp2_with fail
  go_loopw [0, 5, 6] (fun xv ov iv wr => ∃ (k : Nat), k ≤ many ∧ iv = .int .i64 k ∧ xv = .int .u64 ((x / 256 ^ k : Nat) : Int) ∧ Hid (wr.ownsRow w.heap.size 5 1 ov k ((putLittle x k).map bv)) ∧ Hid (Below w.heap.size w wr)) (fun _ _ i _ => many - (intOf i).toNat)
  case atStart => exact ⟨0, by omega, rfl, by simp, World.ownsRow_nil w _ _ _, Below.refl _ _⟩
  case round =>
    obtain ⟨k, hk, rfl, rfl, HO, HB⟩ := hrel
    by_cases hlt : k < many
    · have hz : ((x / 256 ^ k : Nat) : Int) % 256 = ((byteAt x k).toNat : Int) := by rw [byteAt, UInt8.toNat_ofNat']; omega
      have hy0 : x / 256 ^ k < 18446744073709551616 := Nat.lt_of_le_of_lt (Nat.div_le_self _ _) HX.out
      have HP : Hid (IntKind.u64.wrap (((x / 256 ^ k : Nat) : Int) / 256) = ((x / 256 ^ (k + 1) : Nat) : Int)) := by
        show _ = _
        rw [Nat.pow_succ, ← Nat.div_div_eq_div_mul, IntKind.wrap_u64]
        generalize x / 256 ^ k = y at hy0 ⊢
        omega
      clear hy0
      have hpl : putLittle x (k + 1) = putLittle x k ++ [byteAt x k] := by simp [putLittle, List.range_succ]
      have HPL := Lib.hid hpl
      clear hpl
      have hy : x / 256 ^ k < 18446744073709551616 := Nat.lt_of_le_of_lt (Nat.div_le_self _ _) HX.out
      generalize byteAt x k = z at hz HPL
      generalize x / 256 ^ k = y at hz HP hy ⊢
      have hzb : z.toNat < 256 := z.toNat_lt
      have HY := Lib.hid hy
      clear hy
      go_wp2_with (
        at_builtin
        refine wpList_app8 rfl (.tmp 12) (.tmp 16) rfl w.heap.size _ k (putLittle x k) rfl ?_ _ 1 1 (wr.heap.size + 1) [z] rfl ?_ ?_ ?_ ?_ ?_
        · exact HO.out.alloc _
        · exact row_of_heap (heap_alloc_new' wr _) (Nat.lt_succ_self _)
        · rfl
        · omega
        · exact Nat.le_trans HB.out.size (by simp)
        rintro v' w' hown hgr
        have HO' := Lib.hid hown
        have HB' : Hid (Below w.heap.size w w') := (HB.out.alloc HB.out.size _).grown hgr (Nat.le_trans HB.out.size (by simp)) (fun g hg => (HO.out.lt g hg).1)
        clear hown hgr)
      go_roundw
      case rel => exact ⟨k + 1, by omega, by go_num, by rw [HP.out], by rw [HPL.out]; exact HO', HB'⟩
      case measure => simp [intOf]; omega
    · go_wp2
      go_ret
      have : k = many := by omega
      subst this
      exact ⟨_, rfl, HO.out, HB.out⟩

theorem refPutLittle_neg (x : Nat) (many : Int) (w : World) (hm : many < 0) :
    Calls Try.prog 96 #[.int .u64 (x : Int), .int .i64 many] w fun e w' => e = .returned (.slice none 0 0) ∧ w = w' := by
  have hl : ¬ (0 < many) := by omega
  go_enter Try.func96, Try.ntmps96
  go_wp2_with fail
  refine wp_loop_once ?_
  go_wp2
  go_ret
  exact ⟨rfl, rfl⟩

theorem lastPut (x many j : Nat) (h : j < many) : putBig x many = (putLittle x many).reverse := putBig_rev x many

theorem refPutBig_any (x many : Nat) (w : World) (hx : x < 18446744073709551616) (hm : many ≤ 2147483647) :
    Calls Try.prog 68 #[.int .u64 (x : Int), .int .i64 (many : Int)] w fun e w' => ∃ v, e = .returned v ∧ w'.ownsRow w.heap.size 5 1 v many ((putBig x many).map bv) ∧ Below w.heap.size w w' := by
  have HX := Lib.hid hx
  clear hx
  go_enter Try.func68, Try.ntmps68
  go_wp2_with fail
  refine (refPutLittle_any x many w HX.out hm).mono ?_
  rintro e w1 ⟨v, rfl, hO, hB⟩
  obtain ⟨A, c, rfl, hl, h1, h2, hr⟩ := own_read hO
  have HL := Lib.hid hl
  have HR := Lib.hid hr
  have HB1 := Lib.hid hB
  clear hl hr hB hO h2 h1
  go_wp2_with fail
  go_loopw [6, 7] (fun ov iv wr => ∃ (k : Nat), k ≤ many ∧ iv = .int .i64 ((many : Int) - 1 - k) ∧ Hid (wr.ownsRow w1.heap.size 5 1 ov k (((putLittle x many).reverse.take k).map bv)) ∧ Hid (Below w1.heap.size w1 wr)) (fun _ i _ => (intOf i + 1).toNat)
  case atStart => exact ⟨0, by omega, by simp, by simpa [Hid] using World.ownsRow_nil w1 w1.heap.size 5 1, Below.refl _ _⟩
  case round =>
    obtain ⟨k, hk, rfl, HO, HB⟩ := hrel
    by_cases hlt : k < many
    · have t1 : (0 : Int) ≤ (many : Int) - 1 - k := by omega
      have t3 : ((many : Int) - 1 - k).toNat = many - 1 - k := by omega
      have t4 : (many : Int) - 1 - k < many := by omega
      obtain ⟨b, o, rfl, hbl, r⟩ := HR.out.at_ (by have := HL.out; simp; omega)
      have kb : many - 1 - k < (putLittle x many).length := by have := HL.out; omega
      have hc : wr.cell? ⟨b, o + (many - 1 - k), none⟩ = some (.int .u8 ((putLittle x many)[many - 1 - k].toNat : Int)) := by
        rw [HB.out.cell hbl]; exact r _ _ (by simp [kb, bv])
      have hsn : (putLittle x many).reverse.take (k + 1) = (putLittle x many).reverse.take k ++ [(putLittle x many)[many - 1 - k]] := by
        rw [List.take_succ_eq_append_getElem (by rw [List.length_reverse, HL.out]; exact hlt)]
        congr 2
        rw [List.getElem_reverse]
        simp only [HL.out]
      have HS := Lib.hid hsn
      clear hsn r
      generalize (putLittle x many)[many - 1 - k] = z at hc HS
      have hzb : z.toNat < 256 := z.toNat_lt
      clear kb
      go_wp2_with (
        at_builtin
        refine wpList_app8 rfl (.tmp 18) (.tmp 23) rfl w1.heap.size _ k ((putLittle x many).reverse.take k) rfl ?_ _ 1 1 (wr.heap.size + 1) [z] rfl ?_ ?_ ?_ ?_ ?_
        · exact HO.out.alloc _
        · exact row_of_heap (heap_alloc_new' wr _) (Nat.lt_succ_self _)
        · rfl
        · omega
        · exact Nat.le_trans HB.out.size (by simp)
        rintro v' w' hown hgr
        have HO' := Lib.hid hown
        have HB' : Hid (Below w1.heap.size w1 w') := (HB.out.alloc HB.out.size _).grown hgr (Nat.le_trans HB.out.size (by simp)) (fun g hg => (HO.out.lt g hg).1)
        clear hown hgr)
      go_roundw
      case rel => exact ⟨k + 1, by omega, by congr 1; omega, by rw [HS.out]; exact HO', HB'⟩
      case measure => simp [intOf]; omega
    · have t1 : ¬ ((0 : Int) ≤ (many : Int) - 1 - k) := by omega
      go_wp2
      go_ret
      have : k = many := by omega
      subst this
      have hO := HO.out
      rw [List.take_of_length_le (by simp [HL.out]), ← putBig_rev] at hO
      obtain ⟨h0, hO | ⟨g, cap, cur, hv, hg, rr⟩⟩ := hO
      · exact ⟨_, rfl, ⟨h0, .inl hO⟩, HB1.out.step HB.out⟩
      · exact ⟨_, rfl, ⟨h0, .inr ⟨g, cap, cur, hv, Nat.le_trans HB1.out.size hg, rr⟩⟩, HB1.out.step HB.out⟩
theorem refPutBig_neg (x : Nat) (many : Int) (w : World) (hm : many < 0) :
    Calls Try.prog 68 #[.int .u64 (x : Int), .int .i64 many] w fun e w' => e = .returned (.slice none 0 0) ∧ w = w' := by
  go_enter Try.func68, Try.ntmps68
  go_wp2_with fail
  refine (refPutLittle_neg x many w hm).mono ?_
  rintro e w1 ⟨rfl, rfl⟩
  go_wp2_with fail
  refine wp_loop_once ?_
  go_wp2
  go_ret
  exact ⟨rfl, rfl⟩
end Go.Proofs.Ytjmpbcfbfbjenaa