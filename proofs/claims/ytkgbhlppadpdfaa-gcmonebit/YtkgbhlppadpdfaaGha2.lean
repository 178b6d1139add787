/- Package ghash: Mul. -/
import Derived.Test.YtkgbhlppadpdfaaGha1
namespace Go.Proofs.Ytkgbhlppadpdfaa
open Go.RowKit
set_option maxRecDepth 100000
set_option linter.unusedVariables false
set_option linter.unusedSimpArgs false
/-- the product of two blocks -/
def gmulL (a b : List UInt8) : List UInt8 := blkL (mulV (bigN a) (bigN b))
theorem gmulL_len (a b : List UInt8) : (gmulL a b).length = 16 := blkL_len _
theorem big16_lt (a : List UInt8) (h : a.length = 16) : bigN a < 2 ^ 128 := by
  have := bigN_lt a
  rw [h] at this
  exact Nat.lt_of_lt_of_eq this (by decide)
theorem bigN_blk (n : Nat) (h : n < 2 ^ 128) : bigN (blkL n) = n := by
  rw [blkL, bigN_put, Nat.mod_eq_of_lt (Nat.lt_of_lt_of_eq h (by decide))]
theorem blk_big (a : List UInt8) (h : a.length = 16) : blkL (bigN a) = a := by
  have := putBig_big a
  rwa [h] at this
theorem byte_bit (n k j : Nat) (hj : j < 8) : (byteAt n k).toNat.testBit j = n.testBit (8 * k + j) := by
  rw [byteAt, UInt8.toNat_ofNat', pow256, show (2 : Nat) ^ 8 = 2 ^ 8 from rfl, Nat.testBit_mod_two_pow, Nat.testBit_div_two_pow]
  simp [hj, Nat.add_comm]
theorem bit_byte (a : List UInt8) (h : a.length = 16) (i : Nat) (hi : i < 128) : bitV (bigN a) i = (a.getD (i / 8) 0).toNat.testBit (7 - i % 8) := by
  have e : a.getD (i / 8) 0 = byteAt (bigN a) (15 - i / 8) := by
    have hb := blk_big a h
    have hk : i / 8 < 16 := by omega
    have : (blkL (bigN a)).getD (i / 8) 0 = byteAt (bigN a) (15 - i / 8) := by
      simp [blkL, putBig, List.getD, hk]
    rwa [hb] at this
  rw [e, byte_bit _ _ _ (by omega), bitV]
  congr 1; omega
theorem and1b (x k : Nat) (hx : x < 256) : bits .and .u8 ((x / 2 ^ k : Nat) : Int) 1 = ((x / 2 ^ k % 2 : Nat) : Int) := by
  have hlt : x / 2 ^ k < 256 := Nat.lt_of_le_of_lt (Nat.div_le_self _ _) hx
  have h := u8_and_nat (x / 2 ^ k) 1 hlt (by decide)
  rw [show x / 2 ^ k &&& 1 = x / 2 ^ k % 2 from Nat.and_two_pow_sub_one_eq_mod _ 1] at h
  exact h
theorem bit_num (x k : Nat) : x.testBit k = decide (x / 2 ^ k % 2 = 1) := Nat.testBit_eq_decide_div_mod_eq
/-- what the loop of Mul reckons in a round -/
theorem mul_cases (a : List UInt8) (h : a.length = 16) (B i : Nat) (hi : i < 128) (hB : B < 2 ^ 128) : ∃ (x : UInt8) (k y b m : Nat) (c : Bool), a.getD (i / 8) 0 = x ∧ k = 7 - i % 8 ∧ k ≤ 7 ∧ (x.toNat : Int) / 2 ^ k = (y : Int) ∧ bits .and .u8 (y : Int) 1 = (b : Int) ∧ b < 2 ∧ IntKind.u64.wrap (-(b : Int)) = (m : Int) ∧
    bitV (bigN a) i = c ∧ (∀ z : Nat, z < 18446744073709551616 → bits .and .u64 (z : Int) (m : Int) = ((sel c z : Nat) : Int)) := by
  refine ⟨a.getD (i / 8) 0, 7 - i % 8, (a.getD (i / 8) 0).toNat / 2 ^ (7 - i % 8), (a.getD (i / 8) 0).toNat / 2 ^ (7 - i % 8) % 2, sel (bitV (bigN a) i) 18446744073709551615, _, rfl, rfl, by omega, by simp, and1b _ _ (a.getD (i / 8) 0).toNat_lt, Nat.mod_lt _ (by decide), ?_, rfl, fun z hz => mask_and _ _ hz⟩
  rw [neg1 _ (Nat.mod_lt _ (by decide)), bit_byte a h i hi, bit_num]
theorem sum_hi (s p : Nat) (c : Bool) (hs : s < 2 ^ 128) (hp : p < 2 ^ 128) : bits .xor .u64 ((hiV s : Nat) : Int) ((sel c (hiV p) : Nat) : Int) = ((hiV (s ^^^ sel c p) : Nat) : Int) := by
  rw [u64_xor_nat _ _ (hiV_lt s hs) (sel_lt c (hiV_lt p hp)), hiV_xor]
  cases c <;> simp [sel, hiV]
theorem sum_lo (s p : Nat) (c : Bool) : bits .xor .u64 ((loV s : Nat) : Int) ((sel c (loV p) : Nat) : Int) = ((loV (s ^^^ sel c p) : Nat) : Int) := by
  rw [u64_xor_nat _ _ (loV_lt s) (sel_lt c (loV_lt p)), loV_xor]
  cases c <;> simp [sel, loV]
theorem row_of_words (a : List UInt8) (h : a.length = 16) : big (a.take 8) = hiV (bigN a) ∧ big (a.drop 8) = loV (bigN a) := by
  have e1 : big (a.take 8) = bigN (a.take 8) := by unfold big; rw [show (a.take 8).length - 8 = 0 by simp [h]]; rfl
  have e2 : big (a.drop 8) = bigN (a.drop 8) := by unfold big; rw [show (a.drop 8).length - 8 = 0 by simp [h]]; rfl
  have e := bigN_append (a.take 8) (a.drop 8)
  rw [List.take_append_drop, show (a.drop 8).length = 8 by simp [h]] at e
  have h8 : (256 : Nat) ^ 8 = 18446744073709551616 := by decide
  have hl := bigN_lt8 (a.drop 8) (by simp [h])
  rw [h8] at e
  rw [e1, e2, e]
  unfold hiV loV
  constructor <;> omega
theorem step_val {P : Program} {w w' : World} {ops : Array Oper} {o : Oper} {a : Act} {K : Act → World → Prop} {Q : Exit → Act → World → Prop} {E : Prop} (hg : o.guard = none) {v : Value}
    (hrun : (execOp a.eval o).run P w = .ok (.value v) w') (h : K (a.put o.dst v) w') : if Region.wanted o (yielded ops a.tmps) = true then Oper.wp P o a w K Q else E := by
  have hw : Region.wanted o (yielded ops a.tmps) = true := by simp [Region.wanted, hg]
  rw [if_pos hw]
  unfold Oper.wp
  simp only [hrun]
  exact h
/-- what holds in the region that makes b's words, whichever operations have come up -/
structure MJ (q : Nat) (R : List Nat) (W0 : World) (L : Nat → Bool) (v6 v9 v10 v11 v12 v13 : Value) (W : World) : Prop where
  b : Below W0.heap.size W0 W
  f0 : L 0 = true → v9 = .slice (some ⟨q + 1, 0, none⟩) 8 16
  f1 : L 1 = true → v10 = .int .u64 ((R.getD 0 0 : Nat) : Int)
  f2 : L 2 = true → v11 = .slice (some ⟨q + 1, 8, none⟩) 8 8
  f3 : L 3 = true → v12 = .int .u64 ((R.getD 1 0 : Nat) : Int)
  f4 : L 4 = true → v13 = .agg (R.map uv).toArray
  f5 : L 5 = true → ∃ (g : Nat) (Y : List Value), v6 = .pointer (some ⟨g, 0, none⟩) ∧ W0.heap.size ≤ g ∧ W.heap[g]? = some (.cells Y.toArray 92 (0, 0)) ∧ Y.length = 2 ∧ (L 6 = true → Y = R.map uv)
  d6 : L 6 = true → L 5 = true
theorem MJ.ext {q : Nat} {R : List Nat} {W0 : World} {L : Nat → Bool} {v6 v9 v10 v11 v12 v13 : Value} {W W' : World} (h : MJ q R W0 L v6 v9 v10 v11 v12 v13 W) (hE : Ext W W') : MJ q R W0 L v6 v9 v10 v11 v12 v13 W' :=
  ⟨h.b.trans (hE.mono h.b.size), h.f0, h.f1, h.f2, h.f3, h.f4, fun a => by
    obtain ⟨g, Y, h1, h2, h3, h4⟩ := h.f5 a
    exact ⟨g, Y, h1, h2, (hE.block _ (lt_of_heap h3)).trans h3, h4⟩, h.d6⟩
def mkM (q : Nat) (v0 v1 v6 v9 v10 v11 v12 v13 : Value) : Act := { tmps := #[v0, v1, .pointer (some ⟨q, 0, none⟩), .pointer (some ⟨q + 1, 0, none⟩), .pointer (some ⟨q + 2, 0, none⟩), .pointer (some ⟨q + 3, 0, none⟩), v6, undef, undef, v9, v10, v11, v12, v13, undef, undef, undef, undef, undef, undef, undef, undef, undef, undef, undef, undef, undef, undef, undef, undef, undef, undef, undef, undef, undef, undef, undef, undef, undef, undef, undef, undef, undef, undef, undef, undef, undef, undef, undef, undef], defers := [] }
set_option maxHeartbeats 4000000 in
theorem gmul_any (a b : List UInt8) (w : World) (ha : a.length = 16) (hb : b.length = 16) :
    Calls Try.prog 72 #[.agg (a.map bv).toArray, .agg (b.map bv).toArray] w fun e w' => e = .returned (.agg ((gmulL a b).map bv).toArray) ∧ Below w.heap.size w w' := by
  have HA := Lib.hid ha; have HBL := Lib.hid hb
  have hz : ∀ W, (zeroValue 92).run Try.prog W = .ok (.agg ((rowL 0).map uv).toArray) W := fun W => by kernel_rfl
  have hz16 : ∀ W, (zeroValue 33).run Try.prog W = .ok (.agg zer16.toArray) W := fun W => by kernel_rfl
  have hlz : Hid (zer16.length = 16) := rfl
  obtain ⟨hhi, hlo⟩ := row_of_words b hb
  have HHI := Lib.hid hhi; have HLO := Lib.hid hlo
  clear ha hb hhi hlo
  obtain ⟨Z0, HZ0⟩ : ∃ Z, Hid (rowL 0 = Z) := ⟨_, rfl⟩
  rw [HZ0.out] at hz
  generalize zer16 = Z at hz16 hlz
  obtain ⟨q, HQ⟩ : ∃ q, Hid (w.heap.size = q) := ⟨_, rfl⟩
  have G := Lib.hid (heap4 w (.cells (a.map bv).toArray 33) (.cells (b.map bv).toArray 33) (.cells Z.toArray 33) (.cells (Z0.map uv).toArray 92) _ rfl)
  go_enter Try.func72, Try.ntmps72
  go_upto_region 2 with (fail)
  generalize hV : (((w.alloc _).alloc _).alloc _).alloc _ = W0 at G ⊢
  clear hV hz16
  have G1 := G.out.2.1
  have GS : Hid (w.heap.size + 3 < W0.heap.size) := lt_of_heap G.out.2.2.2.1
  rw [HQ.out] at G1 GS G ⊢
  have sl0 := arr_to arr16B s8 ⟨q + 1, 0, none⟩ .i64 8 (by decide) (by decide)
  have sl1 := arr_from arr16B s8 ⟨q + 1, 0, none⟩ .i64 8 (by decide) (by decide)
  rw [show (8 : Int).toNat = 8 from rfl] at sl0 sl1
  rw [show cutA ⟨q + 1, 0, none⟩ 16 8 = ⟨q + 1, 8, none⟩ from by unfold cutA; rw [if_neg (by decide), Addr.add_mid, Nat.zero_add], show 16 - 8 = 8 from rfl] at sl1
  obtain ⟨B, hBN⟩ : ∃ B, B = bigN b := ⟨_, rfl⟩
  have hBlt : Hid (B < 2 ^ 128) := by show _ < _; rw [hBN]; exact big16_lt b HBL.out
  have hbd : Hid (∀ W, (Instr.build 92 #[(0, .int .u64 ((hiV B : Nat) : Int)), (1, .int .u64 ((loV B : Nat) : Int))]).run Try.prog W = .ok (.agg ((rowL B).map uv).toArray) W) := fun W => by kernel_rfl
  have HBN := Lib.hid hBN
  rw [← hBN] at HHI HLO
  clear hBN
  have HG1 := Lib.hid G1
  clear G1
  refine reg_inv (fun L a' W => ∃ v6 v9 v10 v11 v12 v13, a' = mkM q (.agg (a.map bv).toArray) (.agg (b.map bv).toArray) v6 v9 v10 v11 v12 v13 ∧ MJ q (rowL B) W0 L v6 v9 v10 v11 v12 v13 W) (by kernel_rfl) (by kernel_rfl) ?_
    (And.intro ?_ (And.intro ?_ (And.intro ?_ (And.intro ?_ (And.intro ?_ (And.intro ?_ (And.intro ?_ trivial))))))) ?_
  · intro L hL
    have hL' : ∀ j, j < 7 → L j = false := hL
    have no : ∀ j, j < 7 → L j = true → False := fun j hj h => by rw [hL' j hj] at h; cases h
    exact ⟨_, _, _, _, _, _, rfl, ⟨(Below.refl _ _).drew, fun h => (no 0 (by decide) h).elim, fun h => (no 1 (by decide) h).elim, fun h => (no 2 (by decide) h).elim, fun h => (no 3 (by decide) h).elim, fun h => (no 4 (by decide) h).elim, fun h => (no 5 (by decide) h).elim, fun h => (no 6 (by decide) h).elim⟩⟩
  · rintro L a' W ⟨v6, v9, v10, v11, v12, v13, rfl, H⟩ hLi hd K0 hK
    simp only [mkM]
    go_simp
    exact hK.out _ _ ⟨v6, _, v10, v11, v12, v13, rfl, ⟨H.b, fun _ => rfl, fun h => H.f1 h, fun h => H.f2 h, fun h => H.f3 h, fun h => H.f4 h, fun h => H.f5 h, fun h => H.d6 h⟩⟩
  · rintro L a' W ⟨v6, v9, v10, v11, v12, v13, rfl, H⟩ hLi hd K0 hK
    obtain rfl := H.f0 (hd ⟨0, .data⟩ (by simp) rfl)
    have hg1 : W.heap[q + 1]? = _ := (H.b.block _ (lt_of_heap HG1.out)).trans HG1.out
    have hr := row_sub hg1 0 8 (lt_of_heap hg1)
    rw [List.drop_zero] at hr
    simp only [mkM]
    go_simp
    refine (big_n (some ⟨q + 1, 0, none⟩) 8 16 (b.take 8) W (by rw [List.length_take, HBL.out]; rfl) (by decide) (by simp [maxLen]) hr).mono ?_
    rintro e W' ⟨rfl, hb⟩
    exact hK.out _ _ ⟨v6, _, _, v11, v12, v13, rfl, ⟨(H.ext hb).b, fun h => rfl, fun _ => by rw [HHI.out]; rfl, fun h => H.f2 h, fun h => H.f3 h, fun h => H.f4 h, fun h => (H.ext hb).f5 h, fun h => H.d6 h⟩⟩
  · rintro L a' W ⟨v6, v9, v10, v11, v12, v13, rfl, H⟩ hLi hd K0 hK
    simp only [mkM]
    go_simp
    exact hK.out _ _ ⟨v6, v9, v10, _, v12, v13, rfl, ⟨H.b, fun h => H.f0 h, fun h => H.f1 h, fun _ => rfl, fun h => H.f3 h, fun h => H.f4 h, fun h => H.f5 h, fun h => H.d6 h⟩⟩
  · rintro L a' W ⟨v6, v9, v10, v11, v12, v13, rfl, H⟩ hLi hd K0 hK
    obtain rfl := H.f2 (hd ⟨2, .data⟩ (by simp) rfl)
    have hg1 : W.heap[q + 1]? = _ := (H.b.block _ (lt_of_heap HG1.out)).trans HG1.out
    have hr := row_sub hg1 8 8 (lt_of_heap hg1)
    rw [List.take_of_length_le (by rw [List.length_drop, HBL.out]; decide)] at hr
    simp only [mkM]
    go_simp
    refine (big_n (some ⟨q + 1, 8, none⟩) 8 8 (b.drop 8) W (by rw [List.length_drop, HBL.out]) (by decide) (by simp [maxLen]) hr).mono ?_
    rintro e W' ⟨rfl, hb⟩
    exact hK.out _ _ ⟨v6, v9, v10, _, _, v13, rfl, ⟨(H.ext hb).b, fun h => H.f0 h, fun h => H.f1 h, fun h => rfl, fun _ => by rw [HLO.out]; rfl, fun h => H.f4 h, fun h => (H.ext hb).f5 h, fun h => H.d6 h⟩⟩
  · rintro L a' W ⟨v6, v9, v10, v11, v12, v13, rfl, H⟩ hLi hd K0 hK
    obtain rfl := H.f1 (hd ⟨1, .data⟩ (by simp) rfl)
    obtain rfl := H.f3 (hd ⟨3, .data⟩ (by simp) rfl)
    refine step_val rfl (v := .agg ((rowL B).map uv).toArray) (w' := W) (exec_bld rfl (by simp only [List.map_toArray, List.map_cons, List.map_nil]; exact hbd.out W)) ?_
    exact hK.out _ _ ⟨v6, v9, _, v11, _, _, rfl, ⟨H.b, fun h => H.f0 h, fun h => rfl, fun h => H.f2 h, fun h => rfl, fun _ => rfl, fun h => H.f5 h, fun h => H.d6 h⟩⟩
  · rintro L a' W ⟨v6, v9, v10, v11, v12, v13, rfl, H⟩ hLi hd K0 hK
    simp only [mkM]
    go_simp
    refine hK.out _ _ ⟨_, v9, v10, v11, v12, v13, rfl, ⟨(H.ext ((Below.refl _ W).alloc (Nat.le_refl _) _)).b, fun h => H.f0 h, fun h => H.f1 h, fun h => H.f2 h, fun h => H.f3 h, fun h => H.f4 h, fun _ => ⟨W.heap.size, Z0.map uv, rfl, H.b.size, heap_alloc_new' W _, by rw [List.length_map, ← HZ0.out]; rfl, fun h => ?_⟩, fun h => rfl⟩⟩
    have h6 : L 6 = true := h
    rw [H.d6 h6] at hLi; cases hLi
  · rintro L a' W ⟨v6, v9, v10, v11, v12, v13, rfl, H⟩ hLi hd K0 hK
    obtain rfl := H.f4 (hd ⟨4, .data⟩ (by simp) rfl)
    obtain ⟨g, Y, rfl, h2, h3, h4, _⟩ := H.f5 (hd ⟨5, .data⟩ (by simp) rfl)
    refine step_st1 rfl 92 (.tmp 6) (.tmp 13) rfl (store_arr (cs := (rowL B).map uv) (i2l (rowL B) rfl) (uv_one _) h3 (by rw [h4]; rfl)) ?_
    generalize hV : World.setRow _ _ _ = W'
    exact hK.out _ _ ⟨_, v9, v10, v11, v12, _, rfl, ⟨H.b.trans (below_of_setRow hV h2 H.b.size), fun h => H.f0 h, fun h => H.f1 h, fun h => H.f2 h, fun h => H.f3 h, fun h => rfl, fun h => ⟨g, _, rfl, h2, heap_of_setRow hV h3, rfl, fun _ => rfl⟩, fun _ => hd ⟨5, .data⟩ (by simp) rfl⟩⟩
  · rintro L a' W hL ⟨v6, v9, v10, v11, v12, v13, rfl, H⟩
    obtain ⟨g, Y, rfl, hg0, hgY, hY2, hYR⟩ := H.f5 (hL 5)
    obtain rfl := hYR (hL 6)
    have N0 : Hid (W.heap[q]? = some (.cells (a.map bv).toArray 33 (0, 0))) := (H.b.block _ (lt_of_heap G.out.1)).trans G.out.1
    have N2 : Hid (W.heap[q + 2]? = some (.cells Z.toArray 33 (0, 0))) := (H.b.block _ (lt_of_heap G.out.2.2.1)).trans G.out.2.2.1
    have N3 : Hid (W.heap[q + 3]? = some (.cells ((rowL 0).map uv).toArray 92 (0, 0))) := by show _ = _; rw [HZ0.out]; exact (H.b.block _ (lt_of_heap G.out.2.2.2.1)).trans G.out.2.2.2.1
    have NG := Lib.hid hgY
    have NB : Hid (Below w.heap.size w W) := by show Below _ _ _; rw [HQ.out]; exact G.out.2.2.2.2.trans (H.b.mono (by rw [← HQ.out]; exact G.out.2.2.2.2.size))
    have hgq : Hid (q + 3 < g) := Nat.lt_of_lt_of_le GS.out hg0
    clear H hL hYR hgY hg0 hY2 G GS HG1 HZ0 hz sl0 sl1 hbd HHI HLO
    obtain ⟨A, HAN⟩ : ∃ A, Hid (A = bigN a) := ⟨_, rfl⟩
    simp only [mkM]
    go_wp2_with fail
    go_loopw [14] (fun vi wr => ∃ (i : Nat), i ≤ 128 ∧ vi = .int .i64 (i : Int) ∧ Hid (Below w.heap.size w wr) ∧ Hid (wr.heap[q]? = some (.cells (a.map bv).toArray 33 (0, 0))) ∧ Hid (wr.heap[q + 2]? = some (.cells Z.toArray 33 (0, 0))) ∧
      Hid (wr.heap[q + 3]? = some (.cells ((rowL (actN A B i)).map uv).toArray 92 (0, 0))) ∧ Hid (wr.heap[g]? = some (.cells ((rowL (upN B i)).map uv).toArray 92 (0, 0)))) (fun i _ => 128 - (intOf i).toNat)
    case atStart => exact ⟨0, by omega, rfl, NB, N0, N2, N3, NG⟩
    case round =>
      clear NB N0 N2 N3 NG
      obtain ⟨i, hi, rfl, HB, H0, H2, H3, HG⟩ := hrel
      by_cases hlt : i < 128
      · have e1 : (i : Int) < 128 := by omega
        obtain ⟨x, k, y, b0, m, c, hx, hk, hk7, hy, hb0, hb2, hm, hc, hmask⟩ := mul_cases a HA.out B i hlt hBlt.out
        obtain ⟨j, hj⟩ : ∃ j, j = i / 8 := ⟨_, rfl⟩
        have c0 : wr.cell? ⟨q, j, none⟩ = some (.int .u8 (x.toNat : Int)) := by
          rw [cell_of_heap H0.out, List.getElem?_map, ← hx, hj]
          simp [List.getD, HA.out, show i / 8 < 16 by omega, bv]
        have hj16 : (j : Int) < 16 := by omega
        have d1 : (i : Int) / 8 = (j : Int) := by omega
        have d2 : 7 - (i : Int) % 8 = (k : Int) := by omega
        have d3 : IntKind.u64.wrap (b0 : Int) = (b0 : Int) := by rw [IntKind.wrap_u64]; omega
        clear hx hk hj
        go_upto_region 7 with (fail)
        obtain ⟨sm, hsm⟩ : ∃ z, z = actN A B i := ⟨_, rfl⟩
        obtain ⟨pt, hpt⟩ : ∃ z, z = upN B i := ⟨_, rfl⟩
        have hsl : sm < 2 ^ 128 := by rw [hsm]; exact actN_lt _ _ _ hBlt.out
        have hpl : pt < 2 ^ 128 := by rw [hpt]; exact upN_lt _ _ hBlt.out
        have HS' : Hid (rowL (actN A B (i + 1)) = rowL (sm ^^^ sel c pt)) := by show _ = _; rw [hsm, hpt, ← hc, HAN.out]; rfl
        have HP' : Hid (rowL (upN B (i + 1)) = rowL (upV pt)) := by show _ = _; rw [hpt]; rfl
        rw [← hsm] at H3
        rw [← hpt] at HG
        have x0 := sum_hi sm pt c hsl hpl
        have x1 := sum_lo sm pt c
        have t0 := hmask (hiV pt) (hiV_lt pt hpl)
        have t1 := hmask (loV pt) (loV_lt pt)
        have UP := Lib.hid (fun W => up_any pt W hpl)
        have HR' : Hid (rowL (sm ^^^ sel c pt) = [hiV (sm ^^^ sel c pt), loV (sm ^^^ sel c pt)]) := rfl
        have HRs : Hid (rowL sm = [hiV sm, loV sm]) := rfl
        have HRp : Hid (rowL pt = [hiV pt, loV pt]) := rfl
        have HUL : Hid ((rowL (upV pt)).length = 2) := rfl
        clear hsm hpt hsl hpl hmask hc hy hb0 hm d1 d2 d3
        generalize rowL (sm ^^^ sel c pt) = RS' at HR' HS'
        generalize hiV (sm ^^^ sel c pt) = r0 at x0 HR'
        generalize loV (sm ^^^ sel c pt) = r1 at x1 HR'
        generalize rowL sm = RS at HRs H3
        generalize rowL (upV pt) = RU at UP HUL HP'
        generalize rowL pt = RP at HRp HG UP
        generalize hiV sm = s0 at x0 HRs
        generalize loV sm = s1 at x1 HRs
        generalize hiV pt = p0 at x0 t0 HRp
        generalize loV pt = p1 at x1 t1 HRp
        generalize sel c p0 = y0 at x0 t0
        generalize sel c p1 = y1 at x1 t1
        obtain rfl := HRs.out
        obtain rfl := HRp.out
        obtain rfl := HR'.out
        have k0 : wr.cell? ⟨q + 3, 0, none⟩ = some (.int .u64 (s0 : Int)) := ucell H3.out 0 (by simp)
        have k1 : wr.cell? ⟨g, 0, none⟩ = some (.int .u64 (p0 : Int)) := ucell HG.out 0 (by simp)
        have fz := frozen_of_heap H3.out 0
        have hne : g ≠ q + 3 := by have := hgq.out; omega
        go_upto_region 8 with (fail)
        generalize hV : World.setCell _ _ _ = W1
        obtain ⟨m1, m2, m3⟩ := ust_row (B := w.heap.size) hV (by have := HQ.out; omega) H3.out
        have M1 : Hid (W1.heap[q + 3]? = some (.cells (([r0, s1] : List Nat).map uv).toArray 92 (0, 0))) := m1
        have MG : Hid (W1.heap[g]? = _) := (m3 g hne).trans HG.out
        have M0 : Hid (W1.heap[q]? = _) := (m3 q (by omega)).trans H0.out
        have M2 : Hid (W1.heap[q + 2]? = _) := (m3 (q + 2) (by omega)).trans H2.out
        have MB := Lib.hid (HB.out.trans m2)
        clear m1 m2 m3 hV k0 k1 fz H3 HG H0 H2 HB c0 x0 t0
        have k0 : W1.cell? ⟨q + 3, 1, none⟩ = some (.int .u64 (s1 : Int)) := ucell M1.out 1 (by simp)
        have k1 : W1.cell? ⟨g, 1, none⟩ = some (.int .u64 (p1 : Int)) := ucell MG.out 1 (by simp)
        have fz := frozen_of_heap M1.out 1
        go_upto_region 9 with (fail)
        generalize hV : World.setCell _ _ _ = W2
        obtain ⟨m1, m2, m3⟩ := ust_row (B := w.heap.size) hV (by have := HQ.out; omega) M1.out
        have N1 : Hid (W2.heap[q + 3]? = some (.cells (([r0, r1] : List Nat).map uv).toArray 92 (0, 0))) := m1
        have NG : Hid (W2.heap[g]? = _) := (m3 g hne).trans MG.out
        have N0 : Hid (W2.heap[q]? = _) := (m3 q (by omega)).trans M0.out
        have N2 : Hid (W2.heap[q + 2]? = _) := (m3 (q + 2) (by omega)).trans M2.out
        have NB := Lib.hid (MB.out.trans m2)
        clear m1 m2 m3 hV k0 k1 fz M1 MG M0 M2 MB x1 t1
        obtain ⟨RP, HRP⟩ : ∃ R, Hid ([p0, p1] = R) := ⟨_, rfl⟩
        have HRL : Hid (RP.length = 2) := by show _ = _; rw [← HRP.out]; rfl
        rw [HRP.out] at NG UP
        go_wp2_with (first
          | (refine wpList_ld rfl 92 (.tmp 6) rfl (load_arr arr2 rfl (i2l RP HRL.out) NG.out) ?_)
          | (refine (UP.out _).mono ?_
             rintro e W3 ⟨rfl, hb3⟩
             have KG : Hid (W3.heap[g]? = _) := (hb3.block _ (lt_of_heap NG.out)).trans NG.out
             have K1 : Hid (W3.heap[q + 3]? = _) := (hb3.block _ (lt_of_heap N1.out)).trans N1.out
             have K0 : Hid (W3.heap[q]? = _) := (hb3.block _ (lt_of_heap N0.out)).trans N0.out
             have K2 : Hid (W3.heap[q + 2]? = _) := (hb3.block _ (lt_of_heap N2.out)).trans N2.out
             have KB := Lib.hid (NB.out.step hb3)
             clear hb3)
          | (refine wpList_st rfl 92 (.tmp 6) (.tmp 46) rfl (store_arr (cs := RU.map uv) (i2l RU HUL.out) (uv_one _) KG.out (by rw [List.length_map, List.length_map, HRL.out, HUL.out])) ?_
             generalize hV : World.setRow _ _ _ = W4
             have J0 := Lib.hid (heap_of_setRow hV KG.out)
             have J1 := Lib.hid (heap_of_other hV (show q + 3 ≠ g from fun e => hne e.symm) K1.out)
             have J2 := Lib.hid (heap_of_other hV (show q ≠ g by have := hgq.out; omega) K0.out)
             have J3 := Lib.hid (heap_of_other hV (show q + 2 ≠ g by have := hgq.out; omega) K2.out)
             have JB := Lib.hid (KB.out.trans (below_of_setRow hV (by have := hgq.out; have := HQ.out; omega) KB.out.size))
             clear hV))
        go_roundw
        case rel => exact ⟨i + 1, by omega, by go_num, JB, J2, J3, by rw [HS'.out]; exact J1, by rw [HP'.out]; exact J0⟩
        case measure => simp [intOf]; omega
      · have H3' : Hid (wr.heap[q + 3]? = some (.cells ((rowL (mulV A B)).map uv).toArray 92 (0, 0))) := by have := H3.out; rw [show i = 128 by omega] at this; exact this
        have hml := Lib.hid (mulV_lt A B hBlt.out)
        have HML : Hid (gmulL a b = blkL (mulV A B)) := by show _ = _; rw [gmulL, HAN.out, HBN.out]
        generalize mulV A B = M at H3' hml HML
        have FL := Lib.hid (fun W => gflat_any M W hml.out)
        have HLB := Lib.hid (blkL_len M)
        generalize blkL M = ML at FL HLB HML
        have HRL := Lib.hid (rowL_len M)
        generalize rowL M = RM at H3' FL HRL
        have e1 : ¬ ((i : Int) < 128) := by omega
        clear H3 HG
        go_wp2_with (first
          | (refine wpList_ld rfl 92 (.tmp 5) rfl (load_arr arr2 rfl (i2l RM HRL.out) H3'.out) ?_)
          | (refine (FL.out _).mono ?_
             rintro e W3 ⟨rfl, hb3⟩
             have K2 : Hid (W3.heap[q + 2]? = _) := (hb3.block _ (lt_of_heap H2.out)).trans H2.out
             have KB := Lib.hid (HB.out.step hb3)
             clear hb3)
          | (refine wpList_st rfl 33 (.tmp 4) (.tmp 49) rfl (store_arr (cs := ML.map bv) (by rw [List.length_map, HLB.out]; exact i16B) (bv_one _) K2.out (by rw [List.length_map, HLB.out]; exact hlz.out)) ?_
             generalize hV : World.setRow _ _ _ = W4
             have hres := heap_of_setRow hV K2.out
             have JB := Lib.hid (KB.out.trans (below_of_setRow hV (by have := HQ.out; omega) KB.out.size))
             clear hV))
        exact bodyPost_ret (results_cell_row (P := Try.prog) rfl _ _ (q + 2) 33 (ML.map bv).toArray (0, 0) _ rfl hres arr16B rfl (by rw [List.size_toArray, List.length_map, HLB.out]; exact i16B)) rfl ⟨by rw [HML.out], JB.out⟩
end Go.Proofs.Ytkgbhlppadpdfaa
