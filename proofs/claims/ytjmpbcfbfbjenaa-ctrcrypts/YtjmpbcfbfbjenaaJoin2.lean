/- Joined: Ref2 Ref3 Reg3 RefT1 LawsT4 LiftP. -/
import Derived.Test.YtjmpbcfbfbjenaaJoin1
import Derived.Test.YtjmpbcfbfbjenaaCount
import Derived.Test.YtjmpbcfbfbjenaaReg2
import Derived.StillTail
import Derived.Test.YtjmpbcfbfbjenaaRefA8
import Derived.Test.YtjmpbcfbfbjenaaLift
/- Contracts of the document's own Xor, Left, Count. -/
namespace Go.Proofs.Ytjmpbcfbfbjenaa
open Go.RowKit
set_option maxRecDepth 100000
set_option linter.unusedVariables false
set_option linter.unusedSimpArgs false

theorem nat_or_xor (x y : Nat) (hx : x < 256) (hy : y < 256) : x ||| y = (x ^^^ y) + (x &&& y) := by
  have hA : (BitVec.ofNat 16 x).toNat = x := by rw [BitVec.toNat_ofNat]; omega
  have hB : (BitVec.ofNat 16 y).toNat = y := by rw [BitVec.toNat_ofNat]; omega
  generalize BitVec.ofNat 16 x = a at hA
  generalize BitVec.ofNat 16 y = b at hB
  have h1 : (a ^^^ b) &&& (a &&& b) = 0#16 := by
    apply BitVec.eq_of_getLsbD_eq; intro i hi
    simp only [BitVec.getLsbD_and, BitVec.getLsbD_xor, BitVec.getLsbD_zero]
    cases a.getLsbD i <;> cases b.getLsbD i <;> rfl
  have h2 : (a ^^^ b) ||| (a &&& b) = a ||| b := by
    apply BitVec.eq_of_getLsbD_eq; intro i hi
    simp only [BitVec.getLsbD_and, BitVec.getLsbD_xor, BitVec.getLsbD_or]
    cases a.getLsbD i <;> cases b.getLsbD i <;> rfl
  have h3 := congrArg BitVec.toNat ((BitVec.add_eq_or_of_and_eq_zero _ _ h1).trans h2)
  rw [BitVec.toNat_add, BitVec.toNat_xor, BitVec.toNat_and, BitVec.toNat_or, hA, hB] at h3
  have b1 : x ^^^ y < 2 ^ 8 := Nat.xor_lt_two_pow (by omega) (by omega)
  have b2 : x &&& y < 2 ^ 8 := Nat.and_lt_two_pow _ (by omega)
  omega
theorem sub8 (x y : UInt8) : IntKind.u8.wrap (bits .or .u8 (x.toNat : Int) (y.toNat : Int) - bits .and .u8 (x.toNat : Int) (y.toNat : Int)) = ((x ^^^ y).toNat : Int) := by
  have hx := x.toNat_lt
  have hy := y.toNat_lt
  rw [u8_or_nat _ _ hx hy, u8_and_nat _ _ hx hy, UInt8.toNat_xor, IntKind.wrap_u8', nat_or_xor _ _ hx hy]
  have b1 : x.toNat ^^^ y.toNat < 2 ^ 8 := Nat.xor_lt_two_pow (by omega) (by omega)
  omega

theorem rot_one (x : BitVec 32) : (x.toNat * 2 + x.toNat / 2147483648) % 4294967296 = (x.rotateLeft 1).toNat := by
  rw [BitVec.rotateLeft_def]
  have h1 : (x <<< (1 % 32)) &&& (x >>> (32 - 1 % 32)) = 0#32 := by
    apply BitVec.eq_of_getLsbD_eq; intro i hi
    simp only [BitVec.getLsbD_and, BitVec.getLsbD_shiftLeft, BitVec.getLsbD_ushiftRight, BitVec.getLsbD_zero]
    by_cases h0 : i = 0
    · simp [h0]
    · have : x.getLsbD (32 - 1 % 32 + i) = false := BitVec.getLsbD_of_ge _ _ (by omega)
      simp [this]
  rw [← BitVec.add_eq_or_of_and_eq_zero _ _ h1, BitVec.toNat_add, BitVec.toNat_shiftLeft, BitVec.toNat_ushiftRight, Nat.shiftLeft_eq, Nat.shiftRight_eq_div_pow]
  simp only [Nat.reduceMod, Nat.reduceSub, Nat.reducePow, Nat.pow_one]
  omega
theorem rotl_succ (x : BitVec 32) (i : Nat) : rotl x ((i + 1 : Nat) : Int) = (rotl x (i : Int)).rotateLeft 1 := by
  have h := turns_math x (i : Int) 1
  rw [show ((i + 1 : Nat) : Int) = (i : Int) + 1 by omega, ← h]
  rfl
theorem rotl_mod (x : BitVec 32) (n : Int) (k : Nat) (hk : (n % 32) = (k : Int)) : rotl x (k : Int) = rotl x n := by
  unfold rotl; rw [← hk, Int.emod_emod_of_dvd n (by decide)]

theorem tmod32 (n : Int) : (wrap64 (n.tmod 32 + 32)).tmod 32 = (((n % 32).toNat : Nat) : Int) := by
  have h1 : -32 < n.tmod 32 ∧ n.tmod 32 < 32 ∧ (n.tmod 32) % 32 = n % 32 := by
    rw [Int.tmod_eq_emod]
    split <;> omega
  have h2 : wrap64 (n.tmod 32 + 32) = n.tmod 32 + 32 := by unfold wrap64; omega
  rw [h2, Int.tmod_eq_emod_of_nonneg (by omega)]
  omega
theorem mul2_div (x : BitVec 32) : (x.toNat : Int) * 2 % 4294967296 + (x.toNat : Int) / 2147483648 = ((x.rotateLeft 1).toNat : Int) := by
  rw [← rot_one]; have := x.isLt; omega

/-! ### Count -/
def cnt (c d : List UInt8) (j : Nat) : Nat := bigN (lastL c j) + bigN (lastL d j)
def cntRow (c d : List UInt8) (j : Nat) : List UInt8 := c.take (16 - j) ++ putBig (cnt c d j) j
theorem cnt_succ (c d : List UInt8) (j : Nat) (hc : c.length = 16) (hd : d.length = 16) (hj : j < 16) :
    cnt c d (j + 1) = ((c.getD (15 - j) 0).toNat + (d.getD (15 - j) 0).toNat) * 256 ^ j + cnt c d j := by
  unfold cnt
  rw [lastL_succ c j (by omega), lastL_succ d j (by omega), bigN_cons, bigN_cons, lastL_len c j (by omega), lastL_len d j (by omega)]
  have e1 : c[c.length - 1 - j] = c.getD (15 - j) 0 := by simp [List.getD, hc, show 15 - j < 16 by omega]
  have e2 : d[d.length - 1 - j] = d.getD (15 - j) 0 := by simp [List.getD, hd, show 15 - j < 16 by omega]
  rw [e1, e2, Nat.add_mul]; omega
theorem cnt_step (c d : List UInt8) (j : Nat) (hc : c.length = 16) (hd : d.length = 16) (hj : j < 16) :
    let s := (c.getD (15 - j) 0).toNat + (d.getD (15 - j) 0).toNat + cnt c d j / 256 ^ j
    cnt c d (j + 1) / 256 ^ (j + 1) = s / 256 ∧ (cntRow c d j).set (15 - j) (UInt8.ofNat (s % 256)) = cntRow c d (j + 1) := by
  intro s
  have hs : cnt c d (j + 1) / 256 ^ j = s := by
    rw [cnt_succ c d j hc hd hj, Nat.add_comm, Nat.add_mul_div_right _ _ (Nat.pow_pos (by decide))]
    show _ = (c.getD (15 - j) 0).toNat + (d.getD (15 - j) 0).toNat + cnt c d j / 256 ^ j
    omega
  refine ⟨by rw [Nat.pow_succ, ← Nat.div_div_eq_div_mul, hs], ?_⟩
  have h1 : c.take (16 - j) = c.take (16 - (j + 1)) ++ [c.getD (15 - j) 0] := by
    rw [show 16 - j = (16 - (j + 1)) + 1 by omega, List.take_succ_eq_append_getElem (by omega)]
    congr 2
    simp [List.getD, hc, show 16 - (j + 1) = 15 - j by omega, show 15 - j < 16 by omega]
  have hl : (c.take (16 - (j + 1))).length = 15 - j := by rw [List.length_take]; omega
  have h2 : putBig (cnt c d (j + 1)) (j + 1) = [UInt8.ofNat (s % 256)] ++ putBig (cnt c d j) j := by
    rw [show j + 1 = 1 + j from Nat.add_comm _ _, putBig_split, Nat.add_comm 1 j, hs]
    congr 1
    · simp only [putBig, List.range_succ, List.range_zero, List.nil_append, List.map_cons, List.map_nil, byteAt, Nat.pow_zero, Nat.div_one]
      congr 1
      rw [← UInt8.toNat_inj, UInt8.toNat_ofNat', UInt8.toNat_ofNat']; omega
    · rw [← putBig_mod (cnt c d (j + 1)) j j (Nat.le_refl _), ← putBig_mod (cnt c d j) j j (Nat.le_refl _)]
      congr 1
      rw [cnt_succ c d j hc hd hj, Nat.add_comm, Nat.add_mul_mod_self_right]
  unfold cntRow
  rw [h1, h2, List.append_assoc, List.set_append_right _ _ (by omega), hl, Nat.sub_self, List.singleton_append, List.set_cons_zero]
  rfl
theorem cnt_end (c : List UInt8) (n : Nat) (hc : c.length = 16) (hn : n < 18446744073709551616) : cntRow c (putBig n 16) 16 = countL c n := by
  unfold cntRow cnt countL
  have e1 : lastL c 16 = c := by simp [lastL, hc]
  have e2 : lastL (putBig n 16) 16 = putBig n 16 := by simp [lastL, putBig_len]
  have h128 : (256 : Nat) ^ 16 = 340282366920938463463374607431768211456 := by decide
  rw [e1, e2, bigN_put, Nat.mod_eq_of_lt (by rw [h128]; omega), show 16 - 16 = 0 from rfl, List.take_zero, List.nil_append, ← h128, putBig_mod _ _ _ (Nat.le_refl _)]
theorem cnt_carry (c d : List UInt8) (j : Nat) (hc : c.length = 16) (hd : d.length = 16) (hj : j ≤ 16) : cnt c d j / 256 ^ j ≤ 1 := by
  have h1 := bigN_lt (lastL c j)
  have h2 := bigN_lt (lastL d j)
  rw [lastL_len c j (by omega)] at h1
  rw [lastL_len d j (by omega)] at h2
  have : cnt c d j < 2 * 256 ^ j := by unfold cnt; omega
  have := Nat.div_lt_of_lt_mul (Nat.mul_comm 2 _ ▸ this)
  omega
theorem cntRow_len (c d : List UInt8) (j : Nat) (hc : c.length = 16) (hj : j ≤ 16) : (cntRow c d j).length = 16 := by
  simp [cntRow, putBig_len, hc]; omega
theorem cntRow_get (c d : List UInt8) (j : Nat) (hc : c.length = 16) (hj : j < 16) : (cntRow c d j)[15 - j]? = some (c.getD (15 - j) 0) := by
  unfold cntRow
  rw [List.getElem?_append_left (by rw [List.length_take]; omega), List.getElem?_take, if_pos (by omega)]
  simp [List.getD, hc, show 15 - j < 16 by omega]
end Go.Proofs.Ytjmpbcfbfbjenaa

/- Contract of the document's own Count. -/
namespace Go.Proofs.Ytjmpbcfbfbjenaa
open Go.RowKit
set_option maxRecDepth 100000
set_option linter.unusedVariables false
set_option linter.unusedSimpArgs false

theorem w64_in (n : Int) (h : -9223372036854775808 ≤ n ∧ n ≤ 9223372036854775807) : wrap64 n = n := by unfold wrap64; omega

theorem cnt_facts (x y : UInt8) (ca : Nat) (hca : ca ≤ 1) : ∃ s : Nat, s = x.toNat + y.toNat + ca ∧ s < 1024 ∧ Hid (IntKind.i64.wrap (x.toNat : Int) = (x.toNat : Int)) ∧ Hid (IntKind.i64.wrap (y.toNat : Int) = (y.toNat : Int)) ∧
    Hid (IntKind.i64.wrap ((x.toNat : Int) + (y.toNat : Int)) = (x.toNat : Int) + (y.toNat : Int)) ∧ Hid (IntKind.i64.wrap ((x.toNat : Int) + (y.toNat : Int) + (ca : Int)) = (s : Int)) := by
  have hx : x.toNat < 256 := x.toNat_lt
  have hy : y.toNat < 256 := y.toNat_lt
  generalize x.toNat = x at *
  generalize y.toNat = y at *
  exact ⟨x + y + ca, rfl, by omega, IntWalk.i64_in _ (by omega), IntWalk.i64_in _ (by omega), IntWalk.i64_in _ (by omega), (IntWalk.i64_in _ (by omega)).trans (by omega)⟩

set_option maxHeartbeats 2000000 in
theorem refCount_any (c : List UInt8) (n : Nat) (w : World) (hc : c.length = 16) (hn : n < 18446744073709551616) :
    Calls Try.prog 35 #[.agg (c.map bv).toArray, .int .u64 (n : Int)] w fun e w' => e = .returned (.agg ((countL c n).map bv).toArray) ∧ Below w.heap.size w w' := by
  have HC := Lib.hid hc
  have HN := Lib.hid hn
  clear hc hn
  go_enter Try.func35, Try.ntmps35
  go_wp2_with fail
  generalize hW : (w.alloc _).alloc _ = W0
  have F0 : W0.heap[w.heap.size]? = some (.cells (c.map bv).toArray 23 (0, 0)) := by rw [← hW]; exact heap_alloc2_old w _ _
  have F1 : W0.heap[w.heap.size + 1]? = some (.cells (List.replicate 16 (Value.int .u8 0)).toArray 23 (0, 0)) := by rw [← hW]; exact heap_alloc2_new w _ _
  have FB : Below w.heap.size w W0 := by rw [← hW]; exact two_below w _ _
  have G0 := Lib.hid F0
  have G1 := Lib.hid F1
  have GB := Lib.hid FB
  clear F0 F1 FB hW
  refine (refPutBig_any n 16 _ HN.out (by omega)).mono ?_
  rintro e w1 ⟨v, rfl, hO, hB1⟩
  obtain ⟨A, cp, rfl, hl, _, _, hr⟩ := own_read hO
  have hdl := putBig_len n 16
  have HD : Hid (cntRow c (putBig n 16) 16 = countL c n) := cnt_end c n HC.out HN.out
  generalize putBig n 16 = d at hr hdl HD hO hl
  obtain ⟨b, o, rfl, hbl, r⟩ := hr.at_ (by simp [hdl])
  have hbW : W0.heap.size ≤ b := by
    have := (hO.lt b rfl).1; exact this
  have R := Lib.hid r
  have HDL := Lib.hid hdl
  have K0 := Lib.hid ((hB1.block _ (lt_of_heap G0.out)).trans G0.out)
  have K1 := Lib.hid ((hB1.block _ (lt_of_heap G1.out)).trans G1.out)
  have KB := Lib.hid (GB.out.step hB1)
  have hbne : b ≠ w.heap.size := by have := lt_of_heap G0.out; omega
  have HBNE := Lib.hid hbne
  clear hr r hdl hl hO hB1 G0 G1 GB hbW hbne
  go_wp2_with fail
  go_loopw [6, 7, 8] (fun cv iv sv wr => ∃ (j : Nat), j ≤ 16 ∧ iv = .int .i64 (15 - (j : Int)) ∧ cv = .int .i64 ((cnt c d j / 256 ^ j : Nat) : Int) ∧
      Hid (wr.heap[w.heap.size]? = some (.cells ((cntRow c d j).map bv).toArray 23 (0, 0))) ∧ Hid (wr.heap[w.heap.size + 1]? = some (.cells (List.replicate 16 (Value.int .u8 0)).toArray 23 (0, 0))) ∧
      Hid (Below w.heap.size w wr) ∧ Hid (wr.heap[b]? = w1.heap[b]?)) (fun _ i _ _ => (intOf i + 1).toNat)
  case atStart => exact ⟨0, by omega, by simp, by simp [cnt, lastL, bigN], by simpa [cntRow, putBig, List.take_of_length_le, HC.out] using K0, K1, KB, rfl⟩
  case round =>
    obtain ⟨j, hj, rfl, rfl, L0, L1, LB, LD⟩ := hrel
    by_cases hlt : j < 16
    · have hst := cnt_step c d j HC.out HDL.out hlt
      have hca := cnt_carry c d j HC.out HDL.out hj
      have c1 : wr.cell? ⟨w.heap.size, 15 - j, none⟩ = some (.int .u8 ((c.getD (15 - j) 0).toNat : Int)) := by
        rw [cell_of_heap L0.out, List.getElem?_map, cntRow_get c d j HC.out hlt]; rfl
      have c2 : wr.cell? ⟨b, o + (15 - j), none⟩ = some (.int .u8 ((d.getD (15 - j) 0).toNat : Int)) := by
        have := R.out (15 - j) (bv (d.getD (15 - j) 0)) (by simp [List.getD, HDL.out, show 15 - j < 16 by omega])
        rw [World.cell?_of_block (w := w1) (w' := wr) LD.out]; exact this
      have fz : wr.frozen? ⟨w.heap.size, 15 - j, none⟩ = false := frozen_of_heap L0.out _
      generalize cnt c d j / 256 ^ j = ca at hst hca ⊢
      generalize c.getD (15 - j) 0 = x at c1 hst
      generalize d.getD (15 - j) 0 = y at c2 hst
      have hx : x.toNat < 256 := x.toNat_lt
      have hy : y.toNat < 256 := y.toNat_lt
      obtain ⟨s, hs, hsb, U1, U2, U3, U4⟩ := cnt_facts x y ca hca
      simp only [← hs] at hst
      have HST := Lib.hid hst
      clear hs
      have e1 : (15 - (j : Int)).toNat = 15 - j := by omega
      have e2 : 0 ≤ 15 - (j : Int) := by omega
      have e3 : 15 - (j : Int) < 16 := by omega
      have HX : Hid (Ext wr wr.drew) := (Below.refl _ _).drew
      have hbw : b < wr.heap.size := block_lt_of_cell c2
      clear hst
      go_wp2_with fail
      have u4 := U4.out
      have u3 := U3.out
      have u2 := U2.out
      have u1 := U1.out
      refine reg_start (by kernel_rfl) ?_
      try simp only [Act.put, List.setIfInBounds_toArray, List.set_cons_zero, List.set_cons_succ]
      refine reg_take (v := ?_) 0 (some 15) rfl rfl (by kernel_rfl) (by kernel_rfl) (by kernel_rfl) (fun _ _ _ h => h) (by rfl) (fun W hW => ?_) ?_
      rotate_left
      · (go_simp; try rfl)
      simp only [Act.put, List.setIfInBounds_toArray, List.set_cons_zero, List.set_cons_succ]
      refine reg_take (v := ?_) 1 (some 16) rfl rfl (by kernel_rfl) (by kernel_rfl) (by kernel_rfl) (fun _ _ _ h => h) (by rfl) (fun W hW => ?_) ?_
      rotate_left
      · (go_simp; try rfl)
      simp only [Act.put, List.setIfInBounds_toArray, List.set_cons_zero, List.set_cons_succ]
      refine reg_load 2 (some 17) (fun W hW => load_cell Try.underlying5 ((hW.cell (lt_of_heap L0.out)).trans c1)) rfl rfl rfl rfl (by kernel_rfl) (by kernel_rfl) (by kernel_rfl) (fun _ _ _ h => h) (by rfl) ?_
      simp only [Act.put, List.setIfInBounds_toArray, List.set_cons_zero, List.set_cons_succ]
      refine reg_take (v := ?_) 3 (some 18) rfl rfl (by kernel_rfl) (by kernel_rfl) (by kernel_rfl) (fun _ _ _ h => h) (by rfl) (fun W hW => ?_) ?_
      rotate_left
      · (go_simp; try rfl)
      simp only [Act.put, List.setIfInBounds_toArray, List.set_cons_zero, List.set_cons_succ]
      refine reg_take (v := ?_) 4 (some 19) rfl rfl (by kernel_rfl) (by kernel_rfl) (by kernel_rfl) (fun _ _ _ h => h) (by rfl) (fun W hW => ?_) ?_
      rotate_left
      · (go_simp; try rfl)
      simp only [Act.put, List.setIfInBounds_toArray, List.set_cons_zero, List.set_cons_succ]
      refine reg_take (v := ?_) 5 (some 20) rfl rfl (by kernel_rfl) (by kernel_rfl) (by kernel_rfl) (fun _ _ _ h => h) (by rfl) (fun W hW => ?_) ?_
      rotate_left
      · (go_simp; try rfl)
      simp only [Act.put, List.setIfInBounds_toArray, List.set_cons_zero, List.set_cons_succ]
      refine reg_take (v := ?_) 6 (some 21) rfl rfl (by kernel_rfl) (by kernel_rfl) (by kernel_rfl) (fun _ _ _ h => h) (by rfl) (fun W hW => ?_) ?_
      rotate_left
      · (go_simp; try rfl)
      simp only [Act.put, List.setIfInBounds_toArray, List.set_cons_zero, List.set_cons_succ]
      refine reg_load 7 (some 22) (fun W hW => load_cell Try.underlying5 ((hW.cell hbw).trans c2)) rfl rfl rfl rfl (by kernel_rfl) (by kernel_rfl) (by kernel_rfl) (fun _ _ _ h => h) (by rfl) ?_
      simp only [Act.put, List.setIfInBounds_toArray, List.set_cons_zero, List.set_cons_succ]
      refine reg_take (v := ?_) 8 (some 23) rfl rfl (by kernel_rfl) (by kernel_rfl) (by kernel_rfl) (fun _ _ _ h => h) (by rfl) (fun W hW => ?_) ?_
      rotate_left
      · (go_simp; try rfl)
      simp only [Act.put, List.setIfInBounds_toArray, List.set_cons_zero, List.set_cons_succ]
      refine reg_take (v := ?_) 9 (some 24) rfl rfl (by kernel_rfl) (by kernel_rfl) (by kernel_rfl) (fun _ _ _ h => h) (by rfl) (fun W hW => ?_) ?_
      rotate_left
      · (go_simp; try rfl)
      simp only [Act.put, List.setIfInBounds_toArray, List.set_cons_zero, List.set_cons_succ]
      refine reg_take (v := ?_) 10 (some 25) rfl rfl (by kernel_rfl) (by kernel_rfl) (by kernel_rfl) (fun _ _ _ h => h) (by rfl) (fun W hW => ?_) ?_
      rotate_left
      · (go_simp; try rfl)
      simp only [Act.put, List.setIfInBounds_toArray, List.set_cons_zero, List.set_cons_succ]
      refine reg_take (v := ?_) 11 (some 26) rfl rfl (by kernel_rfl) (by kernel_rfl) (by kernel_rfl) (fun _ _ _ h => h) (by rfl) (fun W hW => ?_) ?_
      rotate_left
      · (go_simp; try rfl)
      simp only [Act.put, List.setIfInBounds_toArray, List.set_cons_zero, List.set_cons_succ]
      refine reg_take (v := ?_) 12 (some 8) rfl rfl (by kernel_rfl) (by kernel_rfl) (by kernel_rfl) (fun _ _ _ h => h) (by rfl) (fun W hW => ?_) ?_
      rotate_left
      · (go_simp; try rfl)
      simp only [Act.put, List.setIfInBounds_toArray, List.set_cons_zero, List.set_cons_succ]
      refine reg_done (by kernel_rfl) ?_
      clear u1 u2 u3 u4
      have hb8 : (s : Int) % 256 = ((UInt8.ofNat (s % 256)).toNat : Int) := by rw [UInt8.toNat_ofNat']; omega
      generalize UInt8.ofNat (s % 256) = z at hb8 HST
      have hz : z.toNat < 256 := z.toNat_lt
      go_wp2
      go_roundw
      case rel =>
        refine ⟨j + 1, by omega, by congr 1; omega, ?_, ?_, ?_, ?_, ?_⟩
        · rw [HST.out.1]; congr 1
        · have := heap_set (w := wr.drew) L0.out (15 - j) (bv z)
          rw [← List.map_set, HST.out.2] at this
          exact this
        · exact (Below.heap_setCell wr.drew _ _ _ (by simp)).trans L1.out
        · exact LB.out.drew.setCell (Nat.le_refl _) _
        · exact (Below.heap_setCell wr.drew _ _ _ HBNE.out).trans LD.out
      case measure => simp [intOf]; omega
    · have t1 : ¬ ((0 : Int) ≤ 15 - (j : Int)) := by omega
      have hj16 : j = 16 := by omega
      have L0' := L0.out
      rw [hj16, HD.out] at L0'
      have M0 := Lib.hid L0'
      clear L0 L0' hj16
      have hl16 : (countL c n).length = 16 := by simp [countL, putBig_len]
      have HL := Lib.hid hl16
      clear hl16
      go_wp2_with (first
        | (refine wpList_ld rfl 23 (.tmp 2) rfl (load_arr arr16T rfl (by rw [List.length_map, HL.out]; exact i16) M0.out) ?_)
        | (refine wpList_st rfl 23 (.tmp 4) (.tmp 34) rfl (store_arr (by rw [List.length_map, HL.out]; exact i16) (bv_one _) L1.out (by simp [HL.out])) ?_))
      have hres := setRow_heap wr (w.heap.size + 1) _ ((countL c n).map bv).toArray 23 _ L1.out
      exact bodyPost_ret (results_cell_row (P := Try.prog) rfl _ _ (w.heap.size + 1) 23 ((countL c n).map bv).toArray (0, 0) _ rfl hres arr16T rfl (by simp [HL.out, i16])) rfl ⟨rfl, LB.out.trans (grown_below (grown_setRow _ _ _) (by omega) LB.out.size)⟩
end Go.Proofs.Ytjmpbcfbfbjenaa

/- Regions that draw their order, in which a call or a store (the bar) waits for loads whose cells are stored into behind it: ahead of the bar the world is held, behind it it is free. Over any program. -/
namespace Go.Proofs.Ytjmpbcfbfbjenaa
open Go.RowKit
set_option maxRecDepth 100000
set_option linter.unusedVariables false
section
variable {P : Program} {ops : Array Oper} {Q : Exit → Act → World → Prop} {md : Region.Mode} {b : Nat} {S : World → Prop}
/-- whatever order is picked; as long as the bar has not come up, the world meets S -/
def Bar (P : Program) (md : Region.Mode) (ops : Array Oper) (Q : Exit → Act → World → Prop) (b : Nat) (S : World → Prop) : Nat → Array Bool → Act → World → Prop
  | 0, listed, a, w => Region.ready md ops listed = [] ∧ Q .normal a w
  | n + 1, listed, a, w => (Region.ready md ops listed = [] → Q .normal a w) ∧
    ∀ i ∈ Region.ready md ops listed, wpOp P ops Q i (fun a' w' => (((listed.setIfInBounds i true).getD b true = false) → S w') ∧ Bar P md ops Q b S n (listed.setIfInBounds i true) a' w') a w
theorem Bar.any : ∀ (n : Nat) (listed : Array Bool) (a : Act) (w : World), Bar P md ops Q b S n listed a w → wpAny P md ops Q n listed a w
  | 0, _, _, _, h => h
  | n + 1, _, _, _, h => ⟨h.1, fun i hi => wpOp_mono (fun a' w' h' => Bar.any n _ a' w' h'.2) (h.2 i hi)⟩
/-- behind the bar -/
theorem Bar.past : ∀ (n : Nat) (listed : Array Bool) (a : Act) (w : World), listed.getD b true = true → wpAnyH P md ops Q (fun _ => True) n listed a w → Bar P md ops Q b S n listed a w
  | 0, _, _, _, _, h => h
  | n + 1, listed, a, w, hb, h => ⟨h.1, fun i hi => wpOp_mono (fun a' w' h' => by
      have hb' : (listed.setIfInBounds i true).getD b true = true := by
        by_cases e : i = b
        · subst e; simp only [Array.getD_eq_getD_getElem?, Array.getElem?_setIfInBounds, if_true]; split <;> rfl
        · rw [getD_set_ne true e]; exact hb
      exact ⟨fun h0 => absurd (hb'.symm.trans h0) (by decide), Bar.past n _ a' w' hb' h'.2⟩) (h.2 i hi)⟩
/-- what may come up may be taken first: (1) it yields in whatever world, or (2) in every world that meets S, and the bar waits for it -/
theorem Bar.first {i : Nat} {oi : Oper} {v : Value} {T : World → Prop} (hi : ops[i]? = some oi) (hsel : ∀ (j : Nat) (o : Oper) cs b, ops[j]? = some o → o.op ≠ .select cs b)
    (hQ : ∀ c a w, Q (.panic c) (a.put oi.dst v) w → Q (.panic c) a w)
    (hT : (∀ w, T w) ∨ ((∀ w, S w → T w) ∧ Region.waitsFor md ops b i = true)) (hib : i ≠ b) :
    ∀ (n : Nat) (listed : Array Bool) (a : Act) (w : World),
      (∀ j oj, ops[j]? = some oj → j ≠ i → listed.getD j true = false → (∀ e ∈ oj.after, Region.binds md e = true → e.on ≠ i) → oi.apart ops oj = true) →
      i ∈ Region.ready md ops listed → (listed.getD b true = false ∨ ∀ w, T w) → YieldsIf P ops T oi v a → (listed.getD b true = false → S w) →
      Bar P md ops Q b S n (listed.setIfInBounds i true) (a.put oi.dst v) w → Bar P md ops Q b S (n + 1) listed a w := by
  have useT : ∀ (listed : Array Bool) (w : World), (listed.getD b true = false ∨ ∀ w, T w) → (listed.getD b true = false → S w) → T w := by
    intro listed w h1 h2
    rcases hT with h | h
    · exact h w
    · rcases h1 with h1 | h1
      · exact h.1 w (h2 h1)
      · exact h1 w
  have same : ∀ (listed : Array Bool) (w : World), (listed.getD b true = false → S w) → ((listed.setIfInBounds i true).getD b true = false → S w) := by
    intro listed w h h0
    rw [getD_set_ne true hib] at h0
    exact h h0
  intro n
  induction n with
  | zero =>
    intro listed a w _ hr hb hy hS H
    refine ⟨fun h => (by rw [h] at hr; cases hr), fun j hj => ?_⟩
    by_cases hji : j = i
    · subst hji; exact hy.wpOp hi (useT _ _ hb hS) ⟨same _ _ hS, H⟩
    · have := ready_mono hj hji
      rw [H.1] at this
      cases this
  | succ n ih =>
    intro listed a w hfree hr hb hy hS H
    refine ⟨fun h => (by rw [h] at hr; cases hr), fun j hj => ?_⟩
    by_cases hji : j = i
    · subst hji; exact hy.wpOp hi (useT _ _ hb hS) ⟨same _ _ hS, H⟩
    · have h1 := H.2 j (ready_mono hj hji)
      obtain ⟨hjun, oj, hoj, hall⟩ := mem_ready.1 hj
      have hnot : ∀ e ∈ oj.after, Region.binds md e = true → e.on ≠ i := fun e he hb heq => by
        have h1 := hall e he hb
        have h0 := (mem_ready.1 hr).1
        rw [heq] at h1
        rcases Nat.lt_or_ge i listed.size with h' | h'
        · simp [h'] at h0 h1; rw [h0] at h1; cases h1
        · simp [Array.getElem?_eq_none h'] at h1
      have h2 := wpOp_putIf hoj (hfree j oj hoj hji hjun hnot) (fun cs b => hsel i oi cs b hi) (fun cs b => hsel j oj cs b hoj) hQ hy h1
      have hfree' : ∀ k ok, ops[k]? = some ok → k ≠ i → (listed.setIfInBounds j true).getD k true = false →
          (∀ e ∈ ok.after, Region.binds md e = true → e.on ≠ i) → oi.apart ops ok = true := fun k ok hk hki hun hno => by
        refine hfree k ok hk hki ?_ hno
        by_cases hjk : j = k
        · subst hjk; exact hjun
        · rw [getD_set_ne true hjk] at hun; exact hun
      have hb' : (listed.setIfInBounds j true).getD b true = false ∨ ∀ w, T w := by
        rcases hb with hb | hb
        · rcases hT with h | h
          · exact .inr h
          · have hjb : j ≠ b := by
              intro e
              subst e
              obtain ⟨ob, hob, e, he, hbi, hon⟩ := Region.waitsFor_spec h.2
              rw [hoj] at hob
              cases hob
              exact hnot e he hbi hon
            exact .inl (by rw [getD_set_ne true hjb]; exact hb)
        · exact .inr hb
      have hji' : (listed.setIfInBounds j true).setIfInBounds i true = (listed.setIfInBounds i true).setIfInBounds j true := Array.setIfInBounds_comm _ _ hji
      refine wpOp_mono (fun a' w' h3 => ?_) h2
      have hS' : (listed.setIfInBounds j true).getD b true = false → S w' := by
        intro h0
        refine h3.2.1 ?_
        rw [← hji', getD_set_ne true hib]
        exact h0
      refine ⟨hS', ih (listed.setIfInBounds j true) a' w' hfree' (ready_mono hr (Ne.symm hji)) hb' h3.1 hS' ?_⟩
      rw [hji']
      exact h3.2.2
theorem regK_start {id : Nat} {a : Act} {w : World} (b : Nat) (S : World → Prop) (hm : P.follows .mixedOrders = true) (h : Bar P .any ops Q b S ops.size (Array.replicate ops.size false) a w.drew) : (Code.region id ops true).wp P Q a w :=
  wp_region_any hm (Bar.any _ _ _ _ h)
theorem regK_take (i : Nat) {o : Oper} {v : Value} {fuel : Nat} {listed : Array Bool} {a : Act} {w : World} (d : Option Tmp) (hi : ops[i]? = some o) (hd : o.dst = d)
    (hs : Region.noSelect ops = true) (hf : Region.free .any ops listed i = true) (hr : (Region.ready .any ops listed).contains i = true)
    (hQ : ∀ c a w, Q (.panic c) (a.put o.dst v) w → Q (.panic c) a w) (hw : Region.wanted o (yielded ops a.tmps) = true) (hb : (i != b) = true) (hS : S w)
    (hy : ∀ W, (execOp a.eval o).run P W = .ok (.value v) W)
    (h : Bar P .any ops Q b S fuel (listed.setIfInBounds i true) (a.put d v) w) : Bar P .any ops Q b S (fuel + 1) listed a w := by
  subst hd
  exact Bar.first (T := fun _ => True) hi (Region.noSelect_spec hs) hQ (.inl fun _ => trivial) (by simpa using hb) fuel listed a w (Region.free_spec hi hf) (by simpa using hr) (.inr fun _ => trivial) (.inl ⟨hw, fun W _ => hy W⟩) (fun _ => hS) h
theorem regK_load (i : Nat) {o : Oper} {ty : TypeId} {x : Operand} {p v : Value} {fuel : Nat} {listed : Array Bool} {a : Act} {w : World} (d : Option Tmp)
    (hrun : ∀ W, S W → (Instr.loadAt ty p).run P W = .ok v W) (hi : ops[i]? = some o) (hd : o.dst = d) (ho : o.op = .load ty x) (hx : a.eval x = p)
    (hs : Region.noSelect ops = true) (hf : Region.free .any ops listed i = true) (hr : (Region.ready .any ops listed).contains i = true)
    (hQ : ∀ c a w, Q (.panic c) (a.put o.dst v) w → Q (.panic c) a w) (hw : Region.wanted o (yielded ops a.tmps) = true) (hb : (i != b && Region.waitsFor .any ops b i && !listed.getD b true) = true) (hS : S w)
    (h : Bar P .any ops Q b S fuel (listed.setIfInBounds i true) (a.put d v) w) : Bar P .any ops Q b S (fuel + 1) listed a w := by
  subst hd
  simp only [Bool.and_eq_true, bne_iff_ne, ne_eq, Bool.not_eq_true'] at hb
  exact Bar.first (T := S) hi (Region.noSelect_spec hs) hQ (.inr ⟨fun _ h => h, hb.1.2⟩) hb.1.1 fuel listed a w (Region.free_spec hi hf) (by simpa using hr) (.inl hb.2) (.inl ⟨hw, fun W hW => exec_load ho hx (hrun W hW)⟩) (fun _ => hS) h
/-- the bar itself; behind it nothing is held -/
def Free (_ _ : World) : Prop := True
instance : Pre Free where
  refl _ := trivial
  trans _ _ := trivial
theorem regK_bar (i : Nat) {o : Oper} {fuel : Nat} {listed : Array Bool} {a : Act} {w : World} (hi : ops[i]? = some o) (hr : Region.ready .any ops listed = [i]) (hib : (listed.setIfInBounds i true).getD b true = true)
    (h : ∀ K : Act → World → Prop, Hid (∀ a' w', Free w w' → RegS P ops Q Free fuel (listed.setIfInBounds i true) a' w' → K a' w') → if Region.wanted o (yielded ops a.tmps) = true then Oper.wp P o a w K Q else K (a.put o.dst undef) w) :
    Bar P .any ops Q b S (fuel + 1) listed a w := by
  refine ⟨fun h0 => (by rw [hr] at h0; cases h0), fun j hj => ?_⟩
  rw [hr] at hj
  obtain rfl : j = i := by simpa using hj
  refine wpOp_step hi fun K hK => h K fun a' w' _ hR => hK a' w' ⟨fun h0 => absurd (hib.symm.trans h0) (by decide), ?_⟩
  exact Bar.past _ _ _ _ hib hR
end
end Go.Proofs.Ytjmpbcfbfbjenaa

/- palfreyref08.Crypt. -/
namespace Go.Proofs.Ytjmpbcfbfbjenaa
open Go.RowKit
set_option maxRecDepth 100000
set_option linter.unusedVariables false
set_option linter.unusedSimpArgs false
theorem cell_eqA {W W0 : World} (h : W = W0) {a : Addr} {v : Value} (hc : W0.cell? a = some v) : W.cell? a = some v := by rw [h]; exact hc
theorem GrowA.app {g : Nat} {w W W' : World} {vb : Option Nat} (h : GrowA g w W) (hg : W.grownBy W' vb) (hv : ∀ k, vb = some k → w.heap.size ≤ k) : GrowA g w W' :=
  ⟨hg.os.trans h.os, hg.tape.trans h.tape, hg.output.trans h.output, Nat.le_trans h.size hg.size, fun i hi hne => (hg.block i (Nat.lt_of_lt_of_le hi h.size) (fun e => absurd (hv i e.symm) (by omega))).trans (h.block i hi hne)⟩
theorem KeysAt.grow {g gk R : Nat} {w W : World} {RK : Nat → List UInt8} (hk : ∀ r, r < R → w.rangeAt gk (r * 16) ((RK r).map bv)) (hl : gk < w.heap.size) (hn : gk ≠ g) (h : GrowA g w W) : KeysAt W (some ⟨gk, 0, none⟩) R RK :=
  ⟨gk, rfl, Nat.lt_of_lt_of_le hl h.size, fun r hr => h.range hn hl (hk r hr)⟩
theorem ctr_take_step (f : Nat → UInt8) (b : List UInt8) (i : Nat) (hi : i < b.length) : ctrL f 0 (b.take (i + 1)) = ctrL f 0 (b.take i) ++ [b.getD i 0 ^^^ f i] := by
  rw [List.take_succ_eq_append_getElem hi, ctrL_append, List.length_take, Nat.min_eq_left (by omega), Nat.zero_add]
  simp [ctrL, List.getD, hi]
theorem strm_at (E : List UInt8 → List UInt8) (iv : List UInt8) (i : Nat) : strmF E iv i = (E (countL iv (i / 16))).getD (i % 16) 0 := rfl
theorem ta_sl_cell {w : World} {A : Option Addr} {c i : Nat} {bs : List UInt8} (h : Sl w A c bs) (hi : i < bs.length) : ∃ b o, A = some ⟨b, o, none⟩ ∧ b < w.heap.size ∧ w.cell? ⟨b, o + i, none⟩ = some (.int .u8 ((bs.getD i 0).toNat : Int)) := by
  obtain ⟨b, o, hA, hb, hc⟩ := ka_sl_cell h hi
  exact ⟨b, o, hA, hb, hc i hi⟩
set_option maxHeartbeats 8000000 in
theorem refCtr_any (key : List UInt8) (nk : Nat) (A : Option Addr) (n c : Nat) (iv : List UInt8) (Ab : Option Addr) (m cb : Nat) (b : List UInt8) (w : World) (hl : key.length = n) (hn : n = 4 * nk) (hk : nk = 4 ∨ nk = 8) (hiv : iv.length = 16) (hm : b.length = m) (hm31 : m ≤ 100000) (hS : Sl w A c key) (hSb : Sl w Ab cb b) :
    Calls Try.prog 10 #[.slice A n c, .agg (iv.map bv).toArray, .slice Ab m cb] w fun e w' => ∃ v, e = .returned v ∧ w'.ownsRow w.heap.size 5 1 v m ((ctrL (strmF (encL (expandL key) (nk + 6)) iv) 0 b).map bv) ∧ Below w.heap.size w w' := by
  have HIV := Lib.hid hiv; have HM := Lib.hid hm; have HS := Lib.hid hS; have HSb := Lib.hid hSb
  have HRK := Lib.hid (fun A c W hS => refKeys_row A n c nk key W hl hn hk hS)
  have HRE := Lib.hid (fun x A cc W hx hA => refEncK_any key nk x A cc W hk (hl.trans hn) hx hA)
  have HRT := Lib.hid (fun W => refTable_any W)
  have hwl : (expandL key).length = 60 := expandL_len key (by omega)
  have HEL : Hid (∀ x, x.length = 16 → (encL (expandL key) (nk + 6) x).length = 16) := fun x hx => by rw [encL, encT, outL_len, addW_len _ _ _ (shiftW_len _ _) (by omega)]
  have HCL : Hid (∀ k, (countL iv k).length = 16) := fun k => putBig_len _ _
  have HST := Lib.hid (fun i (hi : i < b.length) => ctr_take_step (strmF (encL (expandL key) (nk + 6)) iv) b i hi)
  have HSA := Lib.hid (fun i => strm_at (encL (expandL key) (nk + 6)) iv i)
  have hz16 : ∀ W, (zeroValue 23).run Try.prog W = .ok (.agg zeros16.toArray) W := fun W => by kernel_rfl
  have hz := zero256B
  have HZL := Lib.hid zeros256_len
  have HTL : Hid ((sboxL.map bv).length = 256) := by show _ = _; rw [List.length_map, sboxL_len]
  have HI : Hid ((Try.prog.info? 48).map (·.size) = some (sboxL.map bv).length) := by show _ = _; rw [HTL.out]; exact i256B
  have hone : Hid (∀ v ∈ sboxL.map bv, v.oneCell' = true) := bv_one _
  have HZ16 : Hid (zeros16 = (List.replicate 16 (0 : UInt8)).map bv) := rfl
  have HR16 : Hid ((List.replicate 16 (0 : UInt8)).length = 16) := rfl
  have HB0 : Hid (ctrL (strmF (encL (expandL key) (nk + 6)) iv) 0 (b.take 0) = []) := by show _ = _; rw [List.take_zero]; rfl
  have HBE : Hid (ctrL (strmF (encL (expandL key) (nk + 6)) iv) 0 (b.take m) = ctrL (strmF (encL (expandL key) (nk + 6)) iv) 0 b) := by show _ = _; rw [List.take_of_length_le (by omega)]
  obtain ⟨CT, HCT⟩ : ∃ CT : Nat → List UInt8, Hid (∀ i, ctrL (strmF (encL (expandL key) (nk + 6)) iv) 0 (b.take i) = CT i) := ⟨fun i => _, fun _ => rfl⟩
  rw [HCT.out] at HB0 HBE
  rw [← HBE.out]
  have HST : Hid (∀ i, i < m → CT (i + 1) = CT i ++ [b.getD i 0 ^^^ strmF (encL (expandL key) (nk + 6)) iv i]) := fun i hi => by rw [← HCT.out, ← HCT.out]; exact HST.out i (by rw [hm]; exact hi)
  clear HCT HBE
  generalize strmF (encL (expandL key) (nk + 6)) iv = SF at HST HSA
  generalize encL (expandL key) (nk + 6) = E at HRE HEL HSA
  have HCO := Lib.hid (fun k W h => refCount_any iv k W hiv h)
  generalize countL iv = CI at HCL HSA HCO
  generalize rkB (expandL key) = RK at HRK HRE
  generalize zeros256 = Z at hz HZL
  generalize zeros16 = Z16 at hz16 HZ16
  generalize sboxL.map bv = TB at HRK HRE HRT HTL HI hone
  obtain ⟨r7, hr7⟩ : ∃ r7, r7 = nk + 7 := ⟨_, rfl⟩
  rw [← hr7] at HRK HRE
  obtain ⟨XR, HXR⟩ : ∃ X, Hid (CT m = X) := ⟨_, rfl⟩
  rw [HXR.out]
  clear hl hn hk hiv hm hS hSb hr7 hwl
  go_enter Try.func10, Try.ntmps10
  go_upto_region 1 with (fail)
  generalize hV : w.alloc _ = W0
  have F0 : Hid (W0.heap[w.heap.size]? = some (.cells (iv.map bv).toArray 23 (0, 0))) := heap_of_alloc hV
  have FB := Lib.hid (below_of_alloc hV (Nat.le_refl w.heap.size))
  clear hV
  go_wp2_with fail
  refine (HRT.out W0).mono ?_
  rintro e w1 ⟨rfl, hb1⟩
  have F1 := Lib.hid ((hb1.block _ (lt_of_heap F0.out)).trans F0.out)
  have B1 := Lib.hid (FB.out.step hb1)
  clear hb1 F0 FB
  go_upto_region 2 with (first
    | (refine wpList_st rfl 48 (.tmp 7) (.tmp 12) rfl (store_arr (cs := TB) (old := Z) HI.out hone.out (heap_alloc_new' w1 _) (by rw [HZL.out, HTL.out])) ?_
       generalize hV : World.setRow _ _ _ = W2
       have M2 := Lib.hid (heap_of_setRow hV (heap_alloc_new' w1 _))
       have MB := Lib.hid (((Below.refl w1.heap.size w1).alloc (Nat.le_refl _) _).trans (below_of_setRow hV (Nat.le_refl w1.heap.size) (by simp)))
       clear hV)
    | fail)
  have F2 := Lib.hid ((MB.out.block _ (lt_of_heap F1.out)).trans F1.out)
  have B2 := Lib.hid (B1.out.step MB.out)
  have S2 := Lib.hid (HS.out.below B2.out)
  clear F1 B1 MB
  obtain ⟨g7, hg7⟩ : ∃ g, w1.heap.size = g := ⟨_, rfl⟩
  rw [hg7] at M2 ⊢
  clear hg7
  go_wp2_with (first
    | (refine wpList_ld rfl 48 (.tmp 7) rfl (load_arr arr256B rfl HI.out M2.out) ?_)
    | fail)
  refine (HRK.out A c W2 S2.out).mono ?_
  rintro e w3 ⟨A8, c8, rfl, hK, hb3⟩
  obtain ⟨gk, rfl, hgk, hkr⟩ := hK
  have F3 := Lib.hid ((hb3.block _ (lt_of_heap F2.out)).trans F2.out)
  have M3 := Lib.hid ((hb3.block _ (lt_of_heap M2.out)).trans M2.out)
  have B3 := Lib.hid (B2.out.step hb3)
  have HGK := Lib.hid hgk; have HKR := Lib.hid hkr
  clear hb3 F2 M2 B2 S2 hgk hkr
  go_upto_region 5 with (fail)
  generalize hV : w3.alloc _ = W4
  have G4 : Hid (W4.heap[w3.heap.size]? = some (.cells Z16.toArray 23 (0, 0))) := heap_of_alloc hV
  have XB := Lib.hid (below_of_alloc hV (Nat.le_refl w3.heap.size))
  have Z4 : Hid (W4.heap.size = w3.heap.size + 1) := by show _ = _; rw [← hV]; simp
  clear hV
  obtain ⟨g10, hg10⟩ : ∃ g, w3.heap.size = g := ⟨_, rfl⟩
  have L0 : Hid (w.heap.size < g10) := by rw [← hg10]; exact lt_of_heap F3.out
  have L7 : Hid (g7 < g10) := by rw [← hg10]; exact lt_of_heap M3.out
  have LK : Hid (gk < g10) := by rw [← hg10]; exact HGK.out
  rw [hg10] at G4 XB Z4 ⊢
  have F4 := Lib.hid ((XB.out.block _ L0.out).trans F3.out)
  have M4 := Lib.hid ((XB.out.block _ L7.out).trans M3.out)
  have KR4 : Hid (∀ r, r < r7 → W4.rangeAt gk (r * 16) ((RK r).map bv)) := fun r hr => range_heap (XB.out.block _ LK.out) (HKR.out r hr)
  have B4 : Hid (Below w.heap.size w W4) := B3.out.step (by rw [hg10]; exact XB.out)
  have SB4 := Lib.hid (HSb.out.below B4.out)
  have KL4 : Hid (gk < W4.heap.size) := by have h1 := LK.out; have h2 := Z4.out; show _ < _; omega
  rw [HZ16.out] at G4
  clear hg10 F3 M3 B3 XB HGK HKR HZ16
  have N0 : Hid (w.heap.size ≠ g10) := by have := L0.out; show _ ≠ _; omega
  have N7 : Hid (g7 ≠ g10) := by have := L7.out; show _ ≠ _; omega
  have NK : Hid (gk ≠ g10) := by have := LK.out; show _ ≠ _; omega
  obtain ⟨q, hq⟩ : ∃ q, q = W4.heap.size := ⟨_, rfl⟩
  have HQ := Lib.hid hq
  have HQ10 : Hid (g10 < q) := by have h2 := Z4.out; show _ < _; omega
  clear hq Z4
  go_wp2_with fail
  go_loopw [9, 11] (fun s9 vi wr => ∃ (i : Nat) (X : List UInt8) (v9 : Value), i ≤ m ∧ v9 = s9 ∧ vi = .int .i64 (i : Int) ∧ Hid (X.length = 16) ∧ Hid (¬ i % 16 = 0 → X = E (CI (i / 16))) ∧ Hid (wr.heap[g10]? = some (.cells (X.map bv).toArray 23 (0, 0))) ∧ Hid (wr.ownsRow q 5 1 v9 i ((CT i).map bv)) ∧ Hid (GrowA g10 W4 wr)) (fun _ i _ => m - (intOf i).toNat)
  case atStart => exact ⟨0, _, _, by omega, rfl, rfl, HR16, fun h => absurd rfl h, G4, by show World.ownsRow _ _ _ _ _ _ _; rw [HB0.out]; exact World.ownsRow_nil _ _ _ _, Pre.refl _⟩
  case round =>
    clear G4
    obtain ⟨i, X, v9, hi, rfl, rfl, HXL, HXE, HG, HO, HGR⟩ := hrel
    by_cases hlt : i < m
    · have e1 : (i : Int) < (m : Int) := by omega
      obtain ⟨r, hr⟩ : ∃ r, r = i % 16 := ⟨_, rfl⟩
      obtain ⟨k, hk⟩ : ∃ k, k = i / 16 := ⟨_, rfl⟩
      have u0 : (i : Int) % 16 = (r : Int) := by omega
      have u3 : (i : Int).tmod 16 = (r : Int) := by rw [Int.tmod_eq_emod_of_nonneg (by omega)]; exact u0
      have u4 : (i : Int) / 16 = (k : Int) := by omega
      have u5 : (i : Int).tdiv 16 = (k : Int) := by rw [Int.tdiv_eq_ediv_of_nonneg (by omega)]; exact u4
      have r16 : (r : Int) < 16 := by omega
      have hr16 : r < 16 := by omega
      have u6 : IntKind.i64.wrap (k : Int) = (k : Int) := by rw [IntKind.wrap_i64]; omega
      have u7 : IntKind.u64.wrap (k : Int) = (k : Int) := by rw [IntKind.wrap_u64]; omega
      have u8 : IntKind.i64.wrap (r : Int) = (r : Int) := by rw [IntKind.wrap_i64]; omega
      have hk64 : k < 18446744073709551616 := by omega
      have hnx : Hid (¬ (i + 1) % 16 = 0 → (i + 1) / 16 = k) := by intro h; omega
      have HSi := HST.out i hlt
      rw [HSA.out, ← hr, ← hk] at HSi
      rw [← hr, ← hk] at HXE
      have HIM : Hid (i < m ∧ m ≤ 100000) := ⟨hlt, hm31⟩
      obtain ⟨Y, HY⟩ : ∃ Y, Hid (E (CI k) = Y) := ⟨_, rfl⟩
      have HYL : Hid (Y.length = 16) := by rw [← HY.out]; exact HEL.out _ (HCL.out k)
      rw [HY.out] at HSi HXE
      have HSi := Lib.hid HSi
      clear hr hk
      go_upto_if 24 with (fail)
      go_cut [24] from 25 to 32 (fun v24 wx => Hid (wx.heap[g10]? = some (.cells (Y.map bv).toArray 23 (0, 0))) ∧ Hid (wx.ownsRow q 5 1 v9 i ((CT i).map bv)) ∧ Hid (GrowA g10 W4 wx))
      case first =>
        by_cases h0 : r = 0
        · have q2 : ((r : Int) == 0) = true := by simp [h0]
          clear h0
          have CO := Lib.hid (fun W => HCO.out k W hk64)
          have RE := Lib.hid (fun A cc W hA => HRE.out (CI k) A cc W (HCL.out k) hA)
          have HCK := Lib.hid (HCL.out k)
          generalize CI k = C at CO RE HY HCK
          rw [HY.out] at RE
          go_upto_region 9 with (fail)
          have OO : Hid (∀ W, GrowA g10 wr W → W.ownsRow q 5 1 v9 i ((CT i).map bv)) := fun W hW => by
            have h2 := HO.out
            obtain ⟨h0, h | ⟨g, cap, cur, hv, hg, hh, rr⟩⟩ := h2
            · exact ⟨h0, .inl h⟩
            · exact ⟨h0, .inr ⟨g, cap, cur, hv, hg, hW.heap (by have := HQ10.out; omega) hh, rr⟩⟩
          have HX : Hid (GrowA g10 wr wr.drew) := GrowA.drew _ _
          refine regS_start (GrowA g10) (by kernel_rfl) ?_
          try simp only [Act.put, List.setIfInBounds_toArray, List.set_cons_zero, List.set_cons_succ]
          refine regS_load 0 (some 25) (fun W hW => load_arr arr256B rfl HI.out (hW.heap N7.out (HX.out.heap N7.out (HGR.out.heap N7.out M4.out)))) rfl rfl rfl rfl (by kernel_rfl) (by kernel_rfl) (by kernel_rfl) (fun _ _ _ h => h) (by rfl) ?_
          simp only [Act.put, List.setIfInBounds_toArray, List.set_cons_zero, List.set_cons_succ]
          refine regS_take (v := ?_) 1 (some 26) rfl rfl (by kernel_rfl) (by kernel_rfl) (by kernel_rfl) (fun _ _ _ h => h) (by rfl) (fun W hW => ?_) ?_
          rotate_left
          · (go_simp; try rfl)
          simp only [Act.put, List.setIfInBounds_toArray, List.set_cons_zero, List.set_cons_succ]
          refine regS_load 2 (some 27) (fun W hW => load_arr arr16B rfl (r_i16 iv HIV.out) (hW.heap N0.out (HX.out.heap N0.out (HGR.out.heap N0.out F4.out)))) rfl rfl rfl rfl (by kernel_rfl) (by kernel_rfl) (by kernel_rfl) (fun _ _ _ h => h) (by rfl) ?_
          simp only [Act.put, List.setIfInBounds_toArray, List.set_cons_zero, List.set_cons_succ]
          refine regS_take (v := ?_) 3 (some 28) rfl rfl (by kernel_rfl) (by kernel_rfl) (by kernel_rfl) (fun _ _ _ h => h) (by rfl) (fun W hW => ?_) ?_
          rotate_left
          · (go_simp; try rfl)
          simp only [Act.put, List.setIfInBounds_toArray, List.set_cons_zero, List.set_cons_succ]
          refine regS_take (v := ?_) 4 (some 29) rfl rfl (by kernel_rfl) (by kernel_rfl) (by kernel_rfl) (fun _ _ _ h => h) (by rfl) (fun W hW => ?_) ?_
          rotate_left
          · (go_simp; try rfl)
          simp only [Act.put, List.setIfInBounds_toArray, List.set_cons_zero, List.set_cons_succ]
          refine regS_take (v := ?_) 5 (some 30) rfl rfl (by kernel_rfl) (by kernel_rfl) (by kernel_rfl) (fun _ _ _ h => h) (by rfl) (fun W hW => ?_) ?_
          rotate_left
          · (go_simp; try rfl)
          simp only [Act.put, List.setIfInBounds_toArray, List.set_cons_zero, List.set_cons_succ]
          refine regS_eff 6 rfl (by kernel_rfl) (fun K hK => ?_)
          go_simp
          refine (CO.out _).mono ?_
          rintro e w5 ⟨rfl, hb⟩
          have P5 := Lib.hid ((hb.block _ (lt_of_heap (w := wr.drew) HG.out)).trans HG.out)
          have hE := GrowA.of_ext (g := g10) hb
          clear hb
          refine hK.out _ _ hE ?_
          have HX := Lib.hid (Pre.trans HX.out hE)
          clear hE hK K
          try simp only [Act.put, List.setIfInBounds_toArray, List.set_cons_zero, List.set_cons_succ]
          refine regS_eff 7 rfl (by kernel_rfl) (fun K hK => ?_)
          go_simp
          refine (RE.out _ c8 _ (KeysAt.grow (g := g10) KR4.out KL4.out NK.out (HGR.out.trans HX.out))).mono ?_
          rintro e w6 ⟨rfl, hb⟩
          have P6 := Lib.hid ((hb.block _ (lt_of_heap P5.out)).trans P5.out)
          have hE := GrowA.of_ext (g := g10) hb
          clear hb
          refine hK.out _ _ hE ?_
          have HX := Lib.hid (Pre.trans HX.out hE)
          clear hE hK K
          try simp only [Act.put, List.setIfInBounds_toArray, List.set_cons_zero, List.set_cons_succ]
          refine regS_eff 8 rfl (by kernel_rfl) (fun K hK => ?_)
          refine step_st1 rfl 23 (.tmp 10) (.tmp 32) rfl (store_arr (cs := Y.map bv) (r_i16 _ HYL.out) (bv_one _) P6.out (by rw [List.length_map, List.length_map, HXL.out, HYL.out])) ?_
          generalize hV : World.setRow _ _ _ = W7
          have hres := Lib.hid (heap_of_setRow hV P6.out)
          have hE : GrowA g10 w6 W7 := by rw [← hV]; exact GrowA.setRow _ _ _
          clear hV
          refine hK.out _ _ hE ?_
          have HX := Lib.hid (Pre.trans HX.out hE)
          clear hE hK K
          try simp only [Act.put, List.setIfInBounds_toArray, List.set_cons_zero, List.set_cons_succ]
          refine regS_done (by kernel_rfl) ?_
          go_wp2_with fail
          go_meet
          exact ⟨hres, OO.out _ HX.out, HGR.out.trans HX.out⟩
        · have q2 : ((r : Int) == 0) = false := by simp; omega
          have hXY : Hid (X = Y) := HXE.out h0
          clear h0
          go_wp2_with fail
          go_meet
          exact ⟨by rw [← hXY.out]; exact HG.out, HO, HGR⟩
      case rest =>
        obtain ⟨G5, O5, R5⟩ := hcut
        have BW : Hid (Below w.heap.size w wc) := B4.out.trans (R5.out.below (Nat.le_of_lt L0.out) B4.out.size)
        obtain ⟨pb, ob, rfl, hpb, cx⟩ := ta_sl_cell (HSb.out.below BW.out) (i := i) (by rw [HM.out]; exact hlt)
        have cy := bcellT G5.out r (by rw [HYL.out]; exact hr16)
        generalize b.getD i 0 = x at cx HSi
        generalize Y.getD r 0 = y at cy HSi
        obtain ⟨z, hz⟩ : ∃ z, z = x ^^^ y := ⟨_, rfl⟩
        have hzz : bits .xor .u8 (x.toNat : Int) (y.toNat : Int) = (z.toNat : Int) := by rw [hz]; exact xor8 x y
        rw [← hz] at HSi
        have hi31 : i + 1 ≤ 2147483647 := by omega
        have LS : Hid (q ≤ wc.heap.size) := by have h1 := R5.out.size; have h2 := HQ.out; show _ ≤ _; omega
        clear hz hpb BW
        go_upto_region 10 with (fail)
        have HS : Hid (wc.drew = wc.drew) := rfl
        have CX : Hid (wc.drew.cell? ⟨pb, ob + i, none⟩ = _) := cx
        have CY : Hid (wc.drew.cell? ⟨g10, r, none⟩ = _) := cy
        clear cx cy
        refine regK_start (9) (fun W => W = wc.drew) (by kernel_rfl) ?_
        try simp only [Act.put, List.setIfInBounds_toArray, List.set_cons_zero, List.set_cons_succ]
        refine regK_take (v := ?_) 0 (some 33) rfl rfl (by kernel_rfl) (by kernel_rfl) (by kernel_rfl) (fun _ _ _ h => h) (by rfl) (by kernel_rfl) HS.out (fun W => ?_) ?_
        rotate_left
        · (go_simp; try rfl)
        simp only [Act.put, List.setIfInBounds_toArray, List.set_cons_zero, List.set_cons_succ]
        refine regK_take (v := ?_) 1 (some 34) rfl rfl (by kernel_rfl) (by kernel_rfl) (by kernel_rfl) (fun _ _ _ h => h) (by rfl) (by kernel_rfl) HS.out (fun W => ?_) ?_
        rotate_left
        · (go_simp; try rfl)
        simp only [Act.put, List.setIfInBounds_toArray, List.set_cons_zero, List.set_cons_succ]
        refine regK_take (v := ?_) 2 (some 35) rfl rfl (by kernel_rfl) (by kernel_rfl) (by kernel_rfl) (fun _ _ _ h => h) (by rfl) (by kernel_rfl) HS.out (fun W => ?_) ?_
        rotate_left
        · (go_simp; try rfl)
        simp only [Act.put, List.setIfInBounds_toArray, List.set_cons_zero, List.set_cons_succ]
        refine regK_take (v := ?_) 3 (some 36) rfl rfl (by kernel_rfl) (by kernel_rfl) (by kernel_rfl) (fun _ _ _ h => h) (by rfl) (by kernel_rfl) HS.out (fun W => ?_) ?_
        rotate_left
        · (go_simp; try rfl)
        simp only [Act.put, List.setIfInBounds_toArray, List.set_cons_zero, List.set_cons_succ]
        refine regK_load 4 (some 37) (fun W hW => load_cell Try.underlying5 (cell_eqA hW CX.out)) rfl rfl rfl rfl (by kernel_rfl) (by kernel_rfl) (by kernel_rfl) (fun _ _ _ h => h) (by rfl) (by kernel_rfl) HS.out ?_
        simp only [Act.put, List.setIfInBounds_toArray, List.set_cons_zero, List.set_cons_succ]
        refine regK_take (v := ?_) 5 (some 38) rfl rfl (by kernel_rfl) (by kernel_rfl) (by kernel_rfl) (fun _ _ _ h => h) (by rfl) (by kernel_rfl) HS.out (fun W => ?_) ?_
        rotate_left
        · (go_simp; try rfl)
        simp only [Act.put, List.setIfInBounds_toArray, List.set_cons_zero, List.set_cons_succ]
        refine regK_take (v := ?_) 6 (some 39) rfl rfl (by kernel_rfl) (by kernel_rfl) (by kernel_rfl) (fun _ _ _ h => h) (by rfl) (by kernel_rfl) HS.out (fun W => ?_) ?_
        rotate_left
        · (go_simp; try rfl)
        simp only [Act.put, List.setIfInBounds_toArray, List.set_cons_zero, List.set_cons_succ]
        refine regK_take (v := ?_) 7 (some 40) rfl rfl (by kernel_rfl) (by kernel_rfl) (by kernel_rfl) (fun _ _ _ h => h) (by rfl) (by kernel_rfl) HS.out (fun W => ?_) ?_
        rotate_left
        · (go_simp; try rfl)
        simp only [Act.put, List.setIfInBounds_toArray, List.set_cons_zero, List.set_cons_succ]
        refine regK_load 8 (some 41) (fun W hW => load_cell Try.underlying5 (cell_eqA hW CY.out)) rfl rfl rfl rfl (by kernel_rfl) (by kernel_rfl) (by kernel_rfl) (fun _ _ _ h => h) (by rfl) (by kernel_rfl) HS.out ?_
        simp only [Act.put, List.setIfInBounds_toArray, List.set_cons_zero, List.set_cons_succ]
        refine regK_bar 9 rfl (by kernel_rfl) (by kernel_rfl) (fun K hK => ?_)
        go_simp
        refine hK.out _ _ trivial ?_
        clear hK K
        try simp only [Act.put, List.setIfInBounds_toArray, List.set_cons_zero, List.set_cons_succ]
        refine regS_eff 10 rfl (by kernel_rfl) (fun K hK => ?_)
        go_simp
        refine hK.out _ _ trivial ?_
        clear hK K
        try simp only [Act.put, List.setIfInBounds_toArray, List.set_cons_zero, List.set_cons_succ]
        refine regS_eff 11 rfl (by kernel_rfl) (fun K hK => ?_)
        obtain ⟨v6, w6, hrun, hown, hgr, _⟩ := append_row_at (P := Try.prog) (wc.drew.alloc (.cells ([z].map bv).toArray 5)) q 26 uT made8 rfl v9 i ((CT i).map bv) (k_alloc O5.out.drew _) (wc.heap.size + 1) (some ⟨wc.heap.size, 0, none⟩) 1 1 ([z].map bv) (row_of_heap (bs := [z]) (heap_alloc_new' wc.drew (.cells ([z].map bv).toArray 5)) (Nat.lt_succ_self _)) rfl (bv_one _) (by omega) (by simp [maxLen]; omega) (Nat.le_trans LS.out (by simp))
        rw [← List.map_append, ← HSi.out] at hown
        have O6 := Lib.hid hown
        have R6 : Hid (GrowA g10 W4 w6) := ((R5.out.trans (GrowA.drew _ _)).trans (GrowA.of_ext ((Below.refl _ _).alloc (Nat.le_refl _) _))).app hgr (ka_own_ge O5.out (by have := HQ.out; omega))
        have G6 : Hid (w6.heap[g10]? = some (.cells (Y.map bv).toArray 23 (0, 0))) := (hgr.block g10 (Nat.lt_of_lt_of_le (Nat.lt_of_lt_of_le HQ10.out LS.out) (by simp)) (fun e => absurd (ka_own_ge O5.out (Nat.le_refl _) g10 e.symm) (by have := HQ10.out; omega))).trans ((((Below.refl wc.drew.heap.size wc.drew).alloc (Nat.le_refl _) (.cells ([z].map bv).toArray 5)).block g10 (Nat.lt_of_lt_of_le HQ10.out LS.out)).trans G5.out)
        refine step_app rfl (.tmp 33) (.tmp 43) 26 26 rfl hrun ?_
        clear hrun hown hgr
        refine hK.out _ _ trivial ?_
        clear hK K
        try simp only [Act.put, List.setIfInBounds_toArray, List.set_cons_zero, List.set_cons_succ]
        refine regS_take (v := ?_) 12 (some 9) rfl rfl (by kernel_rfl) (by kernel_rfl) (by kernel_rfl) (fun _ _ _ h => h) (by rfl) (fun W hW => ?_) ?_
        rotate_left
        · (go_simp; try rfl)
        simp only [Act.put, List.setIfInBounds_toArray, List.set_cons_zero, List.set_cons_succ]
        refine regS_done (by kernel_rfl) ?_
        go_wp2
        go_roundw
        case rel => exact ⟨i + 1, Y, _, HIM.out.1, rfl, by go_num, HYL, fun h => by rw [hnx.out h]; exact HY.out.symm, G6, O6, R6⟩
        case measure => simp [intOf]; omega
    · have e1 : ¬ ((i : Int) < (m : Int)) := by omega
      have him : i = m := by omega
      rw [him, HXR.out] at HO
      have BW : Hid (Below w.heap.size w wr) := B4.out.trans (HGR.out.below (Nat.le_of_lt L0.out) B4.out.size)
      have O9 : Hid (wr.ownsRow w.heap.size 5 1 v9 m (XR.map bv)) := ka_own_le HO.out (by have h1 := HQ.out; have h2 := B4.out.size; omega)
      clear him
      go_wp2_with fail
      go_ret
      exact ⟨_, rfl, O9.out, BW.out⟩
end Go.Proofs.Ytjmpbcfbfbjenaa

/- Laws of layer 8: any bytes by any key and IV are what the document tells. -/
namespace Go.Proofs.Ytjmpbcfbfbjenaa
open Go.RowKit
set_option maxRecDepth 100000
set_option linter.unusedVariables false
set_option linter.unusedSimpArgs false
theorem strm_nil (iv : List UInt8) : strmF (fun _ => List.replicate 16 0) iv = fun _ => 0 := by
  funext i
  unfold strmF blkF
  rw [List.getD_eq_getElem?_getD, List.getElem?_replicate]
  split <;> rfl
theorem keyW_cases (lg : Bool) : keyW lg = 4 ∨ keyW lg = 8 := by cases lg <;> simp [keyW]
set_option maxHeartbeats 4000000 in
theorem ctrCrypts_walk (w : World) (y : List UInt8 × Bool × List UInt8) (l : y.1.length = 32 ∧ y.2.2.length = 16) (A : Option Addr) (c : Nat) (b : List UInt8) (h : Sl w A c b) :
    Calls Try.prog 3 #[.agg (kCells y.1 y.2.1 y.2.2).toArray, .slice A b.length c] w fun e w' => e = .returned (.bool true) ∧ Below w.heap.size w w' := by
  obtain ⟨k, lg, iv⟩ := y
  obtain ⟨hk, hn⟩ := l
  simp only at hk hn ⊢
  have q1 : b.length ≤ 9223372036854775807 := by have := h.1; have := h.2.1; simp [maxLen] at this; omega
  have HN := Lib.hid hn; have H := Lib.hid h
  obtain ⟨m, hm⟩ : ∃ m, b.length = m := ⟨_, rfl⟩
  have HM := Lib.hid hm
  rw [hm] at q1 ⊢
  have HKS := Lib.hid (fun W => keys_any k lg iv W hk hn)
  have HKB := Lib.hid (fun W => kbytes_any k lg iv W hk hn)
  have HZL := Lib.hid (kCells_len k iv lg hk hn)
  have Z0 := Lib.hid (kz_new w k iv lg 25 hk hn)
  have HR : Hid (1 ≤ keyW lg + 6 ∧ keyW lg + 6 ≤ 14) := by show _ ∧ _; cases lg <;> simp [keyW]
  have HRC : Hid (m ≤ 100 → ∀ A1 c1 A2 c2 W, Sl W A1 c1 (keyB k lg) → Sl W A2 c2 b → Calls Try.prog 10 #[.slice A1 (4 * keyW lg) c1, .agg (iv.map bv).toArray, .slice A2 m c2] W fun e w' => ∃ v, e = .returned v ∧ w'.ownsRow W.heap.size 5 1 v m ((ctrL (strmF (encL (expandL (keyB k lg)) (keyW lg + 6)) iv) 0 b).map bv) ∧ Below W.heap.size W w') :=
    fun h100 A1 c1 A2 c2 W s1 s2 => refCtr_any (keyB k lg) (keyW lg) A1 _ c1 iv A2 m c2 b W (keyB_len k lg hk) rfl (keyW_cases lg) hn hm (by omega) s1 s2
  have N0 := Lib.hid (heap_alloc_new' w (.cells (kCells k lg iv).toArray 25))
  clear hk hn h
  generalize kCells k lg iv = Z at HKS HKB HZL Z0 N0 ⊢
  generalize keyW lg + 6 = nr at HKS HR HRC
  generalize 4 * keyW lg = n4 at HKB HRC
  generalize expandL (keyB k lg) = ws at HKS HRC
  generalize keyB k lg = KB at HKB HRC
  by_cases hb : 100 < m
  · go_enter Try.func3, Try.ntmps3
    go_wp2
    go_ret
    exact ⟨rfl, (Below.refl _ _).alloc (Nat.le_refl _) _⟩
  have hbb : m ≤ 100 := by omega
  have HRC := Lib.hid (HRC.out hbb)
  clear hb q1 hm
  go_enter Try.func3, Try.ntmps3
  go_wp2_with (first
    | (refine wpList_ld rfl 25 (.tmp 2) rfl (load_arr Try.underlying25 rfl (by rw [HZL.out]; exact iKey) (heap_alloc_new' w _)) ?_)
    | fail)
  generalize hV : w.alloc _ = Wa at Z0 N0 ⊢
  have Ba := Lib.hid (below_of_alloc hV (Nat.le_refl w.heap.size))
  clear hV
  refine (HKS.out Wa).mono ?_
  rintro e W0 ⟨gk, rfl, _, hK, hb0⟩
  have K0 := Lib.hid (KeyAt.enc hK HR.out.1 HR.out.2)
  have B0 := Lib.hid (Ba.out.step hb0)
  have Z1 := Lib.hid (Z0.out.ext hb0)
  have N1 := Lib.hid ((hb0.block _ (lt_of_heap N0.out)).trans N0.out)
  clear hK hb0 Ba HKS Z0 N0
  have HNL : Hid (ctrL (strmF (fun _ => List.replicate 16 0) iv) 0 b = b) := by show _ = _; rw [strm_nil]; exact ctrL_zero b 0
  have CN := Lib.hid (fun A c W hS => Crypt_any (.pointer none) (fun _ => List.replicate 16 0) iv A m c b W HN.out (enc_nil W) HM.out (by omega) hS)
  rw [HNL.out] at CN
  generalize encL ws nr = E at K0 HRC
  have H0 := Lib.hid (H.out.below B0.out)
  have CC := Lib.hid (fun A c W hK hS => Crypt_any (.pointer (some ⟨gk, 0, none⟩)) E iv A m c b W HN.out hK HM.out (by omega) hS)
  have HXL : Hid ((ctrL (strmF E iv) 0 b).length = m) := by rw [ctrL_len]; exact HM
  generalize ctrL (strmF E iv) 0 b = X at CC HRC HXL
  have hq1 : ((strOf X).toList == (strOf X).toList) = true := beq_self_eq_true _
  have hq2 : ((strOf b).toList == (strOf b).toList) = true := beq_self_eq_true _
  go_wp2_with fail
  have HX : Hid (Ext W0 W0.drew) := (Below.refl _ _).drew
  refine reg_start (by kernel_rfl) ?_
  try simp only [Act.put, List.setIfInBounds_toArray, List.set_cons_zero, List.set_cons_succ]
  refine reg_take (v := ?_) 0 (some 17) rfl rfl (by kernel_rfl) (by kernel_rfl) (by kernel_rfl) (fun _ _ _ h => h) (by rfl) (fun W hW => ?_) ?_
  rotate_left
  · (go_simp; try rfl)
  simp only [Act.put, List.setIfInBounds_toArray, List.set_cons_zero, List.set_cons_succ]
  refine reg_take (v := ?_) 1 (some 18) rfl rfl (by kernel_rfl) (by kernel_rfl) (by kernel_rfl) (fun _ _ _ h => h) (by rfl) (fun W hW => ?_) ?_
  rotate_left
  · (go_simp; try rfl)
  simp only [Act.put, List.setIfInBounds_toArray, List.set_cons_zero, List.set_cons_succ]
  refine reg_load 2 (some 19) (fun W hW => run_loadAt_mid W w.heap.size 33 23 (iv.map bv) _ (Z1.out.ext (HX.out.trans hW)).2.2.2 arr16B rfl (i16z iv HN.out)) rfl rfl rfl rfl (by kernel_rfl) (by kernel_rfl) (by kernel_rfl) (fun _ _ _ h => h) (by rfl) ?_
  simp only [Act.put, List.setIfInBounds_toArray, List.set_cons_zero, List.set_cons_succ]
  refine reg_take (v := ?_) 3 (some 20) rfl rfl (by kernel_rfl) (by kernel_rfl) (by kernel_rfl) (fun _ _ _ h => h) (by rfl) (fun W hW => ?_) ?_
  rotate_left
  · (go_simp; try rfl)
  simp only [Act.put, List.setIfInBounds_toArray, List.set_cons_zero, List.set_cons_succ]
  refine reg_load 6 (some 23) (fun W hW => load_arr Try.underlying25 rfl (by rw [HZL.out]; exact iKey) (((HX.out.trans hW).block _ (lt_of_heap N1.out)).trans N1.out)) rfl rfl rfl rfl (by kernel_rfl) (by kernel_rfl) (by kernel_rfl) (fun _ _ _ h => h) (by rfl) ?_
  simp only [Act.put, List.setIfInBounds_toArray, List.set_cons_zero, List.set_cons_succ]
  refine reg_take (v := ?_) 8 (some 25) rfl rfl (by kernel_rfl) (by kernel_rfl) (by kernel_rfl) (fun _ _ _ h => h) (by rfl) (fun W hW => ?_) ?_
  rotate_left
  · (go_simp; try rfl)
  simp only [Act.put, List.setIfInBounds_toArray, List.set_cons_zero, List.set_cons_succ]
  refine reg_load 9 (some 26) (fun W hW => run_loadAt_mid W w.heap.size 33 23 (iv.map bv) _ (Z1.out.ext (HX.out.trans hW)).2.2.2 arr16B rfl (i16z iv HN.out)) rfl rfl rfl rfl (by kernel_rfl) (by kernel_rfl) (by kernel_rfl) (fun _ _ _ h => h) (by rfl) ?_
  simp only [Act.put, List.setIfInBounds_toArray, List.set_cons_zero, List.set_cons_succ]
  refine reg_take (v := ?_) 10 (some 27) rfl rfl (by kernel_rfl) (by kernel_rfl) (by kernel_rfl) (fun _ _ _ h => h) (by rfl) (fun W hW => ?_) ?_
  rotate_left
  · (go_simp; try rfl)
  simp only [Act.put, List.setIfInBounds_toArray, List.set_cons_zero, List.set_cons_succ]
  refine reg_eff 4 rfl (by kernel_rfl) (fun K hK => ?_)
  go_simp
  refine (CC.out A c _ (K0.out.ext HX.out) (H0.out.extk HX.out)).mono ?_
  rintro e w1 ⟨v1, rfl, hO1, hE⟩
  obtain ⟨A1, c1, rfl, hl1, hc1, hm1, hr1⟩ := own_read hO1
  have S1 : Hid (Sl w1 A1 c1 X) := ⟨by omega, hm1, hr1⟩
  have X1 : Hid (Ext w1 w1) := Below.refl _ _
  clear hO1 hc1 hm1 hr1 hl1
  refine hK.out _ _ hE ?_
  have HX := Lib.hid (Ext.trans HX.out hE)
  clear hE hK K
  try simp only [Act.put, List.setIfInBounds_toArray, List.set_cons_zero, List.set_cons_succ]
  refine reg_conv 5 (some 22) (fun W hW => conv_string W A1 m c1 X HXL.out (S1.out.extk (X1.out.trans hW))) rfl rfl rfl rfl (by kernel_rfl) (by kernel_rfl) (by kernel_rfl) (fun _ _ _ h => h) (by rfl) ?_
  simp only [Act.put, List.setIfInBounds_toArray, List.set_cons_zero, List.set_cons_succ]
  refine reg_eff 7 rfl (by kernel_rfl) (fun K hK => ?_)
  go_simp
  refine (HKB.out _).mono ?_
  rintro e w2 ⟨rfl, hS2, hE⟩
  have S2 := Lib.hid hS2
  have X1 : Hid (Ext w1 w2) := hE
  clear hS2
  refine hK.out _ _ hE ?_
  have HX := Lib.hid (Ext.trans HX.out hE)
  clear hE hK K
  try simp only [Act.put, List.setIfInBounds_toArray, List.set_cons_zero, List.set_cons_succ]
  refine reg_eff 11 rfl (by kernel_rfl) (fun K hK => ?_)
  go_simp
  refine (HRC.out _ _ A c _ S2.out (H0.out.extk HX.out)).mono ?_
  rintro e w3 ⟨v3, rfl, hO3, hE⟩
  obtain ⟨A3, c3, rfl, hl3, hc3, hm3, hr3⟩ := own_read hO3
  have S3 : Hid (Sl w3 A3 c3 X) := ⟨by omega, hm3, hr3⟩
  have X3 : Hid (Ext w1 w3) := Ext.trans X1.out hE
  clear hO3 hc3 hm3 hr3 hl3
  refine hK.out _ _ hE ?_
  have HX := Lib.hid (Ext.trans HX.out hE)
  clear hE hK K
  try simp only [Act.put, List.setIfInBounds_toArray, List.set_cons_zero, List.set_cons_succ]
  refine reg_conv 12 (some 29) (fun W hW => conv_string W A3 m c3 X HXL.out (S3.out.extk hW)) rfl rfl rfl rfl (by kernel_rfl) (by kernel_rfl) (by kernel_rfl) (fun _ _ _ h => h) (by rfl) ?_
  simp only [Act.put, List.setIfInBounds_toArray, List.set_cons_zero, List.set_cons_succ]
  refine reg_take (v := ?_) 13 (some 30) rfl rfl (by kernel_rfl) (by kernel_rfl) (by kernel_rfl) (fun _ _ _ h => h) (by rfl) (fun W hW => ?_) ?_
  rotate_left
  · (go_simp; try rfl)
  simp only [Act.put, List.setIfInBounds_toArray, List.set_cons_zero, List.set_cons_succ]
  refine reg_take (v := ?_) 14 (some 31) rfl rfl (by kernel_rfl) (by kernel_rfl) (by kernel_rfl) (fun _ _ _ h => h) (by rfl) (fun W hW => ?_) ?_
  rotate_left
  · (go_simp; try rfl)
  simp only [Act.put, List.setIfInBounds_toArray, List.set_cons_zero, List.set_cons_succ]
  refine reg_take (v := ?_) 15 (some 32) rfl rfl (by kernel_rfl) (by kernel_rfl) (by kernel_rfl) (fun _ _ _ h => h) (by rfl) (fun W hW => ?_) ?_
  rotate_left
  · (go_simp; try rfl)
  simp only [Act.put, List.setIfInBounds_toArray, List.set_cons_zero, List.set_cons_succ]
  refine reg_load 16 (some 33) (fun W hW => run_loadAt_mid W w.heap.size 33 23 (iv.map bv) _ (Z1.out.ext (HX.out.trans hW)).2.2.2 arr16B rfl (i16z iv HN.out)) rfl rfl rfl rfl (by kernel_rfl) (by kernel_rfl) (by kernel_rfl) (fun _ _ _ h => h) (by rfl) ?_
  simp only [Act.put, List.setIfInBounds_toArray, List.set_cons_zero, List.set_cons_succ]
  refine reg_take (v := ?_) 17 (some 34) rfl rfl (by kernel_rfl) (by kernel_rfl) (by kernel_rfl) (fun _ _ _ h => h) (by rfl) (fun W hW => ?_) ?_
  rotate_left
  · (go_simp; try rfl)
  simp only [Act.put, List.setIfInBounds_toArray, List.set_cons_zero, List.set_cons_succ]
  refine reg_take (v := ?_) 20 (some 37) rfl rfl (by kernel_rfl) (by kernel_rfl) (by kernel_rfl) (fun _ _ _ h => h) (by rfl) (fun W hW => ?_) ?_
  rotate_left
  · (go_simp; try rfl)
  simp only [Act.put, List.setIfInBounds_toArray, List.set_cons_zero, List.set_cons_succ]
  refine reg_conv 21 (some 38) (fun W hW => conv_string W A m c b HM.out (H0.out.extk (HX.out.trans hW))) rfl rfl rfl rfl (by kernel_rfl) (by kernel_rfl) (by kernel_rfl) (fun _ _ _ h => h) (by rfl) ?_
  simp only [Act.put, List.setIfInBounds_toArray, List.set_cons_zero, List.set_cons_succ]
  refine reg_eff 18 rfl (by kernel_rfl) (fun K hK => ?_)
  go_simp
  refine (CN.out A c _ (H0.out.extk HX.out)).mono ?_
  rintro e w4 ⟨v4, rfl, hO4, hE⟩
  obtain ⟨A4, c4, rfl, hl4, hc4, hm4, hr4⟩ := own_read hO4
  have S4 : Hid (Sl w4 A4 c4 b) := ⟨by omega, hm4, hr4⟩
  clear hO4 hc4 hm4 hr4 hl4
  refine hK.out _ _ hE ?_
  have HX := Lib.hid (Ext.trans HX.out hE)
  clear hE hK K
  try simp only [Act.put, List.setIfInBounds_toArray, List.set_cons_zero, List.set_cons_succ]
  refine reg_conv 19 (some 36) (fun W hW => conv_string W A4 m c4 b HM.out (S4.out.extk hW)) rfl rfl rfl rfl (by kernel_rfl) (by kernel_rfl) (by kernel_rfl) (fun _ _ _ h => h) (by rfl) ?_
  simp only [Act.put, List.setIfInBounds_toArray, List.set_cons_zero, List.set_cons_succ]
  refine reg_take (v := ?_) 22 (some 39) rfl rfl (by kernel_rfl) (by kernel_rfl) (by kernel_rfl) (fun _ _ _ h => h) (by rfl) (fun W hW => ?_) ?_
  rotate_left
  · (go_simp; try rfl)
  simp only [Act.put, List.setIfInBounds_toArray, List.set_cons_zero, List.set_cons_succ]
  refine reg_take (v := ?_) 23 (some 40) rfl rfl (by kernel_rfl) (by kernel_rfl) (by kernel_rfl) (fun _ _ _ h => h) (by rfl) (fun W hW => ?_) ?_
  rotate_left
  · (go_simp; try rfl)
  simp only [Act.put, List.setIfInBounds_toArray, List.set_cons_zero, List.set_cons_succ]
  refine reg_take (v := ?_) 24 (some 41) rfl rfl (by kernel_rfl) (by kernel_rfl) (by kernel_rfl) (fun _ _ _ h => h) (by rfl) (fun W hW => ?_) ?_
  rotate_left
  · (go_simp; try rfl)
  simp only [Act.put, List.setIfInBounds_toArray, List.set_cons_zero, List.set_cons_succ]
  refine reg_eff 25 rfl (by kernel_rfl) (fun K hK => ?_)
  go_simp
  refine (awake8_any _).mono ?_
  rintro e w10 ⟨rfl, hE⟩
  refine hK.out _ _ hE ?_
  have HX := Lib.hid (Ext.trans HX.out hE)
  clear hE hK K
  try simp only [Act.put, List.setIfInBounds_toArray, List.set_cons_zero, List.set_cons_succ]
  refine reg_take (v := ?_) 26 (some 43) rfl rfl (by kernel_rfl) (by kernel_rfl) (by kernel_rfl) (fun _ _ _ h => h) (by rfl) (fun W hW => ?_) ?_
  rotate_left
  · (go_simp; try rfl)
  simp only [Act.put, List.setIfInBounds_toArray, List.set_cons_zero, List.set_cons_succ]
  refine reg_take (v := ?_) 27 (some 4) rfl rfl (by kernel_rfl) (by kernel_rfl) (by kernel_rfl) (fun _ _ _ h => h) (by rfl) (fun W hW => ?_) ?_
  rotate_left
  · (go_simp; try rfl)
  simp only [Act.put, List.setIfInBounds_toArray, List.set_cons_zero, List.set_cons_succ]
  refine reg_done (by kernel_rfl) ?_
  go_wp2
  go_ret
  exact ⟨rfl, B0.out.step HX.out⟩
end Go.Proofs.Ytjmpbcfbfbjenaa

/- Rows of rows of bytes that come in. -/
namespace Go.Proofs.Ytjmpbcfbfbjenaa
open Go.RowKit Go.ChangeShapes Go.WideShapes Go.ChangeAt
set_option maxRecDepth 100000
set_option linter.unusedVariables false
theorem open_bytes_cs {H : Type} {enc : TypeId × Value → H} {W : World} {fuel : Nat} {cs : List Value} {x : DataW H × List MemPlace}
    (hf : DataW.trod enc Try.prog W 0 (fun _ => true) true fuel 26 cs = some x) : ∃ A c bs, cs = [.slice A (bs : List UInt8).length c] ∧ Sl W A c bs := by
  rcases open_ints Try.underlying26 Try.underlying5 (by kernel_rfl) hf with ⟨hcs, _⟩ | ⟨x, l, c, zs, hcs, _, hl, hm, hz, hp, hcell, hwz⟩
  · exact ⟨none, 0, [], hcs, by simp, by simp [maxLen], .inl rfl⟩
  · obtain ⟨bs, rfl⟩ := bytes_of hwz
    have hlen : bs.length = c := by simpa using hz
    refine ⟨_, c, bs.take l, by rw [hcs, List.length_take, Nat.min_eq_left (by omega)], by rw [List.length_take]; omega, hm, ?_⟩
    by_cases h0 : l = 0
    · subst h0; exact .inl (by simp)
    · have hc0 := hcell 0 (by simp; omega)
      obtain ⟨b, o, spot⟩ := x
      have hspot : spot = none := by simpa [Addr.add] using World.cell?_spot hc0
      subst hspot
      refine .inr ⟨b, o, rfl, ?_, fun j u hu => ?_⟩
      · rcases Nat.lt_or_ge b W.heap.size with hlt | hge
        · exact hlt
        · rw [add_none] at hc0
          simp [World.cell?, Array.getElem?_eq_none hge] at hc0
      · rw [List.getElem?_map, List.getElem?_take] at hu
        split at hu
        · rename_i hj
          have hjl : j < bs.length := by omega
          have hc := hcell j (by simpa using hjl)
          rw [add_none] at hc
          rw [hc]
          rw [List.getElem?_eq_getElem hjl] at hu
          simp [hjl, List.getD] at hu ⊢
          exact hu
        · simp at hu
abbrev Part := Option Addr × Nat × List UInt8
def partV (q : Part) : Value := .slice q.1 q.2.2.length q.2.1
/-- what a walk is told of a row of rows of bytes that came in -/
def PartsAt (w : World) (y : Option Addr × Nat × List Part) : Prop :=
  y.2.2.length ≤ y.2.1 ∧ y.2.1 ≤ maxLen ∧ (∀ q ∈ y.2.2, Sl w q.1 q.2.1 q.2.2) ∧ RowAt w w.heap.size y.1 (y.2.2.map partV)
theorem build_parts {α : Type} {P : Nat → α → Prop} (n : Nat) (h : ∀ i, i < n → ∃ q, P i q) : ∃ l : List α, l.length = n ∧ ∀ i q, l[i]? = some q → P i q := by
  induction n with
  | zero => exact ⟨[], rfl, fun i q hq => by simp at hq⟩
  | succ n ih =>
    obtain ⟨l, hl, hP⟩ := ih (fun i hi => h i (by omega))
    obtain ⟨q, hq⟩ := h n (by omega)
    refine ⟨l ++ [q], by simp [hl], fun i r hr => ?_⟩
    by_cases hi : i < n
    · rw [List.getElem?_append_left (by omega)] at hr; exact hP i r hr
    · have hlt := (List.getElem?_eq_some_iff.1 hr).1
      simp at hlt
      have : i = n := by omega
      subst this
      rw [List.getElem?_append_right (by omega), hl, Nat.sub_self] at hr
      simp at hr; rw [← hr]; exact hq
theorem open_____uint8 {H : Type} {enc : TypeId × Value → H} {W : World} {base : Nat} {v : Value} {d : DataW H} {p : List MemPlace}
    (hv : Value.okWide Try.prog W .any base 112 v) (h : DataW.Trod enc Try.prog W 0 (fun _ => true) true 112 v d p) :
    ∃ y : Option Addr × Nat × List Part, v = .slice y.1 y.2.2.length y.2.1 ∧ PartsAt W y := by
  obtain ⟨a0, len0, cap0, rfl⟩ := okWide_slice Try.underlying112 hv
  obtain ⟨fuel, hf⟩ := h
  have hc1 : Try.prog.cellsOf 26 = 1 := by kernel_rfl
  rcases DataW.trod_slice Try.underlying112 hf with ⟨hcs, _⟩ | ⟨a, len, cap, elems, rest, n, _, hcs, _, _, hl, hm, hlen, hel, _, _⟩
  · simp [Value.cells] at hcs
    obtain ⟨rfl, rfl, rfl⟩ := hcs
    exact ⟨(none, 0, []), rfl, by simp, by simp [maxLen], by simp, .inl rfl⟩
  · simp [Value.cells] at hcs
    obtain ⟨rfl, rfl, rfl⟩ := hcs
    have each : ∀ i, i < len0 → ∃ q : Part, W.cell? (a.add i) = some (partV q) ∧ Sl W q.1 q.2.1 q.2.2 := by
      intro i hi
      have h1 := hel i hi
      rw [List.getElem?_eq_getElem (by omega), hc1, Nat.mul_one, Option.bind_eq_some_iff] at h1
      obtain ⟨cs', hcs, hy'⟩ := h1
      obtain ⟨A, c, bs, rfl, hs⟩ := open_bytes_cs hy'
      exact ⟨(A, c, bs), cell_of_cells?_one hcs, hs⟩
    obtain ⟨ps, hpl, hps⟩ := build_parts len0 each
    refine ⟨(some a, cap0, ps), by simp [hpl], by simp [hpl]; exact hl, hm, ?_, ?_⟩
    · intro q hq
      obtain ⟨i, hi⟩ := List.getElem?_of_mem hq
      exact (hps i q hi).2
    · by_cases h0 : len0 = 0
      · exact .inl (by simp [List.eq_nil_of_length_eq_zero (l := ps) (by omega)])
      · obtain ⟨q0, hc0, _⟩ := each 0 (by omega)
        obtain ⟨b, o, spot⟩ := a
        have hspot : spot = none := by simpa [Addr.add] using World.cell?_spot hc0
        subst hspot
        refine .inr ⟨b, o, rfl, ?_, fun j u hu => ?_⟩
        · rcases Nat.lt_or_ge b W.heap.size with hlt | hge
          · exact hlt
          · rw [add_none] at hc0
            simp [World.cell?, Array.getElem?_eq_none hge] at hc0
        · rw [List.getElem?_map] at hu
          cases hq : ps[j]? with
          | none => simp [hq] at hu
          | some q =>
            simp [hq] at hu
            rw [← hu, ← add_none]
            exact (hps j q hq).1
end Go.Proofs.Ytjmpbcfbfbjenaa
