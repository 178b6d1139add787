/- Contracts of the document's own Xor, Left, Count. -/
import Derived.Test.YtobadceiokncnaaRef1
import Derived.Test.YtobadceiokncnaaCount
namespace Go.Proofs.Ytobadceiokncnaa
open Go.RowKit
set_option linter.unusedVariables false
set_option linter.unusedSimpArgs false

theorem nat_or_xor (x y : Nat) (hx : x < 256) (hy : y < 256) : x ||| y = (x ^^^ y) + (x &&& y) := by
  have hA : (BitVec.ofNat 16 x).toNat = x := by rw [BitVec.toNat_ofNat]; omega
  have hB : (BitVec.ofNat 16 y).toNat = y := by rw [BitVec.toNat_ofNat]; omega
  generalize BitVec.ofNat 16 x = a at hA
  generalize BitVec.ofNat 16 y = b at hB
  have h1 : (a ^^^ b) &&& (a &&& b) = 0#16 := by
    apply BitVec.eq_of_getLsbD_eq; intro i hi
    simp only [BitVec.getLsbD_and, BitVec.getLsbD_xor, BitVec.getLsbD_zero]
    cases a.getLsbD i <;> cases b.getLsbD i <;> rfl
  have h2 : (a ^^^ b) ||| (a &&& b) = a ||| b := by
    apply BitVec.eq_of_getLsbD_eq; intro i hi
    simp only [BitVec.getLsbD_and, BitVec.getLsbD_xor, BitVec.getLsbD_or]
    cases a.getLsbD i <;> cases b.getLsbD i <;> rfl
  have h3 := congrArg BitVec.toNat ((BitVec.add_eq_or_of_and_eq_zero _ _ h1).trans h2)
  rw [BitVec.toNat_add, BitVec.toNat_xor, BitVec.toNat_and, BitVec.toNat_or, hA, hB] at h3
  have b1 : x ^^^ y < 2 ^ 8 := Nat.xor_lt_two_pow (by omega) (by omega)
  have b2 : x &&& y < 2 ^ 8 := Nat.and_lt_two_pow _ (by omega)
  omega
theorem sub8 (x y : UInt8) : IntKind.u8.wrap (bits .or .u8 (x.toNat : Int) (y.toNat : Int) - bits .and .u8 (x.toNat : Int) (y.toNat : Int)) = ((x ^^^ y).toNat : Int) := by
  have hx := x.toNat_lt
  have hy := y.toNat_lt
  rw [u8_or_nat _ _ hx hy, u8_and_nat _ _ hx hy, UInt8.toNat_xor, IntKind.wrap_u8', nat_or_xor _ _ hx hy]
  have b1 : x.toNat ^^^ y.toNat < 2 ^ 8 := Nat.xor_lt_two_pow (by omega) (by omega)
  omega

theorem refXor_any (A A' : Option Addr) (n n' m c c' : Nat) (a b : List UInt8) (w : World) (hl : a.length = n) (hl' : b.length = n') (hm : min n n' = m) (h : Sl w A c a) (h' : Sl w A' c' b) (hn : n ≤ 2147483647) (hn' : n' ≤ 2147483647) :
    Calls Try.prog 21 #[.slice A n c, .slice A' n' c'] w fun e w' => ∃ v, e = .returned v ∧ w'.ownsRow w.heap.size 5 1 v m ((xorL a b).map bv) ∧ Below w.heap.size w w' := by
  have HL := Lib.hid hl; have HL' := Lib.hid hl'; have HM := Lib.hid hm; have H := Lib.hid h; have H' := Lib.hid h'
  clear hl hl' hm h h'
  go_enter Try.func21, Try.ntmps21
  go_wp2_with fail
  go_loopw [5, 6] (fun ov iv wr => ∃ (k : Nat), k ≤ n ∧ k ≤ n' ∧ iv = .int .i64 k ∧ Hid (wr.ownsRow w.heap.size 5 1 ov k (((xorL a b).take k).map bv)) ∧ Hid (Below w.heap.size w wr)) (fun _ i _ => n - (intOf i).toNat)
  case atStart => exact ⟨0, by omega, by omega, rfl, by simpa [Hid] using World.ownsRow_nil w w.heap.size 5 1, Below.refl _ _⟩
  case round =>
    obtain ⟨k, hk, hk', rfl, HO, HB⟩ := hrel
    by_cases hlt : k < n
    · by_cases hlt' : k < n'
      · obtain ⟨p, q, rfl, hp, r⟩ := H.out.2.2.at_ (by have := HL.out; simp; omega)
        obtain ⟨p', q', rfl, hp', r'⟩ := H'.out.2.2.at_ (by have := HL'.out; simp; omega)
        have ka : k < a.length := by have := HL.out; omega
        have kb : k < b.length := by have := HL'.out; omega
        have c1 : w.cell? ⟨p, q + k, none⟩ = some (.int .u8 (a[k].toNat : Int)) := r k _ (by simp [ka, bv])
        have c2 : w.cell? ⟨p', q' + k, none⟩ = some (.int .u8 (b[k].toNat : Int)) := r' k _ (by simp [kb, bv])
        have hs : (xorL a b).take (k + 1) = (xorL a b).take k ++ [a[k] ^^^ b[k]] := by
          rw [List.take_succ_eq_append_getElem (by rw [xorL_len]; omega)]
          simp [xorL]
        have HS := Lib.hid hs
        clear hs r r'
        generalize a[k] = x at c1 HS
        generalize b[k] = y at c2 HS
        clear ka kb
        have e1 : (k : Int) < (n : Int) := by omega
        have e2 : (k : Int) < (n' : Int) := by omega
        have hx := sub8 x y
        generalize x ^^^ y = z at HS hx
        have HX : Hid (Below w.heap.size w wr.drew) := HB.out.drew
        go_wp2_with fail
        refine regB_start (w.heap.size) (by kernel_rfl) ?_
        try simp only [Act.put, List.setIfInBounds_toArray, List.set_cons_zero, List.set_cons_succ]
        refine regB_take (v := ?_) 0 (some 19) rfl rfl (by kernel_rfl) (by kernel_rfl) (by kernel_rfl) (fun _ _ _ h => h) (by rfl) (fun W hW => ?_) ?_
        rotate_left
        · (go_simp; try rfl)
        simp only [Act.put, List.setIfInBounds_toArray, List.set_cons_zero, List.set_cons_succ]
        refine regB_take (v := ?_) 1 (some 20) rfl rfl (by kernel_rfl) (by kernel_rfl) (by kernel_rfl) (fun _ _ _ h => h) (by rfl) (fun W hW => ?_) ?_
        rotate_left
        · (go_simp; try rfl)
        simp only [Act.put, List.setIfInBounds_toArray, List.set_cons_zero, List.set_cons_succ]
        refine regB_take (v := ?_) 2 (some 21) rfl rfl (by kernel_rfl) (by kernel_rfl) (by kernel_rfl) (fun _ _ _ h => h) (by rfl) (fun W hW => ?_) ?_
        rotate_left
        · (go_simp; try rfl)
        simp only [Act.put, List.setIfInBounds_toArray, List.set_cons_zero, List.set_cons_succ]
        refine regB_take (v := ?_) 3 (some 22) rfl rfl (by kernel_rfl) (by kernel_rfl) (by kernel_rfl) (fun _ _ _ h => h) (by rfl) (fun W hW => ?_) ?_
        rotate_left
        · (go_simp; try rfl)
        simp only [Act.put, List.setIfInBounds_toArray, List.set_cons_zero, List.set_cons_succ]
        refine regB_load 4 (some 23) (fun W hW => load_cell Try.underlying5 ((hW.cell hp).trans ((HX.out.cell hp).trans c1))) rfl rfl rfl rfl (by kernel_rfl) (by kernel_rfl) (by kernel_rfl) (fun _ _ _ h => h) (by rfl) ?_
        simp only [Act.put, List.setIfInBounds_toArray, List.set_cons_zero, List.set_cons_succ]
        refine regB_take (v := ?_) 5 (some 24) rfl rfl (by kernel_rfl) (by kernel_rfl) (by kernel_rfl) (fun _ _ _ h => h) (by rfl) (fun W hW => ?_) ?_
        rotate_left
        · (go_simp; try rfl)
        simp only [Act.put, List.setIfInBounds_toArray, List.set_cons_zero, List.set_cons_succ]
        refine regB_take (v := ?_) 6 (some 25) rfl rfl (by kernel_rfl) (by kernel_rfl) (by kernel_rfl) (fun _ _ _ h => h) (by rfl) (fun W hW => ?_) ?_
        rotate_left
        · (go_simp; try rfl)
        simp only [Act.put, List.setIfInBounds_toArray, List.set_cons_zero, List.set_cons_succ]
        refine regB_take (v := ?_) 7 (some 26) rfl rfl (by kernel_rfl) (by kernel_rfl) (by kernel_rfl) (fun _ _ _ h => h) (by rfl) (fun W hW => ?_) ?_
        rotate_left
        · (go_simp; try rfl)
        simp only [Act.put, List.setIfInBounds_toArray, List.set_cons_zero, List.set_cons_succ]
        refine regB_load 8 (some 27) (fun W hW => load_cell Try.underlying5 ((hW.cell hp').trans ((HX.out.cell hp').trans c2))) rfl rfl rfl rfl (by kernel_rfl) (by kernel_rfl) (by kernel_rfl) (fun _ _ _ h => h) (by rfl) ?_
        simp only [Act.put, List.setIfInBounds_toArray, List.set_cons_zero, List.set_cons_succ]
        refine regB_take (v := ?_) 9 (some 28) rfl rfl (by kernel_rfl) (by kernel_rfl) (by kernel_rfl) (fun _ _ _ h => h) (by rfl) (fun W hW => ?_) ?_
        rotate_left
        · (go_simp; try rfl)
        simp only [Act.put, List.setIfInBounds_toArray, List.set_cons_zero, List.set_cons_succ]
        refine regB_take (v := ?_) 10 (some 29) rfl rfl (by kernel_rfl) (by kernel_rfl) (by kernel_rfl) (fun _ _ _ h => h) (by rfl) (fun W hW => ?_) ?_
        rotate_left
        · (go_simp; try rfl)
        simp only [Act.put, List.setIfInBounds_toArray, List.set_cons_zero, List.set_cons_succ]
        refine regB_take (v := ?_) 11 (some 30) rfl rfl (by kernel_rfl) (by kernel_rfl) (by kernel_rfl) (fun _ _ _ h => h) (by rfl) (fun W hW => ?_) ?_
        rotate_left
        · (go_simp; try rfl)
        simp only [Act.put, List.setIfInBounds_toArray, List.set_cons_zero, List.set_cons_succ]
        refine regB_take (v := ?_) 12 (some 31) rfl rfl (by kernel_rfl) (by kernel_rfl) (by kernel_rfl) (fun _ _ _ h => h) (by rfl) (fun W hW => ?_) ?_
        rotate_left
        · (go_simp; try rfl)
        simp only [Act.put, List.setIfInBounds_toArray, List.set_cons_zero, List.set_cons_succ]
        refine regB_load 13 (some 32) (fun W hW => load_cell Try.underlying5 ((hW.cell hp).trans ((HX.out.cell hp).trans c1))) rfl rfl rfl rfl (by kernel_rfl) (by kernel_rfl) (by kernel_rfl) (fun _ _ _ h => h) (by rfl) ?_
        simp only [Act.put, List.setIfInBounds_toArray, List.set_cons_zero, List.set_cons_succ]
        refine regB_take (v := ?_) 14 (some 33) rfl rfl (by kernel_rfl) (by kernel_rfl) (by kernel_rfl) (fun _ _ _ h => h) (by rfl) (fun W hW => ?_) ?_
        rotate_left
        · (go_simp; try rfl)
        simp only [Act.put, List.setIfInBounds_toArray, List.set_cons_zero, List.set_cons_succ]
        refine regB_take (v := ?_) 15 (some 34) rfl rfl (by kernel_rfl) (by kernel_rfl) (by kernel_rfl) (fun _ _ _ h => h) (by rfl) (fun W hW => ?_) ?_
        rotate_left
        · (go_simp; try rfl)
        simp only [Act.put, List.setIfInBounds_toArray, List.set_cons_zero, List.set_cons_succ]
        refine regB_take (v := ?_) 16 (some 35) rfl rfl (by kernel_rfl) (by kernel_rfl) (by kernel_rfl) (fun _ _ _ h => h) (by rfl) (fun W hW => ?_) ?_
        rotate_left
        · (go_simp; try rfl)
        simp only [Act.put, List.setIfInBounds_toArray, List.set_cons_zero, List.set_cons_succ]
        refine regB_load 17 (some 36) (fun W hW => load_cell Try.underlying5 ((hW.cell hp').trans ((HX.out.cell hp').trans c2))) rfl rfl rfl rfl (by kernel_rfl) (by kernel_rfl) (by kernel_rfl) (fun _ _ _ h => h) (by rfl) ?_
        simp only [Act.put, List.setIfInBounds_toArray, List.set_cons_zero, List.set_cons_succ]
        refine regB_take (v := ?_) 18 (some 37) rfl rfl (by kernel_rfl) (by kernel_rfl) (by kernel_rfl) (fun _ _ _ h => h) (by rfl) (fun W hW => ?_) ?_
        rotate_left
        · (go_simp; try rfl)
        simp only [Act.put, List.setIfInBounds_toArray, List.set_cons_zero, List.set_cons_succ]
        refine regB_take (v := ?_) 19 (some 38) rfl rfl (by kernel_rfl) (by kernel_rfl) (by kernel_rfl) (fun _ _ _ h => h) (by rfl) (fun W hW => ?_) ?_
        rotate_left
        · (go_simp; try rfl)
        simp only [Act.put, List.setIfInBounds_toArray, List.set_cons_zero, List.set_cons_succ]
        refine regB_eff 20 rfl (by kernel_rfl) (fun K hK => ?_)
        go_simp
        have hE : Below w.heap.size wr.drew (wr.alloc (.cells #[.int .u8 (z.toNat : Int)] 5)).drew := ((Below.refl _ wr.drew).alloc HB.out.size _)
        refine hK.out _ _ hE ?_
        have HX := Lib.hid (Below.trans HX.out hE)
        clear hE hK K
        try simp only [Act.put, List.setIfInBounds_toArray, List.set_cons_zero, List.set_cons_succ]
        refine regB_eff 21 rfl (by kernel_rfl) (fun K hK => ?_)
        refine step_app8 rfl (.tmp 19) (.tmp 39) rfl w.heap.size _ k ((xorL a b).take k) rfl ?_ _ 1 1 (wr.heap.size + 1) [z] rfl ?_ ?_ ?_ ?_ ?_
        · exact HO.out.alloc _
        · exact row_of_heap (w := (wr.alloc _).drew) (heap_alloc_new' wr _) (Nat.lt_succ_self _)
        · rfl
        · omega
        · exact Nat.le_trans HB.out.size (by simp)
        rintro v' w' hown hgr
        have HO' := Lib.hid hown
        have hE : Below w.heap.size (wr.alloc (.cells #[.int .u8 (z.toNat : Int)] 5)).drew w' := (Below.refl _ _).grown hgr (Nat.le_trans HB.out.size (by simp)) (fun g hg => (HO.out.lt g hg).1)
        clear hown hgr
        refine hK.out _ _ hE ?_
        have HX := Lib.hid (Below.trans HX.out hE)
        clear hE hK K
        try simp only [Act.put, List.setIfInBounds_toArray, List.set_cons_zero, List.set_cons_succ]
        refine regB_take (v := ?_) 22 (some 5) rfl rfl (by kernel_rfl) (by kernel_rfl) (by kernel_rfl) (fun _ _ _ h => h) (by rfl) (fun W hW => ?_) ?_
        rotate_left
        · (go_simp; try rfl)
        simp only [Act.put, List.setIfInBounds_toArray, List.set_cons_zero, List.set_cons_succ]
        refine regB_done (by kernel_rfl) ?_
        go_wp2
        go_roundw
        case rel => exact ⟨k + 1, by omega, by omega, by go_num, by rw [HS.out]; exact HO', HX⟩
        case measure => simp [intOf]; omega
      · have e2 : ¬ ((k : Int) < (n' : Int)) := by omega
        have hkm : k = m := by have := HM.out; omega
        subst hkm
        have HT : Hid ((xorL a b).take k = xorL a b) := List.take_of_length_le (by rw [xorL_len, HL.out, HL'.out, HM.out]; omega)
        go_wp2
        go_ret
        exact ⟨_, rfl, by rw [← HT.out]; exact HO.out, HB.out⟩
    · have hkm : k = m := by have := HM.out; omega
      subst hkm
      have HT : Hid ((xorL a b).take k = xorL a b) := List.take_of_length_le (by rw [xorL_len, HL.out, HL'.out, HM.out]; omega)
      go_wp2
      go_ret
      exact ⟨_, rfl, by rw [← HT.out]; exact HO.out, HB.out⟩

theorem rot_one (x : BitVec 32) : (x.toNat * 2 + x.toNat / 2147483648) % 4294967296 = (x.rotateLeft 1).toNat := by
  rw [BitVec.rotateLeft_def]
  have h1 : (x <<< (1 % 32)) &&& (x >>> (32 - 1 % 32)) = 0#32 := by
    apply BitVec.eq_of_getLsbD_eq; intro i hi
    simp only [BitVec.getLsbD_and, BitVec.getLsbD_shiftLeft, BitVec.getLsbD_ushiftRight, BitVec.getLsbD_zero]
    by_cases h0 : i = 0
    · simp [h0]
    · have : x.getLsbD (32 - 1 % 32 + i) = false := BitVec.getLsbD_of_ge _ _ (by omega)
      simp [this]
  rw [← BitVec.add_eq_or_of_and_eq_zero _ _ h1, BitVec.toNat_add, BitVec.toNat_shiftLeft, BitVec.toNat_ushiftRight, Nat.shiftLeft_eq, Nat.shiftRight_eq_div_pow]
  simp only [Nat.reduceMod, Nat.reduceSub, Nat.reducePow, Nat.pow_one]
  omega
theorem rotl_succ (x : BitVec 32) (i : Nat) : rotl x ((i + 1 : Nat) : Int) = (rotl x (i : Int)).rotateLeft 1 := by
  have h := turns_math x (i : Int) 1
  rw [show ((i + 1 : Nat) : Int) = (i : Int) + 1 by omega, ← h]
  rfl
theorem rotl_mod (x : BitVec 32) (n : Int) (k : Nat) (hk : (n % 32) = (k : Int)) : rotl x (k : Int) = rotl x n := by
  unfold rotl; rw [← hk, Int.emod_emod_of_dvd n (by decide)]

theorem tmod32 (n : Int) : (wrap64 (n.tmod 32 + 32)).tmod 32 = (((n % 32).toNat : Nat) : Int) := by
  have h1 : -32 < n.tmod 32 ∧ n.tmod 32 < 32 ∧ (n.tmod 32) % 32 = n % 32 := by
    rw [Int.tmod_eq_emod]
    split <;> omega
  have h2 : wrap64 (n.tmod 32 + 32) = n.tmod 32 + 32 := by unfold wrap64; omega
  rw [h2, Int.tmod_eq_emod_of_nonneg (by omega)]
  omega
theorem mul2_div (x : BitVec 32) : (x.toNat : Int) * 2 % 4294967296 + (x.toNat : Int) / 2147483648 = ((x.rotateLeft 1).toNat : Int) := by
  rw [← rot_one]; have := x.isLt; omega

theorem refLeft_any (x : BitVec 32) (n : Int) (w : World) :
    Calls Try.prog 24 #[.int .u32 (x.toNat : Int), .int .i64 n] w fun e w' => e = .returned (.int .u32 ((rotl x n).toNat : Int)) ∧ w = w' := by
  have hk := tmod32 n
  have HR : Hid (rotl x (((n % 32).toNat : Nat) : Int) = rotl x n) := rotl_mod x n _ (by omega)
  have hk32 : (n % 32).toNat < 32 := by omega
  generalize (n % 32).toNat = k at hk HR hk32
  go_enter Try.func24, Try.ntmps24
  go_wp2_with fail
  go_loop [0, 6] (fun xv iv => ∃ i : Nat, i ≤ k ∧ iv = .int .i64 i ∧ ∃ y : BitVec 32, xv = .int .u32 (y.toNat : Int) ∧ Hid (y = rotl x (i : Int))) (fun _ i => k - (intOf i).toNat)
  case atStart => exact ⟨0, by omega, rfl, x, rfl, (rotl_zero x).symm⟩
  case round =>
    obtain ⟨i, hi, rfl, y, rfl, HY⟩ := hrel
    by_cases hlt : i < k
    · have hm := Lib.hid (mul2_div y)
      go_wp2
      go_round
      case rel => exact ⟨i + 1, by omega, by go_num, y.rotateLeft 1, congrArg _ hm.out, by show _ = _; rw [rotl_succ, HY.out]⟩
      case measure => simp [intOf]; omega
    · go_wp2
      go_ret
      have : i = k := by omega
      subst this
      exact ⟨ret_int (by rw [HY.out, HR.out]), rfl⟩

/-! ### Count -/
def cnt (c d : List UInt8) (j : Nat) : Nat := bigN (lastL c j) + bigN (lastL d j)
def cntRow (c d : List UInt8) (j : Nat) : List UInt8 := c.take (16 - j) ++ putBig (cnt c d j) j
theorem cnt_succ (c d : List UInt8) (j : Nat) (hc : c.length = 16) (hd : d.length = 16) (hj : j < 16) :
    cnt c d (j + 1) = ((c.getD (15 - j) 0).toNat + (d.getD (15 - j) 0).toNat) * 256 ^ j + cnt c d j := by
  unfold cnt
  rw [lastL_succ c j (by omega), lastL_succ d j (by omega), bigN_cons, bigN_cons, lastL_len c j (by omega), lastL_len d j (by omega)]
  have e1 : c[c.length - 1 - j] = c.getD (15 - j) 0 := by simp [List.getD, hc, show 15 - j < 16 by omega]
  have e2 : d[d.length - 1 - j] = d.getD (15 - j) 0 := by simp [List.getD, hd, show 15 - j < 16 by omega]
  rw [e1, e2, Nat.add_mul]; omega
theorem cnt_step (c d : List UInt8) (j : Nat) (hc : c.length = 16) (hd : d.length = 16) (hj : j < 16) :
    let s := (c.getD (15 - j) 0).toNat + (d.getD (15 - j) 0).toNat + cnt c d j / 256 ^ j
    cnt c d (j + 1) / 256 ^ (j + 1) = s / 256 ∧ (cntRow c d j).set (15 - j) (UInt8.ofNat (s % 256)) = cntRow c d (j + 1) := by
  intro s
  have hs : cnt c d (j + 1) / 256 ^ j = s := by
    rw [cnt_succ c d j hc hd hj, Nat.add_comm, Nat.add_mul_div_right _ _ (Nat.pow_pos (by decide))]
    show _ = (c.getD (15 - j) 0).toNat + (d.getD (15 - j) 0).toNat + cnt c d j / 256 ^ j
    omega
  refine ⟨by rw [Nat.pow_succ, ← Nat.div_div_eq_div_mul, hs], ?_⟩
  have h1 : c.take (16 - j) = c.take (16 - (j + 1)) ++ [c.getD (15 - j) 0] := by
    rw [show 16 - j = (16 - (j + 1)) + 1 by omega, List.take_succ_eq_append_getElem (by omega)]
    congr 2
    simp [List.getD, hc, show 16 - (j + 1) = 15 - j by omega, show 15 - j < 16 by omega]
  have hl : (c.take (16 - (j + 1))).length = 15 - j := by rw [List.length_take]; omega
  have h2 : putBig (cnt c d (j + 1)) (j + 1) = [UInt8.ofNat (s % 256)] ++ putBig (cnt c d j) j := by
    rw [show j + 1 = 1 + j from Nat.add_comm _ _, putBig_split, Nat.add_comm 1 j, hs]
    congr 1
    · simp only [putBig, List.range_succ, List.range_zero, List.nil_append, List.map_cons, List.map_nil, byteAt, Nat.pow_zero, Nat.div_one]
      congr 1
      rw [← UInt8.toNat_inj, UInt8.toNat_ofNat', UInt8.toNat_ofNat']; omega
    · rw [← putBig_mod (cnt c d (j + 1)) j j (Nat.le_refl _), ← putBig_mod (cnt c d j) j j (Nat.le_refl _)]
      congr 1
      rw [cnt_succ c d j hc hd hj, Nat.add_comm, Nat.add_mul_mod_self_right]
  unfold cntRow
  rw [h1, h2, List.append_assoc, List.set_append_right _ _ (by omega), hl, Nat.sub_self, List.singleton_append, List.set_cons_zero]
  rfl
theorem cnt_end (c : List UInt8) (n : Nat) (hc : c.length = 16) (hn : n < 18446744073709551616) : cntRow c (putBig n 16) 16 = countL c n := by
  unfold cntRow cnt countL
  have e1 : lastL c 16 = c := by simp [lastL, hc]
  have e2 : lastL (putBig n 16) 16 = putBig n 16 := by simp [lastL, putBig_len]
  have h128 : (256 : Nat) ^ 16 = 340282366920938463463374607431768211456 := by decide
  rw [e1, e2, bigN_put, Nat.mod_eq_of_lt (by rw [h128]; omega), show 16 - 16 = 0 from rfl, List.take_zero, List.nil_append, ← h128, putBig_mod _ _ _ (Nat.le_refl _)]
theorem cnt_carry (c d : List UInt8) (j : Nat) (hc : c.length = 16) (hd : d.length = 16) (hj : j ≤ 16) : cnt c d j / 256 ^ j ≤ 1 := by
  have h1 := bigN_lt (lastL c j)
  have h2 := bigN_lt (lastL d j)
  rw [lastL_len c j (by omega)] at h1
  rw [lastL_len d j (by omega)] at h2
  have : cnt c d j < 2 * 256 ^ j := by unfold cnt; omega
  have := Nat.div_lt_of_lt_mul (Nat.mul_comm 2 _ ▸ this)
  omega
theorem cntRow_len (c d : List UInt8) (j : Nat) (hc : c.length = 16) (hj : j ≤ 16) : (cntRow c d j).length = 16 := by
  simp [cntRow, putBig_len, hc]; omega
theorem cntRow_get (c d : List UInt8) (j : Nat) (hc : c.length = 16) (hj : j < 16) : (cntRow c d j)[15 - j]? = some (c.getD (15 - j) 0) := by
  unfold cntRow
  rw [List.getElem?_append_left (by rw [List.length_take]; omega), List.getElem?_take, if_pos (by omega)]
  simp [List.getD, hc, show 15 - j < 16 by omega]
end Go.Proofs.Ytobadceiokncnaa
