/- The reference's Sub of layer 3; the walk of the law AesSub. -/
import Derived.Test.YtjmpbcfbfbjenaaRefA1
namespace Go.Proofs.Ytjmpbcfbfbjenaa
open Go.RowKit
set_option linter.unusedVariables false
set_option linter.unusedSimpArgs false
/-- how many of the bits at i, and of those 4 to 7 places on, are ones: the first k looked at -/
def cntN (v : Nat) (i : Nat) : Nat → Nat
  | 0 => 0
  | k + 1 => cntN v i k + if k = 0 ∨ 4 ≤ k then v / 2 ^ ((i + k) % 8) % 2 else 0
def outS (v : Nat) : Nat → Nat
  | 0 => 0
  | i + 1 => if (cntN v i 8 + 99 / 2 ^ i % 2) % 2 = 1 then outS v i + 2 ^ i else outS v i
theorem cntN_le (v i k : Nat) : cntN v i k ≤ k := by
  induction k with
  | zero => exact Nat.le_refl _
  | succ k ih =>
    rw [cntN]
    split
    · have := Nat.mod_lt (v / 2 ^ ((i + k) % 8)) (show 0 < 2 by omega); omega
    · omega
theorem outS_lt (v i : Nat) : outS v i < 2 ^ i := by
  induction i with
  | zero => exact Nat.lt_succ_self 0
  | succ i ih => rw [outS, Nat.pow_succ]; split <;> omega
theorem or_bit (N i : Nat) (h : N < 2 ^ i) (hi : i < 8) : bits .or .u8 (N : Int) ((2 ^ i : Nat) : Int) = ((N + 2 ^ i : Nat) : Int) := by
  have h8 : (2 : Nat) ^ i ≤ 128 := Nat.le_trans (Nat.pow_le_pow_right (by omega) (show i ≤ 7 by omega)) (by decide)
  rw [u8_or_nat _ _ (by omega) (by omega), Nat.or_comm, nat_join i _ N (Nat.mod_self _) h, Nat.add_comm]
set_option maxHeartbeats 2000000 in
theorem refSub_any (x : UInt8) (w : World) : Calls Try.prog 53 #[.int .u8 (x.toNat : Int)] w fun e w' => e = .returned (.int .u8 (outS (invB x).toNat 8 : Int)) ∧ w = w' := by
  have H1 := Lib.hid (refInv_any x w)
  generalize invB x = u at H1 ⊢
  obtain ⟨v, hv⟩ : ∃ v, v = u.toNat := ⟨_, rfl⟩
  rw [← hv] at H1 ⊢
  have hv8 : v < 256 := by rw [hv]; exact u.toNat_lt
  clear hv
  go_enter Try.func53, Try.ntmps53
  go_wp2_with fail
  refine H1.out.mono ?_
  rintro e w1 ⟨rfl, rfl⟩
  go_wp2_with fail
  go_loop [4, 5] (fun vo vi => ∃ (i N : Nat), i ≤ 8 ∧ vi = .int .i64 (i : Int) ∧ vo = .int .u8 (N : Int) ∧ Hid (N = outS v i)) (fun _ i => 8 - (intOf i).toNat)
  case atStart => exact ⟨0, 0, by omega, rfl, rfl, rfl⟩
  case round =>
    obtain ⟨i, N, hi, rfl, rfl, HN⟩ := hrel
    by_cases hlt : i < 8
    · have q1 : (i : Int) < 8 := by omega
      go_wp2_with fail
      go_loop [6, 7] (fun vn vk => ∃ (k n : Nat), k ≤ 8 ∧ vk = .int .i64 (k : Int) ∧ vn = .int .i64 (n : Int) ∧ n ≤ 8 ∧ Hid (n = cntN v i k)) (fun _ k => 8 - (intOf k).toNat)
      case atStart => exact ⟨0, 0, by omega, rfl, rfl, by omega, rfl⟩
      case round =>
        obtain ⟨k, n, hk, rfl, rfl, hn8, HC⟩ := hrel
        by_cases hlk : k < 8
        · have q2 : (k : Int) < 8 := by omega
          have HST : Hid (cntN v i (k + 1) = cntN v i k + if k = 0 ∨ 4 ≤ k then v / 2 ^ ((i + k) % 8) % 2 else 0) := rfl
          have hle := Lib.hid (cntN_le v i (k + 1))
          obtain ⟨m, hm⟩ : ∃ m, m = (i + k) % 8 := ⟨_, rfl⟩
          have u1 : ((i : Int) + (k : Int)) % 8 = (m : Int) := by omega
          obtain ⟨d, hd⟩ : ∃ d, d = v / 2 ^ m := ⟨_, rfl⟩
          have u2 : (v : Int) / 2 ^ m = (d : Int) := by rw [hd]; simp
          obtain ⟨b, hb⟩ : ∃ b, b = d % 2 := ⟨_, rfl⟩
          have u3 : (d : Int) % 2 = (b : Int) := by omega
          have hd8 : d < 256 := by rw [hd]; exact Nat.lt_of_le_of_lt (Nat.div_le_self _ _) hv8
          rw [← hm, ← hd, ← hb] at HST
          have hb2 : b < 2 := by omega
          have hm8 : m < 8 := by omega
          have hmm : min m 8 = m := by omega
          clear hm hd hb
          by_cases hkk : k = 0 ∨ 4 ≤ k
          · rw [if_pos hkk] at HST
            have hc : ((k : Int) == 0) = true ∨ ((k : Int) == 0) = false ∧ (4 : Int) ≤ (k : Int) := by
              rcases hkk with h | h
              · left; simp [h]
              · right; exact ⟨by simp; omega, by omega⟩
            clear hkk
            rcases hc with t1 | ⟨t1, t2⟩
            all_goals
              go_wp2
              go_round
              case rel => exact ⟨k + 1, n + b, by omega, by go_num, by go_num, (by have h1 := hle.out; have h2 := HC.out; rw [HST.out, ← h2] at h1; omega), (by show _ = _; rw [HST.out, ← HC.out])⟩
              case measure => simp [intOf]; omega
          · rw [if_neg hkk] at HST
            have t1 : ((k : Int) == 0) = false := by simp; omega
            have t2 : ¬ ((4 : Int) ≤ (k : Int)) := by omega
            go_wp2
            go_round
            case rel => exact ⟨k + 1, n, by omega, by go_num, rfl, hn8, (by show _ = _; rw [HST.out, ← HC.out]; rfl)⟩
            case measure => simp [intOf]; omega
        · have q2 : ¬ ((k : Int) < 8) := by omega
          have HC' : Hid (n = cntN v i 8) := by show _ = _; rw [HC.out, show k = 8 by omega]
          obtain ⟨d, hd⟩ : ∃ d, d = 99 / 2 ^ i := ⟨_, rfl⟩
          have u2 : (99 : Int) / 2 ^ i = (d : Int) := by rw [hd]; simp
          obtain ⟨b, hb⟩ : ∃ b, b = d % 2 := ⟨_, rfl⟩
          have u3 : (d : Int) % 2 = (b : Int) := by omega
          have hd8 : d ≤ 99 := by rw [hd]; exact Nat.div_le_self _ _
          have hmm : min i 8 = i := by omega
          have HOS : Hid (outS v (i + 1) = if (n + b) % 2 = 1 then N + 2 ^ i else N) := by show _ = _; rw [outS, HN.out, hb, hd, HC'.out]
          obtain ⟨y, hy⟩ : ∃ y, y = 2 ^ i := ⟨_, rfl⟩
          have hy8 : y ≤ 128 := by rw [hy]; exact Nat.le_trans (Nat.pow_le_pow_right (by omega) (show i ≤ 7 by omega)) (by decide)
          have u4 : (2 : Int) ^ i = (y : Int) := by rw [hy]; simp
          rw [u4] at u2
          have HOR : Hid (bits .or .u8 (N : Int) (y : Int) = ((N + y : Nat) : Int)) := by show _ = _; rw [hy]; exact or_bit N i (by rw [HN.out]; exact outS_lt v i) hlt
          rw [← hy] at HOS
          clear hd hb hy
          by_cases ho : (n + b) % 2 = 1
          · have t1 : (((n : Int) + (b : Int)) % 2 == 1) = true := by simp; omega
            rw [if_pos ho] at HOS
            go_wp2
            go_round
            case rel => exact ⟨i + 1, N + y, by omega, by go_num, congrArg _ HOR.out, HOS.out.symm⟩
            case measure => simp [intOf]; omega
          · have t1 : (((n : Int) + (b : Int)) % 2 == 1) = false := by simp; omega
            rw [if_neg ho] at HOS
            go_wp2
            go_round
            case rel => exact ⟨i + 1, N, by omega, by go_num, rfl, HOS.out.symm⟩
            case measure => simp [intOf]; omega
    · have q1 : ¬ ((i : Int) < 8) := by omega
      go_wp2
      go_ret
      exact ⟨ret_int (by rw [HN.out, show i = 8 by omega]), rfl⟩
set_option maxRecDepth 100000 in
theorem sub_ref8 : ∀ x : Fin 256, outS (invB (UInt8.ofNat x.1)).toNat 8 = (sboxL.getD x.1 0).toNat := by decide +kernel
theorem sub_ref (x : UInt8) : outS (invB x).toNat 8 = (subL x).toNat := by
  have h := sub_ref8 ⟨x.toNat, x.toNat_lt⟩
  have e : UInt8.ofNat x.toNat = x := by apply UInt8.toNat_inj.1; rw [UInt8.toNat_ofNat']; have := x.toNat_lt; omega
  rw [e] at h; exact h
end Go.Proofs.Ytjmpbcfbfbjenaa
