/- The reference's field of layer 3: Mul, inverse. -/
import Derived.Test.YtjmpbcfbfbjenaaAes13
namespace Go.Proofs.Ytjmpbcfbfbjenaa
open Go.RowKit
set_option maxRecDepth 100000
set_option linter.unusedVariables false
set_option linter.unusedSimpArgs false
structure M3 where
  p : UInt8
  a : UInt8
  b : UInt8
def mulS (s : M3) : M3 := ⟨if s.b.toNat % 2 = 1 then s.p ^^^ s.a else s.p, if 128 ≤ s.a.toNat then (s.a * 2) ^^^ 27 else s.a * 2, s.b / 2⟩
def mulN (s : M3) : Nat → M3
  | 0 => s
  | k + 1 => mulS (mulN s k)
def mulB (a b : UInt8) : UInt8 := (mulN ⟨0, a, b⟩ 8).p
theorem dbl8 (a : UInt8) : (a.toNat : Int) * 2 % 256 = ((a * 2).toNat : Int) := by
  have h : (a * 2).toNat = a.toNat * 2 % 256 := by rw [UInt8.toNat_mul]; rfl
  rw [h]; simp
theorem half8 (b : UInt8) : (b.toNat : Int) / 2 % 256 = ((b / 2).toNat : Int) := by
  have h : (b / 2).toNat = b.toNat / 2 := by rw [UInt8.toNat_div]; rfl
  have hb := b.toNat_lt
  rw [h]; omega
set_option maxHeartbeats 2000000 in
theorem refMul_any (a b : UInt8) (w : World) : Calls Try.prog 58 #[.int .u8 (a.toNat : Int), .int .u8 (b.toNat : Int)] w fun e w' => e = .returned (.int .u8 ((mulB a b).toNat : Int)) ∧ w = w' := by
  obtain ⟨S, hS⟩ : ∃ S, S = (⟨0, a, b⟩ : M3) := ⟨_, rfl⟩
  have HR : Hid (mulB a b = (mulN S 8).p) := by show _ = _; rw [hS]; rfl
  have HS := Lib.hid hS
  rw [HR.out]
  clear hS
  go_enter Try.func58, Try.ntmps58
  go_wp2_with fail
  go_loop [0, 1, 5, 6] (fun va vb vp vi => ∃ (i : Nat) (s : M3), i ≤ 8 ∧ vi = .int .i64 (i : Int) ∧ Hid (s = mulN S i) ∧ va = .int .u8 (s.a.toNat : Int) ∧ vb = .int .u8 (s.b.toNat : Int) ∧ vp = .int .u8 (s.p.toNat : Int)) (fun _ _ _ i => 8 - (intOf i).toNat)
  case atStart => exact ⟨0, ⟨0, a, b⟩, by omega, rfl, HS.out.symm, rfl, rfl, rfl⟩
  case round =>
    obtain ⟨i, ⟨p, a, b⟩, hi, rfl, HM, rfl, rfl, rfl⟩ := hrel
    simp only
    by_cases hlt : i < 8
    · have q1 : (i : Int) < 8 := by omega
      have HST : Hid (mulN S (i + 1) = mulS ⟨p, a, b⟩) := by show _ = _; rw [HM.out]; rfl
      have u1 := dbl8 a
      have u2 := half8 b
      have hx := xor8 p a
      have hy : bits .xor .u8 ((a * 2).toNat : Int) 27 = (((a * 2) ^^^ 27).toNat : Int) := xor8 (a * 2) 27
      obtain ⟨b2, hb2⟩ : ∃ z, z = b / 2 := ⟨_, rfl⟩
      obtain ⟨a2, ha2⟩ : ∃ z, z = a * 2 := ⟨_, rfl⟩
      obtain ⟨a3, ha3⟩ : ∃ z, z = (a * 2) ^^^ 27 := ⟨_, rfl⟩
      obtain ⟨p2, hp2⟩ : ∃ z, z = p ^^^ a := ⟨_, rfl⟩
      rw [← hb2] at u2
      rw [← ha3, ← ha2] at hy
      rw [← ha2] at u1
      rw [← hp2] at hx
      have HX := Lib.hid hx; have HY := Lib.hid hy; have U1 := Lib.hid u1; have U2 := Lib.hid u2
      have hab := a.toNat_lt
      have HMS : Hid (mulS ⟨p, a, b⟩ = ⟨if b.toNat % 2 = 1 then p2 else p, if 128 ≤ a.toNat then a3 else a2, b2⟩) := by show _ = _; rw [hp2, ha3, ha2, hb2]; rfl
      clear hb2 ha2 ha3 hp2 hx hy u1 u2
      by_cases hbo : b.toNat % 2 = 1
      · have tb : ((b.toNat : Int) % 2 == 1) = true := by simp; omega
        by_cases hah : 128 ≤ a.toNat
        · have ta : (128 : Int) ≤ (a.toNat : Int) := by omega
          rw [if_pos hbo, if_pos hah] at HMS
          have u1 := U1.out
          go_wp2
          go_round
          case rel => exact ⟨i + 1, ⟨p2, a3, b2⟩, by omega, by go_num, (by show _ = _; rw [HST.out, HMS.out]), congrArg _ (by first | exact HY.out | (rw [U1.out]; exact HY.out)), congrArg _ U2.out, congrArg _ HX.out⟩
          case measure => simp [intOf]; omega
        · have ta : ¬ ((128 : Int) ≤ (a.toNat : Int)) := by omega
          have u3 : (a.toNat : Int) * 2 = (a2.toNat : Int) := by have := U1.out; omega
          rw [if_pos hbo, if_neg hah] at HMS
          go_wp2
          go_round
          case rel => exact ⟨i + 1, ⟨p2, a2, b2⟩, by omega, by go_num, (by show _ = _; rw [HST.out, HMS.out]), congrArg _ (by first | rfl | exact u3), congrArg _ U2.out, congrArg _ HX.out⟩
          case measure => simp [intOf]; omega
      · have tb : ((b.toNat : Int) % 2 == 1) = false := by simp; omega
        by_cases hah : 128 ≤ a.toNat
        · have ta : (128 : Int) ≤ (a.toNat : Int) := by omega
          rw [if_neg hbo, if_pos hah] at HMS
          have u1 := U1.out
          go_wp2
          go_round
          case rel => exact ⟨i + 1, ⟨p, a3, b2⟩, by omega, by go_num, (by show _ = _; rw [HST.out, HMS.out]), congrArg _ (by first | exact HY.out | (rw [U1.out]; exact HY.out)), congrArg _ U2.out, rfl⟩
          case measure => simp [intOf]; omega
        · have ta : ¬ ((128 : Int) ≤ (a.toNat : Int)) := by omega
          have u3 : (a.toNat : Int) * 2 = (a2.toNat : Int) := by have := U1.out; omega
          rw [if_neg hbo, if_neg hah] at HMS
          go_wp2
          go_round
          case rel => exact ⟨i + 1, ⟨p, a2, b2⟩, by omega, by go_num, (by show _ = _; rw [HST.out, HMS.out]), congrArg _ (by first | rfl | exact u3), congrArg _ U2.out, rfl⟩
          case measure => simp [intOf]; omega
    · have q1 : ¬ ((i : Int) < 8) := by omega
      have hl : Hid ((mulN S 8).p = p) := by show _ = _; rw [← show i = 8 by omega, ← HM.out]
      go_wp2
      go_ret
      exact ⟨ret_int (congrArg (fun z : UInt8 => (z.toNat : Int)) hl.out.symm), rfl⟩
def invN (x : UInt8) : Nat → UInt8 × UInt8
  | 0 => (1, x)
  | k + 1 => (mulB (invN x k).1 (mulB (invN x k).2 (invN x k).2), mulB (invN x k).2 (invN x k).2)
def invB (x : UInt8) : UInt8 := (invN x 7).1
set_option maxHeartbeats 1000000 in
theorem refInv_any (x : UInt8) (w : World) : Calls Try.prog 86 #[.int .u8 (x.toNat : Int)] w fun e w' => e = .returned (.int .u8 ((invB x).toNat : Int)) ∧ w = w' := by
  have HR : Hid (invB x = (invN x 7).1) := rfl
  rw [HR.out]
  go_enter Try.func86, Try.ntmps86
  go_wp2_with fail
  go_loop [0, 3, 4] (fun vx vp vi => ∃ (i : Nat) (p z : UInt8), i ≤ 7 ∧ vi = .int .i64 (i : Int) ∧ Hid ((p, z) = invN x i) ∧ vx = .int .u8 (z.toNat : Int) ∧ vp = .int .u8 (p.toNat : Int)) (fun _ _ i => 7 - (intOf i).toNat)
  case atStart => exact ⟨0, 1, x, by omega, rfl, rfl, rfl, rfl⟩
  case round =>
    obtain ⟨i, p, z, hi, rfl, HI, rfl, rfl⟩ := hrel
    by_cases hlt : i < 7
    · have q1 : (i : Int) < 7 := by omega
      have HST : Hid (invN x (i + 1) = (mulB p (mulB z z), mulB z z)) := by show _ = _; rw [invN, ← HI.out]
      have H1 := Lib.hid (refMul_any z z w)
      have H2 := Lib.hid (fun y => refMul_any p y w)
      generalize mulB z z = z2 at H1 HST
      have H3 := Lib.hid (H2.out z2)
      generalize mulB p z2 = p2 at H3 HST
      go_wp2_with fail
      refine H1.out.mono ?_
      rintro e w1 ⟨rfl, rfl⟩
      go_wp2_with fail
      refine H3.out.mono ?_
      rintro e w1 ⟨rfl, rfl⟩
      go_wp2
      go_round
      case rel => exact ⟨i + 1, p2, z2, by omega, by go_num, HST.out.symm, rfl, rfl⟩
      case measure => simp [intOf]; omega
    · have q1 : ¬ ((i : Int) < 7) := by omega
      have hl : Hid ((invN x 7).1 = p) := by show _ = _; rw [← show i = 7 by omega, ← HI.out]
      go_wp2
      go_ret
      exact ⟨ret_int (congrArg (fun z : UInt8 => (z.toNat : Int)) hl.out.symm), rfl⟩
end Go.Proofs.Ytjmpbcfbfbjenaa
