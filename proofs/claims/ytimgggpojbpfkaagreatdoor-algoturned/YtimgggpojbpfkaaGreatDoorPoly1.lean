/- Words of 64 bits: sums and products with what is carried (math/bits.Add64, Mul64; poly.onto). -/
import Derived.Test.YtimgggpojbpfkaaGreatDoorSha4
import Derived.Test.YtimgggpojbpfkaaGreatDoorReg3
import Derived.Laws.Externs
namespace Go.Proofs.YtimgggpojbpfkaaGreatDoor
open Go.RowKit
set_option maxRecDepth 100000
set_option linter.unusedVariables false
set_option linter.unusedSimpArgs false
theorem add64_run (x y c : Int) (hx : 0 ≤ x) (hy : 0 ≤ y) (hc0 : 0 ≤ c) (hc : c ≤ 1) (w : World) :
    (callFunc 137 #[.int .u64 x, .int .u64 y, .int .u64 c]).run Tryz.prog w =
      .ok (.value (.tuple #[.int .u64 ((x + y + c) % 18446744073709551616), .int .u64 ((x + y + c) / 18446744073709551616)])) w := by
  rw [run_callFunc_extern (P := Tryz.prog) (e := add64Entry) Tryz.func137 (by kernel_rfl) (by kernel_rfl) (by kernel_rfl) (by kernel_rfl), run_add64 x y c hx hy hc0 hc]
  rfl
theorem mul_math (x y x0 x1 y0 y1 : Nat) (hx : x = x0 + 4294967296 * x1) (hy : y = y0 + 4294967296 * y1) (h0 : x0 < 4294967296) (h1 : x1 < 4294967296) (h2 : y0 < 4294967296) (h3 : y1 < 4294967296) :
    let t := x1 * y0 + x0 * y0 / 4294967296
    let u := t % 4294967296 + x0 * y1
    t < 18446744073709551616 ∧ u < 18446744073709551616 ∧ x1 * y1 + t / 4294967296 + u / 4294967296 = x * y / 18446744073709551616 ∧ x0 * y0 < 18446744073709551616 ∧ x * y / 18446744073709551616 < 18446744073709551616 ∧ x1 * y1 + t / 4294967296 < 18446744073709551616 ∧ x1 * y0 < 18446744073709551616 ∧ x0 * y1 < 18446744073709551616 ∧ x1 * y1 < 18446744073709551616 := by
  have e : x * y = x0 * y0 + 4294967296 * (x1 * y0 + x0 * y1) + 18446744073709551616 * (x1 * y1) := by
    rw [hx, hy, Nat.add_mul, Nat.mul_add, Nat.mul_add]
    have e1 : x0 * (4294967296 * y1) = 4294967296 * (x0 * y1) := by rw [Nat.mul_left_comm]
    have e2 : 4294967296 * x1 * y0 = 4294967296 * (x1 * y0) := Nat.mul_assoc _ _ _
    have e3 : 4294967296 * x1 * (4294967296 * y1) = 18446744073709551616 * (x1 * y1) := by rw [Nat.mul_assoc, Nat.mul_left_comm x1, ← Nat.mul_assoc]
    rw [e1, e2, e3]; omega
  have b : ∀ a c, a < 4294967296 → c < 4294967296 → a * c ≤ 18446744065119617025 := by
    intro a c ha hc
    calc a * c ≤ 4294967295 * 4294967295 := Nat.mul_le_mul (by omega) (by omega)
      _ = 18446744065119617025 := by decide
  have b0 := b x0 y0 h0 h2
  have b1 := b x1 y0 h1 h2
  have b2 := b x0 y1 h0 h3
  have b3 := b x1 y1 h1 h3
  rw [e]
  generalize x0 * y0 = p0 at *
  generalize x1 * y0 = p1 at *
  generalize x0 * y1 = p2 at *
  generalize x1 * y1 = p3 at *
  simp only
  omega
theorem mask32 (x : Nat) (hx : x < 18446744073709551616) : bits .and .u64 (x : Int) 4294967295 = ((x % 4294967296 : Nat) : Int) := by
  rw [u64_and _ _ (by omega) (by omega) (by decide) (by decide)]
  have : (4294967295 : Int).toNat = 2 ^ 32 - 1 := by decide
  rw [this, Int.toNat_natCast, Nat.and_two_pow_sub_one_eq_mod]
set_option maxHeartbeats 2000000 in
theorem mul64_any (x y : Nat) (w : World) (hx : x < 18446744073709551616) (hy : y < 18446744073709551616) :
    Calls Tryz.prog 143 #[.int .u64 (x : Int), .int .u64 (y : Int)] w fun e w' =>
      e = .returned (.tuple #[.int .u64 ((x * y / 18446744073709551616 : Nat) : Int), .int .u64 ((x * y % 18446744073709551616 : Nat) : Int)]) ∧ w = w' := by
  obtain ⟨x0, hx0⟩ : ∃ a, a = x % 4294967296 := ⟨_, rfl⟩
  obtain ⟨x1, hx1⟩ : ∃ a, a = x / 4294967296 := ⟨_, rfl⟩
  obtain ⟨y0, hy0⟩ : ∃ a, a = y % 4294967296 := ⟨_, rfl⟩
  obtain ⟨y1, hy1⟩ : ∃ a, a = y / 4294967296 := ⟨_, rfl⟩
  have hm := mul_math x y x0 x1 y0 y1 (by omega) (by omega) (by omega) (by omega) (by omega) (by omega)
  simp only at hm
  obtain ⟨m1, m2, m3, m4, m5, m6, m7, m8, m9⟩ := hm
  obtain ⟨lo, hlo⟩ : ∃ a, a = x * y % 18446744073709551616 := ⟨_, rfl⟩
  obtain ⟨hi, hhi⟩ : ∃ a, a = x * y / 18446744073709551616 := ⟨_, rfl⟩
  have w0 : IntKind.u64.wrap ((x : Int) * (y : Int)) = (lo : Int) := by rw [IntKind.wrap_u64, hlo, ← Int.natCast_mul]; omega
  rw [← hlo, ← hhi]
  rw [← hhi] at m3 m5
  have a1 : bits .and .u64 (x : Int) 4294967295 = (x0 : Int) := by rw [mask32 x hx, hx0]
  have a2 : bits .and .u64 (y : Int) 4294967295 = (y0 : Int) := by rw [mask32 y hy, hy0]
  have a3 : (x : Int) / 4294967296 = (x1 : Int) := by omega
  have a4 : (y : Int) / 4294967296 = (y1 : Int) := by omega
  clear hlo hhi hx0 hx1 hy0 hy1 hx hy
  have w1 : IntKind.u64.wrap ((x0 : Int) * (y0 : Int)) = ((x0 * y0 : Nat) : Int) := by rw [IntKind.wrap_u64, ← Int.natCast_mul]; omega
  have w2 : IntKind.u64.wrap ((x1 : Int) * (y0 : Int)) = ((x1 * y0 : Nat) : Int) := by rw [IntKind.wrap_u64, ← Int.natCast_mul]; omega
  have w3 : IntKind.u64.wrap ((x0 : Int) * (y1 : Int)) = ((x0 * y1 : Nat) : Int) := by rw [IntKind.wrap_u64, ← Int.natCast_mul]; omega
  have w4 : IntKind.u64.wrap ((x1 : Int) * (y1 : Int)) = ((x1 * y1 : Nat) : Int) := by rw [IntKind.wrap_u64, ← Int.natCast_mul]; omega
  generalize x0 * y0 = p0 at *
  generalize x1 * y0 = p1 at *
  generalize x0 * y1 = p2 at *
  generalize x1 * y1 = p3 at *
  obtain ⟨q0, hq0⟩ : ∃ a, a = p0 / 4294967296 := ⟨_, rfl⟩
  rw [← hq0] at m1 m2 m3 m6
  have b1 : (p0 : Int) / 4294967296 = (q0 : Int) := by omega
  obtain ⟨t, ht⟩ : ∃ a, a = p1 + q0 := ⟨_, rfl⟩
  rw [← ht] at m1 m2 m3 m6
  have b2 : IntKind.u64.wrap ((p1 : Int) + (q0 : Int)) = (t : Int) := by rw [IntKind.wrap_u64]; omega
  obtain ⟨t0, ht0⟩ : ∃ a, a = t % 4294967296 := ⟨_, rfl⟩
  obtain ⟨t1, ht1⟩ : ∃ a, a = t / 4294967296 := ⟨_, rfl⟩
  have b3 : bits .and .u64 (t : Int) 4294967295 = (t0 : Int) := by rw [mask32 t m1, ht0]
  have b4 : (t : Int) / 4294967296 = (t1 : Int) := by omega
  obtain ⟨u, hu⟩ : ∃ a, a = t0 + p2 := ⟨_, rfl⟩
  rw [← ht0, ← hu] at m2 m3
  rw [← ht1] at m3 m6
  have b5 : IntKind.u64.wrap ((t0 : Int) + (p2 : Int)) = (u : Int) := by rw [IntKind.wrap_u64]; omega
  obtain ⟨v, hv⟩ : ∃ a, a = p3 + t1 := ⟨_, rfl⟩
  have b6 : IntKind.u64.wrap ((p3 : Int) + (t1 : Int)) = (v : Int) := by rw [IntKind.wrap_u64]; omega
  obtain ⟨u1, hu1⟩ : ∃ a, a = u / 4294967296 := ⟨_, rfl⟩
  have b7 : (u : Int) / 4294967296 = (u1 : Int) := by omega
  have b8 : IntKind.u64.wrap ((v : Int) + (u1 : Int)) = (hi : Int) := by rw [IntKind.wrap_u64]; omega
  clear hq0 ht ht0 ht1 hu hv hu1 m1 m2 m3 m4 m5 m6 m7 m8 m9
  go_enter Tryz.func143, Tryz.ntmps143
  go_wp2
  exact bodyPost_ret (results_tmp2 rfl _ _ _) rfl ⟨rfl, rfl⟩
theorem onto_math (a x y b : Nat) (ha : a < 18446744073709551616) (hb : b < 18446744073709551616) (hx : x < 18446744073709551616) (hy : y < 18446744073709551616) : a + x * y + b < 340282366920938463463374607431768211456 := by
  have : x * y ≤ 18446744073709551615 * 18446744073709551615 := Nat.mul_le_mul (by omega) (by omega)
  omega
set_option maxHeartbeats 2000000 in
theorem onto_any (a x y b : Nat) (w : World) (ha : a < 18446744073709551616) (hx : x < 18446744073709551616) (hy : y < 18446744073709551616) (hb : b < 18446744073709551616) :
    Calls Tryz.prog 146 #[.int .u64 (a : Int), .int .u64 (x : Int), .int .u64 (y : Int), .int .u64 (b : Int)] w fun e w' =>
      e = .returned (.tuple #[.int .u64 (((a + x * y + b) % 18446744073709551616 : Nat) : Int), .int .u64 (((a + x * y + b) / 18446744073709551616 : Nat) : Int)]) ∧ w = w' := by
  have hm := onto_math a x y b ha hb hx hy
  have M := Lib.hid (mul64_any x y w hx hy)
  generalize x * y = p at M hm ⊢
  obtain ⟨l0, hl0⟩ : ∃ z, z = p % 18446744073709551616 := ⟨_, rfl⟩
  obtain ⟨h0, hh0⟩ : ∃ z, z = p / 18446744073709551616 := ⟨_, rfl⟩
  rw [← hl0, ← hh0] at M
  obtain ⟨l1, hl1⟩ : ∃ z, z = (l0 + a) % 18446744073709551616 := ⟨_, rfl⟩
  obtain ⟨c1, hc1⟩ : ∃ z, z = (l0 + a) / 18446744073709551616 := ⟨_, rfl⟩
  have A1 := fun W => add64_run (l0 : Int) (a : Int) 0 (by omega) (by omega) (by omega) (by omega) W
  rw [show ((l0 : Int) + (a : Int) + 0) % 18446744073709551616 = (l1 : Int) by omega, show ((l0 : Int) + (a : Int) + 0) / 18446744073709551616 = (c1 : Int) by omega] at A1
  obtain ⟨h1, hh1⟩ : ∃ z, z = h0 + c1 := ⟨_, rfl⟩
  have w1 : IntKind.u64.wrap ((h0 : Int) + (c1 : Int)) = (h1 : Int) := by rw [IntKind.wrap_u64]; omega
  obtain ⟨l2, hl2⟩ : ∃ z, z = (l1 + b) % 18446744073709551616 := ⟨_, rfl⟩
  obtain ⟨c2, hc2⟩ : ∃ z, z = (l1 + b) / 18446744073709551616 := ⟨_, rfl⟩
  have A2 := fun W => add64_run (l1 : Int) (b : Int) 0 (by omega) (by omega) (by omega) (by omega) W
  rw [show ((l1 : Int) + (b : Int) + 0) % 18446744073709551616 = (l2 : Int) by omega, show ((l1 : Int) + (b : Int) + 0) / 18446744073709551616 = (c2 : Int) by omega] at A2
  obtain ⟨h2, hh2⟩ : ∃ z, z = h1 + c2 := ⟨_, rfl⟩
  have w2 : IntKind.u64.wrap ((h1 : Int) + (c2 : Int)) = (h2 : Int) := by rw [IntKind.wrap_u64]; omega
  rw [show (a + p + b) % 18446744073709551616 = l2 by omega, show (a + p + b) / 18446744073709551616 = h2 by omega]
  clear hm hl0 hh0 hl1 hc1 hh1 hl2 hc2 hh2
  go_enter Tryz.func146, Tryz.ntmps146
  go_wp2_with fail
  refine M.out.mono ?_
  rintro e w' ⟨rfl, rfl⟩
  go_wp2
  exact bodyPost_ret (results_tmp2 rfl _ _ _) rfl ⟨rfl, rfl⟩
end Go.Proofs.YtimgggpojbpfkaaGreatDoor
