/- The walk of the law AesBox. -/
import Derived.Test.YtekfgifoflaliaaAes13
namespace Go.Proofs.Ytekfgifoflaliaa
open Go.RowKit
set_option linter.unusedVariables false
set_option linter.unusedSimpArgs false
theorem subL_inj (x y : UInt8) (h : subL x = subL y) : x = y := by
  have := sub_inj ⟨x.toNat, x.toNat_lt⟩ ⟨y.toNat, y.toNat_lt⟩ h
  exact UInt8.toNat_inj.1 (congrArg Fin.val this)
theorem subL_ne (x : UInt8) : (subL x).toNat ≠ x.toNat ∧ (subL x).toNat ≠ 255 - x.toNat := sub_ne ⟨x.toNat, x.toNat_lt⟩
theorem not8 (x : UInt8) : bits .xor .u8 255 (x.toNat : Int) = 255 - (x.toNat : Int) := by
  have h : ∀ x : Fin 256, bits .xor .u8 255 (x.1 : Int) = 255 - (x.1 : Int) := by decide +kernel
  exact h ⟨x.toNat, x.toNat_lt⟩
set_option maxHeartbeats 1000000 in
theorem aesBox_walk (w : World) (x y : UInt8) :
    Calls Try.prog 8 #[.int .u8 (x.toNat : Int), .int .u8 (y.toNat : Int)] w fun e w' => e = .returned (.bool true) ∧ Below w.heap.size w w' := by
  have hne := subL_ne x
  have hx := x.toNat_lt
  have HSX := Lib.hid (fun W => sub_any x W)
  have HSY := Lib.hid (fun W => sub_any y W)
  have hc : ((((subL x).toNat : Int) == ((subL y).toNat : Int)) = true ∧ ((x.toNat : Int) == (y.toNat : Int)) = true) ∨ ((((subL x).toNat : Int) == ((subL y).toNat : Int)) = false ∧ ((x.toNat : Int) == (y.toNat : Int)) = false) := by
    by_cases h : x = y
    · left; subst h; simp
    · right
      have h1 : (x.toNat : Int) ≠ (y.toNat : Int) := fun e => h (UInt8.toNat_inj.1 (by omega))
      have h2 : ((subL x).toNat : Int) ≠ ((subL y).toNat : Int) := fun e => h (subL_inj x y (UInt8.toNat_inj.1 (by omega)))
      exact ⟨by simpa using h2, by simpa using h1⟩
  generalize subL y = sy at HSY hc
  generalize subL x = sx at HSX hc hne
  have n1 : ((sx.toNat : Int) != (x.toNat : Int)) = true := by simp; omega
  have n2 : ((sx.toNat : Int) != bits .xor .u8 255 (x.toNat : Int)) = true := by rw [not8]; simp; omega
  have n3 : ¬ ((sx.toNat : Int) = bits .xor .u8 255 (x.toNat : Int)) := by rw [not8]; omega
  have u2 : IntKind.u8.max = 255 := by decide
  clear hne
  rcases hc with ⟨b1, b2⟩ | ⟨b1, b2⟩
  all_goals
    go_enter Try.func8, Try.ntmps8
    go_wp2_with fail
    refine (HSX.out w).mono ?_
    rintro e w1 ⟨rfl, hB1⟩
    have HB1 := Lib.hid hB1
    clear hB1
    go_wp2_with fail
    refine (HSY.out w1).mono ?_
    rintro e w2 ⟨rfl, hB2⟩
    have HB2 := Lib.hid (HB1.out.step hB2)
    clear hB2
    go_wp2_with fail
    refine (HSX.out w2).mono ?_
    rintro e w3 ⟨rfl, hB3⟩
    have HB3 := Lib.hid (HB2.out.step hB3)
    clear hB3
    go_wp2_with fail
    refine (HSX.out w3).mono ?_
    rintro e w4 ⟨rfl, hB4⟩
    have HB4 := Lib.hid (HB3.out.step hB4)
    clear hB4
    go_wp2_with fail
    refine (awake3_any w4).mono ?_
    rintro e w5 ⟨rfl, hB5⟩
    have HB5 := Lib.hid (HB4.out.step hB5)
    clear hB5
    go_wp2
    go_ret
    exact ⟨rfl, HB5.out⟩
end Go.Proofs.Ytekfgifoflaliaa
