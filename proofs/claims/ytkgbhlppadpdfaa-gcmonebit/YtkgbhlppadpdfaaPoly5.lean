/- poly: least, value, step. -/
import Derived.Test.YtkgbhlppadpdfaaPoly4
import Derived.Test.YtkgbhlppadpdfaaSha7
import Derived.Test.YtkgbhlppadpdfaaBits3
namespace Go.Proofs.Ytkgbhlppadpdfaa
open Go.RowKit
set_option maxRecDepth 100000
set_option linter.unusedVariables false
set_option linter.unusedSimpArgs false
/-- what x is modulo 2^130 - 5, of its lowest 128 bits -/
def leastN (x : Nat) : Nat := x + 5 * ((x + 5) / 1361129467683753853853498429727072845824)
theorem littleN_append (a b : List UInt8) : littleN (a ++ b) = littleN a + 256 ^ a.length * littleN b := by
  unfold littleN
  rw [List.reverse_append, bigN_append, List.length_reverse, Nat.mul_comm, Nat.add_comm]
theorem value_math (bs : List UInt8) (h1 : 16 ≤ bs.length) (h2 : bs.length ≤ 24) : numL (littleN bs) = [littleN ((bs.take 8).take 8), littleN (((bs.drop 8).take 8).take 8), littleN ((bs.drop 16).take 8)] := by
  have e : bs = bs.take 8 ++ ((bs.drop 8).take 8 ++ bs.drop 16) := by
    have h1 := List.take_append_drop 8 bs
    have h2 := List.take_append_drop 8 (bs.drop 8)
    rw [List.drop_drop] at h2
    rw [h2, h1]
  have p8 : (256 : Nat) ^ 8 = 18446744073709551616 := by decide
  have la : (bs.take 8).length = 8 := by rw [List.length_take]; omega
  have lb : ((bs.drop 8).take 8).length = 8 := by rw [List.length_take, List.length_drop]; omega
  have lc : (bs.drop 16).length ≤ 8 := by rw [List.length_drop]; omega
  have ha := littleN_lt (bs.take 8)
  have hb := littleN_lt ((bs.drop 8).take 8)
  have hc := littleN_lt (bs.drop 16)
  have hc' : littleN (bs.drop 16) < 256 ^ 8 := Nat.lt_of_lt_of_le hc (Nat.pow_le_pow_right (by decide) lc)
  rw [List.take_of_length_le (l := bs.take 8) (by omega), List.take_of_length_le (l := (bs.drop 8).take 8) (by omega), List.take_of_length_le (l := bs.drop 16) lc]
  have hv : littleN bs = littleN (bs.take 8) + 18446744073709551616 * littleN ((bs.drop 8).take 8) + 340282366920938463463374607431768211456 * littleN (bs.drop 16) := by
    conv => lhs; rw [e]
    rw [littleN_append, littleN_append, la, lb, p8, Nat.mul_add, ← Nat.mul_assoc]
    omega
  rw [la, p8] at ha
  rw [lb, p8] at hb
  rw [p8] at hc'
  generalize littleN (bs.take 8) = a at *
  generalize littleN ((bs.drop 8).take 8) = b at *
  generalize littleN (bs.drop 16) = c at *
  rw [hv]
  clear hc
  unfold numL
  have q0 : (a + 18446744073709551616 * b + 340282366920938463463374607431768211456 * c) % 18446744073709551616 = a := by omega
  have q1 : (a + 18446744073709551616 * b + 340282366920938463463374607431768211456 * c) / 18446744073709551616 % 18446744073709551616 = b := by omega
  have q2 : (a + 18446744073709551616 * b + 340282366920938463463374607431768211456 * c) / 340282366920938463463374607431768211456 % 18446744073709551616 = c := by omega
  rw [q0, q1, q2]
theorem sl_take' {w : World} {A : Option Addr} {c q : Nat} {b : List UInt8} (h : Sl w A c b) : Sl w A c (b.take q) := by
  have := h.2.2.take q
  rw [← List.map_take] at this
  exact ⟨by have := h.1; rw [List.length_take]; omega, h.2.1, this⟩
theorem sl_drop' {w : World} {A : Option Addr} {c k : Nat} {l : List UInt8} (h : Sl w A c l) (hk : k ≤ l.length) : Sl w (cutS A c k) (c - k) (l.drop k) := by
  have h1 := h.1
  have h2 := h.2.1
  refine ⟨by rw [List.length_drop]; omega, by omega, ?_⟩
  have := h.2.2.cut (c := c) (l := k) (by simpa using hk) (by simpa using h1)
  rwa [← List.map_drop] at this
end Go.Proofs.Ytkgbhlppadpdfaa
