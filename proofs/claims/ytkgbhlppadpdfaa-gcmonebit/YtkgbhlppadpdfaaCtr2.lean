/- The law file's own 'awake' (layer 8). -/
import Derived.Test.YtkgbhlppadpdfaaCtr1
import Derived.Test.YtkgbhlppadpdfaaKeyZ
namespace Go.Proofs.Ytkgbhlppadpdfaa
open Go.RowKit
set_option linter.unusedVariables false
set_option maxRecDepth 100000
set_option linter.unusedSimpArgs false
def nineL : List UInt8 := [0, 0, 0, 0, 0, 0, 0, 0, 0, 0, 0, 0, 0, 0, 0, 9]
def nineV : Array Value := #[.int .u8 0, .int .u8 0, .int .u8 0, .int .u8 0, .int .u8 0, .int .u8 0, .int .u8 0, .int .u8 0, .int .u8 0, .int .u8 0, .int .u8 0, .int .u8 0, .int .u8 0, .int .u8 0, .int .u8 0, .int .u8 9]
theorem nine_lit : (nineL.map bv).toArray = nineV := rfl
theorem xorL_zeros (y : List UInt8) (h : y.length = 16) : xorL (List.replicate 16 0) y = y := by
  apply List.ext_getElem
  · rw [xorL_len, List.length_replicate, h]; rfl
  · intro i h1 h2
    simp only [xorL, List.getElem_zipWith, List.getElem_replicate]
    exact UInt8.zero_xor
theorem ctr_zeros (E : List UInt8 → List UInt8) (x : List UInt8) (hx : x.length = 16) (hE : (E x).length = 16) : ctrL (strmF E x) 0 (List.replicate 16 0) = E x := by
  have h := ctrL_block (fun i => E (countL x i)) 0 (List.replicate 16 0) (by show (E (countL x 0)).length = 16; rw [count_zero x hx]; exact hE)
  simp only [Nat.zero_div, Nat.zero_mod, List.drop_zero, List.length_replicate, Nat.sub_zero, Nat.min_self] at h
  rw [count_zero x hx, xorL_zeros _ hE, List.take_of_length_le (by simp)] at h
  exact h.symm
def zer16c : List UInt8 := List.replicate 16 0
theorem zer16c_len : zer16c.length = 16 := by simp [zer16c]
end Go.Proofs.Ytkgbhlppadpdfaa
