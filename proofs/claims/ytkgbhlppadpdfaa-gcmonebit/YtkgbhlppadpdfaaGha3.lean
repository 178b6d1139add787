/- Layer 6: Pad, the law's example, exclusive or of blocks, powers of x. -/
import Derived.Test.YtkgbhlppadpdfaaGha2
import Derived.StillTailTactics
namespace Go.Proofs.Ytkgbhlppadpdfaa
open Go.RowKit
set_option maxRecDepth 100000
set_option linter.unusedVariables false
set_option linter.unusedSimpArgs false
/-- how many noughts make n bytes whole blocks -/
def padN (n : Nat) : Nat := (16 - n % 16) % 16
theorem gpad_any (n : Nat) (w : World) (hn : n ≤ 9223372036854775807) : Calls Try.prog 56 #[.int .i64 (n : Int)] w fun e w' => e = .returned (.int .i64 (padN n : Int)) ∧ w = w' := by
  by_cases h : n < 1
  · have h0 : n = 0 := by omega
    subst h0
    go_enter Try.func56, Try.ntmps56
    go_wp2
    go_ret
    exact ⟨rfl, rfl⟩
  · have q1 : ¬ ((n : Int) < 1) := by omega
    have hp : (16 - (n : Int) % 16) % 16 = ((padN n : Nat) : Int) := by unfold padN; omega
    have HP := Lib.hid hp
    clear hp
    go_enter Try.func56, Try.ntmps56
    go_wp2
    go_ret
    exact ⟨ret_int (by have := HP.out; omega), rfl⟩
theorem gpad_neg (n : Int) (w : World) (hn : n ≤ 0) : Calls Try.prog 56 #[.int .i64 n] w fun e w' => e = .returned (.int .i64 0) ∧ w = w' := by
  have q1 : n < 1 := by omega
  go_enter Try.func56, Try.ntmps56
  go_wp2
  go_ret
  exact ⟨rfl, rfl⟩
def oneB : List UInt8 := [128, 0, 0, 0, 0, 0, 0, 0, 0, 0, 0, 0, 0, 0, 0, 0]
def exB : List UInt8 := [1, 2, 3, 0, 0, 0, 0, 0, 0, 0, 0, 0, 0, 0, 0, 0]
def zerB : List UInt8 := [0, 0, 0, 0, 0, 0, 0, 0, 0, 0, 0, 0, 0, 0, 0, 0]
theorem big_one : bigN oneB = oneV := by decide
theorem big_zer : bigN zerB = 0 := by decide
theorem gmul_one (a : List UInt8) (h : a.length = 16) : gmulL a oneB = a := by
  rw [gmulL, big_one, mulV_one _ (big16_lt a h), blk_big a h]
theorem gmul_zero (a : List UInt8) : gmulL a zerB = zerB := by
  rw [gmulL, big_zer, mulV_zero]; decide
theorem gmul_comm (a b : List UInt8) (ha : a.length = 16) (hb : b.length = 16) : gmulL a b = gmulL b a := by
  rw [gmulL, gmulL, mulV_comm _ _ (big16_lt a ha) (big16_lt b hb)]
theorem big_gmul (a b : List UInt8) (hb : b.length = 16) : bigN (gmulL a b) = mulV (bigN a) (bigN b) := bigN_blk _ (mulV_lt _ _ (big16_lt b hb))
theorem gmul_assoc (a b c : List UInt8) (ha : a.length = 16) (hb : b.length = 16) (hc : c.length = 16) : gmulL (gmulL a b) c = gmulL a (gmulL b c) := by
  rw [gmulL, big_gmul a b hb, gmulL, big_gmul b c hc, mulV_assoc _ _ _ (big16_lt a ha) (big16_lt b hb) (big16_lt c hc)]
theorem blkL_inj (n m : Nat) (hn : n < 2 ^ 128) (hm : m < 2 ^ 128) (h : blkL n = blkL m) : n = m := by
  rw [← bigN_blk n hn, h, bigN_blk m hm]
theorem big_xor (a b : List UInt8) (ha : a.length = 16) (hb : b.length = 16) : bigN (xorL a b) = bigN a ^^^ bigN b := by
  have hx : (xorL a b).length = 16 := by rw [xorL_len, ha, hb]; rfl
  refine eq_of_bits _ _ (big16_lt _ hx) (Nat.xor_lt_two_pow (big16_lt a ha) (big16_lt b hb)) fun i hi => ?_
  have hk : i / 8 < 16 := by omega
  rw [bitV_xor, bit_byte _ hx i hi, bit_byte a ha i hi, bit_byte b hb i hi]
  have e : (xorL a b).getD (i / 8) 0 = a.getD (i / 8) 0 ^^^ b.getD (i / 8) 0 := by
    simp [xorL, List.getD, List.getElem?_zipWith, show i / 8 < a.length by omega, show i / 8 < b.length by omega]
  rw [e, UInt8.toNat_xor, Nat.testBit_xor]
theorem gmul_xor (a b c : List UInt8) (hb : b.length = 16) (hc : c.length = 16) : gmulL a (xorL b c) = xorL (gmulL a b) (gmulL a c) := by
  have hl : (xorL (gmulL a b) (gmulL a c)).length = 16 := by rw [xorL_len, gmulL_len, gmulL_len]; rfl
  rw [← blk_big _ hl, big_xor _ _ (gmulL_len _ _) (gmulL_len _ _), big_gmul a b hb, big_gmul a c hc, gmulL, big_xor b c hb hc, mulV_xor]
theorem gmul_inj (a b c : List UInt8) (ha : a.length = 16) (hb : b.length = 16) (hc : c.length = 16) (h0 : c ≠ zerB) (h : gmulL a c = gmulL b c) : a = b := by
  have hc0 : bigN c ≠ 0 := fun e => h0 (by rw [← blk_big c hc, e]; decide)
  have := mulV_inj _ _ _ (big16_lt a ha) (big16_lt b hb) (big16_lt c hc) hc0 (blkL_inj _ _ (mulV_lt _ _ (big16_lt c hc)) (mulV_lt _ _ (big16_lt c hc)) h)
  rw [← blk_big a ha, this, blk_big b hb]
theorem i16l (l : List UInt8) (h : l.length = 16) : (Try.prog.info? 33).map (·.size) = some (l.map bv).length := by rw [List.length_map, h]; exact i16B
def bothN (a b : List UInt8) (i : Nat) : List UInt8 := (xorL a b).take i ++ a.drop i
theorem bothN_len (a b : List UInt8) (i : Nat) (ha : a.length = 16) (hb : b.length = 16) (hi : i ≤ 16) : (bothN a b i).length = 16 := by simp [bothN, xorL_len, ha, hb]; omega
theorem bothN_get (a b : List UInt8) (i : Nat) (ha : a.length = 16) (hb : b.length = 16) (hi : i < 16) : (bothN a b i).getD i 0 = a.getD i 0 := by
  have hl : ((xorL a b).take i).length = i := by simp [xorL_len, ha, hb]; omega
  simp only [bothN, List.getD]
  rw [List.getElem?_append_right (by omega), hl]; simp
theorem bothN_step (a b : List UInt8) (i : Nat) (ha : a.length = 16) (hb : b.length = 16) (hi : i < 16) : (bothN a b i).set i (a.getD i 0 ^^^ b.getD i 0) = bothN a b (i + 1) := by
  have hx : i < (xorL a b).length := by rw [xorL_len, ha, hb]; exact hi
  have hl : ((xorL a b).take i).length = i := by rw [List.length_take]; omega
  unfold bothN
  rw [List.set_append_right _ _ (by omega), hl, Nat.sub_self, List.drop_eq_getElem_cons (show i < a.length by omega), List.set_cons_zero, List.take_succ_eq_append_getElem hx, List.append_assoc]
  congr 1
  simp [xorL, List.getD, ha, hb, hi]
end Go.Proofs.Ytkgbhlppadpdfaa
