/- Plain mathematics on numbers of 32 and 64 bits, bytes and rows of bytes: nothing of the program. -/
import Derived.WalkKit
import Derived.IntWalk
namespace Go.Proofs.Ytjmpbcfbfbjenaa
open Go.RowKit
set_option maxRecDepth 100000
set_option linter.unusedVariables false

/-! ### numbers of 32 bits -/
theorem bits_or_u32 (a b : Int) : bits .or .u32 a b = ((BitVec.ofInt 32 a ||| BitVec.ofInt 32 b).toNat : Int) := by
  show IntKind.u32.wrap ((BitVec.ofInt 32 a ||| BitVec.ofInt 32 b).toNat : Int) = _
  rw [IntKind.wrap_u32']; omega
theorem bits_and_u64 (a b : Int) : bits .and .u64 a b = ((BitVec.ofInt 64 a &&& BitVec.ofInt 64 b).toNat : Int) := by
  show IntKind.u64.wrap ((BitVec.ofInt 64 a &&& BitVec.ofInt 64 b).toNat : Int) = _
  rw [IntKind.wrap_u64]; omega
/-- x, turned to the left n times -/
def rotl (x : BitVec 32) (n : Int) : BitVec 32 := x.rotateLeft (n % 32).toNat

theorem ofInt_natCast_toNat (x : BitVec 32) : BitVec.ofInt 32 (x.toNat : Int) = x := by
  rw [BitVec.ofInt_natCast]; simp
theorem left_shl (x : BitVec 32) (k : Nat) (hk : k ≤ 32) : BitVec.ofInt 32 (IntKind.u32.wrap ((x.toNat : Int) * 2 ^ min k 32)) = x <<< k := by
  rw [IntKind.wrap_u32', Nat.min_eq_left hk]
  apply BitVec.eq_of_toNat_eq
  rw [BitVec.toNat_shiftLeft, Nat.shiftLeft_eq]
  have e : ((x.toNat : Int) * 2 ^ k % 4294967296) = ((x.toNat * 2 ^ k % 4294967296 : Nat) : Int) := by simp
  rw [e, BitVec.ofInt_natCast, BitVec.toNat_ofNat]; simp
theorem left_shr (x : BitVec 32) (k : Nat) (hk : k ≤ 32) : BitVec.ofInt 32 ((x.toNat : Int) / 2 ^ min k 32) = x >>> k := by
  rw [Nat.min_eq_left hk]
  apply BitVec.eq_of_toNat_eq
  rw [BitVec.toNat_ushiftRight, Nat.shiftRight_eq_div_pow]
  have e : ((x.toNat : Int) / 2 ^ k) = ((x.toNat / 2 ^ k : Nat) : Int) := by simp
  rw [e, BitVec.ofInt_natCast, BitVec.toNat_ofNat]
  apply Nat.mod_eq_of_lt
  have := x.isLt
  exact Nat.lt_of_le_of_lt (Nat.div_le_self _ _) this
theorem and31 (n : Int) : bits .and .u64 (IntKind.u64.wrap n) 31 = ((n % 32).toNat : Int) := by
  rw [u64_and _ _ (by rw [IntKind.wrap_u64]; omega) (by rw [IntKind.wrap_u64]; omega) (by decide) (by decide), IntKind.wrap_u64]
  have : (31 : Int).toNat = 31 := rfl
  rw [this, nat_mask5]; omega
theorem left_math (x : BitVec 32) (k : Nat) (hk : k < 32) :
    bits .or .u32 ((x.toNat : Int) * 2 ^ k % 4294967296) ((x.toNat : Int) / 2 ^ (32 - k)) = ((x.rotateLeft k).toNat : Int) := by
  have h1 := left_shl x k (by omega)
  have h2 := left_shr x (32 - k) (by omega)
  rw [Nat.min_eq_left (by omega)] at h1 h2
  rw [IntKind.wrap_u32'] at h1
  rw [bits_or_u32, h1, h2, BitVec.rotateLeft_def, Nat.mod_eq_of_lt hk]
theorem ret_bool {a b : Bool} (h : a = b) : Ending.returned (.bool a) = .returned (.bool b) := by rw [h]
theorem ret_int {k : IntKind} {a b : Int} (h : a = b) : Ending.returned (.int k a) = .returned (.int k b) := by rw [h]

/-! ### bytes as numbers -/
/-- the number of bytes, the highest one first -/
def bigN (bs : List UInt8) : Nat := bs.foldl (fun n b => n * 256 + b.toNat) 0
theorem bigN_snoc (bs : List UInt8) (b : UInt8) : bigN (bs ++ [b]) = bigN bs * 256 + b.toNat := by simp [bigN]
theorem bigN_lt (bs : List UInt8) : bigN bs < 256 ^ bs.length := by
  suffices h : ∀ k, k ≤ bs.length → bigN (bs.take k) < 256 ^ k by
    have := h bs.length (Nat.le_refl _); rwa [List.take_of_length_le (Nat.le_refl _)] at this
  intro k
  induction k with
  | zero => intro _; simp [bigN]
  | succ k ih =>
    intro hk
    rw [List.take_succ_eq_append_getElem (by omega), bigN_snoc, Nat.pow_succ]
    have := ih (by omega)
    have hb := bs[k].toNat_lt
    omega
theorem bigN_lt8 (bs : List UInt8) (h : bs.length ≤ 8) : bigN bs < 18446744073709551616 :=
  Nat.lt_of_lt_of_le (bigN_lt bs) (Nat.le_trans (Nat.pow_le_pow_right (by decide) h) (by decide))
theorem bigN_lt7 (bs : List UInt8) (h : bs.length ≤ 7) : bigN bs < 72057594037927936 :=
  Nat.lt_of_lt_of_le (bigN_lt bs) (Nat.le_trans (Nat.pow_le_pow_right (by decide) h) (by decide))
theorem bigN_zeros (k : Nat) (bs : List UInt8) : bigN (List.replicate k 0 ++ bs) = bigN bs := by
  induction k with
  | zero => simp
  | succ k ih => rw [List.replicate_succ, List.cons_append]; simpa [bigN] using ih
/-- the last eight bytes count -/
def big (bs : List UInt8) : Nat := bigN (bs.drop (bs.length - 8))
theorem take_snoc8 (L : List UInt8) (k : Nat) (h : k < L.length) : L.take (k + 1) = L.take k ++ [L.getD k 0] := by
  rw [List.take_succ_eq_append_getElem h]; simp [List.getD, h]

theorem shl8_or (n b : Nat) (h : n < 72057594037927936) (hb : b < 256) : bits .or .u64 ((n : Int) * 256) (b : Int) = ((n * 256 + b : Nat) : Int) := by
  have e : ((n : Int) * 256) = ((n * 256 : Nat) : Int) := by simp
  rw [e, u64_or_nat _ _ (by omega) (by omega), nat_join 8 (n * 256) b (by omega) (by omega)]

/-- the number of bytes, the lowest one first -/
def littleN (bs : List UInt8) : Nat := bigN bs.reverse
theorem littleN_cons (b : UInt8) (bs : List UInt8) : littleN (b :: bs) = littleN bs * 256 + b.toNat := by simp [littleN, bigN_snoc]
theorem littleN_snoc (bs : List UInt8) (b : UInt8) : littleN (bs ++ [b]) = littleN bs + 256 ^ bs.length * b.toNat := by
  induction bs with
  | nil => simp [littleN, bigN]
  | cons x bs ih =>
    rw [List.cons_append, littleN_cons, ih, littleN_cons, List.length_cons, Nat.pow_succ, Nat.add_mul, Nat.mul_right_comm]
    omega
theorem littleN_lt (bs : List UInt8) : littleN bs < 256 ^ bs.length := by
  have := bigN_lt bs.reverse; rwa [List.length_reverse] at this
theorem littleN_zeros (k : Nat) (bs : List UInt8) : littleN (bs ++ List.replicate k 0) = littleN bs := by
  rw [littleN, List.reverse_append, List.reverse_replicate, bigN_zeros]; rfl

theorem pow256 (k : Nat) : 256 ^ k = 2 ^ (8 * k) := by rw [Nat.pow_mul]
theorem or_shl (N x k : Nat) (hN : N < 256 ^ k) (hx : x < 256) (hk : k < 8) : bits .or .u64 (N : Int) (IntKind.u64.wrap ((x : Int) * 2 ^ (8 * k))) = ((N + 256 ^ k * x : Nat) : Int) := by
  have h8 : (256 : Nat) ^ 8 = 18446744073709551616 := by decide
  have h1 : 256 ^ k * x < 256 ^ (k + 1) := by
    rw [Nat.pow_succ]; exact Nat.mul_lt_mul_of_pos_left hx (Nat.pow_pos (by decide))
  have h2 : 256 ^ (k + 1) ≤ 256 ^ 8 := Nat.pow_le_pow_right (by decide) (by omega)
  have h3 : (256 : Nat) ^ k ≤ 256 ^ 8 := Nat.pow_le_pow_right (by decide) (by omega)
  have e : ((x : Int) * 2 ^ (8 * k)) = ((256 ^ k * x : Nat) : Int) := by rw [pow256, Nat.mul_comm (2 ^ (8 * k)) x]; simp
  rw [e, IntKind.wrap_u64, Int.emod_eq_of_lt (by omega) (by omega), u64_or_nat _ _ (by omega) (by omega), Nat.or_comm, nat_join (8 * k) _ N ?_ (by rw [← pow256]; exact hN)]
  · rw [Nat.add_comm]
  · rw [← pow256]; exact Nat.mul_mod_right _ _
/-- byte i of x, the lowest one at 0 -/
def byteAt (x i : Nat) : UInt8 := UInt8.ofNat (x / 256 ^ i)
theorem at_math (x i : Nat) (hx : x < 18446744073709551616) : (x : Int) / 2 ^ min (8 * i) 64 % 256 = ((byteAt x i).toNat : Int) := by
  unfold byteAt
  rw [UInt8.toNat_ofNat', pow256]
  by_cases h : 8 * i ≤ 64
  · rw [Nat.min_eq_left h]; simp
  · rw [Nat.min_eq_right (by omega), Nat.div_eq_of_lt (a := x) (b := 2 ^ (8 * i))]
    · have : (x : Int) / 2 ^ 64 = 0 := Int.ediv_eq_zero_of_lt (by omega) (by simpa using (by omega : (x : Int) < 18446744073709551616))
      rw [this]; rfl
    · exact Nat.lt_of_lt_of_le hx (Nat.le_trans (by decide : 18446744073709551616 ≤ 2 ^ 64) (Nat.pow_le_pow_right (by decide) (by omega)))

theorem rot_get (x : BitVec 32) (i k : Nat) (hi : i < 32) (hk : k < 32) : (x.rotateLeft i).getLsbD k = x.getLsbD ((k + (32 - i)) % 32) := by
  rw [BitVec.getLsbD_rotateLeft, Nat.mod_eq_of_lt hi]
  by_cases h : k < i
  · simp only [h, decide_true, cond_true]; congr 1; omega
  · simp only [h, hk, decide_true, decide_false, cond_false, Bool.true_and]; congr 1; omega
theorem turns_math (x : BitVec 32) (a b : Int) : rotl (rotl x a) b = rotl x (a + b) := by
  unfold rotl
  have ha : (a % 32).toNat < 32 := by omega
  have hb : (b % 32).toNat < 32 := by omega
  have hab : ((a + b) % 32).toNat = ((a % 32).toNat + (b % 32).toNat) % 32 := by omega
  rw [hab]
  generalize (a % 32).toNat = i at *
  generalize (b % 32).toNat = j at *
  apply BitVec.eq_of_getLsbD_eq
  intro k hk
  rw [rot_get _ _ _ hb hk, rot_get _ _ _ ha (by omega), rot_get _ _ _ (by omega) hk]
  congr 1; omega
theorem rotl_zero (x : BitVec 32) : rotl x 0 = x := by
  unfold rotl
  apply BitVec.eq_of_getLsbD_eq
  intro k hk
  rw [rot_get _ _ _ (by omega) hk]
  congr 1; omega
theorem rotl_32 (x : BitVec 32) : rotl x 32 = x := rotl_zero x

/-- the bytes of x, the lowest one first; the highest one first -/
def putLittle (x many : Nat) : List UInt8 := (List.range many).map fun i => byteAt x i
def putBig (x many : Nat) : List UInt8 := (List.range many).map fun i => byteAt x (many - 1 - i)
theorem littleN_put (x k : Nat) : littleN (putLittle x k) = x % 256 ^ k := by
  induction k with
  | zero => simp [putLittle, littleN, bigN, Nat.mod_one]
  | succ k ih =>
    have e : putLittle x (k + 1) = putLittle x k ++ [byteAt x k] := by simp [putLittle, List.range_succ]
    rw [e, littleN_snoc, ih, Nat.mod_pow_succ]
    have hl : (putLittle x k).length = k := by simp [putLittle]
    rw [hl, byteAt, UInt8.toNat_ofNat']
theorem putBig_rev (x k : Nat) : putBig x k = (putLittle x k).reverse := by
  apply List.ext_getElem
  · simp [putBig, putLittle]
  · intro i h1 h2
    simp [putBig, putLittle]
theorem bigN_put (x k : Nat) : bigN (putBig x k) = x % 256 ^ k := by
  rw [putBig_rev, ← littleN_put]; rfl
theorem big_put (x k : Nat) (hk : k ≤ 8) : big (putBig x k) = x % 256 ^ k := by
  unfold big
  have : (putBig x k).length - 8 = 0 := by simp [putBig]; omega
  rw [this, List.drop_zero, bigN_put]

/-- bytes as a number of 128 bits, and n more, as bytes -/
def countL (c : List UInt8) (n : Nat) : List UInt8 := putBig ((bigN c + n) % 340282366920938463463374607431768211456) 16
theorem bigN_append (a b : List UInt8) : bigN (a ++ b) = bigN a * 256 ^ b.length + bigN b := by
  suffices h : ∀ k, k ≤ b.length → bigN (a ++ b.take k) = bigN a * 256 ^ k + bigN (b.take k) by
    have := h b.length (Nat.le_refl _); rwa [List.take_of_length_le (Nat.le_refl _)] at this
  intro k
  induction k with
  | zero => intro _; simp [bigN]
  | succ k ih =>
    intro hk
    rw [List.take_succ_eq_append_getElem (by omega), ← List.append_assoc, bigN_snoc, bigN_snoc, ih (by omega), Nat.pow_succ, Nat.add_mul, Nat.mul_assoc]
    omega
theorem putBig_split (x a b : Nat) : putBig x (a + b) = putBig (x / 256 ^ b) a ++ putBig x b := by
  apply List.ext_getElem
  · simp [putBig]
  · intro i h1 h2
    simp only [putBig, List.length_map, List.length_range] at h1
    by_cases hi : i < a
    · rw [List.getElem_append_left (by simpa [putBig] using hi)]
      simp only [putBig, List.getElem_map, List.getElem_range, byteAt, Nat.div_div_eq_div_mul, ← Nat.pow_add]
      congr 3
      omega
    · rw [List.getElem_append_right (by simpa [putBig] using hi)]
      simp only [putBig, List.getElem_map, List.getElem_range, byteAt, List.length_map, List.length_range]
      congr 3
      omega
theorem putBig_mod (x k m : Nat) (h : k ≤ m) : putBig (x % 256 ^ m) k = putBig x k := by
  unfold putBig
  apply List.map_congr_left
  intro i hi
  simp only [List.mem_range] at hi
  unfold byteAt
  rw [← UInt8.toNat_inj, UInt8.toNat_ofNat', UInt8.toNat_ofNat']
  have e : 256 ^ m = 256 ^ (k - 1 - i) * 256 ^ (m - (k - 1 - i)) := by rw [← Nat.pow_add]; congr 1; omega
  rw [e, Nat.mod_mul_right_div_self]
  have e2 : 256 ^ (m - (k - 1 - i)) = 2 ^ 8 * 256 ^ (m - (k - 1 - i) - 1) := by
    rw [show (2 : Nat) ^ 8 = 256 ^ 1 from rfl, ← Nat.pow_add]; congr 1; omega
  rw [e2, Nat.mod_mul_right_mod]
theorem count_math (c : List UInt8) (n hi lo : Nat) (hc : c.length = 16) (hh : hi = bigN (c.take 8)) (hl : lo = bigN (c.drop 8)) (hn : n < 18446744073709551616) :
    putBig ((if (lo + n) % 18446744073709551616 < n then hi + 1 else hi) % 18446744073709551616) 8 ++ putBig ((lo + n) % 18446744073709551616) 8 = countL c n := by
  have hlo : lo < 18446744073709551616 := by rw [hl]; exact bigN_lt8 _ (by simp [hc])
  have h8 : (256 : Nat) ^ 8 = 18446744073709551616 := by decide
  have e : bigN c = hi * 18446744073709551616 + lo := by
    rw [hh, hl]
    have := bigN_append (c.take 8) (c.drop 8)
    rw [List.take_append_drop] at this
    rw [this]
    simp [hc]
  unfold countL
  rw [show (16 : Nat) = 8 + 8 from rfl, putBig_split, e, h8]
  have m1 := putBig_mod (lo + n) 8 8 (Nat.le_refl _)
  rw [h8] at m1
  have m2 : putBig ((hi * 18446744073709551616 + lo + n) % 340282366920938463463374607431768211456) 8 = putBig (lo + n) 8 := by
    rw [← putBig_mod _ 8 8 (Nat.le_refl _), ← putBig_mod (lo + n) 8 8 (Nat.le_refl _), h8]
    congr 1
    omega
  rw [m1, m2]
  congr 2
  split <;> omega

theorem count_cases (c : List UInt8) (n : Nat) (hc : c.length = 16) (hn : n < 18446744073709551616) : ∃ hi lo low : Nat, big (c.take 8) = hi ∧ big (c.drop 8) = lo ∧ hi < 18446744073709551616 ∧ low < 18446744073709551616 ∧
    IntKind.u64.wrap ((lo : Int) + (n : Int)) = (low : Int) ∧
    ∃ high : Nat, high < 18446744073709551616 ∧ putBig high 8 ++ putBig low 8 = countL c n ∧ ((low < n ∧ IntKind.u64.wrap ((hi : Int) + 1) = (high : Int)) ∨ (¬ low < n ∧ high = hi)) := by
  have e1 : big (c.take 8) = bigN (c.take 8) := by unfold big; rw [show (c.take 8).length - 8 = 0 by simp [hc]]; rfl
  have e2 : big (c.drop 8) = bigN (c.drop 8) := by unfold big; rw [show (c.drop 8).length - 8 = 0 by simp [hc]]; rfl
  have m := count_math c n _ _ hc rfl rfl hn
  have hhi : bigN (c.take 8) < 18446744073709551616 := bigN_lt8 _ (by simp [hc])
  refine ⟨bigN (c.take 8), bigN (c.drop 8), (bigN (c.drop 8) + n) % 18446744073709551616, e1, e2, hhi, Nat.mod_lt _ (by decide), by rw [IntKind.wrap_u64]; omega, ?_⟩
  by_cases h : (bigN (c.drop 8) + n) % 18446744073709551616 < n
  · refine ⟨(bigN (c.take 8) + 1) % 18446744073709551616, Nat.mod_lt _ (by decide), ?_, .inl ⟨h, by rw [IntKind.wrap_u64]; omega⟩⟩
    rw [if_pos h] at m; exact m
  · refine ⟨bigN (c.take 8), hhi, ?_, .inr ⟨h, rfl⟩⟩
    rw [if_neg h, Nat.mod_eq_of_lt hhi] at m; exact m
end Go.Proofs.Ytjmpbcfbfbjenaa
