/- Joined: Num Mem Bits1 Bits2. -/
import Derived.WalkKit
import Derived.IntWalk
import Derived.WalkSpells
import Derived.Lib.Hide
import Derived.Laws.CopyOwn
import Derived.Deep.AppendLies
import Derived.Deep.Draws
import Derived.Test.YtjlljifllnmdoaaChecked
/- Plain mathematics on numbers of 32 and 64 bits, bytes and rows of bytes: nothing of the program. -/
namespace Go.Proofs.Ytjlljifllnmdoaa
open Go.RowKit
set_option maxRecDepth 100000
set_option linter.unusedVariables false

/-! ### numbers of 32 bits -/
theorem bits_or_u32 (a b : Int) : bits .or .u32 a b = ((BitVec.ofInt 32 a ||| BitVec.ofInt 32 b).toNat : Int) := by
  show IntKind.u32.wrap ((BitVec.ofInt 32 a ||| BitVec.ofInt 32 b).toNat : Int) = _
  rw [IntKind.wrap_u32']; omega
theorem bits_and_u64 (a b : Int) : bits .and .u64 a b = ((BitVec.ofInt 64 a &&& BitVec.ofInt 64 b).toNat : Int) := by
  show IntKind.u64.wrap ((BitVec.ofInt 64 a &&& BitVec.ofInt 64 b).toNat : Int) = _
  rw [IntKind.wrap_u64]; omega
/-- x, turned to the left n times -/
def rotl (x : BitVec 32) (n : Int) : BitVec 32 := x.rotateLeft (n % 32).toNat

theorem ofInt_natCast_toNat (x : BitVec 32) : BitVec.ofInt 32 (x.toNat : Int) = x := by
  rw [BitVec.ofInt_natCast]; simp
theorem left_shl (x : BitVec 32) (k : Nat) (hk : k ≤ 32) : BitVec.ofInt 32 (IntKind.u32.wrap ((x.toNat : Int) * 2 ^ min k 32)) = x <<< k := by
  rw [IntKind.wrap_u32', Nat.min_eq_left hk]
  apply BitVec.eq_of_toNat_eq
  rw [BitVec.toNat_shiftLeft, Nat.shiftLeft_eq]
  have e : ((x.toNat : Int) * 2 ^ k % 4294967296) = ((x.toNat * 2 ^ k % 4294967296 : Nat) : Int) := by simp
  rw [e, BitVec.ofInt_natCast, BitVec.toNat_ofNat]; simp
theorem left_shr (x : BitVec 32) (k : Nat) (hk : k ≤ 32) : BitVec.ofInt 32 ((x.toNat : Int) / 2 ^ min k 32) = x >>> k := by
  rw [Nat.min_eq_left hk]
  apply BitVec.eq_of_toNat_eq
  rw [BitVec.toNat_ushiftRight, Nat.shiftRight_eq_div_pow]
  have e : ((x.toNat : Int) / 2 ^ k) = ((x.toNat / 2 ^ k : Nat) : Int) := by simp
  rw [e, BitVec.ofInt_natCast, BitVec.toNat_ofNat]
  apply Nat.mod_eq_of_lt
  have := x.isLt
  exact Nat.lt_of_le_of_lt (Nat.div_le_self _ _) this
theorem and31 (n : Int) : bits .and .u64 (IntKind.u64.wrap n) 31 = ((n % 32).toNat : Int) := by
  rw [u64_and _ _ (by rw [IntKind.wrap_u64]; omega) (by rw [IntKind.wrap_u64]; omega) (by decide) (by decide), IntKind.wrap_u64]
  have : (31 : Int).toNat = 31 := rfl
  rw [this, nat_mask5]; omega
theorem left_math (x : BitVec 32) (k : Nat) (hk : k < 32) :
    bits .or .u32 ((x.toNat : Int) * 2 ^ k % 4294967296) ((x.toNat : Int) / 2 ^ (32 - k)) = ((x.rotateLeft k).toNat : Int) := by
  have h1 := left_shl x k (by omega)
  have h2 := left_shr x (32 - k) (by omega)
  rw [Nat.min_eq_left (by omega)] at h1 h2
  rw [IntKind.wrap_u32'] at h1
  rw [bits_or_u32, h1, h2, BitVec.rotateLeft_def, Nat.mod_eq_of_lt hk]
theorem ret_bool {a b : Bool} (h : a = b) : Ending.returned (.bool a) = .returned (.bool b) := by rw [h]
theorem ret_int {k : IntKind} {a b : Int} (h : a = b) : Ending.returned (.int k a) = .returned (.int k b) := by rw [h]

/-! ### bytes as numbers -/
/-- the number of bytes, the highest one first -/
def bigN (bs : List UInt8) : Nat := bs.foldl (fun n b => n * 256 + b.toNat) 0
theorem bigN_snoc (bs : List UInt8) (b : UInt8) : bigN (bs ++ [b]) = bigN bs * 256 + b.toNat := by simp [bigN]
theorem bigN_lt (bs : List UInt8) : bigN bs < 256 ^ bs.length := by
  suffices h : ∀ k, k ≤ bs.length → bigN (bs.take k) < 256 ^ k by
    have := h bs.length (Nat.le_refl _); rwa [List.take_of_length_le (Nat.le_refl _)] at this
  intro k
  induction k with
  | zero => intro _; simp [bigN]
  | succ k ih =>
    intro hk
    rw [List.take_succ_eq_append_getElem (by omega), bigN_snoc, Nat.pow_succ]
    have := ih (by omega)
    have hb := bs[k].toNat_lt
    omega
theorem bigN_lt8 (bs : List UInt8) (h : bs.length ≤ 8) : bigN bs < 18446744073709551616 :=
  Nat.lt_of_lt_of_le (bigN_lt bs) (Nat.le_trans (Nat.pow_le_pow_right (by decide) h) (by decide))
theorem bigN_lt7 (bs : List UInt8) (h : bs.length ≤ 7) : bigN bs < 72057594037927936 :=
  Nat.lt_of_lt_of_le (bigN_lt bs) (Nat.le_trans (Nat.pow_le_pow_right (by decide) h) (by decide))
theorem bigN_zeros (k : Nat) (bs : List UInt8) : bigN (List.replicate k 0 ++ bs) = bigN bs := by
  induction k with
  | zero => simp
  | succ k ih => rw [List.replicate_succ, List.cons_append]; simpa [bigN] using ih
/-- the last eight bytes count -/
def big (bs : List UInt8) : Nat := bigN (bs.drop (bs.length - 8))
theorem take_snoc8 (L : List UInt8) (k : Nat) (h : k < L.length) : L.take (k + 1) = L.take k ++ [L.getD k 0] := by
  rw [List.take_succ_eq_append_getElem h]; simp [List.getD, h]

theorem shl8_or (n b : Nat) (h : n < 72057594037927936) (hb : b < 256) : bits .or .u64 ((n : Int) * 256) (b : Int) = ((n * 256 + b : Nat) : Int) := by
  have e : ((n : Int) * 256) = ((n * 256 : Nat) : Int) := by simp
  rw [e, u64_or_nat _ _ (by omega) (by omega), nat_join 8 (n * 256) b (by omega) (by omega)]

/-- the number of bytes, the lowest one first -/
def littleN (bs : List UInt8) : Nat := bigN bs.reverse
theorem littleN_cons (b : UInt8) (bs : List UInt8) : littleN (b :: bs) = littleN bs * 256 + b.toNat := by simp [littleN, bigN_snoc]
theorem littleN_snoc (bs : List UInt8) (b : UInt8) : littleN (bs ++ [b]) = littleN bs + 256 ^ bs.length * b.toNat := by
  induction bs with
  | nil => simp [littleN, bigN]
  | cons x bs ih =>
    rw [List.cons_append, littleN_cons, ih, littleN_cons, List.length_cons, Nat.pow_succ, Nat.add_mul, Nat.mul_right_comm]
    omega
theorem littleN_lt (bs : List UInt8) : littleN bs < 256 ^ bs.length := by
  have := bigN_lt bs.reverse; rwa [List.length_reverse] at this
theorem littleN_zeros (k : Nat) (bs : List UInt8) : littleN (bs ++ List.replicate k 0) = littleN bs := by
  rw [littleN, List.reverse_append, List.reverse_replicate, bigN_zeros]; rfl

theorem pow256 (k : Nat) : 256 ^ k = 2 ^ (8 * k) := by rw [Nat.pow_mul]
theorem or_shl (N x k : Nat) (hN : N < 256 ^ k) (hx : x < 256) (hk : k < 8) : bits .or .u64 (N : Int) (IntKind.u64.wrap ((x : Int) * 2 ^ (8 * k))) = ((N + 256 ^ k * x : Nat) : Int) := by
  have h8 : (256 : Nat) ^ 8 = 18446744073709551616 := by decide
  have h1 : 256 ^ k * x < 256 ^ (k + 1) := by
    rw [Nat.pow_succ]; exact Nat.mul_lt_mul_of_pos_left hx (Nat.pow_pos (by decide))
  have h2 : 256 ^ (k + 1) ≤ 256 ^ 8 := Nat.pow_le_pow_right (by decide) (by omega)
  have h3 : (256 : Nat) ^ k ≤ 256 ^ 8 := Nat.pow_le_pow_right (by decide) (by omega)
  have e : ((x : Int) * 2 ^ (8 * k)) = ((256 ^ k * x : Nat) : Int) := by rw [pow256, Nat.mul_comm (2 ^ (8 * k)) x]; simp
  rw [e, IntKind.wrap_u64, Int.emod_eq_of_lt (by omega) (by omega), u64_or_nat _ _ (by omega) (by omega), Nat.or_comm, nat_join (8 * k) _ N ?_ (by rw [← pow256]; exact hN)]
  · rw [Nat.add_comm]
  · rw [← pow256]; exact Nat.mul_mod_right _ _
/-- byte i of x, the lowest one at 0 -/
def byteAt (x i : Nat) : UInt8 := UInt8.ofNat (x / 256 ^ i)
theorem at_math (x i : Nat) (hx : x < 18446744073709551616) : (x : Int) / 2 ^ min (8 * i) 64 % 256 = ((byteAt x i).toNat : Int) := by
  unfold byteAt
  rw [UInt8.toNat_ofNat', pow256]
  by_cases h : 8 * i ≤ 64
  · rw [Nat.min_eq_left h]; simp
  · rw [Nat.min_eq_right (by omega), Nat.div_eq_of_lt (a := x) (b := 2 ^ (8 * i))]
    · have : (x : Int) / 2 ^ 64 = 0 := Int.ediv_eq_zero_of_lt (by omega) (by simpa using (by omega : (x : Int) < 18446744073709551616))
      rw [this]; rfl
    · exact Nat.lt_of_lt_of_le hx (Nat.le_trans (by decide : 18446744073709551616 ≤ 2 ^ 64) (Nat.pow_le_pow_right (by decide) (by omega)))

theorem rot_get (x : BitVec 32) (i k : Nat) (hi : i < 32) (hk : k < 32) : (x.rotateLeft i).getLsbD k = x.getLsbD ((k + (32 - i)) % 32) := by
  rw [BitVec.getLsbD_rotateLeft, Nat.mod_eq_of_lt hi]
  by_cases h : k < i
  · simp only [h, decide_true, cond_true]; congr 1; omega
  · simp only [h, hk, decide_true, decide_false, cond_false, Bool.true_and]; congr 1; omega
theorem turns_math (x : BitVec 32) (a b : Int) : rotl (rotl x a) b = rotl x (a + b) := by
  unfold rotl
  have ha : (a % 32).toNat < 32 := by omega
  have hb : (b % 32).toNat < 32 := by omega
  have hab : ((a + b) % 32).toNat = ((a % 32).toNat + (b % 32).toNat) % 32 := by omega
  rw [hab]
  generalize (a % 32).toNat = i at *
  generalize (b % 32).toNat = j at *
  apply BitVec.eq_of_getLsbD_eq
  intro k hk
  rw [rot_get _ _ _ hb hk, rot_get _ _ _ ha (by omega), rot_get _ _ _ (by omega) hk]
  congr 1; omega
theorem rotl_zero (x : BitVec 32) : rotl x 0 = x := by
  unfold rotl
  apply BitVec.eq_of_getLsbD_eq
  intro k hk
  rw [rot_get _ _ _ (by omega) hk]
  congr 1; omega
theorem rotl_32 (x : BitVec 32) : rotl x 32 = x := rotl_zero x

/-- the bytes of x, the lowest one first; the highest one first -/
def putLittle (x many : Nat) : List UInt8 := (List.range many).map fun i => byteAt x i
def putBig (x many : Nat) : List UInt8 := (List.range many).map fun i => byteAt x (many - 1 - i)
theorem littleN_put (x k : Nat) : littleN (putLittle x k) = x % 256 ^ k := by
  induction k with
  | zero => simp [putLittle, littleN, bigN, Nat.mod_one]
  | succ k ih =>
    have e : putLittle x (k + 1) = putLittle x k ++ [byteAt x k] := by simp [putLittle, List.range_succ]
    rw [e, littleN_snoc, ih, Nat.mod_pow_succ]
    have hl : (putLittle x k).length = k := by simp [putLittle]
    rw [hl, byteAt, UInt8.toNat_ofNat']
theorem putBig_rev (x k : Nat) : putBig x k = (putLittle x k).reverse := by
  apply List.ext_getElem
  · simp [putBig, putLittle]
  · intro i h1 h2
    simp [putBig, putLittle]
theorem bigN_put (x k : Nat) : bigN (putBig x k) = x % 256 ^ k := by
  rw [putBig_rev, ← littleN_put]; rfl
theorem big_put (x k : Nat) (hk : k ≤ 8) : big (putBig x k) = x % 256 ^ k := by
  unfold big
  have : (putBig x k).length - 8 = 0 := by simp [putBig]; omega
  rw [this, List.drop_zero, bigN_put]

/-- bytes as a number of 128 bits, and n more, as bytes -/
def countL (c : List UInt8) (n : Nat) : List UInt8 := putBig ((bigN c + n) % 340282366920938463463374607431768211456) 16
theorem bigN_append (a b : List UInt8) : bigN (a ++ b) = bigN a * 256 ^ b.length + bigN b := by
  suffices h : ∀ k, k ≤ b.length → bigN (a ++ b.take k) = bigN a * 256 ^ k + bigN (b.take k) by
    have := h b.length (Nat.le_refl _); rwa [List.take_of_length_le (Nat.le_refl _)] at this
  intro k
  induction k with
  | zero => intro _; simp [bigN]
  | succ k ih =>
    intro hk
    rw [List.take_succ_eq_append_getElem (by omega), ← List.append_assoc, bigN_snoc, bigN_snoc, ih (by omega), Nat.pow_succ, Nat.add_mul, Nat.mul_assoc]
    omega
theorem putBig_split (x a b : Nat) : putBig x (a + b) = putBig (x / 256 ^ b) a ++ putBig x b := by
  apply List.ext_getElem
  · simp [putBig]
  · intro i h1 h2
    simp only [putBig, List.length_map, List.length_range] at h1
    by_cases hi : i < a
    · rw [List.getElem_append_left (by simpa [putBig] using hi)]
      simp only [putBig, List.getElem_map, List.getElem_range, byteAt, Nat.div_div_eq_div_mul, ← Nat.pow_add]
      congr 3
      omega
    · rw [List.getElem_append_right (by simpa [putBig] using hi)]
      simp only [putBig, List.getElem_map, List.getElem_range, byteAt, List.length_map, List.length_range]
      congr 3
      omega
theorem putBig_mod (x k m : Nat) (h : k ≤ m) : putBig (x % 256 ^ m) k = putBig x k := by
  unfold putBig
  apply List.map_congr_left
  intro i hi
  simp only [List.mem_range] at hi
  unfold byteAt
  rw [← UInt8.toNat_inj, UInt8.toNat_ofNat', UInt8.toNat_ofNat']
  have e : 256 ^ m = 256 ^ (k - 1 - i) * 256 ^ (m - (k - 1 - i)) := by rw [← Nat.pow_add]; congr 1; omega
  rw [e, Nat.mod_mul_right_div_self]
  have e2 : 256 ^ (m - (k - 1 - i)) = 2 ^ 8 * 256 ^ (m - (k - 1 - i) - 1) := by
    rw [show (2 : Nat) ^ 8 = 256 ^ 1 from rfl, ← Nat.pow_add]; congr 1; omega
  rw [e2, Nat.mod_mul_right_mod]
theorem count_math (c : List UInt8) (n hi lo : Nat) (hc : c.length = 16) (hh : hi = bigN (c.take 8)) (hl : lo = bigN (c.drop 8)) (hn : n < 18446744073709551616) :
    putBig ((if (lo + n) % 18446744073709551616 < n then hi + 1 else hi) % 18446744073709551616) 8 ++ putBig ((lo + n) % 18446744073709551616) 8 = countL c n := by
  have hlo : lo < 18446744073709551616 := by rw [hl]; exact bigN_lt8 _ (by simp [hc])
  have h8 : (256 : Nat) ^ 8 = 18446744073709551616 := by decide
  have e : bigN c = hi * 18446744073709551616 + lo := by
    rw [hh, hl]
    have := bigN_append (c.take 8) (c.drop 8)
    rw [List.take_append_drop] at this
    rw [this]
    simp [hc]
  unfold countL
  rw [show (16 : Nat) = 8 + 8 from rfl, putBig_split, e, h8]
  have m1 := putBig_mod (lo + n) 8 8 (Nat.le_refl _)
  rw [h8] at m1
  have m2 : putBig ((hi * 18446744073709551616 + lo + n) % 340282366920938463463374607431768211456) 8 = putBig (lo + n) 8 := by
    rw [← putBig_mod _ 8 8 (Nat.le_refl _), ← putBig_mod (lo + n) 8 8 (Nat.le_refl _), h8]
    congr 1
    omega
  rw [m1, m2]
  congr 2
  split <;> omega

theorem count_cases (c : List UInt8) (n : Nat) (hc : c.length = 16) (hn : n < 18446744073709551616) : ∃ hi lo low : Nat, big (c.take 8) = hi ∧ big (c.drop 8) = lo ∧ hi < 18446744073709551616 ∧ low < 18446744073709551616 ∧
    IntKind.u64.wrap ((lo : Int) + (n : Int)) = (low : Int) ∧
    ∃ high : Nat, high < 18446744073709551616 ∧ putBig high 8 ++ putBig low 8 = countL c n ∧ ((low < n ∧ IntKind.u64.wrap ((hi : Int) + 1) = (high : Int)) ∨ (¬ low < n ∧ high = hi)) := by
  have e1 : big (c.take 8) = bigN (c.take 8) := by unfold big; rw [show (c.take 8).length - 8 = 0 by simp [hc]]; rfl
  have e2 : big (c.drop 8) = bigN (c.drop 8) := by unfold big; rw [show (c.drop 8).length - 8 = 0 by simp [hc]]; rfl
  have m := count_math c n _ _ hc rfl rfl hn
  have hhi : bigN (c.take 8) < 18446744073709551616 := bigN_lt8 _ (by simp [hc])
  refine ⟨bigN (c.take 8), bigN (c.drop 8), (bigN (c.drop 8) + n) % 18446744073709551616, e1, e2, hhi, Nat.mod_lt _ (by decide), by rw [IntKind.wrap_u64]; omega, ?_⟩
  by_cases h : (bigN (c.drop 8) + n) % 18446744073709551616 < n
  · refine ⟨(bigN (c.take 8) + 1) % 18446744073709551616, Nat.mod_lt _ (by decide), ?_, .inl ⟨h, by rw [IntKind.wrap_u64]; omega⟩⟩
    rw [if_pos h] at m; exact m
  · refine ⟨bigN (c.take 8), hhi, ?_, .inr ⟨h, rfl⟩⟩
    rw [if_neg h, Nat.mod_eq_of_lt hhi] at m; exact m
end Go.Proofs.Ytjlljifllnmdoaa

/- Rows of cells in memory: what a slice reads as, cuts of slices and arrays; over any program. -/
namespace Go.Proofs.Ytjlljifllnmdoaa
open Go.RowKit
set_option maxRecDepth 100000
set_option linter.unusedVariables false
set_option linter.unusedSimpArgs false

/-- where the elements from l on lie -/
def cutS (A : Option Addr) (c l : Nat) : Option Addr := if c = l then A else A.map (·.add l)
def cutA (a : Addr) (c l : Nat) : Addr := if c = l then a else a.add l

theorem sizeOf_one {P : Program} {e : TypeId} (hs : (P.info? e).map (·.size) = some 1) (W : World) : (sizeOf e).run P W = .ok 1 W := by
  cases h : P.info? e with
  | none => simp [h] at hs
  | some i => simp [h] at hs; simp [sizeOf, typeInfo, h, hs]

section
variable {P : Program} {t e : TypeId} (ht : P.underlying t = some (.slice e)) (hs : (P.info? e).map (·.size) = some 1)
include ht hs
theorem cut_from (A : Option Addr) (n c : Nat) (k : IntKind) (l : Int) (h0 : 0 ≤ l) (h1 : l ≤ n) (W : World) :
    (Instr.sliceAt t (.slice A n c) (some (.int k l)) none none).run P W = .ok (.slice (cutS A c l.toNat) (n - l.toNat) (c - l.toNat)) W := by
  have he : P.elem t = e := by simp [Program.elem, ht]
  rw [run_sliceAt_slice W t _ _ _ _ (by rw [he]; exact ht), run_slice_l W t A n c (by rw [he]; exact ht) k l h0 h1, he, sizeOf_one hs]
  simp [Result.andThen, sliced, cutS]
theorem cut_to (A : Option Addr) (n c : Nat) (k : IntKind) (h : Int) (h0 : 0 ≤ h) (h1 : h ≤ c) (W : World) :
    (Instr.sliceAt t (.slice A n c) none (some (.int k h)) none).run P W = .ok (.slice A h.toNat c) W := by
  have he : P.elem t = e := by simp [Program.elem, ht]
  rw [run_sliceAt_slice W t _ _ _ _ (by rw [he]; exact ht), run_slice_h W t A n c (by rw [he]; exact ht) k h h0 h1, he, sizeOf_one hs]
  simp [Result.andThen, sliced]
  intro _; cases A <;> simp [Addr.add]
theorem cut_mid (A : Option Addr) (n c : Nat) (k k' : IntKind) (l h : Int) (h0 : 0 ≤ l) (h1 : l ≤ h) (h2 : h ≤ c) (W : World) :
    (Instr.sliceAt t (.slice A n c) (some (.int k l)) (some (.int k' h)) none).run P W = .ok (.slice (cutS A c l.toNat) (h.toNat - l.toNat) (c - l.toNat)) W := by
  have he : P.elem t = e := by simp [Program.elem, ht]
  rw [run_sliceAt_slice W t _ _ _ _ (by rw [he]; exact ht), run_slice_lh W t A n c (by rw [he]; exact ht) k k' l h h0 h1 h2, he, sizeOf_one hs]
  simp [Result.andThen, sliced, cutS]
end

section
variable {P : Program} {t e : TypeId} {N : Nat} (ht : P.underlying t = some (.array N e)) (hs : (P.info? e).map (·.size) = some 1)
include ht hs
theorem arr_from (a : Addr) (k : IntKind) (l : Int) (h0 : 0 ≤ l) (h1 : l ≤ N) (W : World) :
    (Instr.sliceAt t (.pointer (some a)) (some (.int k l)) none none).run P W = .ok (.slice (some (cutA a N l.toNat)) (N - l.toNat) (N - l.toNat)) W := by
  have he : P.elem t = e := by simp [Program.elem, ht]
  have hl : P.arrayLen t = N := by simp [Program.arrayLen, ht]
  rw [run_sliceAt_array_l W t a (by rw [he, hl]; exact ht) k l h0 (by rw [hl]; exact h1), he, hl, sizeOf_one hs]
  simp [Result.andThen, slicedAt, cutA]
theorem arr_to (a : Addr) (k : IntKind) (h : Int) (h0 : 0 ≤ h) (h1 : h ≤ N) (W : World) :
    (Instr.sliceAt t (.pointer (some a)) none (some (.int k h)) none).run P W = .ok (.slice (some a) h.toNat N) W := by
  have he : P.elem t = e := by simp [Program.elem, ht]
  have hl : P.arrayLen t = N := by simp [Program.arrayLen, ht]
  rw [run_sliceAt_array_h W t a (by rw [he, hl]; exact ht) k h h0 (by rw [hl]; exact h1), he, hl, sizeOf_one hs]
  simp [Result.andThen, slicedAt, Addr.add]
theorem arr_all (a : Addr) (W : World) :
    (Instr.sliceAt t (.pointer (some a)) none none none).run P W = .ok (.slice (some a) N N) W := by
  have he : P.elem t = e := by simp [Program.elem, ht]
  have hl : P.arrayLen t = N := by simp [Program.arrayLen, ht]
  rw [run_sliceAt_array_all W t a (by rw [he, hl]; exact ht), he, hl, sizeOf_one hs]
  simp [Result.andThen, slicedAt, Addr.add]
theorem arr_mid (a : Addr) (k k' : IntKind) (l h : Int) (h0 : 0 ≤ l) (h1 : l ≤ h) (h2 : h ≤ N) (W : World) :
    (Instr.sliceAt t (.pointer (some a)) (some (.int k l)) (some (.int k' h)) none).run P W = .ok (.slice (some (cutA a N l.toNat)) (h.toNat - l.toNat) (N - l.toNat)) W := by
  have he : P.elem t = e := by simp [Program.elem, ht]
  have hl : P.arrayLen t = N := by simp [Program.arrayLen, ht]
  rw [run_sliceAt_array_lh W t a (by rw [he, hl]; exact ht) k k' l h h0 h1 (by rw [hl]; exact h2), he, hl, sizeOf_one hs]
  simp [Result.andThen, slicedAt, cutA]
end

/-- The cells xs lie from A on, below block B (where there are any). -/
def RowAt (w : World) (B : Nat) (A : Option Addr) (xs : List Value) : Prop :=
  xs = [] ∨ ∃ b o, A = some ⟨b, o, none⟩ ∧ b < B ∧ ∀ j u, xs[j]? = some u → w.cell? ⟨b, o + j, none⟩ = some u

theorem add_none (b o l : Nat) : (⟨b, o, none⟩ : Addr).add l = ⟨b, o + l, none⟩ := by
  unfold Addr.add; split <;> simp_all

section
variable {w w' : World} {B B' : Nat} {A : Option Addr} {xs : List Value}
theorem RowAt.nil : RowAt w B A [] := .inl rfl
theorem RowAt.at_ (h : RowAt w B A xs) (hp : 0 < xs.length) : ∃ b o, A = some ⟨b, o, none⟩ ∧ b < B ∧ ∀ j u, xs[j]? = some u → w.cell? ⟨b, o + j, none⟩ = some u := by
  rcases h with rfl | h
  · simp at hp
  · exact h
theorem RowAt.keep (h : RowAt w B A xs) (hk : ∀ p : Addr, p.block < B → w'.cell? p = w.cell? p) : RowAt w' B A xs := by
  rcases h with h | ⟨b, o, hA, hb, hc⟩
  · exact .inl h
  · exact .inr ⟨b, o, hA, hb, fun j u hu => (hk _ hb).trans (hc j u hu)⟩
theorem RowAt.more (h : RowAt w B A xs) (hB : B ≤ B') : RowAt w B' A xs := by
  rcases h with h | ⟨b, o, hA, hb, hc⟩
  · exact .inl h
  · exact .inr ⟨b, o, hA, by omega, hc⟩
theorem RowAt.below (h : RowAt w B A xs) (hb : Below B w w') : RowAt w' B A xs := h.keep fun _ hp => hb.cell hp
theorem RowAt.cut (h : RowAt w B A xs) {c l : Nat} (hl : l ≤ xs.length) (hc : xs.length ≤ c) : RowAt w B (cutS A c l) (xs.drop l) := by
  by_cases he : l = xs.length
  · exact .inl (by simp [he])
  · rcases h with rfl | ⟨b, o, rfl, hb, hcell⟩
    · simp at hl; simp [hl] at he
    · refine .inr ⟨b, o + l, ?_, hb, fun j u hu => ?_⟩
      · unfold cutS; rw [if_neg (by omega)]; simp [add_none]
      · rw [Nat.add_assoc]; exact hcell _ u (by rw [← hu, List.getElem?_drop])
theorem RowAt.take (h : RowAt w B A xs) (n : Nat) : RowAt w B A (xs.take n) := by
  rcases h with rfl | ⟨b, o, hA, hb, hcell⟩
  · exact .inl (by simp)
  · refine .inr ⟨b, o, hA, hb, fun j u hu => hcell j u ?_⟩
    rw [List.getElem?_take] at hu; split at hu
    · exact hu
    · cases hu
end

/-- bytes as cells -/
def bv (b : UInt8) : Value := .int .u8 (b.toNat : Int)
theorem bv_one (bs : List UInt8) : ∀ v ∈ bs.map bv, v.oneCell' = true := by
  intro v hv
  obtain ⟨b, _, rfl⟩ := List.mem_map.1 hv
  rfl

theorem splice_split {α : Type} (a b c cs : List α) (h : cs.length = b.length) : splice (a ++ b ++ c) a.length cs = a ++ cs ++ c := by
  unfold splice
  rw [h, List.append_assoc, List.take_left', ← List.append_assoc a b c]
  · have : (a ++ b ++ c).drop (a.length + b.length) = c := by
      rw [← List.length_append]; exact List.drop_left' rfl
    rw [this]; simp
  · rfl

/-- copy into a block that is known whole -/
theorem copy_run {P : Program} {dT sT e : TypeId} (hu : P.underlying dT = some (.slice e)) (hs : (P.info? e).map (·.size) = some 1) (ty : TypeId) (W : World) (g off : Nat) (cur : List Value) (t : TypeId)
    (hg : W.heap[g]? = some (.cells cur.toArray t (0, 0))) (dp sp : Option Addr) (dLen dCap sLen sCap : Nat) (B : Nat) (cs : List Value) (hn : cs.length = min sLen dLen)
    (hd : 0 < cs.length → dp = some ⟨g, off, none⟩) (hr : RowAt W B sp cs) (hfit : off + cs.length ≤ cur.length) (h1 : ∀ v ∈ cs, v.oneCell' = true) :
    ∃ W', (Builtin.copy_ #[dT, sT] ty #[.slice dp dLen dCap, .slice sp sLen sCap]).run P W = .ok (.int .i64 (cs.length : Int)) W' ∧
      W'.heap[g]? = some (.cells (splice cur off cs).toArray t (0, 0)) ∧ W'.heap.size = W.heap.size ∧ W.grownBy W' (some g) := by
  by_cases h0 : cs.length = 0
  · obtain rfl : cs = [] := List.eq_nil_of_length_eq_zero h0
    refine ⟨W, run_copy_none (P := P) W dT sT ty e dp sp dLen dCap sLen sCap hu hs (by simpa using hn.symm), by simpa [splice] using hg, rfl, World.grownBy.refl W _⟩
  · obtain rfl := hd (by omega)
    obtain ⟨b, o, rfl, _, hc⟩ := hr.at_ (by omega)
    have hrun := run_copy_row (P := P) W dT sT ty e g off dLen dCap ⟨b, o, none⟩ sLen sCap cur.toArray t cs hu hs hg hn (fun j v hv => by rw [add_none]; exact hc j v hv) (by simpa using hfit) h1
    refine ⟨_, hrun, ?_, by simp [World.setRow], ⟨rfl, rfl, rfl, by simp [World.setRow], fun k _ hk => setRow_other W g k _ (fun h => hk (by rw [h]))⟩⟩
    simpa [splice] using setRow_heap W g _ _ t _ hg
theorem cell_of_heap {w : World} {g : Nat} {cs : List Value} {t : TypeId} {fr : Nat × Nat} (h : w.heap[g]? = some (.cells cs.toArray t fr)) (i : Nat) : w.cell? ⟨g, i, none⟩ = cs[i]? := by
  simp [World.cell?, h]
theorem heap_alloc_new' (w : World) (o : Obj) : (w.alloc o).heap[w.heap.size]? = some o := heap_alloc_new w o
theorem grown_below {W W' : World} {g B : Nat} (h : W.grownBy W' (some g)) (hB : B ≤ g) (hs : B ≤ W.heap.size) : Below B W W' :=
  ⟨h.os, h.tape, h.output, h.size, fun k hk => h.block k (by omega) (by simp; omega)⟩

theorem madeCells_one (z : Value) (hz : z.cells = #[z]) (n : Nat) : madeCells z.cells n = (List.replicate n z).toArray := by
  unfold madeCells
  apply Array.ext
  · simp
  · intro i h1 h2
    simp [hz, Nat.mod_one]
theorem make_run {P : Program} {t e : TypeId} {z : Value} {bytes : Nat} (ht : P.underlying t = some (.slice e)) (hi : (P.info? e).map (fun i => (i.zero, i.size, i.bytes)) = some (some z, 1, bytes)) (hz : z.cells = #[z])
    (kl kc : IntKind) (n : Nat) (hb : bytes * n ≤ 281474976710656) (h63 : n ≤ 9223372036854775807) (W : World) :
    (Instr.makeSlice t (.int kl (n : Int)) (.int kc (n : Int))).run P W = .ok (.slice (some ⟨W.heap.size, 0, none⟩) n n) (W.alloc (.cells (List.replicate n z).toArray e)) := by
  obtain ⟨i, hi, h1, h2, h3⟩ := info_parts hi
  have hr := run_make (P := P) W t e i z ht hi h1 kl kc n n (by omega) (by omega) (by rw [h3, ← Int.natCast_mul]; omega) (by omega)
  rw [Int.toNat_natCast, h2, Nat.mul_one, madeCells_one z hz] at hr
  exact hr
theorem heap_set {w : World} {g : Nat} {cs : List Value} {t : TypeId} (h : w.heap[g]? = some (.cells cs.toArray t (0, 0))) (i : Nat) (u : Value) :
    (w.setCell ⟨g, i, none⟩ u).heap[g]? = some (.cells (cs.set i u).toArray t (0, 0)) := by
  simp [World.setCell, Array.getElem?_modify, h]
theorem set_mid {α : Type} (a : List α) (z : α) (m : Nat) (v : α) (i : Nat) (hi : a.length = i) : (a ++ List.replicate (m + 1) z).set i v = (a ++ [v]) ++ List.replicate m z := by
  subst hi
  rw [List.set_append_right _ _ (Nat.le_refl _)]
  simp [List.replicate_succ]
theorem frozen_of_heap {w : World} {g : Nat} {cs : List Value} {t : TypeId} (h : w.heap[g]? = some (.cells cs.toArray t (0, 0))) (i : Nat) : w.frozen? ⟨g, i, none⟩ = false := by
  simp [World.frozen?, h]
theorem lt_of_heap {w : World} {g : Nat} {o : Obj} (h : w.heap[g]? = some o) : g < w.heap.size := (Array.getElem?_eq_some_iff.1 h).1

theorem _root_.Go.RowKit.Below.step {w w1 w2 : World} (h : Below w.heap.size w w1) (k : Below w1.heap.size w1 w2) : Below w.heap.size w w2 := h.trans (k.mono h.size)

theorem zeroCells_one (z : Value) (hz : z.cells = #[z]) (n : Nat) : Builtin.zeroCells z.cells n = (List.replicate n z).toArray := by
  unfold Builtin.zeroCells
  apply Array.ext
  · simp [hz]
  · intro i h1 h2
    simp [hz, Nat.mod_one]
/-- append(s, make([]T, k)...) onto a row of one's own -/
theorem append_zeros {P : Program} (w : World) (base : Nat) {t it : TypeId} (ty : TypeId) {e : TypeId} {z : Value} {bytes : Nat} (ht : P.underlying t = some (.slice e)) (hit : P.underlying it = some (.int .i64))
    (hi : (P.info? e).map (fun i => (i.zero, i.size, i.bytes)) = some (some z, 1, bytes)) (hz : z.cells = #[z]) (h1 : z.oneCell' = true)
    (v : Value) (n : Nat) (xs : List Value) (hown : w.ownsRow base e 1 v n xs) (k : Nat) (hk : (n + k) * bytes ≤ 140737488355328) (h31 : n + k ≤ 2147483647) (hbase : base ≤ w.heap.size) :
    ∃ v' w', (Builtin.append_ #[t, it] ty #[v, .int .i64 (k : Int)]).run P w = .ok v' w' ∧ w'.ownsRow base e 1 v' (n + k) (xs ++ List.replicate k z) ∧ w.grownBy w' v.ownBlock := by
  obtain ⟨i, hi', hz0, hs, hb⟩ := info_parts hi
  subst hb
  clear hi
  have hw : IntKind.i64.wrap (k : Int) = (k : Int) := IntWalk.i64_in _ (by omega)
  have hlen : (xs ++ List.replicate k z).length = (n + k) * 1 := by rw [List.length_append, hown.1, List.length_replicate, Nat.add_mul]; omega
  have hkn : ¬ ((k : Int) < 0) := by omega
  have hkb : ¬ (281474976710656 < (k : Int) * (i.bytes : Int)) := by
    have : k * i.bytes ≤ (n + k) * i.bytes := Nat.mul_le_mul_right _ (by omega)
    rw [← Int.natCast_mul]; omega
  have h63' : ¬ (9223372036854775807 < ((n : Int) + (k : Int))) := by omega
  have hgrow : ∀ (old : Nat) (xs' : List Value), xs' = xs → old < n + k → ∀ (row : Option Nat),
      (w.drew.alloc (.cells (xs'.toArray ++ (List.replicate k z).toArray ++ Builtin.zeroCells z.cells (grownCap w (n + k) old e - (n + k))) e)).ownsRow base e 1
        (.slice (some ⟨w.heap.size, 0, none⟩) (n + k) (grownCap w (n + k) old e)) (n + k) (xs ++ List.replicate k z) ∧
      w.grownBy (w.drew.alloc (.cells (xs'.toArray ++ (List.replicate k z).toArray ++ Builtin.zeroCells z.cells (grownCap w (n + k) old e - (n + k))) e)) row := by
    rintro old _ rfl ho row
    have hge := grownCap_ge w (n + k) old e
    have hcm : grownCap w (n + k) old e ≤ maxLen := grownCap_le_maxLen w (n + k) old e (by simp [maxLen]; omega)
    refine ⟨⟨hlen, .inr ⟨w.heap.size, _, _, rfl, hbase, heap_alloc_new w.drew _, hge, hcm, ?_, ?_⟩⟩, ⟨rfl, rfl, rfl, by simp, fun k hk _ => Below.heap_alloc w.drew _ k hk⟩⟩
    · simp only [Array.size_append, List.size_toArray, size_zeroCells, hz, hown.1, List.length_replicate]
      simp; omega
    · simp only [Array.toList_append, List.append_assoc]
      rw [← List.append_assoc, ← hlen]
      exact List.take_left
  rcases hown.2 with ⟨rfl, rfl⟩ | ⟨g, cap, cur, rfl, hbg, hg, hnc, hcm, hcs, htake⟩
  · have hx : xs = [] := List.eq_nil_of_length_eq_zero (by simpa using hown.1)
    subst hx
    by_cases hk0 : k = 0
    · subst hk0
      refine ⟨.slice none 0 0, w, ?_, World.ownsRow_nil w base e 1, World.grownBy.refl w _⟩
      have hw0 : IntKind.i64.wrap 0 = 0 := IntWalk.i64_in _ (by omega)
      simp [Builtin.append_, run_underlying ht, run_underlying hit, sizeOf, typeInfo, hi', hs, asInt, asIntOf, hw0]
    · have hgr := hgrow 0 [] rfl (by omega) (Value.ownBlock (.slice none 0 0))
      refine ⟨_, _, ?_, hgr.1, hgr.2⟩
      have h48' : ¬ (281474976710656 < Builtin.nextslicecap k 0 * i.bytes) := by have := growslice_fits (bytes := i.bytes) (need := k) (old := 0) (by omega) (by simpa using hk); omega
      simp [Builtin.append_, run_underlying ht, run_underlying hit, sizeOf, typeInfo, hi', hs, asInt, asIntOf, hw, hkn, hkb, hk0, h48', Question.forced, newRow, grownCap, zeroValue, hz0, zeroCells_one z hz, Builtin.firstCells]
      intro h; omega
  · by_cases hroom : n + k ≤ cap
    · have hrun : (Builtin.append_ #[t, it] ty #[.slice (some ⟨g, 0, none⟩) n cap, .int .i64 (k : Int)]).run P w = .ok (.slice (some ⟨g, 0, none⟩) (n + k) cap) (w.setRow g (cur.toList.take n ++ List.replicate k z ++ cur.toList.drop (n + (List.replicate k z).length)).toArray) := by
        have hst := run_storeCells_at P g n e (List.replicate k z) 0 cur w hg (by simp; omega) (by intro v hv; rw [List.eq_of_mem_replicate hv]; exact h1)
        simp only [Nat.add_zero] at hst
        by_cases hk0 : k = 0
        · subst hk0
          simp only [List.replicate_zero] at hst
          simp [Builtin.append_, run_underlying ht, run_underlying hit, sizeOf, typeInfo, hi', hs, asInt, asIntOf, show IntKind.i64.wrap 0 = 0 from IntWalk.i64_in _ (by omega), hnc, Addr.add_lit, hst]
        · simp [Builtin.append_, run_underlying ht, run_underlying hit, sizeOf, typeInfo, hi', hs, asInt, asIntOf, hw, hkn, hkb, hk0, hroom, zeroValue, hz0, zeroCells_one z hz, Addr.add_lit, hst]
      refine ⟨_, _, hrun, ⟨hlen, .inr ⟨g, cap, _, rfl, hbg, setRow_heap w g cur _ e _ hg, hroom, hcm, ?_, ?_⟩⟩, ⟨rfl, rfl, rfl, by simp, fun k _ hk => setRow_other w g k _ (fun e => hk (by simp [Value.ownBlock, e]))⟩⟩
      · simp; omega
      · rw [Nat.mul_one] at htake; rw [htake, ← hlen]
        exact List.take_left
    · have hgr := hgrow cap xs rfl (by omega) (Value.ownBlock (.slice (some ⟨g, 0, none⟩) n cap))
      refine ⟨_, _, ?_, hgr.1, hgr.2⟩
      have hk0 : ¬ k = 0 := by omega
      have holds : ∀ j u, xs[j]? = some u → w.cell? ((⟨g, 0, none⟩ : Addr).add j) = some u := hown.cells (g := g) rfl
      have hfo := run_firstCells_some (P := P) w.drew i.size n ⟨g, 0, none⟩ n cap xs (by rw [hs]; exact hown.1) (by simpa using holds)
      rw [hs] at hfo
      have h48' : ¬ (281474976710656 < Builtin.nextslicecap (n + k) cap * i.bytes) := by have := growslice_fits (bytes := i.bytes) (need := n + k) (old := cap) (by omega) hk; omega
      simp [Builtin.append_, run_underlying ht, run_underlying hit, sizeOf, typeInfo, hi', hs, asInt, asIntOf, hw, hkn, hkb, hk0, hroom, h48', h63', Question.forced, newRow, grownCap, zeroValue, hz0, zeroCells_one z hz, hfo]

/-- append of what another slice holds onto a row of one's own -/
theorem append_row {P : Program} (w : World) (base : Nat) {t : TypeId} (ty : TypeId) {e : TypeId} {z : Value} {bytes : Nat} (ht : P.underlying t = some (.slice e))
    (hi : (P.info? e).map (fun i => (i.zero, i.size, i.bytes)) = some (some z, 1, bytes)) (hz : z.cells = #[z])
    (v : Value) (n : Nat) (xs : List Value) (hown : w.ownsRow base e 1 v n xs) (B : Nat) (A : Option Addr) (m c : Nat) (news : List Value) (hr : RowAt w B A news) (hm : news.length = m)
    (h1 : ∀ u ∈ news, u.oneCell' = true) (hk : (n + m) * bytes ≤ 140737488355328) (h31 : n + m ≤ maxLen) (hbase : base ≤ w.heap.size) :
    ∃ v' w', (Builtin.append_ #[t, t] ty #[v, .slice A m c]).run P w = .ok v' w' ∧ w'.ownsRow base e 1 v' (n + m) (xs ++ news) ∧ w.grownBy w' v.ownBlock := by
  obtain ⟨i, hi', hz0, hs, hb⟩ := info_parts hi
  by_cases h0 : m = 0
  · subst h0
    have hn : news = [] := List.eq_nil_of_length_eq_zero hm
    subst hn
    refine ⟨v, w, ?_, by simpa using hown, World.grownBy.refl w _⟩
    rcases hown.2 with ⟨rfl, rfl⟩ | ⟨g, cap, cur, rfl, _, _, hnc, _⟩
    · cases A <;> simp [Builtin.append_, run_underlying ht, sizeOf, typeInfo, hi', Builtin.lenOf, Builtin.firstCells, loadCells, loadCellsFrom]
    · cases A <;> simp [Builtin.append_, run_underlying ht, sizeOf, typeInfo, hi', Builtin.lenOf, Builtin.firstCells, hnc, storeCells, loadCells, loadCellsFrom]
  · obtain ⟨b, o, rfl, _, hc⟩ := hr.at_ (by omega)
    obtain ⟨v', w', hrun, h2, h3, _⟩ := run_append_own (P := P) w base t ty e i z 1 bytes ht hi' hz0 hs hb (by rw [hz]; rfl) (by omega) v n xs hown ⟨b, o, none⟩ m c news (by omega) (fun j u hu => by rw [add_none]; exact hc j u hu) h1 h31 hk hbase
    exact ⟨v', w', hrun, h2, h3⟩

theorem wpList_app {P : Program} {w : World} {ops : Array Oper} {rest : List Oper} {o : Oper} {a : Act} {Q : Exit → Act → World → Prop} (hw : Region.wanted o (yielded ops a.tmps) = true) (s x : Operand) (t xt : TypeId)
    (ho : o.op = .call { callee := .builtin .append, args := #[s, x], argTypes := #[t, xt] }) {v' : Value} {w' : World}
    (hrun : (Builtin.append_ #[t, xt] o.type #[a.eval s, a.eval x]).run P w = .ok v' w') (h : wpList P ops Q rest (a.put o.dst v') w') : wpList P ops Q (o :: rest) a w := by
  unfold wpList
  rw [if_pos hw]
  refine .inl ?_
  unfold Oper.wp execOp
  simp only [ho, resolve, invoke, builtin, Sem.run_bind, Sem.run_pure, Result.andThen_ok, List.map_toArray, List.map_cons, List.map_nil, hrun]
  exact h
theorem step_app {P : Program} {w : World} {ops : Array Oper} {o : Oper} {a : Act} {K : Act → World → Prop} {Q : Exit → Act → World → Prop} {E : Prop} (hg : o.guard = none) (s x : Operand) (t xt : TypeId)
    (ho : o.op = .call { callee := .builtin .append, args := #[s, x], argTypes := #[t, xt] }) {v' : Value} {w' : World}
    (hrun : (Builtin.append_ #[t, xt] o.type #[a.eval s, a.eval x]).run P w = .ok v' w') (h : K (a.put o.dst v') w') : if Region.wanted o (yielded ops a.tmps) = true then Oper.wp P o a w K Q else E := by
  have hw : Region.wanted o (yielded ops a.tmps) = true := by simp [Region.wanted, hg]
  rw [if_pos hw]
  unfold Oper.wp execOp
  simp only [ho, resolve, invoke, builtin, Sem.run_bind, Sem.run_pure, Result.andThen_ok, List.map_toArray, List.map_cons, List.map_nil, hrun]
  exact h

/-! ### whole arrays, out of and into a block that is known whole -/
theorem load_arr {P : Program} {ty : TypeId} {d : TypeDesc} (hu : P.underlying ty = some d) (hd : (match d with | .struct _ | .array _ _ => true | _ => false) = true) {cs : List Value} (hi : (P.info? ty).map (·.size) = some cs.length)
    {W : World} {g : Nat} {t : TypeId} {fr : Nat × Nat} (hg : W.heap[g]? = some (.cells cs.toArray t fr)) :
    (Instr.loadAt ty (.pointer (some ⟨g, 0, none⟩))).run P W = .ok (.agg cs.toArray) W := by
  simp only [Instr.loadAt, Instr.sureAddr, Sem.run_bind, Sem.run_pure, Result.andThen]
  exact run_loadVar_row (P := P) W g t ty cs.toArray fr d hg hu hd (by simpa using hi)
theorem store_arr {P : Program} {ty : TypeId} {cs : List Value} (hi : (P.info? ty).map (·.size) = some cs.length) (h1 : ∀ v ∈ cs, v.oneCell' = true)
    {W : World} {g : Nat} {t : TypeId} {old : List Value} (hg : W.heap[g]? = some (.cells old.toArray t (0, 0))) (ho : old.length = cs.length) :
    (Instr.storeAt ty (.pointer (some ⟨g, 0, none⟩)) (.agg cs.toArray)).run P W = .ok () (W.setRow g cs.toArray) := by
  simp only [Instr.storeAt, Instr.sureAddr, Sem.run_bind, Sem.run_pure, Result.andThen]
  exact run_storeVar_row (P := P) W g t ty old.toArray cs.toArray hg (by simpa using hi) (by simpa using ho) (by simpa using h1)
theorem wpList_ld {P : Program} {w : World} {ops : Array Oper} {rest : List Oper} {o : Oper} {a : Act} {Q : Exit → Act → World → Prop} (hw : Region.wanted o (yielded ops a.tmps) = true) (ty : TypeId) (x : Operand)
    (ho : o.op = .load ty x) {v : Value} (hrun : (Instr.loadAt ty (a.eval x)).run P w = .ok v w) (h : wpList P ops Q rest (a.put o.dst v) w) : wpList P ops Q (o :: rest) a w := by
  unfold wpList
  rw [if_pos hw]
  refine .inl ?_
  unfold Oper.wp execOp
  simp only [ho, Sem.run_bind, hrun, Result.andThen_ok]
  exact h
theorem wpList_st {P : Program} {w w' : World} {ops : Array Oper} {rest : List Oper} {o : Oper} {a : Act} {Q : Exit → Act → World → Prop} (hw : Region.wanted o (yielded ops a.tmps) = true) (ty : TypeId) (x y : Operand)
    (ho : o.op = .store ty x y) (hrun : (Instr.storeAt ty (a.eval x) (a.eval y)).run P w = .ok () w') (h : wpList P ops Q rest (a.put o.dst undef) w') : wpList P ops Q (o :: rest) a w := by
  unfold wpList
  rw [if_pos hw]
  refine .inl ?_
  unfold Oper.wp execOp
  simp only [ho, Sem.run_bind, hrun, Result.andThen_ok]
  exact h
theorem step_cpy {P : Program} {w : World} {ops : Array Oper} {o : Oper} {a : Act} {K : Act → World → Prop} {Q : Exit → Act → World → Prop} {E : Prop} (hg : o.guard = none) (s x : Operand) (t xt : TypeId)
    (ho : o.op = .call { callee := .builtin .copy, args := #[s, x], argTypes := #[t, xt] }) {v' : Value} {w' : World}
    (hrun : (Builtin.copy_ #[t, xt] o.type #[a.eval s, a.eval x]).run P w = .ok v' w') (h : K (a.put o.dst v') w') : if Region.wanted o (yielded ops a.tmps) = true then Oper.wp P o a w K Q else E := by
  have hw : Region.wanted o (yielded ops a.tmps) = true := by simp [Region.wanted, hg]
  rw [if_pos hw]
  unfold Oper.wp execOp
  simp only [ho, resolve, invoke, builtin, Sem.run_bind, Sem.run_pure, Result.andThen_ok, List.map_toArray, List.map_cons, List.map_nil, hrun]
  exact h
theorem grown_setRow (W : World) (g : Nat) (cs : Array Value) : W.grownBy (W.setRow g cs) (some g) :=
  ⟨rfl, rfl, rfl, by simp, fun k _ hk => setRow_other W g k _ (fun h => hk (by rw [h]))⟩

theorem row_sub {w : World} {g : Nat} {bs : List UInt8} {t : TypeId} {fr : Nat × Nat} (h : w.heap[g]? = some (.cells (bs.map bv).toArray t fr)) (o k : Nat) {B : Nat} (hB : g < B) : RowAt w B (some ⟨g, o, none⟩) (((bs.drop o).take k).map bv) :=
  .inr ⟨g, o, rfl, hB, fun j u hu => by
    rw [cell_of_heap h]
    rw [List.getElem?_map, List.getElem?_take] at hu
    rw [List.getElem?_map]
    split at hu
    · rwa [List.getElem?_drop] at hu
    · cases hu⟩

theorem splice_first {α : Type} (z : α) (k m : Nat) (X : List α) (hX : X.length = k) : splice (List.replicate (k + m) z) 0 X = X ++ List.replicate m z := by
  have := splice_split [] (List.replicate k z) (List.replicate m z) X (by simpa using hX)
  simpa [List.replicate_append_replicate] using this
theorem splice_last {α : Type} (z : α) (k m : Nat) (X Y : List α) (hX : X.length = k) (hY : Y.length = m) : splice (X ++ List.replicate m z) k Y = X ++ Y := by
  have := splice_split X (List.replicate m z) [] Y (by simpa using hY)
  simpa [hX] using this

/-! ### arrays of integers, held against each other -/
theorem part_int {P : Program} {e : TypeId} {k : IntKind} (he : P.underlying e = some (.int k)) (cs : Array Value) (i : Nat) (v : Value) (h : cs[i]? = some v) (W : World) : (part e cs i).run P W = .ok v W := by
  simp [part, isAgg, run_underlying he, h]
theorem equalIn_arr {P : Program} {t e : TypeId} {n : Nat} {k : IntKind} (ht : P.underlying t = some (.array n e)) (he : P.underlying e = some (.int k)) (hs : (P.info? e).map (·.size) = some 1)
    (d : Nat) (xs ys : List Int) (hx : xs.length = n) (hy : ys.length = n) (W : World) :
    (Op.equalIn (d + 2) t (.agg (xs.map (Value.int k)).toArray) (.agg (ys.map (Value.int k)).toArray)).run P W = .ok (decide (xs = ys)) W := by
  unfold Op.equalIn
  simp only [Sem.run_bind, run_underlying ht, Result.andThen_ok, sizeOf_one hs, Nat.mul_one]
  rw [Std.Legacy.Range.forIn_eq_forIn_range']
  simp only [Std.Legacy.Range.size, Nat.sub_zero, Nat.add_sub_cancel, Nat.div_one]
  have key : ∀ m s, s + m = n → (Sem.run P
          (forIn (List.range' s m) ((none, ()) : Option Bool × Unit) fun i _ => do
            let a ← part e (List.map (Value.int k) xs).toArray i
            let b ← part e (List.map (Value.int k) ys).toArray i
            let r ← Op.equalIn (d + 1) e a b
            if (!r) = true then pure (ForInStep.done (some false, ())) else pure (ForInStep.yield (none, ()))) W) =
      .ok (if xs.drop s = ys.drop s then (none, ()) else (some false, ())) W := by
    intro m
    induction m with
    | zero =>
      intro s hs
      rw [List.drop_eq_nil_of_le (by omega), List.drop_eq_nil_of_le (by omega)]
      simp
    | succ m ih =>
      intro s hs
      have h1 : s < xs.length := by omega
      have h2 : s < ys.length := by omega
      rw [List.range'_succ, List.forIn_cons]
      simp only [Sem.run_bind]
      rw [part_int he _ s (.int k xs[s]) (by simp [h1]), Result.andThen_ok, part_int he _ s (.int k ys[s]) (by simp [h2]), Result.andThen_ok, run_equalIn_int W d e k k _ _ he, Result.andThen_ok]
      rw [List.drop_eq_getElem_cons h1, List.drop_eq_getElem_cons h2]
      by_cases hq : xs[s] = ys[s]
      · simp only [hq, beq_self_eq_true, Bool.not_true, Bool.false_eq_true, if_false, Sem.run_pure, Result.andThen_ok, List.cons.injEq, true_and]
        exact ih (s + 1) (by omega)
      · have hb : (xs[s] == ys[s]) = false := by simpa using hq
        have hne : ¬ (xs[s] :: xs.drop (s + 1) = ys[s] :: ys.drop (s + 1)) := by
          intro h; injection h with h _; exact hq h
        rw [if_neg hne]
        simp only [hb, Bool.not_false, if_true, Sem.run_pure, Result.andThen_ok]
  have := key n 0 (by omega)
  simp only [List.drop_zero] at this
  rw [this]
  by_cases hq : xs = ys <;> simp [hq]
theorem eql_arr {P : Program} {t e : TypeId} {n : Nat} {k : IntKind} (ht : P.underlying t = some (.array n e)) (he : P.underlying e = some (.int k)) (hs : (P.info? e).map (·.size) = some 1)
    (xs ys : List Int) (hx : xs.length = n) (hy : ys.length = n) (W : World) :
    (binOp .eql t (.agg (xs.map (Value.int k)).toArray) (.agg (ys.map (Value.int k)).toArray)).run P W = .ok (.bool (decide (xs = ys))) W := by
  rw [run_eql_struct, equalIn_arr ht he hs 9998 xs ys hx hy]; rfl
theorem neq_arr {P : Program} {t e : TypeId} {n : Nat} {k : IntKind} (ht : P.underlying t = some (.array n e)) (he : P.underlying e = some (.int k)) (hs : (P.info? e).map (·.size) = some 1)
    (xs ys : List Int) (hx : xs.length = n) (hy : ys.length = n) (W : World) :
    (binOp .neq t (.agg (xs.map (Value.int k)).toArray) (.agg (ys.map (Value.int k)).toArray)).run P W = .ok (.bool (!decide (xs = ys))) W := by
  rw [run_neq_struct, equalIn_arr ht he hs 9998 xs ys hx hy]; rfl
theorem eql_bytes {P : Program} {t e : TypeId} {n : Nat} (ht : P.underlying t = some (.array n e)) (he : P.underlying e = some (.int .u8)) (hs : (P.info? e).map (·.size) = some 1)
    (xs ys : List UInt8) (hx : xs.length = n) (hy : ys.length = n) (W : World) :
    (binOp .eql t (.agg (xs.map bv).toArray) (.agg (ys.map bv).toArray)).run P W = .ok (.bool (decide (xs = ys))) W := by
  have h := eql_arr ht he hs (xs.map fun b => (b.toNat : Int)) (ys.map fun b => (b.toNat : Int)) (by simpa using hx) (by simpa using hy) W
  have e : ∀ l : List UInt8, (l.map fun b => (b.toNat : Int)).map (Value.int .u8) = l.map bv := fun l => by simp [Function.comp_def, bv]
  rw [e, e] at h
  rw [h]
  congr 3
  apply propext
  constructor
  · intro h
    have := List.map_inj_right (l := xs) (l' := ys) (f := fun b : UInt8 => (b.toNat : Int)) (fun a b hab => UInt8.toNat_inj.1 (by have h0 : (a.toNat : Int) = (b.toNat : Int) := hab; omega))
    exact this.1 h
  · rintro rfl; rfl
theorem neq_bytes {P : Program} {t e : TypeId} {n : Nat} (ht : P.underlying t = some (.array n e)) (he : P.underlying e = some (.int .u8)) (hs : (P.info? e).map (·.size) = some 1)
    (xs ys : List UInt8) (hx : xs.length = n) (hy : ys.length = n) (W : World) :
    (binOp .neq t (.agg (xs.map bv).toArray) (.agg (ys.map bv).toArray)).run P W = .ok (.bool (!decide (xs = ys))) W := by
  have h := eql_bytes ht he hs xs ys hx hy W
  rw [run_eql_struct] at h
  rw [run_neq_struct]
  cases hq : (Op.equalIn 10000 t (.agg (xs.map bv).toArray) (.agg (ys.map bv).toArray)).run P W with
  | ok b w' =>
    rw [hq] at h
    simp only [Result.andThen] at h ⊢
    injection h with h1 h2
    injection h1 with h1
    rw [h1, h2]
  | halt x w' => rw [hq] at h; simp [Result.andThen] at h

theorem load_cell {P : Program} {ty : TypeId} {k : IntKind} (hu : P.underlying ty = some (.int k)) {W : World} {a : Addr} {v : Value} (h : W.cell? a = some v) :
    (Instr.loadAt ty (.pointer (some a))).run P W = .ok v W := by
  simp [Instr.loadAt, Instr.sureAddr, loadVar, isAgg, run_underlying hu, h]
end Go.Proofs.Ytjlljifllnmdoaa

/- Contracts of the functions of package bits, the smallest ones. -/
namespace Go.Proofs.Ytjlljifllnmdoaa
open Go.RowKit
set_option linter.unusedVariables false
set_option maxRecDepth 100000
theorem left_any (x : BitVec 32) (n : Int) (w : World) :
    Calls Try.prog 69 #[.int .u32 (x.toNat : Int), .int .i64 n] w fun e w' => e = .returned (.int .u32 ((rotl x n).toNat : Int)) ∧ w = w' := by
  have hk : (n % 32).toNat < 32 := by omega
  have ha := and31 n
  unfold rotl
  generalize (n % 32).toNat = k at hk ha
  have hs : (IntKind.u64.wrap (32 - (k : Int))).toNat = 32 - k := by rw [IntKind.wrap_u64]; omega
  have hm := Lib.hid (left_math x k hk)
  go_enter Try.func69, Try.ntmps69
  go_wp2
  go_ret
  exact ⟨ret_int hm.out, rfl⟩

theorem uT : Try.prog.underlying 26 = some (.slice 5) := Try.underlying26
theorem s8 : (Try.prog.info? 5).map (·.size) = some 1 := by kernel_rfl

theorem big_any (A : Option Addr) (c : Nat) (bs : List UInt8) (B : Nat) (w : World) (h1 : bs.length ≤ c) (h2 : c ≤ maxLen) (hB : B ≤ w.heap.size) (hr : RowAt w B A (bs.map bv)) :
    Calls Try.prog 34 #[.slice A bs.length c] w fun e w' => e = .returned (.int .u64 (big bs : Int)) ∧ Below w.heap.size w w' := by
  unfold maxLen at h2
  have hr' := hr.cut (c := c) (l := bs.length - 8) (by simp) (by simpa using h1)
  obtain ⟨L, hL⟩ : ∃ L, L = bs.drop (bs.length - 8) := ⟨_, rfl⟩
  have hbig : big bs = bigN L := by rw [big, hL]
  have hcut0 := cut_from uT s8 A bs.length c .i64 ((bs.length - 8 : Nat) : Int) (by omega) (by omega)
  have hm : bs.length - (bs.length - 8) = L.length := by rw [hL, List.length_drop]
  rw [Int.toNat_natCast, hm] at hcut0
  rw [← List.map_drop, ← hL] at hr'
  have hL8 : L.length ≤ 8 := by omega
  have hmx : (if (bs.length : Int) - 8 < 0 then (0 : Int) else bs.length - 8) = ((bs.length - 8 : Nat) : Int) := by split <;> omega
  have hbl : (bs.length : Int) ≤ 9223372036854775807 := by omega
  rw [hbig]
  clear hbig hm hL hr h1 h2
  generalize cutS A c (bs.length - 8) = A' at hcut0 hr'
  generalize c - (bs.length - 8) = c' at hcut0
  generalize bs.length = n at hcut0 hmx hbl
  have harr := arr_from (P := Try.prog) (t := 112) Try.underlying112 s8 ⟨w.heap.size, 0, none⟩ .i64 (8 - (L.length : Int)) (by omega) (by omega)
  have e1 : (8 - (L.length : Int)).toNat = 8 - L.length := by omega
  have e2 : 8 - (8 - L.length) = L.length := by omega
  rw [e1, e2] at harr
  clear e1 e2
  have hwb : Below w.heap.size w (w.alloc (.cells (List.replicate 8 (.int .u8 0)).toArray 112)) := (Below.refl _ _).alloc (Nat.le_refl _) _
  obtain ⟨W2, hcopy, hblk, _, hgr⟩ := copy_run uT s8 (sT := 26) 3 _ w.heap.size (8 - L.length) (List.replicate 8 (.int .u8 0)) 112 (heap_alloc_new' w _)
    (some (cutA ⟨w.heap.size, 0, none⟩ 8 (8 - L.length))) A' L.length L.length L.length c' B (L.map bv) (by simp) (fun hp => by
      simp only [List.length_map] at hp; unfold cutA; rw [if_neg (by omega), add_none]; simp) (hr'.below (hwb.mono hB)) (by simp; omega) (bv_one L)
  have hbel : Below w.heap.size w W2 := hwb.trans (grown_below hgr (Nat.le_refl _) (by simp))
  obtain ⟨L8, hL8'⟩ : ∃ L8, L8 = List.replicate (8 - L.length) 0 ++ L := ⟨_, rfl⟩
  have hsp : splice (List.replicate 8 (.int .u8 0)) (8 - L.length) (L.map bv) = L8.map bv := by
    have := splice_split (List.replicate (8 - L.length) (Value.int .u8 0)) (List.replicate L.length (Value.int .u8 0)) [] (L.map bv) (by simp)
    rw [hL8', List.map_append, List.map_replicate]
    simp only [List.length_replicate, List.append_nil, List.replicate_append_replicate, show 8 - L.length + L.length = 8 by omega] at this
    exact this
  rw [hsp] at hblk
  have hlen : L8.length = 8 := by rw [hL8']; simp; omega
  have hN : bigN L8 = bigN L := by rw [hL8', bigN_zeros]
  have hcell : ∀ k, k < 8 → W2.cell? ⟨w.heap.size, k, none⟩ = some (.int .u8 ((L8.getD k 0).toNat : Int)) := by
    intro k hk
    rw [cell_of_heap hblk, List.getElem?_map]
    simp [List.getD, hlen, hk, bv]
  rw [← hN]
  simp only [List.length_map, List.reduceReplicate] at hcopy
  clear hsp hL8' hN hblk hgr hwb
  have HB := Lib.hid hbel
  have HL := Lib.hid hlen
  clear hbel hlen
  go_enter Try.func34, Try.ntmps34
  go_wp2_with fail
  go_loop [4, 18] (fun nv iv => ∃ k : Nat, k ≤ 8 ∧ iv = .int .i64 k ∧ nv = .int .u64 (bigN (L8.take k))) (fun _ i => 8 - (intOf i).toNat)
  case atStart => exact ⟨0, by omega, rfl, rfl⟩
  case round =>
    obtain ⟨k, hk, rfl, rfl⟩ := hrel
    by_cases hlt : k < 8
    · have hck := hcell k hlt
      have hs := Lib.hid (take_snoc8 L8 k (by rw [HL.out]; exact hlt))
      have hN7 := bigN_lt7 (L8.take k) (by rw [List.length_take]; omega)
      clear hcell
      generalize L8.getD k 0 = x at hck hs
      have hb : x.toNat < 256 := x.toNat_lt
      have hj := Lib.hid (shl8_or (bigN (L8.take k)) x.toNat hN7 hb)
      go_wp2
      go_round
      case rel => exact ⟨k + 1, by omega, by go_num, by rw [hs.out, bigN_snoc]; exact congrArg _ hj.out⟩
      case measure => simp [intOf]; omega
    · go_wp2
      go_ret
      have : k = 8 := by omega
      exact ⟨ret_int (by rw [List.take_of_length_le (by rw [HL.out]; omega)]), HB.out⟩
end Go.Proofs.Ytjlljifllnmdoaa
/- Contracts of bits.Little, at, put. -/
namespace Go.Proofs.Ytjlljifllnmdoaa
open Go.RowKit
set_option linter.unusedVariables false
set_option maxRecDepth 100000

theorem little_any (A : Option Addr) (c : Nat) (bs : List UInt8) (B : Nat) (w : World) (h1 : bs.length ≤ c) (h2 : c ≤ maxLen) (hB : B ≤ w.heap.size) (hr : RowAt w B A (bs.map bv)) :
    Calls Try.prog 76 #[.slice A bs.length c] w fun e w' => e = .returned (.int .u64 (littleN (bs.take 8) : Int)) ∧ Below w.heap.size w w' := by
  unfold maxLen at h2
  have hr' := hr.take 8
  rw [← List.map_take] at hr'
  obtain ⟨L, hL⟩ : ∃ L, L = bs.take 8 := ⟨_, rfl⟩
  have hm : L.length = min bs.length 8 := by rw [hL, List.length_take]; omega
  rw [← hL] at hr' ⊢
  have hL8 : L.length ≤ 8 := by omega
  clear hL hr h1 h2
  have harr := arr_all (P := Try.prog) (t := 112) Try.underlying112 s8 ⟨w.heap.size, 0, none⟩
  have hwb : Below w.heap.size w (w.alloc (.cells (List.replicate 8 (.int .u8 0)).toArray 112)) := (Below.refl _ _).alloc (Nat.le_refl _) _
  obtain ⟨W2, hcopy, hblk, _, hgr⟩ := copy_run uT s8 (sT := 26) 3 _ w.heap.size 0 (List.replicate 8 (.int .u8 0)) 112 (heap_alloc_new' w _)
    (some ⟨w.heap.size, 0, none⟩) A 8 8 bs.length c B (L.map bv) (by simpa using hm) (fun _ => rfl) (hr'.below (hwb.mono hB)) (by simp; omega) (bv_one L)
  have hbel : Below w.heap.size w W2 := hwb.trans (grown_below hgr (Nat.le_refl _) (by simp))
  obtain ⟨L8, hL8'⟩ : ∃ L8, L8 = L ++ List.replicate (8 - L.length) 0 := ⟨_, rfl⟩
  have hsp : splice (List.replicate 8 (.int .u8 0)) 0 (L.map bv) = L8.map bv := by
    have := splice_split [] (List.replicate L.length (Value.int .u8 0)) (List.replicate (8 - L.length) (Value.int .u8 0)) (L.map bv) (by simp)
    rw [hL8', List.map_append, List.map_replicate]
    simp only [List.length_nil, List.nil_append, List.replicate_append_replicate, show L.length + (8 - L.length) = 8 by omega] at this
    exact this
  rw [hsp] at hblk
  have hlen : L8.length = 8 := by rw [hL8']; simp; omega
  have hN : littleN L8 = littleN L := by rw [hL8', littleN_zeros]
  have hcell : ∀ k, k < 8 → W2.cell? ⟨w.heap.size, k, none⟩ = some (.int .u8 ((L8.getD k 0).toNat : Int)) := by
    intro k hk
    rw [cell_of_heap hblk, List.getElem?_map]
    simp [List.getD, hlen, hk, bv]
  rw [← hN]
  simp only [List.length_map, List.reduceReplicate] at hcopy
  clear hsp hL8' hN hblk hgr hwb hm
  have HB := Lib.hid hbel
  have HL := Lib.hid hlen
  clear hbel hlen
  go_enter Try.func76, Try.ntmps76
  go_wp2_with fail
  go_loop [4, 9] (fun nv iv => ∃ k : Nat, k ≤ 8 ∧ iv = .int .i64 k ∧ nv = .int .u64 (littleN (L8.take k))) (fun _ i => 8 - (intOf i).toNat)
  case atStart => exact ⟨0, by omega, rfl, rfl⟩
  case round =>
    obtain ⟨k, hk, rfl, rfl⟩ := hrel
    by_cases hlt : k < 8
    · have hck := hcell k hlt
      have hs := Lib.hid (take_snoc8 L8 k (by rw [HL.out]; exact hlt))
      have hl : (L8.take k).length = k := by rw [List.length_take, HL.out]; omega
      have hN7 := Lib.hid (littleN_lt (L8.take k))
      have hl2 := Lib.hid hl
      clear hcell hl
      generalize L8.getD k 0 = x at hck hs
      have hb : x.toNat < 256 := x.toNat_lt
      go_wp2
      go_round
      case rel => exact ⟨k + 1, by omega, by go_num, by
        rw [hs.out, littleN_snoc, hl2.out]
        exact congrArg _ (or_shl _ _ _ (by have := hN7.out; rwa [hl2.out] at this) hb hlt)⟩
      case measure => simp [intOf]; omega
    · go_wp2
      go_ret
      have : k = 8 := by omega
      exact ⟨ret_int (by rw [List.take_of_length_le (by rw [HL.out]; omega)]), HB.out⟩

theorem at_any (x i : Nat) (w : World) (hx : x < 18446744073709551616) (hi : i ≤ 2147483647) :
    Calls Try.prog 60 #[.int .u64 (x : Int), .int .i64 (i : Int)] w fun e w' => e = .returned (.int .u8 ((byteAt x i).toNat : Int)) ∧ w = w' := by
  have hm := Lib.hid (at_math x i hx)
  clear hx
  have h0 : (0 : Int) ≤ 8 * (i : Int) := by omega
  have h1 : (8 * (i : Int)).toNat = 8 * i := by omega
  go_enter Try.func60, Try.ntmps60
  go_wp2
  go_ret
  exact ⟨ret_int hm.out, rfl⟩

/-- A row of bytes of the call's own, from block 'base' on. -/
def OwnB (w : World) (base : Nat) (v : Value) (bs : List UInt8) : Prop := w.ownsRow base 5 1 v bs.length (bs.map bv)

theorem made8 : (Try.prog.info? 5).map (fun i => (i.zero, i.size, i.bytes)) = some (some (.int .u8 0), 1, 1) := by kernel_rfl

theorem put_any (F : FuncId) (cap : Array Value) (f : Nat → UInt8) (many : Nat) (w : World) (hm : many ≤ 2147483647) (hcall : ∀ args W, (callFunc F args).run Try.prog W = .ok (.enter F args) W)
    (hF : ∀ i W, i < many → Below w.heap.size w W → Calls Try.prog F (#[.int .i64 (i : Int)] ++ cap) W fun e W' => e = .returned (.int .u8 ((f i).toNat : Int)) ∧ Below W.heap.size W W') :
    Calls Try.prog 47 #[.int .i64 (many : Int), .func (.func F) #[] cap] w fun e w' => e = .returned (.slice (some ⟨w.heap.size, 0, none⟩) many many) ∧
      w'.heap[w.heap.size]? = some (.cells (((List.range many).map f).map bv).toArray 5 (0, 0)) ∧ Below w.heap.size w w' := by
  have hmk := make_run (P := Try.prog) uT made8 rfl .i64 .i64 many (by omega) (by omega) w
  obtain ⟨W1, hW1⟩ : ∃ W1, W1 = w.alloc (.cells (List.replicate many (Value.int .u8 0)).toArray 5) := ⟨_, rfl⟩
  rw [← hW1] at hmk
  have hb1 : Below w.heap.size w W1 := by rw [hW1]; exact (Below.refl _ _).alloc (Nat.le_refl _) _
  have hk1 : W1.heap[w.heap.size]? = some (.cells (List.replicate many (Value.int .u8 0)).toArray 5 (0, 0)) := by rw [hW1]; exact heap_alloc_new' w _
  have HB1 := Lib.hid hb1
  have HK1 := Lib.hid hk1
  have HF := Lib.hid hF
  clear hb1 hk1 hF hW1
  go_enter Try.func47, Try.ntmps47
  go_wp2_with fail
  go_loopw [11] (fun iv wr => ∃ k : Nat, k ≤ many ∧ iv = .int .i64 k ∧ Hid (Below w.heap.size w wr) ∧
      Hid (wr.heap[w.heap.size]? = some (.cells (((List.range k).map f).map bv ++ List.replicate (many - k) (Value.int .u8 0)).toArray 5 (0, 0)))) (fun i _ => many - (intOf i).toNat)
  case atStart => exact ⟨0, by omega, rfl, HB1, by simpa using HK1⟩
  case round =>
    obtain ⟨k, hk, rfl, HB, HK⟩ := hrel
    by_cases hlt : k < many
    · go_wp2_with fail
      refine (HF.out k wr hlt HB.out).mono ?_
      rintro e W' ⟨rfl, hb'⟩
      have hg : w.heap.size < wr.heap.size := lt_of_heap HK.out
      have hK' := (hb'.block _ hg).trans HK.out
      have hc := cell_of_heap hK' k
      rw [List.getElem?_append_right (by simp)] at hc
      simp only [List.length_map, List.length_range, Nat.sub_self] at hc
      rw [List.getElem?_replicate, if_pos (by omega)] at hc
      have hfz := frozen_of_heap hK' k
      have HK' := Lib.hid hK'
      have HB' := Lib.hid (HB.out.trans (hb'.mono (Nat.le_of_lt hg)))
      clear hK' hb' hg
      go_wp2
      go_roundw
      case rel =>
        refine ⟨k + 1, by omega, by go_num, ?_, ?_⟩
        · exact HB'.out.setCell (Nat.le_refl _) _
        · have := heap_set HK'.out k (.int .u8 ((f k).toNat : Int))
          have e1 : many - k = (many - (k + 1)) + 1 := by omega
          rw [e1, set_mid _ _ _ _ k (by simp)] at this
          rw [List.range_succ, List.map_append, List.map_append]
          exact this
      case measure => simp [intOf]; omega
    · go_wp2
      go_ret
      have : k = many := by omega
      subst this
      exact ⟨rfl, by simpa using HK.out, HB.out⟩

/-- a row just made, as a row of one's own -/
theorem own_made {w w' : World} {g : Nat} {bs : List UInt8} (hg : w.heap.size ≤ g) (hl : bs.length ≤ maxLen) (h : w'.heap[g]? = some (.cells (bs.map bv).toArray 5 (0, 0))) :
    OwnB w' w.heap.size (.slice (some ⟨g, 0, none⟩) bs.length bs.length) bs :=
  ⟨by simp, .inr ⟨g, bs.length, _, rfl, hg, h, Nat.le_refl _, hl, by simp, by simp [List.take_of_length_le]⟩⟩
theorem OwnB.read {w : World} {base : Nat} {v : Value} {bs : List UInt8} (h : OwnB w base v bs) :
    ∃ A c, v = .slice A bs.length c ∧ bs.length ≤ c ∧ c ≤ maxLen ∧ RowAt w w.heap.size A (bs.map bv) := by
  obtain ⟨_, h | ⟨g, cap, cur, rfl, hg, hh, hn, hm, hs, ht⟩⟩ := h
  · obtain ⟨rfl, h0⟩ := h
    exact ⟨none, 0, by rw [h0], by omega, by simp [maxLen], .inl (by simpa using h0)⟩
  · refine ⟨_, cap, rfl, hn, hm, .inr ⟨g, 0, rfl, lt_of_heap hh, fun j u hu => ?_⟩⟩
    rw [← ht, List.getElem?_take] at hu
    split at hu
    · simpa [World.cell?, hh] using hu
    · cases hu


theorem callPutBig : ∀ args W, (callFunc 73 args).run Try.prog W = .ok (.enter 73 args) W := fun _ _ => by kernel_rfl
theorem callPutLittle : ∀ args W, (callFunc 59 args).run Try.prog W = .ok (.enter 59 args) W := fun _ _ => by kernel_rfl

theorem putBig1_any (x many i : Nat) (b1 b2 : Nat) (w : World) (hx : x < 18446744073709551616) (hm : many ≤ 2147483647) (hi : i < many)
    (h1 : w.cell? ⟨b1, 0, none⟩ = some (.int .u64 (x : Int))) (h2 : w.cell? ⟨b2, 0, none⟩ = some (.int .i64 (many : Int))) :
    Calls Try.prog 73 #[.int .i64 (i : Int), .pointer (some ⟨b1, 0, none⟩), .pointer (some ⟨b2, 0, none⟩)] w fun e w' => e = .returned (.int .u8 ((byteAt x (many - 1 - i)).toNat : Int)) ∧ w = w' := by
  have hk : (many : Int) - 1 - (i : Int) = ((many - 1 - i : Nat) : Int) := by omega
  have HX := Lib.hid hx
  clear hx
  go_enter Try.func73, Try.ntmps73
  go_wp2_with (go_at_call 60; refine (at_any x (many - 1 - i) _ HX.out (by omega)).mono ?_; rintro e w' ⟨rfl, rfl⟩)
  go_ret
  exact ⟨rfl, rfl⟩

theorem putLittle1_any (x i : Nat) (b1 : Nat) (w : World) (hx : x < 18446744073709551616) (hi : i ≤ 2147483647) (h1 : w.cell? ⟨b1, 0, none⟩ = some (.int .u64 (x : Int))) :
    Calls Try.prog 59 #[.int .i64 (i : Int), .pointer (some ⟨b1, 0, none⟩)] w fun e w' => e = .returned (.int .u8 ((byteAt x i).toNat : Int)) ∧ w = w' := by
  have HX := Lib.hid hx
  clear hx
  go_enter Try.func59, Try.ntmps59
  go_wp2_with (go_at_call 60; refine (at_any x i _ HX.out (by omega)).mono ?_; rintro e w' ⟨rfl, rfl⟩)
  go_ret
  exact ⟨rfl, rfl⟩

theorem put_neg (F : FuncId) (cap : Array Value) (many : Int) (w : World) (hm : many < 0) :
    Calls Try.prog 47 #[.int .i64 many, .func (.func F) #[] cap] w fun e w' => e = .returned (.slice (some ⟨w.heap.size, 0, none⟩) 0 0) ∧
      w'.heap[w.heap.size]? = some (.cells (([] : List UInt8).map bv).toArray 5 (0, 0)) ∧ Below w.heap.size w w' := by
  have hmk := make_run (P := Try.prog) uT made8 rfl .i64 .i64 0 (by omega) (by omega) w
  have hl : ¬ (0 < many) := by omega
  simp only [Int.natCast_zero, List.replicate_zero] at hmk
  go_enter Try.func47, Try.ntmps47
  go_wp2_with fail
  refine wp_loop_once ?_
  go_wp2
  go_ret
  exact ⟨rfl, heap_alloc_new' w _, (Below.refl _ _).alloc (Nat.le_refl _) _⟩

theorem two_below (w : World) (o1 o2 : Obj) : Below w.heap.size w ((w.alloc o1).alloc o2) := ((Below.refl _ _).alloc (Nat.le_refl _) _).alloc (by simp) _

theorem OwnB.mono {w : World} {b b' : Nat} {v : Value} {bs : List UInt8} (h : OwnB w b v bs) (hb : b' ≤ b) : OwnB w b' v bs := by
  obtain ⟨h0, h | ⟨g, cap, cur, rfl, hg, r⟩⟩ := h
  · exact ⟨h0, .inl h⟩
  · exact ⟨h0, .inr ⟨g, cap, cur, rfl, Nat.le_trans hb hg, r⟩⟩
theorem row_of_heap {w : World} {g : Nat} {bs : List UInt8} {t : TypeId} {fr : Nat × Nat} (h : w.heap[g]? = some (.cells (bs.map bv).toArray t fr)) {B : Nat} (hB : g < B) : RowAt w B (some ⟨g, 0, none⟩) (bs.map bv) :=
  .inr ⟨g, 0, rfl, hB, fun j u hu => by rw [cell_of_heap h]; simpa using hu⟩
/-- the call's result is a new row of n bytes, bs; all that was there is as it was -/
def NewRow (w : World) (n : Nat) (bs : List UInt8) (e : Ending) (w' : World) : Prop :=
  ∃ g, w.heap.size ≤ g ∧ e = .returned (.slice (some ⟨g, 0, none⟩) n n) ∧ w'.heap[g]? = some (.cells (bs.map bv).toArray 5 (0, 0)) ∧ Below w.heap.size w w'
theorem putBig_len (x n : Nat) : (putBig x n).length = n := by simp [putBig]
theorem putLittle_len (x n : Nat) : (putLittle x n).length = n := by simp [putLittle]

theorem putBig_any (x many : Nat) (w : World) (hx : x < 18446744073709551616) (hm : many ≤ 2147483647) :
    Calls Try.prog 35 #[.int .u64 (x : Int), .int .i64 (many : Int)] w (NewRow w many (putBig x many)) := by
  have hput := put_any 73 #[.pointer (some ⟨w.heap.size, 0, none⟩), .pointer (some ⟨w.heap.size + 1, 0, none⟩)] (fun i => byteAt x (many - 1 - i)) many
    ((w.alloc (.cells #[.int .u64 (x : Int)] 37)).alloc (.cells #[.int .i64 (many : Int)] 3)) hm callPutBig (fun i W hi hb => by
      refine (putBig1_any x many i w.heap.size (w.heap.size + 1) W hx hm hi ?_ ?_).mono fun e w' h => ⟨h.1, by rw [← h.2]; exact Below.refl _ _⟩
      · rw [hb.cell (by simp; omega)]; simp
      · rw [hb.cell (by simp)]; simp)
  have HP := Lib.hid hput
  clear hput hx
  go_enter Try.func35, Try.ntmps35
  go_wp2_with fail
  refine HP.out.mono ?_
  rintro e w' ⟨rfl, hK, hB⟩
  have HK := Lib.hid hK
  have HB := Lib.hid hB
  clear hK hB
  go_wp2
  go_ret
  exact ⟨_, by omega, rfl, by simpa [putBig] using HK.out, (two_below w _ _).trans (HB.out.mono (by simp; omega))⟩
theorem putBig_neg (x : Nat) (many : Int) (w : World) (hm : many < 0) :
    Calls Try.prog 35 #[.int .u64 (x : Int), .int .i64 many] w (NewRow w 0 []) := by
  go_enter Try.func35, Try.ntmps35
  go_wp2_with fail
  refine (put_neg _ _ many _ hm).mono ?_
  rintro e w' ⟨rfl, hK, hB⟩
  have HK := Lib.hid hK
  have HB := Lib.hid hB
  clear hK hB
  go_wp2
  go_ret
  exact ⟨_, by omega, rfl, by simpa using HK.out, (two_below w _ _).trans (HB.out.mono (by simp; omega))⟩

theorem putLittle_any (x many : Nat) (w : World) (hx : x < 18446744073709551616) (hm : many ≤ 2147483647) :
    Calls Try.prog 22 #[.int .u64 (x : Int), .int .i64 (many : Int)] w (NewRow w many (putLittle x many)) := by
  have hput := put_any 59 #[.pointer (some ⟨w.heap.size, 0, none⟩)] (fun i => byteAt x i) many
    (w.alloc (.cells #[.int .u64 (x : Int)] 37)) hm callPutLittle (fun i W hi hb => by
      refine (putLittle1_any x i w.heap.size W hx (by omega) ?_).mono fun e w' h => ⟨h.1, by rw [← h.2]; exact Below.refl _ _⟩
      · rw [hb.cell (by simp)]; simp)
  have HP := Lib.hid hput
  clear hput hx
  go_enter Try.func22, Try.ntmps22
  go_wp2_with fail
  refine HP.out.mono ?_
  rintro e w' ⟨rfl, hK, hB⟩
  have HK := Lib.hid hK
  have HB := Lib.hid hB
  clear hK hB
  go_wp2
  go_ret
  exact ⟨_, by omega, rfl, by simpa [putLittle] using HK.out, ((Below.refl _ _).alloc (Nat.le_refl _) _).trans (HB.out.mono (by simp))⟩
theorem putLittle_neg (x : Nat) (many : Int) (w : World) (hm : many < 0) :
    Calls Try.prog 22 #[.int .u64 (x : Int), .int .i64 many] w (NewRow w 0 []) := by
  go_enter Try.func22, Try.ntmps22
  go_wp2_with fail
  refine (put_neg _ _ many _ hm).mono ?_
  rintro e w' ⟨rfl, hK, hB⟩
  have HK := Lib.hid hK
  have HB := Lib.hid hB
  clear hK hB
  go_wp2
  go_ret
  exact ⟨_, by omega, rfl, by simpa using HK.out, ((Below.refl _ _).alloc (Nat.le_refl _) _).trans (HB.out.mono (by simp))⟩

/-- Big and Little of a row that is known whole -/
theorem big_row (g n : Nat) (bs : List UInt8) (W : World) {t : TypeId} {fr : Nat × Nat} (hl : bs.length = n) (hn : n ≤ 2147483647) (hk : W.heap[g]? = some (.cells (bs.map bv).toArray t fr)) :
    Calls Try.prog 34 #[.slice (some ⟨g, 0, none⟩) n n] W fun e w' => e = .returned (.int .u64 (big bs : Int)) ∧ Below W.heap.size W w' := by
  have := big_any (some ⟨g, 0, none⟩) n bs _ W (by omega) (by simp [maxLen]; omega) (Nat.le_refl _) (row_of_heap hk (lt_of_heap hk))
  rwa [hl] at this
theorem little_row (g n : Nat) (bs : List UInt8) (W : World) {t : TypeId} {fr : Nat × Nat} (hl : bs.length = n) (hn : n ≤ 2147483647) (hk : W.heap[g]? = some (.cells (bs.map bv).toArray t fr)) :
    Calls Try.prog 76 #[.slice (some ⟨g, 0, none⟩) n n] W fun e w' => e = .returned (.int .u64 (littleN (bs.take 8) : Int)) ∧ Below W.heap.size W w' := by
  have := little_any (some ⟨g, 0, none⟩) n bs _ W (by omega) (by simp [maxLen]; omega) (Nat.le_refl _) (row_of_heap hk (lt_of_heap hk))
  rwa [hl] at this

/-- append onto bytes of one's own, as a step of a region that draws, and of one that does not -/
theorem step_app8 {w : World} {ops : Array Oper} {o : Oper} {a : Act} {K : Act → World → Prop} {Q : Exit → Act → World → Prop} {E : Prop} (hg : o.guard = none) (s x : Operand)
    (ho : o.op = .call { callee := .builtin .append, args := #[s, x], argTypes := #[26, 26] }) (base : Nat) (v : Value) (n : Nat) (bs : List UInt8) (hs : a.eval s = v) (hown : w.ownsRow base 5 1 v n (bs.map bv))
    (A : Option Addr) (m c B : Nat) (news : List UInt8) (hx : a.eval x = .slice A m c) (hr : RowAt w B A (news.map bv)) (hm : news.length = m) (hk : n + m ≤ 2147483647) (hbase : base ≤ w.heap.size)
    (h : ∀ v' w', w'.ownsRow base 5 1 v' (n + m) ((bs ++ news).map bv) → w.grownBy w' v.ownBlock → K (a.put o.dst v') w') :
    if Region.wanted o (yielded ops a.tmps) = true then Oper.wp Try.prog o a w K Q else E := by
  obtain ⟨v', w', hrun, h2, h3⟩ := append_row (P := Try.prog) w base o.type uT made8 rfl v n _ hown B A m c _ hr (by simpa using hm) (bv_one news) (by omega) (by simp [maxLen]; omega) hbase
  exact step_app hg s x _ _ ho (by rw [hs, hx]; exact hrun) (h v' w' (by rw [List.map_append]; exact h2) h3)
theorem wpList_app8 {w : World} {ops : Array Oper} {rest : List Oper} {o : Oper} {a : Act} {Q : Exit → Act → World → Prop} (hw : Region.wanted o (yielded ops a.tmps) = true) (s x : Operand)
    (ho : o.op = .call { callee := .builtin .append, args := #[s, x], argTypes := #[26, 26] }) (base : Nat) (v : Value) (n : Nat) (bs : List UInt8) (hs : a.eval s = v) (hown : w.ownsRow base 5 1 v n (bs.map bv))
    (A : Option Addr) (m c B : Nat) (news : List UInt8) (hx : a.eval x = .slice A m c) (hr : RowAt w B A (news.map bv)) (hm : news.length = m) (hk : n + m ≤ 2147483647) (hbase : base ≤ w.heap.size)
    (h : ∀ v' w', w'.ownsRow base 5 1 v' (n + m) ((bs ++ news).map bv) → w.grownBy w' v.ownBlock → wpList Try.prog ops Q rest (a.put o.dst v') w') :
    wpList Try.prog ops Q (o :: rest) a w := by
  obtain ⟨v', w', hrun, h2, h3⟩ := append_row (P := Try.prog) w base o.type uT made8 rfl v n _ hown B A m c _ hr (by simpa using hm) (bv_one news) (by omega) (by simp [maxLen]; omega) hbase
  exact wpList_app hw s x _ _ ho (by rw [hs, hx]; exact hrun) (h v' w' (by rw [List.map_append]; exact h2) h3)
theorem wpList_app0 {w : World} {ops : Array Oper} {rest : List Oper} {o : Oper} {a : Act} {Q : Exit → Act → World → Prop} (hw : Region.wanted o (yielded ops a.tmps) = true) (s x : Operand)
    (ho : o.op = .call { callee := .builtin .append, args := #[s, x], argTypes := #[26, 3] }) (base : Nat) (v : Value) (n : Nat) (bs : List UInt8) (hs : a.eval s = v) (hown : w.ownsRow base 5 1 v n (bs.map bv))
    (k : Nat) (hx : a.eval x = .int .i64 (k : Int)) (hk : n + k ≤ 2147483647) (hbase : base ≤ w.heap.size)
    (h : ∀ v' w', w'.ownsRow base 5 1 v' (n + k) ((bs ++ List.replicate k 0).map bv) → w.grownBy w' v.ownBlock → wpList Try.prog ops Q rest (a.put o.dst v') w') :
    wpList Try.prog ops Q (o :: rest) a w := by
  obtain ⟨v', w', hrun, h2, h3⟩ := append_zeros (P := Try.prog) w base o.type uT Try.underlying3 made8 rfl rfl v n _ hown k (by omega) (by omega) hbase
  exact wpList_app hw s x _ _ ho (by rw [hs, hx]; exact hrun) (h v' w' (by rw [List.map_append, List.map_replicate]; exact h2) h3)
theorem own_read {w : World} {base : Nat} {v : Value} {n : Nat} {bs : List UInt8} (h : w.ownsRow base 5 1 v n (bs.map bv)) :
    ∃ A c, v = .slice A n c ∧ bs.length = n ∧ n ≤ c ∧ c ≤ maxLen ∧ RowAt w w.heap.size A (bs.map bv) := by
  have hl : bs.length = n := by have := h.1; simpa using this
  subst hl
  obtain ⟨A, c, hv, h1, h2, h3⟩ := OwnB.read h
  exact ⟨A, c, hv, rfl, h1, h2, h3⟩

theorem big_n (A : Option Addr) (n c : Nat) (bs : List UInt8) (W : World) (hl : bs.length = n) (h1 : n ≤ c) (h2 : c ≤ maxLen) (hr : RowAt W W.heap.size A (bs.map bv)) :
    Calls Try.prog 34 #[.slice A n c] W fun e w' => e = .returned (.int .u64 (big bs : Int)) ∧ Below W.heap.size W w' := by
  subst hl
  exact big_any A c bs _ W h1 h2 (Nat.le_refl _) hr
theorem little_n (A : Option Addr) (n c : Nat) (bs : List UInt8) (W : World) (hl : bs.length = n) (h1 : n ≤ c) (h2 : c ≤ maxLen) (hr : RowAt W W.heap.size A (bs.map bv)) :
    Calls Try.prog 76 #[.slice A n c] W fun e w' => e = .returned (.int .u64 (littleN (bs.take 8) : Int)) ∧ Below W.heap.size W w' := by
  subst hl
  exact little_any A c bs _ W h1 h2 (Nat.le_refl _) hr
theorem RowAt.after {w w' : World} {A : Option Addr} {xs : List Value} (h : RowAt w w.heap.size A xs) (hb : Below w.heap.size w w') : RowAt w' w'.heap.size A xs := (h.below hb).more hb.size
end Go.Proofs.Ytjlljifllnmdoaa
