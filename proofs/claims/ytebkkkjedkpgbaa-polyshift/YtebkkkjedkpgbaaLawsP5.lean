/- Laws of layer 5: the second half alone is put to the sum. -/
import Derived.Test.YtebkkkjedkpgbaaLawsP2
namespace Go.Proofs.Ytebkkkjedkpgbaa
open Go.RowKit
set_option linter.unusedVariables false
set_option linter.unusedSimpArgs false
theorem shift_math (l s P : Nat) (hP : 0 < P) : ((l + s) / P) % 256 = (l / P % 256 + s / P % 256 + (l % P + s % P) / P) % 256 ∧ (l % (P * 256) + s % (P * 256)) / (P * 256) = (l / P % 256 + s / P % 256 + (l % P + s % P) / P) / 256 ∧ (l % P + s % P) / P ≤ 1 := by
  have h1 : (l + s) / P = l / P + s / P + (l % P + s % P) / P := by
    have e : l + s = (l % P + s % P) + P * (l / P + s / P) := by
      have a1 := Nat.mod_add_div l P
      have a2 := Nat.mod_add_div s P
      rw [Nat.mul_add]; omega
    conv => lhs; rw [e]
    rw [Nat.add_mul_div_left _ _ hP]; omega
  have h3 : (l % P + s % P) / P ≤ 1 := by
    have b1 := Nat.mod_lt l hP
    have b2 := Nat.mod_lt s hP
    have : (l % P + s % P) / P < 2 := (Nat.div_lt_iff_lt_mul hP).2 (by omega)
    omega
  refine ⟨?_, ?_, h3⟩
  · rw [h1]; omega
  · rw [Nat.mod_mul, Nat.mod_mul, ← Nat.div_div_eq_div_mul]
    have e : l % P + P * (l / P % 256) + (s % P + P * (s / P % 256)) = (l % P + s % P) + P * (l / P % 256 + s / P % 256) := by rw [Nat.mul_add]; omega
    rw [e, Nat.add_mul_div_left _ _ hP]
    congr 1; omega
theorem byteAt_nat (x i : Nat) : (byteAt x i).toNat = x / 256 ^ i % 256 := by unfold byteAt; rw [UInt8.toNat_ofNat']
theorem putLittle_getD (x k i : Nat) (h : i < k) : (putLittle x k).getD i 0 = byteAt x i := by simp [putLittle, List.getD, h]
theorem littleN_byte (bs : List UInt8) (i : Nat) (h : i < bs.length) : bs.getD i 0 = byteAt (littleN bs) i := by
  conv => lhs; rw [← putLittle_littleN bs]
  exact putLittle_getD _ _ _ h
theorem plain_poly (key b : List UInt8) (hk : key.length = 32) : polyL (key.take 16 ++ List.replicate 16 0) b = putLittle (leastN (polyN (rOf key) b)) 16 := by
  have l1 : (key.take 16).length = 16 := by rw [List.length_take, hk]; rfl
  have e1 : (key.take 16 ++ List.replicate 16 (0 : UInt8)).take 16 = key.take 16 := List.take_left' l1
  have e2 : (key.take 16 ++ List.replicate 16 (0 : UInt8)).drop 16 = List.replicate 16 0 := List.drop_left' l1
  have e3 : littleN (List.replicate 16 (0 : UInt8)) = 0 := by decide +kernel
  unfold polyL
  rw [psumL_eq]
  unfold rOf sOf
  rw [e1, e2, e3, Nat.add_zero]
theorem set_plain (y : List UInt8) (j : Nat) (hj : j < 16) (hy : y.length = 32) : (y.take 16 ++ List.replicate j 0 ++ y.drop (16 + j)).set (16 + j) 0 = y.take 16 ++ List.replicate (j + 1) 0 ++ y.drop (16 + (j + 1)) := by
  rw [List.set_append_right _ _ (by simp; omega), List.length_append, List.length_take, List.length_replicate, hy, show 16 + j - (min 16 32 + j) = 0 by omega, List.drop_eq_getElem_cons (by omega), List.set_cons_zero, List.replicate_succ', ← List.append_assoc, List.append_assoc _ [0]]
  rfl
/-- what holds in the region of two sums, whichever operations have come up -/
structure BJ (w : World) (A : Option Addr) (m c : Nat) (K P S T : List UInt8) (L : Nat → Bool) (v7 v8 v22 v23 v24 v25 v26 v27 : Value) (W : World) : Prop where
  b : Below w.heap.size w W
  k : W.heap[w.heap.size]? = some (.cells (K.map bv).toArray 22 (0, 0))
  p : W.heap[w.heap.size + 1]? = some (.cells (P.map bv).toArray 22 (0, 0))
  f0 : L 0 = true → v22 = .agg (K.map bv).toArray
  f1 : L 1 = true → v23 = .slice A m c
  f2 : L 2 = true → v24 = .agg (S.map bv).toArray
  f3 : L 3 = true → v25 = .agg (P.map bv).toArray
  f4 : L 4 = true → v26 = .slice A m c
  f5 : L 5 = true → v27 = .agg (T.map bv).toArray
  f6 : L 6 = true → CellP (w.heap.size + 1) W v7 (S.map bv) (L 8)
  f7 : L 7 = true → CellP (w.heap.size + 1) W v8 (T.map bv) (L 9)
  fd : L 6 = true → L 7 = true → v7 ≠ v8
  d8 : L 8 = true → L 6 = true
  d9 : L 9 = true → L 7 = true
theorem BJ.ext {w : World} {A : Option Addr} {m c : Nat} {K P S T : List UInt8} {L : Nat → Bool} {v7 v8 v22 v23 v24 v25 v26 v27 : Value} {W W' : World} (h : BJ w A m c K P S T L v7 v8 v22 v23 v24 v25 v26 v27 W) (hE : Ext W W') : BJ w A m c K P S T L v7 v8 v22 v23 v24 v25 v26 v27 W' :=
  ⟨h.b.step hE, (hE.block _ (lt_of_heap h.k)).trans h.k, (hE.block _ (lt_of_heap h.p)).trans h.p, h.f0, h.f1, h.f2, h.f3, h.f4, h.f5, fun a => (h.f6 a).ext hE, fun a => (h.f7 a).ext hE, h.fd, h.d8, h.d9⟩
theorem BJ.s0 {w : World} {A : Option Addr} {m c : Nat} {K P S T : List UInt8} {L : Nat → Bool} {v7 v8 v22 v23 v24 v25 v26 v27 x : Value} {W : World} (H : BJ w A m c K P S T L v7 v8 v22 v23 v24 v25 v26 v27 W) (hv : x = .agg (K.map bv).toArray) : BJ w A m c K P S T (up L 0) v7 v8 x v23 v24 v25 v26 v27 W :=
  ⟨H.b, H.k, H.p, fun _ => hv, fun h => H.f1 ((up_ne L (by decide : (1 : Nat) ≠ 0)) ▸ h), fun h => H.f2 ((up_ne L (by decide : (2 : Nat) ≠ 0)) ▸ h), fun h => H.f3 ((up_ne L (by decide : (3 : Nat) ≠ 0)) ▸ h), fun h => H.f4 ((up_ne L (by decide : (4 : Nat) ≠ 0)) ▸ h), fun h => H.f5 ((up_ne L (by decide : (5 : Nat) ≠ 0)) ▸ h), fun h => by rw [up_ne L (by decide : (8 : Nat) ≠ 0)]; exact H.f6 ((up_ne L (by decide : (6 : Nat) ≠ 0)) ▸ h), fun h => by rw [up_ne L (by decide : (9 : Nat) ≠ 0)]; exact H.f7 ((up_ne L (by decide : (7 : Nat) ≠ 0)) ▸ h), fun h5 h6 => H.fd ((up_ne L (by decide : (6 : Nat) ≠ 0)) ▸ h5) ((up_ne L (by decide : (7 : Nat) ≠ 0)) ▸ h6), fun h => (up_ne L (by decide : (6 : Nat) ≠ 0)).symm ▸ H.d8 ((up_ne L (by decide : (8 : Nat) ≠ 0)) ▸ h), fun h => (up_ne L (by decide : (7 : Nat) ≠ 0)).symm ▸ H.d9 ((up_ne L (by decide : (9 : Nat) ≠ 0)) ▸ h)⟩
theorem BJ.s1 {w : World} {A : Option Addr} {m c : Nat} {K P S T : List UInt8} {L : Nat → Bool} {v7 v8 v22 v23 v24 v25 v26 v27 x : Value} {W : World} (H : BJ w A m c K P S T L v7 v8 v22 v23 v24 v25 v26 v27 W) (hv : x = .slice A m c) : BJ w A m c K P S T (up L 1) v7 v8 v22 x v24 v25 v26 v27 W :=
  ⟨H.b, H.k, H.p, fun h => H.f0 ((up_ne L (by decide : (0 : Nat) ≠ 1)) ▸ h), fun _ => hv, fun h => H.f2 ((up_ne L (by decide : (2 : Nat) ≠ 1)) ▸ h), fun h => H.f3 ((up_ne L (by decide : (3 : Nat) ≠ 1)) ▸ h), fun h => H.f4 ((up_ne L (by decide : (4 : Nat) ≠ 1)) ▸ h), fun h => H.f5 ((up_ne L (by decide : (5 : Nat) ≠ 1)) ▸ h), fun h => by rw [up_ne L (by decide : (8 : Nat) ≠ 1)]; exact H.f6 ((up_ne L (by decide : (6 : Nat) ≠ 1)) ▸ h), fun h => by rw [up_ne L (by decide : (9 : Nat) ≠ 1)]; exact H.f7 ((up_ne L (by decide : (7 : Nat) ≠ 1)) ▸ h), fun h5 h6 => H.fd ((up_ne L (by decide : (6 : Nat) ≠ 1)) ▸ h5) ((up_ne L (by decide : (7 : Nat) ≠ 1)) ▸ h6), fun h => (up_ne L (by decide : (6 : Nat) ≠ 1)).symm ▸ H.d8 ((up_ne L (by decide : (8 : Nat) ≠ 1)) ▸ h), fun h => (up_ne L (by decide : (7 : Nat) ≠ 1)).symm ▸ H.d9 ((up_ne L (by decide : (9 : Nat) ≠ 1)) ▸ h)⟩
theorem BJ.s2 {w : World} {A : Option Addr} {m c : Nat} {K P S T : List UInt8} {L : Nat → Bool} {v7 v8 v22 v23 v24 v25 v26 v27 x : Value} {W : World} (H : BJ w A m c K P S T L v7 v8 v22 v23 v24 v25 v26 v27 W) (hv : x = .agg (S.map bv).toArray) : BJ w A m c K P S T (up L 2) v7 v8 v22 v23 x v25 v26 v27 W :=
  ⟨H.b, H.k, H.p, fun h => H.f0 ((up_ne L (by decide : (0 : Nat) ≠ 2)) ▸ h), fun h => H.f1 ((up_ne L (by decide : (1 : Nat) ≠ 2)) ▸ h), fun _ => hv, fun h => H.f3 ((up_ne L (by decide : (3 : Nat) ≠ 2)) ▸ h), fun h => H.f4 ((up_ne L (by decide : (4 : Nat) ≠ 2)) ▸ h), fun h => H.f5 ((up_ne L (by decide : (5 : Nat) ≠ 2)) ▸ h), fun h => by rw [up_ne L (by decide : (8 : Nat) ≠ 2)]; exact H.f6 ((up_ne L (by decide : (6 : Nat) ≠ 2)) ▸ h), fun h => by rw [up_ne L (by decide : (9 : Nat) ≠ 2)]; exact H.f7 ((up_ne L (by decide : (7 : Nat) ≠ 2)) ▸ h), fun h5 h6 => H.fd ((up_ne L (by decide : (6 : Nat) ≠ 2)) ▸ h5) ((up_ne L (by decide : (7 : Nat) ≠ 2)) ▸ h6), fun h => (up_ne L (by decide : (6 : Nat) ≠ 2)).symm ▸ H.d8 ((up_ne L (by decide : (8 : Nat) ≠ 2)) ▸ h), fun h => (up_ne L (by decide : (7 : Nat) ≠ 2)).symm ▸ H.d9 ((up_ne L (by decide : (9 : Nat) ≠ 2)) ▸ h)⟩
theorem BJ.s3 {w : World} {A : Option Addr} {m c : Nat} {K P S T : List UInt8} {L : Nat → Bool} {v7 v8 v22 v23 v24 v25 v26 v27 x : Value} {W : World} (H : BJ w A m c K P S T L v7 v8 v22 v23 v24 v25 v26 v27 W) (hv : x = .agg (P.map bv).toArray) : BJ w A m c K P S T (up L 3) v7 v8 v22 v23 v24 x v26 v27 W :=
  ⟨H.b, H.k, H.p, fun h => H.f0 ((up_ne L (by decide : (0 : Nat) ≠ 3)) ▸ h), fun h => H.f1 ((up_ne L (by decide : (1 : Nat) ≠ 3)) ▸ h), fun h => H.f2 ((up_ne L (by decide : (2 : Nat) ≠ 3)) ▸ h), fun _ => hv, fun h => H.f4 ((up_ne L (by decide : (4 : Nat) ≠ 3)) ▸ h), fun h => H.f5 ((up_ne L (by decide : (5 : Nat) ≠ 3)) ▸ h), fun h => by rw [up_ne L (by decide : (8 : Nat) ≠ 3)]; exact H.f6 ((up_ne L (by decide : (6 : Nat) ≠ 3)) ▸ h), fun h => by rw [up_ne L (by decide : (9 : Nat) ≠ 3)]; exact H.f7 ((up_ne L (by decide : (7 : Nat) ≠ 3)) ▸ h), fun h5 h6 => H.fd ((up_ne L (by decide : (6 : Nat) ≠ 3)) ▸ h5) ((up_ne L (by decide : (7 : Nat) ≠ 3)) ▸ h6), fun h => (up_ne L (by decide : (6 : Nat) ≠ 3)).symm ▸ H.d8 ((up_ne L (by decide : (8 : Nat) ≠ 3)) ▸ h), fun h => (up_ne L (by decide : (7 : Nat) ≠ 3)).symm ▸ H.d9 ((up_ne L (by decide : (9 : Nat) ≠ 3)) ▸ h)⟩
theorem BJ.s4 {w : World} {A : Option Addr} {m c : Nat} {K P S T : List UInt8} {L : Nat → Bool} {v7 v8 v22 v23 v24 v25 v26 v27 x : Value} {W : World} (H : BJ w A m c K P S T L v7 v8 v22 v23 v24 v25 v26 v27 W) (hv : x = .slice A m c) : BJ w A m c K P S T (up L 4) v7 v8 v22 v23 v24 v25 x v27 W :=
  ⟨H.b, H.k, H.p, fun h => H.f0 ((up_ne L (by decide : (0 : Nat) ≠ 4)) ▸ h), fun h => H.f1 ((up_ne L (by decide : (1 : Nat) ≠ 4)) ▸ h), fun h => H.f2 ((up_ne L (by decide : (2 : Nat) ≠ 4)) ▸ h), fun h => H.f3 ((up_ne L (by decide : (3 : Nat) ≠ 4)) ▸ h), fun _ => hv, fun h => H.f5 ((up_ne L (by decide : (5 : Nat) ≠ 4)) ▸ h), fun h => by rw [up_ne L (by decide : (8 : Nat) ≠ 4)]; exact H.f6 ((up_ne L (by decide : (6 : Nat) ≠ 4)) ▸ h), fun h => by rw [up_ne L (by decide : (9 : Nat) ≠ 4)]; exact H.f7 ((up_ne L (by decide : (7 : Nat) ≠ 4)) ▸ h), fun h5 h6 => H.fd ((up_ne L (by decide : (6 : Nat) ≠ 4)) ▸ h5) ((up_ne L (by decide : (7 : Nat) ≠ 4)) ▸ h6), fun h => (up_ne L (by decide : (6 : Nat) ≠ 4)).symm ▸ H.d8 ((up_ne L (by decide : (8 : Nat) ≠ 4)) ▸ h), fun h => (up_ne L (by decide : (7 : Nat) ≠ 4)).symm ▸ H.d9 ((up_ne L (by decide : (9 : Nat) ≠ 4)) ▸ h)⟩
theorem BJ.s5 {w : World} {A : Option Addr} {m c : Nat} {K P S T : List UInt8} {L : Nat → Bool} {v7 v8 v22 v23 v24 v25 v26 v27 x : Value} {W : World} (H : BJ w A m c K P S T L v7 v8 v22 v23 v24 v25 v26 v27 W) (hv : x = .agg (T.map bv).toArray) : BJ w A m c K P S T (up L 5) v7 v8 v22 v23 v24 v25 v26 x W :=
  ⟨H.b, H.k, H.p, fun h => H.f0 ((up_ne L (by decide : (0 : Nat) ≠ 5)) ▸ h), fun h => H.f1 ((up_ne L (by decide : (1 : Nat) ≠ 5)) ▸ h), fun h => H.f2 ((up_ne L (by decide : (2 : Nat) ≠ 5)) ▸ h), fun h => H.f3 ((up_ne L (by decide : (3 : Nat) ≠ 5)) ▸ h), fun h => H.f4 ((up_ne L (by decide : (4 : Nat) ≠ 5)) ▸ h), fun _ => hv, fun h => by rw [up_ne L (by decide : (8 : Nat) ≠ 5)]; exact H.f6 ((up_ne L (by decide : (6 : Nat) ≠ 5)) ▸ h), fun h => by rw [up_ne L (by decide : (9 : Nat) ≠ 5)]; exact H.f7 ((up_ne L (by decide : (7 : Nat) ≠ 5)) ▸ h), fun h5 h6 => H.fd ((up_ne L (by decide : (6 : Nat) ≠ 5)) ▸ h5) ((up_ne L (by decide : (7 : Nat) ≠ 5)) ▸ h6), fun h => (up_ne L (by decide : (6 : Nat) ≠ 5)).symm ▸ H.d8 ((up_ne L (by decide : (8 : Nat) ≠ 5)) ▸ h), fun h => (up_ne L (by decide : (7 : Nat) ≠ 5)).symm ▸ H.d9 ((up_ne L (by decide : (9 : Nat) ≠ 5)) ▸ h)⟩
theorem BJ.s6 {w : World} {A : Option Addr} {m c : Nat} {K P S T : List UInt8} {L : Nat → Bool} {v7 v8 v22 v23 v24 v25 v26 v27 x : Value} {W : World} (H : BJ w A m c K P S T L v7 v8 v22 v23 v24 v25 v26 v27 W) (hv : CellP (w.heap.size + 1) W x (S.map bv) (L 8)) (hn : L 7 = true → x ≠ v8) : BJ w A m c K P S T (up L 6) x v8 v22 v23 v24 v25 v26 v27 W :=
  ⟨H.b, H.k, H.p, fun h => H.f0 ((up_ne L (by decide : (0 : Nat) ≠ 6)) ▸ h), fun h => H.f1 ((up_ne L (by decide : (1 : Nat) ≠ 6)) ▸ h), fun h => H.f2 ((up_ne L (by decide : (2 : Nat) ≠ 6)) ▸ h), fun h => H.f3 ((up_ne L (by decide : (3 : Nat) ≠ 6)) ▸ h), fun h => H.f4 ((up_ne L (by decide : (4 : Nat) ≠ 6)) ▸ h), fun h => H.f5 ((up_ne L (by decide : (5 : Nat) ≠ 6)) ▸ h), fun _ => by rw [up_ne L (by decide : (8 : Nat) ≠ 6)]; exact hv, fun h => by rw [up_ne L (by decide : (9 : Nat) ≠ 6)]; exact H.f7 ((up_ne L (by decide : (7 : Nat) ≠ 6)) ▸ h), fun _ h => hn ((up_ne L (by decide : (7 : Nat) ≠ 6)) ▸ h), fun _ => up_same L 6, fun h => (up_ne L (by decide : (7 : Nat) ≠ 6)).symm ▸ H.d9 ((up_ne L (by decide : (9 : Nat) ≠ 6)) ▸ h)⟩
theorem BJ.s7 {w : World} {A : Option Addr} {m c : Nat} {K P S T : List UInt8} {L : Nat → Bool} {v7 v8 v22 v23 v24 v25 v26 v27 x : Value} {W : World} (H : BJ w A m c K P S T L v7 v8 v22 v23 v24 v25 v26 v27 W) (hv : CellP (w.heap.size + 1) W x (T.map bv) (L 9)) (hn : L 6 = true → v7 ≠ x) : BJ w A m c K P S T (up L 7) v7 x v22 v23 v24 v25 v26 v27 W :=
  ⟨H.b, H.k, H.p, fun h => H.f0 ((up_ne L (by decide : (0 : Nat) ≠ 7)) ▸ h), fun h => H.f1 ((up_ne L (by decide : (1 : Nat) ≠ 7)) ▸ h), fun h => H.f2 ((up_ne L (by decide : (2 : Nat) ≠ 7)) ▸ h), fun h => H.f3 ((up_ne L (by decide : (3 : Nat) ≠ 7)) ▸ h), fun h => H.f4 ((up_ne L (by decide : (4 : Nat) ≠ 7)) ▸ h), fun h => H.f5 ((up_ne L (by decide : (5 : Nat) ≠ 7)) ▸ h), fun h => by rw [up_ne L (by decide : (8 : Nat) ≠ 7)]; exact H.f6 ((up_ne L (by decide : (6 : Nat) ≠ 7)) ▸ h), fun _ => by rw [up_ne L (by decide : (9 : Nat) ≠ 7)]; exact hv, fun h _ => hn ((up_ne L (by decide : (6 : Nat) ≠ 7)) ▸ h), fun h => (up_ne L (by decide : (6 : Nat) ≠ 7)).symm ▸ H.d8 ((up_ne L (by decide : (8 : Nat) ≠ 7)) ▸ h), fun _ => up_same L 7⟩
def mkB (w : World) (A : Option Addr) (m c : Nat) (K : List UInt8) (u6 u14 u16 u17 u18 u19 u20 u21 : Value) (v7 v8 v22 v23 v24 v25 v26 v27 : Value) : Act := { tmps := #[.agg (K.map bv).toArray, .slice A m c, .pointer (some ⟨w.heap.size, 0, none⟩), undef, .bool false, .pointer (some ⟨w.heap.size + 1, 0, none⟩), u6, v7, v8, undef, undef, undef, .slice A m c, .int .i64 (m : Int), u14, .agg (K.map bv).toArray, u16, u17, u18, u19, u20, u21, v22, v23, v24, v25, v26, v27, undef, undef, undef, undef, undef, undef, undef, undef, undef, undef, undef, undef, undef, undef, undef, undef, undef, undef, undef, undef, undef, undef, undef, undef, undef, undef], defers := [] }
set_option maxHeartbeats 2000000 in
theorem polyShift_walk (w : World) (y : List UInt8) (l : y.length = 32) (A : Option Addr) (c : Nat) (b : List UInt8) (h : Sl w A c b) :
    Calls Try.prog 6 #[.agg (y.map bv).toArray, .slice A b.length c] w fun e w' => e = .returned (.bool true) ∧ Below w.heap.size w w' := by
  have q1 : b.length ≤ 9223372036854775807 := by have := h.1; have := h.2.1; simp [maxLen] at this; omega
  obtain ⟨m, hm⟩ : ∃ m, b.length = m := ⟨_, rfl⟩
  have HM := Lib.hid hm; have HS := Lib.hid h; have HL := Lib.hid l
  rw [hm] at q1 ⊢
  clear hm h l
  have hz32 : ∀ W, (zeroValue 22).run Try.prog W = .ok (.agg ((List.replicate 32 (0 : UInt8)).map bv).toArray) W := fun W => by kernel_rfl
  have hz : ∀ W, (zeroValue 24).run Try.prog W = .ok (.agg ((List.replicate 16 (0 : UInt8)).map bv).toArray) W := fun W => by kernel_rfl
  obtain ⟨Z, HZ⟩ : ∃ Z, Hid ((List.replicate 16 (0 : UInt8)).map bv = Z) := ⟨_, rfl⟩
  obtain ⟨Y, HY⟩ : ∃ Y, Hid ((List.replicate 32 (0 : UInt8)).map bv = Y) := ⟨_, rfl⟩
  rw [HZ.out] at hz
  rw [HY.out] at hz32
  have LY : Hid (Y.length = 32) := by rw [← HY.out]; rfl
  have LZ : Hid (Z.length = 16) := by rw [← HZ.out]; rfl
  have G := Lib.hid (heap_alloc_new' w (.cells (y.map bv).toArray 22))
  have GB : Hid (Below w.heap.size w (w.alloc (.cells (y.map bv).toArray 22))) := (Below.refl _ _).alloc (Nat.le_refl _) _
  by_cases hb : 600 < m
  · go_enter Try.func6, Try.ntmps6
    go_wp2
    go_ret
    exact ⟨rfl, GB.out⟩
  have hbb : m ≤ 600 := by omega
  clear hb q1
  have LP : Hid ((y.take 16 ++ List.replicate 16 (0 : UInt8)).length = 32) := by show _ = _; simp [HL.out]
  have PK := Lib.hid (fun W hS => psum_any y A m c b W HL.out HM.out (by omega) hS)
  have PP := Lib.hid (fun W hS => psum_any (y.take 16 ++ List.replicate 16 0) A m c b W LP.out HM.out (by omega) hS)
  rw [plain_poly y b HL.out] at PP
  have hky : polyL y b = putLittle (leastN (polyN (rOf y) b) + sOf y) 16 := psumL_eq _ _ _
  rw [hky] at PK
  clear hky
  generalize leastN (polyN (rOf y) b) = ll at PK PP
  have HKB : Hid (∀ i, i < 16 → y.getD (16 + i) 0 = byteAt (sOf y) i) := by
    intro i hi
    have h1 := littleN_byte (y.drop 16) i (by rw [List.length_drop, HL.out]; omega)
    rw [show sOf y = littleN (y.drop 16) from rfl, ← h1]
    simp [List.getD]
  generalize sOf y = ss at PK HKB
  have LS : Hid ((putLittle (ll + ss) 16).length = 16) := putLittle_len _ _
  have LT : Hid ((putLittle ll 16).length = 16) := putLittle_len _ _
  have GS : Hid (∀ i, i < 16 → (putLittle (ll + ss) 16).getD i 0 = byteAt (ll + ss) i) := fun i hi => putLittle_getD _ _ _ hi
  have GT : Hid (∀ i, i < 16 → (putLittle ll 16).getD i 0 = byteAt ll i) := fun i hi => putLittle_getD _ _ _ hi
  generalize putLittle (ll + ss) 16 = S at PK LS GS
  generalize putLittle ll 16 = T at PP LT GT
  have HSP : Hid (∀ j, j < 16 → (y.take 16 ++ List.replicate j 0 ++ y.drop (16 + j)).set (16 + j) 0 = y.take 16 ++ List.replicate (j + 1) 0 ++ y.drop (16 + (j + 1))) := fun j hj => set_plain y j hj HL.out
  have LPI : Hid (∀ j, j ≤ 16 → (y.take 16 ++ List.replicate j (0 : UInt8) ++ y.drop (16 + j)).length = 32) := by intro j hj; simp [HL.out]; omega
  have HP0 : Hid (y.take 16 ++ List.replicate 0 (0 : UInt8) ++ y.drop (16 + 0) = y) := by show _ = _; simp
  have HP16 : Hid (y.take 16 ++ List.replicate 16 (0 : UInt8) ++ y.drop (16 + 16) = y.take 16 ++ List.replicate 16 0) := by show _ = _; rw [List.drop_of_length_le (by rw [HL.out]; omega), List.append_nil]
  go_enter Try.func6, Try.ntmps6
  go_upto_region 3 with (fail)
  generalize hV : w.alloc _ = W0 at G GB ⊢
  have hs0 : W0.heap.size = w.heap.size + 1 := by rw [← hV]; simp
  have HS0 := Lib.hid hs0
  clear hV hs0
  go_upto_region 4 with (first
    | (refine wpList_ld rfl 22 (.tmp 2) rfl (load_arr arr32P rfl (i32p y HL.out) G.out) ?_)
    | (refine wpList_st rfl 22 (.tmp 5) (.tmp 15) rfl (store_arr (cs := y.map bv) (i32p y HL.out) (bv_one _) (heap_alloc_new' W0 _) (by rw [List.length_map, HL.out]; exact LY.out)) ?_
       generalize hV : World.setRow _ _ _ = W1
       have M1 := Lib.hid (heap_of_setRow hV (heap_alloc_new' W0 _))
       have MB := Lib.hid (((Below.refl W0.heap.size W0).alloc (Nat.le_refl _) _).trans (below_of_setRow hV (Nat.le_refl W0.heap.size) (by simp)))
       clear hV)
    | fail)
  have G1 := Lib.hid ((MB.out.block _ (lt_of_heap G.out)).trans G.out)
  have GB1 : Hid (Below w.heap.size w W1) := GB.out.trans (MB.out.mono GB.out.size)
  rw [HS0.out] at M1 ⊢
  clear MB G GB HS0 hz32
  go_wp2_with fail
  go_loopw [6] (fun vi wr => ∃ (i j : Nat), j ≤ 16 ∧ i = 16 + j ∧ vi = .int .i64 (i : Int) ∧ Hid (Below w.heap.size w wr) ∧ Hid (wr.heap[w.heap.size]? = some (.cells (y.map bv).toArray 22 (0, 0))) ∧
      Hid (wr.heap[w.heap.size + 1]? = some (.cells ((y.take 16 ++ List.replicate j 0 ++ y.drop (16 + j)).map bv).toArray 22 (0, 0)))) (fun i _ => 32 - (intOf i).toNat)
  case atStart => exact ⟨16, 0, by omega, rfl, rfl, GB1, G1, by rw [HP0.out]; exact M1⟩
  case round =>
    clear GB1 G1 M1
    obtain ⟨i, j, hj, hij, rfl, HB, H0, H1⟩ := hrel
    by_cases hlt : j < 16
    · have e1 : (i : Int) < 32 := by omega
      have hset := HSP.out j hlt
      have l1 := LPI.out j (by omega)
      obtain ⟨X, hX⟩ : ∃ X, X = y.take 16 ++ List.replicate j (0 : UInt8) ++ y.drop (16 + j) := ⟨_, rfl⟩
      rw [← hX, ← hij] at hset
      rw [← hX] at l1 H1
      have c1 := bcell H1.out i (by omega)
      have f1 := frozen_of_heap H1.out i
      have HSE := Lib.hid hset
      have HIJ := Lib.hid hij
      generalize X.getD i 0 = x at c1
      clear hset l1 hX hij
      go_wp2
      go_roundw
      case rel =>
        obtain ⟨m1, m2, m3⟩ := bst_row (B := w.heap.size) (W := wr) (g := w.heap.size + 1) (i := i) (v := 0) rfl (by omega) H1.out
        rw [HSE.out] at m1
        exact ⟨i + 1, j + 1, by omega, by have := HIJ.out; omega, by go_num, HB.out.trans m2, (m3 _ (by omega)).trans H0.out, m1⟩
      case measure => have := HIJ.out; simp [intOf]; omega
    · have e1 : ¬ ((i : Int) < 32) := by omega
      have H1' : Hid (wr.heap[w.heap.size + 1]? = some (.cells ((y.take 16 ++ List.replicate 16 0).map bv).toArray 22 (0, 0))) := by have := H1.out; rw [show j = 16 by omega, HP16.out] at this; exact this
      clear H1 HSP LPI HP0 HP16 hij
      generalize y.take 16 ++ List.replicate 16 (0 : UInt8) = P at H1' LP PP
      obtain ⟨wo, hwo⟩ : ∃ x, x = wr := ⟨_, rfl⟩
      subst hwo
      go_upto_region 8 with (fail)
      have H0d := Lib.hid H0.out; have H1d := Lib.hid H1'.out; have HBd : Hid (Below w.heap.size w wo.drew) := HB.out.drew
      clear H0 H1' HB
      generalize hu6 : Value.int .i64 (i : Int) = u6
      generalize hu14 : Value.bool (decide (600 < (m : Int))) = u14
      clear hu6 hu14
      refine reg_inv (fun L a W => ∃ v7 v8 v22 v23 v24 v25 v26 v27, a = mkB w A m c y u6 u14 u6 (.bool false) u18 u19 u20 u21 v7 v8 v22 v23 v24 v25 v26 v27 ∧ BJ w A m c y P S T L v7 v8 v22 v23 v24 v25 v26 v27 W) (by kernel_rfl) (by kernel_rfl) ?_
        (And.intro ?_ (And.intro ?_ (And.intro ?_ (And.intro ?_ (And.intro ?_ (And.intro ?_ (And.intro ?_ (And.intro ?_ (And.intro ?_ (And.intro ?_ trivial)))))))))) ?_
      · intro L hL
        have hL' : ∀ j, j < 10 → L j = false := hL
        have no : ∀ j, j < 10 → L j = true → False := fun j hj h => by rw [hL' j hj] at h; cases h
        exact ⟨_, _, _, _, _, _, _, _, rfl, ⟨HBd.out, H0d.out, H1d.out, fun h => (no 0 (by decide) h).elim, fun h => (no 1 (by decide) h).elim, fun h => (no 2 (by decide) h).elim, fun h => (no 3 (by decide) h).elim, fun h => (no 4 (by decide) h).elim, fun h => (no 5 (by decide) h).elim, fun h => (no 6 (by decide) h).elim, fun h => (no 7 (by decide) h).elim, fun h => (no 6 (by decide) h).elim, fun h => (no 8 (by decide) h).elim, fun h => (no 9 (by decide) h).elim⟩⟩
      · rintro L a W ⟨v7, v8, v22, v23, v24, v25, v26, v27, rfl, H⟩ hLi hd K0 hK
        refine step_ld rfl 22 (.tmp 2) rfl (load_arr arr32P rfl (i32p y HL.out) H.k) ?_
        exact hK.out _ _ ⟨v7, v8, _, v23, v24, v25, v26, v27, rfl, H.s0 rfl⟩
      · rintro L a W ⟨v7, v8, v22, v23, v24, v25, v26, v27, rfl, H⟩ hLi hd K0 hK
        simp only [mkB]
        go_simp
        exact hK.out _ _ ⟨v7, v8, v22, _, v24, v25, v26, v27, rfl, H.s1 rfl⟩
      · rintro L a W ⟨v7, v8, v22, v23, v24, v25, v26, v27, rfl, H⟩ hLi hd K0 hK
        obtain rfl := H.f0 (hd ⟨0, .data⟩ (by simp) rfl)
        obtain rfl := H.f1 (hd ⟨1, .data⟩ (by simp) rfl)
        simp only [mkB]
        go_simp
        refine (PK.out W (HS.out.below H.b)).mono ?_
        rintro e W' ⟨rfl, hb⟩
        exact hK.out _ _ ⟨v7, v8, _, _, _, v25, v26, v27, rfl, (H.ext hb).s2 rfl⟩
      · rintro L a W ⟨v7, v8, v22, v23, v24, v25, v26, v27, rfl, H⟩ hLi hd K0 hK
        refine step_ld rfl 22 (.tmp 5) rfl (load_arr arr32P rfl (i32p P LP.out) H.p) ?_
        exact hK.out _ _ ⟨v7, v8, v22, v23, v24, _, v26, v27, rfl, H.s3 rfl⟩
      · rintro L a W ⟨v7, v8, v22, v23, v24, v25, v26, v27, rfl, H⟩ hLi hd K0 hK
        simp only [mkB]
        go_simp
        exact hK.out _ _ ⟨v7, v8, v22, v23, v24, v25, _, v27, rfl, H.s4 rfl⟩
      · rintro L a W ⟨v7, v8, v22, v23, v24, v25, v26, v27, rfl, H⟩ hLi hd K0 hK
        obtain rfl := H.f3 (hd ⟨3, .data⟩ (by simp) rfl)
        obtain rfl := H.f4 (hd ⟨4, .data⟩ (by simp) rfl)
        simp only [mkB]
        go_simp
        refine (PP.out W (HS.out.below H.b)).mono ?_
        rintro e W' ⟨rfl, hb⟩
        exact hK.out _ _ ⟨v7, v8, v22, v23, v24, _, _, _, rfl, (H.ext hb).s5 rfl⟩
      · rintro L a W ⟨v7, v8, v22, v23, v24, v25, v26, v27, rfl, H⟩ hLi hd K0 hK
        simp only [mkB]
        go_simp
        refine hK.out _ _ ⟨_, v8, v22, v23, v24, v25, v26, v27, rfl, (H.ext ((Below.refl _ W).alloc (Nat.le_refl _) _)).s6 ⟨W.heap.size, Z, rfl, lt_of_heap H.p, heap_alloc_new' W _, LZ.out, fun h => ?_⟩ fun h6 => ?_⟩
        · rw [H.d8 h] at hLi; cases hLi
        · obtain ⟨g3, Y3, rfl, _, h3, _⟩ := H.f7 h6
          exact ptr_ne (by have := lt_of_heap h3; omega)
      · rintro L a W ⟨v7, v8, v22, v23, v24, v25, v26, v27, rfl, H⟩ hLi hd K0 hK
        simp only [mkB]
        go_simp
        refine hK.out _ _ ⟨v7, _, v22, v23, v24, v25, v26, v27, rfl, (H.ext ((Below.refl _ W).alloc (Nat.le_refl _) _)).s7 ⟨W.heap.size, Z, rfl, lt_of_heap H.p, heap_alloc_new' W _, LZ.out, fun h => ?_⟩ fun h5 => ?_⟩
        · rw [H.d9 h] at hLi; cases hLi
        · obtain ⟨g2, Y2, rfl, _, h2, _⟩ := H.f6 h5
          exact ptr_ne (by have := lt_of_heap h2; omega)
      · rintro L a W ⟨v7, v8, v22, v23, v24, v25, v26, v27, rfl, H⟩ hLi hd K0 hK
        have d2 := hd ⟨2, .data⟩ (by simp) rfl
        have d6 := hd ⟨6, .data⟩ (by simp) rfl
        have d7 := hd ⟨7, .phase⟩ (by simp) rfl
        obtain rfl := H.f2 d2
        have hne := H.fd d6 d7
        obtain ⟨g2, Y2, rfl, hq2, h2, l2, _⟩ := H.f6 d6
        obtain ⟨g3, Y3, rfl, hq3, h3, l3, e3⟩ := H.f7 d7
        have hn : g3 ≠ g2 := fun e => hne (by rw [e])
        refine step_st1 rfl 24 (.tmp 7) (.tmp 24) rfl (store_arr (cs := S.map bv) (i16p S LS.out) (bv_one _) h2 (by rw [List.length_map, LS.out]; exact l2)) ?_
        generalize hV : World.setRow _ _ _ = W'
        exact hK.out _ _ ⟨_, _, v22, v23, _, v25, v26, v27, rfl, ⟨H.b.trans (below_of_setRow hV (by omega) H.b.size), heap_of_other hV (by omega) H.k, heap_of_other hV (by omega) H.p, fun h => H.f0 h, fun h => H.f1 h, fun h => rfl, fun h => H.f3 h, fun h => H.f4 h, fun h => H.f5 h, fun h => ⟨g2, S.map bv, rfl, hq2, heap_of_setRow hV h2, by rw [List.length_map, LS.out], fun _ => rfl⟩, fun h => ⟨g3, Y3, rfl, hq3, heap_of_other hV hn h3, l3, e3⟩, fun _ _ => hne, fun _ => d6, fun _ => d7⟩⟩
      · rintro L a W ⟨v7, v8, v22, v23, v24, v25, v26, v27, rfl, H⟩ hLi hd K0 hK
        have d5 := hd ⟨5, .data⟩ (by simp) rfl
        have d7 := hd ⟨7, .data⟩ (by simp) rfl
        have d6 := hd ⟨6, .phase⟩ (by simp) rfl
        obtain rfl := H.f5 d5
        have hne := H.fd d6 d7
        obtain ⟨g2, Y2, rfl, hq2, h2, l2, e2⟩ := H.f6 d6
        obtain ⟨g3, Y3, rfl, hq3, h3, l3, _⟩ := H.f7 d7
        have hn : g2 ≠ g3 := fun e => hne (by rw [e])
        refine step_st1 rfl 24 (.tmp 8) (.tmp 27) rfl (store_arr (cs := T.map bv) (i16p T LT.out) (bv_one _) h3 (by rw [List.length_map, LT.out]; exact l3)) ?_
        generalize hV : World.setRow _ _ _ = W'
        exact hK.out _ _ ⟨_, _, v22, v23, v24, v25, v26, _, rfl, ⟨H.b.trans (below_of_setRow hV (by omega) H.b.size), heap_of_other hV (by omega) H.k, heap_of_other hV (by omega) H.p, fun h => H.f0 h, fun h => H.f1 h, fun h => H.f2 h, fun h => H.f3 h, fun h => H.f4 h, fun h => rfl, fun h => ⟨g2, Y2, rfl, hq2, heap_of_other hV hn h2, l2, e2⟩, fun h => ⟨g3, T.map bv, rfl, hq3, heap_of_setRow hV h3, by rw [List.length_map, LT.out], fun _ => rfl⟩, fun _ _ => hne, fun _ => d6, fun _ => d7⟩⟩
      · rintro L a W hL ⟨v7, v8, v22, v23, v24, v25, v26, v27, rfl, H⟩
        obtain ⟨g7, Y2, rfl, hq2, h2, l2, e2⟩ := H.f6 (hL 6)
        obtain ⟨g8, Y3, rfl, hq3, h3, l3, e3⟩ := H.f7 (hL 7)
        obtain rfl := e2 (hL 8)
        obtain rfl := e3 (hL 9)
        have H7 := Lib.hid h2; have H8 := Lib.hid h3; have HBW := Lib.hid H.b; have HKW := Lib.hid H.k
        clear h2 h3 H hL l2 l3 e2 e3 hq2 hq3
        simp only [mkB]
        go_wp2_with fail
        go_loopw [9, 10] (fun vc vi wr => ∃ (i cc : Nat), i ≤ 16 ∧ vi = .int .i64 (i : Int) ∧ vc = .int .i64 (cc : Int) ∧ Hid (cc = (ll % 256 ^ i + ss % 256 ^ i) / 256 ^ i) ∧ Hid (Below w.heap.size w wr) ∧ Hid (wr.heap[w.heap.size]? = some (.cells (y.map bv).toArray 22 (0, 0))) ∧
            Hid (wr.heap[g7]? = some (.cells (S.map bv).toArray 24 (0, 0))) ∧ Hid (wr.heap[g8]? = some (.cells (T.map bv).toArray 24 (0, 0)))) (fun _ i _ => 16 - (intOf i).toNat)
        case atStart => exact ⟨0, 0, by omega, rfl, rfl, by show _ = _; simp [Nat.mod_one], HBW, HKW, H7, H8⟩
        case round =>
          clear HBW HKW H7 H8
          obtain ⟨i, cc, hi, rfl, rfl, HCC, HB, H0, H7, H8⟩ := hrel
          by_cases hlt : i < 16
          · have e1 : (i : Int) < 16 := by omega
            obtain ⟨sm1, sm2, sm3⟩ := shift_math ll ss (256 ^ i) (Nat.pow_pos (by decide))
            rw [← HCC.out] at sm1 sm2 sm3
            rw [← Nat.pow_succ] at sm2
            have c8 := bcell (w := wr.drew) H8.out i (by rw [LT.out]; exact hlt)
            have c0 := bcell (w := wr.drew) H0.out (16 + i) (by rw [HL.out]; omega)
            have c7 := bcell (w := wr.drew) H7.out i (by rw [LS.out]; exact hlt)
            rw [GT.out i hlt] at c8
            rw [HKB.out i hlt] at c0
            rw [GS.out i hlt] at c7
            have n1 := byteAt_nat ll i
            have n2 := byteAt_nat ss i
            have n3 := byteAt_nat (ll + ss) i
            rw [← n1, ← n2] at sm1 sm2
            rw [← n3] at sm1
            generalize byteAt ll i = t at c8 sm1 sm2 n1
            generalize byteAt ss i = k at c0 sm1 sm2 n2
            generalize byteAt (ll + ss) i = z at c7 sm1 n3
            have ht := t.toNat_lt
            have hkk := k.toNat_lt
            have hzz := z.toNat_lt
            obtain ⟨p, hp⟩ : ∃ p, p = 16 + i := ⟨_, rfl⟩
            rw [← hp] at c0
            obtain ⟨aa, haa⟩ : ∃ a, a = t.toNat + k.toNat := ⟨_, rfl⟩
            obtain ⟨nn, hnn⟩ : ∃ a, a = aa + cc := ⟨_, rfl⟩
            rw [← haa, ← hnn] at sm1 sm2
            have hnl : nn < 1000 := by omega
            obtain ⟨cn, hcn⟩ : ∃ a, a = nn / 256 := ⟨_, rfl⟩
            rw [← hcn] at sm2
            have HCN : Hid (cn = (ll % 256 ^ (i + 1) + ss % 256 ^ (i + 1)) / 256 ^ (i + 1)) := sm2.symm
            have w0 : IntKind.i64.wrap (16 + (i : Int)) = (p : Int) := by rw [IntKind.wrap_i64]; omega
            have w1 : IntKind.i64.wrap (t.toNat : Int) = (t.toNat : Int) := by rw [IntKind.wrap_i64]; omega
            have w2 : IntKind.i64.wrap (k.toNat : Int) = (k.toNat : Int) := by rw [IntKind.wrap_i64]; omega
            have w3 : IntKind.i64.wrap ((t.toNat : Int) + (k.toNat : Int)) = (aa : Int) := by rw [IntKind.wrap_i64]; omega
            have w4 : IntKind.i64.wrap ((aa : Int) + (cc : Int)) = (nn : Int) := by rw [IntKind.wrap_i64]; omega
            have x1 : (nn : Int) % 256 = (z.toNat : Int) := by omega
            have x2 : (z.toNat : Int) % 256 = (z.toNat : Int) := by omega
            have x3 : (nn : Int) / 256 = (cn : Int) := by omega
            have x4 : ((z.toNat : Int) != (z.toNat : Int)) = false := by simp
            have e3 : (p : Int) < 32 := by omega
            have C8 := Lib.hid c8; have C0 := Lib.hid c0; have C7 := Lib.hid c7
            have HW0 := Lib.hid w0; have HW1 := Lib.hid w1; have HW2 := Lib.hid w2; have HW3 := Lib.hid w3; have HW4 := Lib.hid w4
            clear c8 c0 c7 n1 n2 n3 sm1 sm2 sm3 hp haa hnn hcn HCC ht hkk hzz w0 w1 w2 w3 w4
            go_wp2_with fail
            have w0 := HW0.out; have w1 := HW1.out; have w2 := HW2.out; have w3 := HW3.out; have w4 := HW4.out
            have HX : Hid (Ext wr.drew wr.drew) := Ext.refl _
            refine reg_start (by kernel_rfl) ?_
            try simp only [Act.put, List.setIfInBounds_toArray, List.set_cons_zero, List.set_cons_succ]
            refine reg_take (v := ?_) 0 (some 32) rfl rfl (by kernel_rfl) (by kernel_rfl) (by kernel_rfl) (fun _ _ _ h => h) (by rfl) (fun W hW => ?_) ?_
            rotate_left
            · (go_simp; try rfl)
            simp only [Act.put, List.setIfInBounds_toArray, List.set_cons_zero, List.set_cons_succ]
            refine reg_take (v := ?_) 1 (some 33) rfl rfl (by kernel_rfl) (by kernel_rfl) (by kernel_rfl) (fun _ _ _ h => h) (by rfl) (fun W hW => ?_) ?_
            rotate_left
            · (go_simp; try rfl)
            simp only [Act.put, List.setIfInBounds_toArray, List.set_cons_zero, List.set_cons_succ]
            refine reg_load 2 (some 34) (fun W hW => load_cell Try.underlying5 ((hW.cell (lt_of_heap (w := wr.drew) H8.out)).trans C8.out)) rfl rfl rfl rfl (by kernel_rfl) (by kernel_rfl) (by kernel_rfl) (fun _ _ _ h => h) (by rfl) ?_
            simp only [Act.put, List.setIfInBounds_toArray, List.set_cons_zero, List.set_cons_succ]
            refine reg_take (v := ?_) 3 (some 35) rfl rfl (by kernel_rfl) (by kernel_rfl) (by kernel_rfl) (fun _ _ _ h => h) (by rfl) (fun W hW => ?_) ?_
            rotate_left
            · (go_simp; try rfl)
            simp only [Act.put, List.setIfInBounds_toArray, List.set_cons_zero, List.set_cons_succ]
            refine reg_take (v := ?_) 4 (some 36) rfl rfl (by kernel_rfl) (by kernel_rfl) (by kernel_rfl) (fun _ _ _ h => h) (by rfl) (fun W hW => ?_) ?_
            rotate_left
            · (go_simp; try rfl)
            simp only [Act.put, List.setIfInBounds_toArray, List.set_cons_zero, List.set_cons_succ]
            refine reg_take (v := ?_) 5 (some 37) rfl rfl (by kernel_rfl) (by kernel_rfl) (by kernel_rfl) (fun _ _ _ h => h) (by rfl) (fun W hW => ?_) ?_
            rotate_left
            · (go_simp; try rfl)
            simp only [Act.put, List.setIfInBounds_toArray, List.set_cons_zero, List.set_cons_succ]
            refine reg_take (v := ?_) 6 (some 38) rfl rfl (by kernel_rfl) (by kernel_rfl) (by kernel_rfl) (fun _ _ _ h => h) (by rfl) (fun W hW => ?_) ?_
            rotate_left
            · (go_simp; try rfl)
            simp only [Act.put, List.setIfInBounds_toArray, List.set_cons_zero, List.set_cons_succ]
            refine reg_load 7 (some 39) (fun W hW => load_cell Try.underlying5 ((hW.cell (lt_of_heap (w := wr.drew) H0.out)).trans C0.out)) rfl rfl rfl rfl (by kernel_rfl) (by kernel_rfl) (by kernel_rfl) (fun _ _ _ h => h) (by rfl) ?_
            simp only [Act.put, List.setIfInBounds_toArray, List.set_cons_zero, List.set_cons_succ]
            refine reg_take (v := ?_) 8 (some 40) rfl rfl (by kernel_rfl) (by kernel_rfl) (by kernel_rfl) (fun _ _ _ h => h) (by rfl) (fun W hW => ?_) ?_
            rotate_left
            · (go_simp; try rfl)
            simp only [Act.put, List.setIfInBounds_toArray, List.set_cons_zero, List.set_cons_succ]
            refine reg_take (v := ?_) 9 (some 41) rfl rfl (by kernel_rfl) (by kernel_rfl) (by kernel_rfl) (fun _ _ _ h => h) (by rfl) (fun W hW => ?_) ?_
            rotate_left
            · (go_simp; try rfl)
            simp only [Act.put, List.setIfInBounds_toArray, List.set_cons_zero, List.set_cons_succ]
            refine reg_take (v := ?_) 10 (some 42) rfl rfl (by kernel_rfl) (by kernel_rfl) (by kernel_rfl) (fun _ _ _ h => h) (by rfl) (fun W hW => ?_) ?_
            rotate_left
            · (go_simp; try rfl)
            simp only [Act.put, List.setIfInBounds_toArray, List.set_cons_zero, List.set_cons_succ]
            refine reg_take (v := ?_) 11 (some 43) rfl rfl (by kernel_rfl) (by kernel_rfl) (by kernel_rfl) (fun _ _ _ h => h) (by rfl) (fun W hW => ?_) ?_
            rotate_left
            · (go_simp; try rfl)
            simp only [Act.put, List.setIfInBounds_toArray, List.set_cons_zero, List.set_cons_succ]
            refine reg_take (v := ?_) 12 (some 11) rfl rfl (by kernel_rfl) (by kernel_rfl) (by kernel_rfl) (fun _ _ _ h => h) (by rfl) (fun W hW => ?_) ?_
            rotate_left
            · (go_simp; try rfl)
            simp only [Act.put, List.setIfInBounds_toArray, List.set_cons_zero, List.set_cons_succ]
            refine reg_done (by kernel_rfl) ?_
            clear w0 w1 w2 w3 w4 HX
            have c7 := C7.out
            go_wp2
            go_roundw
            case rel => exact ⟨i + 1, cn, by omega, by go_num, rfl, HCN, HB.out.drew, H0.out, H7.out, H8.out⟩
            case measure => simp [intOf]; omega
          · have e1 : ¬ ((i : Int) < 16) := by omega
            go_wp2_with fail
            refine (pawake_any _).mono ?_
            rintro e w4 ⟨rfl, hb⟩
            have HB4 := Lib.hid (HB.out.step hb)
            clear hb
            go_wp2
            go_ret
            exact ⟨rfl, HB4.out⟩
end Go.Proofs.Ytebkkkjedkpgbaa
