/- cbc.blocks: the iterator's contract. -/
import Derived.RangeFuncNested
import Derived.RangeFuncBound
import Derived.RangeFuncCalls
import Derived.RangeFuncLeaves
import Derived.Shelf.Abstract
import Derived.Shelf.RegionOpen
import Derived.WalkKit
import Derived.OwnWalkIn
import Derived.TacticsInMore
import Derived.LoopNIn
import Derived.LoopIn
import Derived.RangeFuncBox
import Derived.Test.YtfcnahbbieldfaaCbc2
namespace Go.Proofs.Ytfcnahbbieldfaa
open Go.RowKit Go.Shelf
set_option linter.unusedVariables false
set_option linter.unusedSimpArgs false
set_option maxRecDepth 100000
attribute [local go_sem] Oper.semAt_some
/-- a load in a round, by its run -/
theorem wpListIn_ld {P : Program} {F : Fence} {nF : Nat} {w : World} {ops : Array Oper} {rest : List Oper} {o : Oper} {a : Act} {Q : Exit → Act → World → Prop} (hg : o.guard = none) (ty : TypeId) (x : Operand) (ho : o.op = .load ty x) {p v : Value} (hx : a.eval x = p)
    (hrun : (Instr.loadAt ty p).run P w = .ok v w) (h : wpListIn F nF P ops Q rest (a.put o.dst v) w) : wpListIn F nF P ops Q (o :: rest) a w := by
  refine wpListIn_plain hg fun K' hK' => ?_
  unfold Oper.wpIn
  refine ⟨by simp [Oper.about, ho], ?_⟩
  rw [Oper.semAt_plain F _ _ (by rw [ho]; intro c hc'; cases hc')]
  unfold execOp
  simp only [ho, hx, Sem.run_bind, hrun, Result.andThen_ok]
  exact hK' _ _ h
/-- a block: 16 bytes -/
abbrev Blk := { l : List UInt8 // l.length = 16 }
def blkAt (bs : List UInt8) (k : Nat) : Blk := ⟨(List.range 16).map (fun j => bs.getD (16 * k + j) 0), by simp⟩
def blkUp (bs : List UInt8) (k : Nat) : List Blk := (List.range k).map (blkAt bs)
theorem blkUp_succ (bs : List UInt8) (k : Nat) : blkUp bs (k + 1) = blkUp bs k ++ [blkAt bs k] := by simp [blkUp, List.range_succ]
theorem blkUp_len (bs : List UInt8) (k : Nat) : (blkUp bs k).length = k := by simp [blkUp]
theorem blk_range {w : World} {b off len k : Nat} {bs : List UInt8} (hc : ∀ j, j < len → w.cell? ⟨b, off + j, none⟩ = some (.int .u8 ((bs.getD j 0).toNat : Int))) (hk : 16 * k + 16 ≤ len) : w.rangeAt b (off + 16 * k) ((blkAt bs k).1.map bv) := fun j v hv => by
  have hj : j < 16 := by
    have := (List.getElem?_eq_some_iff.1 hv).1
    simpa [blkAt] using this
  have hv' : v = bv (bs.getD (16 * k + j) 0) := by
    simp only [blkAt, List.map_map, List.getElem?_map, List.getElem?_range hj, Option.map_some, Function.comp, Option.some.injEq] at hv
    exact hv.symm
  rw [hv', Nat.add_assoc]
  exact hc _ (by omega)
theorem cut16 (b off n c p : Nat) (hp : p + 16 ≤ n) (hn : n ≤ c) (W : World) :
    (Instr.sliceAt 26 (.slice (some ⟨b, off, none⟩) n c) (some (.int .i64 (p : Int))) (some (.int .i64 ((p : Int) + 16))) none).run Try.prog W = .ok (.slice (some ⟨b, off + p, none⟩) 16 (c - p)) W := by
  have h := cut_mid (P := Try.prog) uT s8 (some ⟨b, off, none⟩) n c .i64 .i64 (p : Int) ((p : Int) + 16) (by omega) (by omega) (by omega) W
  rw [h, Int.toNat_natCast, show ((p : Int) + 16).toNat - p = 16 by omega, cutS, if_neg (by omega)]
  simp [Addr.add_mid]
/-- what a round that goes on keeps: all that lay below n₀, and the iterator's own box -/
def KpB (n₀ Bs : Nat) (W W' : World) : Prop := Below n₀ W W' ∧ W'.cell? ⟨Bs, 0, none⟩ = W.cell? ⟨Bs, 0, none⟩
theorem KpB.refl (n₀ Bs : Nat) (W : World) : KpB n₀ Bs W W := ⟨Below.refl _ _, rfl⟩
theorem KpB.trans {n₀ Bs : Nat} {A B C : World} (h : KpB n₀ Bs A B) (h' : KpB n₀ Bs B C) : KpB n₀ Bs A C := ⟨h.1.trans h'.1, h'.2.trans h.2⟩
set_option maxHeartbeats 2000000 in
/-- the closure: for i := range len(b) / 16 { if !yield(block) { return } } -/
theorem blocks1_in (F : Fence) (n : Nat) (hf : F.fn 51) (hro : F.round = none) (hn : 1 ≤ n) (l Bs n₀ b off len cap m : Nat) (bs : List UInt8) (hm : m = len / 16) (h31 : len ≤ 2147483647) (hcap : len ≤ cap) (hb : b < n₀) (J Jx : List Blk → World → Prop)
    (hY : ∀ pre (x : Blk) W, J pre W → pre.length < m → YieldAt F (n - 1) Try.prog l #[.agg (x.1.map bv).toArray] W fun e W' =>
      (e = .returned (.bool true) ∧ J (pre ++ [x]) W' ∧ KpB n₀ Bs W W') ∨ (e = .returned (.bool false) ∧ Jx (pre ++ [x]) W'))
    (W : World) (hBs : W.cell? ⟨Bs, 0, none⟩ = some (.slice (some ⟨b, off, none⟩) len cap)) (hc : ∀ j, j < len → W.cell? ⟨b, off + j, none⟩ = some (.int .u8 ((bs.getD j 0).toNat : Int))) (h0 : J [] W) :
    CallsIn F n Try.prog 51 #[.func (.yield l) #[] #[], .pointer (some ⟨Bs, 0, none⟩)] W fun e W' => (∃ v, e = .returned v) ∧
      ((∃ ys, ys = blkUp bs m ∧ J ys W') ∨ (∃ pre, (∃ k, k ≤ m ∧ pre = blkUp bs k) ∧ Jx pre W')) := by
  have e1 : (len : Int) / 16 = (m : Int) := by omega
  have HC := Lib.hid hc
  have HM : Hid (16 * m ≤ len) := by show _ ≤ _; omega
  clear hc hm
  refine callsIn_of_wp Try.func51 rfl hf ?_ hro
  simp only [Try.ntmps51, List.size_toArray, List.length_cons, List.length_nil, Nat.reduceAdd, Nat.reduceSub, Array.replicate_succ, Array.replicate_zero, List.push_toArray, List.append_toArray, List.nil_append, List.cons_append]
  gi_wp2
  gi_loopw [7] (fun i wr => ∃ k : Nat, k ≤ m ∧ i = .int .i64 (k : Int) ∧ J (blkUp bs k) wr ∧ KpB n₀ Bs W wr)
    (fun i _ => m - (intOf i).toNat)
  case atStart => exact ⟨0, Nat.zero_le _, rfl, h0, KpB.refl _ _ _⟩
  case round =>
    obtain ⟨k, hk, rfl, hJs, hnx⟩ := hrel
    have hbx := hnx.2.trans hBs
    by_cases hlt : k < m
    · have q1 : (k : Int) < (m : Int) := by omega
      have hr := blk_range (w := wr) (k := k) (fun j hj => (hnx.1.cell (p := ⟨b, off + j, none⟩) hb).trans (HC.out j hj)) (by have := HM.out; omega)
      have hld := run_loadAt_mid wr b (off + 16 * k) 23 _ _ hr arr16B rfl (i16z _ (blkAt bs k).2)
      obtain ⟨fn, tmps, assign, body, hy, hR⟩ := hY _ (blkAt bs k) wr hJs (by rw [blkUp_len]; exact hlt)
      have HS := Lib.hid (blkUp_succ bs k)
      generalize blkAt bs k = x at hld hy hR HS
      obtain ⟨p, hp⟩ : ∃ p, p = 16 * k := ⟨_, rfl⟩
      have u1 : 16 * (k : Int) = (p : Int) := by omega
      have sl := cut16 b off len cap p (by have := HM.out; omega) hcap
      have ap := arr_ptr16 (some ⟨b, off + p, none⟩) 16 (cap - p) (Nat.le_refl _)
      have hp31 : (p : Int) + 16 ≤ 2147483647 := by have := HM.out; omega
      rw [← hp] at hld
      clear hr hp
      generalize (x.1.map bv).toArray = V at hld hy
      clear hY h0 hBs
      gi_wp2_with (refine wpListIn_ld rfl 23 (.tmp 18) rfl rfl hld ?_)
      clear hld
      gi_wp2
      refine hR.mono ?_
      rintro e W3 (⟨rfl, hJ3, hk3⟩ | ⟨rfl, hJx3⟩)
      · gi_wp2
        go_roundw
        case rel => exact ⟨k + 1, by omega, by go_num, by rw [HS.out]; exact hJ3, hnx.trans hk3⟩
        case measure => simp [intOf]; omega
      · gi_wp2
        refine bodyPost_ret (results_none rfl _ _ _) rfl ?_
        exact ⟨⟨_, rfl⟩, .inr ⟨_, ⟨k + 1, by omega, HS.out.symm⟩, hJx3⟩⟩
    · obtain rfl : k = m := by omega
      have q1 : ¬ ((k : Int) < (k : Int)) := by omega
      gi_wp2
      go_end0
      exact ⟨⟨_, rfl⟩, .inl hJs⟩
end Go.Proofs.Ytfcnahbbieldfaa
