/- The law's example (layer 5): awake. -/
import Derived.Test.YtebkkkjedkpgbaaPoly10
namespace Go.Proofs.Ytebkkkjedkpgbaa
open Go.RowKit
set_option linter.unusedVariables false
set_option linter.unusedSimpArgs false
/-- a block of 16 bytes behind q; once it is stored into it holds X -/
def CellP (q : Nat) (W : World) (v : Value) (X : List Value) (b : Bool) : Prop := ∃ (g : Nat) (Y : List Value), v = .pointer (some ⟨g, 0, none⟩) ∧ q < g ∧ W.heap[g]? = some (.cells Y.toArray 24 (0, 0)) ∧ Y.length = 16 ∧ (b = true → Y = X)
def SlOne (W : World) (v : Value) (bs : List UInt8) : Prop := ∃ g, v = .slice (some ⟨g, 0, none⟩) 1 1 ∧ W.heap[g]? = some (.cells (bs.map bv).toArray 5 (0, 0))
theorem CellP.ext {q : Nat} {W W' : World} {v : Value} {X : List Value} {b : Bool} (h : CellP q W v X b) (hE : Ext W W') : CellP q W' v X b := by
  obtain ⟨g, Y, h1, h2, h3, h4⟩ := h
  exact ⟨g, Y, h1, h2, (hE.block _ (lt_of_heap h3)).trans h3, h4⟩
theorem SlOne.ext {W W' : World} {v : Value} {bs : List UInt8} (h : SlOne W v bs) (hE : Ext W W') : SlOne W' v bs := by
  obtain ⟨g, h1, h2⟩ := h
  exact ⟨g, h1, (hE.block _ (lt_of_heap h2)).trans h2⟩
/-- what holds in the region of awake, whichever operations have come up -/
structure AJ (w : World) (q : Nat) (K S1 S2 : List UInt8) (L : Nat → Bool) (v2 v3 v6 v7 v8 v9 v10 : Value) (W : World) : Prop where
  b : Below w.heap.size w W
  k : W.heap[q]? = some (.cells (K.map bv).toArray 22 (0, 0))
  f0 : L 0 = true → v6 = .agg (K.map bv).toArray
  f1 : L 1 = true → v7 = .agg (S1.map bv).toArray
  f2 : L 2 = true → v8 = .agg (K.map bv).toArray
  f3 : L 3 = true → L 4 = false → SlOne W v9 [3]
  f4 : L 4 = true → v10 = .agg (S2.map bv).toArray
  f5 : L 5 = true → CellP q W v2 (S1.map bv) (L 7)
  f6 : L 6 = true → CellP q W v3 (S2.map bv) (L 8)
  fd : L 5 = true → L 6 = true → v2 ≠ v3
  d7 : L 7 = true → L 5 = true
  d8 : L 8 = true → L 6 = true
theorem AJ.ext {w : World} {q : Nat} {K S1 S2 : List UInt8} {L : Nat → Bool} {v2 v3 v6 v7 v8 v9 v10 : Value} {W W' : World} (h : AJ w q K S1 S2 L v2 v3 v6 v7 v8 v9 v10 W) (hE : Ext W W') : AJ w q K S1 S2 L v2 v3 v6 v7 v8 v9 v10 W' :=
  ⟨h.b.step hE, (hE.block _ (lt_of_heap h.k)).trans h.k, h.f0, h.f1, h.f2, fun a b => (h.f3 a b).ext hE, h.f4, fun a => (h.f5 a).ext hE, fun a => (h.f6 a).ext hE, h.fd, h.d7, h.d8⟩
def up (L : Nat → Bool) (i : Nat) : Nat → Bool := fun j => if j = i then true else L j
theorem up_ne (L : Nat → Bool) {i j : Nat} (h : j ≠ i) : up L i j = L j := if_neg h
theorem up_same (L : Nat → Bool) (i : Nat) : up L i i = true := if_pos rfl
theorem AJ.s0 {w : World} {q : Nat} {K S1 S2 : List UInt8} {L : Nat → Bool} {v2 v3 v6 v7 v8 v9 v10 x : Value} {W : World} (H : AJ w q K S1 S2 L v2 v3 v6 v7 v8 v9 v10 W) (hv : x = .agg (K.map bv).toArray) : AJ w q K S1 S2 (up L 0) v2 v3 x v7 v8 v9 v10 W :=
  ⟨H.b, H.k, fun _ => hv, fun h => H.f1 ((up_ne L (by decide : (1 : Nat) ≠ 0)) ▸ h), fun h => H.f2 ((up_ne L (by decide : (2 : Nat) ≠ 0)) ▸ h), fun h h4 => H.f3 ((up_ne L (by decide : (3 : Nat) ≠ 0)) ▸ h) ((up_ne L (by decide : (4 : Nat) ≠ 0)) ▸ h4), fun h => H.f4 ((up_ne L (by decide : (4 : Nat) ≠ 0)) ▸ h), fun h => by rw [up_ne L (by decide : (7 : Nat) ≠ 0)]; exact H.f5 ((up_ne L (by decide : (5 : Nat) ≠ 0)) ▸ h), fun h => by rw [up_ne L (by decide : (8 : Nat) ≠ 0)]; exact H.f6 ((up_ne L (by decide : (6 : Nat) ≠ 0)) ▸ h), fun h5 h6 => H.fd ((up_ne L (by decide : (5 : Nat) ≠ 0)) ▸ h5) ((up_ne L (by decide : (6 : Nat) ≠ 0)) ▸ h6), fun h => (up_ne L (by decide : (5 : Nat) ≠ 0)).symm ▸ H.d7 ((up_ne L (by decide : (7 : Nat) ≠ 0)) ▸ h), fun h => (up_ne L (by decide : (6 : Nat) ≠ 0)).symm ▸ H.d8 ((up_ne L (by decide : (8 : Nat) ≠ 0)) ▸ h)⟩
theorem AJ.s1 {w : World} {q : Nat} {K S1 S2 : List UInt8} {L : Nat → Bool} {v2 v3 v6 v7 v8 v9 v10 x : Value} {W : World} (H : AJ w q K S1 S2 L v2 v3 v6 v7 v8 v9 v10 W) (hv : x = .agg (S1.map bv).toArray) : AJ w q K S1 S2 (up L 1) v2 v3 v6 x v8 v9 v10 W :=
  ⟨H.b, H.k, fun h => H.f0 ((up_ne L (by decide : (0 : Nat) ≠ 1)) ▸ h), fun _ => hv, fun h => H.f2 ((up_ne L (by decide : (2 : Nat) ≠ 1)) ▸ h), fun h h4 => H.f3 ((up_ne L (by decide : (3 : Nat) ≠ 1)) ▸ h) ((up_ne L (by decide : (4 : Nat) ≠ 1)) ▸ h4), fun h => H.f4 ((up_ne L (by decide : (4 : Nat) ≠ 1)) ▸ h), fun h => by rw [up_ne L (by decide : (7 : Nat) ≠ 1)]; exact H.f5 ((up_ne L (by decide : (5 : Nat) ≠ 1)) ▸ h), fun h => by rw [up_ne L (by decide : (8 : Nat) ≠ 1)]; exact H.f6 ((up_ne L (by decide : (6 : Nat) ≠ 1)) ▸ h), fun h5 h6 => H.fd ((up_ne L (by decide : (5 : Nat) ≠ 1)) ▸ h5) ((up_ne L (by decide : (6 : Nat) ≠ 1)) ▸ h6), fun h => (up_ne L (by decide : (5 : Nat) ≠ 1)).symm ▸ H.d7 ((up_ne L (by decide : (7 : Nat) ≠ 1)) ▸ h), fun h => (up_ne L (by decide : (6 : Nat) ≠ 1)).symm ▸ H.d8 ((up_ne L (by decide : (8 : Nat) ≠ 1)) ▸ h)⟩
theorem AJ.s2 {w : World} {q : Nat} {K S1 S2 : List UInt8} {L : Nat → Bool} {v2 v3 v6 v7 v8 v9 v10 x : Value} {W : World} (H : AJ w q K S1 S2 L v2 v3 v6 v7 v8 v9 v10 W) (hv : x = .agg (K.map bv).toArray) : AJ w q K S1 S2 (up L 2) v2 v3 v6 v7 x v9 v10 W :=
  ⟨H.b, H.k, fun h => H.f0 ((up_ne L (by decide : (0 : Nat) ≠ 2)) ▸ h), fun h => H.f1 ((up_ne L (by decide : (1 : Nat) ≠ 2)) ▸ h), fun _ => hv, fun h h4 => H.f3 ((up_ne L (by decide : (3 : Nat) ≠ 2)) ▸ h) ((up_ne L (by decide : (4 : Nat) ≠ 2)) ▸ h4), fun h => H.f4 ((up_ne L (by decide : (4 : Nat) ≠ 2)) ▸ h), fun h => by rw [up_ne L (by decide : (7 : Nat) ≠ 2)]; exact H.f5 ((up_ne L (by decide : (5 : Nat) ≠ 2)) ▸ h), fun h => by rw [up_ne L (by decide : (8 : Nat) ≠ 2)]; exact H.f6 ((up_ne L (by decide : (6 : Nat) ≠ 2)) ▸ h), fun h5 h6 => H.fd ((up_ne L (by decide : (5 : Nat) ≠ 2)) ▸ h5) ((up_ne L (by decide : (6 : Nat) ≠ 2)) ▸ h6), fun h => (up_ne L (by decide : (5 : Nat) ≠ 2)).symm ▸ H.d7 ((up_ne L (by decide : (7 : Nat) ≠ 2)) ▸ h), fun h => (up_ne L (by decide : (6 : Nat) ≠ 2)).symm ▸ H.d8 ((up_ne L (by decide : (8 : Nat) ≠ 2)) ▸ h)⟩
theorem AJ.s3 {w : World} {q : Nat} {K S1 S2 : List UInt8} {L : Nat → Bool} {v2 v3 v6 v7 v8 v9 v10 x : Value} {W : World} (H : AJ w q K S1 S2 L v2 v3 v6 v7 v8 v9 v10 W) (hv : SlOne W x [3]) : AJ w q K S1 S2 (up L 3) v2 v3 v6 v7 v8 x v10 W :=
  ⟨H.b, H.k, fun h => H.f0 ((up_ne L (by decide : (0 : Nat) ≠ 3)) ▸ h), fun h => H.f1 ((up_ne L (by decide : (1 : Nat) ≠ 3)) ▸ h), fun h => H.f2 ((up_ne L (by decide : (2 : Nat) ≠ 3)) ▸ h), fun _ _ => hv, fun h => H.f4 ((up_ne L (by decide : (4 : Nat) ≠ 3)) ▸ h), fun h => by rw [up_ne L (by decide : (7 : Nat) ≠ 3)]; exact H.f5 ((up_ne L (by decide : (5 : Nat) ≠ 3)) ▸ h), fun h => by rw [up_ne L (by decide : (8 : Nat) ≠ 3)]; exact H.f6 ((up_ne L (by decide : (6 : Nat) ≠ 3)) ▸ h), fun h5 h6 => H.fd ((up_ne L (by decide : (5 : Nat) ≠ 3)) ▸ h5) ((up_ne L (by decide : (6 : Nat) ≠ 3)) ▸ h6), fun h => (up_ne L (by decide : (5 : Nat) ≠ 3)).symm ▸ H.d7 ((up_ne L (by decide : (7 : Nat) ≠ 3)) ▸ h), fun h => (up_ne L (by decide : (6 : Nat) ≠ 3)).symm ▸ H.d8 ((up_ne L (by decide : (8 : Nat) ≠ 3)) ▸ h)⟩
theorem AJ.s4 {w : World} {q : Nat} {K S1 S2 : List UInt8} {L : Nat → Bool} {v2 v3 v6 v7 v8 v9 v10 x : Value} {W : World} (H : AJ w q K S1 S2 L v2 v3 v6 v7 v8 v9 v10 W) (hv : x = .agg (S2.map bv).toArray) : AJ w q K S1 S2 (up L 4) v2 v3 v6 v7 v8 v9 x W :=
  ⟨H.b, H.k, fun h => H.f0 ((up_ne L (by decide : (0 : Nat) ≠ 4)) ▸ h), fun h => H.f1 ((up_ne L (by decide : (1 : Nat) ≠ 4)) ▸ h), fun h => H.f2 ((up_ne L (by decide : (2 : Nat) ≠ 4)) ▸ h), fun _ h => absurd ((up_same L 4).symm.trans h) (by decide), fun _ => hv, fun h => by rw [up_ne L (by decide : (7 : Nat) ≠ 4)]; exact H.f5 ((up_ne L (by decide : (5 : Nat) ≠ 4)) ▸ h), fun h => by rw [up_ne L (by decide : (8 : Nat) ≠ 4)]; exact H.f6 ((up_ne L (by decide : (6 : Nat) ≠ 4)) ▸ h), fun h5 h6 => H.fd ((up_ne L (by decide : (5 : Nat) ≠ 4)) ▸ h5) ((up_ne L (by decide : (6 : Nat) ≠ 4)) ▸ h6), fun h => (up_ne L (by decide : (5 : Nat) ≠ 4)).symm ▸ H.d7 ((up_ne L (by decide : (7 : Nat) ≠ 4)) ▸ h), fun h => (up_ne L (by decide : (6 : Nat) ≠ 4)).symm ▸ H.d8 ((up_ne L (by decide : (8 : Nat) ≠ 4)) ▸ h)⟩
theorem AJ.s5 {w : World} {q : Nat} {K S1 S2 : List UInt8} {L : Nat → Bool} {v2 v3 v6 v7 v8 v9 v10 x : Value} {W : World} (H : AJ w q K S1 S2 L v2 v3 v6 v7 v8 v9 v10 W) (hv : CellP q W x (S1.map bv) (L 7)) (hn : L 6 = true → x ≠ v3) : AJ w q K S1 S2 (up L 5) x v3 v6 v7 v8 v9 v10 W :=
  ⟨H.b, H.k, fun h => H.f0 ((up_ne L (by decide : (0 : Nat) ≠ 5)) ▸ h), fun h => H.f1 ((up_ne L (by decide : (1 : Nat) ≠ 5)) ▸ h), fun h => H.f2 ((up_ne L (by decide : (2 : Nat) ≠ 5)) ▸ h), fun h h4 => H.f3 ((up_ne L (by decide : (3 : Nat) ≠ 5)) ▸ h) ((up_ne L (by decide : (4 : Nat) ≠ 5)) ▸ h4), fun h => H.f4 ((up_ne L (by decide : (4 : Nat) ≠ 5)) ▸ h), fun _ => by rw [up_ne L (by decide : (7 : Nat) ≠ 5)]; exact hv, fun h => by rw [up_ne L (by decide : (8 : Nat) ≠ 5)]; exact H.f6 ((up_ne L (by decide : (6 : Nat) ≠ 5)) ▸ h), fun _ h => hn ((up_ne L (by decide : (6 : Nat) ≠ 5)) ▸ h), fun _ => up_same L 5, fun h => (up_ne L (by decide : (6 : Nat) ≠ 5)).symm ▸ H.d8 ((up_ne L (by decide : (8 : Nat) ≠ 5)) ▸ h)⟩
theorem AJ.s6 {w : World} {q : Nat} {K S1 S2 : List UInt8} {L : Nat → Bool} {v2 v3 v6 v7 v8 v9 v10 x : Value} {W : World} (H : AJ w q K S1 S2 L v2 v3 v6 v7 v8 v9 v10 W) (hv : CellP q W x (S2.map bv) (L 8)) (hn : L 5 = true → v2 ≠ x) : AJ w q K S1 S2 (up L 6) v2 x v6 v7 v8 v9 v10 W :=
  ⟨H.b, H.k, fun h => H.f0 ((up_ne L (by decide : (0 : Nat) ≠ 6)) ▸ h), fun h => H.f1 ((up_ne L (by decide : (1 : Nat) ≠ 6)) ▸ h), fun h => H.f2 ((up_ne L (by decide : (2 : Nat) ≠ 6)) ▸ h), fun h h4 => H.f3 ((up_ne L (by decide : (3 : Nat) ≠ 6)) ▸ h) ((up_ne L (by decide : (4 : Nat) ≠ 6)) ▸ h4), fun h => H.f4 ((up_ne L (by decide : (4 : Nat) ≠ 6)) ▸ h), fun h => by rw [up_ne L (by decide : (7 : Nat) ≠ 6)]; exact H.f5 ((up_ne L (by decide : (5 : Nat) ≠ 6)) ▸ h), fun _ => by rw [up_ne L (by decide : (8 : Nat) ≠ 6)]; exact hv, fun h _ => hn ((up_ne L (by decide : (5 : Nat) ≠ 6)) ▸ h), fun h => (up_ne L (by decide : (5 : Nat) ≠ 6)).symm ▸ H.d7 ((up_ne L (by decide : (7 : Nat) ≠ 6)) ▸ h), fun _ => up_same L 6⟩
def mkA (q : Nat) (v2 v3 v6 v7 v8 v9 v10 : Value) : Act := { tmps := #[.bool false, .pointer (some ⟨q, 0, none⟩), v2, v3, .pointer (some ⟨q, 0, none⟩), .pointer (some ⟨q, 16, none⟩), v6, v7, v8, v9, v10, undef, undef, undef, undef, undef, undef, undef, undef], defers := [] }
theorem ptr_ne {g g' : Nat} (h : g ≠ g') : Value.pointer (some ⟨g, 0, none⟩) ≠ .pointer (some ⟨g', 0, none⟩) := by
  intro e; injection e with e; injection e with e; injection e with e; exact h e
set_option maxHeartbeats 4000000 in
theorem pawake_any (w : World) : Calls Try.prog 13 #[] w fun e w' => e = .returned (.bool true) ∧ Below w.heap.size w w' := by
  have hz32 : ∀ W, (zeroValue 22).run Try.prog W = .ok (.agg ((List.replicate 32 (0 : UInt8)).map bv).toArray) W := fun W => by kernel_rfl
  have hz : ∀ W, (zeroValue 24).run Try.prog W = .ok (.agg zer16.toArray) W := fun W => by kernel_rfl
  have hlz : Hid (zer16.length = 16) := rfl
  have BD1 : Hid (∀ W, (Instr.build 24 #[(0, .int .u8 7)]).run Try.prog W = .ok (.agg (sumEx1.map bv).toArray) W) := fun W => by kernel_rfl
  have BD2 : Hid (∀ W, (Instr.build 24 #[(0, .int .u8 13), (1, .int .u8 2)]).run Try.prog W = .ok (.agg (sumEx2.map bv).toArray) W) := fun W => by kernel_rfl
  have hset : Hid ((((List.replicate 32 (0 : UInt8)).map bv).set 0 (.int .u8 2)).set 16 (.int .u8 7) = keyEx.map bv) := rfl
  have hc0 : Hid (((List.replicate 32 (0 : UInt8)).map bv)[0]? = some (.int .u8 0)) := rfl
  have hc16 : Hid ((((List.replicate 32 (0 : UInt8)).map bv).set 0 (.int .u8 2))[16]? = some (.int .u8 0)) := rfl
  have LK : Hid (keyEx.length = 32) := rfl
  have L1 : Hid (sumEx1.length = 16) := rfl
  have L2 : Hid (sumEx2.length = 16) := rfl
  have PA := Lib.hid (fun W => psum_any keyEx none 0 0 [] W rfl rfl (by omega) ⟨by simp, by simp [maxLen], .inl rfl⟩)
  have PB := Lib.hid (fun g W (hh : W.heap[g]? = some (.cells (([3] : List UInt8).map bv).toArray 5 (0, 0))) => psum_any keyEx (some ⟨g, 0, none⟩) 1 1 [3] W rfl rfl (by omega) (sl_row rfl (by omega) hh))
  rw [polyEx1] at PA
  rw [polyEx2] at PB
  have q1 := eql_bytes (P := Try.prog) arr16P Try.underlying5 s8 sumEx1 sumEx1 rfl rfl
  have q2 := eql_bytes (P := Try.prog) arr16P Try.underlying5 s8 sumEx2 sumEx2 rfl rfl
  rw [decide_eq_true rfl] at q1 q2
  generalize keyEx = K at hset LK PA PB
  generalize sumEx1 = S1 at BD1 L1 PA q1
  generalize sumEx2 = S2 at BD2 L2 PB q2
  generalize zer16 = Z at hz hlz
  obtain ⟨O, HO⟩ : ∃ O, Hid ((List.replicate 32 (0 : UInt8)).map bv = O) := ⟨_, rfl⟩
  rw [HO.out] at hz32 hset hc0 hc16
  clear HO
  have G := Lib.hid (heap_alloc_new' w (.cells O.toArray 22))
  have GB : Hid (Below w.heap.size w (w.alloc (.cells O.toArray 22))) := (Below.refl _ _).alloc (Nat.le_refl _) _
  go_enter Try.func13, Try.ntmps13
  go_upto_region 2 with (fail)
  generalize hV : w.alloc _ = W0 at G GB ⊢
  clear hV hz32
  obtain ⟨q, HQ⟩ : ∃ q, Hid (w.heap.size = q) := ⟨_, rfl⟩
  have GH := G.out
  rw [HQ.out] at GH ⊢
  have c0 : W0.cell? ⟨q, 0, none⟩ = some (.int .u8 0) := by rw [cell_of_heap GH]; exact hc0.out
  have f0 := frozen_of_heap GH 0
  have c16 : (W0.setCell ⟨q, 0, none⟩ (.int .u8 2)).cell? ⟨q, 16, none⟩ = some (.int .u8 0) := by rw [cell_of_heap (heap_set GH 0 (.int .u8 2))]; exact hc16.out
  have f16 := frozen_of_heap (heap_set GH 0 (.int .u8 2)) 16
  have G2 := heap_set (heap_set GH 0 (.int .u8 2)) 16 (.int .u8 7)
  rw [hset.out] at G2
  have G2 := Lib.hid G2
  have GB2 : Hid (Below w.heap.size w ((W0.setCell ⟨q, 0, none⟩ (.int .u8 2)).setCell ⟨q, 16, none⟩ (.int .u8 7))) := (GB.out.setCell (by show _ ≤ q; exact Nat.le_of_eq HQ.out) _).setCell (by show _ ≤ q; exact Nat.le_of_eq HQ.out) _
  clear GH
  go_upto_region 3 with (fail)
  generalize hV : (W0.setCell _ _).setCell _ _ = W2 at G2 GB2 ⊢
  clear hV c0 f0 c16 f16 G GB
  refine reg_inv (fun L a W => ∃ v2 v3 v6 v7 v8 v9 v10, a = mkA q v2 v3 v6 v7 v8 v9 v10 ∧ AJ w q K S1 S2 L v2 v3 v6 v7 v8 v9 v10 W) (by kernel_rfl) (by kernel_rfl) ?_
    (And.intro ?_ (And.intro ?_ (And.intro ?_ (And.intro ?_ (And.intro ?_ (And.intro ?_ (And.intro ?_ (And.intro ?_ (And.intro ?_ trivial))))))))) ?_
  · intro L hL
    have hL' : ∀ j, j < 9 → L j = false := hL
    have no : ∀ j, j < 9 → L j = true → False := fun j hj h => by rw [hL' j hj] at h; cases h
    exact ⟨_, _, _, _, _, _, _, rfl, ⟨GB2.out.drew, G2.out, fun h => (no 0 (by decide) h).elim, fun h => (no 1 (by decide) h).elim, fun h => (no 2 (by decide) h).elim, fun h => (no 3 (by decide) h).elim, fun h => (no 4 (by decide) h).elim, fun h => (no 5 (by decide) h).elim, fun h => (no 6 (by decide) h).elim, fun h => (no 5 (by decide) h).elim, fun h => (no 7 (by decide) h).elim, fun h => (no 8 (by decide) h).elim⟩⟩
  · rintro L a W ⟨v2, v3, v6, v7, v8, v9, v10, rfl, H⟩ hLi hd K0 hK
    refine step_ld rfl 22 (.tmp 1) rfl (load_arr arr32P rfl (i32p K LK.out) H.k) ?_
    exact hK.out _ _ ⟨v2, v3, _, v7, v8, v9, v10, rfl, H.s0 rfl⟩
  · rintro L a W ⟨v2, v3, v6, v7, v8, v9, v10, rfl, H⟩ hLi hd K0 hK
    obtain rfl := H.f0 (hd ⟨0, .data⟩ (by simp) rfl)
    simp only [mkA]
    go_simp
    refine (PA.out W).mono ?_
    rintro e W' ⟨rfl, hb⟩
    exact hK.out _ _ ⟨v2, v3, _, _, v8, v9, v10, rfl, (H.ext hb).s1 rfl⟩
  · rintro L a W ⟨v2, v3, v6, v7, v8, v9, v10, rfl, H⟩ hLi hd K0 hK
    refine step_ld rfl 22 (.tmp 1) rfl (load_arr arr32P rfl (i32p K LK.out) H.k) ?_
    exact hK.out _ _ ⟨v2, v3, v6, v7, _, v9, v10, rfl, H.s2 rfl⟩
  · rintro L a W ⟨v2, v3, v6, v7, v8, v9, v10, rfl, H⟩ hLi hd K0 hK
    simp only [mkA]
    go_simp
    exact hK.out _ _ ⟨v2, v3, v6, v7, v8, _, v10, rfl, (H.ext ((Below.refl _ W).alloc (Nat.le_refl _) _)).s3 ⟨W.heap.size, rfl, heap_alloc_new' W _⟩⟩
  · rintro L a W ⟨v2, v3, v6, v7, v8, v9, v10, rfl, H⟩ hLi hd K0 hK
    obtain rfl := H.f2 (hd ⟨2, .data⟩ (by simp) rfl)
    obtain ⟨g9, rfl, hg9⟩ := H.f3 (hd ⟨3, .data⟩ (by simp) rfl) hLi
    simp only [mkA]
    go_simp
    refine (PB.out g9 W hg9).mono ?_
    rintro e W' ⟨rfl, hb⟩
    exact hK.out _ _ ⟨v2, v3, v6, v7, _, _, _, rfl, (H.ext hb).s4 rfl⟩
  · rintro L a W ⟨v2, v3, v6, v7, v8, v9, v10, rfl, H⟩ hLi hd K0 hK
    simp only [mkA]
    go_simp
    refine hK.out _ _ ⟨_, v3, v6, v7, v8, v9, v10, rfl, (H.ext ((Below.refl _ W).alloc (Nat.le_refl _) _)).s5 ⟨W.heap.size, Z, rfl, lt_of_heap H.k, heap_alloc_new' W _, hlz.out, fun h => ?_⟩ fun h6 => ?_⟩
    · rw [H.d7 h] at hLi; cases hLi
    · obtain ⟨g3, Y3, rfl, _, h3, _⟩ := H.f6 h6
      exact ptr_ne (by have := lt_of_heap h3; omega)
  · rintro L a W ⟨v2, v3, v6, v7, v8, v9, v10, rfl, H⟩ hLi hd K0 hK
    simp only [mkA]
    go_simp
    refine hK.out _ _ ⟨v2, _, v6, v7, v8, v9, v10, rfl, (H.ext ((Below.refl _ W).alloc (Nat.le_refl _) _)).s6 ⟨W.heap.size, Z, rfl, lt_of_heap H.k, heap_alloc_new' W _, hlz.out, fun h => ?_⟩ fun h5 => ?_⟩
    · rw [H.d8 h] at hLi; cases hLi
    · obtain ⟨g2, Y2, rfl, _, h2, _⟩ := H.f5 h5
      exact ptr_ne (by have := lt_of_heap h2; omega)
  · rintro L a W ⟨v2, v3, v6, v7, v8, v9, v10, rfl, H⟩ hLi hd K0 hK
    have d1 := hd ⟨1, .phase⟩ (by simp) rfl
    have d4 := hd ⟨4, .chain⟩ (by simp) rfl
    have d5 := hd ⟨5, .phase⟩ (by simp) rfl
    have d6 := hd ⟨6, .phase⟩ (by simp) rfl
    obtain rfl := H.f1 d1
    have hne := H.fd d5 d6
    obtain ⟨g2, Y2, rfl, hq2, h2, l2, _⟩ := H.f5 d5
    obtain ⟨g3, Y3, rfl, hq3, h3, l3, e3⟩ := H.f6 d6
    have hn : g3 ≠ g2 := fun e => hne (by rw [e])
    refine step_st1 rfl 24 (.tmp 2) (.tmp 7) rfl (store_arr (cs := S1.map bv) (i16p S1 L1.out) (bv_one _) h2 (by rw [List.length_map, L1.out]; exact l2)) ?_
    generalize hV : World.setRow _ _ _ = W'
    refine hK.out _ _ ⟨_, _, v6, _, v8, v9, v10, rfl, ⟨H.b.trans (below_of_setRow hV (by have := HQ.out; omega) H.b.size), heap_of_other hV (by omega) H.k, fun h => H.f0 h, fun h => rfl, fun h => H.f2 h, fun h h4 => ?_, fun h => H.f4 h, fun h => ⟨g2, S1.map bv, rfl, hq2, heap_of_setRow hV h2, by rw [List.length_map, L1.out], fun _ => rfl⟩, fun h => ⟨g3, Y3, rfl, hq3, heap_of_other hV hn h3, l3, e3⟩, fun _ _ => hne, fun _ => d5, fun _ => d6⟩⟩
    have h4' : L 4 = false := h4
    rw [d4] at h4'; cases h4'
  · rintro L a W ⟨v2, v3, v6, v7, v8, v9, v10, rfl, H⟩ hLi hd K0 hK
    have d4 := hd ⟨4, .phase⟩ (by simp) rfl
    have d5 := hd ⟨5, .phase⟩ (by simp) rfl
    have d6 := hd ⟨6, .phase⟩ (by simp) rfl
    obtain rfl := H.f4 d4
    have hne := H.fd d5 d6
    obtain ⟨g2, Y2, rfl, hq2, h2, l2, e2⟩ := H.f5 d5
    obtain ⟨g3, Y3, rfl, hq3, h3, l3, _⟩ := H.f6 d6
    have hn : g2 ≠ g3 := fun e => hne (by rw [e])
    refine step_st1 rfl 24 (.tmp 3) (.tmp 10) rfl (store_arr (cs := S2.map bv) (i16p S2 L2.out) (bv_one _) h3 (by rw [List.length_map, L2.out]; exact l3)) ?_
    generalize hV : World.setRow _ _ _ = W'
    refine hK.out _ _ ⟨_, _, v6, v7, v8, v9, _, rfl, ⟨H.b.trans (below_of_setRow hV (by have := HQ.out; omega) H.b.size), heap_of_other hV (by omega) H.k, fun h => H.f0 h, fun h => H.f1 h, fun h => H.f2 h, fun h h4 => ?_, fun h => rfl, fun h => ⟨g2, Y2, rfl, hq2, heap_of_other hV hn h2, l2, e2⟩, fun h => ⟨g3, S2.map bv, rfl, hq3, heap_of_setRow hV h3, by rw [List.length_map, L2.out], fun _ => rfl⟩, fun _ _ => hne, fun _ => d5, fun _ => d6⟩⟩
    have h4' : L 4 = false := h4
    rw [d4] at h4'; cases h4'
  · rintro L a W hL ⟨v2, v3, v6, v7, v8, v9, v10, rfl, H⟩
    obtain ⟨g2, Y2, rfl, hq2, h2, l2, e2⟩ := H.f5 (hL 5)
    obtain ⟨g3, Y3, rfl, hq3, h3, l3, e3⟩ := H.f6 (hL 6)
    obtain rfl := e2 (hL 7)
    obtain rfl := e3 (hL 8)
    have H2 := Lib.hid h2; have H3 := Lib.hid h3; have HB := Lib.hid H.b
    clear h2 h3 H hL l2 l3 e2 e3
    simp only [mkA]
    go_wp2_with (first
      | (refine wpList_ld rfl 24 (.tmp 2) rfl (load_arr arr16P rfl (i16p S1 L1.out) H2.out) ?_)
      | (refine wpList_run (o := ⟨some 12, _, _, _, _, _⟩) rfl (v := .agg (S1.map bv).toArray) (w' := W) (exec_bld rfl (by simp only [List.map_toArray, List.map_cons, List.map_nil]; exact BD1.out W)) ?_)
      | (refine wpList_ld rfl 24 (.tmp 3) rfl (load_arr arr16P rfl (i16p S2 L2.out) H3.out) ?_)
      | (refine wpList_run (o := ⟨some 16, _, _, _, _, _⟩) rfl (v := .agg (S2.map bv).toArray) (w' := W) (exec_bld rfl (by simp only [List.map_toArray, List.map_cons, List.map_nil]; exact BD2.out W)) ?_))
    go_ret
    exact ⟨rfl, HB.out⟩
end Go.Proofs.Ytebkkkjedkpgbaa
