/- cbc.blocks: what a range over it may count on. -/
import Derived.Test.YtfcnahbbieldfaaCbc3
namespace Go.Proofs.Ytfcnahbbieldfaa
open Go.RowKit Go.Shelf
set_option linter.unusedVariables false
set_option linter.unusedSimpArgs false
set_option maxRecDepth 100000
attribute [local go_sem] Oper.semAt_some
set_option maxHeartbeats 1000000 in
/-- the closure where there is no block -/
theorem blocks1_nil_in (F : Fence) (n : Nat) (hf : F.fn 51) (hro : F.round = none) (l Bs cap len : Nat) (A : Option Addr) (hlen : len < 16) (J : List Blk → World → Prop) (W : World) (hBs : W.cell? ⟨Bs, 0, none⟩ = some (.slice A len cap)) (h0 : J [] W) :
    CallsIn F n Try.prog 51 #[.func (.yield l) #[] #[], .pointer (some ⟨Bs, 0, none⟩)] W fun e W' => (∃ v, e = .returned v) ∧ J [] W' := by
  have e1 : (len : Int) / 16 = 0 := by omega
  refine callsIn_of_wp Try.func51 rfl hf ?_ hro
  simp only [Try.ntmps51, List.size_toArray, List.length_cons, List.length_nil, Nat.reduceAdd, Nat.reduceSub, Array.replicate_succ, Array.replicate_zero, List.push_toArray, List.append_toArray, List.nil_append, List.cons_append]
  gi_wp2
  gi_loopw [7] (fun i wr => i = .int .i64 0 ∧ J [] wr) (fun _ _ => 0)
  case atStart => exact ⟨rfl, h0⟩
  case round =>
    obtain ⟨rfl, hJs⟩ := hrel
    gi_wp2
    go_end0
    exact ⟨⟨_, rfl⟩, hJs⟩
set_option maxHeartbeats 1000000 in
/-- cbc.blocks: the slice is boxed, the closure holds the box -/
theorem blocks_in (F : Fence) (n : Nat) (hf : F.fn 37) (hro : F.round = none) (A : Option Addr) (len cap : Nat) (w : World) :
    CallsIn F n Try.prog 37 #[.slice A len cap] w fun e w' => e = .returned (.func (.func 51) #[] #[.pointer (some ⟨w.heap.size, 0, none⟩)]) ∧ w' = w.alloc (.cells #[.slice A len cap] 26) := by
  refine callsIn_of_wp Try.func37 rfl hf ?_ hro
  simp only [Try.ntmps37, List.size_toArray, List.length_cons, List.length_nil, Nat.reduceAdd, Nat.reduceSub, Array.replicate_succ, Array.replicate_zero, List.push_toArray, List.append_toArray, List.nil_append, List.cons_append]
  gi_wp2
  go_ret
  exact ⟨rfl, rfl⟩
theorem blkUp_prefix (bs : List UInt8) {k m : Nat} (h : k ≤ m) : blkUp bs k <+: blkUp bs m := by
  obtain ⟨d, rfl⟩ : ∃ d, m = k + d := ⟨m - k, by omega⟩
  induction d with
  | zero => exact List.prefix_refl _
  | succ d ih => rw [← Nat.add_assoc, blkUp_succ]; exact (ih (by omega)).trans (List.prefix_append _ _)
/-- what comes out of blocks(b): the whole blocks of b in their order, or a part of them, a round having said 'no more' -/
theorem blocks_stops (F : Fence) (n : Nat) (hf : F.fn 51) (hro : F.round = none) (hn : 1 ≤ n) (Bs n₀ len cap : Nat) (A : Option Addr) (bs : List UInt8) (hl : bs.length = len) (h31 : len ≤ 2147483647) (w : World) (hBs : Bs < w.heap.size)
    (hc : w.cell? ⟨Bs, 0, none⟩ = some (.slice A len cap)) (hS : Sl w A cap bs) (hA : 16 ≤ len → ∀ b o x, A = some ⟨b, o, x⟩ → b < n₀) :
    SeqStopsK F n Try.prog 51 #[.pointer (some ⟨Bs, 0, none⟩)] (fun x : Blk => #[Value.agg (x.1.map bv).toArray]) (KpB n₀ Bs) (fun ys => ys = blkUp bs (len / 16)) (fun pre => pre <+: blkUp bs (len / 16)) (len / 16) w := fun l J Jx W hW _ _ hY h0 => by
  have hc' := (hW.cell (p := ⟨Bs, 0, none⟩) hBs).trans hc
  by_cases hlt : len < 16
  · have h16 : len / 16 = 0 := by omega
    rw [h16]
    exact (blocks1_nil_in F n hf hro l Bs cap len A hlt J W hc' h0).mono fun e W' ⟨he, hj⟩ => ⟨he, .inl ⟨_, rfl, hj⟩⟩
  · obtain ⟨b, o, rfl, hbw, hcell⟩ := c_sl_cell (hS.below hW) (i := 0) (by omega)
    refine (blocks1_in F n hf hro hn l Bs n₀ b o len cap (len / 16) bs rfl h31 (by have := hS.1; omega) (hA (by omega) _ _ _ rfl) J Jx hY W hc' (fun j hj => hcell j (by omega)) h0).mono ?_
    rintro e W' ⟨he, ⟨ys, rfl, hj⟩ | ⟨pre, ⟨k, hk, rfl⟩, hj⟩⟩
    · exact ⟨he, .inl ⟨_, rfl, hj⟩⟩
    · exact ⟨he, .inr ⟨_, blkUp_prefix bs hk, hj⟩⟩
theorem kpB_b {w : World} {n₀ Bs : Nat} (hn : n₀ ≤ w.heap.size) (hB : Bs < w.heap.size) (W : World) (l : Nat) (o o' : Obj) (hl : w.heap.size ≤ l) (hg : W.heap[l]? = some o) (h1 : o.isCells = false) (h2 : o.isWalk = false) : KpB n₀ Bs W (W.putObj l o') :=
  ⟨belowK_b (w := w) hn W l o o' hl hg h1 h2, (belowK_b (w := w) (n₀ := w.heap.size) (Nat.le_refl _) W l o o' hl hg h1 h2).cell (p := ⟨Bs, 0, none⟩) hB⟩
end Go.Proofs.Ytfcnahbbieldfaa
