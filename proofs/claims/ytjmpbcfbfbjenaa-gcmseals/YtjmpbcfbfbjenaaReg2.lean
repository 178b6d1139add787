/- Regions that draw their order, over any relation between worlds that one may go on by. -/
import Derived.Test.YtjmpbcfbfbjenaaReg
import Derived.Test.YtjmpbcfbfbjenaaMem
namespace Go.Proofs.Ytjmpbcfbfbjenaa
open Go.RowKit
set_option maxRecDepth 100000
set_option linter.unusedVariables false
set_option linter.unusedSectionVars false
class Pre (R : World → World → Prop) : Prop where
  refl : ∀ w, R w w
  trans : ∀ {a b c}, R a b → R b c → R a c
section
variable {P : Program} {ops : Array Oper} {Q : Exit → Act → World → Prop} {R : World → World → Prop} [Pre R]
def RegS (P : Program) (ops : Array Oper) (Q : Exit → Act → World → Prop) (R : World → World → Prop) (fuel : Nat) (listed : Array Bool) (a : Act) (w : World) : Prop := wpAnyH P .any ops Q (R w) fuel listed a w
theorem regS_start {id : Nat} {a : Act} {w : World} (R : World → World → Prop) [Pre R] (hm : P.follows .mixedOrders = true) (h : RegS P ops Q R ops.size (Array.replicate ops.size false) a w.drew) : (Code.region id ops true).wp P Q a w :=
  wp_region_held_drew (S := R w.drew) hm (Pre.refl _) fun _ => h
theorem regS_take (i : Nat) {o : Oper} {v : Value} {fuel : Nat} {listed : Array Bool} {a : Act} {w : World} (d : Option Tmp) (hi : ops[i]? = some o) (hd : o.dst = d)
    (hs : Region.noSelect ops = true) (hf : Region.free .any ops listed i = true) (hr : (Region.ready .any ops listed).contains i = true)
    (hQ : ∀ c a w, Q (.panic c) (a.put o.dst v) w → Q (.panic c) a w) (hw : Region.wanted o (yielded ops a.tmps) = true)
    (hy : ∀ W, R w W → (execOp a.eval o).run P W = .ok (.value v) W)
    (h : RegS P ops Q R fuel (listed.setIfInBounds i true) (a.put d v) w) : RegS P ops Q R (fuel + 1) listed a w := by
  subst hd
  exact wpAnyH_take hi hs hf hr hQ (.inl ⟨hw, hy⟩) (Pre.refl w) h
theorem regS_load (i : Nat) {o : Oper} {ty : TypeId} {x : Operand} {p v : Value} {fuel : Nat} {listed : Array Bool} {a : Act} {w : World} (d : Option Tmp)
    (hrun : ∀ W, R w W → (Instr.loadAt ty p).run P W = .ok v W) (hi : ops[i]? = some o) (hd : o.dst = d) (ho : o.op = .load ty x) (hx : a.eval x = p)
    (hs : Region.noSelect ops = true) (hf : Region.free .any ops listed i = true) (hr : (Region.ready .any ops listed).contains i = true)
    (hQ : ∀ c a w, Q (.panic c) (a.put o.dst v) w → Q (.panic c) a w) (hw : Region.wanted o (yielded ops a.tmps) = true)
    (h : RegS P ops Q R fuel (listed.setIfInBounds i true) (a.put d v) w) : RegS P ops Q R (fuel + 1) listed a w :=
  regS_take i d hi hd hs hf hr hQ hw (fun W hW => exec_load ho hx (hrun W hW)) h
theorem regS_eff (i : Nat) {o : Oper} {fuel : Nat} {listed : Array Bool} {a : Act} {w : World} (hi : ops[i]? = some o) (hr : Region.ready .any ops listed = [i])
    (h : ∀ K : Act → World → Prop, Hid (∀ a' w', R w w' → RegS P ops Q R fuel (listed.setIfInBounds i true) a' w' → K a' w') → if Region.wanted o (yielded ops a.tmps) = true then Oper.wp P o a w K Q else K (a.put o.dst undef) w) :
    RegS P ops Q R (fuel + 1) listed a w := by
  refine wpAnyH_ready hr (by simp) ?_
  refine AllReadyH.cons hi (fun K' hK => h K' fun a' w' hE hR => ?_) AllReadyH.nil
  exact hK.out a' w' hE fun _ => wpAnyH_mono (fun W hW => Pre.trans hE hW) _ _ _ _ hR
theorem regS_done {fuel : Nat} {listed : Array Bool} {a : Act} {w : World} (hr : Region.ready .any ops listed = []) (h : Q .normal a w) : RegS P ops Q R fuel listed a w :=
  wpAnyH_done hr h fuel
end
/-- all that w has is as it was, but for the one cell -/
def But (g j : Nat) (w W : World) : Prop := w.heap.size ≤ W.heap.size ∧ ∀ b o, b < w.heap.size → ¬ (b = g ∧ o = j) → W.cell? ⟨b, o, none⟩ = w.cell? ⟨b, o, none⟩
instance (g j : Nat) : Pre (But g j) where
  refl _ := ⟨Nat.le_refl _, fun _ _ _ _ => rfl⟩
  trans h k := ⟨Nat.le_trans h.1 k.1, fun b o hb hn => (k.2 b o (Nat.lt_of_lt_of_le hb h.1) hn).trans (h.2 b o hb hn)⟩
theorem But.of_ext {g j : Nat} {w W : World} (h : Ext w W) : But g j w W := ⟨h.size, fun b o hb _ => h.cell hb⟩
theorem But.set {g j : Nat} {w : World} (v : Value) : But g j w (w.setCell ⟨g, j, none⟩ v) := by
  refine ⟨by simp, fun b o hb hn => ?_⟩
  refine World.cell?_setCell_other w _ _ v fun h => hn ?_
  injection h with h1 h2
  exact ⟨h1.symm, h2.symm⟩
theorem regB_eff2 {P : Program} {ops : Array Oper} {Q : Exit → Act → World → Prop} (i j : Nat) {o o' : Oper} {B fuel : Nat} {listed : Array Bool} {a : Act} {w : World} (hi : ops[i]? = some o) (hj : ops[j]? = some o') (hr : Region.ready .any ops listed = [i, j])
    (h : ∀ K : Act → World → Prop, Hid (∀ a' w', Below B w w' → RegB P ops Q B fuel (listed.setIfInBounds i true) a' w' → K a' w') → if Region.wanted o (yielded ops a.tmps) = true then Oper.wp P o a w K Q else K (a.put o.dst undef) w)
    (h' : ∀ K : Act → World → Prop, Hid (∀ a' w', Below B w w' → RegB P ops Q B fuel (listed.setIfInBounds j true) a' w' → K a' w') → if Region.wanted o' (yielded ops a.tmps) = true then Oper.wp P o' a w K Q else K (a.put o'.dst undef) w) :
    RegB P ops Q B (fuel + 1) listed a w := by
  refine wpAnyH_ready hr (by simp) ?_
  refine AllReadyH.cons hi (fun K' hK => h K' fun a' w' hE hR => ?_) (AllReadyH.cons hj (fun K' hK => h' K' fun a' w' hE hR => ?_) AllReadyH.nil)
  · exact hK.out a' w' hE fun _ => wpAnyH_mono (fun W hW => hE.trans hW) _ _ _ _ hR
  · exact hK.out a' w' hE fun _ => wpAnyH_mono (fun W hW => hE.trans hW) _ _ _ _ hR
theorem below_of_alloc {B : Nat} {w W : World} {o : Obj} (h : w.alloc o = W) (hB : B ≤ w.heap.size) : Below B w W := by
  rw [← h]; exact (Below.refl _ _).alloc hB _
theorem heap_of_alloc {w W : World} {o : Obj} (h : w.alloc o = W) : W.heap[w.heap.size]? = some o := by rw [← h]; exact heap_alloc_new' w o
end Go.Proofs.Ytjmpbcfbfbjenaa
