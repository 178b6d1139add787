/- A region that draws its order, in which no operation turns what was there: what reads is taken as soon as it may come up, and what makes memory (calls, new blocks) in the one order that the region's edges leave. Over any program. -/
import Derived.Deep.RegionHeld
import Derived.Below
import Derived.WalkKit
namespace Go.Proofs.Ytjmpbcfbfbjenaa
open Go.RowKit
set_option maxRecDepth 100000

/-- W has all that w has, as it was. -/
def Ext (w W : World) : Prop := Below w.heap.size w W
theorem Ext.refl (w : World) : Ext w w := Below.refl _ _
theorem Ext.trans {a b c : World} (h : Ext a b) (k : Ext b c) : Ext a c := RowKit.Below.trans h (RowKit.Below.mono k h.size)

section
variable {P : Program} {ops : Array Oper} {Q : Exit → Act → World → Prop} {md : Region.Mode}

theorem wpOp_mono' {i : Nat} {a : Act} {w : World} {K K' : Act → World → Prop} (h : ∀ a w, K a w → K' a w) (hh : wpOp P ops Q i K a w) : wpOp P ops Q i K' a w := wpOp_mono h hh

theorem wpAnyH_mono {S S' : World → Prop} (hS : ∀ w, S w → S' w) : ∀ (fuel : Nat) (listed : Array Bool) (a : Act) (w : World), wpAnyH P md ops Q S fuel listed a w → wpAnyH P md ops Q S' fuel listed a w
  | 0, _, _, _, h => h
  | fuel + 1, _, _, _, h => ⟨h.1, fun i hi => wpOp_mono (fun a' w' h' => ⟨hS _ h'.1, wpAnyH_mono hS fuel _ a' w' h'.2⟩) (h.2 i hi)⟩

/-- what is left of a region, in the state a, in the world w -/
def Reg (P : Program) (ops : Array Oper) (Q : Exit → Act → World → Prop) (fuel : Nat) (listed : Array Bool) (a : Act) (w : World) : Prop := wpAnyH P .any ops Q (Ext w) fuel listed a w

theorem reg_start {id : Nat} {a : Act} {w : World} (hm : P.follows .mixedOrders = true) (h : Reg P ops Q ops.size (Array.replicate ops.size false) a w.drew) : (Code.region id ops true).wp P Q a w :=
  wp_region_held_drew (S := Ext w.drew) hm (Ext.refl _) fun _ => h

theorem reg_take (i : Nat) {o : Oper} {v : Value} {fuel : Nat} {listed : Array Bool} {a : Act} {w : World} (d : Option Tmp) (hi : ops[i]? = some o) (hd : o.dst = d)
    (hs : Region.noSelect ops = true) (hf : Region.free .any ops listed i = true) (hr : (Region.ready .any ops listed).contains i = true)
    (hQ : ∀ c a w, Q (.panic c) (a.put o.dst v) w → Q (.panic c) a w) (hw : Region.wanted o (yielded ops a.tmps) = true)
    (hy : ∀ W, Ext w W → (execOp a.eval o).run P W = .ok (.value v) W)
    (h : Reg P ops Q fuel (listed.setIfInBounds i true) (a.put d v) w) : Reg P ops Q (fuel + 1) listed a w := by
  subst hd
  exact wpAnyH_take hi hs hf hr hQ (.inl ⟨hw, hy⟩) (Ext.refl w) h

theorem reg_skip (i : Nat) {o : Oper} {fuel : Nat} {listed : Array Bool} {a : Act} {w : World} (d : Option Tmp) (hi : ops[i]? = some o) (hd : o.dst = d)
    (hs : Region.noSelect ops = true) (hf : Region.free .any ops listed i = true) (hr : (Region.ready .any ops listed).contains i = true)
    (hQ : ∀ c a w, Q (.panic c) (a.put o.dst undef) w → Q (.panic c) a w) (hw : Region.wanted o (yielded ops a.tmps) = false)
    (h : Reg P ops Q fuel (listed.setIfInBounds i true) (a.put d undef) w) : Reg P ops Q (fuel + 1) listed a w := by
  subst hd
  exact wpAnyH_take hi hs hf hr hQ (.inr ⟨hw, rfl⟩) (Ext.refl w) h

theorem reg_eff (i : Nat) {o : Oper} {fuel : Nat} {listed : Array Bool} {a : Act} {w : World} (hi : ops[i]? = some o) (hr : Region.ready .any ops listed = [i])
    (h : ∀ K : Act → World → Prop, Hid (∀ a' w', Ext w w' → Reg P ops Q fuel (listed.setIfInBounds i true) a' w' → K a' w') → if Region.wanted o (yielded ops a.tmps) = true then Oper.wp P o a w K Q else K (a.put o.dst undef) w) :
    Reg P ops Q (fuel + 1) listed a w := by
  refine wpAnyH_ready hr (by simp) ?_
  refine AllReadyH.cons hi (fun K' hK => h K' fun a' w' hE hR => ?_) AllReadyH.nil
  exact hK.out a' w' hE fun _ => wpAnyH_mono (fun W hW => hE.trans hW) _ _ _ _ hR

theorem reg_done {fuel : Nat} {listed : Array Bool} {a : Act} {w : World} (hr : Region.ready .any ops listed = []) (h : Q .normal a w) : Reg P ops Q fuel listed a w :=
  wpAnyH_done hr h fuel

theorem exec_load {o : Oper} {a : Act} {W : World} {ty : TypeId} {x : Operand} {p v : Value} (ho : o.op = .load ty x) (hx : a.eval x = p) (hrun : (Instr.loadAt ty p).run P W = .ok v W) : (execOp a.eval o).run P W = .ok (.value v) W := by
  unfold execOp
  simp only [ho, hx, Sem.run_bind, hrun, Result.andThen_ok, Sem.run_pure]
theorem exec_conv {o : Oper} {a : Act} {W : World} {s d : TypeId} {x : Operand} {p v : Value} (ho : o.op = .convert s d x) (hx : a.eval x = p) (hrun : (convert s d p).run P W = .ok v W) : (execOp a.eval o).run P W = .ok (.value v) W := by
  unfold execOp
  simp only [ho, hx, Sem.run_bind, hrun, Result.andThen_ok, Sem.run_pure]

/-- a load, and a conversion, by what is known of it -/
theorem reg_load (i : Nat) {o : Oper} {ty : TypeId} {x : Operand} {p v : Value} {fuel : Nat} {listed : Array Bool} {a : Act} {w : World} (d : Option Tmp)
    (hrun : ∀ W, Ext w W → (Instr.loadAt ty p).run P W = .ok v W) (hi : ops[i]? = some o) (hd : o.dst = d) (ho : o.op = .load ty x) (hx : a.eval x = p)
    (hs : Region.noSelect ops = true) (hf : Region.free .any ops listed i = true) (hr : (Region.ready .any ops listed).contains i = true)
    (hQ : ∀ c a w, Q (.panic c) (a.put o.dst v) w → Q (.panic c) a w) (hw : Region.wanted o (yielded ops a.tmps) = true)
    (h : Reg P ops Q fuel (listed.setIfInBounds i true) (a.put d v) w) : Reg P ops Q (fuel + 1) listed a w :=
  reg_take i d hi hd hs hf hr hQ hw (fun W hW => exec_load ho hx (hrun W hW)) h
theorem reg_conv (i : Nat) {o : Oper} {s t : TypeId} {x : Operand} {p v : Value} {fuel : Nat} {listed : Array Bool} {a : Act} {w : World} (d : Option Tmp)
    (hrun : ∀ W, Ext w W → (convert s t p).run P W = .ok v W) (hi : ops[i]? = some o) (hd : o.dst = d) (ho : o.op = .convert s t x) (hx : a.eval x = p)
    (hs : Region.noSelect ops = true) (hf : Region.free .any ops listed i = true) (hr : (Region.ready .any ops listed).contains i = true)
    (hQ : ∀ c a w, Q (.panic c) (a.put o.dst v) w → Q (.panic c) a w) (hw : Region.wanted o (yielded ops a.tmps) = true)
    (h : Reg P ops Q fuel (listed.setIfInBounds i true) (a.put d v) w) : Reg P ops Q (fuel + 1) listed a w :=
  reg_take i d hi hd hs hf hr hQ hw (fun W hW => exec_conv ho hx (hrun W hW)) h

/-! ### the same, where blocks from B on may be turned (rows of the call's own): what is read lies below B -/
def RegB (P : Program) (ops : Array Oper) (Q : Exit → Act → World → Prop) (B : Nat) (fuel : Nat) (listed : Array Bool) (a : Act) (w : World) : Prop := wpAnyH P .any ops Q (Below B w) fuel listed a w
theorem regB_start {id : Nat} {a : Act} {w : World} (B : Nat) (hm : P.follows .mixedOrders = true) (h : RegB P ops Q B ops.size (Array.replicate ops.size false) a w.drew) : (Code.region id ops true).wp P Q a w :=
  wp_region_held_drew (S := Below B w.drew) hm (Below.refl _ _) fun _ => h
theorem regB_take (i : Nat) {o : Oper} {v : Value} {B fuel : Nat} {listed : Array Bool} {a : Act} {w : World} (d : Option Tmp) (hi : ops[i]? = some o) (hd : o.dst = d)
    (hs : Region.noSelect ops = true) (hf : Region.free .any ops listed i = true) (hr : (Region.ready .any ops listed).contains i = true)
    (hQ : ∀ c a w, Q (.panic c) (a.put o.dst v) w → Q (.panic c) a w) (hw : Region.wanted o (yielded ops a.tmps) = true)
    (hy : ∀ W, Below B w W → (execOp a.eval o).run P W = .ok (.value v) W)
    (h : RegB P ops Q B fuel (listed.setIfInBounds i true) (a.put d v) w) : RegB P ops Q B (fuel + 1) listed a w := by
  subst hd
  exact wpAnyH_take hi hs hf hr hQ (.inl ⟨hw, hy⟩) (Below.refl _ w) h
theorem regB_load (i : Nat) {o : Oper} {ty : TypeId} {x : Operand} {p v : Value} {B fuel : Nat} {listed : Array Bool} {a : Act} {w : World} (d : Option Tmp)
    (hrun : ∀ W, Below B w W → (Instr.loadAt ty p).run P W = .ok v W) (hi : ops[i]? = some o) (hd : o.dst = d) (ho : o.op = .load ty x) (hx : a.eval x = p)
    (hs : Region.noSelect ops = true) (hf : Region.free .any ops listed i = true) (hr : (Region.ready .any ops listed).contains i = true)
    (hQ : ∀ c a w, Q (.panic c) (a.put o.dst v) w → Q (.panic c) a w) (hw : Region.wanted o (yielded ops a.tmps) = true)
    (h : RegB P ops Q B fuel (listed.setIfInBounds i true) (a.put d v) w) : RegB P ops Q B (fuel + 1) listed a w :=
  regB_take i d hi hd hs hf hr hQ hw (fun W hW => exec_load ho hx (hrun W hW)) h
theorem regB_conv (i : Nat) {o : Oper} {s t : TypeId} {x : Operand} {p v : Value} {B fuel : Nat} {listed : Array Bool} {a : Act} {w : World} (d : Option Tmp)
    (hrun : ∀ W, Below B w W → (convert s t p).run P W = .ok v W) (hi : ops[i]? = some o) (hd : o.dst = d) (ho : o.op = .convert s t x) (hx : a.eval x = p)
    (hs : Region.noSelect ops = true) (hf : Region.free .any ops listed i = true) (hr : (Region.ready .any ops listed).contains i = true)
    (hQ : ∀ c a w, Q (.panic c) (a.put o.dst v) w → Q (.panic c) a w) (hw : Region.wanted o (yielded ops a.tmps) = true)
    (h : RegB P ops Q B fuel (listed.setIfInBounds i true) (a.put d v) w) : RegB P ops Q B (fuel + 1) listed a w :=
  regB_take i d hi hd hs hf hr hQ hw (fun W hW => exec_conv ho hx (hrun W hW)) h
theorem regB_eff (i : Nat) {o : Oper} {B fuel : Nat} {listed : Array Bool} {a : Act} {w : World} (hi : ops[i]? = some o) (hr : Region.ready .any ops listed = [i])
    (h : ∀ K : Act → World → Prop, Hid (∀ a' w', Below B w w' → RegB P ops Q B fuel (listed.setIfInBounds i true) a' w' → K a' w') → if Region.wanted o (yielded ops a.tmps) = true then Oper.wp P o a w K Q else K (a.put o.dst undef) w) :
    RegB P ops Q B (fuel + 1) listed a w := by
  refine wpAnyH_ready hr (by simp) ?_
  refine AllReadyH.cons hi (fun K' hK => h K' fun a' w' hE hR => ?_) AllReadyH.nil
  exact hK.out a' w' hE fun _ => wpAnyH_mono (fun W hW => hE.trans hW) _ _ _ _ hR
theorem regB_done {B fuel : Nat} {listed : Array Bool} {a : Act} {w : World} (hr : Region.ready .any ops listed = []) (h : Q .normal a w) : RegB P ops Q B fuel listed a w :=
  wpAnyH_done hr h fuel
end
end Go.Proofs.Ytjmpbcfbfbjenaa
