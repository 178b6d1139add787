/- The contract of sha.whole. -/
import Derived.Test.YtjmpbcfbfbjenaaSha6
import Derived.Test.YtjmpbcfbfbjenaaLift
import Derived.WalkMore
import Derived.ScopeJumps
namespace Go.Proofs.Ytjmpbcfbfbjenaa
open Go.RowKit
set_option maxRecDepth 100000
set_option linter.unusedVariables false
set_option linter.unusedSimpArgs false
def sliceLen : Value → Nat
  | .slice _ n _ => n
  | _ => 0
/-- the state behind j whole blocks -/
def wholeN (h : List W32) (bs : List UInt8) : Nat → List W32
  | 0 => h
  | j + 1 => blockL (wholeN h bs j) ((bs.drop (64 * j)).take 64)
theorem wholeN_len (h : List W32) (bs : List UInt8) (j : Nat) (hh : h.length = 8) : (wholeN h bs j).length = 8 := by
  induction j with
  | zero => exact hh
  | succ j ih => exact blockL_len _ _ ih
theorem results_row_tmp {P : Program} {fn : Func} {p u : Tmp} {ty : TypeId} (h : fn.results = #[.cell p ty, .tmp u]) (tmps : Array Value) (w : World) (g : Nat) (t : TypeId) (cs : Array Value) (fr : Nat × Nat) (d : TypeDesc)
    (hp : tmps.getD p undef = .pointer (some ⟨g, 0, none⟩)) (hg : w.heap[g]? = some (.cells cs t fr))
    (hu : P.underlying ty = some d) (hd : (match d with | .struct _ | .array _ _ => true | _ => false) = true) (hi : (P.info? ty).map (·.size) = some cs.size) :
    (results fn tmps).run P w = .ok (.tuple #[.agg cs, tmps.getD u undef]) w := by
  have hp' : tmps[p]?.getD undef = .pointer (some ⟨g, 0, none⟩) := by simpa using hp
  simp [results, h, hp', asAddr, run_loadVar_row w g t ty cs fr d hg hu hd hi]
theorem sl_cut {w : World} {A : Option Addr} {c k : Nat} {l : List UInt8} (h : Sl w A c l) (hk : k ≤ l.length) : Sl w (cutS A c k) (c - k) (l.drop k) := by
  have h1 := h.1
  have h2 := h.2.1
  refine ⟨by rw [List.length_drop]; omega, by omega, ?_⟩
  have := h.2.2.cut (c := c) (l := k) (by simpa using hk) (by simpa using h1)
  rwa [← List.map_drop] at this
theorem wpList_cpy {P : Program} {w : World} {ops : Array Oper} {rest : List Oper} {o : Oper} {a : Act} {Q : Exit → Act → World → Prop} (hg : o.guard = none) (s x : Operand) (t xt : TypeId)
    (ho : o.op = .call { callee := .builtin .copy, args := #[s, x], argTypes := #[t, xt] }) {v' : Value} {w' : World}
    (hrun : (Builtin.copy_ #[t, xt] o.type #[a.eval s, a.eval x]).run P w = .ok v' w') (h : wpList P ops Q rest (a.put o.dst v') w') : wpList P ops Q (o :: rest) a w := by
  unfold wpList
  have := step_cpy (P := P) (w := w) (ops := ops) (o := o) (a := a) (K := fun a w => wpList P ops Q rest a w) (Q := Q) (E := True) hg s x t xt ho hrun h
  have hw : Region.wanted o (yielded ops a.tmps) = true := by simp [Region.wanted, hg]
  rw [if_pos hw] at this ⊢
  exact .inl this
def AnyR (_ _ : World) : Prop := True
instance : Pre AnyR where
  refl _ := trivial
  trans _ _ := trivial
theorem heap_of_other {w W : World} {g k : Nat} {new : Array Value} {o : Obj} (h : w.setRow g new = W) (hk : k ≠ g) (ho : w.heap[k]? = some o) : W.heap[k]? = some o := by
  rw [← h, setRow_other _ _ _ _ hk]; exact ho
theorem regS_eff2 {P : Program} {ops : Array Oper} {Q : Exit → Act → World → Prop} {R : World → World → Prop} [Pre R] (i j : Nat) {o o' : Oper} {fuel : Nat} {listed : Array Bool} {a : Act} {w : World} (hi : ops[i]? = some o) (hj : ops[j]? = some o') (hr : Region.ready .any ops listed = [i, j])
    (h : ∀ K : Act → World → Prop, Hid (∀ a' w', R w w' → RegS P ops Q R fuel (listed.setIfInBounds i true) a' w' → K a' w') → if Region.wanted o (yielded ops a.tmps) = true then Oper.wp P o a w K Q else K (a.put o.dst undef) w)
    (h' : ∀ K : Act → World → Prop, Hid (∀ a' w', R w w' → RegS P ops Q R fuel (listed.setIfInBounds j true) a' w' → K a' w') → if Region.wanted o' (yielded ops a.tmps) = true then Oper.wp P o' a w K Q else K (a.put o'.dst undef) w) :
    RegS P ops Q R (fuel + 1) listed a w := by
  refine wpAnyH_ready hr (by simp) ?_
  refine AllReadyH.cons hi (fun K' hK => h K' fun a' w' hE hR => ?_) (AllReadyH.cons hj (fun K' hK => h' K' fun a' w' hE hR => ?_) AllReadyH.nil)
  · exact hK.out a' w' hE fun _ => wpAnyH_mono (fun W hW => Pre.trans hE hW) _ _ _ _ hR
  · exact hK.out a' w' hE fun _ => wpAnyH_mono (fun W hW => Pre.trans hE hW) _ _ _ _ hR
theorem step_ld {P : Program} {w : World} {ops : Array Oper} {o : Oper} {a : Act} {K : Act → World → Prop} {Q : Exit → Act → World → Prop} {E : Prop} (hg : o.guard = none) (ty : TypeId) (x : Operand)
    (ho : o.op = .load ty x) {v : Value} (hrun : (Instr.loadAt ty (a.eval x)).run P w = .ok v w) (h : K (a.put o.dst v) w) : if Region.wanted o (yielded ops a.tmps) = true then Oper.wp P o a w K Q else E := by
  have hw : Region.wanted o (yielded ops a.tmps) = true := by simp [Region.wanted, hg]
  rw [if_pos hw]
  unfold Oper.wp execOp
  simp only [ho, Sem.run_bind, hrun, Result.andThen_ok]
  exact h
/-- a label at the head of a scope, to which its own code jumps back -/
theorem wp_scope_label {P : Program} {a : Act} {w : World} {Q : Exit → Act → World → Prop} {rest : Code} (l : Nat) (J : Act → World → Prop) (μ : Act → World → Nat) (hf : findLabel ((Code.label l).seq rest) l = some (Code.skip.seq rest)) (h0 : J a w)
    (pass : ∀ a w, J a w → rest.wp P (Exit.jump l (fun a' w' => J a' w' ∧ μ a' w' < μ a w) Q) a w) : (Code.scope ((Code.label l).seq rest)).wp P Q a w := by
  refine wp_scope_jumps l J μ hf (wp_seq (wp_label ?_)) (fun a w h => wp_seq (wp_skip (pass a w h)))
  refine Code.wp_mono ?_ (pass a w h0)
  intro e a w h
  cases e <;> first | exact h | exact ⟨h.1, h.2.1⟩
theorem heap2 (w : World) (o1 o2 : Obj) : ((w.alloc o1).alloc o2).heap[w.heap.size]? = some o1 ∧ ((w.alloc o1).alloc o2).heap[w.heap.size + 1]? = some o2 ∧ Below w.heap.size w ((w.alloc o1).alloc o2) := by
  have e1 : (w.alloc o1).heap.size = w.heap.size + 1 := by simp
  refine ⟨?_, ?_, ?_⟩
  · rw [Below.heap_alloc _ _ _ (by omega)]; exact heap_alloc_new' w o1
  · have := heap_alloc_new' (w.alloc o1) o2; rwa [e1] at this
  · exact ((Below.refl _ w).alloc (Nat.le_refl _) _).alloc (by omega) _

end Go.Proofs.Ytjmpbcfbfbjenaa
