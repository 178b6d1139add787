/- Maps with numbers as keys, by their entries in order. Over any program. -/
import Derived.MapKept
import Derived.RangeFuncRecord
import Derived.Below
import Derived.Maps.OwnOps
import Derived.Test.YtnhhgiebnhlfcaaGreatDoorReg5
import Derived.Shelf.Abstract
namespace Go.Proofs.YtnhhgiebnhlfcaaGreatDoor
open Go.RowKit
set_option linter.unusedVariables false
set_option linter.unusedSimpArgs false
def kFind : List (Int × Value) → Int → Nat → Option (Nat × Value)
  | [], _, _ => none
  | (k, v) :: r, x, i => if x = k then some (i, v) else kFind r x (i + 1)
/-- what stands under a key -/
def kGet : List (Int × Value) → Int → Option Value
  | [], _ => none
  | (k, v) :: r, x => if x = k then some v else kGet r x
theorem kFind_get : ∀ (ks : List (Int × Value)) (x : Int) (i : Nat), (kFind ks x i).map (·.2) = kGet ks x
  | [], _, _ => rfl
  | (k, v) :: r, x, i => by
    unfold kFind kGet
    split
    · rfl
    · exact kFind_get r x (i + 1)
theorem kGet_snoc : ∀ (ks : List (Int × Value)) (k x : Int) (v : Value), kGet ks k = none → kGet (ks ++ [(k, v)]) x = if x = k then some v else kGet ks x
  | [], k, x, v, _ => rfl
  | (k', v') :: r, k, x, v, h => by
    unfold kGet at h
    split at h
    · cases h
    · rename_i hne
      show (if x = k' then some v' else kGet (r ++ [(k, v)]) x) = _
      rw [kGet_snoc r k x v h]
      rw [show kGet ((k', v') :: r) x = if x = k' then some v' else kGet r x from rfl]
      by_cases h1 : x = k'
      · rw [if_pos h1, if_pos h1, if_neg (by omega)]
      · rw [if_neg h1, if_neg h1]
def Ents (es : List MapEntry) (ks : List (Int × Value)) : Prop := es.map (fun e => (e.key, e.val)) = ks.map (fun p => (Value.int .i64 p.1, p.2))
theorem findNow_ents : ∀ (es : List MapEntry) (ks : List (Int × Value)) (x : Int) (i : Nat), Ents es ks → Instr.findNow (.int .i64) (.int .i64 x) es i = some (kFind ks x i)
  | [], [], _, _, _ => rfl
  | [], _ :: _, _, _, h => by simp [Ents] at h
  | _ :: _, [], _, _, h => by simp [Ents] at h
  | e :: es, (k, v) :: ks, x, i, h => by
    simp only [Ents, List.map_cons, List.cons.injEq, Prod.mk.injEq] at h
    obtain ⟨⟨h1, h2⟩, h3⟩ := h
    unfold Instr.findNow kFind
    rw [h1, h2]
    by_cases hx : x = k
    · rw [if_pos hx]
      simp [Instr.sameNow, hx]
    · rw [if_neg hx]
      have : Instr.sameNow (.int .i64) (.int .i64 x) (.int .i64 k) = some false := by simp [Instr.sameNow, hx]
      rw [this]
      exact findNow_ents es ks x (i + 1) h3
section
variable {P : Program} {w : World} {T K E : TypeId} {g clock : Nat} {es : Array MapEntry} {ks : List (Int × Value)}
theorem run_mapNew (hT : P.underlying T = some (.map K E)) (hK : P.underlying K = some (.int .i64)) (hg : w.heap[g]? = some (.map es clock)) (he : Ents es.toList ks) (x : Int) (v : Value) (hx : kGet ks x = none) :
    (Instr.mapUpdate T (.map (some g)) (.int .i64 x) v).run P w = .ok () (w.putObj g (.map (es.push { key := .int .i64 x, val := v, born := clock }) (clock + 1))) := by
  have hf : Instr.findNow (.int .i64) (.int .i64 x) es.toList 0 = some none := by
    rw [findNow_ents _ _ _ _ he]
    have := kFind_get ks x 0
    rw [hx] at this
    cases h : kFind ks x 0 with
    | none => rfl
    | some y => rw [h] at this; cases this
  have hc : (Instr.checkKey false 10000 K (.int .i64 x)).run P w = .ok () w := MapKept.run_checkKey (k := .int .i64 x) hK (by simp [MapKept.IsKey]) false 9999
  simp [Instr.mapUpdate, run_underlying hT, MapKept.run_getObj_map hg, hc, MapKept.run_findKey hK hf, MapKept.run_setObj_map _ hg, Result.andThen, World.putObj]
theorem run_mapGet (hT : P.underlying T = some (.map K E)) (hK : P.underlying K = some (.int .i64)) (hg : w.heap[g]? = some (.map es clock)) (he : Ents es.toList ks) (x : Int) (z : Value) (hz : ∀ W, (zeroValue E).run P W = .ok z W) :
    (Instr.lookup T (.map (some g)) (.int .i64 x) false).run P w = .ok ((kGet ks x).getD z) w := by
  have hf := findNow_ents _ _ x 0 he
  have hc : (Instr.checkKey es.isEmpty 10000 K (.int .i64 x)).run P w = .ok () w := MapKept.run_checkKey (k := .int .i64 x) hK (by simp [MapKept.IsKey]) es.isEmpty 9999
  have hk := kFind_get ks x 0
  cases h : kFind ks x 0 with
  | none =>
    rw [h] at hf hk
    rw [← hk]
    simp [Instr.lookup, run_underlying hT, MapKept.run_getObj_map hg, hc, MapKept.run_findKey hK hf, hz, Result.andThen]
  | some y =>
    rw [h] at hf hk
    rw [← hk]
    simp [Instr.lookup, run_underlying hT, MapKept.run_getObj_map hg, hc, MapKept.run_findKey hK hf, Result.andThen]
theorem ents_push (he : Ents es.toList ks) (x : Int) (v : Value) (b : Nat) : Ents (es.push { key := .int .i64 x, val := v, born := b }).toList (ks ++ [(x, v)]) := by
  unfold Ents at he ⊢
  rw [Array.toList_push, List.map_append, List.map_append, he]
  rfl
end
/-! ### steps of drawn regions, of an operation whose value is known -/
section
variable {P : Program} {w w' : World} {ops : Array Oper} {o : Oper} {a : Act} {K : Act → World → Prop} {Q : Exit → Act → World → Prop} {E : Prop}
theorem step_valF (hg : o.guard = none) {v : Value} (hrun : (execOp a.eval o).run P w = .ok (.value v) w') (h : K (a.put o.dst v) w') : if Region.wanted o (yielded ops a.tmps) = true then Oper.wp P o a w K Q else E := by
  have hw : Region.wanted o (yielded ops a.tmps) = true := by simp [Region.wanted, hg]
  rw [if_pos hw]
  unfold Oper.wp
  rw [hrun]
  exact h
theorem step_ldF (hg : o.guard = none) (ty : TypeId) (x : Operand) (ho : o.op = .load ty x) {v : Value} (hrun : (Instr.loadAt ty (a.eval x)).run P w = .ok v w) (h : K (a.put o.dst v) w) : if Region.wanted o (yielded ops a.tmps) = true then Oper.wp P o a w K Q else E := by
  have hw : Region.wanted o (yielded ops a.tmps) = true := by simp [Region.wanted, hg]
  rw [if_pos hw]
  unfold Oper.wp execOp
  simp only [ho, Sem.run_bind, hrun, Result.andThen_ok]
  exact h
theorem step_insF (hg : o.guard = none) (ty : TypeId) (m k x : Operand) (ho : o.op = .insert ty m k x) (hrun : (Instr.mapUpdate ty (a.eval m) (a.eval k) (a.eval x)).run P w = .ok () w') (h : K (a.put o.dst undef) w') : if Region.wanted o (yielded ops a.tmps) = true then Oper.wp P o a w K Q else E := by
  have hw : Region.wanted o (yielded ops a.tmps) = true := by simp [Region.wanted, hg]
  rw [if_pos hw]
  unfold Oper.wp execOp
  simp only [ho, Sem.run_bind, hrun, Result.andThen_ok]
  exact h
theorem exec_lookF {ty : TypeId} {m k : Operand} {ok : Bool} {v : Value} (ho : o.op = .lookup ty m k ok) (hrun : (Instr.lookup ty (a.eval m) (a.eval k) ok).run P w = .ok v w) : (execOp a.eval o).run P w = .ok (.value v) w := by
  unfold execOp
  simp only [ho, Sem.run_bind, hrun, Result.andThen_ok, Sem.run_pure]
theorem exec_fieldF {ty : TypeId} {x : Operand} {f : Nat} {v : Value} (ho : o.op = .field ty x f) (hrun : (Instr.field ty (a.eval x) f).run P w = .ok v w) : (execOp a.eval o).run P w = .ok (.value v) w := by
  unfold execOp
  simp only [ho, Sem.run_bind, hrun, Result.andThen_ok, Sem.run_pure]
theorem step_callF (hg : o.guard = none) (f : Nat) (args : Array Operand) (ats : Array TypeId) (ho : o.op = .call { callee := .value (.func f), args := args, argTypes := ats }) (he : Enters P f)
    {vs : Array Value} (hvs : args.map a.eval = vs) {R : Ending → World → Prop} (hc : Calls P f vs w R) (h : ∀ e W, R e W → ∃ v, e = .returned v ∧ K (a.put o.dst v) W) : if Region.wanted o (yielded ops a.tmps) = true then Oper.wp P o a w K Q else E := by
  have hw : Region.wanted o (yielded ops a.tmps) = true := by simp [Region.wanted, hg]
  rw [if_pos hw]
  unfold Oper.wp
  have hrun : (execOp a.eval o).run P w = .ok (.enter f vs) w := by
    rw [← hvs]
    simp [execOp, ho, resolve, Deferred.ofValue, invoke, Act.eval, he _ w, Result.andThen, go_sem]
  rw [hrun, Oper.upon_enter]
  refine hc.mono ?_
  intro e W hr
  obtain ⟨v, rfl, hk⟩ := h e W hr
  exact hk
end
end Go.Proofs.YtnhhgiebnhlfcaaGreatDoor
