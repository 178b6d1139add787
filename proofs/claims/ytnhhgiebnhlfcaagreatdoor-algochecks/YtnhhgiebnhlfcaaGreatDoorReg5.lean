/- Two operations of a region that draws its order, free to go in either order, whose ways meet again: what is behind them once. Over any program. -/
import Derived.Test.YtnhhgiebnhlfcaaGreatDoorReg4
namespace Go.Proofs.YtnhhgiebnhlfcaaGreatDoor
open Go.RowKit
set_option maxRecDepth 100000
set_option linter.unusedVariables false
theorem put_comm' (a : Act) {d1 d2 : Nat} (h : d1 ≠ d2) (v1 v2 : Value) : (a.put (some d2) v2).put (some d1) v1 = (a.put (some d1) v1).put (some d2) v2 := by
  simp only [Act.put]
  rw [Array.setIfInBounds_comm _ _ (Ne.symm h)]
/-- what an operation owes -/
def Does (P : Program) (ops : Array Oper) (Q : Exit → Act → World → Prop) (o : Oper) (K : Act → World → Prop) (a : Act) (w : World) : Prop :=
  if Region.wanted o (yielded ops a.tmps) = true then Oper.wp P o a w K Q else K (a.put o.dst undef) w
theorem regB_join {P : Program} {ops : Array Oper} {Q : Exit → Act → World → Prop} (i j d1 d2 : Nat) {o o' : Oper} {B fuel : Nat} {listed : Array Bool} {a : Act} {w : World} (J : Value → Value → World → Prop)
    (hi : ops[i]? = some o) (hj : ops[j]? = some o') (hne : d1 ≠ d2) (hij : i ≠ j)
    (hr : Region.ready .any ops listed = [i, j]) (hr1 : Region.ready .any ops (listed.setIfInBounds i true) = [j]) (hr2 : Region.ready .any ops (listed.setIfInBounds j true) = [i])
    (h1 : ∀ K : Act → World → Prop, Hid (∀ v1 w1, Below B w w1 → (∀ K2 : Act → World → Prop, Hid (∀ v2 w2, Below B w1 w2 → J v1 v2 w2 → K2 ((a.put (some d1) v1).put (some d2) v2) w2) → Does P ops Q o' K2 (a.put (some d1) v1) w1) → K (a.put (some d1) v1) w1) → Does P ops Q o K a w)
    (h2 : ∀ K : Act → World → Prop, Hid (∀ v2 w1, Below B w w1 → (∀ K2 : Act → World → Prop, Hid (∀ v1 w2, Below B w1 w2 → J v1 v2 w2 → K2 ((a.put (some d2) v2).put (some d1) v1) w2) → Does P ops Q o K2 (a.put (some d2) v2) w1) → K (a.put (some d2) v2) w1) → Does P ops Q o' K a w)
    (h : ∀ v1 v2 w', Below B w w' → J v1 v2 w' → RegB P ops Q B fuel ((listed.setIfInBounds i true).setIfInBounds j true) ((a.put (some d1) v1).put (some d2) v2) w') :
    RegB P ops Q B (fuel + 2) listed a w := by
  refine regB_eff2 i j hi hj hr (fun K hK => h1 K fun v1 w1 hE hst => ?_) (fun K hK => h2 K fun v2 w1 hE hst => ?_)
  · exact hK.out _ _ hE (regB_eff j hj hr1 fun K2 hK2 => hst K2 fun v2 w2 hE2 hJ => hK2.out _ _ hE2 (h v1 v2 w2 (hE.trans hE2) hJ))
  · refine hK.out _ _ hE (regB_eff i hi hr2 fun K2 hK2 => hst K2 fun v1 w2 hE2 hJ => hK2.out _ _ hE2 ?_)
    rw [put_comm' a hne, Array.setIfInBounds_comm _ _ (Ne.symm hij)]
    exact h v1 v2 w2 (hE.trans hE2) hJ
section
variable {P : Program} {ops : Array Oper} {Q : Exit → Act → World → Prop}
theorem inv_anyH {S : World → Prop} (J : (Nat → Bool) → Act → World → Prop) (hb : below? ops.toList 0 = true) (steps : AllOps (StepOK P ops Q J) ops.toList 0) (hS : ∀ L a w, J L a w → S w) (done : ∀ L a w, (∀ j, L j = true) → J L a w → Q .normal a w) :
    ∀ (fuel : Nat) (listed : Array Bool) (a : Act) (w : World), listed.size = ops.size → listed.toList.count false ≤ fuel → J (fun j => listed.getD j true) a w → wpAnyH P .any ops Q S fuel listed a w := by
  have fin : ∀ (listed : Array Bool) (a : Act) (w : World), listed.size = ops.size → J (fun j => listed.getD j true) a w → Region.ready .any ops listed = [] → Q .normal a w := by
    intro listed a w hs hJ hr
    refine done _ a w (fun j => ?_) hJ
    induction j using Nat.strongRecOn with
    | ind j ih =>
      by_cases hj : j < ops.size
      · cases hl : listed.getD j true with
        | true => rfl
        | false =>
          exfalso
          have hm : j ∈ Region.ready .any ops listed := by
            refine mem_ready.2 ⟨hl, ops[j], by simp [hj], fun e he hbi => ?_⟩
            have hlt := below?_get (k := 0) (i := j) (o := ops[j]) hb (by simp [hj]) e he hbi
            rw [Nat.zero_add] at hlt
            have h1 := ih e.on hlt
            have h2 : e.on < listed.size := by omega
            simpa [h2] using h1
          rw [hr] at hm; cases hm
      · have : listed.size ≤ j := by omega
        simp [Array.getElem?_eq_none this]
  intro fuel
  induction fuel with
  | zero =>
    intro listed a w hs hc hJ
    have hr : Region.ready .any ops listed = [] := by
      rw [List.eq_nil_iff_forall_not_mem]
      intro i hi
      have h0 := (mem_ready.1 hi).1
      have hlt : i < listed.size := by
        rcases Nat.lt_or_ge i listed.size with h | h
        · exact h
        · simp [Array.getElem?_eq_none h] at h0
      have hf : listed[i] = false := by simpa [hlt] using h0
      have hmem : false ∈ listed.toList := by rw [← hf]; simp
      have := List.count_pos_iff.2 hmem
      omega
    exact ⟨hr, fin listed a w hs hJ hr⟩
  | succ fuel ih =>
    intro listed a w hs hc hJ
    refine ⟨fin listed a w hs hJ, fun i hi => ?_⟩
    obtain ⟨h0, o, ho, hall⟩ := mem_ready.1 hi
    have hlt : i < listed.size := by
      rcases Nat.lt_or_ge i listed.size with h | h
      · exact h
      · simp [Array.getElem?_eq_none h] at h0
    have hst := steps.get (i := i) (o := o) (by simpa using ho)
    rw [Nat.zero_add] at hst
    refine wpOp_step ho fun K hK => hst _ a w hJ h0 (fun e he hbi => ?_) K fun a' w' hJ' => hK a' w' ⟨hS _ _ _ hJ', ?_⟩
    · have := hall e he hbi
      rcases Nat.lt_or_ge e.on listed.size with h' | h'
      · simpa [h'] using this
      · simp [Array.getElem?_eq_none h']
    · refine ih _ a' w' (by simpa using hs) ?_ ?_
      · have hf : listed[i] = false := by simpa [hlt] using h0
        rw [Array.toList_setIfInBounds, List.count_set (by simpa using hlt)]
        have e1 : (listed.toList[i]'(by simpa using hlt)) = false := by simpa using hf
        rw [e1, if_pos (by rfl), if_neg (by decide)]
        omega
      · have e : (fun j => (listed.setIfInBounds i true).getD j true) = (fun j => if j = i then true else listed.getD j true) := funext fun j => getD_set_true listed i j
        rw [e]; exact hJ'
theorem regB_inv {B fuel : Nat} {listed : Array Bool} {a : Act} {w : World} (J : (Nat → Bool) → Act → World → Prop) (hs : listed.size = ops.size) (hc : listed.toList.count false ≤ fuel) (hb : below? ops.toList 0 = true)
    (hS : ∀ L a' w', J L a' w' → Below B w w') (h0 : J (fun j => listed.getD j true) a w) (steps : AllOps (StepOK P ops Q J) ops.toList 0) (done : ∀ L a w, (∀ j, L j = true) → J L a w → Q .normal a w) : RegB P ops Q B fuel listed a w :=
  inv_anyH J hb steps hS done fuel listed a w hs hc h0
end
end Go.Proofs.YtnhhgiebnhlfcaaGreatDoor
