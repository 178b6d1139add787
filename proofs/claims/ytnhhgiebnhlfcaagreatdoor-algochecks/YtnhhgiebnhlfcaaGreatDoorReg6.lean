/- Regions that draw their order, inside a fence, by what holds as long as they go on. Over any program. -/
import Derived.Test.YtnhhgiebnhlfcaaGreatDoorReg5
import Derived.OrdersIn
import Derived.OwnWalkIn
namespace Go.Proofs.YtnhhgiebnhlfcaaGreatDoor
open Go.RowKit
set_option maxRecDepth 100000
set_option linter.unusedVariables false
section
variable {F : Fence} {n : Nat} {P : Program} {ops : Array Oper} {Q : Exit → Act → World → Prop}
/-- one operation keeps what holds -/
def StepIn (F : Fence) (n : Nat) (P : Program) (ops : Array Oper) (Q : Exit → Act → World → Prop) (J : (Nat → Bool) → Act → World → Prop) (i : Nat) (o : Oper) : Prop :=
  ∀ (L : Nat → Bool) (a : Act) (w : World), J L a w → L i = false → (∀ e ∈ o.after, Region.binds .any e = true → L e.on = true) →
    Region.wanted o (yielded ops a.tmps) = true ∧ ∀ K : Act → World → Prop, Hid (∀ a' w', J (fun j => if j = i then true else L j) a' w' → K a' w') → o.wpIn F n P a w K Q
theorem inv_anyIn (J : (Nat → Bool) → Act → World → Prop) (hb : below? ops.toList 0 = true) (steps : AllOps (StepIn F n P ops Q J) ops.toList 0) (done : ∀ L a w, (∀ j, L j = true) → J L a w → Q .normal a w) :
    ∀ (fuel : Nat) (listed : Array Bool) (a : Act) (w : World), listed.size = ops.size → listed.toList.count false ≤ fuel → J (fun j => listed.getD j true) a w → wpAnyIn F n P .any ops Q fuel listed a w := by
  have fin : ∀ (listed : Array Bool) (a : Act) (w : World), listed.size = ops.size → J (fun j => listed.getD j true) a w → Region.ready .any ops listed = [] → Q .normal a w := by
    intro listed a w hs hJ hr
    refine done _ a w (fun j => ?_) hJ
    induction j using Nat.strongRecOn with
    | ind j ih =>
      by_cases hj : j < ops.size
      · cases hl : listed.getD j true with
        | true => rfl
        | false =>
          exfalso
          have hm : j ∈ Region.ready .any ops listed := by
            refine mem_ready.2 ⟨hl, ops[j], by simp [hj], fun e he hbi => ?_⟩
            have hlt := below?_get (k := 0) (i := j) (o := ops[j]) hb (by simp [hj]) e he hbi
            rw [Nat.zero_add] at hlt
            have h1 := ih e.on hlt
            have h2 : e.on < listed.size := by omega
            simpa [h2] using h1
          rw [hr] at hm; cases hm
      · have : listed.size ≤ j := by omega
        simp [Array.getElem?_eq_none this]
  intro fuel
  induction fuel with
  | zero =>
    intro listed a w hs hc hJ
    have hr : Region.ready .any ops listed = [] := by
      rw [List.eq_nil_iff_forall_not_mem]
      intro i hi
      have h0 := (mem_ready.1 hi).1
      have hlt : i < listed.size := by
        rcases Nat.lt_or_ge i listed.size with h | h
        · exact h
        · simp [Array.getElem?_eq_none h] at h0
      have hf : listed[i] = false := by simpa [hlt] using h0
      have hmem : false ∈ listed.toList := by rw [← hf]; simp
      have := List.count_pos_iff.2 hmem
      omega
    exact ⟨hr, fin listed a w hs hJ hr⟩
  | succ fuel ih =>
    intro listed a w hs hc hJ
    refine ⟨fin listed a w hs hJ, fun i hi => ?_⟩
    obtain ⟨h0, o, ho, hall⟩ := mem_ready.1 hi
    have hlt : i < listed.size := by
      rcases Nat.lt_or_ge i listed.size with h | h
      · exact h
      · simp [Array.getElem?_eq_none h] at h0
    have hst := steps.get (i := i) (o := o) (by simpa using ho)
    rw [Nat.zero_add] at hst
    obtain ⟨hw, hK⟩ := hst _ a w hJ h0 (fun e he hbi => by
      have := hall e he hbi
      rcases Nat.lt_or_ge e.on listed.size with h' | h'
      · simpa [h'] using this
      · simp [Array.getElem?_eq_none h'])
    unfold wpOpIn
    rw [ho]
    show if Region.wanted o (yielded ops a.tmps) = true then _ else _
    rw [if_pos hw]
    refine hK _ fun a' w' hJ' => ?_
    refine ih _ a' w' (by simpa using hs) ?_ ?_
    · have hf : listed[i] = false := by simpa [hlt] using h0
      rw [Array.toList_setIfInBounds, List.count_set (by simpa using hlt)]
      have e1 : (listed.toList[i]'(by simpa using hlt)) = false := by simpa using hf
      rw [e1, if_pos (by rfl), if_neg (by decide)]
      omega
    · have e : (fun j => (listed.setIfInBounds i true).getD j true) = (fun j => if j = i then true else listed.getD j true) := funext fun j => getD_set_true listed i j
      rw [e]; exact hJ'
theorem regIn_inv {id : Nat} {a : Act} {w : World} (J : (Nat → Bool) → Act → World → Prop) (hm : P.follows .mixedOrders = true) (hb : below? ops.toList 0 = true)
    (h0 : ∀ L : Nat → Bool, (∀ j, j < ops.size → L j = false) → J L a w.drew) (steps : AllOps (StepIn F n P ops Q J) ops.toList 0) (done : ∀ L a w, (∀ j, L j = true) → J L a w → Q .normal a w) : (Code.region id ops true).wpIn F n P Q a w := by
  refine wpIn_region_any hm (inv_anyIn J hb steps done ops.size _ a w.drew (by simp) ?_ (h0 _ fun j hj => ?_))
  · simp
  · simp [hj]
theorem opIn_load {o : Oper} {a : Act} {w : World} {K : Act → World → Prop} (ty : TypeId) (x : Operand) (ho : o.op = .load ty x) {p v : Value} (hx : a.eval x = p)
    (hrun : (Instr.loadAt ty p).run P w = .ok v w) (h : K (a.put o.dst v) w) : o.wpIn F n P a w K Q := by
  unfold Oper.wpIn
  refine ⟨by simp [Oper.about, ho], ?_⟩
  rw [Oper.semAt_plain F _ _ (by rw [ho]; intro c hc'; cases hc')]
  unfold execOp
  simp only [ho, hx, Sem.run_bind, hrun, Result.andThen_ok]
  exact h
theorem opIn_store {o : Oper} {a : Act} {w w' : World} {K : Act → World → Prop} (ty : TypeId) (x y : Operand) (ho : o.op = .store ty x y) {p v : Value} (hx : a.eval x = p) (hy : a.eval y = v)
    (hrun : (Instr.storeAt ty p v).run P w = .ok () w') (h : K (a.put o.dst undef) w') : o.wpIn F n P a w K Q := by
  unfold Oper.wpIn
  refine ⟨by simp [Oper.about, ho], ?_⟩
  rw [Oper.semAt_plain F _ _ (by rw [ho]; intro c hc'; cases hc')]
  unfold execOp
  simp only [ho, hx, hy, Sem.run_bind, hrun, Result.andThen_ok]
  exact h
end

theorem upF {L : Nat → Bool} {k j : Nat} (hj : L j = false) (hne : j ≠ k) (h : (if j = k then true else L j) = true) : False := by
  rw [if_neg hne, hj] at h; cases h
theorem upS {L : Nat → Bool} {k : Nat} (h : (if k = k then true else L k) = false) : False := by
  rw [if_pos rfl] at h; cases h
theorem upT {L : Nat → Bool} {k j : Nat} (hj : L j = true) (h : (if j = k then true else L j) = false) : False := by
  rw [hj] at h; split at h <;> cases h
/-! ### a region whose last operation alone turns what was there -/
def updv (vs : Nat → Value) (k : Nat) (x : Value) : Nat → Value := fun j => if j = k then x else vs j
structure RJ (n : Nat) (R : Nat → Value → World → Prop) (D : (Nat → Value) → World → Prop) (W0 : World) (vs : Nat → Value) (L : Nat → Bool) (W : World) : Prop where
  fv : L n = false → ∀ i, L i = true → i < n → R i (vs i) W
  b0 : L n = false → Below W0.heap.size W0 W
  b1 : L n = true → D vs W
  dn : L n = true → ∀ i, i < n → L i = true
theorem RJ.start {n : Nat} {R : Nat → Value → World → Prop} {D : (Nat → Value) → World → Prop} {W0 W : World} {vs : Nat → Value} {L : Nat → Bool} (hL : ∀ j, j < n + 1 → L j = false) (hb : Below W0.heap.size W0 W) : RJ n R D W0 vs L W :=
  ⟨fun _ i hi h => by (rw [hL i (by omega)] at hi; cases hi), fun _ => hb, fun h => by (rw [hL n (by omega)] at h; cases h), fun h => by (rw [hL n (by omega)] at h; cases h)⟩
theorem RJ.last {n : Nat} {R : Nat → Value → World → Prop} {D : (Nat → Value) → World → Prop} {W0 W : World} {vs : Nat → Value} {L : Nat → Bool} (H : RJ n R D W0 vs L W) {k : Nat} (hk : k < n) (hL : L k = false) : L n = false := by
  cases h : L n with
  | false => rfl
  | true => rw [H.dn h k hk] at hL; cases hL
theorem RJ.step {n : Nat} {R : Nat → Value → World → Prop} {D : (Nat → Value) → World → Prop} {W0 W W' : World} {vs : Nat → Value} {L : Nat → Bool} (H : RJ n R D W0 vs L W) (hR : ∀ i v (A B : World), R i v A → Below A.heap.size A B → R i v B)
    (k : Nat) (hk : k < n) (hL : L k = false) (hb : Below W.heap.size W W') (x : Value) (hx : R k x W') : RJ n R D W0 (updv vs k x) (fun j => if j = k then true else L j) W' := by
  have hn := H.last hk hL
  have hn' : (if n = k then true else L n) = false := by rw [if_neg (by omega)]; exact hn
  refine ⟨fun _ i hi h => ?_, fun _ => (H.b0 hn).step hb, fun h => by (rw [hn'] at h; cases h), fun h => by (rw [hn'] at h; cases h)⟩
  unfold updv
  by_cases e : i = k
  · rw [if_pos e, e]; exact hx
  · rw [if_neg e]
    rw [if_neg e] at hi
    exact hR _ _ _ _ (H.fv hn i hi h) hb
theorem RJ.fin {n : Nat} {R : Nat → Value → World → Prop} {D : (Nat → Value) → World → Prop} {W0 W W' : World} {vs : Nat → Value} {L : Nat → Bool} (H : RJ n R D W0 vs L W) (hall : ∀ i, i < n → L i = true) (hD : D vs W') : RJ n R D W0 vs (fun j => if j = n then true else L j) W' :=
  ⟨fun h => by (rw [if_pos rfl] at h; cases h), fun h => by (rw [if_pos rfl] at h; cases h), fun _ => hD, fun _ i hi => by rw [if_neg (by omega)]; exact hall i hi⟩
end Go.Proofs.YtnhhgiebnhlfcaaGreatDoor
