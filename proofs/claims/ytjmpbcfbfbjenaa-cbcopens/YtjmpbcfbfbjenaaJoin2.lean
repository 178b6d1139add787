/- Joined: Reg5 Reg6 Cbc6 Cbc7 Cbc8 Ref1 Ref2 Ref3 RefT1 RefK3 RefK1 RefK4 LawsK5 LawsK6 LiftV. -/
import Derived.Test.YtjmpbcfbfbjenaaJoin1
import Derived.OrdersIn
import Derived.OwnWalkIn
import Derived.Test.YtjmpbcfbfbjenaaAes11
import Derived.Test.YtjmpbcfbfbjenaaAesM4
import Derived.Test.YtjmpbcfbfbjenaaBits3
import Derived.Test.YtjmpbcfbfbjenaaReg
import Derived.Test.YtjmpbcfbfbjenaaRefA8
import Derived.Test.YtjmpbcfbfbjenaaReg3
/- Two operations of a region that draws its order, free to go in either order, whose ways meet again: what is behind them once. Over any program. -/
namespace Go.Proofs.Ytjmpbcfbfbjenaa
open Go.RowKit
set_option maxRecDepth 100000
set_option linter.unusedVariables false
theorem put_comm' (a : Act) {d1 d2 : Nat} (h : d1 ≠ d2) (v1 v2 : Value) : (a.put (some d2) v2).put (some d1) v1 = (a.put (some d1) v1).put (some d2) v2 := by
  simp only [Act.put]
  rw [Array.setIfInBounds_comm _ _ (Ne.symm h)]
/-- what an operation owes -/
def Does (P : Program) (ops : Array Oper) (Q : Exit → Act → World → Prop) (o : Oper) (K : Act → World → Prop) (a : Act) (w : World) : Prop :=
  if Region.wanted o (yielded ops a.tmps) = true then Oper.wp P o a w K Q else K (a.put o.dst undef) w
theorem regB_join {P : Program} {ops : Array Oper} {Q : Exit → Act → World → Prop} (i j d1 d2 : Nat) {o o' : Oper} {B fuel : Nat} {listed : Array Bool} {a : Act} {w : World} (J : Value → Value → World → Prop)
    (hi : ops[i]? = some o) (hj : ops[j]? = some o') (hne : d1 ≠ d2) (hij : i ≠ j)
    (hr : Region.ready .any ops listed = [i, j]) (hr1 : Region.ready .any ops (listed.setIfInBounds i true) = [j]) (hr2 : Region.ready .any ops (listed.setIfInBounds j true) = [i])
    (h1 : ∀ K : Act → World → Prop, Hid (∀ v1 w1, Below B w w1 → (∀ K2 : Act → World → Prop, Hid (∀ v2 w2, Below B w1 w2 → J v1 v2 w2 → K2 ((a.put (some d1) v1).put (some d2) v2) w2) → Does P ops Q o' K2 (a.put (some d1) v1) w1) → K (a.put (some d1) v1) w1) → Does P ops Q o K a w)
    (h2 : ∀ K : Act → World → Prop, Hid (∀ v2 w1, Below B w w1 → (∀ K2 : Act → World → Prop, Hid (∀ v1 w2, Below B w1 w2 → J v1 v2 w2 → K2 ((a.put (some d2) v2).put (some d1) v1) w2) → Does P ops Q o K2 (a.put (some d2) v2) w1) → K (a.put (some d2) v2) w1) → Does P ops Q o' K a w)
    (h : ∀ v1 v2 w', Below B w w' → J v1 v2 w' → RegB P ops Q B fuel ((listed.setIfInBounds i true).setIfInBounds j true) ((a.put (some d1) v1).put (some d2) v2) w') :
    RegB P ops Q B (fuel + 2) listed a w := by
  refine regB_eff2 i j hi hj hr (fun K hK => h1 K fun v1 w1 hE hst => ?_) (fun K hK => h2 K fun v2 w1 hE hst => ?_)
  · exact hK.out _ _ hE (regB_eff j hj hr1 fun K2 hK2 => hst K2 fun v2 w2 hE2 hJ => hK2.out _ _ hE2 (h v1 v2 w2 (hE.trans hE2) hJ))
  · refine hK.out _ _ hE (regB_eff i hi hr2 fun K2 hK2 => hst K2 fun v1 w2 hE2 hJ => hK2.out _ _ hE2 ?_)
    rw [put_comm' a hne, Array.setIfInBounds_comm _ _ (Ne.symm hij)]
    exact h v1 v2 w2 (hE.trans hE2) hJ
section
variable {P : Program} {ops : Array Oper} {Q : Exit → Act → World → Prop}
theorem inv_anyH {S : World → Prop} (J : (Nat → Bool) → Act → World → Prop) (hb : below? ops.toList 0 = true) (steps : AllOps (StepOK P ops Q J) ops.toList 0) (hS : ∀ L a w, J L a w → S w) (done : ∀ L a w, (∀ j, L j = true) → J L a w → Q .normal a w) :
    ∀ (fuel : Nat) (listed : Array Bool) (a : Act) (w : World), listed.size = ops.size → listed.toList.count false ≤ fuel → J (fun j => listed.getD j true) a w → wpAnyH P .any ops Q S fuel listed a w := by
  have fin : ∀ (listed : Array Bool) (a : Act) (w : World), listed.size = ops.size → J (fun j => listed.getD j true) a w → Region.ready .any ops listed = [] → Q .normal a w := by
    intro listed a w hs hJ hr
    refine done _ a w (fun j => ?_) hJ
    induction j using Nat.strongRecOn with
    | ind j ih =>
      by_cases hj : j < ops.size
      · cases hl : listed.getD j true with
        | true => rfl
        | false =>
          exfalso
          have hm : j ∈ Region.ready .any ops listed := by
            refine mem_ready.2 ⟨hl, ops[j], by simp [hj], fun e he hbi => ?_⟩
            have hlt := below?_get (k := 0) (i := j) (o := ops[j]) hb (by simp [hj]) e he hbi
            rw [Nat.zero_add] at hlt
            have h1 := ih e.on hlt
            have h2 : e.on < listed.size := by omega
            simpa [h2] using h1
          rw [hr] at hm; cases hm
      · have : listed.size ≤ j := by omega
        simp [Array.getElem?_eq_none this]
  intro fuel
  induction fuel with
  | zero =>
    intro listed a w hs hc hJ
    have hr : Region.ready .any ops listed = [] := by
      rw [List.eq_nil_iff_forall_not_mem]
      intro i hi
      have h0 := (mem_ready.1 hi).1
      have hlt : i < listed.size := by
        rcases Nat.lt_or_ge i listed.size with h | h
        · exact h
        · simp [Array.getElem?_eq_none h] at h0
      have hf : listed[i] = false := by simpa [hlt] using h0
      have hmem : false ∈ listed.toList := by rw [← hf]; simp
      have := List.count_pos_iff.2 hmem
      omega
    exact ⟨hr, fin listed a w hs hJ hr⟩
  | succ fuel ih =>
    intro listed a w hs hc hJ
    refine ⟨fin listed a w hs hJ, fun i hi => ?_⟩
    obtain ⟨h0, o, ho, hall⟩ := mem_ready.1 hi
    have hlt : i < listed.size := by
      rcases Nat.lt_or_ge i listed.size with h | h
      · exact h
      · simp [Array.getElem?_eq_none h] at h0
    have hst := steps.get (i := i) (o := o) (by simpa using ho)
    rw [Nat.zero_add] at hst
    refine wpOp_step ho fun K hK => hst _ a w hJ h0 (fun e he hbi => ?_) K fun a' w' hJ' => hK a' w' ⟨hS _ _ _ hJ', ?_⟩
    · have := hall e he hbi
      rcases Nat.lt_or_ge e.on listed.size with h' | h'
      · simpa [h'] using this
      · simp [Array.getElem?_eq_none h']
    · refine ih _ a' w' (by simpa using hs) ?_ ?_
      · have hf : listed[i] = false := by simpa [hlt] using h0
        rw [Array.toList_setIfInBounds, List.count_set (by simpa using hlt)]
        have e1 : (listed.toList[i]'(by simpa using hlt)) = false := by simpa using hf
        rw [e1, if_pos (by rfl), if_neg (by decide)]
        omega
      · have e : (fun j => (listed.setIfInBounds i true).getD j true) = (fun j => if j = i then true else listed.getD j true) := funext fun j => getD_set_true listed i j
        rw [e]; exact hJ'
theorem regB_inv {B fuel : Nat} {listed : Array Bool} {a : Act} {w : World} (J : (Nat → Bool) → Act → World → Prop) (hs : listed.size = ops.size) (hc : listed.toList.count false ≤ fuel) (hb : below? ops.toList 0 = true)
    (hS : ∀ L a' w', J L a' w' → Below B w w') (h0 : J (fun j => listed.getD j true) a w) (steps : AllOps (StepOK P ops Q J) ops.toList 0) (done : ∀ L a w, (∀ j, L j = true) → J L a w → Q .normal a w) : RegB P ops Q B fuel listed a w :=
  inv_anyH J hb steps hS done fuel listed a w hs hc h0
end
end Go.Proofs.Ytjmpbcfbfbjenaa

/- Regions that draw their order, inside a fence, by what holds as long as they go on. Over any program. -/
namespace Go.Proofs.Ytjmpbcfbfbjenaa
open Go.RowKit
set_option maxRecDepth 100000
set_option linter.unusedVariables false
section
variable {F : Fence} {n : Nat} {P : Program} {ops : Array Oper} {Q : Exit → Act → World → Prop}
/-- one operation keeps what holds -/
def StepIn (F : Fence) (n : Nat) (P : Program) (ops : Array Oper) (Q : Exit → Act → World → Prop) (J : (Nat → Bool) → Act → World → Prop) (i : Nat) (o : Oper) : Prop :=
  ∀ (L : Nat → Bool) (a : Act) (w : World), J L a w → L i = false → (∀ e ∈ o.after, Region.binds .any e = true → L e.on = true) →
    Region.wanted o (yielded ops a.tmps) = true ∧ ∀ K : Act → World → Prop, Hid (∀ a' w', J (fun j => if j = i then true else L j) a' w' → K a' w') → o.wpIn F n P a w K Q
theorem inv_anyIn (J : (Nat → Bool) → Act → World → Prop) (hb : below? ops.toList 0 = true) (steps : AllOps (StepIn F n P ops Q J) ops.toList 0) (done : ∀ L a w, (∀ j, L j = true) → J L a w → Q .normal a w) :
    ∀ (fuel : Nat) (listed : Array Bool) (a : Act) (w : World), listed.size = ops.size → listed.toList.count false ≤ fuel → J (fun j => listed.getD j true) a w → wpAnyIn F n P .any ops Q fuel listed a w := by
  have fin : ∀ (listed : Array Bool) (a : Act) (w : World), listed.size = ops.size → J (fun j => listed.getD j true) a w → Region.ready .any ops listed = [] → Q .normal a w := by
    intro listed a w hs hJ hr
    refine done _ a w (fun j => ?_) hJ
    induction j using Nat.strongRecOn with
    | ind j ih =>
      by_cases hj : j < ops.size
      · cases hl : listed.getD j true with
        | true => rfl
        | false =>
          exfalso
          have hm : j ∈ Region.ready .any ops listed := by
            refine mem_ready.2 ⟨hl, ops[j], by simp [hj], fun e he hbi => ?_⟩
            have hlt := below?_get (k := 0) (i := j) (o := ops[j]) hb (by simp [hj]) e he hbi
            rw [Nat.zero_add] at hlt
            have h1 := ih e.on hlt
            have h2 : e.on < listed.size := by omega
            simpa [h2] using h1
          rw [hr] at hm; cases hm
      · have : listed.size ≤ j := by omega
        simp [Array.getElem?_eq_none this]
  intro fuel
  induction fuel with
  | zero =>
    intro listed a w hs hc hJ
    have hr : Region.ready .any ops listed = [] := by
      rw [List.eq_nil_iff_forall_not_mem]
      intro i hi
      have h0 := (mem_ready.1 hi).1
      have hlt : i < listed.size := by
        rcases Nat.lt_or_ge i listed.size with h | h
        · exact h
        · simp [Array.getElem?_eq_none h] at h0
      have hf : listed[i] = false := by simpa [hlt] using h0
      have hmem : false ∈ listed.toList := by rw [← hf]; simp
      have := List.count_pos_iff.2 hmem
      omega
    exact ⟨hr, fin listed a w hs hJ hr⟩
  | succ fuel ih =>
    intro listed a w hs hc hJ
    refine ⟨fin listed a w hs hJ, fun i hi => ?_⟩
    obtain ⟨h0, o, ho, hall⟩ := mem_ready.1 hi
    have hlt : i < listed.size := by
      rcases Nat.lt_or_ge i listed.size with h | h
      · exact h
      · simp [Array.getElem?_eq_none h] at h0
    have hst := steps.get (i := i) (o := o) (by simpa using ho)
    rw [Nat.zero_add] at hst
    obtain ⟨hw, hK⟩ := hst _ a w hJ h0 (fun e he hbi => by
      have := hall e he hbi
      rcases Nat.lt_or_ge e.on listed.size with h' | h'
      · simpa [h'] using this
      · simp [Array.getElem?_eq_none h'])
    unfold wpOpIn
    rw [ho]
    show if Region.wanted o (yielded ops a.tmps) = true then _ else _
    rw [if_pos hw]
    refine hK _ fun a' w' hJ' => ?_
    refine ih _ a' w' (by simpa using hs) ?_ ?_
    · have hf : listed[i] = false := by simpa [hlt] using h0
      rw [Array.toList_setIfInBounds, List.count_set (by simpa using hlt)]
      have e1 : (listed.toList[i]'(by simpa using hlt)) = false := by simpa using hf
      rw [e1, if_pos (by rfl), if_neg (by decide)]
      omega
    · have e : (fun j => (listed.setIfInBounds i true).getD j true) = (fun j => if j = i then true else listed.getD j true) := funext fun j => getD_set_true listed i j
      rw [e]; exact hJ'
theorem regIn_inv {id : Nat} {a : Act} {w : World} (J : (Nat → Bool) → Act → World → Prop) (hm : P.follows .mixedOrders = true) (hb : below? ops.toList 0 = true)
    (h0 : ∀ L : Nat → Bool, (∀ j, j < ops.size → L j = false) → J L a w.drew) (steps : AllOps (StepIn F n P ops Q J) ops.toList 0) (done : ∀ L a w, (∀ j, L j = true) → J L a w → Q .normal a w) : (Code.region id ops true).wpIn F n P Q a w := by
  refine wpIn_region_any hm (inv_anyIn J hb steps done ops.size _ a w.drew (by simp) ?_ (h0 _ fun j hj => ?_))
  · simp
  · simp [hj]
theorem opIn_load {o : Oper} {a : Act} {w : World} {K : Act → World → Prop} (ty : TypeId) (x : Operand) (ho : o.op = .load ty x) {p v : Value} (hx : a.eval x = p)
    (hrun : (Instr.loadAt ty p).run P w = .ok v w) (h : K (a.put o.dst v) w) : o.wpIn F n P a w K Q := by
  unfold Oper.wpIn
  refine ⟨by simp [Oper.about, ho], ?_⟩
  rw [Oper.semAt_plain F _ _ (by rw [ho]; intro c hc'; cases hc')]
  unfold execOp
  simp only [ho, hx, Sem.run_bind, hrun, Result.andThen_ok]
  exact h
theorem opIn_store {o : Oper} {a : Act} {w w' : World} {K : Act → World → Prop} (ty : TypeId) (x y : Operand) (ho : o.op = .store ty x y) {p v : Value} (hx : a.eval x = p) (hy : a.eval y = v)
    (hrun : (Instr.storeAt ty p v).run P w = .ok () w') (h : K (a.put o.dst undef) w') : o.wpIn F n P a w K Q := by
  unfold Oper.wpIn
  refine ⟨by simp [Oper.about, ho], ?_⟩
  rw [Oper.semAt_plain F _ _ (by rw [ho]; intro c hc'; cases hc')]
  unfold execOp
  simp only [ho, hx, hy, Sem.run_bind, hrun, Result.andThen_ok]
  exact h
end

theorem upF {L : Nat → Bool} {k j : Nat} (hj : L j = false) (hne : j ≠ k) (h : (if j = k then true else L j) = true) : False := by
  rw [if_neg hne, hj] at h; cases h
theorem upS {L : Nat → Bool} {k : Nat} (h : (if k = k then true else L k) = false) : False := by
  rw [if_pos rfl] at h; cases h
theorem upT {L : Nat → Bool} {k j : Nat} (hj : L j = true) (h : (if j = k then true else L j) = false) : False := by
  rw [hj] at h; split at h <;> cases h
/-! ### a region whose last operation alone turns what was there -/
def updv (vs : Nat → Value) (k : Nat) (x : Value) : Nat → Value := fun j => if j = k then x else vs j
structure RJ (n : Nat) (R : Nat → Value → World → Prop) (D : (Nat → Value) → World → Prop) (W0 : World) (vs : Nat → Value) (L : Nat → Bool) (W : World) : Prop where
  fv : L n = false → ∀ i, L i = true → i < n → R i (vs i) W
  b0 : L n = false → Below W0.heap.size W0 W
  b1 : L n = true → D vs W
  dn : L n = true → ∀ i, i < n → L i = true
theorem RJ.start {n : Nat} {R : Nat → Value → World → Prop} {D : (Nat → Value) → World → Prop} {W0 W : World} {vs : Nat → Value} {L : Nat → Bool} (hL : ∀ j, j < n + 1 → L j = false) (hb : Below W0.heap.size W0 W) : RJ n R D W0 vs L W :=
  ⟨fun _ i hi h => by (rw [hL i (by omega)] at hi; cases hi), fun _ => hb, fun h => by (rw [hL n (by omega)] at h; cases h), fun h => by (rw [hL n (by omega)] at h; cases h)⟩
theorem RJ.last {n : Nat} {R : Nat → Value → World → Prop} {D : (Nat → Value) → World → Prop} {W0 W : World} {vs : Nat → Value} {L : Nat → Bool} (H : RJ n R D W0 vs L W) {k : Nat} (hk : k < n) (hL : L k = false) : L n = false := by
  cases h : L n with
  | false => rfl
  | true => rw [H.dn h k hk] at hL; cases hL
theorem RJ.step {n : Nat} {R : Nat → Value → World → Prop} {D : (Nat → Value) → World → Prop} {W0 W W' : World} {vs : Nat → Value} {L : Nat → Bool} (H : RJ n R D W0 vs L W) (hR : ∀ i v (A B : World), R i v A → Below A.heap.size A B → R i v B)
    (k : Nat) (hk : k < n) (hL : L k = false) (hb : Below W.heap.size W W') (x : Value) (hx : R k x W') : RJ n R D W0 (updv vs k x) (fun j => if j = k then true else L j) W' := by
  have hn := H.last hk hL
  have hn' : (if n = k then true else L n) = false := by rw [if_neg (by omega)]; exact hn
  refine ⟨fun _ i hi h => ?_, fun _ => (H.b0 hn).step hb, fun h => by (rw [hn'] at h; cases h), fun h => by (rw [hn'] at h; cases h)⟩
  unfold updv
  by_cases e : i = k
  · rw [if_pos e, e]; exact hx
  · rw [if_neg e]
    rw [if_neg e] at hi
    exact hR _ _ _ _ (H.fv hn i hi h) hb
theorem RJ.fin {n : Nat} {R : Nat → Value → World → Prop} {D : (Nat → Value) → World → Prop} {W0 W W' : World} {vs : Nat → Value} {L : Nat → Bool} (H : RJ n R D W0 vs L W) (hall : ∀ i, i < n → L i = true) (hD : D vs W') : RJ n R D W0 vs (fun j => if j = n then true else L j) W' :=
  ⟨fun h => by (rw [if_pos rfl] at h; cases h), fun h => by (rw [if_pos rfl] at h; cases h), fun _ => hD, fun _ i hi => by rw [if_neg (by omega)]; exact hall i hi⟩
end Go.Proofs.Ytjmpbcfbfbjenaa

/- cbc.Seal. -/
namespace Go.Proofs.Ytjmpbcfbfbjenaa
open Go.RowKit Go.Shelf
set_option linter.unusedVariables false
set_option linter.unusedSimpArgs false
set_option maxRecDepth 100000
attribute [local go_sem] Oper.semAt_some
/-- append in a round or ahead of a range, with where the new slice lies -/
theorem wpListIn_app8 {F : Fence} {nF : Nat} {w : World} {ops : Array Oper} {rest : List Oper} {o : Oper} {a : Act} {Q : Exit → Act → World → Prop} (hg : o.guard = none) (s x : Operand)
    (ho : o.op = .call { callee := .builtin .append, args := #[s, x], argTypes := #[26, 26] }) (base : Nat) (v : Value) (n : Nat) (bs : List UInt8) (hs : a.eval s = v) (hown : w.ownsRow base 5 1 v n (bs.map bv))
    (A : Option Addr) (m c B : Nat) (news : List UInt8) (hx : a.eval x = .slice A m c) (hr : RowAt w B A (news.map bv)) (hm : news.length = m) (hk : n + m ≤ 2147483647) (hbase : base ≤ w.heap.size)
    (h : ∀ v' w', w'.ownsRow base 5 1 v' (n + m) ((bs ++ news).map bv) → w.grownBy w' v.ownBlock → (v'.ownBlock = v.ownBlock ∨ v'.ownBlock = some w.heap.size) → wpListIn F nF Try.prog ops Q rest (a.put o.dst v') w') :
    wpListIn F nF Try.prog ops Q (o :: rest) a w := by
  obtain ⟨v', w', hrun, h2, h3, h4⟩ := append_row_at (P := Try.prog) w base o.type uT made8 rfl v n _ hown B A m c _ hr (by simpa using hm) (bv_one news) (by omega) (by simp [maxLen]; omega) hbase
  refine wpListIn_plain hg fun K hK' => ?_
  unfold Oper.wpIn
  refine ⟨by simp [Oper.about, ho, resolve, Target.leads, Sem.run_pure], ?_⟩
  rw [Oper.semAt_plain F _ _ (by rw [ho]; intro c hc'; cases hc')]
  simp [execOp, ho, resolve, invoke, builtin, hs, hx, hrun, Result.andThen]
  exact hK' _ _ (h v' w' (by rw [List.map_append]; exact h2) h3 h4)
theorem wpListIn_st {P : Program} {F : Fence} {nF : Nat} {w w' : World} {ops : Array Oper} {rest : List Oper} {o : Oper} {a : Act} {Q : Exit → Act → World → Prop} (hg : o.guard = none) (ty : TypeId) (x y : Operand) (ho : o.op = .store ty x y) {p v : Value} (hx : a.eval x = p) (hy : a.eval y = v)
    (hrun : (Instr.storeAt ty p v).run P w = .ok () w') (h : wpListIn F nF P ops Q rest (a.put o.dst undef) w') : wpListIn F nF P ops Q (o :: rest) a w := by
  refine wpListIn_plain hg fun K' hK' => ?_
  unfold Oper.wpIn
  refine ⟨by simp [Oper.about, ho], ?_⟩
  rw [Oper.semAt_plain F _ _ (by rw [ho]; intro c hc'; cases hc')]
  unfold execOp
  simp only [ho, hx, hy, Sem.run_bind, hrun, Result.andThen_ok]
  exact hK' _ _ h
theorem keepsFrom_below {B : Nat} {W W' : World} (h : Below W.heap.size W W') : KeepsFrom B W W' :=
  ⟨h.size, fun k o _ hk _ => (h.block k (lt_of_heap hk)).trans hk⟩
theorem keepsFrom_row {B : Nat} {W W' : World} {row : Option Nat} (hg : W.grownBy W' row) (hrow : ∀ (j : Nat) (o : Obj), row = some j → W.heap[j]? = some o → o.isCells = true) : KeepsFrom B W W' := (KeepsOthers.of_grownBy hg hrow).from B
theorem cells_own {β : Type} (B : Nat) (t : TypeId) (f : β → Array Value) : Own (fun (s : β) W => W.heap[B]? = some (.cells (f s) t (0, 0))) := fun s X Y row hs hg hrow =>
  (hg.block B (lt_of_heap hs) (fun e => by
    obtain ⟨o, ho, hc⟩ := hrow B e.symm
    have hs' : X.heap[B]? = _ := hs
    rw [hs'] at ho; cases ho; cases hc)).trans hs
/-- a block of another type is not an own row's -/
theorem cells_not_row {W : World} {B : Nat} {cs : Array Value} {t e : TypeId} {fr : Nat × Nat} (h : W.heap[B]? = some (.cells cs t fr)) (hte : t ≠ e) {base size k : Nat} {v : Value} {xs : List Value} (hr : W.ownsRow base e size v k xs) : some B ≠ v.ownBlock := by
  rcases hr.2 with ⟨rfl, _⟩ | ⟨g, cap, cur, rfl, _, hgb, _⟩
  · simp [Value.ownBlock]
  · intro e'
    obtain rfl : B = g := by simpa [Value.ownBlock] using e'
    have := h.symm.trans hgb
    simp at this
    exact hte this.2.1
theorem ownBlock_cells {W : World} {base : Nat} {e : TypeId} {s : Nat} {v : Value} {n : Nat} {xs : List Value} (h : W.ownsRow base e s v n xs) : ∀ (j : Nat) (o : Obj), v.ownBlock = some j → W.heap[j]? = some o → o.isCells = true := by
  intro j o ej hj
  rcases h.2 with ⟨rfl, _⟩ | ⟨g, cap, cur, rfl, _, hgb, _⟩
  · simp [Value.ownBlock] at ej
  · obtain rfl : g = j := by simpa [Value.ownBlock] using ej
    rw [hgb] at hj; cases hj; rfl
theorem opIn_app8 {F : Fence} {nF : Nat} {w : World} {o : Oper} {a : Act} {K : Act → World → Prop} {Q : Exit → Act → World → Prop} (s x : Operand)
    (ho : o.op = .call { callee := .builtin .append, args := #[s, x], argTypes := #[26, 26] }) (base : Nat) (v : Value) (n : Nat) (bs : List UInt8) (hs : a.eval s = v) (hown : w.ownsRow base 5 1 v n (bs.map bv))
    (A : Option Addr) (m c B : Nat) (news : List UInt8) (hx : a.eval x = .slice A m c) (hr : RowAt w B A (news.map bv)) (hm : news.length = m) (hk : n + m ≤ 2147483647) (hbase : base ≤ w.heap.size)
    (h : ∀ v' w', w'.ownsRow base 5 1 v' (n + m) ((bs ++ news).map bv) → w.grownBy w' v.ownBlock → (v'.ownBlock = v.ownBlock ∨ v'.ownBlock = some w.heap.size) → K (a.put o.dst v') w') :
    o.wpIn F nF Try.prog a w K Q := by
  obtain ⟨v', w', hrun, h2, h3, h4⟩ := append_row_at (P := Try.prog) w base o.type uT made8 rfl v n _ hown B A m c _ hr (by simpa using hm) (bv_one news) (by omega) (by simp [maxLen]; omega) hbase
  unfold Oper.wpIn
  refine ⟨by simp [Oper.about, ho, resolve, Target.leads, Sem.run_pure], ?_⟩
  rw [Oper.semAt_plain F _ _ (by rw [ho]; intro c hc'; cases hc')]
  simp [execOp, ho, resolve, invoke, builtin, hs, hx, hrun, Result.andThen]
  exact h _ _ (by rw [List.map_append]; exact h2) h3 h4
theorem opIn_plain {P : Program} {F : Fence} {nF : Nat} {o : Oper} {a : Act} {w w' : World} {K : Act → World → Prop} {Q : Exit → Act → World → Prop} {v : Value} (hd : ∀ c, o.op ≠ .defer c) (hab : o.about P w a.eval = none) (hrun : (execOp a.eval o).run P w = .ok (.value v) w') (h : K (a.put o.dst v) w') : o.wpIn F nF P a w K Q := by
  unfold Oper.wpIn
  refine ⟨by simp [hab], ?_⟩
  rw [Oper.semAt_plain F _ _ hd, hrun]
  exact h
set_option maxHeartbeats 4000000 in
theorem seal_any (P : Option Addr) (E : List UInt8 → List UInt8) (iv : List UInt8) (A : Option Addr) (n c : Nat) (bs : List UInt8) (w : World) (hiv : iv.length = 16) (hE : Enc w (.pointer P) E) (hl : bs.length = n) (hn : n ≤ 2147000000) (hS : Sl w A c bs) :
    Calls Try.prog 14 #[.pointer P, .agg (iv.map bv).toArray, .slice A n c] w fun e w' => ∃ v, e = .returned v ∧ w'.ownsRow w.heap.size 5 1 v (n + padK9 n) ((chainL E iv (bs ++ padB n) ((n + padK9 n) / 16)).map bv) ∧ Below w.heap.size w w' := by
  have HIV := Lib.hid hiv; have HL := Lib.hid hl; have HS := Lib.hid hS; have HEE := Lib.hid hE
  have hkk := padK9_le n
  have HM16 : Hid ((n + padK9 n) % 16 = 0) := by show _ = _; unfold padK9; omega
  have HPL := Lib.hid (padB_len n)
  have HQ := Lib.hid (fun W => cpad_any n W (by omega))
  have HC := Lib.hid (fun W hS => clone_any A n c bs W hl hn hS)
  generalize padB n = PB at HPL HQ ⊢
  generalize padK9 n = k9 at HPL HQ HM16 hkk ⊢
  obtain ⟨L, HLL⟩ : ∃ L, Hid (bs ++ PB = L) := ⟨_, rfl⟩
  rw [HLL.out]
  obtain ⟨m2, hm2⟩ : ∃ m2, n + k9 = m2 := ⟨_, rfl⟩
  rw [hm2] at HM16 ⊢
  have hnk : n + k9 ≤ 2147483647 := by omega
  have hm31 : m2 ≤ 2147483647 := by omega
  have HM2 := Lib.hid hm2
  have hz : ∀ W, (zeroValue 23).run Try.prog W = .ok (.agg zeros16.toArray) W := fun W => by kernel_rfl
  have hmk := make_room (P := Try.prog) uT made8 rfl .i64 .i64 m2 (by omega) (by omega)
  clear hiv hl hS hE hm2
  refine (callsIn_wide (n := 6)).1 ?_
  refine callsIn_of_wp_marks Try.func14 rfl trivial ?_
  simp only [Try.ntmps14, List.size_toArray, List.length_cons, List.length_nil, Nat.reduceAdd, Nat.reduceSub, Array.replicate_succ, Array.replicate_zero, List.push_toArray, List.append_toArray, List.nil_append, List.cons_append]
  gi_wp2_with fail
  have hA := heap2 w (.cells #[.pointer P] 27) (.cells (iv.map bv).toArray 23)
  generalize hV : (w.alloc _).alloc _ = W0 at hA ⊢
  have hs0 : Hid (W0.heap.size = w.heap.size + 2) := by rw [← hV]; show _ = _; simp
  have K0 := Lib.hid hA.1; have V0 := Lib.hid hA.2.1; have B0 := Lib.hid hA.2.2
  clear hA hV
  refine ⟨trivial, (callsIn_wide.2 (HC.out W0 (HS.out.below B0.out))).mono ?_⟩
  rintro e w1 ⟨v1, rfl, hO1, hb1⟩
  have O1 := Lib.hid hO1; have b1 := Lib.hid hb1
  obtain ⟨A1, c1, rfl, _⟩ := own_read hO1
  clear hO1 hb1
  gi_wp2_with fail
  refine ⟨trivial, (callsIn_wide.2 (HQ.out w1)).mono ?_⟩
  rintro e w2 ⟨g2, hg2, rfl, hS2, hb2⟩
  have O2 := Lib.hid (c_own_below O1.out hb2)
  have b2 := Lib.hid (b1.out.step hb2)
  have S2 := Lib.hid hS2
  have HM := Lib.hid hg2
  clear hb2 hS2 hg2 O1 b1
  have hsz2 := Lib.hid b2.out.size
  have B3 : Hid (∀ W, Below W0.heap.size W0 W → W.heap[w.heap.size + 1]? = some (.cells (iv.map bv).toArray 23 (0, 0))) := fun W hW => (hW.block _ (by have := hs0.out; omega)).trans V0.out
  gi_wp2_with (first
    | (gi_at_builtin
       refine wpListIn_app8 rfl (.tmp 12) (.tmp 15) rfl W0.heap.size _ n bs rfl O2.out (some ⟨g2, 0, none⟩) k9 k9 w2.heap.size PB rfl S2.out.2.2 HPL.out hnk hsz2.out ?_
       intro v3 w3 hown hgr hat
       rw [HLL.out, HM2.out] at hown
       have O3 := Lib.hid hown
       have b3 := Lib.hid (b2.out.grown hgr b2.out.size (c_own_ge O2.out (Nat.le_refl _)))
       obtain ⟨A3, c3, rfl, _⟩ := own_read hown
       have hs3 := Lib.hid b3.out.size
       have hn1 : w.heap.size + 1 < w3.heap.size := by have h1 := hs0.out; have h2 := b3.out.size; omega
       clear hown hgr hat)
    | (refine wpListIn_ld rfl 23 (.tmp 4) rfl rfl (load_arr arr16B rfl (i16c iv HIV.out) (B3.out _ (b3.out.trans ((heap2 w3 _ _).2.2.mono hs3.out)))) ?_)
    | (refine wpListIn_st rfl 23 (.tmp 9) (.tmp 20) rfl rfl rfl (store_arr (cs := iv.map bv) (old := zeros16) (i16c iv HIV.out) (bv_one _) (heap3 w3 _ _ _).2.2.1 (by rw [List.length_map, HIV.out]; rfl)) ?_
       have hH := heap3 w3 (.cells (Array.replicate m2 (Value.int .u8 0)) 5) (.cells #[.slice (some ⟨w3.heap.size, 0, none⟩) 0 m2] 26) (.cells zeros16.toArray 23)
       generalize hU : ((w3.alloc _).alloc _).alloc _ = W4 at hH ⊢
       have hs4 : Hid (W4.heap.size = w3.heap.size + 3) := by rw [← hU]; show _ = _; simp
       clear hU
       generalize hV : World.setRow _ _ _ = W5
       have R5 := Lib.hid (heap_of_other hV (show w3.heap.size ≠ w3.heap.size + 1 + 1 by omega) hH.1)
       have C5 := Lib.hid (heap_of_other hV (show w3.heap.size + 1 ≠ w3.heap.size + 1 + 1 by omega) hH.2.1)
       have A5 := Lib.hid (heap_of_setRow hV hH.2.2.1)
       have b5 := Lib.hid (hH.2.2.2.trans (below_of_setRow hV (show w3.heap.size ≤ w3.heap.size + 1 + 1 by omega) hH.2.2.2.size))
       clear hV hH)
    | fail)
  refine ⟨trivial, (blocks_in Fence.wide 5 trivial rfl A3 m2 c3 W5).mono ?_⟩
  rintro e w6 ⟨rfl, hw6⟩
  gi_wp2
  -- what lies where at the range
  have hgA := lt_of_heap A5.out
  obtain ⟨gA, HgA⟩ : ∃ g, w3.heap.size + 1 + 1 = g := ⟨_, rfl⟩
  obtain ⟨gO, HgO⟩ : ∃ g, w3.heap.size + 1 = g := ⟨_, rfl⟩
  obtain ⟨g0, Hg0⟩ : ∃ g, w3.heap.size = g := ⟨_, rfl⟩
  obtain ⟨sB, HsB⟩ : ∃ g, W5.heap.size = g := ⟨_, rfl⟩
  have hne : gO ≠ gA ∧ g0 < gO ∧ gO < gA ∧ gA < sB := by omega
  have ESL : Sl w3 A3 c3 L := by
    obtain ⟨A', c', he, h1, h2, h3, h4⟩ := own_read O3.out
    cases he
    exact ⟨by omega, h3, h4⟩
  have EA3 : ∀ b o x, A3 = some ⟨b, o, x⟩ → b < g0 := fun b o x e => by
    subst e
    rw [← Hg0]
    exact (O3.out.lt b rfl).2
  have hLl : L.length = m2 := by have := O3.out.1; simpa using this
  have hw6s : w6.heap.size = sB + 1 := by rw [hw6, World.size_alloc, HsB]
  have b56 : Below W5.heap.size W5 w6 := by rw [hw6]; exact (Below.refl _ _).alloc (Nat.le_refl _) _
  have SB6 : Boxed w6 sB 26 (.slice A3 m2 c3) := by rw [hw6, ← HsB]; exact Boxed.new _ _ _
  rw [HgA] at A5
  rw [HgO] at C5
  have A6 : w6.heap[gA]? = some (.cells (iv.map bv).toArray 23 (0, 0)) := (b56.block _ (lt_of_heap A5.out)).trans A5.out
  have C6 : Boxed w6 gO 26 (.slice (some ⟨g0, 0, none⟩) 0 m2) := by rw [← Hg0]; exact (b56.block _ (lt_of_heap C5.out)).trans C5.out
  have R6 : w6.heap[g0]? = some (.cells (Array.replicate m2 (Value.int .u8 0)) 5 (0, 0)) := by rw [← Hg0]; exact (b56.block _ (lt_of_heap R5.out)).trans R5.out
  have bw6 : Below w3.heap.size w3 w6 := b5.out.step b56
  have O6 : w6.ownsRow g0 5 1 (.slice (some ⟨g0, 0, none⟩) 0 m2) 0 (([] : List UInt8).map bv) :=
    ⟨by simp, .inr ⟨g0, m2, _, rfl, Nat.le_refl _, R6, Nat.zero_le _, by simp [maxLen]; omega, by simp, by simp⟩⟩
  have S6 : Sl w6 A3 c3 L := ESL.below bw6
  have K6 : w6.heap[w.heap.size]? = some (.cells #[.pointer P] 27 (0, 0)) := ?hK6
  case hK6 =>
    have h1 := hs0.out
    have h2 := b3.out
    have h3 : W0.heap[w.heap.size]? = _ := K0.out
    exact (bw6.block _ (by have := h2.size; omega)).trans ((h2.block _ (by omega)).trans h3)
  have hk0 : w.heap.size < g0 := by have h1 := hs0.out; have h2 := b3.out.size; omega
  have HE3' : Enc w3 (.pointer P) E := ?hE3
  case hE3 =>
    refine HEE.out.ext ?_
    have h1 := hs0.out
    exact B0.out.trans (b3.out.mono (by omega))
  have E6 : Enc w6 (.pointer P) E := HE3'.ext bw6
  have bw3 : Hid (Below w.heap.size w w3) := B0.out.trans (b3.out.mono (by have := hs0.out; omega))
  clear hgA HLL HM2 HPL HQ HC HS HL hs0 hs4 R5 C5 A5 b5 b3 B0 B3 K0 V0 O3 HEE
  have HE16 := Lib.hid E6.1
  have HE3 : Hid (Enc w3 (.pointer P) E) := HE3'
  have HXL : Hid (∀ pre : List Blk, (chB E iv pre).1.length = 16 ∧ (chB E iv pre).2.length = 16 * pre.length) := fun pre => chB_len E iv HIV.out HE16.out pre.length pre rfl
  rw [← hw6, HgA, HgO, Hg0, HsB]
  refine wpIn_rangeFunc_ownH (gf := 79) (lb := #[.pointer (some ⟨sB, 0, none⟩)]) rfl (by omega) rfl trivial (enters_of Try.func79 (by kernel_rfl) rfl)
    (blocks_stops Fence.wide 5 trivial rfl (by omega) sB g0 m2 c3 A3 L hLl hm31 w6 SB6.lt SB6.cell S6 (fun _ => EA3)) KpB.trans (kpB_b (by omega) SB6.lt) (Below.refl _ _) (fun _ => rfl)
    (fun (pre : List Blk) W => (((∃ v, Boxed W gO 26 v ∧ W.ownsRow g0 5 1 v (16 * pre.length) ((chB E iv pre).2.map bv) ∧ True) ∧ W.heap[gA]? = some (.cells ((chB E iv pre).1.map bv).toArray 23 (0, 0))) ∧ Boxed W sB 26 (.slice A3 m2 c3)) ∧ Below w3.heap.size w3 W)
    (fun _ _ _ => False)
    (OwnFrom.and (OwnFrom.and (OwnFrom.and (Own.from (holdsRow_own g0 gO _ _ 1 (fun pre : List Blk => 16 * pre.length) (fun pre => (chB E iv pre).2.map bv) (fun _ _ => True)) _) (Own.from (cells_own gA _ (fun pre : List Blk => ((chB E iv pre).1.map bv).toArray)) _)) (Own.from (boxed_own sB _ (fun _ : List Blk => Value.slice A3 m2 c3)) _)) (ownFrom_below (Nat.le_refl _) bw6.size))
    (fun _ _ _ _ _ hs _ _ => hs)
    ⟨⟨⟨⟨_, C6, O6, trivial⟩, A6⟩, SB6⟩, bw6⟩
    (fun x a' W => ∃ Bx, w6.heap.size ≤ Bx ∧ W.heap[Bx]? = some (.cells (x.1.map bv).toArray 23 (0, 0)) ∧ a' = { tmps := #[Value.pointer P, Value.agg (List.map bv iv).toArray, Value.slice A n c,
          Value.pointer (some ⟨w.heap.size, 0, none⟩), Value.pointer (some ⟨w.heap.size + 1, 0, none⟩), undef, Value.slice none 0 0,
          Value.slice A3 m2 c3, Value.pointer (some ⟨gO, 0, none⟩), Value.pointer (some ⟨gA, 0, none⟩), .pointer (some ⟨Bx, 0, none⟩), Value.slice A n c,
          Value.slice A1 n c1, Value.slice A n c, Value.int IntKind.i64 ↑n, Value.slice (some ⟨g2, 0, none⟩) k9 k9, Value.slice A3 m2 c3, Value.slice A3 m2 c3,
          Value.int IntKind.i64 ↑m2, Value.slice (some ⟨g0, 0, none⟩) 0 m2, Value.agg (List.map bv iv).toArray, Value.slice A3 m2 c3,
          Value.func (Fn.func 79) #[] #[Value.pointer (some ⟨sB, 0, none⟩)], .agg (x.1.map bv).toArray, undef, undef, undef, undef, undef, undef, undef, undef, undef], defers := [] })
    (fun x a' _ X Y row hs hg hr => by obtain ⟨Bx, h1, h2, h3⟩ := hs; exact ⟨Bx, h1, cells_own Bx 23 (fun _ : Unit => (x.1.map bv).toArray) () X Y row h2 hg (fun r e => (hr r e).2), h3⟩)
    ?assign ?body ?done ?stop
  case assign =>
    rintro l pre x W K ⟨⟨⟨⟨v, hv1, hv2, _⟩, hA⟩, hSB⟩, hB⟩ hK
    gi_wp2_with (first
      | (refine wpListIn_st rfl 23 (.tmp 10) (.tmp 23) rfl rfl rfl (store_arr (cs := x.1.map bv) (old := zeros16) (i16c x.1 x.2) (bv_one _) (heap_alloc_new' W _) (by rw [List.length_map, x.2]; rfl)) ?_
         generalize hV : World.setRow _ _ _ = W2)
      | fail)
    have hb2 : Below W.heap.size W W2 := ((Below.refl _ W).alloc (Nat.le_refl _) _).trans (below_of_setRow hV (Nat.le_refl _) (by simp))
    have hlt := hSB.lt
    refine hK _ _ (keepsFrom_below hb2) ⟨hb2.mono (by omega), hb2.cell hlt⟩ ⟨⟨⟨⟨v, (hb2.block _ hv1.lt).trans hv1, c_own_below hv2 hb2, trivial⟩, (hb2.block _ (lt_of_heap hA)).trans hA⟩, (hb2.block _ hlt).trans hSB⟩, hB.step hb2⟩ ⟨W.heap.size, by omega, heap_of_setRow hV (heap_alloc_new' W _), ?_⟩
    simp only [HgA, HgO, Hg0, HsB]
  case body =>
    rintro l pre x a' W hl ⟨r, hr⟩ ⟨⟨⟨⟨v, hv1, hv2, _⟩, hA⟩, hSB⟩, hB⟩ ⟨Bx, hBx, hX, rfl⟩ hlt
    have hKW : W.heap[w.heap.size]? = some (.cells #[.pointer P] 27 (0, 0)) := ?hKW
    case hKW => exact (hB.block _ (by omega)).trans ((bw6.block _ (by omega)).symm.trans K6)
    have hEW : Enc W (.pointer P) E := ?hEW
    case hEW => exact HE3.out.ext hB
    have HC16 := Lib.hid (HXL.out pre).1
    have HO16 := Lib.hid (HXL.out pre).2
    have HS := Lib.hid (chB_snoc E iv pre x)
    have hX16 := x.2
    generalize hc : (chB E iv pre).1 = Cc at HC16 HS hA
    generalize ho : (chB E iv pre).2 = Oo at HO16 HS hv2
    obtain ⟨Xx, hXx⟩ : ∃ l, x.1 = l := ⟨_, rfl⟩
    rw [hXx] at hX16 HS hX ⊢
    have HX16 := Lib.hid hX16
    have HC := Lib.hid (fun Wn => cxor_any Xx Cc Wn HX16.out HC16.out)
    have HXC : Hid ((xorL Xx Cc).length = 16) := by show _ = _; rw [xorL_len, HX16.out, HC16.out]; rfl
    have HE := Lib.hid (fun Wn (h : Below W.heap.size W Wn) => hEW.2 Wn h (xorL Xx Cc) HXC.out)
    have HEC := Lib.hid (hEW.1 (xorL Xx Cc) HXC.out)
    generalize E (xorL Xx Cc) = EC at HE HEC HS
    generalize xorL Xx Cc = XC at HC HXC HE
    clear hc ho hX16 hEW
    gi_wp2
    refine regIn_inv (fun L a Wn => ∃ vs : Nat → Value, a = { tmps := #[Value.pointer P, Value.agg (List.map bv iv).toArray, Value.slice A n c,
          Value.pointer (some ⟨w.heap.size, 0, none⟩), Value.pointer (some ⟨w.heap.size + 1, 0, none⟩), undef, Value.slice none 0 0,
          Value.slice A3 m2 c3, Value.pointer (some ⟨gO, 0, none⟩), Value.pointer (some ⟨gA, 0, none⟩), .pointer (some ⟨Bx, 0, none⟩), Value.slice A n c,
          Value.slice A1 n c1, Value.slice A n c, Value.int IntKind.i64 ↑n, Value.slice (some ⟨g2, 0, none⟩) k9 k9, Value.slice A3 m2 c3, Value.slice A3 m2 c3,
          Value.int IntKind.i64 ↑m2, Value.slice (some ⟨g0, 0, none⟩) 0 m2, Value.agg (List.map bv iv).toArray, Value.slice A3 m2 c3,
          Value.func (Fn.func 79) #[] #[Value.pointer (some ⟨sB, 0, none⟩)], .agg (Xx.map bv).toArray, vs 0, vs 1, vs 2, vs 3, vs 4, undef, undef, undef, undef], defers := [] } ∧
        RJ 5 (fun i v _ => v = match i with | 0 => .pointer P | 1 => .agg (Xx.map bv).toArray | 2 => .agg (Cc.map bv).toArray | 3 => .agg (XC.map bv).toArray | _ => .agg (EC.map bv).toArray)
          (fun _ Wn => ∃ Wm, Below W.heap.size W Wm ∧ Wm.setRow gA (EC.map bv).toArray = Wn) W vs L Wn) (by kernel_rfl) (by kernel_rfl) ?_
      (And.intro ?_ (And.intro ?_ (And.intro ?_ (And.intro ?_ (And.intro ?_ (And.intro ?_ trivial)))))) ?_
    · intro L hL
      exact ⟨fun _ => undef, rfl, RJ.start hL ((Below.refl _ _).drew)⟩
    · rintro L a Wn ⟨vs, rfl, H⟩ hLi hd
      refine ⟨rfl, fun K0 hK => ?_⟩
      have hb := H.b0 (H.last (by omega) hLi)
      have hcell : Wn.cell? ⟨w.heap.size, 0, none⟩ = some (.pointer P) := by simp [World.cell?, (hb.block _ (lt_of_heap hKW)).trans hKW]
      go_simp
      exact hK.out _ _ ⟨_, rfl, H.step (fun _ _ _ _ h _ => h) 0 (by omega) hLi (Below.refl _ _) _ rfl⟩
    · rintro L a Wn ⟨vs, rfl, H⟩ hLi hd
      refine ⟨rfl, fun K0 hK => ?_⟩
      have hb := H.b0 (H.last (by omega) hLi)
      refine opIn_load 23 (.tmp 10) rfl rfl (load_arr arr16B rfl (i16c Xx HX16.out) ((hb.block _ (lt_of_heap hX)).trans hX)) ?_
      exact hK.out _ _ ⟨_, rfl, H.step (fun _ _ _ _ h _ => h) 1 (by omega) hLi (Below.refl _ _) _ rfl⟩
    · rintro L a Wn ⟨vs, rfl, H⟩ hLi hd
      refine ⟨rfl, fun K0 hK => ?_⟩
      have hb := H.b0 (H.last (by omega) hLi)
      refine opIn_load 23 (.tmp 9) rfl rfl (load_arr arr16B rfl (i16c Cc HC16.out) ((hb.block _ (lt_of_heap hA)).trans hA)) ?_
      exact hK.out _ _ ⟨_, rfl, H.step (fun _ _ _ _ h _ => h) 2 (by omega) hLi (Below.refl _ _) _ rfl⟩
    · rintro L a Wn ⟨vs, rfl, H⟩ hLi hd
      refine ⟨rfl, fun K0 hK => ?_⟩
      have hn5 := H.last (by omega) hLi
      have e1 : vs 1 = .agg (Xx.map bv).toArray := H.fv hn5 1 (hd ⟨1, .data⟩ (by simp) rfl) (by omega)
      have e2 : vs 2 = .agg (Cc.map bv).toArray := H.fv hn5 2 (hd ⟨2, .data⟩ (by simp) rfl) (by omega)
      simp only [e1, e2]
      go_simp
      refine ⟨trivial, (CallsIn.inRound l (callsIn_wide.2 (HC.out Wn))).mono ?_⟩
      rintro e W' ⟨rfl, hb'⟩
      exact hK.out _ _ ⟨updv vs 3 _, by rw [← e1, ← e2]; rfl, H.step (fun _ _ _ _ h _ => h) 3 (by omega) hLi hb' _ rfl⟩
    · rintro L a Wn ⟨vs, rfl, H⟩ hLi hd
      refine ⟨rfl, fun K0 hK => ?_⟩
      have hn5 := H.last (by omega) hLi
      have e0 : vs 0 = .pointer P := H.fv hn5 0 (hd ⟨0, .data⟩ (by simp) rfl) (by omega)
      have e3 : vs 3 = .agg (XC.map bv).toArray := H.fv hn5 3 (hd ⟨3, .data⟩ (by simp) rfl) (by omega)
      simp only [e0, e3]
      go_simp
      refine ⟨trivial, (CallsIn.inRound l (callsIn_wide.2 (HE.out Wn (H.b0 hn5)))).mono ?_⟩
      rintro e W' ⟨rfl, hb'⟩
      exact hK.out _ _ ⟨updv vs 4 _, by rw [← e0, ← e3]; rfl, H.step (fun _ _ _ _ h _ => h) 4 (by omega) hLi hb' _ rfl⟩
    · rintro L a Wn ⟨vs, rfl, H⟩ hLi hd
      refine ⟨rfl, fun K0 hK => ?_⟩
      have e4 : vs 4 = .agg (EC.map bv).toArray := H.fv hLi 4 (hd ⟨4, .data⟩ (by simp) rfl) (by omega)
      have hb := H.b0 hLi
      refine opIn_store 23 (.tmp 9) (.tmp 28) rfl rfl e4 (store_arr (cs := EC.map bv) (old := Cc.map bv) (i16c EC HEC.out) (bv_one _) ((hb.block _ (lt_of_heap hA)).trans hA) (by rw [List.length_map, List.length_map, HEC.out, HC16.out])) ?_
      refine hK.out _ _ ⟨vs, rfl, H.fin (fun i hi => ?_) ⟨Wn, hb, rfl⟩⟩
      have h5 : i = 0 ∨ i = 1 ∨ i = 2 ∨ i = 3 ∨ i = 4 := by omega
      rcases h5 with rfl | rfl | rfl | rfl | rfl <;> exact hd ⟨_, .phase⟩ (by simp) rfl
    rintro L a Wn hL ⟨vs, rfl, H⟩
    obtain ⟨Wm, hbm, hVm⟩ := H.b1 (hL 5)
    gi_wp2
    have hvB : gO < W.heap.size := hv1.lt
    have hAm : Wm.heap[gA]? = some (.cells (Cc.map bv).toArray 23 (0, 0)) := (hbm.block _ (lt_of_heap hA)).trans hA
    have hAn := heap_of_setRow hVm hAm
    have hvn : Boxed Wn gO 26 v := heap_of_other hVm (by omega) ((hbm.block _ hvB).trans hv1)
    have hSn : Boxed Wn sB 26 (.slice A3 m2 c3) := heap_of_other hVm (by omega) ((hbm.block _ hSB.lt).trans hSB)
    have hgn : Wm.grownBy Wn (some gA) := by rw [← hVm]; exact grown_setRow _ _ _
    have hon : Wn.ownsRow g0 5 1 v (16 * pre.length) (Oo.map bv) := (c_own_below hv2 hbm).kept hgn (.inr (cells_not_row hAm (by decide) (c_own_below hv2 hbm)).symm)
    have hBn : Below w3.heap.size w3 Wn := (hB.step hbm).trans (below_of_setRow hVm (by omega) (by have := hB.size; have := hbm.size; omega))
    have hKn : KeepsFrom w6.heap.size W Wn := (keepsFrom_below hbm).trans (keepsFrom_row hgn (fun j o e ho => by cases e; rw [hAm] at ho; cases ho; rfl))
    have hbg : Below g0 W Wn := (hbm.mono (by have := hB.size; omega)).trans (below_of_setRow hVm (by omega) (by have := hB.size; have := hbm.size; omega))
    obtain ⟨pl, hpl⟩ : ∃ k, 16 * pre.length = k := ⟨_, rfl⟩
    rw [hpl] at hon
    have hpl31 : pl + 16 ≤ 2147483647 := by omega
    have hg0n : g0 ≤ Wn.heap.size := by have := hB.size; have := hbm.size; have := hgn.size; omega
    have sl1 := arr_all arr16B s8 ⟨gA, 0, none⟩
    have hSl : Sl Wn.drew (some ⟨gA, 0, none⟩) 16 EC := sl_row HEC.out (by omega) hAn
    refine regIn_inv (fun L a Wx => ∃ v29 v30 v31 : Value, a = { tmps := #[Value.pointer P, Value.agg (List.map bv iv).toArray, Value.slice A n c,
          Value.pointer (some ⟨w.heap.size, 0, none⟩), Value.pointer (some ⟨w.heap.size + 1, 0, none⟩), undef, Value.slice none 0 0,
          Value.slice A3 m2 c3, Value.pointer (some ⟨gO, 0, none⟩), Value.pointer (some ⟨gA, 0, none⟩), .pointer (some ⟨Bx, 0, none⟩), Value.slice A n c,
          Value.slice A1 n c1, Value.slice A n c, Value.int IntKind.i64 ↑n, Value.slice (some ⟨g2, 0, none⟩) k9 k9, Value.slice A3 m2 c3, Value.slice A3 m2 c3,
          Value.int IntKind.i64 ↑m2, Value.slice (some ⟨g0, 0, none⟩) 0 m2, Value.agg (List.map bv iv).toArray, Value.slice A3 m2 c3,
          Value.func (Fn.func 79) #[] #[Value.pointer (some ⟨sB, 0, none⟩)], .agg (Xx.map bv).toArray, vs 0, vs 1, vs 2, vs 3, vs 4, v29, v30, v31, undef], defers := [] } ∧
        (L 0 = true → v29 = v) ∧ (L 1 = true → v30 = .slice (some ⟨gA, 0, none⟩) 16 16) ∧ (L 2 = true → L 0 = true ∧ L 1 = true) ∧ (L 3 = true → L 2 = true) ∧ (L 2 = false → Wx = Wn.drew) ∧
        (L 2 = true → ∃ w', w'.ownsRow g0 5 1 v31 (pl + 16) ((Oo ++ EC).map bv) ∧ Wn.drew.grownBy w' v.ownBlock ∧ (L 3 = false → Wx = w') ∧ (L 3 = true → Wx = w'.setCell ⟨gO, 0, none⟩ v31))) (by kernel_rfl) (by kernel_rfl) ?_
      (And.intro ?_ (And.intro ?_ (And.intro ?_ (And.intro ?_ trivial)))) ?_
    · intro L hL
      have no : ∀ j, j < 4 → L j = true → False := fun j hj h => by rw [hL j hj] at h; cases h
      exact ⟨_, _, _, rfl, fun h => (no 0 (by decide) h).elim, fun h => (no 1 (by decide) h).elim, fun h => (no 2 (by decide) h).elim, fun h => (no 3 (by decide) h).elim, fun _ => rfl, fun h => (no 2 (by decide) h).elim⟩
    · rintro L a Wx ⟨v29, v30, v31, rfl, F0, F1, D2, D3, F2, F3⟩ hLi hd
      refine ⟨rfl, fun K0 hK => ?_⟩
      have h2 : L 2 = false := by cases h : L 2 with
        | false => rfl
        | true => rw [(D2 h).1] at hLi; cases hLi
      obtain rfl := F2 h2
      have hcell : Wn.drew.cell? ⟨gO, 0, none⟩ = some v := hvn.cell
      go_simp
      exact hK.out _ _ ⟨_, v30, v31, rfl, fun _ => rfl, F1, fun h => (upF h2 (by decide) h).elim, D3, fun _ => rfl, fun h => (upF h2 (by decide) h).elim⟩
    · rintro L a Wx ⟨v29, v30, v31, rfl, F0, F1, D2, D3, F2, F3⟩ hLi hd
      refine ⟨rfl, fun K0 hK => ?_⟩
      have h2 : L 2 = false := by cases h : L 2 with
        | false => rfl
        | true => rw [(D2 h).2] at hLi; cases hLi
      obtain rfl := F2 h2
      go_simp
      exact hK.out _ _ ⟨v29, _, v31, rfl, F0, fun _ => rfl, fun h => (upF h2 (by decide) h).elim, D3, fun _ => rfl, fun h => (upF h2 (by decide) h).elim⟩
    · rintro L a Wx ⟨v29, v30, v31, rfl, F0, F1, D2, D3, F2, F3⟩ hLi hd
      refine ⟨rfl, fun K0 hK => ?_⟩
      obtain rfl := F2 hLi
      have h0 := hd ⟨0, .data⟩ (by simp) rfl
      have h1 := hd ⟨1, .data⟩ (by simp) rfl
      have h3 : L 3 = false := by cases h : L 3 with
        | false => rfl
        | true => rw [D3 h] at hLi; cases hLi
      have hon' : Wn.drew.ownsRow g0 5 1 v pl (Oo.map bv) := hon
      refine opIn_app8 (.tmp 29) (.tmp 30) rfl g0 v pl Oo (F0 h0) hon' (some ⟨gA, 0, none⟩) 16 16 Wn.drew.heap.size EC (F1 h1) hSl.2.2 HEC.out hpl31 hg0n ?_
      intro v' w' hown hgr _
      exact hK.out _ _ ⟨v29, v30, v', rfl, F0, F1, fun _ => ⟨h0, h1⟩, fun h => (upF h3 (by decide) h).elim, fun h => (upS h).elim, fun _ => ⟨w', hown, hgr, fun _ => rfl, fun h => (upF h3 (by decide) h).elim⟩⟩
    · rintro L a Wx ⟨v29, v30, v31, rfl, F0, F1, D2, D3, F2, F3⟩ hLi hd
      refine ⟨rfl, fun K0 hK => ?_⟩
      have h2 := hd ⟨2, .data⟩ (by simp) rfl
      obtain ⟨w', hown, hgr, hw, _⟩ := F3 h2
      obtain rfl := hw hLi
      have hvw : Boxed Wx gO 26 v := Boxed.kept (show Boxed Wn.drew gO 26 v from hvn) hgr (hvn.not_row (by decide) hon)
      have hcell := hvw.cell
      have hfr := hvw.frozen
      obtain ⟨A', c', rfl, _⟩ := own_read hown
      go_simp
      exact hK.out _ _ ⟨v, .slice (some ⟨gA, 0, none⟩) 16 16, _, rfl, fun _ => rfl, fun _ => rfl, fun _ => D2 h2, fun _ => h2, fun h => (upT h2 h).elim, fun _ => ⟨Wx, hown, hgr, fun h => (upS h).elim, fun _ => rfl⟩⟩
    rintro L a Wx hL2 ⟨v29, v30, v31, rfl, _, _, _, _, _, F3⟩
    obtain ⟨w', hown, hgr, _, hwx⟩ := F3 (hL2 2)
    have hWx := hwx (hL2 3)
    clear hwx F3
    have hvw : Boxed w' gO 26 v := Boxed.kept (show Boxed Wn.drew gO 26 v from hvn) hgr (hvn.not_row (by decide) hon)
    have hge : ∀ k, v.ownBlock = some k → g0 ≤ k := c_own_ge hon (Nat.le_refl _)
    have hbw : Below g0 Wn w' := ((Below.refl g0 Wn).drew).grown hgr hg0n hge
    have hsx := grownBy_setCell' w' gO v31
    rw [← hWx] at hsx
    have hbx : Below g0 Wn Wx := hbw.grown hsx (by have := hgr.size; have : Wn.drew.heap.size = Wn.heap.size := rfl; omega) (fun k e => by (cases e; omega))
    have hAw : w'.heap[gA]? = some (.cells (EC.map bv).toArray 23 (0, 0)) := (hgr.block gA (lt_of_heap hAn) (cells_not_row hAn (by decide) hon)).trans hAn
    have hSw : Boxed w' sB 26 (.slice A3 m2 c3) := Boxed.kept (show Boxed Wn.drew sB 26 _ from hSn) hgr (hSn.not_row (by decide) hon)
    have hKx : KeepsFrom w6.heap.size W Wx := ((hKn.trans ((KeepsOthers.drew Wn).from _)).trans (keepsFrom_row hgr (ownBlock_cells (W := Wn.drew) hon))).trans (keepsFrom_row hsx (fun j o e ho => by cases e; rw [show w'.heap[gO]? = _ from hvw] at ho; cases ho; rfl))
    have hSx : Boxed Wx sB 26 (.slice A3 m2 c3) := Boxed.kept hSw hsx (by simp; omega)
    gi_wp2
    refine ⟨hKx, ⟨hbg.trans hbx, hSx.cell.trans hSB.cell.symm⟩, ⟨⟨⟨v31, ?_, ?_, trivial⟩, ?_⟩, hSx⟩, hBn.trans (hbx.mono (by omega))⟩
    · rw [hWx]; exact hvw.set v31
    · rw [HS.out, List.length_append, Nat.mul_add, hpl]
      exact hown.kept hsx (.inr (hvw.not_row (by decide) hown).symm)
    · rw [HS.out]; exact (hsx.block gA (lt_of_heap hAw) (by simp; omega)).trans hAw
  case done =>
    rintro D xs W hD rfl ⟨⟨⟨⟨v, hv1, hv2, _⟩, hA⟩, hSB⟩, hB⟩ hK
    have cO := hv1.cell
    obtain ⟨Av, cv, rfl, _⟩ := own_read hv2
    gi_wp2
    have h16 : 16 * (m2 / 16) = m2 := by have := HM16.out; omega
    refine ⟨by simp, .inl ⟨_, _, rfl, run_takeDeferred hK, ?_⟩⟩
    refine ⟨_, results_tmp rfl _ _ _, _, rfl, ?_, ?_⟩
    · rw [blkUp_len, chB_up, h16] at hv2
      have := own_mono (ownsRow_putObj hv2 (.deferred none) hK rfl) (show w.heap.size ≤ g0 by omega)
      rw [blkUp_len, h16]
      exact this
    · exact (bw3.out.step (hB.trans (belowK_b (w := w6) (by omega) W D _ _ hD hK rfl rfl)))
  case stop =>
    rintro D c pre W _ _ h _
    exact h.elim
end Go.Proofs.Ytjmpbcfbfbjenaa

/- cbc.Open. -/
namespace Go.Proofs.Ytjmpbcfbfbjenaa
open Go.RowKit Go.Shelf
set_option linter.unusedVariables false
set_option linter.unusedSimpArgs false
set_option maxRecDepth 100000
attribute [local go_sem] Oper.semAt_some
/-- what deciphers, as calls see it -/
def Dcp (w : World) (kp : Value) (D : List UInt8 → List UInt8) : Prop :=
  (∀ x, x.length = 16 → (D x).length = 16) ∧ ∀ W, Below w.heap.size w W → ∀ x, x.length = 16 → Calls Try.prog 42 #[kp, .agg (x.map bv).toArray] W fun e w' => e = .returned (.agg ((D x).map bv).toArray) ∧ Below W.heap.size W w'
theorem Dcp.ext {w w' : World} {kp : Value} {D : List UInt8 → List UInt8} (h : Dcp w kp D) (hb : Below w.heap.size w w') : Dcp w' kp D := ⟨h.1, fun W hW x hx => h.2 W (hb.step hW) x hx⟩
theorem KeyAt.dcp {w : World} {g n : Nat} {ws : List W32} (h : KeyAt w g ws n) (hn : 1 ≤ n) (hn2 : n ≤ 14) : Dcp w (.pointer (some ⟨g, 0, none⟩)) (decL ws n) :=
  ⟨fun x hx => by rw [decL, decT, outL_len, addW_len _ _ _ (decN_len _ _ _ _ _) (by have := h.1; omega)], fun W hW x hx => dec_any g n ws x W hx hn hn2 (h.ext hW)⟩
def openO (D : List UInt8 → List UInt8) (iv b : List UInt8) : Option Nat := if b.length % 16 ≠ 0 then none else upO (unchL D iv b (b.length / 16))
/-- what opening comes to -/
def OpenC (w : World) (D : List UInt8 → List UInt8) (iv b : List UInt8) (v : Value) (x : Int) (w' : World) : Prop :=
  match openO D iv b with
  | none => v = .slice none 0 0 ∧ x = 16
  | some k => x = 0 ∧ k < b.length ∧ w'.ownsRow w.heap.size 5 1 v k (((unchL D iv b (b.length / 16)).take k).map bv)
set_option maxHeartbeats 4000000 in
theorem open_odd (P : Option Addr) (D : List UInt8 → List UInt8) (iv : List UInt8) (A : Option Addr) (n c : Nat) (bs : List UInt8) (w : World) (hl : bs.length = n) (hn : n ≤ 2147000000) (h16 : n % 16 ≠ 0) :
    Calls Try.prog 18 #[.pointer P, .agg (iv.map bv).toArray, .slice A n c] w fun e w' => ∃ v x, e = .returned (.tuple #[v, .int .i64 x]) ∧ OpenC w D iv bs v x w' ∧ Below w.heap.size w w' := by
  have e1 : (n : Int).tmod 16 = ((n % 16 : Nat) : Int) := by rw [Int.tmod_eq_emod_of_nonneg (by omega)]; omega
  obtain ⟨r, hr⟩ : ∃ r, n % 16 = r := ⟨_, rfl⟩
  rw [hr] at e1 h16
  have t1 : ((r : Int) != 0) = true := by simp; omega
  have HO : Hid (∀ w', OpenC w D iv bs (.slice none 0 0) 16 w') := fun w' => by
    unfold OpenC openO
    rw [if_pos (by omega)]
    exact ⟨rfl, rfl⟩
  generalize OpenC w D iv bs = OC at HO ⊢
  clear hr h16 hl
  refine (callsIn_wide (n := 6)).1 ?_
  refine callsIn_of_wp_marks Try.func18 rfl trivial ?_
  simp only [Try.ntmps18, List.size_toArray, List.length_cons, List.length_nil, Nat.reduceAdd, Nat.reduceSub, Array.replicate_succ, Array.replicate_zero, List.push_toArray, List.append_toArray, List.nil_append, List.cons_append]
  gi_wp2_with fail
  exact ⟨.tuple #[.slice none 0 0, .int .i64 16], by simp [results, Try.f18, go_sem], _, _, rfl, HO.out _, ((Below.refl _ w).alloc (Nat.le_refl _) _).alloc (by simp) _⟩
theorem heap4o (w : World) (o1 o2 o3 o4 : Obj) : ((((w.alloc o1).alloc o2).alloc o3).alloc o4).heap[w.heap.size]? = some o1 ∧ ((((w.alloc o1).alloc o2).alloc o3).alloc o4).heap[w.heap.size + 1]? = some o2 ∧
    ((((w.alloc o1).alloc o2).alloc o3).alloc o4).heap[w.heap.size + 1 + 1]? = some o3 ∧ ((((w.alloc o1).alloc o2).alloc o3).alloc o4).heap[w.heap.size + 1 + 1 + 1]? = some o4 ∧ Below w.heap.size w ((((w.alloc o1).alloc o2).alloc o3).alloc o4) := by
  obtain ⟨h1, h2, h3, h4⟩ := heap3 w o1 o2 o3
  have e3 : (((w.alloc o1).alloc o2).alloc o3).heap.size = w.heap.size + 1 + 1 + 1 := by simp
  refine ⟨?_, ?_, ?_, ?_, h4.alloc (by omega) _⟩
  · rw [Below.heap_alloc _ _ _ (by omega)]; exact h1
  · rw [Below.heap_alloc _ _ _ (by omega)]; exact h2
  · rw [Below.heap_alloc _ _ _ (by omega)]; exact h3
  · rw [← e3]; exact heap_alloc_new' _ _
theorem unB_len (D : List UInt8 → List UInt8) (iv : List UInt8) (hiv : iv.length = 16) (hD : ∀ x, x.length = 16 → (D x).length = 16) : ∀ (k : Nat) (pre : List Blk), pre.length = k → (unB D iv pre).1.length = 16 ∧ (unB D iv pre).2.length = 16 * k
  | 0, pre, h => by
    obtain rfl := List.eq_nil_of_length_eq_zero h
    exact ⟨hiv, rfl⟩
  | k + 1, pre, h => by
    rcases List.eq_nil_or_concat pre with rfl | ⟨q, x, rfl⟩
    · simp at h
    · rw [List.concat_eq_append] at h ⊢
      have ih := unB_len D iv hiv hD k q (by simpa using h)
      have h := hD x.1 x.2
      rw [unB_snoc]
      refine ⟨x.2, ?_⟩
      simp only [List.length_append, xorL_len, h, ih.1, ih.2]
      omega
theorem upO_lt {U : List UInt8} {n k : Nat} (hl : U.length = n) (h : upO U = some k) : k < n ∧ 0 < n := by
  unfold upO at h
  split at h
  · cases h
  · rename_i h0
    split at h
    · rename_i h1
      injection h with h
      have hz : (U.getD (U.length - 1) 0).toNat ≠ 0 := fun hz => by
        rw [hz, Nat.sub_zero, List.drop_length] at h1
        have := congrArg List.length h1.2
        rw [padB_len] at this
        have := padK9_le U.length
        simp at *
        omega
      omega
    · cases h
theorem upO_ge {U : List UInt8} {n k : Nat} (hl : U.length = n) (h : upO U = some k) : n ≤ k + 16 := by
  unfold upO at h
  split at h
  · cases h
  · rename_i h0
    split at h
    · rename_i h1
      injection h with h
      have h2 := congrArg List.length h1.2
      rw [padB_len, List.length_drop] at h2
      have := padK9_le (U.length - (U.getD (U.length - 1) 0).toNat)
      omega
    · cases h
def RO7 (P : Option Addr) (Xx DX Cc PX : List UInt8) (n0 : Nat) : Nat → Value → World → Prop
  | 0, v, _ => v = .pointer P
  | 1, v, _ => v = .agg (Xx.map bv).toArray
  | 2, v, _ => v = .agg (DX.map bv).toArray
  | 3, v, _ => v = .agg (Cc.map bv).toArray
  | 4, v, _ => v = .agg (PX.map bv).toArray
  | _, v, Wn => ∃ g, v = .pointer (some ⟨g, 0, none⟩) ∧ n0 ≤ g ∧ Wn.heap[g]? = some (.cells zeros16.toArray 23 (0, 0))
theorem RO7.keep (P : Option Addr) (Xx DX Cc PX : List UInt8) (n0 : Nat) (i : Nat) (v : Value) (A B : World) (h : RO7 P Xx DX Cc PX n0 i v A) (hb : Below A.heap.size A B) : RO7 P Xx DX Cc PX n0 i v B := by
  rcases i with _ | _ | _ | _ | _ | i
  · exact h
  · exact h
  · exact h
  · exact h
  · exact h
  · obtain ⟨g, h1, h2, h3⟩ := h
    exact ⟨g, h1, h2, (hb.block _ (lt_of_heap h3)).trans h3⟩
theorem own_cut {w : World} {base : Nat} {A : Option Addr} {n c k : Nat} {bs : List UInt8} (h : w.ownsRow base 5 1 (.slice A n c) n (bs.map bv)) (hk : k ≤ n) (h0 : 0 < n) : w.ownsRow base 5 1 (.slice A k c) k ((bs.take k).map bv) := by
  rcases h.2 with ⟨h1, h2⟩ | ⟨g, cap, cur, h1, h2, h3, h4, h5, h6, h7⟩
  · omega
  · cases h1
    refine ⟨by have := h.1; simp at this ⊢; omega, .inr ⟨g, _, cur, rfl, h2, h3, by omega, h5, h6, ?_⟩⟩
    rw [List.map_take, ← h7, List.take_take]
    congr 1
    omega
set_option maxHeartbeats 4000000 in
theorem open_any (P : Option Addr) (D : List UInt8 → List UInt8) (iv : List UInt8) (A : Option Addr) (n c m : Nat) (bs : List UInt8) (w : World) (hiv : iv.length = 16) (hD : Dcp w (.pointer P) D) (hl : bs.length = n) (hm : n = 16 * m) (hn : n ≤ 2147000000) (hS : Sl w A c bs) :
    Calls Try.prog 18 #[.pointer P, .agg (iv.map bv).toArray, .slice A n c] w fun e w' => ∃ v x, e = .returned (.tuple #[v, .int .i64 x]) ∧ OpenC w D iv bs v x w' ∧ Below w.heap.size w w' := by
  have HIV := Lib.hid hiv; have HL := Lib.hid hl; have HS := Lib.hid hS; have HDD := Lib.hid hD; have HM := Lib.hid hm
  have e1 : (n : Int).tmod 16 = 0 := by rw [Int.tmod_eq_emod_of_nonneg (by omega)]; omega
  have hz : ∀ W, (zeroValue 23).run Try.prog W = .ok (.agg zeros16.toArray) W := fun W => by kernel_rfl
  have hmk := make_room (P := Try.prog) uT made8 rfl .i64 .i64 n (by omega) (by omega)
  have hm31 : n ≤ 2147483647 := by omega
  clear hiv hl hS hD hm
  refine (callsIn_wide (n := 6)).1 ?_
  refine callsIn_of_wp_marks Try.func18 rfl trivial ?_
  simp only [Try.ntmps18, List.size_toArray, List.length_cons, List.length_nil, Nat.reduceAdd, Nat.reduceSub, Array.replicate_succ, Array.replicate_zero, List.push_toArray, List.append_toArray, List.nil_append, List.cons_append]
  gi_wp2_with (first
    | (have hH := heap4o w (.cells #[.pointer P] 27) (.cells (iv.map bv).toArray 23) (.cells (Array.replicate n (Value.int .u8 0)) 5) (.cells #[.slice (some ⟨w.heap.size + 1 + 1, 0, none⟩) 0 n] 26)
       have hs4 : Hid (((((w.alloc (.cells #[.pointer P] 27)).alloc (.cells (iv.map bv).toArray 23)).alloc (.cells (Array.replicate n (Value.int .u8 0)) 5)).alloc (.cells #[.slice (some ⟨w.heap.size + 1 + 1, 0, none⟩) 0 n] 26)).heap.size = w.heap.size + 1 + 1 + 1 + 1) := by show _ = _; simp
       generalize hV : (((w.alloc _).alloc _).alloc _).alloc _ = W4 at hH hs4 ⊢
       refine wpListIn_ld rfl 23 (.tmp 4) rfl rfl (load_arr arr16B rfl (i16c iv HIV.out) hH.2.1) ?_
       have H4 := Lib.hid hH
       clear hV hH)
    | (refine wpListIn_st rfl 23 (.tmp 9) (.tmp 21) rfl rfl rfl (store_arr (cs := iv.map bv) (old := zeros16) (i16c iv HIV.out) (bv_one _) (heap_alloc_new' W4 _) (by rw [List.length_map, HIV.out]; rfl)) ?_
       generalize hV : World.setRow _ _ _ = W5
       have A5 := Lib.hid (heap_of_setRow hV (heap_alloc_new' W4 _))
       have hs5 : Hid (W5.heap.size = W4.heap.size + 1) := by rw [← hV]; show _ = _; simp [World.setRow]
       have b5 := Lib.hid (((Below.refl _ W4).alloc (Nat.le_refl _) _).trans (below_of_setRow hV (Nat.le_refl _) (by simp)))
       clear hV)
    | fail)
  refine ⟨trivial, (blocks_in Fence.wide 5 trivial rfl A n c W5).mono ?_⟩
  rintro e w6 ⟨rfl, hw6⟩
  gi_wp2
  -- what lies where at the range
  obtain ⟨H41, H42, H43, H44, H4b⟩ := H4.out
  have hs4' := hs4.out
  have hs5' := hs5.out
  obtain ⟨gO, HgO⟩ : ∃ g, w.heap.size + 1 + 1 + 1 = g := ⟨_, rfl⟩
  obtain ⟨gA, HgA⟩ : ∃ g, W4.heap.size = g := ⟨_, rfl⟩
  obtain ⟨g0, Hg0⟩ : ∃ g, w.heap.size + 1 + 1 = g := ⟨_, rfl⟩
  obtain ⟨sB, HsB⟩ : ∃ g, W5.heap.size = g := ⟨_, rfl⟩
  have hne : gO ≠ gA ∧ g0 < gO ∧ gO < gA ∧ gA < sB ∧ w.heap.size + 2 = g0 := by omega
  have ESL : Sl w A c bs := HS.out
  have hLl : bs.length = n := HL.out
  have EA3 : 16 ≤ n → ∀ b o x, A = some ⟨b, o, x⟩ → b < g0 := fun h16 b o x e => by
    obtain ⟨b', o', e', h2, _⟩ := c_sl_cell ESL (i := 0) (by omega)
    rw [e] at e'
    cases e'
    omega
  have hw6s : w6.heap.size = sB + 1 := by rw [hw6, World.size_alloc, HsB]
  have b56 : Below W5.heap.size W5 w6 := by rw [hw6]; exact (Below.refl _ _).alloc (Nat.le_refl _) _
  have b46 : Below W4.heap.size W4 w6 := b5.out.step b56
  have SB6 : Boxed w6 sB 26 (.slice A n c) := by rw [hw6, ← HsB]; exact Boxed.new _ _ _
  have A5' := A5.out
  rw [HgA] at A5'
  have A6 : w6.heap[gA]? = some (.cells (iv.map bv).toArray 23 (0, 0)) := (b56.block _ (by omega)).trans A5'
  have C6 : Boxed w6 gO 26 (.slice (some ⟨g0, 0, none⟩) 0 n) := by rw [← HgO, ← Hg0]; exact (b46.block _ (by omega)).trans H44
  have R6 : w6.heap[g0]? = some (.cells (Array.replicate n (Value.int .u8 0)) 5 (0, 0)) := by rw [← Hg0]; exact (b46.block _ (by omega)).trans H43
  have bw6 : Below g0 W4 w6 := b46.mono (by omega)
  have O6 : w6.ownsRow g0 5 1 (.slice (some ⟨g0, 0, none⟩) 0 n) 0 (([] : List UInt8).map bv) :=
    ⟨by simp, .inr ⟨g0, n, _, rfl, Nat.le_refl _, R6, Nat.zero_le _, by simp [maxLen]; omega, by simp, by simp⟩⟩
  have bwW : Below w.heap.size w w6 := H4b.trans (b46.mono (by omega))
  have S6 : Sl w6 A c bs := ESL.below bwW
  have K4 : W4.heap[w.heap.size]? = some (.cells #[.pointer P] 27 (0, 0)) := H41
  have hg04 : g0 ≤ W4.heap.size := by omega
  have H4w := Lib.hid H4b
  clear R6 H41 H42 H43 H44 A5' H4 A5 b5 HS HL ESL H4b
  have HD16 := Lib.hid HDD.out.1
  have HXL : Hid (∀ pre : List Blk, (unB D iv pre).1.length = 16 ∧ (unB D iv pre).2.length = 16 * pre.length) := fun pre => unB_len D iv HIV.out HD16.out pre.length pre rfl
  rw [← hw6, HgO, HgA, Hg0, HsB]
  refine wpIn_rangeFunc_ownH (gf := 79) (lb := #[.pointer (some ⟨sB, 0, none⟩)]) rfl (by omega) rfl trivial (enters_of Try.func79 (by kernel_rfl) rfl)
    (blocks_stops Fence.wide 5 trivial rfl (by omega) sB g0 n c A bs hLl hm31 w6 SB6.lt SB6.cell S6 EA3) KpB.trans (kpB_b (by omega) SB6.lt) (Below.refl _ _) (fun _ => rfl)
    (fun (pre : List Blk) W => (((∃ v, Boxed W gO 26 v ∧ W.ownsRow g0 5 1 v (16 * pre.length) ((unB D iv pre).2.map bv) ∧ True) ∧ W.heap[gA]? = some (.cells ((unB D iv pre).1.map bv).toArray 23 (0, 0))) ∧ Boxed W sB 26 (.slice A n c)) ∧ Below g0 W4 W)
    (fun _ _ _ => False)
    (OwnFrom.and (OwnFrom.and (OwnFrom.and (Own.from (holdsRow_own g0 gO _ _ 1 (fun pre : List Blk => 16 * pre.length) (fun pre => (unB D iv pre).2.map bv) (fun _ _ => True)) _) (Own.from (cells_own gA _ (fun pre : List Blk => ((unB D iv pre).1.map bv).toArray)) _)) (Own.from (boxed_own sB _ (fun _ : List Blk => Value.slice A n c)) _)) (ownFrom_below hg04 (by omega)))
    (fun _ _ _ _ _ hs _ _ => hs)
    ⟨⟨⟨⟨_, C6, O6, trivial⟩, A6⟩, SB6⟩, bw6⟩
    (fun x a' W => ∃ Bx, w6.heap.size ≤ Bx ∧ W.heap[Bx]? = some (.cells (x.1.map bv).toArray 23 (0, 0)) ∧ a' = { tmps := #[Value.pointer P, Value.agg (List.map bv iv).toArray, Value.slice A n c, Value.pointer (some ⟨w.heap.size, 0, none⟩), Value.pointer (some ⟨w.heap.size + 1, 0, none⟩), undef, Value.slice none 0 0,
          Value.int IntKind.i64 0, Value.pointer (some ⟨gO, 0, none⟩), Value.pointer (some ⟨gA, 0, none⟩), .pointer (some ⟨Bx, 0, none⟩), undef, undef, undef, Value.slice A n c, Value.int IntKind.i64 ↑n, Value.int IntKind.i64 0, Value.bool false, Value.slice A n c,
          Value.int IntKind.i64 ↑n, Value.slice (some ⟨g0, 0, none⟩) 0 n, Value.agg (List.map bv iv).toArray, Value.slice A n c, Value.func (Fn.func 79) #[] #[Value.pointer (some ⟨sB, 0, none⟩)],
          .agg (x.1.map bv).toArray, undef, undef, undef, undef, undef, undef, undef, undef, undef, undef, undef, undef, undef, undef, undef, undef, undef, undef, undef, undef], defers := [] })
    (fun x a' _ X Y row hs hg hr => by obtain ⟨Bx, h1, h2, h3⟩ := hs; exact ⟨Bx, h1, cells_own Bx 23 (fun _ : Unit => (x.1.map bv).toArray) () X Y row h2 hg (fun r e => (hr r e).2), h3⟩)
    ?assign ?body ?done ?stop
  case assign =>
    rintro l pre x W K ⟨⟨⟨⟨v, hv1, hv2, _⟩, hA⟩, hSB⟩, hB⟩ hK
    gi_wp2_with (first
      | (refine wpListIn_st rfl 23 (.tmp 10) (.tmp 24) rfl rfl rfl (store_arr (cs := x.1.map bv) (old := zeros16) (i16c x.1 x.2) (bv_one _) (heap_alloc_new' W _) (by rw [List.length_map, x.2]; rfl)) ?_
         generalize hV : World.setRow _ _ _ = W2)
      | fail)
    have hb2 : Below W.heap.size W W2 := ((Below.refl _ W).alloc (Nat.le_refl _) _).trans (below_of_setRow hV (Nat.le_refl _) (by simp))
    have hlt := hSB.lt
    refine hK _ _ (keepsFrom_below hb2) ⟨hb2.mono (by omega), hb2.cell hlt⟩ ⟨⟨⟨⟨v, (hb2.block _ hv1.lt).trans hv1, c_own_below hv2 hb2, trivial⟩, (hb2.block _ (lt_of_heap hA)).trans hA⟩, (hb2.block _ hlt).trans hSB⟩, hB.trans (hb2.mono (by omega))⟩ ⟨W.heap.size, by omega, heap_of_setRow hV (heap_alloc_new' W _), rfl⟩
  case body =>
    rintro l pre x a' W hl ⟨r, hr⟩ ⟨⟨⟨⟨v, hv1, hv2, _⟩, hA⟩, hSB⟩, hB⟩ ⟨Bx, hBx, hX, rfl⟩ hlt
    have hsBlt := hSB.lt
    have hKW : W.heap[w.heap.size]? = some (.cells #[.pointer P] 27 (0, 0)) := (hB.block _ (by omega)).trans K4
    have hDW : Dcp W (.pointer P) D := HDD.out.ext (H4w.out.trans (hB.mono (by omega)))
    have HC16 := Lib.hid (HXL.out pre).1
    have HO16 := Lib.hid (HXL.out pre).2
    have HSn := Lib.hid (unB_snoc D iv pre x)
    have hX16 := x.2
    generalize hc : (unB D iv pre).1 = Cc at HC16 HSn hA
    generalize ho : (unB D iv pre).2 = Oo at HO16 HSn hv2
    obtain ⟨Xx, hXx⟩ : ∃ l, x.1 = l := ⟨_, rfl⟩
    rw [hXx] at hX16 HSn hX ⊢
    have HX16 := Lib.hid hX16
    have HDX := Lib.hid (hDW.1 Xx hX16)
    have HDc := Lib.hid (fun Wn (h : Below W.heap.size W Wn) => hDW.2 Wn h Xx HX16.out)
    have HXC : Hid ((xorL (D Xx) Cc).length = 16) := by show _ = _; rw [xorL_len, HDX.out, HC16.out]; rfl
    have HC := Lib.hid (fun Wn => cxor_any (D Xx) Cc Wn HDX.out HC16.out)
    generalize xorL (D Xx) Cc = PX at HC HXC HSn
    generalize D Xx = DX at HDX HDc HC
    clear hc ho hX16 hDW
    gi_wp2
    refine regIn_inv (fun L a Wn => ∃ vs : Nat → Value, a = { tmps := #[Value.pointer P, Value.agg (List.map bv iv).toArray, Value.slice A n c, Value.pointer (some ⟨w.heap.size, 0, none⟩), Value.pointer (some ⟨w.heap.size + 1, 0, none⟩), undef, Value.slice none 0 0,
          Value.int IntKind.i64 0, Value.pointer (some ⟨gO, 0, none⟩), Value.pointer (some ⟨gA, 0, none⟩), .pointer (some ⟨Bx, 0, none⟩), vs 5, undef, undef, Value.slice A n c, Value.int IntKind.i64 ↑n, Value.int IntKind.i64 0, Value.bool false, Value.slice A n c,
          Value.int IntKind.i64 ↑n, Value.slice (some ⟨g0, 0, none⟩) 0 n, Value.agg (List.map bv iv).toArray, Value.slice A n c, Value.func (Fn.func 79) #[] #[Value.pointer (some ⟨sB, 0, none⟩)],
          .agg (Xx.map bv).toArray, vs 0, vs 1, vs 2, vs 3, vs 4, undef, undef, undef, undef, undef, undef, undef, undef, undef, undef, undef, undef, undef, undef, undef], defers := [] } ∧
        RJ 6 (RO7 P Xx DX Cc PX W.heap.size)
          (fun vs Wn => ∃ g, vs 5 = .pointer (some ⟨g, 0, none⟩) ∧ W.heap.size ≤ g ∧ Wn.heap[g]? = some (.cells (PX.map bv).toArray 23 (0, 0)) ∧ Below W.heap.size W Wn) W vs L Wn) (by kernel_rfl) (by kernel_rfl) ?_
      (And.intro ?_ (And.intro ?_ (And.intro ?_ (And.intro ?_ (And.intro ?_ (And.intro ?_ (And.intro ?_ trivial))))))) ?_
    · intro L hL
      exact ⟨fun _ => undef, rfl, RJ.start hL ((Below.refl _ _).drew)⟩
    all_goals try have hRs := RO7.keep P Xx DX Cc PX W.heap.size
    · rintro L a Wn ⟨vs, rfl, H⟩ hLi hd
      refine ⟨rfl, fun K0 hK => ?_⟩
      have hb := H.b0 (H.last (by omega) hLi)
      have hcell : Wn.cell? ⟨w.heap.size, 0, none⟩ = some (.pointer P) := by simp [World.cell?, (hb.block _ (lt_of_heap hKW)).trans hKW]
      go_simp
      exact hK.out _ _ ⟨_, rfl, H.step hRs 0 (by omega) hLi (Below.refl _ _) _ rfl⟩
    · rintro L a Wn ⟨vs, rfl, H⟩ hLi hd
      refine ⟨rfl, fun K0 hK => ?_⟩
      have hb := H.b0 (H.last (by omega) hLi)
      refine opIn_load 23 (.tmp 10) rfl rfl (load_arr arr16B rfl (i16c Xx HX16.out) ((hb.block _ (lt_of_heap hX)).trans hX)) ?_
      exact hK.out _ _ ⟨_, rfl, H.step hRs 1 (by omega) hLi (Below.refl _ _) _ rfl⟩
    · rintro L a Wn ⟨vs, rfl, H⟩ hLi hd
      refine ⟨rfl, fun K0 hK => ?_⟩
      have hn6 := H.last (by omega) hLi
      have e0 : vs 0 = .pointer P := H.fv hn6 0 (hd ⟨0, .data⟩ (by simp) rfl) (by omega)
      have e1 : vs 1 = .agg (Xx.map bv).toArray := H.fv hn6 1 (hd ⟨1, .data⟩ (by simp) rfl) (by omega)
      simp only [e0, e1]
      go_simp
      refine ⟨trivial, (CallsIn.inRound l (callsIn_wide.2 (HDc.out Wn (H.b0 hn6)))).mono ?_⟩
      rintro e W' ⟨rfl, hb'⟩
      exact hK.out _ _ ⟨updv vs 2 _, by rw [← e0, ← e1]; rfl, H.step hRs 2 (by omega) hLi hb' _ rfl⟩
    · rintro L a Wn ⟨vs, rfl, H⟩ hLi hd
      refine ⟨rfl, fun K0 hK => ?_⟩
      have hb := H.b0 (H.last (by omega) hLi)
      refine opIn_load 23 (.tmp 9) rfl rfl (load_arr arr16B rfl (i16c Cc HC16.out) ((hb.block _ (lt_of_heap hA)).trans hA)) ?_
      exact hK.out _ _ ⟨_, rfl, H.step hRs 3 (by omega) hLi (Below.refl _ _) _ rfl⟩
    · rintro L a Wn ⟨vs, rfl, H⟩ hLi hd
      refine ⟨rfl, fun K0 hK => ?_⟩
      have hn6 := H.last (by omega) hLi
      have e2 : vs 2 = .agg (DX.map bv).toArray := H.fv hn6 2 (hd ⟨2, .data⟩ (by simp) rfl) (by omega)
      have e3 : vs 3 = .agg (Cc.map bv).toArray := H.fv hn6 3 (hd ⟨3, .data⟩ (by simp) rfl) (by omega)
      simp only [e2, e3]
      go_simp
      refine ⟨trivial, (CallsIn.inRound l (callsIn_wide.2 (HC.out Wn))).mono ?_⟩
      rintro e W' ⟨rfl, hb'⟩
      exact hK.out _ _ ⟨updv vs 4 _, by rw [← e2, ← e3]; rfl, H.step hRs 4 (by omega) hLi hb' _ rfl⟩
    · rintro L a Wn ⟨vs, rfl, H⟩ hLi hd
      refine ⟨rfl, fun K0 hK => ?_⟩
      have hn6 := H.last (by omega) hLi
      go_simp
      exact hK.out _ _ ⟨_, rfl, H.step hRs 5 (by omega) hLi ((Below.refl _ _).alloc (Nat.le_refl _) _) _ ⟨Wn.heap.size, rfl, (H.b0 hn6).size, heap_alloc_new' Wn _⟩⟩
    · rintro L a Wn ⟨vs, rfl, H⟩ hLi hd
      refine ⟨rfl, fun K0 hK => ?_⟩
      have e4 : vs 4 = .agg (PX.map bv).toArray := H.fv hLi 4 (hd ⟨4, .data⟩ (by simp) rfl) (by omega)
      obtain ⟨g, e5, hgs, hgz⟩ : ∃ g, vs 5 = .pointer (some ⟨g, 0, none⟩) ∧ W.heap.size ≤ g ∧ Wn.heap[g]? = some (.cells zeros16.toArray 23 (0, 0)) := H.fv hLi 5 (hd ⟨5, .data⟩ (by simp) rfl) (by omega)
      have hb := H.b0 hLi
      refine opIn_store 23 (.tmp 11) (.tmp 29) rfl e5 e4 (store_arr (cs := PX.map bv) (old := zeros16) (i16c PX HXC.out) (bv_one _) hgz (by rw [List.length_map, HXC.out]; rfl)) ?_
      refine hK.out _ _ ⟨vs, rfl, H.fin (fun i hi => ?_) ⟨g, e5, hgs, heap_of_setRow rfl hgz, hb.trans (below_of_setRow rfl hgs hb.size)⟩⟩
      have h5 : i = 0 ∨ i = 1 ∨ i = 2 ∨ i = 3 ∨ i = 4 ∨ i = 5 := by omega
      rcases h5 with rfl | rfl | rfl | rfl | rfl | rfl <;> exact hd ⟨_, .phase⟩ (by simp) rfl
    rintro L a Wn hL ⟨vs, rfl, H⟩
    obtain ⟨gP, e5, hgP, hP, hbm⟩ := H.b1 (hL 6)
    rw [e5]
    generalize vs 0 = z0
    generalize vs 1 = z1
    generalize vs 2 = z2
    generalize vs 3 = z3
    generalize vs 4 = z4
    clear H e5
    gi_wp2
    have hvB : gO < W.heap.size := hv1.lt
    have hAn : Wn.heap[gA]? = some (.cells (Cc.map bv).toArray 23 (0, 0)) := (hbm.block _ (lt_of_heap hA)).trans hA
    have hXn : Wn.heap[Bx]? = some (.cells (Xx.map bv).toArray 23 (0, 0)) := (hbm.block _ (lt_of_heap hX)).trans hX
    have hvn : Boxed Wn gO 26 v := (hbm.block _ hvB).trans hv1
    have hSn : Boxed Wn sB 26 (.slice A n c) := (hbm.block _ hSB.lt).trans hSB
    have hon : Wn.ownsRow g0 5 1 v (16 * pre.length) (Oo.map bv) := c_own_below hv2 hbm
    have hg0W : g0 ≤ W.heap.size := by have := hB.size; omega
    obtain ⟨pl, hpl⟩ : ∃ k, 16 * pre.length = k := ⟨_, rfl⟩
    rw [hpl] at hon
    have hpl31 : pl + 16 ≤ 2147483647 := by omega
    have hg0n : g0 ≤ Wn.heap.size := by have := hbm.size; omega
    have sl1 := arr_all arr16B s8 ⟨gP, 0, none⟩
    have hSl : Sl Wn.drew (some ⟨gP, 0, none⟩) 16 PX := sl_row HXC.out (by omega) hP
    refine regIn_inv (fun L a Wx => ∃ v29 v30 v31 : Value, a = { tmps := #[Value.pointer P, Value.agg (List.map bv iv).toArray, Value.slice A n c, Value.pointer (some ⟨w.heap.size, 0, none⟩), Value.pointer (some ⟨w.heap.size + 1, 0, none⟩), undef, Value.slice none 0 0,
          Value.int IntKind.i64 0, Value.pointer (some ⟨gO, 0, none⟩), Value.pointer (some ⟨gA, 0, none⟩), .pointer (some ⟨Bx, 0, none⟩), .pointer (some ⟨gP, 0, none⟩), undef, undef, Value.slice A n c, Value.int IntKind.i64 ↑n, Value.int IntKind.i64 0, Value.bool false, Value.slice A n c,
          Value.int IntKind.i64 ↑n, Value.slice (some ⟨g0, 0, none⟩) 0 n, Value.agg (List.map bv iv).toArray, Value.slice A n c, Value.func (Fn.func 79) #[] #[Value.pointer (some ⟨sB, 0, none⟩)],
          .agg (Xx.map bv).toArray, z0, z1, z2, z3, z4, v29, v30, v31, undef, undef, undef, undef, undef, undef, undef, undef, undef, undef, undef, undef], defers := [] } ∧
        (L 0 = true → v29 = v) ∧ (L 1 = true → v30 = .slice (some ⟨gP, 0, none⟩) 16 16) ∧ (L 2 = true → L 0 = true ∧ L 1 = true) ∧ (L 3 = true → L 2 = true) ∧ (L 2 = false → Wx = Wn.drew) ∧
        (L 2 = true → ∃ w', w'.ownsRow g0 5 1 v31 (pl + 16) ((Oo ++ PX).map bv) ∧ Wn.drew.grownBy w' v.ownBlock ∧ (L 3 = false → Wx = w') ∧ (L 3 = true → Wx = w'.setCell ⟨gO, 0, none⟩ v31))) (by kernel_rfl) (by kernel_rfl) ?_
      (And.intro ?_ (And.intro ?_ (And.intro ?_ (And.intro ?_ trivial)))) ?_
    · intro L hL
      have no : ∀ j, j < 4 → L j = true → False := fun j hj h => by rw [hL j hj] at h; cases h
      exact ⟨_, _, _, rfl, fun h => (no 0 (by decide) h).elim, fun h => (no 1 (by decide) h).elim, fun h => (no 2 (by decide) h).elim, fun h => (no 3 (by decide) h).elim, fun _ => rfl, fun h => (no 2 (by decide) h).elim⟩
    · rintro L a Wx ⟨v29, v30, v31, rfl, F0, F1, D2, D3, F2, F3⟩ hLi hd
      refine ⟨rfl, fun K0 hK => ?_⟩
      have h2 : L 2 = false := by cases h : L 2 with
        | false => rfl
        | true => rw [(D2 h).1] at hLi; cases hLi
      obtain rfl := F2 h2
      have hcell : Wn.drew.cell? ⟨gO, 0, none⟩ = some v := hvn.cell
      go_simp
      exact hK.out _ _ ⟨_, v30, v31, rfl, fun _ => rfl, F1, fun h => (upF h2 (by decide) h).elim, D3, fun _ => rfl, fun h => (upF h2 (by decide) h).elim⟩
    · rintro L a Wx ⟨v29, v30, v31, rfl, F0, F1, D2, D3, F2, F3⟩ hLi hd
      refine ⟨rfl, fun K0 hK => ?_⟩
      have h2 : L 2 = false := by cases h : L 2 with
        | false => rfl
        | true => rw [(D2 h).2] at hLi; cases hLi
      obtain rfl := F2 h2
      go_simp
      exact hK.out _ _ ⟨v29, _, v31, rfl, F0, fun _ => rfl, fun h => (upF h2 (by decide) h).elim, D3, fun _ => rfl, fun h => (upF h2 (by decide) h).elim⟩
    · rintro L a Wx ⟨v29, v30, v31, rfl, F0, F1, D2, D3, F2, F3⟩ hLi hd
      refine ⟨rfl, fun K0 hK => ?_⟩
      obtain rfl := F2 hLi
      have h0 := hd ⟨0, .data⟩ (by simp) rfl
      have h1 := hd ⟨1, .data⟩ (by simp) rfl
      have h3 : L 3 = false := by cases h : L 3 with
        | false => rfl
        | true => rw [D3 h] at hLi; cases hLi
      have hon' : Wn.drew.ownsRow g0 5 1 v pl (Oo.map bv) := hon
      refine opIn_app8 (.tmp 30) (.tmp 31) rfl g0 v pl Oo (F0 h0) hon' (some ⟨gP, 0, none⟩) 16 16 Wn.drew.heap.size PX (F1 h1) hSl.2.2 HXC.out hpl31 hg0n ?_
      intro v' w' hown hgr _
      exact hK.out _ _ ⟨v29, v30, v', rfl, F0, F1, fun _ => ⟨h0, h1⟩, fun h => (upF h3 (by decide) h).elim, fun h => (upS h).elim, fun _ => ⟨w', hown, hgr, fun _ => rfl, fun h => (upF h3 (by decide) h).elim⟩⟩
    · rintro L a Wx ⟨v29, v30, v31, rfl, F0, F1, D2, D3, F2, F3⟩ hLi hd
      refine ⟨rfl, fun K0 hK => ?_⟩
      have h2 := hd ⟨2, .data⟩ (by simp) rfl
      obtain ⟨w', hown, hgr, hw, _⟩ := F3 h2
      obtain rfl := hw hLi
      have hvw : Boxed Wx gO 26 v := Boxed.kept (show Boxed Wn.drew gO 26 v from hvn) hgr (hvn.not_row (by decide) hon)
      have hcell := hvw.cell
      have hfr := hvw.frozen
      obtain ⟨A', c', rfl, _⟩ := own_read hown
      go_simp
      exact hK.out _ _ ⟨v, .slice (some ⟨gP, 0, none⟩) 16 16, _, rfl, fun _ => rfl, fun _ => rfl, fun _ => D2 h2, fun _ => h2, fun h => (upT h2 h).elim, fun _ => ⟨Wx, hown, hgr, fun h => (upS h).elim, fun _ => rfl⟩⟩
    rintro L a Wx hL2 ⟨v29, v30, v31, rfl, _, _, _, _, _, F3⟩
    obtain ⟨w', hown, hgr, _, hwx⟩ := F3 (hL2 2)
    have hWx := hwx (hL2 3)
    clear hwx F3
    have hvw : Boxed w' gO 26 v := Boxed.kept (show Boxed Wn.drew gO 26 v from hvn) hgr (hvn.not_row (by decide) hon)
    have hge : ∀ k, v.ownBlock = some k → g0 ≤ k := c_own_ge hon (Nat.le_refl _)
    have hbw : Below g0 Wn w' := ((Below.refl g0 Wn).drew).grown hgr hg0n hge
    have hsx := grownBy_setCell' w' gO v31
    rw [← hWx] at hsx
    have hszw : Wn.heap.size ≤ w'.heap.size := hgr.size
    have hbx : Below g0 Wn Wx := hbw.grown hsx (by omega) (fun k e => by (cases e; omega))
    have hAw : w'.heap[gA]? = some (.cells (Cc.map bv).toArray 23 (0, 0)) := (hgr.block gA (lt_of_heap hAn) (cells_not_row hAn (by decide) hon)).trans hAn
    have hXw : w'.heap[Bx]? = some (.cells (Xx.map bv).toArray 23 (0, 0)) := (hgr.block Bx (lt_of_heap hXn) (cells_not_row hXn (by decide) hon)).trans hXn
    have hSw : Boxed w' sB 26 (.slice A n c) := Boxed.kept (show Boxed Wn.drew sB 26 _ from hSn) hgr (hSn.not_row (by decide) hon)
    have hKx : KeepsFrom w6.heap.size W Wx := (((keepsFrom_below hbm).trans ((KeepsOthers.drew Wn).from _)).trans (keepsFrom_row hgr (ownBlock_cells (W := Wn.drew) hon))).trans (keepsFrom_row hsx (fun j o e ho => by cases e; rw [show w'.heap[gO]? = _ from hvw] at ho; cases ho; rfl))
    have hSx : Boxed Wx sB 26 (.slice A n c) := Boxed.kept hSw hsx (by simp; omega)
    have hAx : Wx.heap[gA]? = some (.cells (Cc.map bv).toArray 23 (0, 0)) := (hsx.block gA (lt_of_heap hAw) (by simp; omega)).trans hAw
    have hXx' : Wx.heap[Bx]? = some (.cells (Xx.map bv).toArray 23 (0, 0)) := (hsx.block Bx (lt_of_heap hXw) (by simp; omega)).trans hXw
    have hvx : Boxed Wx gO 26 v31 := by rw [hWx]; exact hvw.set v31
    have hox := hown.kept hsx (.inr (hvw.not_row (by decide) hown).symm)
    clear hWx hsx
    gi_wp2_with (first
      | (refine wpListIn_ld rfl 23 (.tmp 10) rfl rfl (load_arr arr16B rfl (i16c Xx HX16.out) hXx') ?_)
      | (refine wpListIn_st rfl 23 (.tmp 9) (.tmp 33) rfl rfl rfl (store_arr (cs := Xx.map bv) (old := Cc.map bv) (i16c Xx HX16.out) (bv_one _) hAx (by rw [List.length_map, List.length_map, HX16.out, HC16.out])) ?_
         generalize hV : World.setRow _ _ _ = Wy)
      | fail)
    have hgy : Wx.grownBy Wy (some gA) := by rw [← hV]; exact grown_setRow _ _ _
    have hszx : Wn.heap.size ≤ Wx.heap.size := hbx.size
    have hby : Below g0 Wx Wy := below_of_setRow hV (by omega) (by omega)
    have hbWn : Below g0 W Wn := hbm.mono (by omega)
    have hSy : Boxed Wy sB 26 (.slice A n c) := heap_of_other hV (by omega) hSx
    refine ⟨hKx.trans (keepsFrom_row hgy (fun j o e ho => by cases e; rw [hAx] at ho; cases ho; rfl)), ⟨hbWn.trans (hbx.trans hby), hSy.cell.trans hSB.cell.symm⟩, ⟨⟨⟨v31, heap_of_other hV (by omega) hvx, ?_, trivial⟩, ?_⟩, hSy⟩, hB.trans (hbWn.trans (hbx.trans hby))⟩
    · rw [HSn.out, List.length_append, Nat.mul_add, hpl]
      exact hox.kept hgy (.inr (cells_not_row hAx (by decide) hox).symm)
    · rw [HSn.out]; exact heap_of_setRow hV hAx
  case done =>
    rintro Db xs W hDb rfl ⟨⟨⟨⟨v, hv1, hv2, _⟩, hA⟩, hSB⟩, hB⟩ hK
    have cO := hv1.cell
    have hm16 : n / 16 = m := by have := HM.out; omega
    rw [hm16] at hv2
    rw [blkUp_len, unB_up] at hv2
    have hln : 16 * m = n := HM.out.symm
    simp only [hln] at hv2
    have HOC : Hid (∀ (v : Value) (x : Int) (w' : World), (match openO D iv bs with | none => v = .slice none 0 0 ∧ x = 16 | some k => x = 0 ∧ k < bs.length ∧ w'.ownsRow w.heap.size 5 1 v k (((unchL D iv bs (bs.length / 16)).take k).map bv)) → OpenC w D iv bs v x w') := fun v x w' h => h
    have HOO : Hid (openO D iv bs = upO (unchL D iv bs m)) := by show _ = _; unfold openO; rw [hLl, if_neg (by omega), hm16]
    rw [HOO.out, hLl, hm16] at HOC
    generalize unchL D iv bs m = U at hv2 HOC
    have hUl : U.length = n := by have := hv2.1; simpa using this
    obtain ⟨Av, cv, rfl, h1, h2, h3, h4⟩ := own_read hv2
    have HUP := Lib.hid (unpad_any Av n cv U W hUl hm31 ⟨by omega, h3, h4⟩)
    have hDs := lt_of_heap hK
    have HBW : Hid (Below w.heap.size w W) := H4w.out.trans (hB.mono (by omega))
    have HV2 := Lib.hid hv2; have HK := Lib.hid hK; have HUL := Lib.hid hUl
    have hcv : n ≤ cv := h2
    clear hv2 hK h4 HOO
    gi_wp2_with fail
    refine ⟨trivial, (callsIn_wide.2 HUP.out).mono ?_⟩
    rintro e w7 ⟨rfl, hb7⟩
    have K7 := Lib.hid ((hb7.block _ hDs).trans HK.out)
    have V7 := Lib.hid (c_own_below HV2.out hb7)
    have B7 := Lib.hid (HBW.out.step hb7)
    have c7 := (hb7.cell (p := ⟨gO, 0, none⟩) hv1.lt).trans cO
    have hD7 : w.heap.size ≤ Db := by omega
    clear hb7 HUP
    cases hu : upO U with
    | none =>
      rw [hu] at HOC
      have ev : cupV none = 0 := rfl
      have ee : upE none = 16 := rfl
      rw [ev, ee]
      gi_wp2
      refine ⟨by simp, .inl ⟨_, _, rfl, run_takeDeferred K7.out, ?_⟩⟩
      exact ⟨.tuple #[.slice none 0 0, .int .i64 16], by simp [results, Try.f18, go_sem], _, _, rfl, HOC.out _ _ _ ⟨rfl, rfl⟩, B7.out.trans (belowK_b (w := w) (Nat.le_refl _) w7 Db _ _ hD7 K7.out rfl rfl)⟩
    | some k =>
      rw [hu] at HOC
      have ev : cupV (some k) = (k : Int) := rfl
      have ee : upE (some k) = 0 := rfl
      rw [ev, ee]
      have hk : k < n ∧ 0 < n := upO_lt hUl hu
      have sl2 := cut_to uT s8 Av n cv .i64 (k : Int) (by omega) (by omega)
      rw [Int.toNat_natCast] at sl2
      gi_wp2
      refine ⟨by simp, .inl ⟨_, _, rfl, run_takeDeferred K7.out, ?_⟩⟩
      refine ⟨.tuple #[.slice Av k cv, .int .i64 0], by simp [results, Try.f18, go_sem], _, _, rfl, HOC.out _ _ _ ⟨rfl, hk.1, ?_⟩, B7.out.trans (belowK_b (w := w) (Nat.le_refl _) w7 Db _ _ hD7 K7.out rfl rfl)⟩
      exact own_mono (ownsRow_putObj (own_cut V7.out (by omega) hk.2) (.deferred none) K7.out rfl) (by omega)
  case stop =>
    rintro D c pre W _ _ h _
    exact h.elim
end Go.Proofs.Ytjmpbcfbfbjenaa

/- The key of the laws of layer 9 in memory, and its round keys. -/
namespace Go.Proofs.Ytjmpbcfbfbjenaa
open Go.RowKit
set_option linter.unusedVariables false
set_option maxRecDepth 100000
set_option linter.unusedSimpArgs false
set_option maxHeartbeats 1000000 in
theorem kbytes9_any (k : List UInt8) (b : Bool) (n : List UInt8) (w : World) (hk : k.length = 32) (hn : n.length = 16) :
    Calls Try.prog 16 #[.agg (kCells k b n).toArray] w fun e w' => e = .returned (.slice (some ⟨w.heap.size, 0, none⟩) (4 * keyW b) 32) ∧ Sl w' (some ⟨w.heap.size, 0, none⟩) 32 (keyB k b) ∧ Below w.heap.size w w' := by
  have Z0 := kz_new w k n b 35 hk hn
  have HS := Lib.hid (Z0.key hk)
  have hc := Z0.2.2.1
  have sl := arr_to arr32Z s8 ⟨w.heap.size, 0, none⟩ .i64 16 (by omega) (by omega)
  rw [show (16 : Int).toNat = 16 from rfl] at sl
  have sl2 := arr_all arr32Z s8 ⟨w.heap.size, 0, none⟩
  clear Z0
  generalize (kCells k b n).toArray = Z at HS hc ⊢
  generalize keyB k b = KB at HS ⊢
  cases b
  · go_enter Try.func16, Try.ntmps16
    go_wp2
    go_ret
    exact ⟨rfl, HS.out, (Below.refl _ _).alloc (Nat.le_refl _) _⟩
  · go_enter Try.func16, Try.ntmps16
    go_wp2
    go_ret
    exact ⟨rfl, HS.out, (Below.refl _ _).alloc (Nat.le_refl _) _⟩
theorem iKey9 : (Try.prog.info? 35).map (·.size) = some 49 := by kernel_rfl
set_option maxHeartbeats 1000000 in
theorem keys9_any (k : List UInt8) (b : Bool) (n : List UInt8) (w : World) (hk : k.length = 32) (hn : n.length = 16) :
    Calls Try.prog 13 #[.agg (kCells k b n).toArray] w fun e w' => ∃ g, e = .returned (.tuple #[.pointer (some ⟨g, 0, none⟩), .bool true]) ∧ w.heap.size ≤ g ∧ KeyAt w' g (expandL (keyB k b)) (keyW b + 6) ∧ Below w.heap.size w w' := by
  have HBY := Lib.hid (fun W => kbytes9_any k b n W hk hn)
  have HL := Lib.hid (kCells_len k n b hk hn)
  have HKL := Lib.hid (keyB_len k b hk)
  have HW : Hid (keyW b = 4 ∨ keyW b = 8) := by show _ ∨ _; cases b <;> simp [keyW]
  generalize kCells k b n = Z at HBY HL ⊢
  generalize keyB k b = KB at HBY HKL ⊢
  generalize keyW b = nk at HBY HKL HW ⊢
  clear hk hn
  go_enter Try.func13, Try.ntmps13
  go_wp2_with (first
    | (refine wpList_ld rfl 35 (.tmp 1) rfl (load_arr Try.underlying35 rfl (by rw [HL.out]; exact iKey9) (heap_alloc_new' w _)) ?_)
    | fail)
  generalize hV : w.alloc _ = W0
  have B0 := Lib.hid (below_of_alloc hV (Nat.le_refl w.heap.size))
  clear hV
  refine (HBY.out W0).mono ?_
  rintro e w1 ⟨rfl, hS1, hb1⟩
  have S1 := Lib.hid hS1; have B1 := Lib.hid (B0.out.step hb1)
  clear hS1 hb1
  go_wp2_with fail
  refine (expand_any (some ⟨W0.heap.size, 0, none⟩) (4 * nk) 32 nk KB w1 HKL.out rfl HW.out S1.out).mono ?_
  rintro e w2 ⟨g, rfl, hg, hK, hb2⟩
  have K2 := Lib.hid hK; have B2 := Lib.hid (B1.out.step hb2)
  have HG : Hid (w.heap.size ≤ g) := Nat.le_trans B1.out.size hg
  clear hK hb2 hg
  go_wp2
  go_ret2
  exact ⟨g, rfl, HG.out, K2.out, B2.out⟩
end Go.Proofs.Ytjmpbcfbfbjenaa

/- Contracts of the document's own answers for layer 1: Little, Big, PutLittle, PutBig. -/
namespace Go.Proofs.Ytjmpbcfbfbjenaa
open Go.RowKit
set_option maxRecDepth 100000
set_option linter.unusedVariables false
set_option linter.unusedSimpArgs false

theorem ref_step (U N x : Nat) (hU : U * x < 18446744073709551616) (hN : N + U * x < 18446744073709551616) :
    ∃ V M U' : Nat, IntKind.u64.wrap ((U : Int) * (x : Int)) = (V : Int) ∧ IntKind.u64.wrap ((N : Int) + (V : Int)) = (M : Int) ∧ IntKind.u64.wrap ((U : Int) * 256) = (U' : Int) ∧ M = N + U * x ∧ U' = U * 256 % 18446744073709551616 := by
  refine ⟨U * x, N + U * x, U * 256 % 18446744073709551616, ?_, ?_, ?_, rfl, rfl⟩
  · rw [IntKind.wrap_u64, ← Int.natCast_mul]; omega
  · rw [IntKind.wrap_u64]; omega
  · rw [IntKind.wrap_u64]; omega
theorem pow_lt8 (k : Nat) (hk : k < 8) : 256 ^ (k + 1) ≤ 18446744073709551616 := by
  have h : (256 : Nat) ^ 8 = 18446744073709551616 := by decide
  rw [← h]; exact Nat.pow_le_pow_right (by decide) (by omega)
theorem unit_step (k : Nat) (hk : k < 8) : 256 ^ k % 18446744073709551616 = 256 ^ k := by
  have := pow_lt8 k hk
  rw [Nat.pow_succ] at this
  have hp : 0 < 256 ^ k := Nat.pow_pos (by decide)
  exact Nat.mod_eq_of_lt (by omega)

theorem bigN_cons (x : UInt8) (l : List UInt8) : bigN (x :: l) = x.toNat * 256 ^ l.length + bigN l := by
  have := bigN_append [x] l
  simpa [bigN] using this
/-- the last j bytes -/
def lastL (bs : List UInt8) (j : Nat) : List UInt8 := bs.drop (bs.length - j)
theorem lastL_succ (bs : List UInt8) (j : Nat) (h : j < bs.length) : lastL bs (j + 1) = bs[bs.length - 1 - j] :: lastL bs j := by
  unfold lastL
  rw [List.drop_eq_getElem_cons (by omega)]
  simp only [show bs.length - (j + 1) + 1 = bs.length - j by omega, show bs.length - (j + 1) = bs.length - 1 - j by omega]
  rw [show bs.length - 1 - j + 1 = bs.length - j by omega]
theorem lastL_len (bs : List UInt8) (j : Nat) (h : j ≤ bs.length) : (lastL bs j).length = j := by simp [lastL]; omega

theorem refPutLittle_any (x many : Nat) (w : World) (hx : x < 18446744073709551616) (hm : many ≤ 2147483647) :
    Calls Try.prog 96 #[.int .u64 (x : Int), .int .i64 (many : Int)] w fun e w' => ∃ v, e = .returned v ∧ w'.ownsRow w.heap.size 5 1 v many ((putLittle x many).map bv) ∧ Below w.heap.size w w' := by
  have HX := Lib.hid hx
  clear hx
  go_enter Try.func96, Try.ntmps96
  go_wp2_with fail
  go_loopw [0, 5, 6] (fun xv ov iv wr => ∃ (k : Nat), k ≤ many ∧ iv = .int .i64 k ∧ xv = .int .u64 ((x / 256 ^ k : Nat) : Int) ∧ Hid (wr.ownsRow w.heap.size 5 1 ov k ((putLittle x k).map bv)) ∧ Hid (Below w.heap.size w wr)) (fun _ _ i _ => many - (intOf i).toNat)
  case atStart => exact ⟨0, by omega, rfl, by simp, World.ownsRow_nil w _ _ _, Below.refl _ _⟩
  case round =>
    obtain ⟨k, hk, rfl, rfl, HO, HB⟩ := hrel
    by_cases hlt : k < many
    · have hz : ((x / 256 ^ k : Nat) : Int) % 256 = ((byteAt x k).toNat : Int) := by rw [byteAt, UInt8.toNat_ofNat']; omega
      have hy0 : x / 256 ^ k < 18446744073709551616 := Nat.lt_of_le_of_lt (Nat.div_le_self _ _) HX.out
      have HP : Hid (IntKind.u64.wrap (((x / 256 ^ k : Nat) : Int) / 256) = ((x / 256 ^ (k + 1) : Nat) : Int)) := by
        show _ = _
        rw [Nat.pow_succ, ← Nat.div_div_eq_div_mul, IntKind.wrap_u64]
        generalize x / 256 ^ k = y at hy0 ⊢
        omega
      clear hy0
      have hpl : putLittle x (k + 1) = putLittle x k ++ [byteAt x k] := by simp [putLittle, List.range_succ]
      have HPL := Lib.hid hpl
      clear hpl
      have hy : x / 256 ^ k < 18446744073709551616 := Nat.lt_of_le_of_lt (Nat.div_le_self _ _) HX.out
      generalize byteAt x k = z at hz HPL
      generalize x / 256 ^ k = y at hz HP hy ⊢
      have hzb : z.toNat < 256 := z.toNat_lt
      have HY := Lib.hid hy
      clear hy
      go_wp2_with (
        at_builtin
        refine wpList_app8 rfl (.tmp 12) (.tmp 16) rfl w.heap.size _ k (putLittle x k) rfl ?_ _ 1 1 (wr.heap.size + 1) [z] rfl ?_ ?_ ?_ ?_ ?_
        · exact HO.out.alloc _
        · exact row_of_heap (heap_alloc_new' wr _) (Nat.lt_succ_self _)
        · rfl
        · omega
        · exact Nat.le_trans HB.out.size (by simp)
        rintro v' w' hown hgr
        have HO' := Lib.hid hown
        have HB' : Hid (Below w.heap.size w w') := (HB.out.alloc HB.out.size _).grown hgr (Nat.le_trans HB.out.size (by simp)) (fun g hg => (HO.out.lt g hg).1)
        clear hown hgr)
      go_roundw
      case rel => exact ⟨k + 1, by omega, by go_num, by rw [HP.out], by rw [HPL.out]; exact HO', HB'⟩
      case measure => simp [intOf]; omega
    · go_wp2
      go_ret
      have : k = many := by omega
      subst this
      exact ⟨_, rfl, HO.out, HB.out⟩

theorem refPutLittle_neg (x : Nat) (many : Int) (w : World) (hm : many < 0) :
    Calls Try.prog 96 #[.int .u64 (x : Int), .int .i64 many] w fun e w' => e = .returned (.slice none 0 0) ∧ w = w' := by
  have hl : ¬ (0 < many) := by omega
  go_enter Try.func96, Try.ntmps96
  go_wp2_with fail
  refine wp_loop_once ?_
  go_wp2
  go_ret
  exact ⟨rfl, rfl⟩

theorem lastPut (x many j : Nat) (h : j < many) : putBig x many = (putLittle x many).reverse := putBig_rev x many

theorem refPutBig_any (x many : Nat) (w : World) (hx : x < 18446744073709551616) (hm : many ≤ 2147483647) :
    Calls Try.prog 68 #[.int .u64 (x : Int), .int .i64 (many : Int)] w fun e w' => ∃ v, e = .returned v ∧ w'.ownsRow w.heap.size 5 1 v many ((putBig x many).map bv) ∧ Below w.heap.size w w' := by
  have HX := Lib.hid hx
  clear hx
  go_enter Try.func68, Try.ntmps68
  go_wp2_with fail
  refine (refPutLittle_any x many w HX.out hm).mono ?_
  rintro e w1 ⟨v, rfl, hO, hB⟩
  obtain ⟨A, c, rfl, hl, h1, h2, hr⟩ := own_read hO
  have HL := Lib.hid hl
  have HR := Lib.hid hr
  have HB1 := Lib.hid hB
  clear hl hr hB hO h2 h1
  go_wp2_with fail
  go_loopw [6, 7] (fun ov iv wr => ∃ (k : Nat), k ≤ many ∧ iv = .int .i64 ((many : Int) - 1 - k) ∧ Hid (wr.ownsRow w1.heap.size 5 1 ov k (((putLittle x many).reverse.take k).map bv)) ∧ Hid (Below w1.heap.size w1 wr)) (fun _ i _ => (intOf i + 1).toNat)
  case atStart => exact ⟨0, by omega, by simp, by simpa [Hid] using World.ownsRow_nil w1 w1.heap.size 5 1, Below.refl _ _⟩
  case round =>
    obtain ⟨k, hk, rfl, HO, HB⟩ := hrel
    by_cases hlt : k < many
    · have t1 : (0 : Int) ≤ (many : Int) - 1 - k := by omega
      have t3 : ((many : Int) - 1 - k).toNat = many - 1 - k := by omega
      have t4 : (many : Int) - 1 - k < many := by omega
      obtain ⟨b, o, rfl, hbl, r⟩ := HR.out.at_ (by have := HL.out; simp; omega)
      have kb : many - 1 - k < (putLittle x many).length := by have := HL.out; omega
      have hc : wr.cell? ⟨b, o + (many - 1 - k), none⟩ = some (.int .u8 ((putLittle x many)[many - 1 - k].toNat : Int)) := by
        rw [HB.out.cell hbl]; exact r _ _ (by simp [kb, bv])
      have hsn : (putLittle x many).reverse.take (k + 1) = (putLittle x many).reverse.take k ++ [(putLittle x many)[many - 1 - k]] := by
        rw [List.take_succ_eq_append_getElem (by rw [List.length_reverse, HL.out]; exact hlt)]
        congr 2
        rw [List.getElem_reverse]
        simp only [HL.out]
      have HS := Lib.hid hsn
      clear hsn r
      generalize (putLittle x many)[many - 1 - k] = z at hc HS
      have hzb : z.toNat < 256 := z.toNat_lt
      clear kb
      go_wp2_with (
        at_builtin
        refine wpList_app8 rfl (.tmp 18) (.tmp 23) rfl w1.heap.size _ k ((putLittle x many).reverse.take k) rfl ?_ _ 1 1 (wr.heap.size + 1) [z] rfl ?_ ?_ ?_ ?_ ?_
        · exact HO.out.alloc _
        · exact row_of_heap (heap_alloc_new' wr _) (Nat.lt_succ_self _)
        · rfl
        · omega
        · exact Nat.le_trans HB.out.size (by simp)
        rintro v' w' hown hgr
        have HO' := Lib.hid hown
        have HB' : Hid (Below w1.heap.size w1 w') := (HB.out.alloc HB.out.size _).grown hgr (Nat.le_trans HB.out.size (by simp)) (fun g hg => (HO.out.lt g hg).1)
        clear hown hgr)
      go_roundw
      case rel => exact ⟨k + 1, by omega, by congr 1; omega, by rw [HS.out]; exact HO', HB'⟩
      case measure => simp [intOf]; omega
    · have t1 : ¬ ((0 : Int) ≤ (many : Int) - 1 - k) := by omega
      go_wp2
      go_ret
      have : k = many := by omega
      subst this
      have hO := HO.out
      rw [List.take_of_length_le (by simp [HL.out]), ← putBig_rev] at hO
      obtain ⟨h0, hO | ⟨g, cap, cur, hv, hg, rr⟩⟩ := hO
      · exact ⟨_, rfl, ⟨h0, .inl hO⟩, HB1.out.step HB.out⟩
      · exact ⟨_, rfl, ⟨h0, .inr ⟨g, cap, cur, hv, Nat.le_trans HB1.out.size hg, rr⟩⟩, HB1.out.step HB.out⟩
theorem refPutBig_neg (x : Nat) (many : Int) (w : World) (hm : many < 0) :
    Calls Try.prog 68 #[.int .u64 (x : Int), .int .i64 many] w fun e w' => e = .returned (.slice none 0 0) ∧ w = w' := by
  go_enter Try.func68, Try.ntmps68
  go_wp2_with fail
  refine (refPutLittle_neg x many w hm).mono ?_
  rintro e w1 ⟨rfl, rfl⟩
  go_wp2_with fail
  refine wp_loop_once ?_
  go_wp2
  go_ret
  exact ⟨rfl, rfl⟩
end Go.Proofs.Ytjmpbcfbfbjenaa
/- Contracts of the document's own Xor, Left, Count. -/
namespace Go.Proofs.Ytjmpbcfbfbjenaa
open Go.RowKit
set_option maxRecDepth 100000
set_option linter.unusedVariables false
set_option linter.unusedSimpArgs false

theorem nat_or_xor (x y : Nat) (hx : x < 256) (hy : y < 256) : x ||| y = (x ^^^ y) + (x &&& y) := by
  have hA : (BitVec.ofNat 16 x).toNat = x := by rw [BitVec.toNat_ofNat]; omega
  have hB : (BitVec.ofNat 16 y).toNat = y := by rw [BitVec.toNat_ofNat]; omega
  generalize BitVec.ofNat 16 x = a at hA
  generalize BitVec.ofNat 16 y = b at hB
  have h1 : (a ^^^ b) &&& (a &&& b) = 0#16 := by
    apply BitVec.eq_of_getLsbD_eq; intro i hi
    simp only [BitVec.getLsbD_and, BitVec.getLsbD_xor, BitVec.getLsbD_zero]
    cases a.getLsbD i <;> cases b.getLsbD i <;> rfl
  have h2 : (a ^^^ b) ||| (a &&& b) = a ||| b := by
    apply BitVec.eq_of_getLsbD_eq; intro i hi
    simp only [BitVec.getLsbD_and, BitVec.getLsbD_xor, BitVec.getLsbD_or]
    cases a.getLsbD i <;> cases b.getLsbD i <;> rfl
  have h3 := congrArg BitVec.toNat ((BitVec.add_eq_or_of_and_eq_zero _ _ h1).trans h2)
  rw [BitVec.toNat_add, BitVec.toNat_xor, BitVec.toNat_and, BitVec.toNat_or, hA, hB] at h3
  have b1 : x ^^^ y < 2 ^ 8 := Nat.xor_lt_two_pow (by omega) (by omega)
  have b2 : x &&& y < 2 ^ 8 := Nat.and_lt_two_pow _ (by omega)
  omega
theorem sub8 (x y : UInt8) : IntKind.u8.wrap (bits .or .u8 (x.toNat : Int) (y.toNat : Int) - bits .and .u8 (x.toNat : Int) (y.toNat : Int)) = ((x ^^^ y).toNat : Int) := by
  have hx := x.toNat_lt
  have hy := y.toNat_lt
  rw [u8_or_nat _ _ hx hy, u8_and_nat _ _ hx hy, UInt8.toNat_xor, IntKind.wrap_u8', nat_or_xor _ _ hx hy]
  have b1 : x.toNat ^^^ y.toNat < 2 ^ 8 := Nat.xor_lt_two_pow (by omega) (by omega)
  omega

theorem rot_one (x : BitVec 32) : (x.toNat * 2 + x.toNat / 2147483648) % 4294967296 = (x.rotateLeft 1).toNat := by
  rw [BitVec.rotateLeft_def]
  have h1 : (x <<< (1 % 32)) &&& (x >>> (32 - 1 % 32)) = 0#32 := by
    apply BitVec.eq_of_getLsbD_eq; intro i hi
    simp only [BitVec.getLsbD_and, BitVec.getLsbD_shiftLeft, BitVec.getLsbD_ushiftRight, BitVec.getLsbD_zero]
    by_cases h0 : i = 0
    · simp [h0]
    · have : x.getLsbD (32 - 1 % 32 + i) = false := BitVec.getLsbD_of_ge _ _ (by omega)
      simp [this]
  rw [← BitVec.add_eq_or_of_and_eq_zero _ _ h1, BitVec.toNat_add, BitVec.toNat_shiftLeft, BitVec.toNat_ushiftRight, Nat.shiftLeft_eq, Nat.shiftRight_eq_div_pow]
  simp only [Nat.reduceMod, Nat.reduceSub, Nat.reducePow, Nat.pow_one]
  omega
theorem rotl_succ (x : BitVec 32) (i : Nat) : rotl x ((i + 1 : Nat) : Int) = (rotl x (i : Int)).rotateLeft 1 := by
  have h := turns_math x (i : Int) 1
  rw [show ((i + 1 : Nat) : Int) = (i : Int) + 1 by omega, ← h]
  rfl
theorem rotl_mod (x : BitVec 32) (n : Int) (k : Nat) (hk : (n % 32) = (k : Int)) : rotl x (k : Int) = rotl x n := by
  unfold rotl; rw [← hk, Int.emod_emod_of_dvd n (by decide)]

theorem tmod32 (n : Int) : (wrap64 (n.tmod 32 + 32)).tmod 32 = (((n % 32).toNat : Nat) : Int) := by
  have h1 : -32 < n.tmod 32 ∧ n.tmod 32 < 32 ∧ (n.tmod 32) % 32 = n % 32 := by
    rw [Int.tmod_eq_emod]
    split <;> omega
  have h2 : wrap64 (n.tmod 32 + 32) = n.tmod 32 + 32 := by unfold wrap64; omega
  rw [h2, Int.tmod_eq_emod_of_nonneg (by omega)]
  omega
theorem mul2_div (x : BitVec 32) : (x.toNat : Int) * 2 % 4294967296 + (x.toNat : Int) / 2147483648 = ((x.rotateLeft 1).toNat : Int) := by
  rw [← rot_one]; have := x.isLt; omega

/-! ### Count -/
def cnt (c d : List UInt8) (j : Nat) : Nat := bigN (lastL c j) + bigN (lastL d j)
def cntRow (c d : List UInt8) (j : Nat) : List UInt8 := c.take (16 - j) ++ putBig (cnt c d j) j
theorem cnt_succ (c d : List UInt8) (j : Nat) (hc : c.length = 16) (hd : d.length = 16) (hj : j < 16) :
    cnt c d (j + 1) = ((c.getD (15 - j) 0).toNat + (d.getD (15 - j) 0).toNat) * 256 ^ j + cnt c d j := by
  unfold cnt
  rw [lastL_succ c j (by omega), lastL_succ d j (by omega), bigN_cons, bigN_cons, lastL_len c j (by omega), lastL_len d j (by omega)]
  have e1 : c[c.length - 1 - j] = c.getD (15 - j) 0 := by simp [List.getD, hc, show 15 - j < 16 by omega]
  have e2 : d[d.length - 1 - j] = d.getD (15 - j) 0 := by simp [List.getD, hd, show 15 - j < 16 by omega]
  rw [e1, e2, Nat.add_mul]; omega
theorem cnt_step (c d : List UInt8) (j : Nat) (hc : c.length = 16) (hd : d.length = 16) (hj : j < 16) :
    let s := (c.getD (15 - j) 0).toNat + (d.getD (15 - j) 0).toNat + cnt c d j / 256 ^ j
    cnt c d (j + 1) / 256 ^ (j + 1) = s / 256 ∧ (cntRow c d j).set (15 - j) (UInt8.ofNat (s % 256)) = cntRow c d (j + 1) := by
  intro s
  have hs : cnt c d (j + 1) / 256 ^ j = s := by
    rw [cnt_succ c d j hc hd hj, Nat.add_comm, Nat.add_mul_div_right _ _ (Nat.pow_pos (by decide))]
    show _ = (c.getD (15 - j) 0).toNat + (d.getD (15 - j) 0).toNat + cnt c d j / 256 ^ j
    omega
  refine ⟨by rw [Nat.pow_succ, ← Nat.div_div_eq_div_mul, hs], ?_⟩
  have h1 : c.take (16 - j) = c.take (16 - (j + 1)) ++ [c.getD (15 - j) 0] := by
    rw [show 16 - j = (16 - (j + 1)) + 1 by omega, List.take_succ_eq_append_getElem (by omega)]
    congr 2
    simp [List.getD, hc, show 16 - (j + 1) = 15 - j by omega, show 15 - j < 16 by omega]
  have hl : (c.take (16 - (j + 1))).length = 15 - j := by rw [List.length_take]; omega
  have h2 : putBig (cnt c d (j + 1)) (j + 1) = [UInt8.ofNat (s % 256)] ++ putBig (cnt c d j) j := by
    rw [show j + 1 = 1 + j from Nat.add_comm _ _, putBig_split, Nat.add_comm 1 j, hs]
    congr 1
    · simp only [putBig, List.range_succ, List.range_zero, List.nil_append, List.map_cons, List.map_nil, byteAt, Nat.pow_zero, Nat.div_one]
      congr 1
      rw [← UInt8.toNat_inj, UInt8.toNat_ofNat', UInt8.toNat_ofNat']; omega
    · rw [← putBig_mod (cnt c d (j + 1)) j j (Nat.le_refl _), ← putBig_mod (cnt c d j) j j (Nat.le_refl _)]
      congr 1
      rw [cnt_succ c d j hc hd hj, Nat.add_comm, Nat.add_mul_mod_self_right]
  unfold cntRow
  rw [h1, h2, List.append_assoc, List.set_append_right _ _ (by omega), hl, Nat.sub_self, List.singleton_append, List.set_cons_zero]
  rfl
theorem cnt_end (c : List UInt8) (n : Nat) (hc : c.length = 16) (hn : n < 18446744073709551616) : cntRow c (putBig n 16) 16 = countL c n := by
  unfold cntRow cnt countL
  have e1 : lastL c 16 = c := by simp [lastL, hc]
  have e2 : lastL (putBig n 16) 16 = putBig n 16 := by simp [lastL, putBig_len]
  have h128 : (256 : Nat) ^ 16 = 340282366920938463463374607431768211456 := by decide
  rw [e1, e2, bigN_put, Nat.mod_eq_of_lt (by rw [h128]; omega), show 16 - 16 = 0 from rfl, List.take_zero, List.nil_append, ← h128, putBig_mod _ _ _ (Nat.le_refl _)]
theorem cnt_carry (c d : List UInt8) (j : Nat) (hc : c.length = 16) (hd : d.length = 16) (hj : j ≤ 16) : cnt c d j / 256 ^ j ≤ 1 := by
  have h1 := bigN_lt (lastL c j)
  have h2 := bigN_lt (lastL d j)
  rw [lastL_len c j (by omega)] at h1
  rw [lastL_len d j (by omega)] at h2
  have : cnt c d j < 2 * 256 ^ j := by unfold cnt; omega
  have := Nat.div_lt_of_lt_mul (Nat.mul_comm 2 _ ▸ this)
  omega
theorem cntRow_len (c d : List UInt8) (j : Nat) (hc : c.length = 16) (hj : j ≤ 16) : (cntRow c d j).length = 16 := by
  simp [cntRow, putBig_len, hc]; omega
theorem cntRow_get (c d : List UInt8) (j : Nat) (hc : c.length = 16) (hj : j < 16) : (cntRow c d j)[15 - j]? = some (c.getD (15 - j) 0) := by
  unfold cntRow
  rw [List.getElem?_append_left (by rw [List.length_take]; omega), List.getElem?_take, if_pos (by omega)]
  simp [List.getD, hc, show 15 - j < 16 by omega]
end Go.Proofs.Ytjmpbcfbfbjenaa

/- Contract of the document's own Count. -/
namespace Go.Proofs.Ytjmpbcfbfbjenaa
open Go.RowKit
set_option maxRecDepth 100000
set_option linter.unusedVariables false
set_option linter.unusedSimpArgs false

theorem w64_in (n : Int) (h : -9223372036854775808 ≤ n ∧ n ≤ 9223372036854775807) : wrap64 n = n := by unfold wrap64; omega

theorem cnt_facts (x y : UInt8) (ca : Nat) (hca : ca ≤ 1) : ∃ s : Nat, s = x.toNat + y.toNat + ca ∧ s < 1024 ∧ Hid (IntKind.i64.wrap (x.toNat : Int) = (x.toNat : Int)) ∧ Hid (IntKind.i64.wrap (y.toNat : Int) = (y.toNat : Int)) ∧
    Hid (IntKind.i64.wrap ((x.toNat : Int) + (y.toNat : Int)) = (x.toNat : Int) + (y.toNat : Int)) ∧ Hid (IntKind.i64.wrap ((x.toNat : Int) + (y.toNat : Int) + (ca : Int)) = (s : Int)) := by
  have hx : x.toNat < 256 := x.toNat_lt
  have hy : y.toNat < 256 := y.toNat_lt
  generalize x.toNat = x at *
  generalize y.toNat = y at *
  exact ⟨x + y + ca, rfl, by omega, IntWalk.i64_in _ (by omega), IntWalk.i64_in _ (by omega), IntWalk.i64_in _ (by omega), (IntWalk.i64_in _ (by omega)).trans (by omega)⟩

set_option maxHeartbeats 2000000 in
theorem refCount_any (c : List UInt8) (n : Nat) (w : World) (hc : c.length = 16) (hn : n < 18446744073709551616) :
    Calls Try.prog 35 #[.agg (c.map bv).toArray, .int .u64 (n : Int)] w fun e w' => e = .returned (.agg ((countL c n).map bv).toArray) ∧ Below w.heap.size w w' := by
  have HC := Lib.hid hc
  have HN := Lib.hid hn
  clear hc hn
  go_enter Try.func35, Try.ntmps35
  go_wp2_with fail
  generalize hW : (w.alloc _).alloc _ = W0
  have F0 : W0.heap[w.heap.size]? = some (.cells (c.map bv).toArray 23 (0, 0)) := by rw [← hW]; exact heap_alloc2_old w _ _
  have F1 : W0.heap[w.heap.size + 1]? = some (.cells (List.replicate 16 (Value.int .u8 0)).toArray 23 (0, 0)) := by rw [← hW]; exact heap_alloc2_new w _ _
  have FB : Below w.heap.size w W0 := by rw [← hW]; exact two_below w _ _
  have G0 := Lib.hid F0
  have G1 := Lib.hid F1
  have GB := Lib.hid FB
  clear F0 F1 FB hW
  refine (refPutBig_any n 16 _ HN.out (by omega)).mono ?_
  rintro e w1 ⟨v, rfl, hO, hB1⟩
  obtain ⟨A, cp, rfl, hl, _, _, hr⟩ := own_read hO
  have hdl := putBig_len n 16
  have HD : Hid (cntRow c (putBig n 16) 16 = countL c n) := cnt_end c n HC.out HN.out
  generalize putBig n 16 = d at hr hdl HD hO hl
  obtain ⟨b, o, rfl, hbl, r⟩ := hr.at_ (by simp [hdl])
  have hbW : W0.heap.size ≤ b := by
    have := (hO.lt b rfl).1; exact this
  have R := Lib.hid r
  have HDL := Lib.hid hdl
  have K0 := Lib.hid ((hB1.block _ (lt_of_heap G0.out)).trans G0.out)
  have K1 := Lib.hid ((hB1.block _ (lt_of_heap G1.out)).trans G1.out)
  have KB := Lib.hid (GB.out.step hB1)
  have hbne : b ≠ w.heap.size := by have := lt_of_heap G0.out; omega
  have HBNE := Lib.hid hbne
  clear hr r hdl hl hO hB1 G0 G1 GB hbW hbne
  go_wp2_with fail
  go_loopw [6, 7, 8] (fun cv iv sv wr => ∃ (j : Nat), j ≤ 16 ∧ iv = .int .i64 (15 - (j : Int)) ∧ cv = .int .i64 ((cnt c d j / 256 ^ j : Nat) : Int) ∧
      Hid (wr.heap[w.heap.size]? = some (.cells ((cntRow c d j).map bv).toArray 23 (0, 0))) ∧ Hid (wr.heap[w.heap.size + 1]? = some (.cells (List.replicate 16 (Value.int .u8 0)).toArray 23 (0, 0))) ∧
      Hid (Below w.heap.size w wr) ∧ Hid (wr.heap[b]? = w1.heap[b]?)) (fun _ i _ _ => (intOf i + 1).toNat)
  case atStart => exact ⟨0, by omega, by simp, by simp [cnt, lastL, bigN], by simpa [cntRow, putBig, List.take_of_length_le, HC.out] using K0, K1, KB, rfl⟩
  case round =>
    obtain ⟨j, hj, rfl, rfl, L0, L1, LB, LD⟩ := hrel
    by_cases hlt : j < 16
    · have hst := cnt_step c d j HC.out HDL.out hlt
      have hca := cnt_carry c d j HC.out HDL.out hj
      have c1 : wr.cell? ⟨w.heap.size, 15 - j, none⟩ = some (.int .u8 ((c.getD (15 - j) 0).toNat : Int)) := by
        rw [cell_of_heap L0.out, List.getElem?_map, cntRow_get c d j HC.out hlt]; rfl
      have c2 : wr.cell? ⟨b, o + (15 - j), none⟩ = some (.int .u8 ((d.getD (15 - j) 0).toNat : Int)) := by
        have := R.out (15 - j) (bv (d.getD (15 - j) 0)) (by simp [List.getD, HDL.out, show 15 - j < 16 by omega])
        rw [World.cell?_of_block (w := w1) (w' := wr) LD.out]; exact this
      have fz : wr.frozen? ⟨w.heap.size, 15 - j, none⟩ = false := frozen_of_heap L0.out _
      generalize cnt c d j / 256 ^ j = ca at hst hca ⊢
      generalize c.getD (15 - j) 0 = x at c1 hst
      generalize d.getD (15 - j) 0 = y at c2 hst
      have hx : x.toNat < 256 := x.toNat_lt
      have hy : y.toNat < 256 := y.toNat_lt
      obtain ⟨s, hs, hsb, U1, U2, U3, U4⟩ := cnt_facts x y ca hca
      simp only [← hs] at hst
      have HST := Lib.hid hst
      clear hs
      have e1 : (15 - (j : Int)).toNat = 15 - j := by omega
      have e2 : 0 ≤ 15 - (j : Int) := by omega
      have e3 : 15 - (j : Int) < 16 := by omega
      have HX : Hid (Ext wr wr.drew) := (Below.refl _ _).drew
      have hbw : b < wr.heap.size := block_lt_of_cell c2
      clear hst
      go_wp2_with fail
      have u4 := U4.out
      have u3 := U3.out
      have u2 := U2.out
      have u1 := U1.out
      refine reg_start (by kernel_rfl) ?_
      try simp only [Act.put, List.setIfInBounds_toArray, List.set_cons_zero, List.set_cons_succ]
      refine reg_take (v := ?_) 0 (some 15) rfl rfl (by kernel_rfl) (by kernel_rfl) (by kernel_rfl) (fun _ _ _ h => h) (by rfl) (fun W hW => ?_) ?_
      rotate_left
      · (go_simp; try rfl)
      simp only [Act.put, List.setIfInBounds_toArray, List.set_cons_zero, List.set_cons_succ]
      refine reg_take (v := ?_) 1 (some 16) rfl rfl (by kernel_rfl) (by kernel_rfl) (by kernel_rfl) (fun _ _ _ h => h) (by rfl) (fun W hW => ?_) ?_
      rotate_left
      · (go_simp; try rfl)
      simp only [Act.put, List.setIfInBounds_toArray, List.set_cons_zero, List.set_cons_succ]
      refine reg_load 2 (some 17) (fun W hW => load_cell Try.underlying5 ((hW.cell (lt_of_heap L0.out)).trans c1)) rfl rfl rfl rfl (by kernel_rfl) (by kernel_rfl) (by kernel_rfl) (fun _ _ _ h => h) (by rfl) ?_
      simp only [Act.put, List.setIfInBounds_toArray, List.set_cons_zero, List.set_cons_succ]
      refine reg_take (v := ?_) 3 (some 18) rfl rfl (by kernel_rfl) (by kernel_rfl) (by kernel_rfl) (fun _ _ _ h => h) (by rfl) (fun W hW => ?_) ?_
      rotate_left
      · (go_simp; try rfl)
      simp only [Act.put, List.setIfInBounds_toArray, List.set_cons_zero, List.set_cons_succ]
      refine reg_take (v := ?_) 4 (some 19) rfl rfl (by kernel_rfl) (by kernel_rfl) (by kernel_rfl) (fun _ _ _ h => h) (by rfl) (fun W hW => ?_) ?_
      rotate_left
      · (go_simp; try rfl)
      simp only [Act.put, List.setIfInBounds_toArray, List.set_cons_zero, List.set_cons_succ]
      refine reg_take (v := ?_) 5 (some 20) rfl rfl (by kernel_rfl) (by kernel_rfl) (by kernel_rfl) (fun _ _ _ h => h) (by rfl) (fun W hW => ?_) ?_
      rotate_left
      · (go_simp; try rfl)
      simp only [Act.put, List.setIfInBounds_toArray, List.set_cons_zero, List.set_cons_succ]
      refine reg_take (v := ?_) 6 (some 21) rfl rfl (by kernel_rfl) (by kernel_rfl) (by kernel_rfl) (fun _ _ _ h => h) (by rfl) (fun W hW => ?_) ?_
      rotate_left
      · (go_simp; try rfl)
      simp only [Act.put, List.setIfInBounds_toArray, List.set_cons_zero, List.set_cons_succ]
      refine reg_load 7 (some 22) (fun W hW => load_cell Try.underlying5 ((hW.cell hbw).trans c2)) rfl rfl rfl rfl (by kernel_rfl) (by kernel_rfl) (by kernel_rfl) (fun _ _ _ h => h) (by rfl) ?_
      simp only [Act.put, List.setIfInBounds_toArray, List.set_cons_zero, List.set_cons_succ]
      refine reg_take (v := ?_) 8 (some 23) rfl rfl (by kernel_rfl) (by kernel_rfl) (by kernel_rfl) (fun _ _ _ h => h) (by rfl) (fun W hW => ?_) ?_
      rotate_left
      · (go_simp; try rfl)
      simp only [Act.put, List.setIfInBounds_toArray, List.set_cons_zero, List.set_cons_succ]
      refine reg_take (v := ?_) 9 (some 24) rfl rfl (by kernel_rfl) (by kernel_rfl) (by kernel_rfl) (fun _ _ _ h => h) (by rfl) (fun W hW => ?_) ?_
      rotate_left
      · (go_simp; try rfl)
      simp only [Act.put, List.setIfInBounds_toArray, List.set_cons_zero, List.set_cons_succ]
      refine reg_take (v := ?_) 10 (some 25) rfl rfl (by kernel_rfl) (by kernel_rfl) (by kernel_rfl) (fun _ _ _ h => h) (by rfl) (fun W hW => ?_) ?_
      rotate_left
      · (go_simp; try rfl)
      simp only [Act.put, List.setIfInBounds_toArray, List.set_cons_zero, List.set_cons_succ]
      refine reg_take (v := ?_) 11 (some 26) rfl rfl (by kernel_rfl) (by kernel_rfl) (by kernel_rfl) (fun _ _ _ h => h) (by rfl) (fun W hW => ?_) ?_
      rotate_left
      · (go_simp; try rfl)
      simp only [Act.put, List.setIfInBounds_toArray, List.set_cons_zero, List.set_cons_succ]
      refine reg_take (v := ?_) 12 (some 8) rfl rfl (by kernel_rfl) (by kernel_rfl) (by kernel_rfl) (fun _ _ _ h => h) (by rfl) (fun W hW => ?_) ?_
      rotate_left
      · (go_simp; try rfl)
      simp only [Act.put, List.setIfInBounds_toArray, List.set_cons_zero, List.set_cons_succ]
      refine reg_done (by kernel_rfl) ?_
      clear u1 u2 u3 u4
      have hb8 : (s : Int) % 256 = ((UInt8.ofNat (s % 256)).toNat : Int) := by rw [UInt8.toNat_ofNat']; omega
      generalize UInt8.ofNat (s % 256) = z at hb8 HST
      have hz : z.toNat < 256 := z.toNat_lt
      go_wp2
      go_roundw
      case rel =>
        refine ⟨j + 1, by omega, by congr 1; omega, ?_, ?_, ?_, ?_, ?_⟩
        · rw [HST.out.1]; congr 1
        · have := heap_set (w := wr.drew) L0.out (15 - j) (bv z)
          rw [← List.map_set, HST.out.2] at this
          exact this
        · exact (Below.heap_setCell wr.drew _ _ _ (by simp)).trans L1.out
        · exact LB.out.drew.setCell (Nat.le_refl _) _
        · exact (Below.heap_setCell wr.drew _ _ _ HBNE.out).trans LD.out
      case measure => simp [intOf]; omega
    · have t1 : ¬ ((0 : Int) ≤ 15 - (j : Int)) := by omega
      have hj16 : j = 16 := by omega
      have L0' := L0.out
      rw [hj16, HD.out] at L0'
      have M0 := Lib.hid L0'
      clear L0 L0' hj16
      have hl16 : (countL c n).length = 16 := by simp [countL, putBig_len]
      have HL := Lib.hid hl16
      clear hl16
      go_wp2_with (first
        | (refine wpList_ld rfl 23 (.tmp 2) rfl (load_arr arr16T rfl (by rw [List.length_map, HL.out]; exact i16) M0.out) ?_)
        | (refine wpList_st rfl 23 (.tmp 4) (.tmp 34) rfl (store_arr (by rw [List.length_map, HL.out]; exact i16) (bv_one _) L1.out (by simp [HL.out])) ?_))
      have hres := setRow_heap wr (w.heap.size + 1) _ ((countL c n).map bv).toArray 23 _ L1.out
      exact bodyPost_ret (results_cell_row (P := Try.prog) rfl _ _ (w.heap.size + 1) 23 ((countL c n).map bv).toArray (0, 0) _ rfl hres arr16T rfl (by simp [HL.out, i16])) rfl ⟨rfl, LB.out.trans (grown_below (grown_setRow _ _ _) (by omega) LB.out.size)⟩
end Go.Proofs.Ytjmpbcfbfbjenaa

/- palfreyref08.Crypt. -/
namespace Go.Proofs.Ytjmpbcfbfbjenaa
open Go.RowKit
set_option maxRecDepth 100000
set_option linter.unusedVariables false
set_option linter.unusedSimpArgs false
theorem cell_eqA {W W0 : World} (h : W = W0) {a : Addr} {v : Value} (hc : W0.cell? a = some v) : W.cell? a = some v := by rw [h]; exact hc
theorem GrowA.app {g : Nat} {w W W' : World} {vb : Option Nat} (h : GrowA g w W) (hg : W.grownBy W' vb) (hv : ∀ k, vb = some k → w.heap.size ≤ k) : GrowA g w W' :=
  ⟨hg.os.trans h.os, hg.tape.trans h.tape, hg.output.trans h.output, Nat.le_trans h.size hg.size, fun i hi hne => (hg.block i (Nat.lt_of_lt_of_le hi h.size) (fun e => absurd (hv i e.symm) (by omega))).trans (h.block i hi hne)⟩
theorem KeysAt.grow {g gk R : Nat} {w W : World} {RK : Nat → List UInt8} (hk : ∀ r, r < R → w.rangeAt gk (r * 16) ((RK r).map bv)) (hl : gk < w.heap.size) (hn : gk ≠ g) (h : GrowA g w W) : KeysAt W (some ⟨gk, 0, none⟩) R RK :=
  ⟨gk, rfl, Nat.lt_of_lt_of_le hl h.size, fun r hr => h.range hn hl (hk r hr)⟩
theorem ctr_take_step (f : Nat → UInt8) (b : List UInt8) (i : Nat) (hi : i < b.length) : ctrL f 0 (b.take (i + 1)) = ctrL f 0 (b.take i) ++ [b.getD i 0 ^^^ f i] := by
  rw [List.take_succ_eq_append_getElem hi, ctrL_append, List.length_take, Nat.min_eq_left (by omega), Nat.zero_add]
  simp [ctrL, List.getD, hi]
theorem strm_at (E : List UInt8 → List UInt8) (iv : List UInt8) (i : Nat) : strmF E iv i = (E (countL iv (i / 16))).getD (i % 16) 0 := rfl
theorem ta_sl_cell {w : World} {A : Option Addr} {c i : Nat} {bs : List UInt8} (h : Sl w A c bs) (hi : i < bs.length) : ∃ b o, A = some ⟨b, o, none⟩ ∧ b < w.heap.size ∧ w.cell? ⟨b, o + i, none⟩ = some (.int .u8 ((bs.getD i 0).toNat : Int)) := by
  obtain ⟨b, o, hA, hb, hc⟩ := ka_sl_cell h hi
  exact ⟨b, o, hA, hb, hc i hi⟩
set_option maxHeartbeats 8000000 in
theorem refCtr_any (key : List UInt8) (nk : Nat) (A : Option Addr) (n c : Nat) (iv : List UInt8) (Ab : Option Addr) (m cb : Nat) (b : List UInt8) (w : World) (hl : key.length = n) (hn : n = 4 * nk) (hk : nk = 4 ∨ nk = 8) (hiv : iv.length = 16) (hm : b.length = m) (hm31 : m ≤ 100000) (hS : Sl w A c key) (hSb : Sl w Ab cb b) :
    Calls Try.prog 10 #[.slice A n c, .agg (iv.map bv).toArray, .slice Ab m cb] w fun e w' => ∃ v, e = .returned v ∧ w'.ownsRow w.heap.size 5 1 v m ((ctrL (strmF (encL (expandL key) (nk + 6)) iv) 0 b).map bv) ∧ Below w.heap.size w w' := by
  have HIV := Lib.hid hiv; have HM := Lib.hid hm; have HS := Lib.hid hS; have HSb := Lib.hid hSb
  have HRK := Lib.hid (fun A c W hS => refKeys_row A n c nk key W hl hn hk hS)
  have HRE := Lib.hid (fun x A cc W hx hA => refEncK_any key nk x A cc W hk (hl.trans hn) hx hA)
  have HRT := Lib.hid (fun W => refTable_any W)
  have hwl : (expandL key).length = 60 := expandL_len key (by omega)
  have HEL : Hid (∀ x, x.length = 16 → (encL (expandL key) (nk + 6) x).length = 16) := fun x hx => by rw [encL, encT, outL_len, addW_len _ _ _ (shiftW_len _ _) (by omega)]
  have HCL : Hid (∀ k, (countL iv k).length = 16) := fun k => putBig_len _ _
  have HST := Lib.hid (fun i (hi : i < b.length) => ctr_take_step (strmF (encL (expandL key) (nk + 6)) iv) b i hi)
  have HSA := Lib.hid (fun i => strm_at (encL (expandL key) (nk + 6)) iv i)
  have hz16 : ∀ W, (zeroValue 23).run Try.prog W = .ok (.agg zeros16.toArray) W := fun W => by kernel_rfl
  have hz := zero256B
  have HZL := Lib.hid zeros256_len
  have HTL : Hid ((sboxL.map bv).length = 256) := by show _ = _; rw [List.length_map, sboxL_len]
  have HI : Hid ((Try.prog.info? 48).map (·.size) = some (sboxL.map bv).length) := by show _ = _; rw [HTL.out]; exact i256B
  have hone : Hid (∀ v ∈ sboxL.map bv, v.oneCell' = true) := bv_one _
  have HZ16 : Hid (zeros16 = (List.replicate 16 (0 : UInt8)).map bv) := rfl
  have HR16 : Hid ((List.replicate 16 (0 : UInt8)).length = 16) := rfl
  have HB0 : Hid (ctrL (strmF (encL (expandL key) (nk + 6)) iv) 0 (b.take 0) = []) := by show _ = _; rw [List.take_zero]; rfl
  have HBE : Hid (ctrL (strmF (encL (expandL key) (nk + 6)) iv) 0 (b.take m) = ctrL (strmF (encL (expandL key) (nk + 6)) iv) 0 b) := by show _ = _; rw [List.take_of_length_le (by omega)]
  obtain ⟨CT, HCT⟩ : ∃ CT : Nat → List UInt8, Hid (∀ i, ctrL (strmF (encL (expandL key) (nk + 6)) iv) 0 (b.take i) = CT i) := ⟨fun i => _, fun _ => rfl⟩
  rw [HCT.out] at HB0 HBE
  rw [← HBE.out]
  have HST : Hid (∀ i, i < m → CT (i + 1) = CT i ++ [b.getD i 0 ^^^ strmF (encL (expandL key) (nk + 6)) iv i]) := fun i hi => by rw [← HCT.out, ← HCT.out]; exact HST.out i (by rw [hm]; exact hi)
  clear HCT HBE
  generalize strmF (encL (expandL key) (nk + 6)) iv = SF at HST HSA
  generalize encL (expandL key) (nk + 6) = E at HRE HEL HSA
  have HCO := Lib.hid (fun k W h => refCount_any iv k W hiv h)
  generalize countL iv = CI at HCL HSA HCO
  generalize rkB (expandL key) = RK at HRK HRE
  generalize zeros256 = Z at hz HZL
  generalize zeros16 = Z16 at hz16 HZ16
  generalize sboxL.map bv = TB at HRK HRE HRT HTL HI hone
  obtain ⟨r7, hr7⟩ : ∃ r7, r7 = nk + 7 := ⟨_, rfl⟩
  rw [← hr7] at HRK HRE
  obtain ⟨XR, HXR⟩ : ∃ X, Hid (CT m = X) := ⟨_, rfl⟩
  rw [HXR.out]
  clear hl hn hk hiv hm hS hSb hr7 hwl
  go_enter Try.func10, Try.ntmps10
  go_upto_region 1 with (fail)
  generalize hV : w.alloc _ = W0
  have F0 : Hid (W0.heap[w.heap.size]? = some (.cells (iv.map bv).toArray 23 (0, 0))) := heap_of_alloc hV
  have FB := Lib.hid (below_of_alloc hV (Nat.le_refl w.heap.size))
  clear hV
  go_wp2_with fail
  refine (HRT.out W0).mono ?_
  rintro e w1 ⟨rfl, hb1⟩
  have F1 := Lib.hid ((hb1.block _ (lt_of_heap F0.out)).trans F0.out)
  have B1 := Lib.hid (FB.out.step hb1)
  clear hb1 F0 FB
  go_upto_region 2 with (first
    | (refine wpList_st rfl 48 (.tmp 7) (.tmp 12) rfl (store_arr (cs := TB) (old := Z) HI.out hone.out (heap_alloc_new' w1 _) (by rw [HZL.out, HTL.out])) ?_
       generalize hV : World.setRow _ _ _ = W2
       have M2 := Lib.hid (heap_of_setRow hV (heap_alloc_new' w1 _))
       have MB := Lib.hid (((Below.refl w1.heap.size w1).alloc (Nat.le_refl _) _).trans (below_of_setRow hV (Nat.le_refl w1.heap.size) (by simp)))
       clear hV)
    | fail)
  have F2 := Lib.hid ((MB.out.block _ (lt_of_heap F1.out)).trans F1.out)
  have B2 := Lib.hid (B1.out.step MB.out)
  have S2 := Lib.hid (HS.out.below B2.out)
  clear F1 B1 MB
  obtain ⟨g7, hg7⟩ : ∃ g, w1.heap.size = g := ⟨_, rfl⟩
  rw [hg7] at M2 ⊢
  clear hg7
  go_wp2_with (first
    | (refine wpList_ld rfl 48 (.tmp 7) rfl (load_arr arr256B rfl HI.out M2.out) ?_)
    | fail)
  refine (HRK.out A c W2 S2.out).mono ?_
  rintro e w3 ⟨A8, c8, rfl, hK, hb3⟩
  obtain ⟨gk, rfl, hgk, hkr⟩ := hK
  have F3 := Lib.hid ((hb3.block _ (lt_of_heap F2.out)).trans F2.out)
  have M3 := Lib.hid ((hb3.block _ (lt_of_heap M2.out)).trans M2.out)
  have B3 := Lib.hid (B2.out.step hb3)
  have HGK := Lib.hid hgk; have HKR := Lib.hid hkr
  clear hb3 F2 M2 B2 S2 hgk hkr
  go_upto_region 5 with (fail)
  generalize hV : w3.alloc _ = W4
  have G4 : Hid (W4.heap[w3.heap.size]? = some (.cells Z16.toArray 23 (0, 0))) := heap_of_alloc hV
  have XB := Lib.hid (below_of_alloc hV (Nat.le_refl w3.heap.size))
  have Z4 : Hid (W4.heap.size = w3.heap.size + 1) := by show _ = _; rw [← hV]; simp
  clear hV
  obtain ⟨g10, hg10⟩ : ∃ g, w3.heap.size = g := ⟨_, rfl⟩
  have L0 : Hid (w.heap.size < g10) := by rw [← hg10]; exact lt_of_heap F3.out
  have L7 : Hid (g7 < g10) := by rw [← hg10]; exact lt_of_heap M3.out
  have LK : Hid (gk < g10) := by rw [← hg10]; exact HGK.out
  rw [hg10] at G4 XB Z4 ⊢
  have F4 := Lib.hid ((XB.out.block _ L0.out).trans F3.out)
  have M4 := Lib.hid ((XB.out.block _ L7.out).trans M3.out)
  have KR4 : Hid (∀ r, r < r7 → W4.rangeAt gk (r * 16) ((RK r).map bv)) := fun r hr => range_heap (XB.out.block _ LK.out) (HKR.out r hr)
  have B4 : Hid (Below w.heap.size w W4) := B3.out.step (by rw [hg10]; exact XB.out)
  have SB4 := Lib.hid (HSb.out.below B4.out)
  have KL4 : Hid (gk < W4.heap.size) := by have h1 := LK.out; have h2 := Z4.out; show _ < _; omega
  rw [HZ16.out] at G4
  clear hg10 F3 M3 B3 XB HGK HKR HZ16
  have N0 : Hid (w.heap.size ≠ g10) := by have := L0.out; show _ ≠ _; omega
  have N7 : Hid (g7 ≠ g10) := by have := L7.out; show _ ≠ _; omega
  have NK : Hid (gk ≠ g10) := by have := LK.out; show _ ≠ _; omega
  obtain ⟨q, hq⟩ : ∃ q, q = W4.heap.size := ⟨_, rfl⟩
  have HQ := Lib.hid hq
  have HQ10 : Hid (g10 < q) := by have h2 := Z4.out; show _ < _; omega
  clear hq Z4
  go_wp2_with fail
  go_loopw [9, 11] (fun s9 vi wr => ∃ (i : Nat) (X : List UInt8) (v9 : Value), i ≤ m ∧ v9 = s9 ∧ vi = .int .i64 (i : Int) ∧ Hid (X.length = 16) ∧ Hid (¬ i % 16 = 0 → X = E (CI (i / 16))) ∧ Hid (wr.heap[g10]? = some (.cells (X.map bv).toArray 23 (0, 0))) ∧ Hid (wr.ownsRow q 5 1 v9 i ((CT i).map bv)) ∧ Hid (GrowA g10 W4 wr)) (fun _ i _ => m - (intOf i).toNat)
  case atStart => exact ⟨0, _, _, by omega, rfl, rfl, HR16, fun h => absurd rfl h, G4, by show World.ownsRow _ _ _ _ _ _ _; rw [HB0.out]; exact World.ownsRow_nil _ _ _ _, Pre.refl _⟩
  case round =>
    clear G4
    obtain ⟨i, X, v9, hi, rfl, rfl, HXL, HXE, HG, HO, HGR⟩ := hrel
    by_cases hlt : i < m
    · have e1 : (i : Int) < (m : Int) := by omega
      obtain ⟨r, hr⟩ : ∃ r, r = i % 16 := ⟨_, rfl⟩
      obtain ⟨k, hk⟩ : ∃ k, k = i / 16 := ⟨_, rfl⟩
      have u0 : (i : Int) % 16 = (r : Int) := by omega
      have u3 : (i : Int).tmod 16 = (r : Int) := by rw [Int.tmod_eq_emod_of_nonneg (by omega)]; exact u0
      have u4 : (i : Int) / 16 = (k : Int) := by omega
      have u5 : (i : Int).tdiv 16 = (k : Int) := by rw [Int.tdiv_eq_ediv_of_nonneg (by omega)]; exact u4
      have r16 : (r : Int) < 16 := by omega
      have hr16 : r < 16 := by omega
      have u6 : IntKind.i64.wrap (k : Int) = (k : Int) := by rw [IntKind.wrap_i64]; omega
      have u7 : IntKind.u64.wrap (k : Int) = (k : Int) := by rw [IntKind.wrap_u64]; omega
      have u8 : IntKind.i64.wrap (r : Int) = (r : Int) := by rw [IntKind.wrap_i64]; omega
      have hk64 : k < 18446744073709551616 := by omega
      have hnx : Hid (¬ (i + 1) % 16 = 0 → (i + 1) / 16 = k) := by intro h; omega
      have HSi := HST.out i hlt
      rw [HSA.out, ← hr, ← hk] at HSi
      rw [← hr, ← hk] at HXE
      have HIM : Hid (i < m ∧ m ≤ 100000) := ⟨hlt, hm31⟩
      obtain ⟨Y, HY⟩ : ∃ Y, Hid (E (CI k) = Y) := ⟨_, rfl⟩
      have HYL : Hid (Y.length = 16) := by rw [← HY.out]; exact HEL.out _ (HCL.out k)
      rw [HY.out] at HSi HXE
      have HSi := Lib.hid HSi
      clear hr hk
      go_upto_if 24 with (fail)
      go_cut [24] from 25 to 32 (fun v24 wx => Hid (wx.heap[g10]? = some (.cells (Y.map bv).toArray 23 (0, 0))) ∧ Hid (wx.ownsRow q 5 1 v9 i ((CT i).map bv)) ∧ Hid (GrowA g10 W4 wx))
      case first =>
        by_cases h0 : r = 0
        · have q2 : ((r : Int) == 0) = true := by simp [h0]
          clear h0
          have CO := Lib.hid (fun W => HCO.out k W hk64)
          have RE := Lib.hid (fun A cc W hA => HRE.out (CI k) A cc W (HCL.out k) hA)
          have HCK := Lib.hid (HCL.out k)
          generalize CI k = C at CO RE HY HCK
          rw [HY.out] at RE
          go_upto_region 9 with (fail)
          have OO : Hid (∀ W, GrowA g10 wr W → W.ownsRow q 5 1 v9 i ((CT i).map bv)) := fun W hW => by
            have h2 := HO.out
            obtain ⟨h0, h | ⟨g, cap, cur, hv, hg, hh, rr⟩⟩ := h2
            · exact ⟨h0, .inl h⟩
            · exact ⟨h0, .inr ⟨g, cap, cur, hv, hg, hW.heap (by have := HQ10.out; omega) hh, rr⟩⟩
          have HX : Hid (GrowA g10 wr wr.drew) := GrowA.drew _ _
          refine regS_start (GrowA g10) (by kernel_rfl) ?_
          try simp only [Act.put, List.setIfInBounds_toArray, List.set_cons_zero, List.set_cons_succ]
          refine regS_load 0 (some 25) (fun W hW => load_arr arr256B rfl HI.out (hW.heap N7.out (HX.out.heap N7.out (HGR.out.heap N7.out M4.out)))) rfl rfl rfl rfl (by kernel_rfl) (by kernel_rfl) (by kernel_rfl) (fun _ _ _ h => h) (by rfl) ?_
          simp only [Act.put, List.setIfInBounds_toArray, List.set_cons_zero, List.set_cons_succ]
          refine regS_take (v := ?_) 1 (some 26) rfl rfl (by kernel_rfl) (by kernel_rfl) (by kernel_rfl) (fun _ _ _ h => h) (by rfl) (fun W hW => ?_) ?_
          rotate_left
          · (go_simp; try rfl)
          simp only [Act.put, List.setIfInBounds_toArray, List.set_cons_zero, List.set_cons_succ]
          refine regS_load 2 (some 27) (fun W hW => load_arr arr16B rfl (r_i16 iv HIV.out) (hW.heap N0.out (HX.out.heap N0.out (HGR.out.heap N0.out F4.out)))) rfl rfl rfl rfl (by kernel_rfl) (by kernel_rfl) (by kernel_rfl) (fun _ _ _ h => h) (by rfl) ?_
          simp only [Act.put, List.setIfInBounds_toArray, List.set_cons_zero, List.set_cons_succ]
          refine regS_take (v := ?_) 3 (some 28) rfl rfl (by kernel_rfl) (by kernel_rfl) (by kernel_rfl) (fun _ _ _ h => h) (by rfl) (fun W hW => ?_) ?_
          rotate_left
          · (go_simp; try rfl)
          simp only [Act.put, List.setIfInBounds_toArray, List.set_cons_zero, List.set_cons_succ]
          refine regS_take (v := ?_) 4 (some 29) rfl rfl (by kernel_rfl) (by kernel_rfl) (by kernel_rfl) (fun _ _ _ h => h) (by rfl) (fun W hW => ?_) ?_
          rotate_left
          · (go_simp; try rfl)
          simp only [Act.put, List.setIfInBounds_toArray, List.set_cons_zero, List.set_cons_succ]
          refine regS_take (v := ?_) 5 (some 30) rfl rfl (by kernel_rfl) (by kernel_rfl) (by kernel_rfl) (fun _ _ _ h => h) (by rfl) (fun W hW => ?_) ?_
          rotate_left
          · (go_simp; try rfl)
          simp only [Act.put, List.setIfInBounds_toArray, List.set_cons_zero, List.set_cons_succ]
          refine regS_eff 6 rfl (by kernel_rfl) (fun K hK => ?_)
          go_simp
          refine (CO.out _).mono ?_
          rintro e w5 ⟨rfl, hb⟩
          have P5 := Lib.hid ((hb.block _ (lt_of_heap (w := wr.drew) HG.out)).trans HG.out)
          have hE := GrowA.of_ext (g := g10) hb
          clear hb
          refine hK.out _ _ hE ?_
          have HX := Lib.hid (Pre.trans HX.out hE)
          clear hE hK K
          try simp only [Act.put, List.setIfInBounds_toArray, List.set_cons_zero, List.set_cons_succ]
          refine regS_eff 7 rfl (by kernel_rfl) (fun K hK => ?_)
          go_simp
          refine (RE.out _ c8 _ (KeysAt.grow (g := g10) KR4.out KL4.out NK.out (HGR.out.trans HX.out))).mono ?_
          rintro e w6 ⟨rfl, hb⟩
          have P6 := Lib.hid ((hb.block _ (lt_of_heap P5.out)).trans P5.out)
          have hE := GrowA.of_ext (g := g10) hb
          clear hb
          refine hK.out _ _ hE ?_
          have HX := Lib.hid (Pre.trans HX.out hE)
          clear hE hK K
          try simp only [Act.put, List.setIfInBounds_toArray, List.set_cons_zero, List.set_cons_succ]
          refine regS_eff 8 rfl (by kernel_rfl) (fun K hK => ?_)
          refine step_st1 rfl 23 (.tmp 10) (.tmp 32) rfl (store_arr (cs := Y.map bv) (r_i16 _ HYL.out) (bv_one _) P6.out (by rw [List.length_map, List.length_map, HXL.out, HYL.out])) ?_
          generalize hV : World.setRow _ _ _ = W7
          have hres := Lib.hid (heap_of_setRow hV P6.out)
          have hE : GrowA g10 w6 W7 := by rw [← hV]; exact GrowA.setRow _ _ _
          clear hV
          refine hK.out _ _ hE ?_
          have HX := Lib.hid (Pre.trans HX.out hE)
          clear hE hK K
          try simp only [Act.put, List.setIfInBounds_toArray, List.set_cons_zero, List.set_cons_succ]
          refine regS_done (by kernel_rfl) ?_
          go_wp2_with fail
          go_meet
          exact ⟨hres, OO.out _ HX.out, HGR.out.trans HX.out⟩
        · have q2 : ((r : Int) == 0) = false := by simp; omega
          have hXY : Hid (X = Y) := HXE.out h0
          clear h0
          go_wp2_with fail
          go_meet
          exact ⟨by rw [← hXY.out]; exact HG.out, HO, HGR⟩
      case rest =>
        obtain ⟨G5, O5, R5⟩ := hcut
        have BW : Hid (Below w.heap.size w wc) := B4.out.trans (R5.out.below (Nat.le_of_lt L0.out) B4.out.size)
        obtain ⟨pb, ob, rfl, hpb, cx⟩ := ta_sl_cell (HSb.out.below BW.out) (i := i) (by rw [HM.out]; exact hlt)
        have cy := bcellT G5.out r (by rw [HYL.out]; exact hr16)
        generalize b.getD i 0 = x at cx HSi
        generalize Y.getD r 0 = y at cy HSi
        obtain ⟨z, hz⟩ : ∃ z, z = x ^^^ y := ⟨_, rfl⟩
        have hzz : bits .xor .u8 (x.toNat : Int) (y.toNat : Int) = (z.toNat : Int) := by rw [hz]; exact xor8 x y
        rw [← hz] at HSi
        have hi31 : i + 1 ≤ 2147483647 := by omega
        have LS : Hid (q ≤ wc.heap.size) := by have h1 := R5.out.size; have h2 := HQ.out; show _ ≤ _; omega
        clear hz hpb BW
        go_upto_region 10 with (fail)
        have HS : Hid (wc.drew = wc.drew) := rfl
        have CX : Hid (wc.drew.cell? ⟨pb, ob + i, none⟩ = _) := cx
        have CY : Hid (wc.drew.cell? ⟨g10, r, none⟩ = _) := cy
        clear cx cy
        refine regK_start (9) (fun W => W = wc.drew) (by kernel_rfl) ?_
        try simp only [Act.put, List.setIfInBounds_toArray, List.set_cons_zero, List.set_cons_succ]
        refine regK_take (v := ?_) 0 (some 33) rfl rfl (by kernel_rfl) (by kernel_rfl) (by kernel_rfl) (fun _ _ _ h => h) (by rfl) (by kernel_rfl) HS.out (fun W => ?_) ?_
        rotate_left
        · (go_simp; try rfl)
        simp only [Act.put, List.setIfInBounds_toArray, List.set_cons_zero, List.set_cons_succ]
        refine regK_take (v := ?_) 1 (some 34) rfl rfl (by kernel_rfl) (by kernel_rfl) (by kernel_rfl) (fun _ _ _ h => h) (by rfl) (by kernel_rfl) HS.out (fun W => ?_) ?_
        rotate_left
        · (go_simp; try rfl)
        simp only [Act.put, List.setIfInBounds_toArray, List.set_cons_zero, List.set_cons_succ]
        refine regK_take (v := ?_) 2 (some 35) rfl rfl (by kernel_rfl) (by kernel_rfl) (by kernel_rfl) (fun _ _ _ h => h) (by rfl) (by kernel_rfl) HS.out (fun W => ?_) ?_
        rotate_left
        · (go_simp; try rfl)
        simp only [Act.put, List.setIfInBounds_toArray, List.set_cons_zero, List.set_cons_succ]
        refine regK_take (v := ?_) 3 (some 36) rfl rfl (by kernel_rfl) (by kernel_rfl) (by kernel_rfl) (fun _ _ _ h => h) (by rfl) (by kernel_rfl) HS.out (fun W => ?_) ?_
        rotate_left
        · (go_simp; try rfl)
        simp only [Act.put, List.setIfInBounds_toArray, List.set_cons_zero, List.set_cons_succ]
        refine regK_load 4 (some 37) (fun W hW => load_cell Try.underlying5 (cell_eqA hW CX.out)) rfl rfl rfl rfl (by kernel_rfl) (by kernel_rfl) (by kernel_rfl) (fun _ _ _ h => h) (by rfl) (by kernel_rfl) HS.out ?_
        simp only [Act.put, List.setIfInBounds_toArray, List.set_cons_zero, List.set_cons_succ]
        refine regK_take (v := ?_) 5 (some 38) rfl rfl (by kernel_rfl) (by kernel_rfl) (by kernel_rfl) (fun _ _ _ h => h) (by rfl) (by kernel_rfl) HS.out (fun W => ?_) ?_
        rotate_left
        · (go_simp; try rfl)
        simp only [Act.put, List.setIfInBounds_toArray, List.set_cons_zero, List.set_cons_succ]
        refine regK_take (v := ?_) 6 (some 39) rfl rfl (by kernel_rfl) (by kernel_rfl) (by kernel_rfl) (fun _ _ _ h => h) (by rfl) (by kernel_rfl) HS.out (fun W => ?_) ?_
        rotate_left
        · (go_simp; try rfl)
        simp only [Act.put, List.setIfInBounds_toArray, List.set_cons_zero, List.set_cons_succ]
        refine regK_take (v := ?_) 7 (some 40) rfl rfl (by kernel_rfl) (by kernel_rfl) (by kernel_rfl) (fun _ _ _ h => h) (by rfl) (by kernel_rfl) HS.out (fun W => ?_) ?_
        rotate_left
        · (go_simp; try rfl)
        simp only [Act.put, List.setIfInBounds_toArray, List.set_cons_zero, List.set_cons_succ]
        refine regK_load 8 (some 41) (fun W hW => load_cell Try.underlying5 (cell_eqA hW CY.out)) rfl rfl rfl rfl (by kernel_rfl) (by kernel_rfl) (by kernel_rfl) (fun _ _ _ h => h) (by rfl) (by kernel_rfl) HS.out ?_
        simp only [Act.put, List.setIfInBounds_toArray, List.set_cons_zero, List.set_cons_succ]
        refine regK_bar 9 rfl (by kernel_rfl) (by kernel_rfl) (fun K hK => ?_)
        go_simp
        refine hK.out _ _ trivial ?_
        clear hK K
        try simp only [Act.put, List.setIfInBounds_toArray, List.set_cons_zero, List.set_cons_succ]
        refine regS_eff 10 rfl (by kernel_rfl) (fun K hK => ?_)
        go_simp
        refine hK.out _ _ trivial ?_
        clear hK K
        try simp only [Act.put, List.setIfInBounds_toArray, List.set_cons_zero, List.set_cons_succ]
        refine regS_eff 11 rfl (by kernel_rfl) (fun K hK => ?_)
        obtain ⟨v6, w6, hrun, hown, hgr, _⟩ := append_row_at (P := Try.prog) (wc.drew.alloc (.cells ([z].map bv).toArray 5)) q 26 uT made8 rfl v9 i ((CT i).map bv) (k_alloc O5.out.drew _) (wc.heap.size + 1) (some ⟨wc.heap.size, 0, none⟩) 1 1 ([z].map bv) (row_of_heap (bs := [z]) (heap_alloc_new' wc.drew (.cells ([z].map bv).toArray 5)) (Nat.lt_succ_self _)) rfl (bv_one _) (by omega) (by simp [maxLen]; omega) (Nat.le_trans LS.out (by simp))
        rw [← List.map_append, ← HSi.out] at hown
        have O6 := Lib.hid hown
        have R6 : Hid (GrowA g10 W4 w6) := ((R5.out.trans (GrowA.drew _ _)).trans (GrowA.of_ext ((Below.refl _ _).alloc (Nat.le_refl _) _))).app hgr (ka_own_ge O5.out (by have := HQ.out; omega))
        have G6 : Hid (w6.heap[g10]? = some (.cells (Y.map bv).toArray 23 (0, 0))) := (hgr.block g10 (Nat.lt_of_lt_of_le (Nat.lt_of_lt_of_le HQ10.out LS.out) (by simp)) (fun e => absurd (ka_own_ge O5.out (Nat.le_refl _) g10 e.symm) (by have := HQ10.out; omega))).trans ((((Below.refl wc.drew.heap.size wc.drew).alloc (Nat.le_refl _) (.cells ([z].map bv).toArray 5)).block g10 (Nat.lt_of_lt_of_le HQ10.out LS.out)).trans G5.out)
        refine step_app rfl (.tmp 33) (.tmp 43) 26 26 rfl hrun ?_
        clear hrun hown hgr
        refine hK.out _ _ trivial ?_
        clear hK K
        try simp only [Act.put, List.setIfInBounds_toArray, List.set_cons_zero, List.set_cons_succ]
        refine regS_take (v := ?_) 12 (some 9) rfl rfl (by kernel_rfl) (by kernel_rfl) (by kernel_rfl) (fun _ _ _ h => h) (by rfl) (fun W hW => ?_) ?_
        rotate_left
        · (go_simp; try rfl)
        simp only [Act.put, List.setIfInBounds_toArray, List.set_cons_zero, List.set_cons_succ]
        refine regS_done (by kernel_rfl) ?_
        go_wp2
        go_roundw
        case rel => exact ⟨i + 1, Y, _, HIM.out.1, rfl, by go_num, HYL, fun h => by rw [hnx.out h]; exact HY.out.symm, G6, O6, R6⟩
        case measure => simp [intOf]; omega
    · have e1 : ¬ ((i : Int) < (m : Int)) := by omega
      have him : i = m := by omega
      rw [him, HXR.out] at HO
      have BW : Hid (Below w.heap.size w wr) := B4.out.trans (HGR.out.below (Nat.le_of_lt L0.out) B4.out.size)
      have O9 : Hid (wr.ownsRow w.heap.size 5 1 v9 m (XR.map bv)) := ka_own_le HO.out (by have h1 := HQ.out; have h2 := B4.out.size; omega)
      clear him
      go_wp2_with fail
      go_ret
      exact ⟨_, rfl, O9.out, BW.out⟩
end Go.Proofs.Ytjmpbcfbfbjenaa

/- palfreyref09.Seal. -/
namespace Go.Proofs.Ytjmpbcfbfbjenaa
open Go.RowKit
set_option maxRecDepth 100000
set_option linter.unusedVariables false
set_option linter.unusedSimpArgs false
theorem own_growA {w W : World} {g base : Nat} {e : TypeId} {s : Nat} {v : Value} {n : Nat} {xs : List Value} (h : w.ownsRow base e s v n xs) (hg : GrowA g w W) (hb : g < base) : W.ownsRow base e s v n xs := by
  obtain ⟨h0, h | ⟨k, cap, cur, hv, hk, hh, rr⟩⟩ := h
  · exact ⟨h0, .inl h⟩
  · exact ⟨h0, .inr ⟨k, cap, cur, hv, hk, hg.heap (by omega) hh, rr⟩⟩
theorem GrowA.cell {g b o : Nat} {w W : World} (h : GrowA g w W) (hb : b ≠ g) (hl : b < w.heap.size) : W.cell? ⟨b, o, none⟩ = w.cell? ⟨b, o, none⟩ := by
  have := h.block b hl (fun e => hb (by injection e))
  simp [World.cell?, this]
theorem GrowA.set {g : Nat} (w : World) (j : Nat) (v : Value) : GrowA g w (w.setCell ⟨g, j, none⟩ v) :=
  ⟨rfl, rfl, rfl, by simp, fun k _ hk => by rw [Below.heap_setCell w _ _ _ (fun e => hk (by rw [e]))]⟩
theorem xorL_commA (a b : List UInt8) : xorL a b = xorL b a := by
  unfold xorL; exact List.zipWith_comm_of_comm (fun a b => UInt8.xor_comm a b)
theorem blk_get (b : List UInt8) (j k : Nat) (hk : k < 16) : (blkAt b j).1.getD k 0 = b.getD (16 * j + k) 0 := by
  show ((List.range 16).map (fun r => b.getD (16 * j + r) 0)).getD k 0 = _
  rw [List.getD_eq_getElem?_getD, List.getElem?_map, List.getElem?_range hk]; rfl
theorem chain_step (E : List UInt8 → List UInt8) (iv p : List UInt8) (j : Nat) : chainL E iv p (j + 1) = chainL E iv p j ++ E (xorL (cN E iv p j) (blkAt p j).1) := by
  rw [xorL_commA]; rfl
theorem cN_step (E : List UInt8 → List UInt8) (iv p : List UInt8) (j : Nat) : cN E iv p (j + 1) = E (xorL (cN E iv p j) (blkAt p j).1) := by
  rw [xorL_commA]; rfl
theorem pad_pos (n : Nat) : 0 < n + padK9 n ∧ (n + padK9 n) % 16 = 0 ∧ n + padK9 n ≤ n + 16 := by unfold padK9; omega
theorem take_snocK (Y : List UInt8) (k : Nat) (hk : k < Y.length) : Y.take (k + 1) = Y.take k ++ [Y.getD k 0] := by
  rw [List.take_succ_eq_append_getElem hk, List.getD_eq_getElem?_getD, List.getElem?_eq_getElem hk]; rfl
set_option maxHeartbeats 1000000 in
theorem refKeys_low (A : Option Addr) (n c nk : Nat) (key : List UInt8) (w : World) (hl : key.length = n) (hn : n = 4 * nk) (hk : nk = 4 ∨ nk = 8) (hS : Sl w A c key) :
    Calls Try.prog 27 #[.agg (sboxL.map bv).toArray, .slice A n c] w fun e w' => ∃ g c', e = .returned (.slice (some ⟨g, 0, none⟩) (nk + 7) c') ∧ w.heap.size ≤ g ∧ g < w'.heap.size ∧ (∀ r, r < nk + 7 → w'.rangeAt g (r * 16) ((rkB (expandL key) r).map bv)) ∧ Below w.heap.size w w' := by
  refine (refKeys_any sboxL A n c nk key w sboxL_len hl hn hk hS).mono ?_
  rintro e w' ⟨v, rfl, hO, hb⟩
  obtain ⟨A1, c1, he, _, hc⟩ := own_readN hO
  obtain ⟨g, rfl, hg, hgw, _⟩ := hc (by omega)
  obtain ⟨A2, c2, rfl, hK⟩ := keysAt_own hO (by omega) (fun r hr => keys_row nk key (hl.trans hn) hk r hr)
  obtain ⟨g2, rfl, _, hr⟩ := hK
  injection he with e1 e2 e3
  injection e1 with e1
  injection e1 with e1 e4
  subst e1
  exact ⟨_, c2, rfl, hg, hgw, hr, hb⟩
set_option maxHeartbeats 8000000 in
theorem refSeal_any (key : List UInt8) (nk : Nat) (A : Option Addr) (n c : Nat) (iv : List UInt8) (Ab : Option Addr) (m cb : Nat) (b : List UInt8) (w : World) (hl : key.length = n) (hn : n = 4 * nk) (hk : nk = 4 ∨ nk = 8) (hiv : iv.length = 16) (hm : b.length = m) (hm31 : m ≤ 100000) (hS : Sl w A c key) (hSb : Sl w Ab cb b) :
    Calls Try.prog 15 #[.slice A n c, .agg (iv.map bv).toArray, .slice Ab m cb] w fun e w' => ∃ v, e = .returned v ∧ w'.ownsRow w.heap.size 5 1 v (m + padK9 m) ((chainL (encL (expandL key) (nk + 6)) iv (b ++ padB m) ((m + padK9 m) / 16)).map bv) ∧ Below w.heap.size w w' := by
  obtain ⟨hp0, hp16, hp17⟩ := pad_pos m
  have HIV := Lib.hid hiv; have HM := Lib.hid hm; have HS := Lib.hid hS; have HSb := Lib.hid hSb
  have HRK := Lib.hid (fun A c W hS => refKeys_low A n c nk key W hl hn hk hS)
  have HRE := Lib.hid (fun x A cc W hx hA => refEncK_any key nk x A cc W hk (hl.trans hn) hx hA)
  have HRT := Lib.hid (fun W => refTable_any W)
  have HRP := Lib.hid (fun W hS => refPadK_any Ab m cb b W hm (by omega) hS)
  have hwl : (expandL key).length = 60 := expandL_len key (by omega)
  have HEL : Hid (∀ x, x.length = 16 → (encL (expandL key) (nk + 6) x).length = 16) := fun x hx => by rw [encL, encT, outL_len, addW_len _ _ _ (shiftW_len _ _) (by omega)]
  have hz := zero256B
  have HZL := Lib.hid zeros256_len
  have HTL : Hid ((sboxL.map bv).length = 256) := by show _ = _; rw [List.length_map, sboxL_len]
  have HI : Hid ((Try.prog.info? 48).map (·.size) = some (sboxL.map bv).length) := by show _ = _; rw [HTL.out]; exact i256B
  have hone : Hid (∀ v ∈ sboxL.map bv, v.oneCell' = true) := bv_one _
  generalize encL (expandL key) (nk + 6) = E at HRE HEL ⊢
  generalize rkB (expandL key) = RK at HRK HRE
  generalize zeros256 = Z at hz HZL
  generalize sboxL.map bv = TB at HRK HRE HRT HTL HI hone
  obtain ⟨r7, hr7⟩ : ∃ r7, r7 = nk + 7 := ⟨_, rfl⟩
  rw [← hr7] at HRK HRE
  obtain ⟨N, hN⟩ : ∃ N, N = m + padK9 m := ⟨_, rfl⟩
  obtain ⟨M, hM⟩ : ∃ M, M = N / 16 := ⟨_, rfl⟩
  rw [← hN] at HRP hp0 hp16 hp17 ⊢
  rw [← hM]
  have HNM : Hid (N = 16 * M) := by show _ = _; omega
  have hpl : (b ++ padB m).length = N := by rw [List.length_append, padB_len, hm, hN]
  generalize b ++ padB m = P at HRP hpl ⊢
  have HPL := Lib.hid hpl
  have hN31 : N ≤ 100016 := by omega
  have HCL := Lib.hid (cN_len E iv P hiv HEL.out)
  have HC0 : Hid (cN E iv P 0 = iv) := rfl
  have HCS := Lib.hid (cN_step E iv P)
  have HH0 : Hid (chainL E iv P 0 = []) := rfl
  have HHS : Hid (∀ j, chainL E iv P (j + 1) = chainL E iv P j ++ cN E iv P (j + 1)) := fun j => by rw [cN_step]; exact chain_step E iv P j
  have HBG := Lib.hid (blk_get P)
  have HBL : Hid (∀ j, (blkAt P j).1.length = 16) := fun j => (blkAt P j).2
  generalize cN E iv P = CN at HCL HC0 HCS HHS
  generalize chainL E iv P = CH at HH0 HHS ⊢
  obtain ⟨BK, HBK⟩ : ∃ BK : Nat → List UInt8, Hid (∀ j, (blkAt P j).1 = BK j) := ⟨fun j => _, fun _ => rfl⟩
  have HBG2 : Hid (∀ j k, k < 16 → (BK j).getD k 0 = P.getD (16 * j + k) 0) := fun j k hk => by rw [← HBK.out]; exact HBG.out j k hk
  have HBL2 : Hid (∀ j, (BK j).length = 16) := fun j => by rw [← HBK.out]; exact HBL.out j
  have HCS2 : Hid (∀ j, CN (j + 1) = E (xorL (CN j) (BK j))) := fun j => by rw [← HBK.out]; exact HCS.out j
  clear HBG HBL HCS HBK
  obtain ⟨XR, HXR⟩ : ∃ X, Hid (CH M = X) := ⟨_, rfl⟩
  rw [HXR.out]
  clear hl hn hk hiv hm hS hSb hr7 hwl hN hM hpl hp16
  go_enter Try.func15, Try.ntmps15
  go_upto_region 1 with (fail)
  generalize hV : w.alloc _ = W0
  have F0 : Hid (W0.heap[w.heap.size]? = some (.cells (iv.map bv).toArray 23 (0, 0))) := heap_of_alloc hV
  have FB := Lib.hid (below_of_alloc hV (Nat.le_refl w.heap.size))
  clear hV
  go_wp2_with fail
  refine (HRT.out W0).mono ?_
  rintro e w1 ⟨rfl, hb1⟩
  have F1 := Lib.hid ((hb1.block _ (lt_of_heap F0.out)).trans F0.out)
  have B1 := Lib.hid (FB.out.step hb1)
  clear hb1 F0 FB
  go_upto_region 2 with (first
    | (refine wpList_st rfl 48 (.tmp 7) (.tmp 14) rfl (store_arr (cs := TB) (old := Z) HI.out hone.out (heap_alloc_new' w1 _) (by rw [HZL.out, HTL.out])) ?_
       generalize hV : World.setRow _ _ _ = W2
       have M2 := Lib.hid (heap_of_setRow hV (heap_alloc_new' w1 _))
       have MB := Lib.hid (((Below.refl w1.heap.size w1).alloc (Nat.le_refl _) _).trans (below_of_setRow hV (Nat.le_refl w1.heap.size) (by simp)))
       clear hV)
    | fail)
  have F2 := Lib.hid ((MB.out.block _ (lt_of_heap F1.out)).trans F1.out)
  have B2 := Lib.hid (B1.out.step MB.out)
  have S2 := Lib.hid (HS.out.below B2.out)
  obtain ⟨g7, hg7⟩ : ∃ g, w1.heap.size = g := ⟨_, rfl⟩
  have N7 : Hid (g7 ≠ w.heap.size) := by have := lt_of_heap F1.out; show _ ≠ _; omega
  rw [hg7] at M2 ⊢
  clear F1 B1 MB hg7
  go_wp2_with (first
    | (refine wpList_ld rfl 48 (.tmp 7) rfl (load_arr arr256B rfl HI.out M2.out) ?_)
    | fail)
  refine (HRK.out A c W2 S2.out).mono ?_
  rintro e w3 ⟨gk, c8, rfl, hgk0, hgk, hkr, hb3⟩
  have NK : Hid (gk ≠ w.heap.size) := by have := lt_of_heap F2.out; show _ ≠ _; omega
  have F3 := Lib.hid ((hb3.block _ (lt_of_heap F2.out)).trans F2.out)
  have M3 := Lib.hid ((hb3.block _ (lt_of_heap M2.out)).trans M2.out)
  have B3 := Lib.hid (B2.out.step hb3)
  have S3 := Lib.hid (HSb.out.below B3.out)
  have HGK := Lib.hid hgk; have HKR := Lib.hid hkr
  clear hb3 F2 M2 B2 S2 hgk hkr hgk0
  go_wp2_with fail
  refine (HRP.out w3 S3.out).mono ?_
  rintro e w4 ⟨v9, rfl, hO9, hb4⟩
  obtain ⟨A9, c9, rfl, _, hrd⟩ := own_readN hO9
  obtain ⟨g9, rfl, hg9, hgw9, hcell⟩ := hrd hp0
  have N9 : Hid (g9 ≠ w.heap.size) := by have := lt_of_heap F3.out; show _ ≠ _; omega
  have F4 := Lib.hid ((hb4.block _ (lt_of_heap F3.out)).trans F3.out)
  have M4 := Lib.hid ((hb4.block _ (lt_of_heap M3.out)).trans M3.out)
  have B4 := Lib.hid (B3.out.step hb4)
  have KR4 : Hid (∀ r, r < r7 → w4.rangeAt gk (r * 16) ((RK r).map bv)) := fun r hr => range_heap (hb4.block _ HGK.out) (HKR.out r hr)
  have KL4 : Hid (gk < w4.heap.size) := Nat.lt_of_lt_of_le HGK.out hb4.size
  have PC4 : Hid (∀ i, i < N → w4.cell? ⟨g9, i, none⟩ = some (.int .u8 ((P.getD i 0).toNat : Int))) := fun i hi => by
    have h := hcell i (bv (P[i]'(by rw [HPL.out]; exact hi))) (by rw [List.getElem?_map, List.getElem?_eq_getElem (by rw [HPL.out]; exact hi)]; rfl)
    rw [h, List.getD_eq_getElem?_getD, List.getElem?_eq_getElem (by rw [HPL.out]; exact hi)]; rfl
  have PL4 : Hid (g9 < w4.heap.size) := hgw9
  have LV4 : Hid (w.heap.size < w4.heap.size) := lt_of_heap F4.out
  clear hO9 hb4 hrd hg9 hgw9 hcell F3 M3 B3 S3 HGK HKR hp0
  obtain ⟨g4, hg4⟩ : ∃ g, w.heap.size = g := ⟨_, rfl⟩
  have HG4 := Lib.hid hg4
  rw [hg4] at F4 N7 NK N9 LV4 ⊢
  clear hg4
  obtain ⟨q, hq⟩ : ∃ q, q = w4.heap.size := ⟨_, rfl⟩
  have HQ := Lib.hid hq
  have HQ4 : Hid (g4 < q) := by rw [hq]; exact LV4.out
  clear hq
  go_wp2_with fail
  go_loopw [10, 11] (fun s10 vi wr => ∃ (j i : Nat) (v10 : Value), j ≤ M ∧ v10 = s10 ∧ Hid (i = 16 * j) ∧ vi = .int .i64 (i : Int) ∧ Hid (wr.heap[g4]? = some (.cells ((CN j).map bv).toArray 23 (0, 0))) ∧ Hid (wr.ownsRow q 5 1 v10 i ((CH j).map bv)) ∧ Hid (GrowA g4 w4 wr)) (fun _ i _ => N - (intOf i).toNat)
  case atStart => exact ⟨0, 0, _, by omega, rfl, rfl, rfl, by show _ = _; rw [HC0.out]; exact F4.out, by show World.ownsRow _ _ _ _ _ _ _; rw [HH0.out]; exact World.ownsRow_nil _ _ _ _, Pre.refl _⟩
  case round =>
    obtain ⟨j, i, v10, hj, rfl, HIJ, rfl, HG, HO, HGR⟩ := hrel
    by_cases hlt : i < N
    · have e1 : (i : Int) < (N : Int) := by omega
      have hjM : j < M := by have h1 := HIJ.out; have h2 := HNM.out; omega
      have hiN : i + 16 ≤ N := by have h1 := HIJ.out; have h2 := HNM.out; omega
      have HCj := Lib.hid (HCL.out j); have HBj := Lib.hid (HBL2.out j)
      have HCn := HCS2.out j
      have HHn := HHS.out j
      have HBv : Hid (∀ k, k < 16 → (BK j).getD k 0 = P.getD (i + k) 0) := fun k hk => by rw [HIJ.out]; exact HBG2.out j k hk
      have HYL := HEL.out (xorL (CN j) (BK j)) (by rw [xorL_len, HCj.out, HBj.out]; rfl)
      obtain ⟨Y, HY⟩ : ∃ Y, Hid (CN (j + 1) = Y) := ⟨_, rfl⟩
      rw [HY.out] at HCn HHn
      rw [← HCn] at HYL
      generalize CN j = C at HG HCj HCn
      generalize BK j = B at HBj HBv HCn
      replace HCn := Lib.hid HCn; replace HHn := Lib.hid HHn; replace HYL := Lib.hid HYL
      go_wp2_with fail
      obtain ⟨wp, hwp⟩ : ∃ x, x = wr := ⟨_, rfl⟩
      subst hwp
      go_loopw [12] (fun vk wr => ∃ (k : Nat), k ≤ 16 ∧ vk = .int .i64 (k : Int) ∧ Hid (wr.heap[g4]? = some (.cells ((plN C B k).map bv).toArray 23 (0, 0))) ∧ Hid (GrowA g4 wp wr)) (fun k _ => 16 - (intOf k).toNat)
      case atStart => exact ⟨0, by omega, rfl, by show _ = _; rw [show plN C B 0 = C by simp [plN]]; exact HG, Pre.refl _⟩
      case round =>
        clear HG
        obtain ⟨k, hk, rfl, HGk, HW⟩ := hrel
        by_cases hltk : k < 16
        · have q2 : (k : Int) < 16 := by omega
          obtain ⟨e, he⟩ : ∃ e, e = i + k := ⟨_, rfl⟩
          have o1 : IntKind.i64.wrap ((i : Int) + (k : Int)) = (e : Int) := by rw [IntKind.wrap_i64]; omega
          have o3 : (e : Int) < (N : Int) := by omega
          have c4 := bcellT HGk.out k (by rw [plN_len C B k HCj.out HBj.out hk]; exact hltk)
          rw [plN_get C B k HCj.out HBj.out hltk] at c4
          have cp := (HW.out.cell (o := e) N9.out (Nat.lt_of_lt_of_le PL4.out HGR.out.size)).trans ((HGR.out.cell N9.out PL4.out).trans (PC4.out e (by omega)))
          have hbv := HBv.out k hltk
          rw [← he] at hbv
          rw [← hbv] at cp
          have HST := plN_step C B k HCj.out HBj.out hltk
          generalize C.getD k 0 = x at c4 HST
          generalize B.getD k 0 = y at cp HST
          obtain ⟨z, hz'⟩ : ∃ z : UInt8, z = x ^^^ y := ⟨_, rfl⟩
          have hzz : bits .xor .u8 (x.toNat : Int) (y.toNat : Int) = (z.toNat : Int) := by rw [hz']; exact xor8 x y
          rw [← hz'] at HST
          have HST := Lib.hid HST
          have fz := frozen_of_heap HGk.out k
          have heN : e < N := by omega
          clear hz' he hbv
          go_upto_region 11 with (fail)
          go_still_tail 12, (by kernel_rfl)
          change wpList _ _ _ _ _ wr.drew
          go_wp2
          go_roundw
          case rel =>
            refine ⟨k + 1, by omega, by go_num, ?_, HW.out.trans ((GrowA.drew _ _).trans (GrowA.set _ _ _))⟩
            have hfin := heap_set (w := wr.drew) HGk.out k (bv z)
            rw [← List.map_set, HST.out] at hfin
            first | exact hfin | (rw [hzz]; exact hfin)
          case measure => simp [intOf]; omega
        · have q2 : ¬ ((k : Int) < 16) := by omega
          have hk16 : k = 16 := by omega
          rw [hk16, plN_end C B HCj.out HBj.out] at HGk
          clear hk16
          have HXL : Hid ((xorL C B).length = 16) := by show _ = _; rw [xorL_len, HCj.out, HBj.out]; rfl
          have RE := Lib.hid (fun A cc W hA => HRE.out (xorL C B) A cc W HXL.out hA)
          rw [← HCn.out] at RE
          generalize xorL C B = X at HGk HXL RE
          have hiX := Lib.hid (r_i16 X HXL.out)
          have hiY := Lib.hid (r_i16 Y HYL.out)
          have HWr : Hid (GrowA g4 w4 wr) := HGR.out.trans HW.out
          have M5 := Lib.hid (HWr.out.heap N7.out M4.out)
          have OWr := Lib.hid (own_growA HO.out HW.out HQ4.out)
          clear HW HGR HO HCn
          go_wp2_with (first
            | (refine wpList_ld rfl 48 (.tmp 7) rfl (load_arr arr256B rfl HI.out M5.out) ?_)
            | (refine wpList_ld rfl 23 (.tmp 4) rfl (load_arr arr16B rfl hiX.out HGk.out) ?_)
            | fail)
          refine (RE.out _ c8 wr (KeysAt.grow (g := g4) KR4.out KL4.out NK.out HWr.out)).mono ?_
          rintro e w6 ⟨rfl, hb6⟩
          have H6 := Lib.hid ((hb6.block _ (lt_of_heap HGk.out)).trans HGk.out)
          have G6 : Hid (GrowA g4 w4 w6) := HWr.out.trans (GrowA.of_ext hb6)
          have O6 := Lib.hid (ka_own_below OWr.out hb6)
          clear hb6 HGk HWr OWr M5 RE
          go_upto_region 13 with (first
            | (refine wpList_st rfl 23 (.tmp 4) (.tmp 45) rfl (store_arr (cs := Y.map bv) hiY.out (bv_one _) H6.out (by rw [List.length_map, List.length_map, HXL.out, HYL.out])) ?_
               generalize hV : World.setRow _ _ _ = W7
               have H7 := Lib.hid (heap_of_setRow hV H6.out)
               have X7 : Hid (GrowA g4 w6 W7) := by rw [← hV]; exact GrowA.setRow _ _ _
               clear hV)
            | fail)
          have G7 : Hid (GrowA g4 w4 W7) := G6.out.trans X7.out
          have O7 := Lib.hid (own_growA O6.out X7.out HQ4.out)
          clear G6 O6 X7 H6
          go_wp2_with fail
          go_loopw [10, 13] (fun s10 vk wr => ∃ (k s : Nat) (v10 : Value), k ≤ 16 ∧ v10 = s10 ∧ Hid (s = i + k) ∧ vk = .int .i64 (k : Int) ∧ Hid (wr.heap[g4]? = some (.cells (Y.map bv).toArray 23 (0, 0))) ∧ Hid (wr.ownsRow q 5 1 v10 s ((CH j ++ Y.take k).map bv)) ∧ Hid (GrowA g4 w4 wr)) (fun _ k _ => 16 - (intOf k).toNat)
          case atStart => exact ⟨0, i, _, by omega, rfl, rfl, rfl, H7, by show World.ownsRow _ _ _ _ _ _ _; rw [List.take_zero, List.append_nil]; exact O7.out, G7⟩
          case round =>
            clear H7 O7 G7
            obtain ⟨k, s, v10, hk, rfl, HSK, rfl, H7, O7, G7⟩ := hrel
            by_cases hltk : k < 16
            · have q2 : (k : Int) < 16 := by omega
              have cy := bcellT H7.out k (by rw [HYL.out]; exact hltk)
              have HTS := take_snocK Y k (by rw [HYL.out]; exact hltk)
              generalize Y.getD k 0 = z at cy HTS
              have HTS := Lib.hid HTS
              have hs31 : s + 1 ≤ 2147483647 := by have := HSK.out; omega
              have LS : Hid (q ≤ wr.heap.size) := by have h1 := G7.out.size; have h2 := HQ.out; show _ ≤ _; omega
              go_wp2_with (first
                | (at_builtin
                   refine wpList_app8 rfl (.tmp 50) (.tmp 54) rfl q _ s (CH j ++ Y.take k) rfl ?_ (some ⟨wr.heap.size, 0, none⟩) 1 1 (wr.heap.size + 1) [z] rfl ?_ rfl hs31 ?_ ?_
                   · exact k_alloc O7.out _
                   · exact row_of_heap (bs := [z]) (heap_alloc_new' wr (.cells ([z].map bv).toArray 5)) (Nat.lt_succ_self _)
                   · exact Nat.le_trans LS.out (by simp)
                   rintro v6 w6 hown hgr
                   rw [List.append_assoc, ← HTS.out] at hown
                   have O8 := Lib.hid hown
                   have R8 : Hid (GrowA g4 w4 w6) := (G7.out.trans (GrowA.of_ext ((Below.refl _ _).alloc (Nat.le_refl _) _))).app hgr (ka_own_ge O7.out (by have := HQ.out; omega))
                   have H8 : Hid (w6.heap[g4]? = some (.cells (Y.map bv).toArray 23 (0, 0))) := (hgr.block g4 (Nat.lt_of_lt_of_le (Nat.lt_of_lt_of_le HQ4.out LS.out) (by simp)) (fun e => absurd (ka_own_ge O7.out (Nat.le_refl _) g4 e.symm) (by have := HQ4.out; omega))).trans ((((Below.refl wr.heap.size wr).alloc (Nat.le_refl _) (.cells ([z].map bv).toArray 5)).block g4 (Nat.lt_of_lt_of_le HQ4.out LS.out)).trans H7.out)
                   clear hown hgr)
                | fail)
              go_roundw
              case rel => exact ⟨k + 1, s + 1, _, by omega, rfl, by have := HSK.out; show _ = _; omega, by go_num, H8, O8, R8⟩
              case measure => simp [intOf]; omega
            · have q2 : ¬ ((k : Int) < 16) := by omega
              have hk16 : k = 16 := by omega
              rw [hk16, List.take_of_length_le (Nat.le_of_eq HYL.out), ← HHn.out] at O7
              have hs16 : s = i + 16 := by have := HSK.out; omega
              rw [hs16] at O7
              clear hk16 hs16
              go_wp2_with fail
              go_roundw
              case rel => exact ⟨j + 1, i + 16, _, by omega, rfl, by have := HIJ.out; show _ = _; omega, by go_num, by rw [HY.out]; exact H7, O7, G7⟩
              case measure => simp [intOf]; omega
    · have e1 : ¬ ((i : Int) < (N : Int)) := by omega
      have hjM : j = M := by have h1 := HIJ.out; have h2 := HNM.out; omega
      have hiN : i = N := by have h1 := HIJ.out; have h2 := HNM.out; omega
      rw [hjM, HXR.out, hiN] at HO
      have BW : Hid (Below w.heap.size w wr) := B4.out.trans (HGR.out.below (by have := HG4.out; omega) B4.out.size)
      have O9 : Hid (wr.ownsRow w.heap.size 5 1 v10 N (XR.map bv)) := ka_own_le HO.out (by have h1 := HQ.out; have h2 := B4.out.size; omega)
      clear hjM hiN
      go_wp2_with fail
      go_ret
      exact ⟨_, rfl, O9.out, BW.out⟩
end Go.Proofs.Ytjmpbcfbfbjenaa

/- palfreyref09.Unpadded, Padded. -/
namespace Go.Proofs.Ytjmpbcfbfbjenaa
open Go.RowKit
set_option linter.unusedVariables false
set_option linter.unusedSimpArgs false
set_option maxRecDepth 100000
theorem upO_bad (b : List UInt8) (n : Nat) (hl : b.length = n) (hn : 0 < n) (hr : n % 16 = 0) (h : (b.getD (n - 1) 0).toNat < 1 ∨ 16 < (b.getD (n - 1) 0).toNat) : upO b = none := by
  rw [upO, if_neg (by omega), hl]
  generalize (b.getD (n - 1) 0).toNat = z at h
  rw [if_neg]
  rintro ⟨h1, h2⟩
  have := congrArg List.length h2
  rw [List.length_drop, padB_len, hl] at this
  have := padK9_le (n - z)
  omega
theorem padB_at (n z : Nat) (hr : n % 16 = 0) (h1 : 1 ≤ z) (h2 : z ≤ 16) (h3 : z ≤ n) : padB (n - z) = List.replicate z (UInt8.ofNat z) := by
  have : padK9 (n - z) = z := by unfold padK9; omega
  rw [padB, this]
theorem upO_good (b : List UInt8) (n : Nat) (x : UInt8) (hl : b.length = n) (hn : 0 < n) (hr : n % 16 = 0) (hx : b.getD (n - 1) 0 = x) (h1 : 1 ≤ x.toNat) (h2 : x.toNat ≤ 16) (h : ∀ j, n - x.toNat ≤ j → j < n → b.getD j 0 = x) : upO b = some (n - x.toNat) := by
  rw [upO, if_neg (by omega), hl, hx, if_pos]
  refine ⟨by omega, ?_⟩
  rw [padB_at n _ hr h1 h2 (by omega)]
  have hof : UInt8.ofNat x.toNat = x := by apply UInt8.toNat_inj.1; rw [UInt8.toNat_ofNat', Nat.mod_eq_of_lt x.toNat_lt]
  rw [hof]
  apply List.ext_getElem
  · rw [List.length_drop, List.length_replicate, hl]; omega
  · intro j g1 g2
    rw [List.length_drop, hl] at g1
    rw [List.getElem_drop, List.getElem_replicate]
    have := h (n - x.toNat + j) (by omega) (by omega)
    rw [List.getD_eq_getElem?_getD, List.getElem?_eq_getElem (by omega)] at this
    exact this
theorem upO_not (b : List UInt8) (n j : Nat) (x : UInt8) (hl : b.length = n) (hn : 0 < n) (hr : n % 16 = 0) (hx : b.getD (n - 1) 0 = x) (h1 : 1 ≤ x.toNat) (h2 : x.toNat ≤ 16) (hj : n - x.toNat ≤ j) (hjn : j < n) (h : b.getD j 0 ≠ x) : upO b = none := by
  rw [upO, if_neg (by omega), hl, hx, if_neg]
  rintro ⟨g1, g2⟩
  rw [padB_at n _ hr h1 h2 (by omega)] at g2
  have hof : UInt8.ofNat x.toNat = x := by apply UInt8.toNat_inj.1; rw [UInt8.toNat_ofNat', Nat.mod_eq_of_lt x.toNat_lt]
  rw [hof] at g2
  have := congrArg (fun l : List UInt8 => l[j - (n - x.toNat)]?) g2
  simp only [List.getElem?_drop, List.getElem?_replicate] at this
  rw [show n - x.toNat + (j - (n - x.toNat)) = j by omega, if_pos (by omega)] at this
  apply h
  rw [List.getD_eq_getElem?_getD, this]; rfl
set_option maxHeartbeats 2000000 in
theorem refUnp_any (A : Option Addr) (n c : Nat) (b : List UInt8) (w : World) (hl : b.length = n) (hn : n ≤ 2147483647) (hS : Sl w A c b) :
    Calls Try.prog 45 #[.slice A n c] w fun e w' => e = .returned (.int .i64 (upR (upO b))) ∧ w = w' := by
  by_cases h0 : n = 0
  · have HU : Hid (upO b = none) := by show _ = _; rw [upO, if_pos (.inl (hl.trans h0))]
    rw [HU.out]
    have e1 : ((n : Int) == 0) = true := by simp [h0]
    clear hl hS h0
    go_enter Try.func45, Try.ntmps45
    go_wp2
    go_ret
    exact ⟨rfl, rfl⟩
  have e1 : ((n : Int) == 0) = false := by simp; omega
  obtain ⟨r, hr⟩ : ∃ r, r = n % 16 := ⟨_, rfl⟩
  have e2 : (n : Int) % 16 = (r : Int) := by omega
  by_cases hr0 : r = 0
  · have e3 : ((r : Int) != 0) = false := by simp [hr0]
    have hr16 : n % 16 = 0 := by omega
    have hn0 : 0 < n := by omega
    obtain ⟨z, hz⟩ : ∃ z, b.getD (n - 1) 0 = z := ⟨_, rfl⟩
    obtain ⟨b0, o0, hA, _, hcell⟩ := c_sl_cell hS (i := n - 1) (by omega)
    have c1 := hcell (n - 1) (by omega)
    rw [hz] at c1
    obtain ⟨n1, hn1⟩ : ∃ n1, n1 = n - 1 := ⟨_, rfl⟩
    rw [← hn1] at c1
    have e4 : (n : Int) - 1 = (n1 : Int) := by omega
    have e5 : (n1 : Int) < (n : Int) := by omega
    have HC := Lib.hid hcell
    have HL := Lib.hid hl
    have hz8 : z.toNat < 256 := z.toNat_lt
    subst hA
    by_cases hb1 : z.toNat < 1
    · have HU := Lib.hid (upO_bad b n hl hn0 hr16 (.inl (by rw [hz]; exact hb1)))
      rw [HU.out]
      have e6 : (z.toNat : Int) < 1 := by omega
      clear hcell hr hr0 hl hS hn1 hz h0
      go_enter Try.func45, Try.ntmps45
      go_wp2
      go_ret
      exact ⟨rfl, rfl⟩
    have e6 : ¬ ((z.toNat : Int) < 1) := by omega
    by_cases hb2 : 16 < z.toNat
    · have HU := Lib.hid (upO_bad b n hl hn0 hr16 (.inr (by rw [hz]; exact hb2)))
      rw [HU.out]
      have e7 : (16 : Int) < (z.toNat : Int) := by omega
      clear hcell hr hr0 hl hS hn1 hz h0
      go_enter Try.func45, Try.ntmps45
      go_wp2
      go_ret
      exact ⟨rfl, rfl⟩
    have e7 : ¬ ((16 : Int) < (z.toNat : Int)) := by omega
    have HG := Lib.hid (upO_good b n z hl hn0 hr16 hz (by omega) (by omega))
    have HB := Lib.hid (fun j => upO_not b n j z hl hn0 hr16 hz (by omega) (by omega))
    obtain ⟨m, hm⟩ : ∃ m, m = n - z.toNat := ⟨_, rfl⟩
    have e8 : (n : Int) - (z.toNat : Int) = (m : Int) := by omega
    rw [← hm] at HG HB
    have hmn : m ≤ n := by omega
    have HMN := Lib.hid hmn
    obtain ⟨u, HU⟩ : ∃ u, Hid (upO b = u) := ⟨_, rfl⟩
    rw [HU.out] at HG HB ⊢
    clear hcell hr hr0 hl hS hn1 hz h0 hm hb1 hb2 hmn hr16 hn0
    go_enter Try.func45, Try.ntmps45
    go_wp2_with fail
    go_loop [4] (fun vi => ∃ (i : Nat), m ≤ i ∧ i ≤ n ∧ vi = .int .i64 (i : Int) ∧ Hid (∀ j, m ≤ j → j < i → b.getD j 0 = z)) (fun i => n - (intOf i).toNat)
    case atStart => exact ⟨m, Nat.le_refl _, HMN.out, rfl, fun j h1 h2 => by omega⟩
    case round =>
      obtain ⟨i, hmi, hin, rfl, HJ⟩ := hrel
      by_cases hlt : i < n
      · have q1 : (i : Int) < (n : Int) := by omega
        have c2 := HC.out i (by rw [HL.out]; exact hlt)
        obtain ⟨x, hx⟩ : ∃ x, b.getD i 0 = x := ⟨_, rfl⟩
        rw [hx] at c2
        have hx8 : x.toNat < 256 := x.toNat_lt
        by_cases hxz : x = z
        · have q2 : ((x.toNat : Int) != (z.toNat : Int)) = false := by simp [hxz]
          have HJ2 : Hid (∀ j, m ≤ j → j < i + 1 → b.getD j 0 = z) := fun j h1 h2 => by
            by_cases hji : j < i
            · exact HJ.out j h1 hji
            · rw [show j = i by omega, hx, hxz]
          clear hx hxz
          go_wp2
          go_round
          case rel => exact ⟨i + 1, by omega, by omega, by go_num, HJ2⟩
          case measure => simp [intOf]; omega
        · have q2 : ((x.toNat : Int) != (z.toNat : Int)) = true := by
            simp only [bne_iff_ne, ne_eq]
            intro h
            exact hxz (UInt8.toNat_inj.1 (by omega))
          have HN : Hid (u = none) := HB.out i hmi hlt (by rw [hx]; exact hxz)
          clear hx hxz
          go_wp2
          go_ret
          exact ⟨by rw [HN.out]; rfl, rfl⟩
      · have q1 : ¬ ((i : Int) < (n : Int)) := by omega
        have HN : Hid (u = some m) := HG.out (fun j h1 h2 => HJ.out j h1 (by omega))
        go_wp2
        go_ret
        exact ⟨by rw [HN.out]; rfl, rfl⟩
  · have e3 : ((r : Int) != 0) = true := by simpa using hr0
    have HU : Hid (upO b = none) := by show _ = _; rw [upO, if_pos (.inr (by rw [hl]; omega))]
    rw [HU.out]
    clear hl hS hr
    go_enter Try.func45, Try.ntmps45
    go_wp2
    go_ret
    exact ⟨rfl, rfl⟩
end Go.Proofs.Ytjmpbcfbfbjenaa

/- palfreyref09.Open. -/
namespace Go.Proofs.Ytjmpbcfbfbjenaa
open Go.RowKit
set_option maxRecDepth 100000
set_option linter.unusedVariables false
set_option linter.unusedSimpArgs false
theorem unch_step (D : List UInt8 → List UInt8) (iv b : List UInt8) (j : Nat) : unchL D iv b (j + 1) = unchL D iv b j ++ xorL (D (blkAt b j).1) (aheadN iv b j) := rfl
theorem upO_le (b : List UInt8) (k : Nat) (h : upO b = some k) : k ≤ b.length := by
  unfold upO at h
  split at h
  · cases h
  · split at h
    · injection h with h
      omega
    · cases h
theorem ob_next {v v' : Value} {g g' n : Nat} (h : v'.ownBlock = v.ownBlock ∨ v'.ownBlock = some n) (hv : v.ownBlock ≠ some g ∧ v.ownBlock ≠ some g') (h1 : g < n) (h2 : g' < n) : v'.ownBlock ≠ some g ∧ v'.ownBlock ≠ some g' := by
  rcases h with h | h
  · rw [h]; exact hv
  · rw [h]
    exact ⟨fun e => by injection e with e; omega, fun e => by injection e with e; omega⟩
/-- what the document's Open comes to -/
def RefO (D : List UInt8 → List UInt8) (iv b : List UInt8) (v : Value) (ok : Bool) (w' : World) : Prop :=
  match openO D iv b with
  | none => v = .slice none 0 0 ∧ ok = false
  | some k => ok = true ∧ ∃ A c, v = .slice A k c ∧ Sl w' A c ((unchL D iv b (b.length / 16)).take k)
set_option maxHeartbeats 2000000 in
theorem refOpen_odd (A : Option Addr) (n c : Nat) (D : List UInt8 → List UInt8) (iv : List UInt8) (Ab : Option Addr) (m cb : Nat) (b : List UInt8) (w : World) (hm : b.length = m) (hm31 : m ≤ 100000) (h16 : m % 16 ≠ 0) :
    Calls Try.prog 19 #[.slice A n c, .agg (iv.map bv).toArray, .slice Ab m cb] w fun e w' => ∃ v ok, e = .returned (.tuple #[v, .bool ok]) ∧ RefO D iv b v ok w' ∧ Below w.heap.size w w' := by
  have e1 : (m : Int).tmod 16 = ((m % 16 : Nat) : Int) := by rw [Int.tmod_eq_emod_of_nonneg (by omega)]; omega
  have e2 : (m : Int) % 16 = ((m % 16 : Nat) : Int) := by omega
  have e3 : (((m % 16 : Nat) : Int) != 0) = true := by simp; omega
  have HO : Hid (RefO D iv b (.slice none 0 0) false = RefO D iv b (.slice none 0 0) false ∧ openO D iv b = none) := ⟨rfl, by rw [openO, if_pos (by rw [hm]; exact h16)]⟩
  have HR : Hid (∀ w', RefO D iv b (.slice none 0 0) false w') := fun w' => by
    unfold RefO
    rw [HO.out.2]
    exact ⟨rfl, rfl⟩
  generalize m % 16 = r at e1 e2 e3
  clear hm h16 HO
  go_enter Try.func19, Try.ntmps19
  go_wp2
  go_ret2
  exact ⟨_, _, rfl, HR.out _, (Below.refl _ _).alloc (Nat.le_refl _) _⟩
set_option maxHeartbeats 8000000 in
theorem refOpen_any (key : List UInt8) (nk : Nat) (A : Option Addr) (n c : Nat) (iv : List UInt8) (Ab : Option Addr) (m cb : Nat) (b : List UInt8) (w : World) (hl : key.length = n) (hn : n = 4 * nk) (hk : nk = 4 ∨ nk = 8) (hiv : iv.length = 16) (hm : b.length = m) (hm31 : m ≤ 100000) (h16 : m % 16 = 0) (hS : Sl w A c key) (hSb : Sl w Ab cb b) :
    Calls Try.prog 19 #[.slice A n c, .agg (iv.map bv).toArray, .slice Ab m cb] w fun e w' => ∃ v ok, e = .returned (.tuple #[v, .bool ok]) ∧ RefO (decL (expandL key) (nk + 6)) iv b v ok w' ∧ Below w.heap.size w w' := by
  have HIV := Lib.hid hiv; have HM := Lib.hid hm; have HS := Lib.hid hS; have HSb := Lib.hid hSb
  have HRK := Lib.hid (fun A c W hS => refKeys_low A n c nk key W hl hn hk hS)
  have HRD := Lib.hid (fun x A cc W hx hA => refDecK_any key nk x A cc W hk (hl.trans hn) hx hA)
  have HRT := Lib.hid (fun W => refTable_any W)
  have hwl : (expandL key).length = 60 := expandL_len key (by omega)
  have HDL : Hid (∀ x, x.length = 16 → (decL (expandL key) (nk + 6) x).length = 16) := fun x hx => by rw [decL, decT, outL_len, addW_len _ _ _ (decN_len _ _ _ _ _) (by omega)]
  have hz := zero256B
  have HZL := Lib.hid zeros256_len
  have hz16 : ∀ W, (zeroValue 23).run Try.prog W = .ok (.agg zeros16.toArray) W := fun W => by kernel_rfl
  have HFG0 := Lib.hid filG_zero
  have HFGL := Lib.hid filG_len
  have HFGE := Lib.hid filG_end
  have HFGS := Lib.hid filG_step
  have HZ16 := Lib.hid zeros16_len
  have HTL : Hid ((sboxL.map bv).length = 256) := by show _ = _; rw [List.length_map, sboxL_len]
  have HI : Hid ((Try.prog.info? 48).map (·.size) = some (sboxL.map bv).length) := by show _ = _; rw [HTL.out]; exact i256B
  have hone : Hid (∀ v ∈ sboxL.map bv, v.oneCell' = true) := bv_one _
  generalize decL (expandL key) (nk + 6) = D at HRD HDL ⊢
  generalize rkB (expandL key) = RK at HRK HRD
  generalize zeros256 = Z at hz HZL
  generalize zeros16 = Z16 at hz16 HFG0 HZ16
  generalize filG = FG at HFG0 HFGL HFGE HFGS
  generalize sboxL.map bv = TB at HRK HRD HRT HTL HI hone
  obtain ⟨r7, hr7⟩ : ∃ r7, r7 = nk + 7 := ⟨_, rfl⟩
  rw [← hr7] at HRK HRD
  obtain ⟨M, hM⟩ : ∃ M, M = m / 16 := ⟨_, rfl⟩
  have HNM : Hid (m = 16 * M) := by show _ = _; omega
  have HOO : Hid (∀ v ok w', (match upO (unchL D iv b M) with | none => v = .slice none 0 0 ∧ ok = false | some k => ok = true ∧ ∃ A c, v = .slice A k c ∧ Sl w' A c ((unchL D iv b M).take k)) → RefO D iv b v ok w') := fun v ok w' h => by
    unfold RefO openO
    rw [if_neg (by rw [hm]; simp [h16]), hm, ← hM]
    exact h
  generalize RefO D iv b = RO at HOO ⊢
  have HH0 : Hid (unchL D iv b 0 = []) := rfl
  have HHS := Lib.hid (unch_step D iv b)
  have HA0 : Hid (aheadN iv b 0 = iv) := rfl
  have HAS : Hid (∀ j, aheadN iv b (j + 1) = (blkAt b j).1) := fun j => rfl
  have HAL : Hid (∀ j, (aheadN iv b j).length = 16) := fun j => by cases j with
    | zero => exact hiv
    | succ j => exact (blkAt b j).2
  have HBG := Lib.hid (blk_get b)
  have HBL : Hid (∀ j, (blkAt b j).1.length = 16) := fun j => (blkAt b j).2
  have HUL : Hid ((unchL D iv b M).length = m) := by
    show _ = _
    unfold unchL
    rw [flat16_len _ (fun i => by rw [xorL_len, HDL.out _ (blkAt b i).2, HAL.out]; rfl), HNM.out]
  generalize unchL D iv b = CH at HH0 HHS HOO HUL
  generalize aheadN iv b = AH at HHS HA0 HAS HAL
  obtain ⟨BK, HBK⟩ : ∃ BK : Nat → List UInt8, Hid (∀ j, (blkAt b j).1 = BK j) := ⟨fun j => _, fun _ => rfl⟩
  have HBG2 : Hid (∀ j k, k < 16 → (BK j).getD k 0 = b.getD (16 * j + k) 0) := fun j k hk => by rw [← HBK.out]; exact HBG.out j k hk
  have HBL2 : Hid (∀ j, (BK j).length = 16) := fun j => by rw [← HBK.out]; exact HBL.out j
  have HAS2 : Hid (∀ j, AH (j + 1) = BK j) := fun j => by rw [← HBK.out]; exact HAS.out j
  have HHS2 : Hid (∀ j, CH (j + 1) = CH j ++ xorL (D (BK j)) (AH j)) := fun j => by rw [← HBK.out]; exact HHS.out j
  clear HBG HBL HAS HBK HHS
  have e1' : (m : Int).tmod 16 = 0 := by rw [Int.tmod_eq_emod_of_nonneg (by omega)]; omega
  have e2' : (m : Int) % 16 = 0 := by omega
  clear hl hn hk hiv hm hS hSb hr7 hwl hM h16
  go_enter Try.func19, Try.ntmps19
  go_upto_region 1 with (fail)
  generalize hV : w.alloc _ = W0
  have F0 : Hid (W0.heap[w.heap.size]? = some (.cells (iv.map bv).toArray 23 (0, 0))) := heap_of_alloc hV
  have FB := Lib.hid (below_of_alloc hV (Nat.le_refl w.heap.size))
  clear hV
  go_wp2_with fail
  refine (HRT.out W0).mono ?_
  rintro e w1 ⟨rfl, hb1⟩
  have F1 := Lib.hid ((hb1.block _ (lt_of_heap F0.out)).trans F0.out)
  have B1 := Lib.hid (FB.out.step hb1)
  clear hb1 F0 FB
  go_upto_region 4 with (first
    | (refine wpList_st rfl 48 (.tmp 8) (.tmp 21) rfl (store_arr (cs := TB) (old := Z) HI.out hone.out (heap_alloc_new' w1 _) (by rw [HZL.out, HTL.out])) ?_
       generalize hV : World.setRow _ _ _ = W2
       have M2 := Lib.hid (heap_of_setRow hV (heap_alloc_new' w1 _))
       have MB := Lib.hid (((Below.refl w1.heap.size w1).alloc (Nat.le_refl _) _).trans (below_of_setRow hV (Nat.le_refl w1.heap.size) (by simp)))
       clear hV)
    | fail)
  have F2 := Lib.hid ((MB.out.block _ (lt_of_heap F1.out)).trans F1.out)
  have B2 := Lib.hid (B1.out.step MB.out)
  have S2 := Lib.hid (HS.out.below B2.out)
  obtain ⟨g7, hg7⟩ : ∃ g, w1.heap.size = g := ⟨_, rfl⟩
  have N7 : Hid (g7 ≠ w.heap.size) := by have := lt_of_heap F1.out; show _ ≠ _; omega
  rw [hg7] at M2 ⊢
  clear F1 B1 MB hg7
  go_wp2_with (first
    | (refine wpList_ld rfl 48 (.tmp 8) rfl (load_arr arr256B rfl HI.out M2.out) ?_)
    | fail)
  refine (HRK.out A c W2 S2.out).mono ?_
  rintro e w3 ⟨gk, c8, rfl, hgk0, hgk, hkr, hb3⟩
  have NK : Hid (gk ≠ w.heap.size) := by have := lt_of_heap F2.out; show _ ≠ _; omega
  have F3 := Lib.hid ((hb3.block _ (lt_of_heap F2.out)).trans F2.out)
  have M3 := Lib.hid ((hb3.block _ (lt_of_heap M2.out)).trans M2.out)
  have B3 := Lib.hid (B2.out.step hb3)
  have S3 := Lib.hid (HSb.out.below B3.out)
  have HGK := Lib.hid hgk; have HKR := Lib.hid hkr
  clear hb3 F2 M2 B2 S2 hgk hkr hgk0
  have KR4 := HKR
  have KL4 := HGK
  have LV4 : Hid (w.heap.size < w3.heap.size) := lt_of_heap F3.out
  clear HKR HGK
  clear e1' e2'
  obtain ⟨g4, hg4⟩ : ∃ g, w.heap.size = g := ⟨_, rfl⟩
  have HG4 := Lib.hid hg4
  rw [hg4] at F3 N7 NK LV4 ⊢
  clear hg4
  obtain ⟨q, hq⟩ : ∃ q, q = w3.heap.size := ⟨_, rfl⟩
  have HQ := Lib.hid hq
  have HQ4 : Hid (g4 < q) := by rw [hq]; exact LV4.out
  have L7 : Hid (g7 < q) := by rw [hq]; exact lt_of_heap M3.out
  clear hq
  go_wp2_with fail
  go_loopw [10, 11] (fun s10 vi wr => ∃ (j i : Nat) (v10 : Value), j ≤ M ∧ v10 = s10 ∧ Hid (i = 16 * j) ∧ vi = .int .i64 (i : Int) ∧ Hid (wr.heap[g4]? = some (.cells ((AH j).map bv).toArray 23 (0, 0))) ∧ Hid (wr.ownsRow q 5 1 v10 i ((CH j).map bv)) ∧ Hid (GrowA g4 w3 wr)) (fun _ i _ => m - (intOf i).toNat)
  case atStart => exact ⟨0, 0, _, by omega, rfl, rfl, rfl, by show _ = _; rw [HA0.out]; exact F3.out, by show World.ownsRow _ _ _ _ _ _ _; rw [HH0.out]; exact World.ownsRow_nil _ _ _ _, Pre.refl _⟩
  case round =>
    obtain ⟨j, i, v10, hj, rfl, HIJ, rfl, HG, HO, HGR⟩ := hrel
    by_cases hlt : i < m
    · have e1 : (i : Int) < (m : Int) := by omega
      have hjM : j < M := by have h1 := HIJ.out; have h2 := HNM.out; omega
      have hiN : i + 16 ≤ m := by have h1 := HIJ.out; have h2 := HNM.out; omega
      have HAj := Lib.hid (HAL.out j); have HBj := Lib.hid (HBL2.out j)
      have HHn := HHS2.out j
      have HAn := HAS2.out j
      have HBv : Hid (∀ k, k < 16 → (BK j).getD k 0 = b.getD (i + k) 0) := fun k hk => by rw [HIJ.out]; exact HBG2.out j k hk
      have HYL := HDL.out (BK j) HBj.out
      have RD := Lib.hid (fun A cc W hA => HRD.out (BK j) A cc W HBj.out hA)
      generalize D (BK j) = Y at HYL RD HHn
      generalize AH j = C at HG HAj HHn
      generalize BK j = B at HBj HBv HAn RD
      replace HAn := Lib.hid HAn; replace HHn := Lib.hid HHn; replace HYL := Lib.hid HYL
      have BW : Hid (Below w.heap.size w wr) := B3.out.trans (HGR.out.below (by have := HG4.out; omega) B3.out.size)
      have OBS : Hid (∀ x, v10.ownBlock = some x → x < wr.heap.size) := fun x hx => own_blk_lt HO.out hx
      have SB := Lib.hid (HSb.out.below BW.out)
      go_wp2_with fail
      generalize hV : wr.alloc _ = W3
      have G0 : Hid (W3.heap[wr.heap.size]? = some (.cells ((FG B 0).map bv).toArray 23 (0, 0))) := by show _ = _; rw [HFG0.out]; exact heap_of_alloc hV
      have GB := Lib.hid (below_of_alloc hV (Nat.le_refl wr.heap.size))
      clear hV
      obtain ⟨wp, hwp⟩ : ∃ x, x = wr := ⟨_, rfl⟩
      subst hwp
      obtain ⟨gS, hgS⟩ : ∃ g, g = wp.heap.size := ⟨_, rfl⟩
      have HLS : Hid (g4 < gS) := by have h1 := lt_of_heap HG.out; show _ < _; rw [hgS]; exact h1
      have HQS : Hid (q ≤ gS) := by have h1 := HGR.out.size; have h2 := HQ.out; show _ ≤ _; omega
      rw [← hgS] at G0 GB OBS ⊢
      have HGS := Lib.hid hgS
      have SB3 : Hid (Sl W3 Ab cb b) := SB.out.below (by rw [← hgS]; exact GB.out)
      clear hgS
      go_wp2_with fail
      go_loopw [13] (fun vk wr => ∃ (k : Nat), k ≤ 16 ∧ vk = .int .i64 (k : Int) ∧ Hid (wr.heap[gS]? = some (.cells ((FG B k).map bv).toArray 23 (0, 0))) ∧ Hid (Below gS W3 wr)) (fun k _ => 16 - (intOf k).toNat)
      case atStart => exact ⟨0, by omega, rfl, G0, Below.refl _ _⟩
      case round =>
        clear G0
        obtain ⟨k, hk, rfl, H5, HBW⟩ := hrel
        by_cases hltk : k < 16
        · have q2 : (k : Int) < 16 := by omega
          obtain ⟨e, he⟩ : ∃ e, e = i + k := ⟨_, rfl⟩
          have o1 : IntKind.i64.wrap ((i : Int) + (k : Int)) = (e : Int) := by rw [IntKind.wrap_i64]; omega
          have o2 : (i : Int) + (k : Int) = (e : Int) := by omega
          have o3 : (e : Int) < (m : Int) := by omega
          obtain ⟨pb, ob, hA, hpb, cx⟩ := ta_sl_cell SB.out (i := e) (by rw [HM.out]; omega)
          obtain ⟨pb2, ob2, hA2, _, cx2⟩ := ta_sl_cell SB3.out (i := e) (by rw [HM.out]; omega)
          rw [hA] at hA2
          injection hA2 with hA2
          injection hA2 with ee1 ee2
          subst ee1; subst ee2
          have cb' := (HBW.out.cell (p := ⟨pb, ob + e, none⟩) (by have := HGS.out; show pb < gS; omega)).trans cx2
          have hbv := HBv.out k hltk
          rw [← he] at hbv
          rw [← hbv] at cb'
          have HST := HFGS.out B k HBj.out hltk
          have hln := HFGL.out B k HBj.out (by omega)
          generalize B.getD k 0 = x at cb' HST
          have c5 := bcellT H5.out k (by rw [hln]; exact hltk)
          generalize (FG B k).getD k 0 = old at c5
          have fz := frozen_of_heap H5.out k
          have HST := Lib.hid HST
          have heN : e < m := by omega
          clear he hbv hln cx cx2 hpb
          subst hA
          go_wp2_with fail
          go_roundw
          case rel =>
            refine ⟨k + 1, by omega, by go_num, ?_, HBW.out.setCell (Nat.le_refl _) _⟩
            have hfin := heap_set H5.out k (bv x)
            rw [← List.map_set, HST.out] at hfin
            exact hfin
          case measure => simp [intOf]; omega
        · have q2 : ¬ ((k : Int) < 16) := by omega
          have hk16 : k = 16 := by omega
          rw [hk16, HFGE.out B HBj.out] at H5
          clear hk16
          have BB8 : Hid (Below gS wp wr) := GB.out.trans HBW.out
          have X8 : Hid (Ext wp wr) := by show Below _ _ _; rw [← HGS.out]; exact BB8.out
          have G8 : Hid (GrowA g4 w3 wr) := HGR.out.trans (GrowA.of_ext X8.out)
          have H8 : Hid (wr.heap[g4]? = some (.cells (C.map bv).toArray 23 (0, 0))) := (BB8.out.block _ HLS.out).trans HG.out
          have O8 := Lib.hid (ka_own_below HO.out X8.out)
          have M8 := Lib.hid (G8.out.heap N7.out M3.out)
          have hiB := Lib.hid (r_i16 B HBj.out)
          have hiY := Lib.hid (r_i16 Y HYL.out)
          have hiC := Lib.hid (r_i16 C HAj.out)
          clear HG HO HGR HBW GB SB3 SB BB8 X8
          go_wp2_with (first
            | (refine wpList_ld rfl 48 (.tmp 8) rfl (load_arr arr256B rfl HI.out M8.out) ?_)
            | (refine wpList_ld rfl 23 (.tmp 12) rfl (load_arr arr16B rfl hiB.out H5.out) ?_)
            | fail)
          refine (RD.out _ c8 wr (KeysAt.grow (g := g4) KR4.out KL4.out NK.out G8.out)).mono ?_
          rintro e w6 ⟨rfl, hb6⟩
          have H6 := Lib.hid ((hb6.block _ (lt_of_heap H8.out)).trans H8.out)
          have S6 := Lib.hid ((hb6.block _ (lt_of_heap H5.out)).trans H5.out)
          have G6 : Hid (GrowA g4 w3 w6) := G8.out.trans (GrowA.of_ext hb6)
          have O6 := Lib.hid (ka_own_below O8.out hb6)
          clear hb6 H5 G8 O8 M8 RD H8
          go_upto_region 15 with (first
            | (refine wpList_st rfl 23 (.tmp 14) (.tmp 46) rfl (store_arr (cs := Y.map bv) (old := Z16) hiY.out (bv_one _) (heap_alloc_new' w6 _) (by rw [List.length_map, HYL.out, HZ16.out])) ?_
               generalize hV : World.setRow _ _ _ = W7
               have Y7 := Lib.hid (heap_of_setRow hV (heap_alloc_new' w6 _))
               have X7 : Hid (Ext w6 W7) := ((Below.refl w6.heap.size w6).alloc (Nat.le_refl _) _).trans (below_of_setRow hV (Nat.le_refl w6.heap.size) (by simp))
               clear hV)
            | fail)
          have H7 := Lib.hid ((X7.out.block _ (lt_of_heap H6.out)).trans H6.out)
          have S7 := Lib.hid ((X7.out.block _ (lt_of_heap S6.out)).trans S6.out)
          have G7 : Hid (GrowA g4 w3 W7) := G6.out.trans (GrowA.of_ext X7.out)
          have O7 := Lib.hid (ka_own_below O6.out X7.out)
          have LY : Hid (gS < w6.heap.size) := lt_of_heap S6.out
          clear G6 O6 X7 H6 S6
          obtain ⟨gY, hgY⟩ : ∃ g, w6.heap.size = g := ⟨_, rfl⟩
          rw [hgY] at Y7 LY ⊢
          clear hgY
          go_wp2_with fail
          have HXY : Hid ((xorL Y C).length = 16) := by show _ = _; rw [xorL_len, HYL.out, HAj.out]; rfl
          have HXG : Hid (∀ k, k < 16 → (xorL Y C).getD k 0 = Y.getD k 0 ^^^ C.getD k 0) := fun k hk => by
            have h1 := HYL.out; have h2 := HAj.out
            simp [xorL, List.getD, h1, h2, hk]
          generalize xorL Y C = XY at HXY HXG HHn
          have OB7 : Hid (v10.ownBlock ≠ some gS ∧ v10.ownBlock ≠ some gY) := by
            have h := OBS.out
            have h2 := LY.out
            exact ⟨fun e => absurd (h _ e) (by omega), fun e => absurd (h _ e) (by omega)⟩
          go_loopw [10, 15] (fun s10 vk wr => ∃ (k s : Nat) (v10 : Value), k ≤ 16 ∧ v10 = s10 ∧ Hid (s = i + k) ∧ vk = .int .i64 (k : Int) ∧ Hid (wr.heap[g4]? = some (.cells (C.map bv).toArray 23 (0, 0))) ∧ Hid (wr.heap[gS]? = some (.cells (B.map bv).toArray 23 (0, 0))) ∧ Hid (wr.heap[gY]? = some (.cells (Y.map bv).toArray 23 (0, 0))) ∧
            Hid (wr.ownsRow q 5 1 v10 s ((CH j ++ XY.take k).map bv)) ∧ Hid (v10.ownBlock ≠ some gS ∧ v10.ownBlock ≠ some gY) ∧ Hid (GrowA g4 w3 wr)) (fun _ k _ => 16 - (intOf k).toNat)
          case atStart => exact ⟨0, i, _, by omega, rfl, rfl, rfl, H7, S7, Y7, by show World.ownsRow _ _ _ _ _ _ _; rw [List.take_zero, List.append_nil]; exact O7.out, OB7, G7⟩
          case round =>
            clear H7 O7 G7 S7 Y7 OB7
            obtain ⟨k, s, v10, hk, rfl, HSK, rfl, H7, S7, Y7, O7, OB7, G7⟩ := hrel
            by_cases hltk : k < 16
            · have q2 : (k : Int) < 16 := by omega
              have cy := bcellT Y7.out k (by rw [HYL.out]; exact hltk)
              have cc := bcellT H7.out k (by rw [HAj.out]; exact hltk)
              have HTS := take_snocK XY k (by rw [HXY.out]; exact hltk)
              rw [HXG.out k hltk] at HTS
              generalize Y.getD k 0 = x at cy HTS
              generalize C.getD k 0 = y at cc HTS
              obtain ⟨z, hz'⟩ : ∃ z : UInt8, z = x ^^^ y := ⟨_, rfl⟩
              have hzz : bits .xor .u8 (x.toNat : Int) (y.toNat : Int) = (z.toNat : Int) := by rw [hz']; exact xor8 x y
              rw [← hz'] at HTS
              have HTS := Lib.hid HTS
              have hs31 : s + 1 ≤ 2147483647 := by have := HSK.out; omega
              have LS : Hid (q ≤ wr.heap.size) := by have h1 := G7.out.size; have h2 := HQ.out; show _ ≤ _; omega
              have L4 := Lib.hid (lt_of_heap H7.out); have LS7 := Lib.hid (lt_of_heap S7.out); have LY7 := Lib.hid (lt_of_heap Y7.out)
              clear hz'
              go_upto_region 18 with (fail)
              have HS : Hid (wr.drew = wr.drew) := rfl
              have CX : Hid (wr.drew.cell? ⟨gY, k, none⟩ = _) := cy
              have CY : Hid (wr.drew.cell? ⟨g4, k, none⟩ = _) := cc
              clear cy cc
              refine regK_start (7) (fun W => W = wr.drew) (by kernel_rfl) ?_
              try simp only [Act.put, List.setIfInBounds_toArray, List.set_cons_zero, List.set_cons_succ]
              refine regK_take (v := ?_) 0 (some 51) rfl rfl (by kernel_rfl) (by kernel_rfl) (by kernel_rfl) (fun _ _ _ h => h) (by rfl) (by kernel_rfl) HS.out (fun W => ?_) ?_
              rotate_left
              · (go_simp; try rfl)
              simp only [Act.put, List.setIfInBounds_toArray, List.set_cons_zero, List.set_cons_succ]
              refine regK_take (v := ?_) 1 (some 52) rfl rfl (by kernel_rfl) (by kernel_rfl) (by kernel_rfl) (fun _ _ _ h => h) (by rfl) (by kernel_rfl) HS.out (fun W => ?_) ?_
              rotate_left
              · (go_simp; try rfl)
              simp only [Act.put, List.setIfInBounds_toArray, List.set_cons_zero, List.set_cons_succ]
              refine regK_take (v := ?_) 2 (some 53) rfl rfl (by kernel_rfl) (by kernel_rfl) (by kernel_rfl) (fun _ _ _ h => h) (by rfl) (by kernel_rfl) HS.out (fun W => ?_) ?_
              rotate_left
              · (go_simp; try rfl)
              simp only [Act.put, List.setIfInBounds_toArray, List.set_cons_zero, List.set_cons_succ]
              refine regK_load 3 (some 54) (fun W hW => load_cell Try.underlying5 (cell_eqA hW CX.out)) rfl rfl rfl rfl (by kernel_rfl) (by kernel_rfl) (by kernel_rfl) (fun _ _ _ h => h) (by rfl) (by kernel_rfl) HS.out ?_
              simp only [Act.put, List.setIfInBounds_toArray, List.set_cons_zero, List.set_cons_succ]
              refine regK_take (v := ?_) 4 (some 55) rfl rfl (by kernel_rfl) (by kernel_rfl) (by kernel_rfl) (fun _ _ _ h => h) (by rfl) (by kernel_rfl) HS.out (fun W => ?_) ?_
              rotate_left
              · (go_simp; try rfl)
              simp only [Act.put, List.setIfInBounds_toArray, List.set_cons_zero, List.set_cons_succ]
              refine regK_take (v := ?_) 5 (some 56) rfl rfl (by kernel_rfl) (by kernel_rfl) (by kernel_rfl) (fun _ _ _ h => h) (by rfl) (by kernel_rfl) HS.out (fun W => ?_) ?_
              rotate_left
              · (go_simp; try rfl)
              simp only [Act.put, List.setIfInBounds_toArray, List.set_cons_zero, List.set_cons_succ]
              refine regK_load 6 (some 57) (fun W hW => load_cell Try.underlying5 (cell_eqA hW CY.out)) rfl rfl rfl rfl (by kernel_rfl) (by kernel_rfl) (by kernel_rfl) (fun _ _ _ h => h) (by rfl) (by kernel_rfl) HS.out ?_
              simp only [Act.put, List.setIfInBounds_toArray, List.set_cons_zero, List.set_cons_succ]
              refine regK_bar 7 rfl (by kernel_rfl) (by kernel_rfl) (fun K hK => ?_)
              go_simp
              refine hK.out _ _ trivial ?_
              clear hK K
              try simp only [Act.put, List.setIfInBounds_toArray, List.set_cons_zero, List.set_cons_succ]
              refine regS_eff 8 rfl (by kernel_rfl) (fun K hK => ?_)
              go_simp
              refine hK.out _ _ trivial ?_
              clear hK K
              try simp only [Act.put, List.setIfInBounds_toArray, List.set_cons_zero, List.set_cons_succ]
              refine regS_eff 9 rfl (by kernel_rfl) (fun K hK => ?_)
              obtain ⟨v6, w6, hrun, hown, hgr, hat⟩ := append_row_at (P := Try.prog) (wr.drew.alloc (.cells ([z].map bv).toArray 5)) q 26 uT made8 rfl v10 s ((CH j ++ XY.take k).map bv) (k_alloc O7.out.drew _) (wr.heap.size + 1) (some ⟨wr.heap.size, 0, none⟩) 1 1 ([z].map bv) (row_of_heap (bs := [z]) (heap_alloc_new' wr.drew (.cells ([z].map bv).toArray 5)) (Nat.lt_succ_self _)) rfl (bv_one _) (by omega) (by simp [maxLen]; omega) (Nat.le_trans LS.out (by simp))
              rw [← List.map_append, List.append_assoc, ← HTS.out] at hown
              have O8 := Lib.hid hown
              have BA : Hid (Below wr.heap.size wr (wr.drew.alloc (.cells ([z].map bv).toArray 5))) := ((Below.refl _ _).drew).alloc (Nat.le_refl _) _
              have R8 : Hid (GrowA g4 w3 w6) := ((G7.out.trans (GrowA.drew _ _)).trans (GrowA.of_ext ((Below.refl _ _).alloc (Nat.le_refl _) _))).app hgr (ka_own_ge O7.out (by have := HQ.out; omega))
              have H8 : Hid (w6.heap[g4]? = some (.cells (C.map bv).toArray 23 (0, 0))) := (hgr.block g4 (Nat.lt_of_lt_of_le L4.out (by simp)) (fun e => absurd (ka_own_ge O7.out (Nat.le_refl _) g4 e.symm) (by have := HQ4.out; omega))).trans ((BA.out.block g4 L4.out).trans H7.out)
              have S8 : Hid (w6.heap[gS]? = some (.cells (B.map bv).toArray 23 (0, 0))) := (hgr.block gS (Nat.lt_of_lt_of_le LS7.out (by simp)) (fun e => OB7.out.1 e.symm)).trans ((BA.out.block gS LS7.out).trans S7.out)
              have Y8 : Hid (w6.heap[gY]? = some (.cells (Y.map bv).toArray 23 (0, 0))) := (hgr.block gY (Nat.lt_of_lt_of_le LY7.out (by simp)) (fun e => OB7.out.2 e.symm)).trans ((BA.out.block gY LY7.out).trans Y7.out)
              have OB8 : Hid (v6.ownBlock ≠ some gS ∧ v6.ownBlock ≠ some gY) := ob_next hat OB7.out (by simp; have := LS7.out; omega) (by simp; have := LY7.out; omega)
              refine step_app rfl (.tmp 51) (.tmp 59) 26 26 rfl hrun ?_
              clear hrun hown hgr hat BA
              refine hK.out _ _ trivial ?_
              clear hK K
              try simp only [Act.put, List.setIfInBounds_toArray, List.set_cons_zero, List.set_cons_succ]
              refine regS_take (v := ?_) 10 (some 10) rfl rfl (by kernel_rfl) (by kernel_rfl) (by kernel_rfl) (fun _ _ _ h => h) (by rfl) (fun W hW => ?_) ?_
              rotate_left
              · (go_simp; try rfl)
              simp only [Act.put, List.setIfInBounds_toArray, List.set_cons_zero, List.set_cons_succ]
              refine regS_done (by kernel_rfl) ?_
              go_wp2
              go_roundw
              case rel => exact ⟨k + 1, s + 1, _, by omega, rfl, by have := HSK.out; show _ = _; omega, by go_num, H8, S8, Y8, O8, OB8, R8⟩
              case measure => simp [intOf]; omega
            · have q2 : ¬ ((k : Int) < 16) := by omega
              have hk16 : k = 16 := by omega
              rw [hk16, List.take_of_length_le (Nat.le_of_eq HXY.out), ← HHn.out] at O7
              have hs16 : s = i + 16 := by have := HSK.out; omega
              rw [hs16] at O7
              clear hk16 hs16
              go_wp2_with (first
                | (refine wpList_ld rfl 23 (.tmp 12) rfl (load_arr arr16B rfl hiB.out S7.out) ?_)
                | (refine wpList_st rfl 23 (.tmp 4) (.tmp 61) rfl (store_arr (cs := B.map bv) (old := C.map bv) hiB.out (bv_one _) H7.out (by rw [List.length_map, List.length_map, HBj.out, HAj.out])) ?_
                   generalize hV : World.setRow _ _ _ = W9
                   have H9 := Lib.hid (heap_of_setRow hV H7.out)
                   have X9 : Hid (GrowA g4 wr W9) := by rw [← hV]; exact GrowA.setRow _ _ _
                   clear hV)
                | fail)
              have O9 := Lib.hid (own_growA O7.out X9.out HQ4.out)
              have G9 : Hid (GrowA g4 w3 W9) := G7.out.trans X9.out
              go_roundw
              case rel => exact ⟨j + 1, i + 16, _, by omega, rfl, by have := HIJ.out; show _ = _; omega, by go_num, by rw [HAn.out]; exact H9, O9, G9⟩
              case measure => simp [intOf]; omega
    · have e1 : ¬ ((i : Int) < (m : Int)) := by omega
      have hjM : j = M := by have h1 := HIJ.out; have h2 := HNM.out; omega
      have hiN : i = m := by have h1 := HIJ.out; have h2 := HNM.out; omega
      rw [hjM, hiN] at HO
      have BW : Hid (Below w.heap.size w wr) := B3.out.trans (HGR.out.below (by have := HG4.out; omega) B3.out.size)
      obtain ⟨A9, c9, rfl, hl9, h91, h92, hr9⟩ := own_read HO.out
      have S9 : Hid (Sl wr A9 c9 (CH M)) := ⟨by omega, h92, hr9⟩
      have UN := Lib.hid (refUnp_any A9 m c9 (CH M) wr HUL.out (by omega) S9.out)
      have HUP := Lib.hid (fun k h => upO_le (CH M) k h)
      rw [HUL.out] at HUP
      have hmc : m ≤ c9 := by omega
      clear hjM hiN hl9 h91 h92 hr9 HO
      generalize CH M = U at S9 UN HUP HOO
      go_wp2_with fail
      refine UN.out.mono ?_
      rintro e w5 ⟨rfl, rfl⟩
      clear UN
      cases hu : upO U with
      | none =>
        rw [hu] at HOO
        have e9 : upR none = -1 := rfl
        rw [e9]
        clear hu HUP e9
        go_wp2_with fail
        go_ret2
        exact ⟨_, _, rfl, HOO.out _ _ _ ⟨rfl, rfl⟩, BW.out⟩
      | some k =>
        have hkm := HUP.out k hu
        rw [hu] at HOO
        have e9 : upR (some k) = (k : Int) := rfl
        rw [e9]
        have e10 : ¬ ((k : Int) < 0) := by omega
        have sl := cut_to uT s8 A9 m c9 .i64 (k : Int) (by omega) (by omega)
        rw [Int.toNat_natCast] at sl
        have ST : Hid (Sl wr A9 c9 (U.take k)) := by
          have h := S9.out.2.2.take k
          rw [← List.map_take] at h
          exact ⟨by have := S9.out.1; rw [List.length_take]; omega, S9.out.2.1, h⟩
        clear hu HUP e9
        go_wp2_with fail
        go_ret2
        exact ⟨_, _, rfl, HOO.out _ _ _ ⟨rfl, _, _, rfl, ST.out⟩, BW.out⟩
end Go.Proofs.Ytjmpbcfbfbjenaa

/- Laws of layer 9: any bytes, enciphered by any key and IV, are what the document tells. -/
namespace Go.Proofs.Ytjmpbcfbfbjenaa
open Go.RowKit
set_option maxRecDepth 100000
set_option linter.unusedVariables false
set_option linter.unusedSimpArgs false
theorem keyW_cases9 (lg : Bool) : keyW lg = 4 ∨ keyW lg = 8 := by cases lg <;> simp [keyW]
set_option maxHeartbeats 4000000 in
theorem cbcSeals_walk (w : World) (y : List UInt8 × Bool × List UInt8) (l : y.1.length = 32 ∧ y.2.2.length = 16) (A : Option Addr) (c : Nat) (b : List UInt8) (h : Sl w A c b) :
    Calls Try.prog 4 #[.agg (kCells y.1 y.2.1 y.2.2).toArray, .slice A b.length c] w fun e w' => e = .returned (.bool true) ∧ Below w.heap.size w w' := by
  obtain ⟨k, lg, iv⟩ := y
  obtain ⟨hk, hn⟩ := l
  simp only at hk hn ⊢
  have q1 : b.length ≤ 9223372036854775807 := by have := h.1; have := h.2.1; simp [maxLen] at this; omega
  have HN := Lib.hid hn; have H := Lib.hid h
  obtain ⟨m, hm⟩ : ∃ m, b.length = m := ⟨_, rfl⟩
  have HM := Lib.hid hm
  rw [hm] at q1 ⊢
  have HKS := Lib.hid (fun W => keys9_any k lg iv W hk hn)
  have HKB := Lib.hid (fun W => kbytes9_any k lg iv W hk hn)
  have HZL := Lib.hid (kCells_len k iv lg hk hn)
  have Z0 := Lib.hid (kz_new w k iv lg 35 hk hn)
  have HR : Hid (1 ≤ keyW lg + 6 ∧ keyW lg + 6 ≤ 14) := by show _ ∧ _; cases lg <;> simp [keyW]
  have HRC : Hid (m ≤ 100 → ∀ A1 c1 A2 c2 W, Sl W A1 c1 (keyB k lg) → Sl W A2 c2 b → Calls Try.prog 15 #[.slice A1 (4 * keyW lg) c1, .agg (iv.map bv).toArray, .slice A2 m c2] W fun e w' => ∃ v, e = .returned v ∧ w'.ownsRow W.heap.size 5 1 v (m + padK9 m) ((chainL (encL (expandL (keyB k lg)) (keyW lg + 6)) iv (b ++ padB m) ((m + padK9 m) / 16)).map bv) ∧ Below W.heap.size W w') :=
    fun h100 A1 c1 A2 c2 W s1 s2 => refSeal_any (keyB k lg) (keyW lg) A1 _ c1 iv A2 m c2 b W (keyB_len k lg hk) rfl (keyW_cases9 lg) hn hm (by omega) s1 s2
  have N0 := Lib.hid (heap_alloc_new' w (.cells (kCells k lg iv).toArray 35))
  clear hk hn h
  generalize kCells k lg iv = Z at HKS HKB HZL Z0 N0 ⊢
  generalize keyW lg + 6 = nr at HKS HR HRC
  generalize 4 * keyW lg = n4 at HKB HRC
  generalize expandL (keyB k lg) = ws at HKS HRC
  generalize keyB k lg = KB at HKB HRC
  by_cases hb : 100 < m
  · go_enter Try.func4, Try.ntmps4
    go_wp2
    go_ret
    exact ⟨rfl, (Below.refl _ _).alloc (Nat.le_refl _) _⟩
  have hbb : m ≤ 100 := by omega
  have HRC := Lib.hid (HRC.out hbb)
  clear hb q1 hm
  go_enter Try.func4, Try.ntmps4
  go_wp2_with (first
    | (refine wpList_ld rfl 35 (.tmp 2) rfl (load_arr Try.underlying35 rfl (by rw [HZL.out]; exact iKey9) (heap_alloc_new' w _)) ?_)
    | fail)
  generalize hV : w.alloc _ = Wa at Z0 N0 ⊢
  have Ba := Lib.hid (below_of_alloc hV (Nat.le_refl w.heap.size))
  clear hV
  refine (HKS.out Wa).mono ?_
  rintro e W0 ⟨gk, rfl, _, hK, hb0⟩
  have K0 := Lib.hid (KeyAt.enc hK HR.out.1 HR.out.2)
  have B0 := Lib.hid (Ba.out.step hb0)
  have Z1 := Lib.hid (Z0.out.ext hb0)
  have N1 := Lib.hid ((hb0.block _ (lt_of_heap N0.out)).trans N0.out)
  clear hK hb0 Ba HKS Z0 N0
  generalize encL ws nr = E at K0 HRC
  have H0 := Lib.hid (H.out.below B0.out)
  have CC := Lib.hid (fun A c W hK hS => seal_any (some ⟨gk, 0, none⟩) E iv A m c b W HN.out hK HM.out (by omega) hS)
  obtain ⟨X, HXX⟩ : ∃ X, Hid (chainL E iv (b ++ padB m) ((m + padK9 m) / 16) = X) := ⟨_, rfl⟩
  rw [HXX.out] at CC HRC
  obtain ⟨m2, hm2⟩ : ∃ m2, m2 = m + padK9 m := ⟨_, rfl⟩
  rw [← hm2] at CC HRC
  clear HXX hm2
  have hq1 : ((strOf X).toList == (strOf X).toList) = true := beq_self_eq_true _
  go_wp2_with fail
  have HX : Hid (Ext W0 W0.drew) := (Below.refl _ _).drew
  refine reg_start (by kernel_rfl) ?_
  try simp only [Act.put, List.setIfInBounds_toArray, List.set_cons_zero, List.set_cons_succ]
  refine reg_take (v := ?_) 0 (some 17) rfl rfl (by kernel_rfl) (by kernel_rfl) (by kernel_rfl) (fun _ _ _ h => h) (by rfl) (fun W hW => ?_) ?_
  rotate_left
  · (go_simp; try rfl)
  simp only [Act.put, List.setIfInBounds_toArray, List.set_cons_zero, List.set_cons_succ]
  refine reg_take (v := ?_) 1 (some 18) rfl rfl (by kernel_rfl) (by kernel_rfl) (by kernel_rfl) (fun _ _ _ h => h) (by rfl) (fun W hW => ?_) ?_
  rotate_left
  · (go_simp; try rfl)
  simp only [Act.put, List.setIfInBounds_toArray, List.set_cons_zero, List.set_cons_succ]
  refine reg_load 2 (some 19) (fun W hW => run_loadAt_mid W w.heap.size 33 23 (iv.map bv) _ (Z1.out.ext (HX.out.trans hW)).2.2.2 arr16B rfl (i16z iv HN.out)) rfl rfl rfl rfl (by kernel_rfl) (by kernel_rfl) (by kernel_rfl) (fun _ _ _ h => h) (by rfl) ?_
  simp only [Act.put, List.setIfInBounds_toArray, List.set_cons_zero, List.set_cons_succ]
  refine reg_take (v := ?_) 3 (some 20) rfl rfl (by kernel_rfl) (by kernel_rfl) (by kernel_rfl) (fun _ _ _ h => h) (by rfl) (fun W hW => ?_) ?_
  rotate_left
  · (go_simp; try rfl)
  simp only [Act.put, List.setIfInBounds_toArray, List.set_cons_zero, List.set_cons_succ]
  refine reg_load 6 (some 23) (fun W hW => load_arr Try.underlying35 rfl (by rw [HZL.out]; exact iKey9) (((HX.out.trans hW).block _ (lt_of_heap N1.out)).trans N1.out)) rfl rfl rfl rfl (by kernel_rfl) (by kernel_rfl) (by kernel_rfl) (fun _ _ _ h => h) (by rfl) ?_
  simp only [Act.put, List.setIfInBounds_toArray, List.set_cons_zero, List.set_cons_succ]
  refine reg_take (v := ?_) 8 (some 25) rfl rfl (by kernel_rfl) (by kernel_rfl) (by kernel_rfl) (fun _ _ _ h => h) (by rfl) (fun W hW => ?_) ?_
  rotate_left
  · (go_simp; try rfl)
  simp only [Act.put, List.setIfInBounds_toArray, List.set_cons_zero, List.set_cons_succ]
  refine reg_load 9 (some 26) (fun W hW => run_loadAt_mid W w.heap.size 33 23 (iv.map bv) _ (Z1.out.ext (HX.out.trans hW)).2.2.2 arr16B rfl (i16z iv HN.out)) rfl rfl rfl rfl (by kernel_rfl) (by kernel_rfl) (by kernel_rfl) (fun _ _ _ h => h) (by rfl) ?_
  simp only [Act.put, List.setIfInBounds_toArray, List.set_cons_zero, List.set_cons_succ]
  refine reg_take (v := ?_) 10 (some 27) rfl rfl (by kernel_rfl) (by kernel_rfl) (by kernel_rfl) (fun _ _ _ h => h) (by rfl) (fun W hW => ?_) ?_
  rotate_left
  · (go_simp; try rfl)
  simp only [Act.put, List.setIfInBounds_toArray, List.set_cons_zero, List.set_cons_succ]
  refine reg_eff 4 rfl (by kernel_rfl) (fun K hK => ?_)
  go_simp
  refine (CC.out A c _ (K0.out.ext HX.out) (H0.out.extk HX.out)).mono ?_
  rintro e w1 ⟨v1, rfl, hO1, hE⟩
  obtain ⟨A1, c1, rfl, hl1, hc1, hm1, hr1⟩ := own_read hO1
  have S1 : Hid (Sl w1 A1 c1 X) := ⟨by omega, hm1, hr1⟩
  have L1 : Hid (X.length = m2) := hl1
  have X1 : Hid (Ext w1 w1) := Below.refl _ _
  clear hO1 hc1 hm1 hr1 hl1
  refine hK.out _ _ hE ?_
  have HX := Lib.hid (Ext.trans HX.out hE)
  clear hE hK K
  try simp only [Act.put, List.setIfInBounds_toArray, List.set_cons_zero, List.set_cons_succ]
  refine reg_conv 5 (some 22) (fun W hW => conv_string W A1 m2 c1 X L1.out (S1.out.extk (X1.out.trans hW))) rfl rfl rfl rfl (by kernel_rfl) (by kernel_rfl) (by kernel_rfl) (fun _ _ _ h => h) (by rfl) ?_
  simp only [Act.put, List.setIfInBounds_toArray, List.set_cons_zero, List.set_cons_succ]
  refine reg_eff 7 rfl (by kernel_rfl) (fun K hK => ?_)
  go_simp
  refine (HKB.out _).mono ?_
  rintro e w2 ⟨rfl, hS2, hE⟩
  have S2 := Lib.hid hS2
  have X1 : Hid (Ext w1 w2) := hE
  clear hS2
  refine hK.out _ _ hE ?_
  have HX := Lib.hid (Ext.trans HX.out hE)
  clear hE hK K
  try simp only [Act.put, List.setIfInBounds_toArray, List.set_cons_zero, List.set_cons_succ]
  refine reg_eff 11 rfl (by kernel_rfl) (fun K hK => ?_)
  go_simp
  refine (HRC.out _ _ A c _ S2.out (H0.out.extk HX.out)).mono ?_
  rintro e w3 ⟨v3, rfl, hO3, hE⟩
  obtain ⟨A3, c3, rfl, hl3, hc3, hm3, hr3⟩ := own_read hO3
  have S3 : Hid (Sl w3 A3 c3 X) := ⟨by omega, hm3, hr3⟩
  have X3 : Hid (Ext w1 w3) := Ext.trans X1.out hE
  clear hO3 hc3 hm3 hr3 hl3
  refine hK.out _ _ hE ?_
  have HX := Lib.hid (Ext.trans HX.out hE)
  clear hE hK K
  try simp only [Act.put, List.setIfInBounds_toArray, List.set_cons_zero, List.set_cons_succ]
  refine reg_conv 12 (some 29) (fun W hW => conv_string W A3 m2 c3 X L1.out (S3.out.extk hW)) rfl rfl rfl rfl (by kernel_rfl) (by kernel_rfl) (by kernel_rfl) (fun _ _ _ h => h) (by rfl) ?_
  simp only [Act.put, List.setIfInBounds_toArray, List.set_cons_zero, List.set_cons_succ]
  refine reg_take (v := ?_) 13 (some 30) rfl rfl (by kernel_rfl) (by kernel_rfl) (by kernel_rfl) (fun _ _ _ h => h) (by rfl) (fun W hW => ?_) ?_
  rotate_left
  · (go_simp; try rfl)
  simp only [Act.put, List.setIfInBounds_toArray, List.set_cons_zero, List.set_cons_succ]
  refine reg_take (v := ?_) 14 (some 31) rfl rfl (by kernel_rfl) (by kernel_rfl) (by kernel_rfl) (fun _ _ _ h => h) (by rfl) (fun W hW => ?_) ?_
  rotate_left
  · (go_simp; try rfl)
  simp only [Act.put, List.setIfInBounds_toArray, List.set_cons_zero, List.set_cons_succ]
  refine reg_eff 15 rfl (by kernel_rfl) (fun K hK => ?_)
  go_simp
  refine (awake9_any _).mono ?_
  rintro e w10 ⟨rfl, hE⟩
  refine hK.out _ _ hE ?_
  have HX := Lib.hid (Ext.trans HX.out hE)
  clear hE hK K
  try simp only [Act.put, List.setIfInBounds_toArray, List.set_cons_zero, List.set_cons_succ]
  refine reg_take (v := ?_) 16 (some 33) rfl rfl (by kernel_rfl) (by kernel_rfl) (by kernel_rfl) (fun _ _ _ h => h) (by rfl) (fun W hW => ?_) ?_
  rotate_left
  · (go_simp; try rfl)
  simp only [Act.put, List.setIfInBounds_toArray, List.set_cons_zero, List.set_cons_succ]
  refine reg_take (v := ?_) 17 (some 4) rfl rfl (by kernel_rfl) (by kernel_rfl) (by kernel_rfl) (fun _ _ _ h => h) (by rfl) (fun W hW => ?_) ?_
  rotate_left
  · (go_simp; try rfl)
  simp only [Act.put, List.setIfInBounds_toArray, List.set_cons_zero, List.set_cons_succ]
  refine reg_done (by kernel_rfl) ?_
  go_wp2
  go_ret
  exact ⟨rfl, B0.out.step HX.out⟩
end Go.Proofs.Ytjmpbcfbfbjenaa

/- Laws of layer 9: any bytes, deciphered by any key and IV, or that there is no padding, are what the document tells. -/
namespace Go.Proofs.Ytjmpbcfbfbjenaa
open Go.RowKit
set_option maxRecDepth 100000
set_option linter.unusedVariables false
set_option linter.unusedSimpArgs false
theorem ge_ownK (a k : Nat) {n c : Nat} : ∀ g, (Value.slice (some ⟨a + k, 0, none⟩) n c).ownBlock = some g → a ≤ g := by
  intro g hg
  have : a + k = g := by injection hg
  omega
theorem sl_nilK (w : World) : Sl w none 0 [] := by
  obtain ⟨A, c, he, hl, h1, h2, hr⟩ := own_read (bs := []) (World.ownsRow_nil w w.heap.size 5 1)
  injection he with e1 e2 e3
  subst e1; subst e3
  exact ⟨Nat.le_refl _, h2, hr⟩
set_option maxHeartbeats 4000000 in
theorem cbcOpens_walk (w : World) (y : List UInt8 × Bool × List UInt8) (l : y.1.length = 32 ∧ y.2.2.length = 16) (A : Option Addr) (c : Nat) (b : List UInt8) (h : Sl w A c b) :
    Calls Try.prog 5 #[.agg (kCells y.1 y.2.1 y.2.2).toArray, .slice A b.length c] w fun e w' => e = .returned (.bool true) ∧ Below w.heap.size w w' := by
  obtain ⟨k, lg, iv⟩ := y
  obtain ⟨hk, hn⟩ := l
  simp only at hk hn ⊢
  have q1 : b.length ≤ 9223372036854775807 := by have := h.1; have := h.2.1; simp [maxLen] at this; omega
  have HN := Lib.hid hn; have H := Lib.hid h
  obtain ⟨m, hm⟩ : ∃ m, b.length = m := ⟨_, rfl⟩
  have HM := Lib.hid hm
  rw [hm] at q1 ⊢
  have HKS := Lib.hid (fun W => keys9_any k lg iv W hk hn)
  have HKB := Lib.hid (fun W => kbytes9_any k lg iv W hk hn)
  have HZL := Lib.hid (kCells_len k iv lg hk hn)
  have Z0 := Lib.hid (kz_new w k iv lg 35 hk hn)
  have HR : Hid (1 ≤ keyW lg + 6 ∧ keyW lg + 6 ≤ 14) := by show _ ∧ _; cases lg <;> simp [keyW]
  have HRC : Hid (m ≤ 100 → ∀ A1 c1 A2 c2 W, Sl W A1 c1 (keyB k lg) → Sl W A2 c2 b → Calls Try.prog 19 #[.slice A1 (4 * keyW lg) c1, .agg (iv.map bv).toArray, .slice A2 m c2] W fun e w' => ∃ v ok, e = .returned (.tuple #[v, .bool ok]) ∧ RefO (decL (expandL (keyB k lg)) (keyW lg + 6)) iv b v ok w' ∧ Below W.heap.size W w') :=
    fun h100 A1 c1 A2 c2 W s1 s2 => by
      by_cases h16 : m % 16 = 0
      · exact refOpen_any (keyB k lg) (keyW lg) A1 _ c1 iv A2 m c2 b W (keyB_len k lg hk) rfl (keyW_cases9 lg) hn hm (by omega) h16 s1 s2
      · exact refOpen_odd A1 _ c1 _ iv A2 m c2 b W hm (by omega) h16
  have N0 := Lib.hid (heap_alloc_new' w (.cells (kCells k lg iv).toArray 35))
  clear hk hn h
  generalize kCells k lg iv = Z at HKS HKB HZL Z0 N0 ⊢
  generalize keyW lg + 6 = nr at HKS HR HRC
  generalize 4 * keyW lg = n4 at HKB HRC
  generalize expandL (keyB k lg) = ws at HKS HRC
  generalize keyB k lg = KB at HKB HRC
  by_cases hb : 100 < m
  · go_enter Try.func5, Try.ntmps5
    go_wp2
    go_ret
    exact ⟨rfl, (Below.refl _ _).alloc (Nat.le_refl _) _⟩
  have hbb : m ≤ 100 := by omega
  have HRC := Lib.hid (HRC.out hbb)
  clear hb q1 hm
  go_enter Try.func5, Try.ntmps5
  go_wp2_with (first
    | (refine wpList_ld rfl 35 (.tmp 2) rfl (load_arr Try.underlying35 rfl (by rw [HZL.out]; exact iKey9) (heap_alloc_new' w _)) ?_)
    | fail)
  generalize hV : w.alloc _ = Wa at Z0 N0 ⊢
  have Ba := Lib.hid (below_of_alloc hV (Nat.le_refl w.heap.size))
  clear hV
  refine (HKS.out Wa).mono ?_
  rintro e W0 ⟨gk, rfl, _, hK, hb0⟩
  have K0 := Lib.hid (KeyAt.dcp hK HR.out.1 HR.out.2)
  have B0 := Lib.hid (Ba.out.step hb0)
  have Z1 := Lib.hid (Z0.out.ext hb0)
  have N1 := Lib.hid ((hb0.block _ (lt_of_heap N0.out)).trans N0.out)
  clear hK hb0 Ba HKS Z0 N0
  generalize decL ws nr = D at K0 HRC
  have H0 := Lib.hid (H.out.below B0.out)
  have CC : Hid (∀ A1 c1 W, Dcp W (.pointer (some ⟨gk, 0, none⟩)) D → Sl W A1 c1 b → Calls Try.prog 18 #[.pointer (some ⟨gk, 0, none⟩), .agg (iv.map bv).toArray, .slice A1 m c1] W fun e w' => ∃ v x, e = .returned (.tuple #[v, .int .i64 x]) ∧ OpenC W D iv b v x w' ∧ Below W.heap.size W w') := fun A1 c1 W hD hS => by
    by_cases h16 : m % 16 = 0
    · exact open_any (some ⟨gk, 0, none⟩) D iv A1 m c1 (m / 16) b W HN.out hD HM.out (by omega) (by omega) hS
    · exact open_odd (some ⟨gk, 0, none⟩) D iv A1 m c1 b W HM.out (by omega) h16
  have hm31 : 0 + m ≤ 2147483647 := by omega
  go_wp2_with fail
  have HX : Hid (Below W0.heap.size W0 W0.drew) := (Below.refl _ _).drew
  refine regB_start (W0.heap.size) (by kernel_rfl) ?_
  try simp only [Act.put, List.setIfInBounds_toArray, List.set_cons_zero, List.set_cons_succ]
  refine regB_take (v := ?_) 0 (some 22) rfl rfl (by kernel_rfl) (by kernel_rfl) (by kernel_rfl) (fun _ _ _ h => h) (by rfl) (fun W hW => ?_) ?_
  rotate_left
  · (go_simp; try rfl)
  simp only [Act.put, List.setIfInBounds_toArray, List.set_cons_zero, List.set_cons_succ]
  refine regB_take (v := ?_) 1 (some 23) rfl rfl (by kernel_rfl) (by kernel_rfl) (by kernel_rfl) (fun _ _ _ h => h) (by rfl) (fun W hW => ?_) ?_
  rotate_left
  · (go_simp; try rfl)
  simp only [Act.put, List.setIfInBounds_toArray, List.set_cons_zero, List.set_cons_succ]
  refine regB_load 2 (some 24) (fun W hW => run_loadAt_mid W w.heap.size 33 23 (iv.map bv) _ (Z1.out.ext (HX.out.trans hW)).2.2.2 arr16B rfl (i16z iv HN.out)) rfl rfl rfl rfl (by kernel_rfl) (by kernel_rfl) (by kernel_rfl) (fun _ _ _ h => h) (by rfl) ?_
  simp only [Act.put, List.setIfInBounds_toArray, List.set_cons_zero, List.set_cons_succ]
  refine regB_take (v := ?_) 4 (some 26) rfl rfl (by kernel_rfl) (by kernel_rfl) (by kernel_rfl) (fun _ _ _ h => h) (by rfl) (fun W hW => ?_) ?_
  rotate_left
  · (go_simp; try rfl)
  simp only [Act.put, List.setIfInBounds_toArray, List.set_cons_zero, List.set_cons_succ]
  refine regB_eff 3 rfl (by kernel_rfl) (fun K hK => ?_)
  go_simp
  have hE : Below W0.heap.size W0.drew (W0.drew.alloc (.cells #[] 5)) := (Below.refl W0.heap.size W0.drew).alloc (show W0.heap.size ≤ W0.drew.heap.size from Nat.le_refl _) _
  refine hK.out _ _ hE ?_
  have HX := Lib.hid (Below.trans HX.out hE)
  clear hE hK K
  try simp only [Act.put, List.setIfInBounds_toArray, List.set_cons_zero, List.set_cons_succ]
  refine regB_eff 5 rfl (by kernel_rfl) (fun K hK => ?_)
  obtain ⟨v1, w1, hrun, hown, hgr, _⟩ := append_row_at (P := Try.prog) (W0.drew.alloc (.cells #[] 5)) W0.heap.size 26 uT made8 rfl (.slice (some ⟨W0.heap.size, 0, none⟩) 0 0) 0 [] (own_heap (bs := []) (g := W0.heap.size) (heap_alloc_new' W0.drew _) (Nat.le_refl _) rfl (Nat.zero_le _)) W0.heap.size A m c (b.map bv) (H0.out.2.2.below (((Below.refl W0.heap.size W0).drew).alloc (Nat.le_refl _) _)) (by rw [List.length_map]; exact HM.out) (bv_one _) (by omega) (by simp [maxLen]; omega) (by simp)
  rw [List.nil_append, Nat.zero_add] at hown
  obtain ⟨A1, c1, rfl, hl1, hc1, hm1, hr1⟩ := own_read hown
  have S1 : Hid (Sl w1 A1 c1 b) := ⟨by omega, hm1, hr1⟩
  have hE : Below W0.heap.size (W0.drew.alloc (.cells #[] 5)) w1 := (Below.refl _ _).grown hgr (by simp) (ge_ownK W0.heap.size 0)
  refine step_app rfl (.tmp 25) (.tmp 26) 26 26 rfl hrun ?_
  clear hrun hown hgr hl1 hc1 hm1 hr1
  refine hK.out _ _ hE ?_
  have HX := Lib.hid (Below.trans HX.out hE)
  clear hE hK K
  try simp only [Act.put, List.setIfInBounds_toArray, List.set_cons_zero, List.set_cons_succ]
  refine regB_eff 6 rfl (by kernel_rfl) (fun K hK => ?_)
  go_simp
  refine (CC.out A1 c1 _ (K0.out.ext HX.out) S1.out).mono ?_
  rintro e w2 ⟨v2, x2, rfl, hO2, hb2⟩
  have OC := Lib.hid hO2
  have hE : Below W0.heap.size w1 w2 := hb2.mono HX.out.size
  clear hO2 hb2
  refine hK.out _ _ hE ?_
  have HX := Lib.hid (Below.trans HX.out hE)
  clear hE hK K
  try simp only [Act.put, List.setIfInBounds_toArray, List.set_cons_zero, List.set_cons_succ]
  refine regB_take (v := ?_) 7 (some 21) rfl rfl (by kernel_rfl) (by kernel_rfl) (by kernel_rfl) (fun _ _ _ h => h) (by rfl) (fun W hW => ?_) ?_
  rotate_left
  · (go_simp; try rfl)
  simp only [Act.put, List.setIfInBounds_toArray, List.set_cons_zero, List.set_cons_succ]
  refine regB_take (v := ?_) 8 (some 29) rfl rfl (by kernel_rfl) (by kernel_rfl) (by kernel_rfl) (fun _ _ _ h => h) (by rfl) (fun W hW => ?_) ?_
  rotate_left
  · (go_simp; try rfl)
  simp only [Act.put, List.setIfInBounds_toArray, List.set_cons_zero, List.set_cons_succ]
  refine regB_take (v := ?_) 9 (some 30) rfl rfl (by kernel_rfl) (by kernel_rfl) (by kernel_rfl) (fun _ _ _ h => h) (by rfl) (fun W hW => ?_) ?_
  rotate_left
  · (go_simp; try rfl)
  simp only [Act.put, List.setIfInBounds_toArray, List.set_cons_zero, List.set_cons_succ]
  refine regB_take (v := ?_) 10 (some 7) rfl rfl (by kernel_rfl) (by kernel_rfl) (by kernel_rfl) (fun _ _ _ h => h) (by rfl) (fun W hW => ?_) ?_
  rotate_left
  · (go_simp; try rfl)
  simp only [Act.put, List.setIfInBounds_toArray, List.set_cons_zero, List.set_cons_succ]
  refine regB_take (v := ?_) 11 (some 8) rfl rfl (by kernel_rfl) (by kernel_rfl) (by kernel_rfl) (fun _ _ _ h => h) (by rfl) (fun W hW => ?_) ?_
  rotate_left
  · (go_simp; try rfl)
  simp only [Act.put, List.setIfInBounds_toArray, List.set_cons_zero, List.set_cons_succ]
  refine regB_done (by kernel_rfl) ?_
  have B2 : Hid (Below w.heap.size w w2) := B0.out.step HX.out
  have Z2 := Lib.hid (Z1.out.ext HX.out)
  have N2 := Lib.hid ((HX.out.block _ (lt_of_heap N1.out)).trans N1.out)
  have H2 := Lib.hid (H0.out.below HX.out)
  clear HX K0 S1 H0 N1 Z1 CC B0
  go_wp2_with fail
  have HX : Hid (Ext w2 w2.drew) := (Below.refl _ _).drew
  refine reg_start (by kernel_rfl) ?_
  try simp only [Act.put, List.setIfInBounds_toArray, List.set_cons_zero, List.set_cons_succ]
  refine reg_load 0 (some 32) (fun W hW => load_arr Try.underlying35 rfl (by rw [HZL.out]; exact iKey9) (((HX.out.trans hW).block _ (lt_of_heap N2.out)).trans N2.out)) rfl rfl rfl rfl (by kernel_rfl) (by kernel_rfl) (by kernel_rfl) (fun _ _ _ h => h) (by rfl) ?_
  simp only [Act.put, List.setIfInBounds_toArray, List.set_cons_zero, List.set_cons_succ]
  refine reg_take (v := ?_) 2 (some 34) rfl rfl (by kernel_rfl) (by kernel_rfl) (by kernel_rfl) (fun _ _ _ h => h) (by rfl) (fun W hW => ?_) ?_
  rotate_left
  · (go_simp; try rfl)
  simp only [Act.put, List.setIfInBounds_toArray, List.set_cons_zero, List.set_cons_succ]
  refine reg_load 3 (some 35) (fun W hW => run_loadAt_mid W w.heap.size 33 23 (iv.map bv) _ (Z2.out.ext (HX.out.trans hW)).2.2.2 arr16B rfl (i16z iv HN.out)) rfl rfl rfl rfl (by kernel_rfl) (by kernel_rfl) (by kernel_rfl) (fun _ _ _ h => h) (by rfl) ?_
  simp only [Act.put, List.setIfInBounds_toArray, List.set_cons_zero, List.set_cons_succ]
  refine reg_take (v := ?_) 4 (some 36) rfl rfl (by kernel_rfl) (by kernel_rfl) (by kernel_rfl) (fun _ _ _ h => h) (by rfl) (fun W hW => ?_) ?_
  rotate_left
  · (go_simp; try rfl)
  simp only [Act.put, List.setIfInBounds_toArray, List.set_cons_zero, List.set_cons_succ]
  refine reg_eff 1 rfl (by kernel_rfl) (fun K hK => ?_)
  go_simp
  refine (HKB.out _).mono ?_
  rintro e w3 ⟨rfl, hS3, hE⟩
  have S3 := Lib.hid hS3
  clear hS3
  refine hK.out _ _ hE ?_
  have HX := Lib.hid (Ext.trans HX.out hE)
  clear hE hK K
  try simp only [Act.put, List.setIfInBounds_toArray, List.set_cons_zero, List.set_cons_succ]
  refine reg_eff 5 rfl (by kernel_rfl) (fun K hK => ?_)
  go_simp
  refine (HRC.out _ _ A c _ S3.out (H2.out.extk HX.out)).mono ?_
  rintro e w4 ⟨v4, ok4, rfl, hR4, hE⟩
  have RO4 := Lib.hid hR4
  clear hR4
  refine hK.out _ _ hE ?_
  have HX := Lib.hid (Ext.trans HX.out hE)
  clear hE hK K
  try simp only [Act.put, List.setIfInBounds_toArray, List.set_cons_zero, List.set_cons_succ]
  refine reg_take (v := ?_) 6 (some 31) rfl rfl (by kernel_rfl) (by kernel_rfl) (by kernel_rfl) (fun _ _ _ h => h) (by rfl) (fun W hW => ?_) ?_
  rotate_left
  · (go_simp; try rfl)
  simp only [Act.put, List.setIfInBounds_toArray, List.set_cons_zero, List.set_cons_succ]
  refine reg_take (v := ?_) 7 (some 38) rfl rfl (by kernel_rfl) (by kernel_rfl) (by kernel_rfl) (fun _ _ _ h => h) (by rfl) (fun W hW => ?_) ?_
  rotate_left
  · (go_simp; try rfl)
  simp only [Act.put, List.setIfInBounds_toArray, List.set_cons_zero, List.set_cons_succ]
  refine reg_take (v := ?_) 8 (some 39) rfl rfl (by kernel_rfl) (by kernel_rfl) (by kernel_rfl) (fun _ _ _ h => h) (by rfl) (fun W hW => ?_) ?_
  rotate_left
  · (go_simp; try rfl)
  simp only [Act.put, List.setIfInBounds_toArray, List.set_cons_zero, List.set_cons_succ]
  refine reg_take (v := ?_) 9 (some 9) rfl rfl (by kernel_rfl) (by kernel_rfl) (by kernel_rfl) (fun _ _ _ h => h) (by rfl) (fun W hW => ?_) ?_
  rotate_left
  · (go_simp; try rfl)
  simp only [Act.put, List.setIfInBounds_toArray, List.set_cons_zero, List.set_cons_succ]
  refine reg_take (v := ?_) 10 (some 10) rfl rfl (by kernel_rfl) (by kernel_rfl) (by kernel_rfl) (fun _ _ _ h => h) (by rfl) (fun W hW => ?_) ?_
  rotate_left
  · (go_simp; try rfl)
  simp only [Act.put, List.setIfInBounds_toArray, List.set_cons_zero, List.set_cons_succ]
  refine reg_done (by kernel_rfl) ?_
  have X24 : Hid (Below w2.heap.size w2 w4) := HX.out
  have B4 : Hid (Below w.heap.size w w4) := B2.out.step HX.out
  have O4 := OC.out
  have R4 := RO4.out
  clear OC RO4 HX
  unfold OpenC at O4
  unfold RefO at R4
  cases ho : openO D iv b with
  | none =>
    rw [ho] at O4 R4
    obtain ⟨rfl, rfl⟩ := O4
    obtain ⟨rfl, rfl⟩ := R4
    have cv1 := conv_string w4 none 0 0 [] rfl (sl_nilK w4)
    have hxx : ((strOf []).toList == (strOf []).toList) = true := by simp
    clear ho
    go_wp2_with fail
    refine (awake9_any w4).mono ?_
    rintro e w5 ⟨rfl, hb5⟩
    have B5 := Lib.hid (B4.out.step hb5)
    go_wp2
    go_ret
    exact ⟨rfl, B5.out⟩
  | some k =>
    rw [ho] at O4 R4
    obtain ⟨rfl, hkm, hown⟩ := O4
    obtain ⟨rfl, A5, c5, rfl, hS5⟩ := R4
    obtain ⟨A6, c6, rfl, hl6, hc6, hm6, hr6⟩ := own_read hown
    generalize (unchL D iv b (b.length / 16)).take k = U at hS5 hr6 hl6 hown
    have S6 : Sl w4 A6 c6 U := Sl.below (w := w2) ⟨by omega, hm6, hr6⟩ X24.out
    have cv1 := conv_string w4 A6 k c6 U hl6 S6
    have cv2 := conv_string w4 A5 k c5 U hl6 hS5
    have hxx : ((strOf U).toList == (strOf U).toList) = true := by simp
    clear ho hown hc6 hm6 hr6 S6 hS5
    go_wp2_with fail
    refine (awake9_any w4).mono ?_
    rintro e w5 ⟨rfl, hb5⟩
    have B5 := Lib.hid (B4.out.step hb5)
    go_wp2
    go_ret
    exact ⟨rfl, B5.out⟩
end Go.Proofs.Ytjmpbcfbfbjenaa

/- A key, whether it is long, and an IV, that come in (layer 9). -/
namespace Go.Proofs.Ytjmpbcfbfbjenaa
open Go.RowKit Go.ChangeShapes Go.WideShapes Go.ChangeAt
set_option maxRecDepth 100000
set_option linter.unusedVariables false
set_option linter.unusedSimpArgs false
theorem k9_of_cells {H : Type} {enc : TypeId × Value → H} {W : World} {b0 : Nat} {sp : Nat → Bool} {held : Bool} {cs : List Value} {fuel : Nat} {x : DataW H × List MemPlace}
    (hf : DataW.trod enc Try.prog W b0 sp held fuel 35 cs = some x) : ∃ k b n, cs = kCells k b n ∧ k.length = 32 ∧ n.length = 16 := by
  obtain ⟨y0, y1, y2, m, _, hl, h0, h1, h2⟩ := Go.Deep.trod_struct3 Try.underlying35 hf
  have hc : Try.prog.cellsOf 35 = 49 := by kernel_rfl
  have c0 : Try.prog.cellsOf 22 = 32 := by kernel_rfl
  have c1 : Try.prog.cellsOf 4 = 1 := by kernel_rfl
  have c2 : Try.prog.cellsOf 23 = 16 := by kernel_rfl
  rw [hc] at hl
  rw [c0] at h0
  rw [c1] at h1
  rw [c2] at h2
  obtain ⟨z0, e0, hz0, w0⟩ := cells_ints Try.underlying22 Try.underlying5 (by kernel_rfl) c0 h0
  obtain ⟨b, e1, _⟩ := DataW.trod_bool Try.underlying4 h1
  obtain ⟨z2, e2, hz2, w2⟩ := cells_ints Try.underlying23 Try.underlying5 (by kernel_rfl) c2 h2
  obtain ⟨k, rfl⟩ := bytes_of w0
  obtain ⟨n, rfl⟩ := bytes_of w2
  refine ⟨k, b, n, ?_, by simpa using hz0, by simpa using hz2⟩
  have hs := split49 cs hl
  simp only [List.drop_zero] at e0
  rw [e0, e1, e2] at hs
  rw [hs]
  simp [kCells, Function.comp_def]
  rfl
theorem open_palfreylaw09_Key {H : Type} {enc : TypeId × Value → H} {W : World} {base b0 : Nat} {sp : Nat → Bool} {held : Bool} {v : Value} {d : DataW H} {p : List MemPlace}
    (hv : Value.okWide Try.prog W .any base 35 v) (h : DataW.Trod enc Try.prog W b0 sp held 35 v d p) :
    ∃ y : List UInt8 × Bool × List UInt8, v = .agg (kCells y.1 y.2.1 y.2.2).toArray ∧ y.1.length = 32 ∧ y.2.2.length = 16 := by
  obtain ⟨cs, rfl, hsz⟩ := okWide_struct Try.underlying35 hv
  obtain ⟨fuel, hf⟩ := h
  simp only [Value.cells] at hf
  obtain ⟨k, b, n, e, hk, hn⟩ := k9_of_cells hf
  refine ⟨(k, b, n), ?_, hk, hn⟩
  congr 1
  apply Array.ext'
  rw [e]
end Go.Proofs.Ytjmpbcfbfbjenaa
