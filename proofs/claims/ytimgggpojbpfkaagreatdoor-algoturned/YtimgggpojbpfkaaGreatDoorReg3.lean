/- Regions that draw their order, in which a call or a store (the bar) waits for loads whose cells are stored into behind it: ahead of the bar the world is held, behind it it is free. Over any program. -/
import Derived.Test.YtimgggpojbpfkaaGreatDoorReg2
import Derived.StillTail
namespace Go.Proofs.YtimgggpojbpfkaaGreatDoor
open Go.RowKit
set_option maxRecDepth 100000
set_option linter.unusedVariables false
section
variable {P : Program} {ops : Array Oper} {Q : Exit → Act → World → Prop} {md : Region.Mode} {b : Nat} {S : World → Prop}
/-- whatever order is picked; as long as the bar has not come up, the world meets S -/
def Bar (P : Program) (md : Region.Mode) (ops : Array Oper) (Q : Exit → Act → World → Prop) (b : Nat) (S : World → Prop) : Nat → Array Bool → Act → World → Prop
  | 0, listed, a, w => Region.ready md ops listed = [] ∧ Q .normal a w
  | n + 1, listed, a, w => (Region.ready md ops listed = [] → Q .normal a w) ∧
    ∀ i ∈ Region.ready md ops listed, wpOp P ops Q i (fun a' w' => (((listed.setIfInBounds i true).getD b true = false) → S w') ∧ Bar P md ops Q b S n (listed.setIfInBounds i true) a' w') a w
theorem Bar.any : ∀ (n : Nat) (listed : Array Bool) (a : Act) (w : World), Bar P md ops Q b S n listed a w → wpAny P md ops Q n listed a w
  | 0, _, _, _, h => h
  | n + 1, _, _, _, h => ⟨h.1, fun i hi => wpOp_mono (fun a' w' h' => Bar.any n _ a' w' h'.2) (h.2 i hi)⟩
/-- behind the bar -/
theorem Bar.past : ∀ (n : Nat) (listed : Array Bool) (a : Act) (w : World), listed.getD b true = true → wpAnyH P md ops Q (fun _ => True) n listed a w → Bar P md ops Q b S n listed a w
  | 0, _, _, _, _, h => h
  | n + 1, listed, a, w, hb, h => ⟨h.1, fun i hi => wpOp_mono (fun a' w' h' => by
      have hb' : (listed.setIfInBounds i true).getD b true = true := by
        by_cases e : i = b
        · subst e; simp only [Array.getD_eq_getD_getElem?, Array.getElem?_setIfInBounds, if_true]; split <;> rfl
        · rw [getD_set_ne true e]; exact hb
      exact ⟨fun h0 => absurd (hb'.symm.trans h0) (by decide), Bar.past n _ a' w' hb' h'.2⟩) (h.2 i hi)⟩
/-- what may come up may be taken first: (1) it yields in whatever world, or (2) in every world that meets S, and the bar waits for it -/
theorem Bar.first {i : Nat} {oi : Oper} {v : Value} {T : World → Prop} (hi : ops[i]? = some oi) (hsel : ∀ (j : Nat) (o : Oper) cs b, ops[j]? = some o → o.op ≠ .select cs b)
    (hQ : ∀ c a w, Q (.panic c) (a.put oi.dst v) w → Q (.panic c) a w)
    (hT : (∀ w, T w) ∨ ((∀ w, S w → T w) ∧ Region.waitsFor md ops b i = true)) (hib : i ≠ b) :
    ∀ (n : Nat) (listed : Array Bool) (a : Act) (w : World),
      (∀ j oj, ops[j]? = some oj → j ≠ i → listed.getD j true = false → (∀ e ∈ oj.after, Region.binds md e = true → e.on ≠ i) → oi.apart ops oj = true) →
      i ∈ Region.ready md ops listed → (listed.getD b true = false ∨ ∀ w, T w) → YieldsIf P ops T oi v a → (listed.getD b true = false → S w) →
      Bar P md ops Q b S n (listed.setIfInBounds i true) (a.put oi.dst v) w → Bar P md ops Q b S (n + 1) listed a w := by
  have useT : ∀ (listed : Array Bool) (w : World), (listed.getD b true = false ∨ ∀ w, T w) → (listed.getD b true = false → S w) → T w := by
    intro listed w h1 h2
    rcases hT with h | h
    · exact h w
    · rcases h1 with h1 | h1
      · exact h.1 w (h2 h1)
      · exact h1 w
  have same : ∀ (listed : Array Bool) (w : World), (listed.getD b true = false → S w) → ((listed.setIfInBounds i true).getD b true = false → S w) := by
    intro listed w h h0
    rw [getD_set_ne true hib] at h0
    exact h h0
  intro n
  induction n with
  | zero =>
    intro listed a w _ hr hb hy hS H
    refine ⟨fun h => (by rw [h] at hr; cases hr), fun j hj => ?_⟩
    by_cases hji : j = i
    · subst hji; exact hy.wpOp hi (useT _ _ hb hS) ⟨same _ _ hS, H⟩
    · have := ready_mono hj hji
      rw [H.1] at this
      cases this
  | succ n ih =>
    intro listed a w hfree hr hb hy hS H
    refine ⟨fun h => (by rw [h] at hr; cases hr), fun j hj => ?_⟩
    by_cases hji : j = i
    · subst hji; exact hy.wpOp hi (useT _ _ hb hS) ⟨same _ _ hS, H⟩
    · have h1 := H.2 j (ready_mono hj hji)
      obtain ⟨hjun, oj, hoj, hall⟩ := mem_ready.1 hj
      have hnot : ∀ e ∈ oj.after, Region.binds md e = true → e.on ≠ i := fun e he hb heq => by
        have h1 := hall e he hb
        have h0 := (mem_ready.1 hr).1
        rw [heq] at h1
        rcases Nat.lt_or_ge i listed.size with h' | h'
        · simp [h'] at h0 h1; rw [h0] at h1; cases h1
        · simp [Array.getElem?_eq_none h'] at h1
      have h2 := wpOp_putIf hoj (hfree j oj hoj hji hjun hnot) (fun cs b => hsel i oi cs b hi) (fun cs b => hsel j oj cs b hoj) hQ hy h1
      have hfree' : ∀ k ok, ops[k]? = some ok → k ≠ i → (listed.setIfInBounds j true).getD k true = false →
          (∀ e ∈ ok.after, Region.binds md e = true → e.on ≠ i) → oi.apart ops ok = true := fun k ok hk hki hun hno => by
        refine hfree k ok hk hki ?_ hno
        by_cases hjk : j = k
        · subst hjk; exact hjun
        · rw [getD_set_ne true hjk] at hun; exact hun
      have hb' : (listed.setIfInBounds j true).getD b true = false ∨ ∀ w, T w := by
        rcases hb with hb | hb
        · rcases hT with h | h
          · exact .inr h
          · have hjb : j ≠ b := by
              intro e
              subst e
              obtain ⟨ob, hob, e, he, hbi, hon⟩ := Region.waitsFor_spec h.2
              rw [hoj] at hob
              cases hob
              exact hnot e he hbi hon
            exact .inl (by rw [getD_set_ne true hjb]; exact hb)
        · exact .inr hb
      have hji' : (listed.setIfInBounds j true).setIfInBounds i true = (listed.setIfInBounds i true).setIfInBounds j true := Array.setIfInBounds_comm _ _ hji
      refine wpOp_mono (fun a' w' h3 => ?_) h2
      have hS' : (listed.setIfInBounds j true).getD b true = false → S w' := by
        intro h0
        refine h3.2.1 ?_
        rw [← hji', getD_set_ne true hib]
        exact h0
      refine ⟨hS', ih (listed.setIfInBounds j true) a' w' hfree' (ready_mono hr (Ne.symm hji)) hb' h3.1 hS' ?_⟩
      rw [hji']
      exact h3.2.2
theorem regK_start {id : Nat} {a : Act} {w : World} (b : Nat) (S : World → Prop) (hm : P.follows .mixedOrders = true) (h : Bar P .any ops Q b S ops.size (Array.replicate ops.size false) a w.drew) : (Code.region id ops true).wp P Q a w :=
  wp_region_any hm (Bar.any _ _ _ _ h)
theorem regK_take (i : Nat) {o : Oper} {v : Value} {fuel : Nat} {listed : Array Bool} {a : Act} {w : World} (d : Option Tmp) (hi : ops[i]? = some o) (hd : o.dst = d)
    (hs : Region.noSelect ops = true) (hf : Region.free .any ops listed i = true) (hr : (Region.ready .any ops listed).contains i = true)
    (hQ : ∀ c a w, Q (.panic c) (a.put o.dst v) w → Q (.panic c) a w) (hw : Region.wanted o (yielded ops a.tmps) = true) (hb : (i != b) = true) (hS : S w)
    (hy : ∀ W, (execOp a.eval o).run P W = .ok (.value v) W)
    (h : Bar P .any ops Q b S fuel (listed.setIfInBounds i true) (a.put d v) w) : Bar P .any ops Q b S (fuel + 1) listed a w := by
  subst hd
  exact Bar.first (T := fun _ => True) hi (Region.noSelect_spec hs) hQ (.inl fun _ => trivial) (by simpa using hb) fuel listed a w (Region.free_spec hi hf) (by simpa using hr) (.inr fun _ => trivial) (.inl ⟨hw, fun W _ => hy W⟩) (fun _ => hS) h
theorem regK_load (i : Nat) {o : Oper} {ty : TypeId} {x : Operand} {p v : Value} {fuel : Nat} {listed : Array Bool} {a : Act} {w : World} (d : Option Tmp)
    (hrun : ∀ W, S W → (Instr.loadAt ty p).run P W = .ok v W) (hi : ops[i]? = some o) (hd : o.dst = d) (ho : o.op = .load ty x) (hx : a.eval x = p)
    (hs : Region.noSelect ops = true) (hf : Region.free .any ops listed i = true) (hr : (Region.ready .any ops listed).contains i = true)
    (hQ : ∀ c a w, Q (.panic c) (a.put o.dst v) w → Q (.panic c) a w) (hw : Region.wanted o (yielded ops a.tmps) = true) (hb : (i != b && Region.waitsFor .any ops b i && !listed.getD b true) = true) (hS : S w)
    (h : Bar P .any ops Q b S fuel (listed.setIfInBounds i true) (a.put d v) w) : Bar P .any ops Q b S (fuel + 1) listed a w := by
  subst hd
  simp only [Bool.and_eq_true, bne_iff_ne, ne_eq, Bool.not_eq_true'] at hb
  exact Bar.first (T := S) hi (Region.noSelect_spec hs) hQ (.inr ⟨fun _ h => h, hb.1.2⟩) hb.1.1 fuel listed a w (Region.free_spec hi hf) (by simpa using hr) (.inl hb.2) (.inl ⟨hw, fun W hW => exec_load ho hx (hrun W hW)⟩) (fun _ => hS) h
/-- the bar itself; behind it nothing is held -/
def Free (_ _ : World) : Prop := True
instance : Pre Free where
  refl _ := trivial
  trans _ _ := trivial
theorem regK_bar (i : Nat) {o : Oper} {fuel : Nat} {listed : Array Bool} {a : Act} {w : World} (hi : ops[i]? = some o) (hr : Region.ready .any ops listed = [i]) (hib : (listed.setIfInBounds i true).getD b true = true)
    (h : ∀ K : Act → World → Prop, Hid (∀ a' w', Free w w' → RegS P ops Q Free fuel (listed.setIfInBounds i true) a' w' → K a' w') → if Region.wanted o (yielded ops a.tmps) = true then Oper.wp P o a w K Q else K (a.put o.dst undef) w) :
    Bar P .any ops Q b S (fuel + 1) listed a w := by
  refine ⟨fun h0 => (by rw [hr] at h0; cases h0), fun j hj => ?_⟩
  rw [hr] at hj
  obtain rfl : j = i := by simpa using hj
  refine wpOp_step hi fun K hK => h K fun a' w' _ hR => hK a' w' ⟨fun h0 => absurd (hib.symm.trans h0) (by decide), ?_⟩
  exact Bar.past _ _ _ _ hib hR
end
end Go.Proofs.YtimgggpojbpfkaaGreatDoor
