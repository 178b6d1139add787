/- Joined: LiftP Reg5 Sha8 Own. -/
import Derived.Test.YtkgbhlppadpdfaaLift
import Derived.Test.YtkgbhlppadpdfaaReg4
import Derived.Test.YtkgbhlppadpdfaaJoin1
/- Rows of rows of bytes that come in. -/
namespace Go.Proofs.Ytkgbhlppadpdfaa
open Go.RowKit Go.ChangeShapes Go.WideShapes Go.ChangeAt
set_option maxRecDepth 100000
set_option linter.unusedVariables false
theorem open_bytes_cs {H : Type} {enc : TypeId × Value → H} {W : World} {fuel : Nat} {cs : List Value} {x : DataW H × List MemPlace}
    (hf : DataW.trod enc Try.prog W 0 (fun _ => true) true fuel 23 cs = some x) : ∃ A c bs, cs = [.slice A (bs : List UInt8).length c] ∧ Sl W A c bs := by
  rcases open_ints Try.underlying23 Try.underlying5 (by kernel_rfl) hf with ⟨hcs, _⟩ | ⟨x, l, c, zs, hcs, _, hl, hm, hz, hp, hcell, hwz⟩
  · exact ⟨none, 0, [], hcs, by simp, by simp [maxLen], .inl rfl⟩
  · obtain ⟨bs, rfl⟩ := bytes_of hwz
    have hlen : bs.length = c := by simpa using hz
    refine ⟨_, c, bs.take l, by rw [hcs, List.length_take, Nat.min_eq_left (by omega)], by rw [List.length_take]; omega, hm, ?_⟩
    by_cases h0 : l = 0
    · subst h0; exact .inl (by simp)
    · have hc0 := hcell 0 (by simp; omega)
      obtain ⟨b, o, spot⟩ := x
      have hspot : spot = none := by simpa [Addr.add] using World.cell?_spot hc0
      subst hspot
      refine .inr ⟨b, o, rfl, ?_, fun j u hu => ?_⟩
      · rcases Nat.lt_or_ge b W.heap.size with hlt | hge
        · exact hlt
        · rw [add_none] at hc0
          simp [World.cell?, Array.getElem?_eq_none hge] at hc0
      · rw [List.getElem?_map, List.getElem?_take] at hu
        split at hu
        · rename_i hj
          have hjl : j < bs.length := by omega
          have hc := hcell j (by simpa using hjl)
          rw [add_none] at hc
          rw [hc]
          rw [List.getElem?_eq_getElem hjl] at hu
          simp [hjl, List.getD] at hu ⊢
          exact hu
        · simp at hu
abbrev Part := Option Addr × Nat × List UInt8
def partV (q : Part) : Value := .slice q.1 q.2.2.length q.2.1
/-- what a walk is told of a row of rows of bytes that came in -/
def PartsAt (w : World) (y : Option Addr × Nat × List Part) : Prop :=
  y.2.2.length ≤ y.2.1 ∧ y.2.1 ≤ maxLen ∧ (∀ q ∈ y.2.2, Sl w q.1 q.2.1 q.2.2) ∧ RowAt w w.heap.size y.1 (y.2.2.map partV)
theorem build_parts {α : Type} {P : Nat → α → Prop} (n : Nat) (h : ∀ i, i < n → ∃ q, P i q) : ∃ l : List α, l.length = n ∧ ∀ i q, l[i]? = some q → P i q := by
  induction n with
  | zero => exact ⟨[], rfl, fun i q hq => by simp at hq⟩
  | succ n ih =>
    obtain ⟨l, hl, hP⟩ := ih (fun i hi => h i (by omega))
    obtain ⟨q, hq⟩ := h n (by omega)
    refine ⟨l ++ [q], by simp [hl], fun i r hr => ?_⟩
    by_cases hi : i < n
    · rw [List.getElem?_append_left (by omega)] at hr; exact hP i r hr
    · have hlt := (List.getElem?_eq_some_iff.1 hr).1
      simp at hlt
      have : i = n := by omega
      subst this
      rw [List.getElem?_append_right (by omega), hl, Nat.sub_self] at hr
      simp at hr; rw [← hr]; exact hq
theorem open_____uint8 {H : Type} {enc : TypeId × Value → H} {W : World} {base : Nat} {v : Value} {d : DataW H} {p : List MemPlace}
    (hv : Value.okWide Try.prog W .any base 94 v) (h : DataW.Trod enc Try.prog W 0 (fun _ => true) true 94 v d p) :
    ∃ y : Option Addr × Nat × List Part, v = .slice y.1 y.2.2.length y.2.1 ∧ PartsAt W y := by
  obtain ⟨a0, len0, cap0, rfl⟩ := okWide_slice Try.underlying94 hv
  obtain ⟨fuel, hf⟩ := h
  have hc1 : Try.prog.cellsOf 23 = 1 := by kernel_rfl
  rcases DataW.trod_slice Try.underlying94 hf with ⟨hcs, _⟩ | ⟨a, len, cap, elems, rest, n, _, hcs, _, _, hl, hm, hlen, hel, _, _⟩
  · simp [Value.cells] at hcs
    obtain ⟨rfl, rfl, rfl⟩ := hcs
    exact ⟨(none, 0, []), rfl, by simp, by simp [maxLen], by simp, .inl rfl⟩
  · simp [Value.cells] at hcs
    obtain ⟨rfl, rfl, rfl⟩ := hcs
    have each : ∀ i, i < len0 → ∃ q : Part, W.cell? (a.add i) = some (partV q) ∧ Sl W q.1 q.2.1 q.2.2 := by
      intro i hi
      have h1 := hel i hi
      rw [List.getElem?_eq_getElem (by omega), hc1, Nat.mul_one, Option.bind_eq_some_iff] at h1
      obtain ⟨cs', hcs, hy'⟩ := h1
      obtain ⟨A, c, bs, rfl, hs⟩ := open_bytes_cs hy'
      exact ⟨(A, c, bs), cell_of_cells?_one hcs, hs⟩
    obtain ⟨ps, hpl, hps⟩ := build_parts len0 each
    refine ⟨(some a, cap0, ps), by simp [hpl], by simp [hpl]; exact hl, hm, ?_, ?_⟩
    · intro q hq
      obtain ⟨i, hi⟩ := List.getElem?_of_mem hq
      exact (hps i q hi).2
    · by_cases h0 : len0 = 0
      · exact .inl (by simp [List.eq_nil_of_length_eq_zero (l := ps) (by omega)])
      · obtain ⟨q0, hc0, _⟩ := each 0 (by omega)
        obtain ⟨b, o, spot⟩ := a
        have hspot : spot = none := by simpa [Addr.add] using World.cell?_spot hc0
        subst hspot
        refine .inr ⟨b, o, rfl, ?_, fun j u hu => ?_⟩
        · rcases Nat.lt_or_ge b W.heap.size with hlt | hge
          · exact hlt
          · rw [add_none] at hc0
            simp [World.cell?, Array.getElem?_eq_none hge] at hc0
        · rw [List.getElem?_map] at hu
          cases hq : ps[j]? with
          | none => simp [hq] at hu
          | some q =>
            simp [hq] at hu
            rw [← hu, ← add_none]
            exact (hps j q hq).1
end Go.Proofs.Ytkgbhlppadpdfaa

/- Two operations of a region that draws its order, free to go in either order, whose ways meet again: what is behind them once. Over any program. -/
namespace Go.Proofs.Ytkgbhlppadpdfaa
open Go.RowKit
set_option maxRecDepth 100000
set_option linter.unusedVariables false
theorem put_comm' (a : Act) {d1 d2 : Nat} (h : d1 ≠ d2) (v1 v2 : Value) : (a.put (some d2) v2).put (some d1) v1 = (a.put (some d1) v1).put (some d2) v2 := by
  simp only [Act.put]
  rw [Array.setIfInBounds_comm _ _ (Ne.symm h)]
/-- what an operation owes -/
def Does (P : Program) (ops : Array Oper) (Q : Exit → Act → World → Prop) (o : Oper) (K : Act → World → Prop) (a : Act) (w : World) : Prop :=
  if Region.wanted o (yielded ops a.tmps) = true then Oper.wp P o a w K Q else K (a.put o.dst undef) w
theorem regB_join {P : Program} {ops : Array Oper} {Q : Exit → Act → World → Prop} (i j d1 d2 : Nat) {o o' : Oper} {B fuel : Nat} {listed : Array Bool} {a : Act} {w : World} (J : Value → Value → World → Prop)
    (hi : ops[i]? = some o) (hj : ops[j]? = some o') (hne : d1 ≠ d2) (hij : i ≠ j)
    (hr : Region.ready .any ops listed = [i, j]) (hr1 : Region.ready .any ops (listed.setIfInBounds i true) = [j]) (hr2 : Region.ready .any ops (listed.setIfInBounds j true) = [i])
    (h1 : ∀ K : Act → World → Prop, Hid (∀ v1 w1, Below B w w1 → (∀ K2 : Act → World → Prop, Hid (∀ v2 w2, Below B w1 w2 → J v1 v2 w2 → K2 ((a.put (some d1) v1).put (some d2) v2) w2) → Does P ops Q o' K2 (a.put (some d1) v1) w1) → K (a.put (some d1) v1) w1) → Does P ops Q o K a w)
    (h2 : ∀ K : Act → World → Prop, Hid (∀ v2 w1, Below B w w1 → (∀ K2 : Act → World → Prop, Hid (∀ v1 w2, Below B w1 w2 → J v1 v2 w2 → K2 ((a.put (some d2) v2).put (some d1) v1) w2) → Does P ops Q o K2 (a.put (some d2) v2) w1) → K (a.put (some d2) v2) w1) → Does P ops Q o' K a w)
    (h : ∀ v1 v2 w', Below B w w' → J v1 v2 w' → RegB P ops Q B fuel ((listed.setIfInBounds i true).setIfInBounds j true) ((a.put (some d1) v1).put (some d2) v2) w') :
    RegB P ops Q B (fuel + 2) listed a w := by
  refine regB_eff2 i j hi hj hr (fun K hK => h1 K fun v1 w1 hE hst => ?_) (fun K hK => h2 K fun v2 w1 hE hst => ?_)
  · exact hK.out _ _ hE (regB_eff j hj hr1 fun K2 hK2 => hst K2 fun v2 w2 hE2 hJ => hK2.out _ _ hE2 (h v1 v2 w2 (hE.trans hE2) hJ))
  · refine hK.out _ _ hE (regB_eff i hi hr2 fun K2 hK2 => hst K2 fun v1 w2 hE2 hJ => hK2.out _ _ hE2 ?_)
    rw [put_comm' a hne, Array.setIfInBounds_comm _ _ (Ne.symm hij)]
    exact h v1 v2 w2 (hE.trans hE2) hJ
section
variable {P : Program} {ops : Array Oper} {Q : Exit → Act → World → Prop}
theorem inv_anyH {S : World → Prop} (J : (Nat → Bool) → Act → World → Prop) (hb : below? ops.toList 0 = true) (steps : AllOps (StepOK P ops Q J) ops.toList 0) (hS : ∀ L a w, J L a w → S w) (done : ∀ L a w, (∀ j, L j = true) → J L a w → Q .normal a w) :
    ∀ (fuel : Nat) (listed : Array Bool) (a : Act) (w : World), listed.size = ops.size → listed.toList.count false ≤ fuel → J (fun j => listed.getD j true) a w → wpAnyH P .any ops Q S fuel listed a w := by
  have fin : ∀ (listed : Array Bool) (a : Act) (w : World), listed.size = ops.size → J (fun j => listed.getD j true) a w → Region.ready .any ops listed = [] → Q .normal a w := by
    intro listed a w hs hJ hr
    refine done _ a w (fun j => ?_) hJ
    induction j using Nat.strongRecOn with
    | ind j ih =>
      by_cases hj : j < ops.size
      · cases hl : listed.getD j true with
        | true => rfl
        | false =>
          exfalso
          have hm : j ∈ Region.ready .any ops listed := by
            refine mem_ready.2 ⟨hl, ops[j], by simp [hj], fun e he hbi => ?_⟩
            have hlt := below?_get (k := 0) (i := j) (o := ops[j]) hb (by simp [hj]) e he hbi
            rw [Nat.zero_add] at hlt
            have h1 := ih e.on hlt
            have h2 : e.on < listed.size := by omega
            simpa [h2] using h1
          rw [hr] at hm; cases hm
      · have : listed.size ≤ j := by omega
        simp [Array.getElem?_eq_none this]
  intro fuel
  induction fuel with
  | zero =>
    intro listed a w hs hc hJ
    have hr : Region.ready .any ops listed = [] := by
      rw [List.eq_nil_iff_forall_not_mem]
      intro i hi
      have h0 := (mem_ready.1 hi).1
      have hlt : i < listed.size := by
        rcases Nat.lt_or_ge i listed.size with h | h
        · exact h
        · simp [Array.getElem?_eq_none h] at h0
      have hf : listed[i] = false := by simpa [hlt] using h0
      have hmem : false ∈ listed.toList := by rw [← hf]; simp
      have := List.count_pos_iff.2 hmem
      omega
    exact ⟨hr, fin listed a w hs hJ hr⟩
  | succ fuel ih =>
    intro listed a w hs hc hJ
    refine ⟨fin listed a w hs hJ, fun i hi => ?_⟩
    obtain ⟨h0, o, ho, hall⟩ := mem_ready.1 hi
    have hlt : i < listed.size := by
      rcases Nat.lt_or_ge i listed.size with h | h
      · exact h
      · simp [Array.getElem?_eq_none h] at h0
    have hst := steps.get (i := i) (o := o) (by simpa using ho)
    rw [Nat.zero_add] at hst
    refine wpOp_step ho fun K hK => hst _ a w hJ h0 (fun e he hbi => ?_) K fun a' w' hJ' => hK a' w' ⟨hS _ _ _ hJ', ?_⟩
    · have := hall e he hbi
      rcases Nat.lt_or_ge e.on listed.size with h' | h'
      · simpa [h'] using this
      · simp [Array.getElem?_eq_none h']
    · refine ih _ a' w' (by simpa using hs) ?_ ?_
      · have hf : listed[i] = false := by simpa [hlt] using h0
        rw [Array.toList_setIfInBounds, List.count_set (by simpa using hlt)]
        have e1 : (listed.toList[i]'(by simpa using hlt)) = false := by simpa using hf
        rw [e1, if_pos (by rfl), if_neg (by decide)]
        omega
      · have e : (fun j => (listed.setIfInBounds i true).getD j true) = (fun j => if j = i then true else listed.getD j true) := funext fun j => getD_set_true listed i j
        rw [e]; exact hJ'
theorem regB_inv {B fuel : Nat} {listed : Array Bool} {a : Act} {w : World} (J : (Nat → Bool) → Act → World → Prop) (hs : listed.size = ops.size) (hc : listed.toList.count false ≤ fuel) (hb : below? ops.toList 0 = true)
    (hS : ∀ L a' w', J L a' w' → Below B w w') (h0 : J (fun j => listed.getD j true) a w) (steps : AllOps (StepOK P ops Q J) ops.toList 0) (done : ∀ L a w, (∀ j, L j = true) → J L a w → Q .normal a w) : RegB P ops Q B fuel listed a w :=
  inv_anyH J hb steps hS done fuel listed a w hs hc h0
end
end Go.Proofs.Ytkgbhlppadpdfaa

/- The contracts of sha.finish, sha.Sum. -/
namespace Go.Proofs.Ytkgbhlppadpdfaa
open Go.RowKit
set_option maxRecDepth 100000
set_option linter.unusedVariables false
set_option linter.unusedSimpArgs false
/-- the sum of a message of n bytes, of which h has all whole blocks and r the others -/
def finishL (h : List W32) (r : List UInt8) (n : Nat) : List UInt8 := outL (wholeN h (r ++ padL n) ((r.length + (padK n + 8)) / 64))
theorem ne_own (a k : Nat) {n c : Nat} : some a ≠ (Value.slice (some ⟨a + k + 1, 0, none⟩) n c).ownBlock := by
  simp [Value.ownBlock]; omega
theorem ge_own (a k : Nat) {n c : Nat} : ∀ g, (Value.slice (some ⟨a + k, 0, none⟩) n c).ownBlock = some g → a ≤ g := by
  intro g hg; simp [Value.ownBlock] at hg; omega
theorem sl_mk {w : World} {A : Option Addr} {n c : Nat} {bs : List UInt8} (hl : bs.length = n) (h1 : n ≤ c) (h2 : c ≤ maxLen) (hr : RowAt w w.heap.size A (bs.map bv)) : Sl w A c bs := ⟨by omega, h2, hr⟩
theorem own_below {w w' : World} {base : Nat} {e : TypeId} {s : Nat} {v : Value} {n : Nat} {xs : List Value} (h : w.ownsRow base e s v n xs) (hb : Below w.heap.size w w') : w'.ownsRow base e s v n xs := by
  obtain ⟨h0, h | ⟨g, cap, cur, hv, hg, hh, r⟩⟩ := h
  · exact ⟨h0, .inl h⟩
  · exact ⟨h0, .inr ⟨g, cap, cur, hv, hg, (hb.block _ (lt_of_heap hh)).trans hh, r⟩⟩
end Go.Proofs.Ytkgbhlppadpdfaa

/- Own rows of bytes, opened, and turned at one place. -/
namespace Go.Proofs.Ytkgbhlppadpdfaa
open Go.RowKit
set_option maxRecDepth 100000
set_option linter.unusedVariables false
set_option linter.unusedSimpArgs false
theorem o_sl_set {w : World} {g c k : Nat} {bs : List UInt8} {cur : Array Value} {t : TypeId} {fr : Nat × Nat} {x : UInt8} (h : Sl w (some ⟨g, 0, none⟩) c bs) (hc : w.heap[g]? = some (.cells cur t fr)) (hk : k < bs.length) :
    Sl (w.setCell ⟨g, k, none⟩ (.int .u8 (x.toNat : Int))) (some ⟨g, 0, none⟩) c (bs.set k x) := by
  obtain ⟨h1, h2, h3⟩ := h
  obtain ⟨b, o, he, hb, hcell⟩ := h3.at_ (by simpa using (by omega : 0 < bs.length))
  injection he with he
  injection he with he1 he2
  subst he1; subst he2
  refine ⟨by simpa using h1, h2, .inr ⟨g, 0, rfl, by simpa using hb, fun j u hu => ?_⟩⟩
  rw [List.getElem?_map, List.getElem?_set] at hu
  by_cases hj : k = j
  · subst hj
    simp [hk] at hu
    have hck := hcell k (bv bs[k]) (by simp [hk])
    rw [Nat.zero_add] at hck ⊢
    have hsz : k < cur.size := by
      simp only [World.cell?, hc] at hck
      rcases Nat.lt_or_ge k cur.size with h | h
      · exact h
      · simp [Array.getElem?_eq_none h] at hck
    simp [World.cell?, World.setCell, Array.getElem?_modify, hc, hsz, ← hu, bv]
  · rw [if_neg hj, ← List.getElem?_map] at hu
    rw [World.cell?_setCell_other _ _ _ _ (fun e => hj (by injection e with e1 e2; omega))]
    exact hcell j u hu
theorem o_open {w : World} {base : Nat} {v : Value} {n : Nat} {bs : List UInt8} (h : w.ownsRow base 5 1 v n (bs.map bv)) (hn : 0 < n) :
    ∃ g cap cur, v = .slice (some ⟨g, 0, none⟩) n cap ∧ base ≤ g ∧ w.heap[g]? = some (.cells cur 5 (0, 0)) ∧ Sl w (some ⟨g, 0, none⟩) cap bs ∧ bs.length = n := by
  obtain ⟨h0, ⟨rfl, h00⟩ | ⟨g, cap, cur, rfl, hg, hcur, hnc, hcm, hcs, htk⟩⟩ := h
  · omega
  rw [Nat.mul_one] at htk
  rw [List.length_map, Nat.mul_one] at h0
  refine ⟨g, cap, cur, rfl, hg, hcur, ⟨by omega, hcm, .inr ⟨g, 0, rfl, lt_of_heap hcur, fun j u hu => ?_⟩⟩, h0⟩
  have hj : j < n := by have h1 := (List.getElem?_eq_some_iff.1 hu).1; rw [List.length_map] at h1; omega
  rw [← htk, List.getElem?_take_of_lt hj] at hu
  rw [Nat.zero_add]
  simpa [World.cell?, hcur] using hu
theorem o_sl_cell {w : World} {g c k : Nat} {b : List UInt8} (h : Sl w (some ⟨g, 0, none⟩) c b) (hk : k < b.length) : w.cell? ⟨g, k, none⟩ = some (.int .u8 ((b.getD k 0).toNat : Int)) := by
  obtain ⟨b1, o1, he, _, hc⟩ := h.2.2.at_ (by rw [List.length_map]; omega)
  injection he with he
  injection he with he1 he2
  subst he1; subst he2
  have := hc k (bv b[k]) (by simp [hk])
  rw [Nat.zero_add] at this
  rw [this]; simp [List.getD, hk, bv]
theorem o_load_slice {P : Program} {ty e : TypeId} (hu : P.underlying ty = some (.slice e)) {W : World} {a : Addr} {v : Value} (h : W.cell? a = some v) :
    (Instr.loadAt ty (.pointer (some a))).run P W = .ok v W := by
  simp [Instr.loadAt, Instr.sureAddr, loadVar, isAgg, run_underlying hu, h]
theorem o_open' {w : World} {base : Nat} {v : Value} {n : Nat} {bs : List UInt8} (h : w.ownsRow base 5 1 v n (bs.map bv)) (hn : 0 < n) :
    ∃ g cap cur, v = .slice (some ⟨g, 0, none⟩) n cap ∧ base ≤ g ∧ w.heap[g]? = some (.cells cur 5 (0, 0)) ∧ Sl w (some ⟨g, 0, none⟩) cap bs ∧ n ≤ cap ∧ cur.size = cap ∧ bs.length = n := by
  obtain ⟨h0, ⟨rfl, h00⟩ | ⟨g, cap, cur, rfl, hg, hcur, hnc, hcm, hcs, htk⟩⟩ := h
  · omega
  rw [Nat.mul_one] at htk
  rw [List.length_map, Nat.mul_one] at h0
  refine ⟨g, cap, cur, rfl, hg, hcur, ⟨by omega, hcm, .inr ⟨g, 0, rfl, lt_of_heap hcur, fun j u hu => ?_⟩⟩, hnc, by simpa using hcs, h0⟩
  have hj : j < n := by have h1 := (List.getElem?_eq_some_iff.1 hu).1; rw [List.length_map] at h1; omega
  rw [← htk, List.getElem?_take_of_lt hj] at hu
  rw [Nat.zero_add]
  simpa [World.cell?, hcur] using hu
end Go.Proofs.Ytkgbhlppadpdfaa
