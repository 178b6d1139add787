/- Rows of rows of bytes that come in. -/
import Derived.Test.YtjlljifllnmdoaaLift
namespace Go.Proofs.Ytjlljifllnmdoaa
open Go.RowKit Go.ChangeShapes Go.WideShapes Go.ChangeAt
set_option maxRecDepth 100000
set_option linter.unusedVariables false
theorem open_bytes_cs {H : Type} {enc : TypeId × Value → H} {W : World} {fuel : Nat} {cs : List Value} {x : DataW H × List MemPlace}
    (hf : DataW.trod enc Try.prog W 0 (fun _ => true) true fuel 26 cs = some x) : ∃ A c bs, cs = [.slice A (bs : List UInt8).length c] ∧ Sl W A c bs := by
  rcases open_ints Try.underlying26 Try.underlying5 (by kernel_rfl) hf with ⟨hcs, _⟩ | ⟨x, l, c, zs, hcs, _, hl, hm, hz, hp, hcell, hwz⟩
  · exact ⟨none, 0, [], hcs, by simp, by simp [maxLen], .inl rfl⟩
  · obtain ⟨bs, rfl⟩ := bytes_of hwz
    have hlen : bs.length = c := by simpa using hz
    refine ⟨_, c, bs.take l, by rw [hcs, List.length_take, Nat.min_eq_left (by omega)], by rw [List.length_take]; omega, hm, ?_⟩
    by_cases h0 : l = 0
    · subst h0; exact .inl (by simp)
    · have hc0 := hcell 0 (by simp; omega)
      obtain ⟨b, o, spot⟩ := x
      have hspot : spot = none := by simpa [Addr.add] using World.cell?_spot hc0
      subst hspot
      refine .inr ⟨b, o, rfl, ?_, fun j u hu => ?_⟩
      · rcases Nat.lt_or_ge b W.heap.size with hlt | hge
        · exact hlt
        · rw [add_none] at hc0
          simp [World.cell?, Array.getElem?_eq_none hge] at hc0
      · rw [List.getElem?_map, List.getElem?_take] at hu
        split at hu
        · rename_i hj
          have hjl : j < bs.length := by omega
          have hc := hcell j (by simpa using hjl)
          rw [add_none] at hc
          rw [hc]
          rw [List.getElem?_eq_getElem hjl] at hu
          simp [hjl, List.getD] at hu ⊢
          exact hu
        · simp at hu
abbrev Part := Option Addr × Nat × List UInt8
def partV (q : Part) : Value := .slice q.1 q.2.2.length q.2.1
/-- what a walk is told of a row of rows of bytes that came in -/
def PartsAt (w : World) (y : Option Addr × Nat × List Part) : Prop :=
  y.2.2.length ≤ y.2.1 ∧ y.2.1 ≤ maxLen ∧ (∀ q ∈ y.2.2, Sl w q.1 q.2.1 q.2.2) ∧ RowAt w w.heap.size y.1 (y.2.2.map partV)
theorem build_parts {α : Type} {P : Nat → α → Prop} (n : Nat) (h : ∀ i, i < n → ∃ q, P i q) : ∃ l : List α, l.length = n ∧ ∀ i q, l[i]? = some q → P i q := by
  induction n with
  | zero => exact ⟨[], rfl, fun i q hq => by simp at hq⟩
  | succ n ih =>
    obtain ⟨l, hl, hP⟩ := ih (fun i hi => h i (by omega))
    obtain ⟨q, hq⟩ := h n (by omega)
    refine ⟨l ++ [q], by simp [hl], fun i r hr => ?_⟩
    by_cases hi : i < n
    · rw [List.getElem?_append_left (by omega)] at hr; exact hP i r hr
    · have hlt := (List.getElem?_eq_some_iff.1 hr).1
      simp at hlt
      have : i = n := by omega
      subst this
      rw [List.getElem?_append_right (by omega), hl, Nat.sub_self] at hr
      simp at hr; rw [← hr]; exact hq
theorem open_____uint8 {H : Type} {enc : TypeId × Value → H} {W : World} {base : Nat} {v : Value} {d : DataW H} {p : List MemPlace}
    (hv : Value.okWide Try.prog W .any base 110 v) (h : DataW.Trod enc Try.prog W 0 (fun _ => true) true 110 v d p) :
    ∃ y : Option Addr × Nat × List Part, v = .slice y.1 y.2.2.length y.2.1 ∧ PartsAt W y := by
  obtain ⟨a0, len0, cap0, rfl⟩ := okWide_slice Try.underlying110 hv
  obtain ⟨fuel, hf⟩ := h
  have hc1 : Try.prog.cellsOf 26 = 1 := by kernel_rfl
  rcases DataW.trod_slice Try.underlying110 hf with ⟨hcs, _⟩ | ⟨a, len, cap, elems, rest, n, _, hcs, _, _, hl, hm, hlen, hel, _, _⟩
  · simp [Value.cells] at hcs
    obtain ⟨rfl, rfl, rfl⟩ := hcs
    exact ⟨(none, 0, []), rfl, by simp, by simp [maxLen], by simp, .inl rfl⟩
  · simp [Value.cells] at hcs
    obtain ⟨rfl, rfl, rfl⟩ := hcs
    have each : ∀ i, i < len0 → ∃ q : Part, W.cell? (a.add i) = some (partV q) ∧ Sl W q.1 q.2.1 q.2.2 := by
      intro i hi
      have h1 := hel i hi
      rw [List.getElem?_eq_getElem (by omega), hc1, Nat.mul_one, Option.bind_eq_some_iff] at h1
      obtain ⟨cs', hcs, hy'⟩ := h1
      obtain ⟨A, c, bs, rfl, hs⟩ := open_bytes_cs hy'
      exact ⟨(A, c, bs), cell_of_cells?_one hcs, hs⟩
    obtain ⟨ps, hpl, hps⟩ := build_parts len0 each
    refine ⟨(some a, cap0, ps), by simp [hpl], by simp [hpl]; exact hl, hm, ?_, ?_⟩
    · intro q hq
      obtain ⟨i, hi⟩ := List.getElem?_of_mem hq
      exact (hps i q hi).2
    · by_cases h0 : len0 = 0
      · exact .inl (by simp [List.eq_nil_of_length_eq_zero (l := ps) (by omega)])
      · obtain ⟨q0, hc0, _⟩ := each 0 (by omega)
        obtain ⟨b, o, spot⟩ := a
        have hspot : spot = none := by simpa [Addr.add] using World.cell?_spot hc0
        subst hspot
        refine .inr ⟨b, o, rfl, ?_, fun j u hu => ?_⟩
        · rcases Nat.lt_or_ge b W.heap.size with hlt | hge
          · exact hlt
          · rw [add_none] at hc0
            simp [World.cell?, Array.getElem?_eq_none hge] at hc0
        · rw [List.getElem?_map] at hu
          cases hq : ps[j]? with
          | none => simp [hq] at hu
          | some q =>
            simp [hq] at hu
            rw [← hu, ← add_none]
            exact (hps j q hq).1
end Go.Proofs.Ytjlljifllnmdoaa
