/- Rows of rows of bytes that come in. -/
import Derived.Test.YtcpmfekekidhfaaLift
namespace Go.Proofs.Ytcpmfekekidhfaa
open Go.RowKit Go.ChangeShapes Go.WideShapes Go.ChangeAt
set_option maxRecDepth 100000
set_option linter.unusedVariables false
theorem open_bytes_cs {H : Type} {enc : TypeId × Value → H} {W : World} {fuel : Nat} {cs : List Value} {x : DataW H × List MemPlace}
    (hf : DataW.trod enc Try.prog W 0 (fun _ => true) true fuel 22 cs = some x) : ∃ A c bs, cs = [.slice A (bs : List UInt8).length c] ∧ Sl W A c bs := by
  rcases open_ints Try.underlying22 Try.underlying5 (by kernel_rfl) hf with ⟨hcs, _⟩ | ⟨x, l, c, zs, hcs, _, hl, hm, hz, hp, hcell, hwz⟩
  · exact ⟨none, 0, [], hcs, by simp, by simp [maxLen], .inl rfl⟩
  · obtain ⟨bs, rfl⟩ := bytes_of hwz
    have hlen : bs.length = c := by simpa using hz
    refine ⟨_, c, bs.take l, by rw [hcs, List.length_take, Nat.min_eq_left (by omega)], by rw [List.length_take]; omega, hm, ?_⟩
    by_cases h0 : l = 0
    · subst h0; exact .inl (by simp)
    · have hc0 := hcell 0 (by simp; omega)
      obtain ⟨b, o, spot⟩ := x
      have hspot : spot = none := by simpa [Addr.add] using World.cell?_spot hc0
      subst hspot
      refine .inr ⟨b, o, rfl, ?_, fun j u hu => ?_⟩
      · rcases Nat.lt_or_ge b W.heap.size with hlt | hge
        · exact hlt
        · rw [add_none] at hc0
          simp [World.cell?, Array.getElem?_eq_none hge] at hc0
      · rw [List.getElem?_map, List.getElem?_take] at hu
        split at hu
        · rename_i hj
          have hjl : j < bs.length := by omega
          have hc := hcell j (by simpa using hjl)
          rw [add_none] at hc
          rw [hc]
          rw [List.getElem?_eq_getElem hjl] at hu
          simp [hjl, List.getD] at hu ⊢
          exact hu
        · simp at hu
abbrev Part := Option Addr × Nat × List UInt8
def partV (q : Part) : Value := .slice q.1 q.2.2.length q.2.1
/-- what a walk is told of a row of rows of bytes that came in -/
def PartsAt (w : World) (y : Option Addr × Nat × List Part) : Prop :=
  y.2.2.length ≤ y.2.1 ∧ y.2.1 ≤ maxLen ∧ (∀ q ∈ y.2.2, Sl w q.1 q.2.1 q.2.2) ∧ RowAt w w.heap.size y.1 (y.2.2.map partV)
theorem build_parts {α : Type} {P : Nat → α → Prop} (n : Nat) (h : ∀ i, i < n → ∃ q, P i q) : ∃ l : List α, l.length = n ∧ ∀ i q, l[i]? = some q → P i q := by
  induction n with
  | zero => exact ⟨[], rfl, fun i q hq => by simp at hq⟩
  | succ n ih =>
    obtain ⟨l, hl, hP⟩ := ih (fun i hi => h i (by omega))
    obtain ⟨q, hq⟩ := h n (by omega)
    refine ⟨l ++ [q], by simp [hl], fun i r hr => ?_⟩
    by_cases hi : i < n
    · rw [List.getElem?_append_left (by omega)] at hr; exact hP i r hr
    · have hlt := (List.getElem?_eq_some_iff.1 hr).1
      simp at hlt
      have : i = n := by omega
      subst this
      rw [List.getElem?_append_right (by omega), hl, Nat.sub_self] at hr
      simp at hr; rw [← hr]; exact hq
end Go.Proofs.Ytcpmfekekidhfaa
