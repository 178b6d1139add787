/- Own rows of bytes, opened, and turned at one place. -/
import Derived.Test.YtnhhgiebnhlfcaaGreatDoorBits3
import Derived.Test.YtnhhgiebnhlfcaaGreatDoorSha8
namespace Go.Proofs.YtnhhgiebnhlfcaaGreatDoor
open Go.RowKit
set_option maxRecDepth 100000
set_option linter.unusedVariables false
set_option linter.unusedSimpArgs false
theorem o_sl_set {w : World} {g c k : Nat} {bs : List UInt8} {cur : Array Value} {t : TypeId} {fr : Nat × Nat} {x : UInt8} (h : Sl w (some ⟨g, 0, none⟩) c bs) (hc : w.heap[g]? = some (.cells cur t fr)) (hk : k < bs.length) :
    Sl (w.setCell ⟨g, k, none⟩ (.int .u8 (x.toNat : Int))) (some ⟨g, 0, none⟩) c (bs.set k x) := by
  obtain ⟨h1, h2, h3⟩ := h
  obtain ⟨b, o, he, hb, hcell⟩ := h3.at_ (by simpa using (by omega : 0 < bs.length))
  injection he with he
  injection he with he1 he2
  subst he1; subst he2
  refine ⟨by simpa using h1, h2, .inr ⟨g, 0, rfl, by simpa using hb, fun j u hu => ?_⟩⟩
  rw [List.getElem?_map, List.getElem?_set] at hu
  by_cases hj : k = j
  · subst hj
    simp [hk] at hu
    have hck := hcell k (bv bs[k]) (by simp [hk])
    rw [Nat.zero_add] at hck ⊢
    have hsz : k < cur.size := by
      simp only [World.cell?, hc] at hck
      rcases Nat.lt_or_ge k cur.size with h | h
      · exact h
      · simp [Array.getElem?_eq_none h] at hck
    simp [World.cell?, World.setCell, Array.getElem?_modify, hc, hsz, ← hu, bv]
  · rw [if_neg hj, ← List.getElem?_map] at hu
    rw [World.cell?_setCell_other _ _ _ _ (fun e => hj (by injection e with e1 e2; omega))]
    exact hcell j u hu
theorem o_open {w : World} {base : Nat} {v : Value} {n : Nat} {bs : List UInt8} (h : w.ownsRow base 5 1 v n (bs.map bv)) (hn : 0 < n) :
    ∃ g cap cur, v = .slice (some ⟨g, 0, none⟩) n cap ∧ base ≤ g ∧ w.heap[g]? = some (.cells cur 5 (0, 0)) ∧ Sl w (some ⟨g, 0, none⟩) cap bs ∧ bs.length = n := by
  obtain ⟨h0, ⟨rfl, h00⟩ | ⟨g, cap, cur, rfl, hg, hcur, hnc, hcm, hcs, htk⟩⟩ := h
  · omega
  rw [Nat.mul_one] at htk
  rw [List.length_map, Nat.mul_one] at h0
  refine ⟨g, cap, cur, rfl, hg, hcur, ⟨by omega, hcm, .inr ⟨g, 0, rfl, lt_of_heap hcur, fun j u hu => ?_⟩⟩, h0⟩
  have hj : j < n := by have h1 := (List.getElem?_eq_some_iff.1 hu).1; rw [List.length_map] at h1; omega
  rw [← htk, List.getElem?_take_of_lt hj] at hu
  rw [Nat.zero_add]
  simpa [World.cell?, hcur] using hu
theorem o_sl_cell {w : World} {g c k : Nat} {b : List UInt8} (h : Sl w (some ⟨g, 0, none⟩) c b) (hk : k < b.length) : w.cell? ⟨g, k, none⟩ = some (.int .u8 ((b.getD k 0).toNat : Int)) := by
  obtain ⟨b1, o1, he, _, hc⟩ := h.2.2.at_ (by rw [List.length_map]; omega)
  injection he with he
  injection he with he1 he2
  subst he1; subst he2
  have := hc k (bv b[k]) (by simp [hk])
  rw [Nat.zero_add] at this
  rw [this]; simp [List.getD, hk, bv]
theorem o_load_slice {P : Program} {ty e : TypeId} (hu : P.underlying ty = some (.slice e)) {W : World} {a : Addr} {v : Value} (h : W.cell? a = some v) :
    (Instr.loadAt ty (.pointer (some a))).run P W = .ok v W := by
  simp [Instr.loadAt, Instr.sureAddr, loadVar, isAgg, run_underlying hu, h]
theorem o_open' {w : World} {base : Nat} {v : Value} {n : Nat} {bs : List UInt8} (h : w.ownsRow base 5 1 v n (bs.map bv)) (hn : 0 < n) :
    ∃ g cap cur, v = .slice (some ⟨g, 0, none⟩) n cap ∧ base ≤ g ∧ w.heap[g]? = some (.cells cur 5 (0, 0)) ∧ Sl w (some ⟨g, 0, none⟩) cap bs ∧ n ≤ cap ∧ cur.size = cap ∧ bs.length = n := by
  obtain ⟨h0, ⟨rfl, h00⟩ | ⟨g, cap, cur, rfl, hg, hcur, hnc, hcm, hcs, htk⟩⟩ := h
  · omega
  rw [Nat.mul_one] at htk
  rw [List.length_map, Nat.mul_one] at h0
  refine ⟨g, cap, cur, rfl, hg, hcur, ⟨by omega, hcm, .inr ⟨g, 0, rfl, lt_of_heap hcur, fun j u hu => ?_⟩⟩, hnc, by simpa using hcs, h0⟩
  have hj : j < n := by have h1 := (List.getElem?_eq_some_iff.1 hu).1; rw [List.length_map] at h1; omega
  rw [← htk, List.getElem?_take_of_lt hj] at hu
  rw [Nat.zero_add]
  simpa [World.cell?, hcur] using hu
end Go.Proofs.YtnhhgiebnhlfcaaGreatDoor
