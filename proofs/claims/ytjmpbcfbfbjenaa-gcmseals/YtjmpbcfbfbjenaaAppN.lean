/- append of one element of several cells onto a slice of one's own. -/
import Derived.Test.YtjmpbcfbfbjenaaApp
namespace Go.Proofs.Ytjmpbcfbfbjenaa
open Go.RowKit
set_option maxRecDepth 100000
set_option linter.unusedVariables false
theorem append_elem {P : Program} (w : World) (base : Nat) {t : TypeId} (ty : TypeId) {e : TypeId} {z : Value} {size bytes : Nat} (ht : P.underlying t = some (.slice e))
    (hi : (P.info? e).map (fun i => (i.zero, i.size, i.bytes)) = some (some z, size, bytes)) (hz : z.cells.size = size) (hs0 : 0 < size)
    (v : Value) (n : Nat) (xs : List Value) (hown : w.ownsRow base e size v n xs) (g c : Nat) (news : List Value) (hl : news.length = size) {et : TypeId} {fr : Nat × Nat} (hg : w.heap[g]? = some (.cells news.toArray et fr))
    (h1 : ∀ u ∈ news, u.oneCell' = true) (hk : (n + 1) * bytes ≤ 140737488355328) (h31 : n + 1 ≤ maxLen) (hbase : base ≤ w.heap.size) :
    ∃ v' w', (Builtin.append_ #[t, t] ty #[v, .slice (some ⟨g, 0, none⟩) 1 c]).run P w = .ok v' w' ∧ w'.ownsRow base e size v' (n + 1) (xs ++ news) ∧ w.grownBy w' v.ownBlock ∧ (v'.ownBlock = v.ownBlock ∨ v'.ownBlock = some w.heap.size) := by
  obtain ⟨i, hi', hz0, hs, hb⟩ := info_parts hi
  obtain ⟨v', w', hrun, h2, h3, _, h5⟩ := run_append_own_at (P := P) w base t ty e i z size bytes ht hi' hz0 hs hb hz hs0 v n xs hown ⟨g, 0, none⟩ 1 c news (by omega) (fun j u hu => by rw [add_none, cell_of_heap hg, Nat.zero_add]; exact hu) h1 h31 hk hbase
  exact ⟨v', w', hrun, h2, h3, h5⟩
theorem own_readN {w : World} {base : Nat} {e : TypeId} {s : Nat} {v : Value} {n : Nat} {xs : List Value} (h : w.ownsRow base e s v n xs) : ∃ A c, v = .slice A n c ∧ xs.length = n * s ∧ (0 < n → ∃ g, A = some ⟨g, 0, none⟩ ∧ base ≤ g ∧ g < w.heap.size ∧ ∀ j u, xs[j]? = some u → w.cell? ⟨g, j, none⟩ = some u) := by
  obtain ⟨h0, ⟨rfl, h00⟩ | ⟨g, cap, cur, rfl, hg, hcur, hnc, hcm, hcs, htk⟩⟩ := h
  · exact ⟨none, 0, by rw [h00], by rw [h0], fun hp => by omega⟩
  · refine ⟨_, cap, rfl, h0, fun _ => ⟨g, rfl, hg, (Array.getElem?_eq_some_iff.1 hcur).1, fun j u hu => ?_⟩⟩
    have hj := (List.getElem?_eq_some_iff.1 hu).1
    rw [← htk, List.getElem?_take_of_lt (by omega)] at hu
    simpa [World.cell?, hcur] using hu
end Go.Proofs.Ytjmpbcfbfbjenaa
