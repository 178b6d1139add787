/- append onto a slice of one's own: where the new one lies; two slices of one's own side by side. -/
import Derived.Test.YtjmpbcfbfbjenaaBits2
import Derived.Maps.AppendAt
namespace Go.Proofs.Ytjmpbcfbfbjenaa
open Go.RowKit
set_option maxRecDepth 100000
set_option linter.unusedVariables false
theorem append_row_at {P : Program} (w : World) (base : Nat) {t : TypeId} (ty : TypeId) {e : TypeId} {z : Value} {bytes : Nat} (ht : P.underlying t = some (.slice e))
    (hi : (P.info? e).map (fun i => (i.zero, i.size, i.bytes)) = some (some z, 1, bytes)) (hz : z.cells = #[z])
    (v : Value) (n : Nat) (xs : List Value) (hown : w.ownsRow base e 1 v n xs) (B : Nat) (A : Option Addr) (m c : Nat) (news : List Value) (hr : RowAt w B A news) (hm : news.length = m)
    (h1 : ∀ u ∈ news, u.oneCell' = true) (hk : (n + m) * bytes ≤ 140737488355328) (h31 : n + m ≤ maxLen) (hbase : base ≤ w.heap.size) :
    ∃ v' w', (Builtin.append_ #[t, t] ty #[v, .slice A m c]).run P w = .ok v' w' ∧ w'.ownsRow base e 1 v' (n + m) (xs ++ news) ∧ w.grownBy w' v.ownBlock ∧ (v'.ownBlock = v.ownBlock ∨ v'.ownBlock = some w.heap.size) := by
  obtain ⟨i, hi', hz0, hs, hb⟩ := info_parts hi
  by_cases h0 : m = 0
  · subst h0
    have hn : news = [] := List.eq_nil_of_length_eq_zero hm
    subst hn
    refine ⟨v, w, ?_, by simpa using hown, World.grownBy.refl w _, .inl rfl⟩
    rcases hown.2 with ⟨rfl, rfl⟩ | ⟨g, cap, cur, rfl, _, _, hnc, _⟩
    · cases A <;> simp [Builtin.append_, run_underlying ht, sizeOf, typeInfo, hi', Builtin.lenOf, Builtin.firstCells, loadCells, loadCellsFrom]
    · cases A <;> simp [Builtin.append_, run_underlying ht, sizeOf, typeInfo, hi', Builtin.lenOf, Builtin.firstCells, hnc, storeCells, loadCells, loadCellsFrom]
  · obtain ⟨b, o, rfl, _, hc⟩ := hr.at_ (by omega)
    obtain ⟨v', w', hrun, h2, h3, _, h5⟩ := run_append_own_at (P := P) w base t ty e i z 1 bytes ht hi' hz0 hs hb (by rw [hz]; rfl) (by omega) v n xs hown ⟨b, o, none⟩ m c news (by omega) (fun j u hu => by rw [add_none]; exact hc j u hu) h1 h31 hk hbase
    exact ⟨v', w', hrun, h2, h3, h5⟩
theorem wpList_app8_at {w : World} {ops : Array Oper} {rest : List Oper} {o : Oper} {a : Act} {Q : Exit → Act → World → Prop} (hw : Region.wanted o (yielded ops a.tmps) = true) (s x : Operand)
    (ho : o.op = .call { callee := .builtin .append, args := #[s, x], argTypes := #[26, 26] }) (base : Nat) (v : Value) (n : Nat) (bs : List UInt8) (hs : a.eval s = v) (hown : w.ownsRow base 5 1 v n (bs.map bv))
    (A : Option Addr) (m c B : Nat) (news : List UInt8) (hx : a.eval x = .slice A m c) (hr : RowAt w B A (news.map bv)) (hm : news.length = m) (hk : n + m ≤ 2147483647) (hbase : base ≤ w.heap.size)
    (h : ∀ v' w', w'.ownsRow base 5 1 v' (n + m) ((bs ++ news).map bv) → w.grownBy w' v.ownBlock → (v'.ownBlock = v.ownBlock ∨ v'.ownBlock = some w.heap.size) → wpList Try.prog ops Q rest (a.put o.dst v') w') :
    wpList Try.prog ops Q (o :: rest) a w := by
  obtain ⟨v', w', hrun, h2, h3, h4⟩ := append_row_at (P := Try.prog) w base o.type uT made8 rfl v n _ hown B A m c _ hr (by simpa using hm) (bv_one news) (by omega) (by simp [maxLen]; omega) hbase
  exact wpList_app hw s x _ _ ho (by rw [hs, hx]; exact hrun) (h v' w' (by rw [List.map_append]; exact h2) h3 h4)
/-- two slices share no block -/
def Two (v u : Value) : Prop := ∀ x, v.ownBlock = some x → u.ownBlock ≠ some x
theorem Two.symm {v u : Value} (h : Two v u) : Two u v := fun x hx hy => h x hy hx
theorem two_own {w w' : World} {base : Nat} {e : TypeId} {s : Nat} {v u : Value} {n : Nat} {xs : List Value} (h : w.ownsRow base e s u n xs) (hb : w.grownBy w' v.ownBlock) (hd : Two v u) : w'.ownsRow base e s u n xs := by
  obtain ⟨h0, h | ⟨g1, cap, cur, hv, hg1, hh, r⟩⟩ := h
  · exact ⟨h0, .inl h⟩
  · refine ⟨h0, .inr ⟨g1, cap, cur, hv, hg1, (hb.block _ (Array.getElem?_eq_some_iff.1 hh).1 (fun e => hd g1 e.symm ?_)).trans hh, r⟩⟩
    rw [hv]; rfl
theorem own_blk_lt {w : World} {base : Nat} {e : TypeId} {s : Nat} {u : Value} {n : Nat} {xs : List Value} (h : w.ownsRow base e s u n xs) {x : Nat} (hx : u.ownBlock = some x) : x < w.heap.size := by
  obtain ⟨h0, h | ⟨g1, cap, cur, hv, hg1, hh, r⟩⟩ := h
  · rw [h.1] at hx; cases hx
  · rw [hv] at hx
    have : g1 = x := by injection hx
    rw [← this]; exact (Array.getElem?_eq_some_iff.1 hh).1
theorem two_step {w : World} {base : Nat} {e : TypeId} {s : Nat} {v v' u : Value} {n : Nat} {xs : List Value} (h : w.ownsRow base e s u n xs) (hd : Two v u) (hat : v'.ownBlock = v.ownBlock ∨ v'.ownBlock = some w.heap.size) : Two v' u := by
  intro x hx hy
  rcases hat with hat | hat
  · exact hd x (hat.symm.trans hx) hy
  · have h1 := own_blk_lt h hy
    rw [hat] at hx
    injection hx with hx
    omega
theorem two_nil (u : Value) : Two (.slice none 0 0) u := fun x hx => by cases hx
end Go.Proofs.Ytjmpbcfbfbjenaa
