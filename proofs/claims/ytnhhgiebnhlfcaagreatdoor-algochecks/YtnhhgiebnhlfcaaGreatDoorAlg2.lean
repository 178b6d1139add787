/- algo: slices.Contains over a row of numbers, either, byAES, byKey. -/
import Derived.Test.YtnhhgiebnhlfcaaGreatDoorAlg1
namespace Go.Proofs.YtnhhgiebnhlfcaaGreatDoor
open Go.RowKit Go.Shelf
set_option linter.unusedVariables false
set_option linter.unusedSimpArgs false
set_option maxRecDepth 100000
def iN (n : Nat) : Value := .int .i64 (n : Int)
theorem iN_cell {w : World} {g : Nat} {ns : List Nat} {t : TypeId} {fr : Nat × Nat} (h : w.heap[g]? = some (.cells (ns.map iN).toArray t fr)) {i : Nat} (hi : i < ns.length) : w.cell? ⟨g, i, none⟩ = some (.int .i64 ((ns[i] : Nat) : Int)) := by
  rw [cell_of_heap h, List.getElem?_map]
  simp [hi, iN]
set_option maxHeartbeats 1000000 in
theorem index_any (g : Nat) (ns : List Nat) (N x : Nat) (w : World) (t : TypeId) (fr : Nat × Nat) (hN : ns.length = N) (hg : w.heap[g]? = some (.cells (ns.map iN).toArray t fr)) (hl : N ≤ 1000) :
    Calls Tryz.prog 114 #[.slice (some ⟨g, 0, none⟩) N N, .int .i64 (x : Int)] w fun e w' => ∃ r : Int, e = .returned (.int .i64 r) ∧ decide (0 ≤ r) = decide (x ∈ ns) ∧ w' = w := by
  have HG := Lib.hid hg; have HN := Lib.hid hN
  clear hg hN
  go_enter Tryz.func114, Tryz.ntmps114
  go_wp2
  go_loopw [8] (fun vi wr => ∃ i : Nat, i ≤ N ∧ vi = .int .i64 (i : Int) ∧ Hid (∀ j, j < i → ns[j]? ≠ some x) ∧ Hid (wr = w)) (fun v _ => N - (intOf v).toNat)
  case atStart => exact ⟨0, by omega, rfl, fun j hj => by omega, rfl⟩
  case round =>
    obtain ⟨i, hi, rfl, HJ, HW⟩ := hrel
    by_cases hlt : i < N
    · have e1 : (i : Int) < (N : Int) := by omega
      have hin : i < ns.length := by rw [HN.out]; exact hlt
      have c0 : wr.cell? ⟨g, i, none⟩ = some (.int .i64 ((ns[i] : Nat) : Int)) := by rw [HW.out]; exact iN_cell HG.out hin
      have HNI : Hid (ns[i]? = some ns[i]) := List.getElem?_eq_getElem hin
      generalize ns[i] = y at c0 HNI
      by_cases hxy : x = y
      · have e2 : ((x : Int) == (y : Int)) = true := by simp [hxy]
        go_wp2
        go_ret
        refine ⟨_, rfl, ?_, HW.out⟩
        have hm : x ∈ ns := List.mem_of_getElem? (by rw [hxy]; exact HNI.out)
        rw [decide_eq_true hm]
        exact decide_eq_true (by omega)
      · have e2 : ((x : Int) == (y : Int)) = false := by simp; omega
        go_wp2
        go_roundw
        case rel =>
          refine ⟨i + 1, by omega, by go_num, fun j hj => ?_, HW⟩
          by_cases hji : j < i
          · exact HJ.out j hji
          · obtain rfl : j = i := by omega
            rw [HNI.out]
            intro h
            injection h with h
            exact hxy h.symm
        case measure => simp [intOf]; omega
    · have e1 : ¬ ((i : Int) < (N : Int)) := by omega
      go_wp2
      go_ret
      refine ⟨_, rfl, ?_, HW.out⟩
      have hm : ¬ x ∈ ns := fun h => by
        obtain ⟨j, hj, he⟩ := List.mem_iff_getElem.1 h
        exact HJ.out j (by rw [HN.out] at hj; omega) (by rw [List.getElem?_eq_getElem hj, he])
      exact ⟨fun h => absurd h (by omega), fun h => absurd h hm⟩
theorem contains_any (g : Nat) (ns : List Nat) (N x : Nat) (w : World) (t : TypeId) (fr : Nat × Nat) (hN : ns.length = N) (hg : w.heap[g]? = some (.cells (ns.map iN).toArray t fr)) (hl : N ≤ 1000) :
    Calls Tryz.prog 83 #[.slice (some ⟨g, 0, none⟩) N N, .int .i64 (x : Int)] w fun e w' => e = .returned (.bool (decide (x ∈ ns))) ∧ w' = w := by
  have HI := Lib.hid (index_any g ns N x w t fr hN hg hl)
  clear hg hN
  go_enter Tryz.func83, Tryz.ntmps83
  go_wp2_with fail
  refine HI.out.mono ?_
  rintro e w1 ⟨r, rfl, hr, rfl⟩
  go_wp2
  go_ret
  exact ⟨by rw [← hr]; rfl, rfl⟩
theorem either1_any (g gb : Nat) (ns : List Nat) (N x : Nat) (w : World) (t : TypeId) (fr : Nat × Nat) (hN : ns.length = N) (hg : w.heap[g]? = some (.cells (ns.map iN).toArray t fr)) (hl : N ≤ 1000) (hb : w.cell? ⟨gb, 0, none⟩ = some (.slice (some ⟨g, 0, none⟩) N N)) :
    Calls Tryz.prog 82 #[.int .i64 (x : Int), .pointer (some ⟨gb, 0, none⟩)] w fun e w' => e = .returned (.bool (decide (x ∈ ns))) ∧ Below w.heap.size w w' := by
  have HI := Lib.hid (contains_any g ns N x w t fr hN hg hl)
  clear hg hN
  go_enter Tryz.func82, Tryz.ntmps82
  go_wp2_with fail
  refine HI.out.mono ?_
  rintro e w1 ⟨rfl, rfl⟩
  go_wp2
  go_ret
  exact ⟨rfl, Below.refl _ _⟩
/-- a row of numbers -/
def IntsV (n0 : Nat) (W : World) (v : Value) (ns : List Nat) : Prop := ∃ g t, n0 ≤ g ∧ v = .slice (some ⟨g, 0, none⟩) ns.length ns.length ∧ W.heap[g]? = some (.cells (ns.map iN).toArray t (0, 0))
theorem either_any (n0 : Nat) (v : Value) (ns : List Nat) (w : World) (h0 : n0 ≤ w.heap.size) (h : IntsV n0 w v ns) (hl : ns.length ≤ 1000) : Calls Tryz.prog 48 #[v] w fun e w' => ∃ v, e = .returned v ∧ FitV n0 w' v (fun n => decide (n ∈ ns)) ∧ Below w.heap.size w w' := by
  obtain ⟨g, t, hg0, rfl, hg⟩ := h
  have HG := Lib.hid hg
  clear hg
  obtain ⟨N, hN⟩ : ∃ N, ns.length = N := ⟨_, rfl⟩
  have HN := Lib.hid hN
  rw [hN] at hl ⊢
  clear hN
  go_enter Tryz.func48, Tryz.ntmps48
  go_wp2
  go_ret
  have c1 := cell_box w (.slice (some ⟨g, 0, none⟩) N N) 109
  have hb : Below w.heap.size w (w.alloc (.cells #[.slice (some ⟨g, 0, none⟩) N N] 109)) := (Below.refl _ w).alloc (Nat.le_refl _) _
  have hg1 := (KeepL.of (n := n0) hb).same _ _ _ _ hg0 HG.out
  exact ⟨_, rfl, ⟨82, _, rfl, enters_of Tryz.func82 (by kernel_rfl) rfl, fun W' hW n _ => either1_any g _ ns N n W' t (0, 0) HN.out (hW.same _ _ _ _ hg0 hg1) hl (hW.cell h0 c1)⟩, hb⟩
/-- closures that hold what is done -/
def ByAes (n0 : Nat) (W : World) (v : Value) (F : Nat) : Prop := ∃ g t, n0 ≤ g ∧ v = .func (.func 85) #[] #[.pointer (some ⟨g, 0, none⟩)] ∧ W.heap[g]? = some (.cells #[.func (.func F) #[] #[]] t (0, 0))
def ByKey (n0 : Nat) (W : World) (v : Value) (F : Nat) : Prop := ∃ g t, n0 ≤ g ∧ v = .func (.func 101) #[] #[.pointer (some ⟨g, 0, none⟩)] ∧ W.heap[g]? = some (.cells #[.func (.func F) #[] #[]] t (0, 0))
theorem ByAes.keep {n0 : Nat} {W W' : World} {v : Value} {F : Nat} (h : ByAes n0 W v F) (hk : KeepL n0 W W') : ByAes n0 W' v F := by
  obtain ⟨g, t, h0, h1, h2⟩ := h
  exact ⟨g, t, h0, h1, hk.same _ _ _ _ h0 h2⟩
theorem ByKey.keep {n0 : Nat} {W W' : World} {v : Value} {F : Nat} (h : ByKey n0 W v F) (hk : KeepL n0 W W') : ByKey n0 W' v F := by
  obtain ⟨g, t, h0, h1, h2⟩ := h
  exact ⟨g, t, h0, h1, hk.same _ _ _ _ h0 h2⟩
theorem IntsV.keep {n0 : Nat} {W W' : World} {v : Value} {ns : List Nat} (h : IntsV n0 W v ns) (hk : KeepL n0 W W') : IntsV n0 W' v ns := by
  obtain ⟨g, t, h0, h1, h2⟩ := h
  exact ⟨g, t, h0, h1, hk.same _ _ _ _ h0 h2⟩
theorem byAES_any (n0 F : Nat) (w : World) (h0 : n0 ≤ w.heap.size) : Calls Tryz.prog 50 #[.func (.func F) #[] #[]] w fun e w' => ∃ v, e = .returned v ∧ ByAes n0 w' v F ∧ Below w.heap.size w w' := by
  go_enter Tryz.func50, Tryz.ntmps50
  go_wp2
  go_ret
  exact ⟨_, rfl, ⟨_, _, h0, rfl, heap_alloc_new' w _⟩, (Below.refl _ w).alloc (Nat.le_refl _) _⟩
theorem byKey_any (n0 F : Nat) (w : World) (h0 : n0 ≤ w.heap.size) : Calls Tryz.prog 63 #[.func (.func F) #[] #[]] w fun e w' => ∃ v, e = .returned v ∧ ByKey n0 w' v F ∧ Below w.heap.size w w' := by
  go_enter Tryz.func63, Tryz.ntmps63
  go_wp2
  go_ret
  exact ⟨_, rfl, ⟨_, _, h0, rfl, heap_alloc_new' w _⟩, (Below.refl _ w).alloc (Nat.le_refl _) _⟩
end Go.Proofs.YtnhhgiebnhlfcaaGreatDoor
