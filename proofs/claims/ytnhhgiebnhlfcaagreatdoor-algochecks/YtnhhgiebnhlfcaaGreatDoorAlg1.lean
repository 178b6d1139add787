/- algo: what its closures do (fits, rooms). -/
import Derived.Test.YtnhhgiebnhlfcaaGreatDoorBits3
import Derived.RangeFuncBound
import Derived.Shelf.Abstract
namespace Go.Proofs.YtnhhgiebnhlfcaaGreatDoor
open Go.RowKit Go.Shelf
set_option linter.unusedVariables false
set_option linter.unusedSimpArgs false
set_option maxRecDepth 100000
/-- all blocks of cells from n on lie as they lay -/
structure KeepL (n : Nat) (W W' : World) : Prop where
  size : W.heap.size ≤ W'.heap.size
  same : ∀ (k : Nat) (cs : Array Value) (t : TypeId) (fr : Nat × Nat), n ≤ k → W.heap[k]? = some (.cells cs t fr) → W'.heap[k]? = some (.cells cs t fr)
theorem KeepL.refl (n : Nat) (W : World) : KeepL n W W := ⟨Nat.le_refl _, fun _ _ _ _ _ h => h⟩
theorem KeepL.trans {n : Nat} {A B C : World} (h : KeepL n A B) (k : KeepL n B C) : KeepL n A C := ⟨Nat.le_trans h.size k.size, fun i cs t fr hn hi => k.same i cs t fr hn (h.same i cs t fr hn hi)⟩
theorem KeepL.of {n : Nat} {W W' : World} (h : Below W.heap.size W W') : KeepL n W W' := ⟨h.size, fun k _ _ _ _ hk => (h.block k (Array.getElem?_eq_some_iff.1 hk).1).trans hk⟩
theorem KeepL.cell {n : Nat} {W W' : World} (h : KeepL n W W') {p : Addr} {v : Value} (hn : n ≤ p.block) (hp : W.cell? p = some v) : W'.cell? p = some v := by
  have h' := hp
  unfold World.cell? at hp
  cases ho : W.heap[p.block]? with
  | none => rw [ho] at hp; cases hp
  | some o =>
    cases o with
    | cells cs t fr => rw [World.cell?_of_block (w := W) (a := p) ((h.same _ _ _ _ hn ho).trans ho.symm)]; exact h'
    | _ => rw [ho] at hp; cases hp
/-- a function value that tells whether something may have n bytes -/
def FitV (n0 : Nat) (W : World) (v : Value) (p : Nat → Bool) : Prop := ∃ F cap, v = .func (.func F) #[] cap ∧ Enters Tryz.prog F ∧ ∀ W', KeepL n0 W W' → ∀ n : Nat, n ≤ 9223372036854775807 →
  Calls Tryz.prog F (#[.int .i64 (n : Int)] ++ cap) W' fun e W'' => e = .returned (.bool (p n)) ∧ Below W'.heap.size W' W''
/-- one that tells how many bytes come out at most, and an error -/
def RoomV (n0 : Nat) (W : World) (v : Value) (r : Nat → Int × Int) : Prop := ∃ F cap, v = .func (.func F) #[] cap ∧ Enters Tryz.prog F ∧ ∀ W', KeepL n0 W W' → ∀ n : Nat, n ≤ 4611686018427387904 →
  Calls Tryz.prog F (#[.int .i64 (n : Int)] ++ cap) W' fun e W'' => e = .returned (.tuple #[.int .i64 (r n).1, .int .i64 (r n).2]) ∧ Below W'.heap.size W' W''
theorem FitV.keep {n0 : Nat} {W W' : World} {v : Value} {p : Nat → Bool} (h : FitV n0 W v p) (hk : KeepL n0 W W') : FitV n0 W' v p := by
  obtain ⟨F, cap, h1, h2, h3⟩ := h
  exact ⟨F, cap, h1, h2, fun V hV => h3 V (hk.trans hV)⟩
theorem RoomV.keep {n0 : Nat} {W W' : World} {v : Value} {r : Nat → Int × Int} (h : RoomV n0 W v r) (hk : KeepL n0 W W') : RoomV n0 W' v r := by
  obtain ⟨F, cap, h1, h2, h3⟩ := h
  exact ⟨F, cap, h1, h2, fun V hV => h3 V (hk.trans hV)⟩
theorem cell_box (w : World) (v : Value) (t : TypeId) : (w.alloc (.cells #[v] t)).cell? ⟨w.heap.size, 0, none⟩ = some v := by
  unfold World.cell?
  rw [World.alloc_heap_new w]
  rfl
theorem among1_any (a b n : Nat) (g1 g2 : Nat) (w : World) (h1 : w.cell? ⟨g1, 0, none⟩ = some (.int .i64 (a : Int))) (h2 : w.cell? ⟨g2, 0, none⟩ = some (.int .i64 (b : Int))) :
    Calls Tryz.prog 90 #[.int .i64 (n : Int), .pointer (some ⟨g1, 0, none⟩), .pointer (some ⟨g2, 0, none⟩)] w fun e w' => e = .returned (.bool (decide (a ≤ n) && decide (n ≤ b))) ∧ Below w.heap.size w w' := by
  by_cases h : a ≤ n
  · have t1 : ((a : Int) ≤ (n : Int)) := by omega
    have e1 : decide (a ≤ n) = true := decide_eq_true h
    rw [e1]
    by_cases hh : n ≤ b
    · have t2 : ((n : Int) ≤ (b : Int)) := by omega
      have e2 : decide (n ≤ b) = true := decide_eq_true hh
      rw [e2]
      clear e1 e2 h hh
      go_enter Tryz.func90, Tryz.ntmps90
      go_wp2
      go_ret
      exact ⟨by simp [t1, t2], Below.refl _ _⟩
    · have t2 : ¬ ((n : Int) ≤ (b : Int)) := by omega
      have e2 : decide (n ≤ b) = false := decide_eq_false hh
      rw [e2]
      clear e1 e2 h hh
      go_enter Tryz.func90, Tryz.ntmps90
      go_wp2
      go_ret
      exact ⟨by simp [t1, t2], Below.refl _ _⟩
  · have t1 : ¬ ((a : Int) ≤ (n : Int)) := by omega
    have e1 : decide (a ≤ n) = false := decide_eq_false h
    rw [e1]
    clear e1 h
    go_enter Tryz.func90, Tryz.ntmps90
    go_wp2
    go_ret
    exact ⟨by simp [t1], Below.refl _ _⟩
theorem among_any (n0 a b : Nat) (w : World) (h0 : n0 ≤ w.heap.size) : Calls Tryz.prog 54 #[.int .i64 (a : Int), .int .i64 (b : Int)] w fun e w' => ∃ v, e = .returned v ∧ FitV n0 w' v (fun n => decide (a ≤ n) && decide (n ≤ b)) ∧ Below w.heap.size w w' := by
  go_enter Tryz.func54, Tryz.ntmps54
  go_wp2
  go_ret
  have c1 := (KeepL.of (((Below.refl _ (w.alloc (.cells #[.int .i64 (a : Int)] 3))).alloc (Nat.le_refl _) (.cells #[.int .i64 (b : Int)] 3)))).cell (n := n0) h0 (cell_box w (.int .i64 (a : Int)) 3)
  have c2 := cell_box (w.alloc (.cells #[.int .i64 (a : Int)] 3)) (.int .i64 (b : Int)) 3
  rw [World.size_alloc] at c2
  exact ⟨_, rfl, ⟨90, _, rfl, enters_of Tryz.func90 (by kernel_rfl) rfl, fun W' hW n _ => among1_any a b n _ _ W' (hW.cell h0 c1) (hW.cell (Nat.le_succ_of_le h0) c2)⟩, ((Below.refl _ w).alloc (Nat.le_refl _) _).alloc (by simp) _⟩
theorem always1_any (a n : Nat) (g1 : Nat) (w : World) (h1 : w.cell? ⟨g1, 0, none⟩ = some (.int .i64 (a : Int))) :
    Calls Tryz.prog 88 #[.int .i64 (n : Int), .pointer (some ⟨g1, 0, none⟩)] w fun e w' => e = .returned (.tuple #[.int .i64 (a : Int), .int .i64 0]) ∧ Below w.heap.size w w' := by
  go_enter Tryz.func88, Tryz.ntmps88
  go_wp2
  go_ret2
  exact ⟨rfl, Below.refl _ _⟩
theorem always_any (n0 a : Nat) (w : World) (h0 : n0 ≤ w.heap.size) : Calls Tryz.prog 52 #[.int .i64 (a : Int)] w fun e w' => ∃ v, e = .returned v ∧ RoomV n0 w' v (fun _ => ((a : Int), 0)) ∧ Below w.heap.size w w' := by
  go_enter Tryz.func52, Tryz.ntmps52
  go_wp2
  go_ret
  have c1 := cell_box w (.int .i64 (a : Int)) 3
  exact ⟨_, rfl, ⟨88, _, rfl, enters_of Tryz.func88 (by kernel_rfl) rfl, fun W' hW n _ => always1_any a n _ W' (hW.cell h0 c1)⟩, (Below.refl _ w).alloc (Nat.le_refl _) _⟩
theorem more1_any (a n : Nat) (g1 : Nat) (w : World) (ha : a ≤ 16) (hn : n ≤ 4611686018427387904) (h1 : w.cell? ⟨g1, 0, none⟩ = some (.int .i64 (a : Int))) :
    Calls Tryz.prog 94 #[.int .i64 (n : Int), .pointer (some ⟨g1, 0, none⟩)] w fun e w' => e = .returned (.tuple #[.int .i64 ((n : Int) + (a : Int)), .int .i64 0]) ∧ Below w.heap.size w w' := by
  go_enter Tryz.func94, Tryz.ntmps94
  go_wp2
  go_ret2
  exact ⟨rfl, Below.refl _ _⟩
theorem more_any (n0 a : Nat) (w : World) (h0 : n0 ≤ w.heap.size) (ha : a ≤ 16) : Calls Tryz.prog 60 #[.int .i64 (a : Int)] w fun e w' => ∃ v, e = .returned v ∧ RoomV n0 w' v (fun n => ((n : Int) + (a : Int), 0)) ∧ Below w.heap.size w w' := by
  go_enter Tryz.func60, Tryz.ntmps60
  go_wp2
  go_ret
  have c1 := cell_box w (.int .i64 (a : Int)) 3
  exact ⟨_, rfl, ⟨94, _, rfl, enters_of Tryz.func94 (by kernel_rfl) rfl, fun W' hW n hn => more1_any a n _ W' ha hn (hW.cell h0 c1)⟩, (Below.refl _ w).alloc (Nat.le_refl _) _⟩
def lessR (a n : Nat) : Int × Int := if n < a then (0, 17) else ((n : Int) - (a : Int), 0)
theorem less1_any (a n : Nat) (g1 : Nat) (w : World) (ha : a ≤ 16) (hn : n ≤ 4611686018427387904) (h1 : w.cell? ⟨g1, 0, none⟩ = some (.int .i64 (a : Int))) :
    Calls Tryz.prog 84 #[.int .i64 (n : Int), .pointer (some ⟨g1, 0, none⟩)] w fun e w' => e = .returned (.tuple #[.int .i64 (lessR a n).1, .int .i64 (lessR a n).2]) ∧ Below w.heap.size w w' := by
  by_cases h : n < a
  · have t : ((n : Int) < (a : Int)) := by omega
    have e0 : lessR a n = (0, 17) := if_pos h
    rw [e0]
    clear h e0
    go_enter Tryz.func84, Tryz.ntmps84
    go_wp2
    go_ret2
    exact ⟨rfl, Below.refl _ _⟩
  · have t : ¬ ((n : Int) < (a : Int)) := by omega
    have e0 : lessR a n = ((n : Int) - (a : Int), 0) := if_neg h
    rw [e0]
    clear h e0
    go_enter Tryz.func84, Tryz.ntmps84
    go_wp2
    go_ret2
    exact ⟨rfl, Below.refl _ _⟩
theorem less_any (n0 a : Nat) (w : World) (h0 : n0 ≤ w.heap.size) (ha : a ≤ 16) : Calls Tryz.prog 49 #[.int .i64 (a : Int)] w fun e w' => ∃ v, e = .returned v ∧ RoomV n0 w' v (lessR a) ∧ Below w.heap.size w w' := by
  go_enter Tryz.func49, Tryz.ntmps49
  go_wp2
  go_ret
  have c1 := cell_box w (.int .i64 (a : Int)) 3
  exact ⟨_, rfl, ⟨84, _, rfl, enters_of Tryz.func84 (by kernel_rfl) rfl, fun W' hW n hn => less1_any a n _ W' ha hn (hW.cell h0 c1)⟩, (Below.refl _ w).alloc (Nat.le_refl _) _⟩
theorem padded_any (n0 : Nat) (W : World) : RoomV n0 W (.func (.func 56) #[] #[]) (fun n => (((n - n % 16 + 16 : Nat) : Int), 0)) := by
  refine ⟨56, #[], rfl, enters_of Tryz.func56 (by kernel_rfl) rfl, fun w _ n hn => ?_⟩
  have e1 : (n : Int).tmod 16 = ((n % 16 : Nat) : Int) := by rw [Int.tmod_eq_emod_of_nonneg (by omega)]; omega
  show Calls _ _ #[_] _ fun e W'' => e = .returned (.tuple #[.int .i64 ((n - n % 16 + 16 : Nat) : Int), .int .i64 0]) ∧ _
  obtain ⟨r, hr⟩ : ∃ r, n % 16 = r := ⟨_, rfl⟩
  have h1 : r ≤ n := by omega
  rw [hr] at e1 ⊢
  have e2 : ((n - r + 16 : Nat) : Int) = (n : Int) - (r : Int) + 16 := by omega
  rw [e2]
  clear e2 hr
  go_enter Tryz.func56, Tryz.ntmps56
  go_wp2
  go_ret2
  exact ⟨rfl, Below.refl _ _⟩
def wholeR (n : Nat) : Int × Int := if n = 0 ∨ n % 16 ≠ 0 then (0, 17) else ((n : Int), 0)
theorem wholeRoom_any (n0 : Nat) (W : World) : RoomV n0 W (.func (.func 58) #[] #[]) wholeR := by
  refine ⟨58, #[], rfl, enters_of Tryz.func58 (by kernel_rfl) rfl, fun w _ n hn => ?_⟩
  show Calls _ _ #[_] _ _
  by_cases h0 : n = 0
  · subst h0
    go_enter Tryz.func58, Tryz.ntmps58
    go_wp2
    go_ret2
    exact ⟨rfl, Below.refl _ _⟩
  · have t0 : ((n : Int) == 0) = false := by simp; omega
    have e1 : (n : Int).tmod 16 = ((n % 16 : Nat) : Int) := by rw [Int.tmod_eq_emod_of_nonneg (by omega)]; omega
    obtain ⟨r, hr⟩ : ∃ r, n % 16 = r := ⟨_, rfl⟩
    by_cases h1 : r = 0
    · have e0 : wholeR n = ((n : Int), 0) := if_neg (by omega)
      rw [hr] at e1
      subst h1
      rw [e0]
      clear e0 h0 hr
      go_enter Tryz.func58, Tryz.ntmps58
      go_wp2
      go_ret2
      exact ⟨rfl, Below.refl _ _⟩
    · have e0 : wholeR n = (0, 17) := if_pos (by omega)
      have t1 : ((r : Int) != 0) = true := by simp; omega
      rw [hr] at e1
      rw [e0]
      clear e0 h0 hr h1
      go_enter Tryz.func58, Tryz.ntmps58
      go_wp2
      go_ret2
      exact ⟨rfl, Below.refl _ _⟩
end Go.Proofs.YtnhhgiebnhlfcaaGreatDoor
