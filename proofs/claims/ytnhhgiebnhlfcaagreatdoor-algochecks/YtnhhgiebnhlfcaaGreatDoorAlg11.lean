/- palfreyref12: Class, Room; the law's short. -/
import Derived.Test.YtnhhgiebnhlfcaaGreatDoorAlg7
namespace Go.Proofs.YtnhhgiebnhlfcaaGreatDoor
open Go.RowKit Go.Shelf
set_option linter.unusedVariables false
set_option linter.unusedSimpArgs false
set_option maxRecDepth 100000
def clsR (x : Int) : Int := if x < 1 ∨ 6 < x then 0 else clsK x.toNat
theorem refClass_any (x : Int) (w : World) (hw : -9223372036854775808 ≤ x ∧ x ≤ 9223372036854775807) : Calls Tryz.prog 19 #[.int .i64 x] w fun e w' => e = .returned (.int .i64 (clsR x)) ∧ Below w.heap.size w w' := by
  by_cases hl : x < 1
  · have e0 : clsR x = 0 := if_pos (.inl hl)
    rw [e0]
    go_enter Tryz.func19, Tryz.ntmps19
    go_wp2
    go_ret
    exact ⟨rfl, Below.refl _ _⟩
  by_cases hh : 6 < x
  · have e0 : clsR x = 0 := if_pos (.inr hh)
    rw [e0]
    go_enter Tryz.func19, Tryz.ntmps19
    go_wp2
    go_ret
    exact ⟨rfl, Below.refl _ _⟩
  have hx : x = 1 ∨ x = 2 ∨ x = 3 ∨ x = 4 ∨ x = 5 ∨ x = 6 := by omega
  clear hl hh hw
  rcases hx with rfl | rfl | rfl | rfl | rfl | rfl
  all_goals
    go_enter Tryz.func19, Tryz.ntmps19
    go_wp2
    go_ret
    exact ⟨rfl, Below.refl _ _⟩
theorem refRoom_1 (n : Int) (w : World) (hn : n ≤ 4611686018427387904) (hn2 : -9223372036854775808 ≤ n) : Calls Tryz.prog 15 #[.int .i64 1, .bool false, .int .i64 n] w fun e w' => e = .returned (.tuple #[.int .i64 (roomR 1 false n).1, .int .i64 (roomR 1 false n).2]) ∧ Below w.heap.size w w' := by
  have hA : hasA 1 false = true := by decide
  by_cases h0 : n < 0
  · have e0 : roomR 1 false n = (0, 1) := by rw [roomR, hA, if_neg (by decide), if_pos h0]
    rw [e0]
    clear e0
    go_enter Tryz.func15, Tryz.ntmps15
    go_wp2
    go_ret2
    exact ⟨rfl, Below.refl _ _⟩
  obtain ⟨m, rfl⟩ : ∃ m : Nat, n = (m : Int) := ⟨n.toNat, by omega⟩
  have hm : m ≤ 4611686018427387904 := by omega
  have e0 : roomR 1 false (m : Int) = (((32 : Nat) : Int), 0) := by rw [roomR, hA, if_neg (by decide), if_neg h0]; rfl
  rw [e0]
  clear e0 hn hn2 h0
  go_enter Tryz.func15, Tryz.ntmps15
  go_wp2
  go_ret2
  exact ⟨rfl, Below.refl _ _⟩
theorem refRoom_2 (n : Int) (w : World) (hn : n ≤ 4611686018427387904) (hn2 : -9223372036854775808 ≤ n) : Calls Tryz.prog 15 #[.int .i64 2, .bool false, .int .i64 n] w fun e w' => e = .returned (.tuple #[.int .i64 (roomR 2 false n).1, .int .i64 (roomR 2 false n).2]) ∧ Below w.heap.size w w' := by
  have hA : hasA 2 false = true := by decide
  by_cases h0 : n < 0
  · have e0 : roomR 2 false n = (0, 1) := by rw [roomR, hA, if_neg (by decide), if_pos h0]
    rw [e0]
    clear e0
    go_enter Tryz.func15, Tryz.ntmps15
    go_wp2
    go_ret2
    exact ⟨rfl, Below.refl _ _⟩
  obtain ⟨m, rfl⟩ : ∃ m : Nat, n = (m : Int) := ⟨n.toNat, by omega⟩
  have hm : m ≤ 4611686018427387904 := by omega
  have e0 : roomR 2 false (m : Int) = (((32 : Nat) : Int), 0) := by rw [roomR, hA, if_neg (by decide), if_neg h0]; rfl
  rw [e0]
  clear e0 hn hn2 h0
  go_enter Tryz.func15, Tryz.ntmps15
  go_wp2
  go_ret2
  exact ⟨rfl, Below.refl _ _⟩
theorem refRoom_3 (n : Int) (w : World) (hn : n ≤ 4611686018427387904) (hn2 : -9223372036854775808 ≤ n) : Calls Tryz.prog 15 #[.int .i64 3, .bool false, .int .i64 n] w fun e w' => e = .returned (.tuple #[.int .i64 (roomR 3 false n).1, .int .i64 (roomR 3 false n).2]) ∧ Below w.heap.size w w' := by
  have hA : hasA 3 false = true := by decide
  by_cases h0 : n < 0
  · have e0 : roomR 3 false n = (0, 1) := by rw [roomR, hA, if_neg (by decide), if_pos h0]
    rw [e0]
    clear e0
    go_enter Tryz.func15, Tryz.ntmps15
    go_wp2
    go_ret2
    exact ⟨rfl, Below.refl _ _⟩
  obtain ⟨m, rfl⟩ : ∃ m : Nat, n = (m : Int) := ⟨n.toNat, by omega⟩
  have hm : m ≤ 4611686018427387904 := by omega
  have e0 : roomR 3 false (m : Int) = lessR 0 m := by rw [roomR, hA, if_neg (by decide), if_neg h0]; rfl
  rw [e0]
  clear e0 hn hn2 h0
  rw [show lessR 0 m = ((m : Int), 0) by unfold lessR; rw [if_neg (by omega)]; simp]
  go_enter Tryz.func15, Tryz.ntmps15
  go_wp2
  go_ret2
  exact ⟨rfl, Below.refl _ _⟩
theorem refRoom_3o (n : Int) (w : World) (hn : n ≤ 4611686018427387904) (hn2 : -9223372036854775808 ≤ n) : Calls Tryz.prog 15 #[.int .i64 3, .bool true, .int .i64 n] w fun e w' => e = .returned (.tuple #[.int .i64 (roomR 3 true n).1, .int .i64 (roomR 3 true n).2]) ∧ Below w.heap.size w w' := by
  have hA : hasA 3 true = true := by decide
  by_cases h0 : n < 0
  · have e0 : roomR 3 true n = (0, 1) := by rw [roomR, hA, if_neg (by decide), if_pos h0]
    rw [e0]
    clear e0
    go_enter Tryz.func15, Tryz.ntmps15
    go_wp2
    go_ret2
    exact ⟨rfl, Below.refl _ _⟩
  obtain ⟨m, rfl⟩ : ∃ m : Nat, n = (m : Int) := ⟨n.toNat, by omega⟩
  have hm : m ≤ 4611686018427387904 := by omega
  have e0 : roomR 3 true (m : Int) = lessR 0 m := by rw [roomR, hA, if_neg (by decide), if_neg h0]; rfl
  rw [e0]
  clear e0 hn hn2 h0
  rw [show lessR 0 m = ((m : Int), 0) by unfold lessR; rw [if_neg (by omega)]; simp]
  go_enter Tryz.func15, Tryz.ntmps15
  go_wp2
  go_ret2
  exact ⟨rfl, Below.refl _ _⟩
theorem refRoom_4 (n : Int) (w : World) (hn : n ≤ 4611686018427387904) (hn2 : -9223372036854775808 ≤ n) : Calls Tryz.prog 15 #[.int .i64 4, .bool false, .int .i64 n] w fun e w' => e = .returned (.tuple #[.int .i64 (roomR 4 false n).1, .int .i64 (roomR 4 false n).2]) ∧ Below w.heap.size w w' := by
  have hA : hasA 4 false = true := by decide
  by_cases h0 : n < 0
  · have e0 : roomR 4 false n = (0, 1) := by rw [roomR, hA, if_neg (by decide), if_pos h0]
    rw [e0]
    clear e0
    go_enter Tryz.func15, Tryz.ntmps15
    go_wp2
    go_ret2
    exact ⟨rfl, Below.refl _ _⟩
  obtain ⟨m, rfl⟩ : ∃ m : Nat, n = (m : Int) := ⟨n.toNat, by omega⟩
  have hm : m ≤ 4611686018427387904 := by omega
  have e0 : roomR 4 false (m : Int) = (((m - m % 16 + 16 : Nat) : Int), 0) := by rw [roomR, hA, if_neg (by decide), if_neg h0]; rfl
  rw [e0]
  clear e0 hn hn2 h0
  have e1 : (m : Int).tmod 16 = ((m % 16 : Nat) : Int) := by rw [Int.tmod_eq_emod_of_nonneg (by omega)]; omega
  obtain ⟨r, hr⟩ : ∃ r, m % 16 = r := ⟨_, rfl⟩
  have h1 : r ≤ m := by omega
  rw [hr] at e1 ⊢
  have e2 : ((m - r + 16 : Nat) : Int) = (m : Int) - (r : Int) + 16 := by omega
  rw [e2]
  clear e2 hr
  go_enter Tryz.func15, Tryz.ntmps15
  go_wp2
  go_ret2
  exact ⟨rfl, Below.refl _ _⟩
theorem refRoom_4o (n : Int) (w : World) (hn : n ≤ 4611686018427387904) (hn2 : -9223372036854775808 ≤ n) : Calls Tryz.prog 15 #[.int .i64 4, .bool true, .int .i64 n] w fun e w' => e = .returned (.tuple #[.int .i64 (roomR 4 true n).1, .int .i64 (roomR 4 true n).2]) ∧ Below w.heap.size w w' := by
  have hA : hasA 4 true = true := by decide
  by_cases h0 : n < 0
  · have e0 : roomR 4 true n = (0, 1) := by rw [roomR, hA, if_neg (by decide), if_pos h0]
    rw [e0]
    clear e0
    go_enter Tryz.func15, Tryz.ntmps15
    go_wp2
    go_ret2
    exact ⟨rfl, Below.refl _ _⟩
  obtain ⟨m, rfl⟩ : ∃ m : Nat, n = (m : Int) := ⟨n.toNat, by omega⟩
  have hm : m ≤ 4611686018427387904 := by omega
  have e0 : roomR 4 true (m : Int) = wholeR m := by rw [roomR, hA, if_neg (by decide), if_neg h0]; rfl
  rw [e0]
  clear e0 hn hn2 h0
  by_cases h0 : m = 0
  · subst h0
    go_enter Tryz.func15, Tryz.ntmps15
    go_wp2
    go_ret2
    exact ⟨rfl, Below.refl _ _⟩
  · have t0 : ((m : Int) == 0) = false := by simp; omega
    have e1 : (m : Int).tmod 16 = ((m % 16 : Nat) : Int) := by rw [Int.tmod_eq_emod_of_nonneg (by omega)]; omega
    obtain ⟨r, hr⟩ : ∃ r, m % 16 = r := ⟨_, rfl⟩
    by_cases h1 : r = 0
    · have e0 : wholeR m = ((m : Int), 0) := if_neg (by omega)
      rw [hr] at e1
      subst h1
      rw [e0]
      clear e0 h0 hr
      go_enter Tryz.func15, Tryz.ntmps15
      go_wp2
      go_ret2
      exact ⟨rfl, Below.refl _ _⟩
    · have e0 : wholeR m = (0, 17) := if_pos (by omega)
      have t1 : ((r : Int) != 0) = true := by simp; omega
      rw [hr] at e1
      rw [e0]
      clear e0 h0 hr h1
      go_enter Tryz.func15, Tryz.ntmps15
      go_wp2
      go_ret2
      exact ⟨rfl, Below.refl _ _⟩
theorem refRoom_5 (n : Int) (w : World) (hn : n ≤ 4611686018427387904) (hn2 : -9223372036854775808 ≤ n) : Calls Tryz.prog 15 #[.int .i64 5, .bool false, .int .i64 n] w fun e w' => e = .returned (.tuple #[.int .i64 (roomR 5 false n).1, .int .i64 (roomR 5 false n).2]) ∧ Below w.heap.size w w' := by
  have hA : hasA 5 false = true := by decide
  by_cases h0 : n < 0
  · have e0 : roomR 5 false n = (0, 1) := by rw [roomR, hA, if_neg (by decide), if_pos h0]
    rw [e0]
    clear e0
    go_enter Tryz.func15, Tryz.ntmps15
    go_wp2
    go_ret2
    exact ⟨rfl, Below.refl _ _⟩
  obtain ⟨m, rfl⟩ : ∃ m : Nat, n = (m : Int) := ⟨n.toNat, by omega⟩
  have hm : m ≤ 4611686018427387904 := by omega
  have e0 : roomR 5 false (m : Int) = ((m : Int) + ((16 : Nat) : Int), 0) := by rw [roomR, hA, if_neg (by decide), if_neg h0]; rfl
  rw [e0]
  clear e0 hn hn2 h0
  go_enter Tryz.func15, Tryz.ntmps15
  go_wp2
  go_ret2
  exact ⟨rfl, Below.refl _ _⟩
theorem refRoom_6 (n : Int) (w : World) (hn : n ≤ 4611686018427387904) (hn2 : -9223372036854775808 ≤ n) : Calls Tryz.prog 15 #[.int .i64 6, .bool false, .int .i64 n] w fun e w' => e = .returned (.tuple #[.int .i64 (roomR 6 false n).1, .int .i64 (roomR 6 false n).2]) ∧ Below w.heap.size w w' := by
  have hA : hasA 6 false = true := by decide
  by_cases h0 : n < 0
  · have e0 : roomR 6 false n = (0, 1) := by rw [roomR, hA, if_neg (by decide), if_pos h0]
    rw [e0]
    clear e0
    go_enter Tryz.func15, Tryz.ntmps15
    go_wp2
    go_ret2
    exact ⟨rfl, Below.refl _ _⟩
  obtain ⟨m, rfl⟩ : ∃ m : Nat, n = (m : Int) := ⟨n.toNat, by omega⟩
  have hm : m ≤ 4611686018427387904 := by omega
  have e0 : roomR 6 false (m : Int) = ((m : Int) + ((16 : Nat) : Int), 0) := by rw [roomR, hA, if_neg (by decide), if_neg h0]; rfl
  rw [e0]
  clear e0 hn hn2 h0
  go_enter Tryz.func15, Tryz.ntmps15
  go_wp2
  go_ret2
  exact ⟨rfl, Below.refl _ _⟩
theorem refRoom_5o (n : Int) (w : World) (hn : n ≤ 4611686018427387904) (hn2 : -9223372036854775808 ≤ n) : Calls Tryz.prog 15 #[.int .i64 5, .bool true, .int .i64 n] w fun e w' => e = .returned (.tuple #[.int .i64 (roomR 5 true n).1, .int .i64 (roomR 5 true n).2]) ∧ Below w.heap.size w w' := by
  have hA : hasA 5 true = true := by decide
  by_cases h0 : n < 0
  · have e0 : roomR 5 true n = (0, 1) := by rw [roomR, hA, if_neg (by decide), if_pos h0]
    rw [e0]
    clear e0
    go_enter Tryz.func15, Tryz.ntmps15
    go_wp2
    go_ret2
    exact ⟨rfl, Below.refl _ _⟩
  obtain ⟨m, rfl⟩ : ∃ m : Nat, n = (m : Int) := ⟨n.toNat, by omega⟩
  have hm : m ≤ 4611686018427387904 := by omega
  have e0 : roomR 5 true (m : Int) = lessR 16 m := by rw [roomR, hA, if_neg (by decide), if_neg h0]; rfl
  rw [e0]
  clear e0 hn hn2 h0
  by_cases h1 : m < 16
  · rw [show lessR 16 m = (0, 17) from if_pos h1]
    have t1 : (m : Int) < 16 := by omega
    clear h1
    go_enter Tryz.func15, Tryz.ntmps15
    go_wp2
    go_ret2
    exact ⟨rfl, Below.refl _ _⟩
  · rw [show lessR 16 m = ((m : Int) - ((16 : Nat) : Int), 0) from if_neg h1]
    have t1 : ¬ ((m : Int) < 16) := by omega
    clear h1
    go_enter Tryz.func15, Tryz.ntmps15
    go_wp2
    go_ret2
    exact ⟨rfl, Below.refl _ _⟩
theorem refRoom_6o (n : Int) (w : World) (hn : n ≤ 4611686018427387904) (hn2 : -9223372036854775808 ≤ n) : Calls Tryz.prog 15 #[.int .i64 6, .bool true, .int .i64 n] w fun e w' => e = .returned (.tuple #[.int .i64 (roomR 6 true n).1, .int .i64 (roomR 6 true n).2]) ∧ Below w.heap.size w w' := by
  have hA : hasA 6 true = true := by decide
  by_cases h0 : n < 0
  · have e0 : roomR 6 true n = (0, 1) := by rw [roomR, hA, if_neg (by decide), if_pos h0]
    rw [e0]
    clear e0
    go_enter Tryz.func15, Tryz.ntmps15
    go_wp2
    go_ret2
    exact ⟨rfl, Below.refl _ _⟩
  obtain ⟨m, rfl⟩ : ∃ m : Nat, n = (m : Int) := ⟨n.toNat, by omega⟩
  have hm : m ≤ 4611686018427387904 := by omega
  have e0 : roomR 6 true (m : Int) = lessR 16 m := by rw [roomR, hA, if_neg (by decide), if_neg h0]; rfl
  rw [e0]
  clear e0 hn hn2 h0
  by_cases h1 : m < 16
  · rw [show lessR 16 m = (0, 17) from if_pos h1]
    have t1 : (m : Int) < 16 := by omega
    clear h1
    go_enter Tryz.func15, Tryz.ntmps15
    go_wp2
    go_ret2
    exact ⟨rfl, Below.refl _ _⟩
  · rw [show lessR 16 m = ((m : Int) - ((16 : Nat) : Int), 0) from if_neg h1]
    have t1 : ¬ ((m : Int) < 16) := by omega
    clear h1
    go_enter Tryz.func15, Tryz.ntmps15
    go_wp2
    go_ret2
    exact ⟨rfl, Below.refl _ _⟩
theorem refRoom_any (x : Int) (o : Bool) (n : Int) (w : World) (hn : n ≤ 4611686018427387904) (hn2 : -9223372036854775808 ≤ n) : Calls Tryz.prog 15 #[.int .i64 x, .bool o, .int .i64 n] w fun e w' => e = .returned (.tuple #[.int .i64 (roomR x o n).1, .int .i64 (roomR x o n).2]) ∧ Below w.heap.size w w' := by
  by_cases hl : x < 1
  · rw [show roomR x o n = (0, 4) by rw [roomR, hasA_no (.inl hl), if_pos rfl]]
    go_enter Tryz.func15, Tryz.ntmps15
    go_wp2
    go_ret2
    exact ⟨rfl, Below.refl _ _⟩
  by_cases hh : 6 < x
  · rw [show roomR x o n = (0, 4) by rw [roomR, hasA_no (.inr (.inl hh)), if_pos rfl]]
    go_enter Tryz.func15, Tryz.ntmps15
    go_wp2
    go_ret2
    exact ⟨rfl, Below.refl _ _⟩
  have hx : x = 1 ∨ x = 2 ∨ x = 3 ∨ x = 4 ∨ x = 5 ∨ x = 6 := by omega
  clear hl hh
  rcases hx with rfl | rfl | rfl | rfl | rfl | rfl <;> cases o
  · exact refRoom_1 n w hn hn2
  · rw [show roomR 1 true n = (0, 4) by rw [roomR, (by decide : hasA 1 true = false), if_pos rfl]]
    go_enter Tryz.func15, Tryz.ntmps15
    go_wp2
    go_ret2
    exact ⟨rfl, Below.refl _ _⟩
  · exact refRoom_2 n w hn hn2
  · rw [show roomR 2 true n = (0, 4) by rw [roomR, (by decide : hasA 2 true = false), if_pos rfl]]
    go_enter Tryz.func15, Tryz.ntmps15
    go_wp2
    go_ret2
    exact ⟨rfl, Below.refl _ _⟩
  · exact refRoom_3 n w hn hn2
  · exact refRoom_3o n w hn hn2
  · exact refRoom_4 n w hn hn2
  · exact refRoom_4o n w hn hn2
  · exact refRoom_5 n w hn hn2
  · exact refRoom_5o n w hn hn2
  · exact refRoom_6 n w hn hn2
  · exact refRoom_6o n w hn hn2
def shortR (kn vn an : Nat) : Bool := decide (kn ≤ 120) && decide (vn ≤ 100) && decide (an ≤ 1100)
set_option maxHeartbeats 2000000 in
theorem short_any (x : Int) (o : Bool) (Ak : Option Addr) (kn kc : Nat) (Ai : Option Addr) (vn ic : Nat) (Aa : Option Addr) (an ac : Nat) (w : World) (h1 : kn ≤ 9223372036854775807) (h2 : vn ≤ 9223372036854775807) (h3 : an ≤ 9223372036854775807) :
    Calls Tryz.prog 9 #[.agg (parV x o Ak kn kc Ai vn ic Aa an ac).toArray] w fun e w' => e = .returned (.bool (shortR kn vn an)) ∧ Below w.heap.size w w' := by
  have PC := Lib.hid (fun (W : World) (g : Nat) (t : TypeId) (fr : Nat × Nat) (h : W.heap[g]? = some (.cells (parV x o Ak kn kc Ai vn ic Aa an ac).toArray t fr)) => par_cells h)
  obtain ⟨y, hy⟩ : ∃ y, y = shortR kn vn an := ⟨_, rfl⟩
  rw [← hy]
  have HY := Lib.hid hy
  clear hy
  generalize parV x o Ak kn kc Ai vn ic Aa an ac = PV at PC ⊢
  go_enter Tryz.func9, Tryz.ntmps9
  go_upto_region 1 with (fail)
  have HB := Lib.hid (heap_alloc_new' w (.cells PV.toArray 24))
  have B0 : Hid (Below w.heap.size w (w.alloc (.cells PV.toArray 24))) := (Below.refl _ _).alloc (Nat.le_refl _) _
  generalize w.alloc _ = W0 at HB B0 ⊢
  have c2 := (PC.out _ _ _ _ HB.out).2.2.1
  have c3 := (PC.out _ _ _ _ HB.out).2.2.2.1
  have c4 := (PC.out _ _ _ _ HB.out).2.2.2.2
  clear PC HB
  by_cases t1 : kn ≤ 120
  · have s1 : (kn : Int) ≤ 120 := by omega
    by_cases t2 : vn ≤ 100
    · have s2 : (vn : Int) ≤ 100 := by omega
      by_cases t3 : an ≤ 1100
      · have s3 : (an : Int) ≤ 1100 := by omega
        have HYV : y = true := by rw [HY.out, shortR, decide_eq_true t1, decide_eq_true t2, decide_eq_true t3]; rfl
        subst HYV
        clear t1 t2 t3 HY
        go_wp2
        go_ret
        exact ⟨by simp [s3], B0.out⟩
      · have s3 : ¬ ((an : Int) ≤ 1100) := by omega
        have HYV : y = false := by rw [HY.out, shortR, decide_eq_false t3, Bool.and_false]
        subst HYV
        clear t1 t2 t3 HY
        go_wp2
        go_ret
        exact ⟨by simp [s3], B0.out⟩
    · have s2 : ¬ ((vn : Int) ≤ 100) := by omega
      have HYV : y = false := by rw [HY.out, shortR, decide_eq_false t2, Bool.and_false, Bool.false_and]
      subst HYV
      clear t1 t2 HY
      go_wp2
      go_ret
      exact ⟨by simp [s2], B0.out⟩
  · have s1 : ¬ ((kn : Int) ≤ 120) := by omega
    have HYV : y = false := by rw [HY.out, shortR, decide_eq_false t1, Bool.false_and, Bool.false_and]
    subst HYV
    clear t1 HY
    go_wp2
    go_ret
    exact ⟨by simp [s1], B0.out⟩
end Go.Proofs.YtnhhgiebnhlfcaaGreatDoor
