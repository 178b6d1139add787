/- Joined: Alg1 Alg2 Reg4 Reg5 Map1 Reg6 Alg3 Alg4 Alg5 Alg6 Alg7 Alg8 Alg12 App CtrM Count Awake1 LiftA Laws3 Aes1 Aes2 Aes5. -/
import Derived.Test.YtimgggpojbpfkaaGreatDoorBits3
import Derived.RangeFuncBound
import Derived.Shelf.Abstract
import Derived.Test.YtimgggpojbpfkaaGreatDoorReg3
import Derived.MapKept
import Derived.RangeFuncRecord
import Derived.Below
import Derived.Maps.OwnOps
import Derived.OrdersIn
import Derived.OwnWalkIn
import Derived.Test.YtimgggpojbpfkaaGreatDoorRefS1
import Derived.Test.YtimgggpojbpfkaaGreatDoorSha7
import Derived.RangeFuncOwn
import Derived.Great.Frames
import Derived.Test.YtimgggpojbpfkaaGreatDoorBits2
import Derived.Maps.AppendAt
import Derived.OpenShut
import Derived.Test.YtimgggpojbpfkaaGreatDoorLift
import Derived.Test.YtimgggpojbpfkaaGreatDoorReg
import Derived.StillTailTactics
/- algo: what its closures do (fits, rooms). -/
namespace Go.Proofs.YtimgggpojbpfkaaGreatDoor
open Go.RowKit Go.Shelf
set_option linter.unusedVariables false
set_option linter.unusedSimpArgs false
set_option maxRecDepth 100000
/-- all blocks of cells from n on lie as they lay -/
structure KeepL (n : Nat) (W W' : World) : Prop where
  size : W.heap.size ≤ W'.heap.size
  same : ∀ (k : Nat) (cs : Array Value) (t : TypeId) (fr : Nat × Nat), n ≤ k → W.heap[k]? = some (.cells cs t fr) → W'.heap[k]? = some (.cells cs t fr)
theorem KeepL.refl (n : Nat) (W : World) : KeepL n W W := ⟨Nat.le_refl _, fun _ _ _ _ _ h => h⟩
theorem KeepL.trans {n : Nat} {A B C : World} (h : KeepL n A B) (k : KeepL n B C) : KeepL n A C := ⟨Nat.le_trans h.size k.size, fun i cs t fr hn hi => k.same i cs t fr hn (h.same i cs t fr hn hi)⟩
theorem KeepL.of {n : Nat} {W W' : World} (h : Below W.heap.size W W') : KeepL n W W' := ⟨h.size, fun k _ _ _ _ hk => (h.block k (Array.getElem?_eq_some_iff.1 hk).1).trans hk⟩
theorem KeepL.cell {n : Nat} {W W' : World} (h : KeepL n W W') {p : Addr} {v : Value} (hn : n ≤ p.block) (hp : W.cell? p = some v) : W'.cell? p = some v := by
  have h' := hp
  unfold World.cell? at hp
  cases ho : W.heap[p.block]? with
  | none => rw [ho] at hp; cases hp
  | some o =>
    cases o with
    | cells cs t fr => rw [World.cell?_of_block (w := W) (a := p) ((h.same _ _ _ _ hn ho).trans ho.symm)]; exact h'
    | _ => rw [ho] at hp; cases hp
/-- a function value that tells whether something may have n bytes -/
def FitV (n0 : Nat) (W : World) (v : Value) (p : Nat → Bool) : Prop := ∃ F cap, v = .func (.func F) #[] cap ∧ Enters Tryz.prog F ∧ ∀ W', KeepL n0 W W' → ∀ n : Nat, n ≤ 9223372036854775807 →
  Calls Tryz.prog F (#[.int .i64 (n : Int)] ++ cap) W' fun e W'' => e = .returned (.bool (p n)) ∧ Below W'.heap.size W' W''
/-- one that tells how many bytes come out at most, and an error -/
def RoomV (n0 : Nat) (W : World) (v : Value) (r : Nat → Int × Int) : Prop := ∃ F cap, v = .func (.func F) #[] cap ∧ Enters Tryz.prog F ∧ ∀ W', KeepL n0 W W' → ∀ n : Nat, n ≤ 4611686018427387904 →
  Calls Tryz.prog F (#[.int .i64 (n : Int)] ++ cap) W' fun e W'' => e = .returned (.tuple #[.int .i64 (r n).1, .int .i64 (r n).2]) ∧ Below W'.heap.size W' W''
theorem FitV.keep {n0 : Nat} {W W' : World} {v : Value} {p : Nat → Bool} (h : FitV n0 W v p) (hk : KeepL n0 W W') : FitV n0 W' v p := by
  obtain ⟨F, cap, h1, h2, h3⟩ := h
  exact ⟨F, cap, h1, h2, fun V hV => h3 V (hk.trans hV)⟩
theorem RoomV.keep {n0 : Nat} {W W' : World} {v : Value} {r : Nat → Int × Int} (h : RoomV n0 W v r) (hk : KeepL n0 W W') : RoomV n0 W' v r := by
  obtain ⟨F, cap, h1, h2, h3⟩ := h
  exact ⟨F, cap, h1, h2, fun V hV => h3 V (hk.trans hV)⟩
theorem cell_box (w : World) (v : Value) (t : TypeId) : (w.alloc (.cells #[v] t)).cell? ⟨w.heap.size, 0, none⟩ = some v := by
  unfold World.cell?
  rw [World.alloc_heap_new w]
  rfl
theorem among1_any (a b n : Nat) (g1 g2 : Nat) (w : World) (h1 : w.cell? ⟨g1, 0, none⟩ = some (.int .i64 (a : Int))) (h2 : w.cell? ⟨g2, 0, none⟩ = some (.int .i64 (b : Int))) :
    Calls Tryz.prog 38 #[.int .i64 (n : Int), .pointer (some ⟨g1, 0, none⟩), .pointer (some ⟨g2, 0, none⟩)] w fun e w' => e = .returned (.bool (decide (a ≤ n) && decide (n ≤ b))) ∧ Below w.heap.size w w' := by
  by_cases h : a ≤ n
  · have t1 : ((a : Int) ≤ (n : Int)) := by omega
    have e1 : decide (a ≤ n) = true := decide_eq_true h
    rw [e1]
    by_cases hh : n ≤ b
    · have t2 : ((n : Int) ≤ (b : Int)) := by omega
      have e2 : decide (n ≤ b) = true := decide_eq_true hh
      rw [e2]
      clear e1 e2 h hh
      go_enter Tryz.func38, Tryz.ntmps38
      go_wp2
      go_ret
      exact ⟨by simp [t1, t2], Below.refl _ _⟩
    · have t2 : ¬ ((n : Int) ≤ (b : Int)) := by omega
      have e2 : decide (n ≤ b) = false := decide_eq_false hh
      rw [e2]
      clear e1 e2 h hh
      go_enter Tryz.func38, Tryz.ntmps38
      go_wp2
      go_ret
      exact ⟨by simp [t1, t2], Below.refl _ _⟩
  · have t1 : ¬ ((a : Int) ≤ (n : Int)) := by omega
    have e1 : decide (a ≤ n) = false := decide_eq_false h
    rw [e1]
    clear e1 h
    go_enter Tryz.func38, Tryz.ntmps38
    go_wp2
    go_ret
    exact ⟨by simp [t1], Below.refl _ _⟩
theorem among_any (n0 a b : Nat) (w : World) (h0 : n0 ≤ w.heap.size) : Calls Tryz.prog 18 #[.int .i64 (a : Int), .int .i64 (b : Int)] w fun e w' => ∃ v, e = .returned v ∧ FitV n0 w' v (fun n => decide (a ≤ n) && decide (n ≤ b)) ∧ Below w.heap.size w w' := by
  go_enter Tryz.func18, Tryz.ntmps18
  go_wp2
  go_ret
  have c1 := (KeepL.of (((Below.refl _ (w.alloc (.cells #[.int .i64 (a : Int)] 3))).alloc (Nat.le_refl _) (.cells #[.int .i64 (b : Int)] 3)))).cell (n := n0) h0 (cell_box w (.int .i64 (a : Int)) 3)
  have c2 := cell_box (w.alloc (.cells #[.int .i64 (a : Int)] 3)) (.int .i64 (b : Int)) 3
  rw [World.size_alloc] at c2
  exact ⟨_, rfl, ⟨38, _, rfl, enters_of Tryz.func38 (by kernel_rfl) rfl, fun W' hW n _ => among1_any a b n _ _ W' (hW.cell h0 c1) (hW.cell (Nat.le_succ_of_le h0) c2)⟩, ((Below.refl _ w).alloc (Nat.le_refl _) _).alloc (by simp) _⟩
theorem always1_any (a n : Nat) (g1 : Nat) (w : World) (h1 : w.cell? ⟨g1, 0, none⟩ = some (.int .i64 (a : Int))) :
    Calls Tryz.prog 36 #[.int .i64 (n : Int), .pointer (some ⟨g1, 0, none⟩)] w fun e w' => e = .returned (.tuple #[.int .i64 (a : Int), .int .i64 0]) ∧ Below w.heap.size w w' := by
  go_enter Tryz.func36, Tryz.ntmps36
  go_wp2
  go_ret2
  exact ⟨rfl, Below.refl _ _⟩
theorem always_any (n0 a : Nat) (w : World) (h0 : n0 ≤ w.heap.size) : Calls Tryz.prog 16 #[.int .i64 (a : Int)] w fun e w' => ∃ v, e = .returned v ∧ RoomV n0 w' v (fun _ => ((a : Int), 0)) ∧ Below w.heap.size w w' := by
  go_enter Tryz.func16, Tryz.ntmps16
  go_wp2
  go_ret
  have c1 := cell_box w (.int .i64 (a : Int)) 3
  exact ⟨_, rfl, ⟨36, _, rfl, enters_of Tryz.func36 (by kernel_rfl) rfl, fun W' hW n _ => always1_any a n _ W' (hW.cell h0 c1)⟩, (Below.refl _ w).alloc (Nat.le_refl _) _⟩
theorem more1_any (a n : Nat) (g1 : Nat) (w : World) (ha : a ≤ 16) (hn : n ≤ 4611686018427387904) (h1 : w.cell? ⟨g1, 0, none⟩ = some (.int .i64 (a : Int))) :
    Calls Tryz.prog 42 #[.int .i64 (n : Int), .pointer (some ⟨g1, 0, none⟩)] w fun e w' => e = .returned (.tuple #[.int .i64 ((n : Int) + (a : Int)), .int .i64 0]) ∧ Below w.heap.size w w' := by
  go_enter Tryz.func42, Tryz.ntmps42
  go_wp2
  go_ret2
  exact ⟨rfl, Below.refl _ _⟩
theorem more_any (n0 a : Nat) (w : World) (h0 : n0 ≤ w.heap.size) (ha : a ≤ 16) : Calls Tryz.prog 24 #[.int .i64 (a : Int)] w fun e w' => ∃ v, e = .returned v ∧ RoomV n0 w' v (fun n => ((n : Int) + (a : Int), 0)) ∧ Below w.heap.size w w' := by
  go_enter Tryz.func24, Tryz.ntmps24
  go_wp2
  go_ret
  have c1 := cell_box w (.int .i64 (a : Int)) 3
  exact ⟨_, rfl, ⟨42, _, rfl, enters_of Tryz.func42 (by kernel_rfl) rfl, fun W' hW n hn => more1_any a n _ W' ha hn (hW.cell h0 c1)⟩, (Below.refl _ w).alloc (Nat.le_refl _) _⟩
def lessR (a n : Nat) : Int × Int := if n < a then (0, 17) else ((n : Int) - (a : Int), 0)
theorem less1_any (a n : Nat) (g1 : Nat) (w : World) (ha : a ≤ 16) (hn : n ≤ 4611686018427387904) (h1 : w.cell? ⟨g1, 0, none⟩ = some (.int .i64 (a : Int))) :
    Calls Tryz.prog 32 #[.int .i64 (n : Int), .pointer (some ⟨g1, 0, none⟩)] w fun e w' => e = .returned (.tuple #[.int .i64 (lessR a n).1, .int .i64 (lessR a n).2]) ∧ Below w.heap.size w w' := by
  by_cases h : n < a
  · have t : ((n : Int) < (a : Int)) := by omega
    have e0 : lessR a n = (0, 17) := if_pos h
    rw [e0]
    clear h e0
    go_enter Tryz.func32, Tryz.ntmps32
    go_wp2
    go_ret2
    exact ⟨rfl, Below.refl _ _⟩
  · have t : ¬ ((n : Int) < (a : Int)) := by omega
    have e0 : lessR a n = ((n : Int) - (a : Int), 0) := if_neg h
    rw [e0]
    clear h e0
    go_enter Tryz.func32, Tryz.ntmps32
    go_wp2
    go_ret2
    exact ⟨rfl, Below.refl _ _⟩
theorem less_any (n0 a : Nat) (w : World) (h0 : n0 ≤ w.heap.size) (ha : a ≤ 16) : Calls Tryz.prog 13 #[.int .i64 (a : Int)] w fun e w' => ∃ v, e = .returned v ∧ RoomV n0 w' v (lessR a) ∧ Below w.heap.size w w' := by
  go_enter Tryz.func13, Tryz.ntmps13
  go_wp2
  go_ret
  have c1 := cell_box w (.int .i64 (a : Int)) 3
  exact ⟨_, rfl, ⟨32, _, rfl, enters_of Tryz.func32 (by kernel_rfl) rfl, fun W' hW n hn => less1_any a n _ W' ha hn (hW.cell h0 c1)⟩, (Below.refl _ w).alloc (Nat.le_refl _) _⟩
theorem padded_any (n0 : Nat) (W : World) : RoomV n0 W (.func (.func 20) #[] #[]) (fun n => (((n - n % 16 + 16 : Nat) : Int), 0)) := by
  refine ⟨20, #[], rfl, enters_of Tryz.func20 (by kernel_rfl) rfl, fun w _ n hn => ?_⟩
  have e1 : (n : Int).tmod 16 = ((n % 16 : Nat) : Int) := by rw [Int.tmod_eq_emod_of_nonneg (by omega)]; omega
  show Calls _ _ #[_] _ fun e W'' => e = .returned (.tuple #[.int .i64 ((n - n % 16 + 16 : Nat) : Int), .int .i64 0]) ∧ _
  obtain ⟨r, hr⟩ : ∃ r, n % 16 = r := ⟨_, rfl⟩
  have h1 : r ≤ n := by omega
  rw [hr] at e1 ⊢
  have e2 : ((n - r + 16 : Nat) : Int) = (n : Int) - (r : Int) + 16 := by omega
  rw [e2]
  clear e2 hr
  go_enter Tryz.func20, Tryz.ntmps20
  go_wp2
  go_ret2
  exact ⟨rfl, Below.refl _ _⟩
def wholeR (n : Nat) : Int × Int := if n = 0 ∨ n % 16 ≠ 0 then (0, 17) else ((n : Int), 0)
theorem wholeRoom_any (n0 : Nat) (W : World) : RoomV n0 W (.func (.func 22) #[] #[]) wholeR := by
  refine ⟨22, #[], rfl, enters_of Tryz.func22 (by kernel_rfl) rfl, fun w _ n hn => ?_⟩
  show Calls _ _ #[_] _ _
  by_cases h0 : n = 0
  · subst h0
    go_enter Tryz.func22, Tryz.ntmps22
    go_wp2
    go_ret2
    exact ⟨rfl, Below.refl _ _⟩
  · have t0 : ((n : Int) == 0) = false := by simp; omega
    have e1 : (n : Int).tmod 16 = ((n % 16 : Nat) : Int) := by rw [Int.tmod_eq_emod_of_nonneg (by omega)]; omega
    obtain ⟨r, hr⟩ : ∃ r, n % 16 = r := ⟨_, rfl⟩
    by_cases h1 : r = 0
    · have e0 : wholeR n = ((n : Int), 0) := if_neg (by omega)
      rw [hr] at e1
      subst h1
      rw [e0]
      clear e0 h0 hr
      go_enter Tryz.func22, Tryz.ntmps22
      go_wp2
      go_ret2
      exact ⟨rfl, Below.refl _ _⟩
    · have e0 : wholeR n = (0, 17) := if_pos (by omega)
      have t1 : ((r : Int) != 0) = true := by simp; omega
      rw [hr] at e1
      rw [e0]
      clear e0 h0 hr h1
      go_enter Tryz.func22, Tryz.ntmps22
      go_wp2
      go_ret2
      exact ⟨rfl, Below.refl _ _⟩
end Go.Proofs.YtimgggpojbpfkaaGreatDoor

/- algo: slices.Contains over a row of numbers, either, byAES, byKey. -/
namespace Go.Proofs.YtimgggpojbpfkaaGreatDoor
open Go.RowKit Go.Shelf
set_option linter.unusedVariables false
set_option linter.unusedSimpArgs false
set_option maxRecDepth 100000
def iN (n : Nat) : Value := .int .i64 (n : Int)
theorem iN_cell {w : World} {g : Nat} {ns : List Nat} {t : TypeId} {fr : Nat × Nat} (h : w.heap[g]? = some (.cells (ns.map iN).toArray t fr)) {i : Nat} (hi : i < ns.length) : w.cell? ⟨g, i, none⟩ = some (.int .i64 ((ns[i] : Nat) : Int)) := by
  rw [cell_of_heap h, List.getElem?_map]
  simp [hi, iN]
set_option maxHeartbeats 1000000 in
theorem index_any (g : Nat) (ns : List Nat) (N x : Nat) (w : World) (t : TypeId) (fr : Nat × Nat) (hN : ns.length = N) (hg : w.heap[g]? = some (.cells (ns.map iN).toArray t fr)) (hl : N ≤ 1000) :
    Calls Tryz.prog 55 #[.slice (some ⟨g, 0, none⟩) N N, .int .i64 (x : Int)] w fun e w' => ∃ r : Int, e = .returned (.int .i64 r) ∧ decide (0 ≤ r) = decide (x ∈ ns) ∧ w' = w := by
  have HG := Lib.hid hg; have HN := Lib.hid hN
  clear hg hN
  go_enter Tryz.func55, Tryz.ntmps55
  go_wp2
  go_loopw [8] (fun vi wr => ∃ i : Nat, i ≤ N ∧ vi = .int .i64 (i : Int) ∧ Hid (∀ j, j < i → ns[j]? ≠ some x) ∧ Hid (wr = w)) (fun v _ => N - (intOf v).toNat)
  case atStart => exact ⟨0, by omega, rfl, fun j hj => by omega, rfl⟩
  case round =>
    obtain ⟨i, hi, rfl, HJ, HW⟩ := hrel
    by_cases hlt : i < N
    · have e1 : (i : Int) < (N : Int) := by omega
      have hin : i < ns.length := by rw [HN.out]; exact hlt
      have c0 : wr.cell? ⟨g, i, none⟩ = some (.int .i64 ((ns[i] : Nat) : Int)) := by rw [HW.out]; exact iN_cell HG.out hin
      have HNI : Hid (ns[i]? = some ns[i]) := List.getElem?_eq_getElem hin
      generalize ns[i] = y at c0 HNI
      by_cases hxy : x = y
      · have e2 : ((x : Int) == (y : Int)) = true := by simp [hxy]
        go_wp2
        go_ret
        refine ⟨_, rfl, ?_, HW.out⟩
        have hm : x ∈ ns := List.mem_of_getElem? (by rw [hxy]; exact HNI.out)
        rw [decide_eq_true hm]
        exact decide_eq_true (by omega)
      · have e2 : ((x : Int) == (y : Int)) = false := by simp; omega
        go_wp2
        go_roundw
        case rel =>
          refine ⟨i + 1, by omega, by go_num, fun j hj => ?_, HW⟩
          by_cases hji : j < i
          · exact HJ.out j hji
          · obtain rfl : j = i := by omega
            rw [HNI.out]
            intro h
            injection h with h
            exact hxy h.symm
        case measure => simp [intOf]; omega
    · have e1 : ¬ ((i : Int) < (N : Int)) := by omega
      go_wp2
      go_ret
      refine ⟨_, rfl, ?_, HW.out⟩
      have hm : ¬ x ∈ ns := fun h => by
        obtain ⟨j, hj, he⟩ := List.mem_iff_getElem.1 h
        exact HJ.out j (by rw [HN.out] at hj; omega) (by rw [List.getElem?_eq_getElem hj, he])
      exact ⟨fun h => absurd h (by omega), fun h => absurd h hm⟩
theorem contains_any (g : Nat) (ns : List Nat) (N x : Nat) (w : World) (t : TypeId) (fr : Nat × Nat) (hN : ns.length = N) (hg : w.heap[g]? = some (.cells (ns.map iN).toArray t fr)) (hl : N ≤ 1000) :
    Calls Tryz.prog 31 #[.slice (some ⟨g, 0, none⟩) N N, .int .i64 (x : Int)] w fun e w' => e = .returned (.bool (decide (x ∈ ns))) ∧ w' = w := by
  have HI := Lib.hid (index_any g ns N x w t fr hN hg hl)
  clear hg hN
  go_enter Tryz.func31, Tryz.ntmps31
  go_wp2_with fail
  refine HI.out.mono ?_
  rintro e w1 ⟨r, rfl, hr, rfl⟩
  go_wp2
  go_ret
  exact ⟨by rw [← hr]; rfl, rfl⟩
theorem either1_any (g gb : Nat) (ns : List Nat) (N x : Nat) (w : World) (t : TypeId) (fr : Nat × Nat) (hN : ns.length = N) (hg : w.heap[g]? = some (.cells (ns.map iN).toArray t fr)) (hl : N ≤ 1000) (hb : w.cell? ⟨gb, 0, none⟩ = some (.slice (some ⟨g, 0, none⟩) N N)) :
    Calls Tryz.prog 30 #[.int .i64 (x : Int), .pointer (some ⟨gb, 0, none⟩)] w fun e w' => e = .returned (.bool (decide (x ∈ ns))) ∧ Below w.heap.size w w' := by
  have HI := Lib.hid (contains_any g ns N x w t fr hN hg hl)
  clear hg hN
  go_enter Tryz.func30, Tryz.ntmps30
  go_wp2_with fail
  refine HI.out.mono ?_
  rintro e w1 ⟨rfl, rfl⟩
  go_wp2
  go_ret
  exact ⟨rfl, Below.refl _ _⟩
/-- a row of numbers -/
def IntsV (n0 : Nat) (W : World) (v : Value) (ns : List Nat) : Prop := ∃ g t, n0 ≤ g ∧ v = .slice (some ⟨g, 0, none⟩) ns.length ns.length ∧ W.heap[g]? = some (.cells (ns.map iN).toArray t (0, 0))
theorem either_any (n0 : Nat) (v : Value) (ns : List Nat) (w : World) (h0 : n0 ≤ w.heap.size) (h : IntsV n0 w v ns) (hl : ns.length ≤ 1000) : Calls Tryz.prog 12 #[v] w fun e w' => ∃ v, e = .returned v ∧ FitV n0 w' v (fun n => decide (n ∈ ns)) ∧ Below w.heap.size w w' := by
  obtain ⟨g, t, hg0, rfl, hg⟩ := h
  have HG := Lib.hid hg
  clear hg
  obtain ⟨N, hN⟩ : ∃ N, ns.length = N := ⟨_, rfl⟩
  have HN := Lib.hid hN
  rw [hN] at hl ⊢
  clear hN
  go_enter Tryz.func12, Tryz.ntmps12
  go_wp2
  go_ret
  have c1 := cell_box w (.slice (some ⟨g, 0, none⟩) N N) 58
  have hb : Below w.heap.size w (w.alloc (.cells #[.slice (some ⟨g, 0, none⟩) N N] 58)) := (Below.refl _ w).alloc (Nat.le_refl _) _
  have hg1 := (KeepL.of (n := n0) hb).same _ _ _ _ hg0 HG.out
  exact ⟨_, rfl, ⟨30, _, rfl, enters_of Tryz.func30 (by kernel_rfl) rfl, fun W' hW n _ => either1_any g _ ns N n W' t (0, 0) HN.out (hW.same _ _ _ _ hg0 hg1) hl (hW.cell h0 c1)⟩, hb⟩
/-- closures that hold what is done -/
def ByAes (n0 : Nat) (W : World) (v : Value) (F : Nat) : Prop := ∃ g t, n0 ≤ g ∧ v = .func (.func 33) #[] #[.pointer (some ⟨g, 0, none⟩)] ∧ W.heap[g]? = some (.cells #[.func (.func F) #[] #[]] t (0, 0))
def ByKey (n0 : Nat) (W : World) (v : Value) (F : Nat) : Prop := ∃ g t, n0 ≤ g ∧ v = .func (.func 49) #[] #[.pointer (some ⟨g, 0, none⟩)] ∧ W.heap[g]? = some (.cells #[.func (.func F) #[] #[]] t (0, 0))
theorem ByAes.keep {n0 : Nat} {W W' : World} {v : Value} {F : Nat} (h : ByAes n0 W v F) (hk : KeepL n0 W W') : ByAes n0 W' v F := by
  obtain ⟨g, t, h0, h1, h2⟩ := h
  exact ⟨g, t, h0, h1, hk.same _ _ _ _ h0 h2⟩
theorem ByKey.keep {n0 : Nat} {W W' : World} {v : Value} {F : Nat} (h : ByKey n0 W v F) (hk : KeepL n0 W W') : ByKey n0 W' v F := by
  obtain ⟨g, t, h0, h1, h2⟩ := h
  exact ⟨g, t, h0, h1, hk.same _ _ _ _ h0 h2⟩
theorem IntsV.keep {n0 : Nat} {W W' : World} {v : Value} {ns : List Nat} (h : IntsV n0 W v ns) (hk : KeepL n0 W W') : IntsV n0 W' v ns := by
  obtain ⟨g, t, h0, h1, h2⟩ := h
  exact ⟨g, t, h0, h1, hk.same _ _ _ _ h0 h2⟩
theorem byAES_any (n0 F : Nat) (w : World) (h0 : n0 ≤ w.heap.size) : Calls Tryz.prog 14 #[.func (.func F) #[] #[]] w fun e w' => ∃ v, e = .returned v ∧ ByAes n0 w' v F ∧ Below w.heap.size w w' := by
  go_enter Tryz.func14, Tryz.ntmps14
  go_wp2
  go_ret
  exact ⟨_, rfl, ⟨_, _, h0, rfl, heap_alloc_new' w _⟩, (Below.refl _ w).alloc (Nat.le_refl _) _⟩
theorem byKey_any (n0 F : Nat) (w : World) (h0 : n0 ≤ w.heap.size) : Calls Tryz.prog 27 #[.func (.func F) #[] #[]] w fun e w' => ∃ v, e = .returned v ∧ ByKey n0 w' v F ∧ Below w.heap.size w w' := by
  go_enter Tryz.func27, Tryz.ntmps27
  go_wp2
  go_ret
  exact ⟨_, rfl, ⟨_, _, h0, rfl, heap_alloc_new' w _⟩, (Below.refl _ w).alloc (Nat.le_refl _) _⟩
end Go.Proofs.YtimgggpojbpfkaaGreatDoor

/- Regions that draw their order, by what holds as long as they go on: one proof for each operation, whatever order is picked. Over any program. -/
namespace Go.Proofs.YtimgggpojbpfkaaGreatDoor
open Go.RowKit
set_option maxRecDepth 100000
set_option linter.unusedVariables false
def AllOps (S : Nat → Oper → Prop) : List Oper → Nat → Prop
  | [], _ => True
  | o :: os, i => S i o ∧ AllOps S os (i + 1)
theorem AllOps.get {S : Nat → Oper → Prop} : ∀ {os : List Oper} {k i : Nat} {o : Oper}, AllOps S os k → os[i]? = some o → S (k + i) o
  | [], _, _, _, _, h => by simp at h
  | o :: os, k, 0, _, h, hi => by simp at hi; subst hi; exact h.1
  | o :: os, k, i + 1, _, h, hi => by
    have := AllOps.get (k := k + 1) h.2 (by simpa using hi)
    rwa [show k + 1 + i = k + (i + 1) by omega] at this
section
variable {P : Program} {ops : Array Oper} {Q : Exit → Act → World → Prop}
/-- one operation keeps what holds -/
def StepOK (P : Program) (ops : Array Oper) (Q : Exit → Act → World → Prop) (J : (Nat → Bool) → Act → World → Prop) (i : Nat) (o : Oper) : Prop :=
  ∀ (L : Nat → Bool) (a : Act) (w : World), J L a w → L i = false → (∀ e ∈ o.after, Region.binds .any e = true → L e.on = true) →
    ∀ K : Act → World → Prop, Hid (∀ a' w', J (fun j => if j = i then true else L j) a' w' → K a' w') → if Region.wanted o (yielded ops a.tmps) = true then Oper.wp P o a w K Q else K (a.put o.dst undef) w
def below? : List Oper → Nat → Bool
  | [], _ => true
  | o :: os, i => o.after.all (fun e => !Region.binds .any e || decide (e.on < i)) && below? os (i + 1)
theorem below?_get : ∀ {os : List Oper} {k i : Nat} {o : Oper}, below? os k = true → os[i]? = some o → ∀ e ∈ o.after, Region.binds .any e = true → e.on < k + i
  | [], _, _, _, _, h => by simp at h
  | o :: os, k, 0, _, h, hi => by
    simp at hi; subst hi
    intro e he hb
    simp only [below?, Bool.and_eq_true, Array.all_eq_true'] at h
    have := h.1 e he
    simpa [hb] using this
  | o :: os, k, i + 1, _, h, hi => by
    simp only [below?, Bool.and_eq_true] at h
    have := below?_get (k := k + 1) h.2 (by simpa using hi)
    rwa [show k + 1 + i = k + (i + 1) by omega] at this
theorem getD_set_true (l : Array Bool) (i j : Nat) : (l.setIfInBounds i true).getD j true = if j = i then true else l.getD j true := by
  by_cases h : j = i
  · subst h
    simp only [Array.getD_eq_getD_getElem?, Array.getElem?_setIfInBounds, if_true]
    split <;> rfl
  · rw [if_neg h, getD_set_ne true (fun e => h e.symm)]
theorem inv_any (J : (Nat → Bool) → Act → World → Prop) (hb : below? ops.toList 0 = true) (steps : AllOps (StepOK P ops Q J) ops.toList 0) (done : ∀ L a w, (∀ j, L j = true) → J L a w → Q .normal a w) :
    ∀ (fuel : Nat) (listed : Array Bool) (a : Act) (w : World), listed.size = ops.size → listed.toList.count false ≤ fuel → J (fun j => listed.getD j true) a w → wpAny P .any ops Q fuel listed a w := by
  have fin : ∀ (listed : Array Bool) (a : Act) (w : World), listed.size = ops.size → J (fun j => listed.getD j true) a w → Region.ready .any ops listed = [] → Q .normal a w := by
    intro listed a w hs hJ hr
    refine done _ a w (fun j => ?_) hJ
    induction j using Nat.strongRecOn with
    | ind j ih =>
      by_cases hj : j < ops.size
      · cases hl : listed.getD j true with
        | true => rfl
        | false =>
          exfalso
          have hm : j ∈ Region.ready .any ops listed := by
            refine mem_ready.2 ⟨hl, ops[j], by simp [hj], fun e he hbi => ?_⟩
            have hlt := below?_get (k := 0) (i := j) (o := ops[j]) hb (by simp [hj]) e he hbi
            rw [Nat.zero_add] at hlt
            have h1 := ih e.on hlt
            have h2 : e.on < listed.size := by omega
            simpa [h2] using h1
          rw [hr] at hm; cases hm
      · have : listed.size ≤ j := by omega
        simp [Array.getElem?_eq_none this]
  intro fuel
  induction fuel with
  | zero =>
    intro listed a w hs hc hJ
    have hr : Region.ready .any ops listed = [] := by
      rw [List.eq_nil_iff_forall_not_mem]
      intro i hi
      have h0 := (mem_ready.1 hi).1
      have hlt : i < listed.size := by
        rcases Nat.lt_or_ge i listed.size with h | h
        · exact h
        · simp [Array.getElem?_eq_none h] at h0
      have hf : listed[i] = false := by simpa [hlt] using h0
      have hmem : false ∈ listed.toList := by rw [← hf]; simp
      have := List.count_pos_iff.2 hmem
      omega
    exact ⟨hr, fin listed a w hs hJ hr⟩
  | succ fuel ih =>
    intro listed a w hs hc hJ
    refine ⟨fin listed a w hs hJ, fun i hi => ?_⟩
    obtain ⟨h0, o, ho, hall⟩ := mem_ready.1 hi
    have hlt : i < listed.size := by
      rcases Nat.lt_or_ge i listed.size with h | h
      · exact h
      · simp [Array.getElem?_eq_none h] at h0
    have hst := steps.get (i := i) (o := o) (by simpa using ho)
    rw [Nat.zero_add] at hst
    refine wpOp_step ho fun K hK => hst _ a w hJ h0 (fun e he hbi => ?_) K fun a' w' hJ' => hK a' w' ?_
    · have := hall e he hbi
      rcases Nat.lt_or_ge e.on listed.size with h' | h'
      · simpa [h'] using this
      · simp [Array.getElem?_eq_none h']
    · refine ih _ a' w' (by simpa using hs) ?_ ?_
      · have hf : listed[i] = false := by simpa [hlt] using h0
        rw [Array.toList_setIfInBounds, List.count_set (by simpa using hlt)]
        have e1 : (listed.toList[i]'(by simpa using hlt)) = false := by simpa using hf
        rw [e1, if_pos (by rfl), if_neg (by decide)]
        omega
      · have e : (fun j => (listed.setIfInBounds i true).getD j true) = (fun j => if j = i then true else listed.getD j true) := funext fun j => getD_set_true listed i j
        rw [e]; exact hJ'
theorem reg_inv {id : Nat} {a : Act} {w : World} (J : (Nat → Bool) → Act → World → Prop) (hm : P.follows .mixedOrders = true) (hb : below? ops.toList 0 = true)
    (h0 : ∀ L : Nat → Bool, (∀ j, j < ops.size → L j = false) → J L a w.drew) (steps : AllOps (StepOK P ops Q J) ops.toList 0) (done : ∀ L a w, (∀ j, L j = true) → J L a w → Q .normal a w) : (Code.region id ops true).wp P Q a w := by
  refine wp_region_any hm (inv_any J hb steps done ops.size _ a w.drew (by simp) ?_ (h0 _ fun j hj => ?_))
  · simp
  · simp [hj]
end
end Go.Proofs.YtimgggpojbpfkaaGreatDoor

/- Two operations of a region that draws its order, free to go in either order, whose ways meet again: what is behind them once. Over any program. -/
namespace Go.Proofs.YtimgggpojbpfkaaGreatDoor
open Go.RowKit
set_option maxRecDepth 100000
set_option linter.unusedVariables false
theorem put_comm' (a : Act) {d1 d2 : Nat} (h : d1 ≠ d2) (v1 v2 : Value) : (a.put (some d2) v2).put (some d1) v1 = (a.put (some d1) v1).put (some d2) v2 := by
  simp only [Act.put]
  rw [Array.setIfInBounds_comm _ _ (Ne.symm h)]
/-- what an operation owes -/
def Does (P : Program) (ops : Array Oper) (Q : Exit → Act → World → Prop) (o : Oper) (K : Act → World → Prop) (a : Act) (w : World) : Prop :=
  if Region.wanted o (yielded ops a.tmps) = true then Oper.wp P o a w K Q else K (a.put o.dst undef) w
theorem regB_join {P : Program} {ops : Array Oper} {Q : Exit → Act → World → Prop} (i j d1 d2 : Nat) {o o' : Oper} {B fuel : Nat} {listed : Array Bool} {a : Act} {w : World} (J : Value → Value → World → Prop)
    (hi : ops[i]? = some o) (hj : ops[j]? = some o') (hne : d1 ≠ d2) (hij : i ≠ j)
    (hr : Region.ready .any ops listed = [i, j]) (hr1 : Region.ready .any ops (listed.setIfInBounds i true) = [j]) (hr2 : Region.ready .any ops (listed.setIfInBounds j true) = [i])
    (h1 : ∀ K : Act → World → Prop, Hid (∀ v1 w1, Below B w w1 → (∀ K2 : Act → World → Prop, Hid (∀ v2 w2, Below B w1 w2 → J v1 v2 w2 → K2 ((a.put (some d1) v1).put (some d2) v2) w2) → Does P ops Q o' K2 (a.put (some d1) v1) w1) → K (a.put (some d1) v1) w1) → Does P ops Q o K a w)
    (h2 : ∀ K : Act → World → Prop, Hid (∀ v2 w1, Below B w w1 → (∀ K2 : Act → World → Prop, Hid (∀ v1 w2, Below B w1 w2 → J v1 v2 w2 → K2 ((a.put (some d2) v2).put (some d1) v1) w2) → Does P ops Q o K2 (a.put (some d2) v2) w1) → K (a.put (some d2) v2) w1) → Does P ops Q o' K a w)
    (h : ∀ v1 v2 w', Below B w w' → J v1 v2 w' → RegB P ops Q B fuel ((listed.setIfInBounds i true).setIfInBounds j true) ((a.put (some d1) v1).put (some d2) v2) w') :
    RegB P ops Q B (fuel + 2) listed a w := by
  refine regB_eff2 i j hi hj hr (fun K hK => h1 K fun v1 w1 hE hst => ?_) (fun K hK => h2 K fun v2 w1 hE hst => ?_)
  · exact hK.out _ _ hE (regB_eff j hj hr1 fun K2 hK2 => hst K2 fun v2 w2 hE2 hJ => hK2.out _ _ hE2 (h v1 v2 w2 (hE.trans hE2) hJ))
  · refine hK.out _ _ hE (regB_eff i hi hr2 fun K2 hK2 => hst K2 fun v1 w2 hE2 hJ => hK2.out _ _ hE2 ?_)
    rw [put_comm' a hne, Array.setIfInBounds_comm _ _ (Ne.symm hij)]
    exact h v1 v2 w2 (hE.trans hE2) hJ
section
variable {P : Program} {ops : Array Oper} {Q : Exit → Act → World → Prop}
theorem inv_anyH {S : World → Prop} (J : (Nat → Bool) → Act → World → Prop) (hb : below? ops.toList 0 = true) (steps : AllOps (StepOK P ops Q J) ops.toList 0) (hS : ∀ L a w, J L a w → S w) (done : ∀ L a w, (∀ j, L j = true) → J L a w → Q .normal a w) :
    ∀ (fuel : Nat) (listed : Array Bool) (a : Act) (w : World), listed.size = ops.size → listed.toList.count false ≤ fuel → J (fun j => listed.getD j true) a w → wpAnyH P .any ops Q S fuel listed a w := by
  have fin : ∀ (listed : Array Bool) (a : Act) (w : World), listed.size = ops.size → J (fun j => listed.getD j true) a w → Region.ready .any ops listed = [] → Q .normal a w := by
    intro listed a w hs hJ hr
    refine done _ a w (fun j => ?_) hJ
    induction j using Nat.strongRecOn with
    | ind j ih =>
      by_cases hj : j < ops.size
      · cases hl : listed.getD j true with
        | true => rfl
        | false =>
          exfalso
          have hm : j ∈ Region.ready .any ops listed := by
            refine mem_ready.2 ⟨hl, ops[j], by simp [hj], fun e he hbi => ?_⟩
            have hlt := below?_get (k := 0) (i := j) (o := ops[j]) hb (by simp [hj]) e he hbi
            rw [Nat.zero_add] at hlt
            have h1 := ih e.on hlt
            have h2 : e.on < listed.size := by omega
            simpa [h2] using h1
          rw [hr] at hm; cases hm
      · have : listed.size ≤ j := by omega
        simp [Array.getElem?_eq_none this]
  intro fuel
  induction fuel with
  | zero =>
    intro listed a w hs hc hJ
    have hr : Region.ready .any ops listed = [] := by
      rw [List.eq_nil_iff_forall_not_mem]
      intro i hi
      have h0 := (mem_ready.1 hi).1
      have hlt : i < listed.size := by
        rcases Nat.lt_or_ge i listed.size with h | h
        · exact h
        · simp [Array.getElem?_eq_none h] at h0
      have hf : listed[i] = false := by simpa [hlt] using h0
      have hmem : false ∈ listed.toList := by rw [← hf]; simp
      have := List.count_pos_iff.2 hmem
      omega
    exact ⟨hr, fin listed a w hs hJ hr⟩
  | succ fuel ih =>
    intro listed a w hs hc hJ
    refine ⟨fin listed a w hs hJ, fun i hi => ?_⟩
    obtain ⟨h0, o, ho, hall⟩ := mem_ready.1 hi
    have hlt : i < listed.size := by
      rcases Nat.lt_or_ge i listed.size with h | h
      · exact h
      · simp [Array.getElem?_eq_none h] at h0
    have hst := steps.get (i := i) (o := o) (by simpa using ho)
    rw [Nat.zero_add] at hst
    refine wpOp_step ho fun K hK => hst _ a w hJ h0 (fun e he hbi => ?_) K fun a' w' hJ' => hK a' w' ⟨hS _ _ _ hJ', ?_⟩
    · have := hall e he hbi
      rcases Nat.lt_or_ge e.on listed.size with h' | h'
      · simpa [h'] using this
      · simp [Array.getElem?_eq_none h']
    · refine ih _ a' w' (by simpa using hs) ?_ ?_
      · have hf : listed[i] = false := by simpa [hlt] using h0
        rw [Array.toList_setIfInBounds, List.count_set (by simpa using hlt)]
        have e1 : (listed.toList[i]'(by simpa using hlt)) = false := by simpa using hf
        rw [e1, if_pos (by rfl), if_neg (by decide)]
        omega
      · have e : (fun j => (listed.setIfInBounds i true).getD j true) = (fun j => if j = i then true else listed.getD j true) := funext fun j => getD_set_true listed i j
        rw [e]; exact hJ'
theorem regB_inv {B fuel : Nat} {listed : Array Bool} {a : Act} {w : World} (J : (Nat → Bool) → Act → World → Prop) (hs : listed.size = ops.size) (hc : listed.toList.count false ≤ fuel) (hb : below? ops.toList 0 = true)
    (hS : ∀ L a' w', J L a' w' → Below B w w') (h0 : J (fun j => listed.getD j true) a w) (steps : AllOps (StepOK P ops Q J) ops.toList 0) (done : ∀ L a w, (∀ j, L j = true) → J L a w → Q .normal a w) : RegB P ops Q B fuel listed a w :=
  inv_anyH J hb steps hS done fuel listed a w hs hc h0
end
end Go.Proofs.YtimgggpojbpfkaaGreatDoor

/- Maps with numbers as keys, by their entries in order. Over any program. -/
namespace Go.Proofs.YtimgggpojbpfkaaGreatDoor
open Go.RowKit
set_option linter.unusedVariables false
set_option linter.unusedSimpArgs false
def kFind : List (Int × Value) → Int → Nat → Option (Nat × Value)
  | [], _, _ => none
  | (k, v) :: r, x, i => if x = k then some (i, v) else kFind r x (i + 1)
/-- what stands under a key -/
def kGet : List (Int × Value) → Int → Option Value
  | [], _ => none
  | (k, v) :: r, x => if x = k then some v else kGet r x
theorem kFind_get : ∀ (ks : List (Int × Value)) (x : Int) (i : Nat), (kFind ks x i).map (·.2) = kGet ks x
  | [], _, _ => rfl
  | (k, v) :: r, x, i => by
    unfold kFind kGet
    split
    · rfl
    · exact kFind_get r x (i + 1)
theorem kGet_snoc : ∀ (ks : List (Int × Value)) (k x : Int) (v : Value), kGet ks k = none → kGet (ks ++ [(k, v)]) x = if x = k then some v else kGet ks x
  | [], k, x, v, _ => rfl
  | (k', v') :: r, k, x, v, h => by
    unfold kGet at h
    split at h
    · cases h
    · rename_i hne
      show (if x = k' then some v' else kGet (r ++ [(k, v)]) x) = _
      rw [kGet_snoc r k x v h]
      rw [show kGet ((k', v') :: r) x = if x = k' then some v' else kGet r x from rfl]
      by_cases h1 : x = k'
      · rw [if_pos h1, if_pos h1, if_neg (by omega)]
      · rw [if_neg h1, if_neg h1]
def Ents (es : List MapEntry) (ks : List (Int × Value)) : Prop := es.map (fun e => (e.key, e.val)) = ks.map (fun p => (Value.int .i64 p.1, p.2))
theorem findNow_ents : ∀ (es : List MapEntry) (ks : List (Int × Value)) (x : Int) (i : Nat), Ents es ks → Instr.findNow (.int .i64) (.int .i64 x) es i = some (kFind ks x i)
  | [], [], _, _, _ => rfl
  | [], _ :: _, _, _, h => by simp [Ents] at h
  | _ :: _, [], _, _, h => by simp [Ents] at h
  | e :: es, (k, v) :: ks, x, i, h => by
    simp only [Ents, List.map_cons, List.cons.injEq, Prod.mk.injEq] at h
    obtain ⟨⟨h1, h2⟩, h3⟩ := h
    unfold Instr.findNow kFind
    rw [h1, h2]
    by_cases hx : x = k
    · rw [if_pos hx]
      simp [Instr.sameNow, hx]
    · rw [if_neg hx]
      have : Instr.sameNow (.int .i64) (.int .i64 x) (.int .i64 k) = some false := by simp [Instr.sameNow, hx]
      rw [this]
      exact findNow_ents es ks x (i + 1) h3
section
variable {P : Program} {w : World} {T K E : TypeId} {g clock : Nat} {es : Array MapEntry} {ks : List (Int × Value)}
theorem run_mapNew (hT : P.underlying T = some (.map K E)) (hK : P.underlying K = some (.int .i64)) (hg : w.heap[g]? = some (.map es clock)) (he : Ents es.toList ks) (x : Int) (v : Value) (hx : kGet ks x = none) :
    (Instr.mapUpdate T (.map (some g)) (.int .i64 x) v).run P w = .ok () (w.putObj g (.map (es.push { key := .int .i64 x, val := v, born := clock }) (clock + 1))) := by
  have hf : Instr.findNow (.int .i64) (.int .i64 x) es.toList 0 = some none := by
    rw [findNow_ents _ _ _ _ he]
    have := kFind_get ks x 0
    rw [hx] at this
    cases h : kFind ks x 0 with
    | none => rfl
    | some y => rw [h] at this; cases this
  have hc : (Instr.checkKey false 10000 K (.int .i64 x)).run P w = .ok () w := MapKept.run_checkKey (k := .int .i64 x) hK (by simp [MapKept.IsKey]) false 9999
  simp [Instr.mapUpdate, run_underlying hT, MapKept.run_getObj_map hg, hc, MapKept.run_findKey hK hf, MapKept.run_setObj_map _ hg, Result.andThen, World.putObj]
theorem run_mapGet (hT : P.underlying T = some (.map K E)) (hK : P.underlying K = some (.int .i64)) (hg : w.heap[g]? = some (.map es clock)) (he : Ents es.toList ks) (x : Int) (z : Value) (hz : ∀ W, (zeroValue E).run P W = .ok z W) :
    (Instr.lookup T (.map (some g)) (.int .i64 x) false).run P w = .ok ((kGet ks x).getD z) w := by
  have hf := findNow_ents _ _ x 0 he
  have hc : (Instr.checkKey es.isEmpty 10000 K (.int .i64 x)).run P w = .ok () w := MapKept.run_checkKey (k := .int .i64 x) hK (by simp [MapKept.IsKey]) es.isEmpty 9999
  have hk := kFind_get ks x 0
  cases h : kFind ks x 0 with
  | none =>
    rw [h] at hf hk
    rw [← hk]
    simp [Instr.lookup, run_underlying hT, MapKept.run_getObj_map hg, hc, MapKept.run_findKey hK hf, hz, Result.andThen]
  | some y =>
    rw [h] at hf hk
    rw [← hk]
    simp [Instr.lookup, run_underlying hT, MapKept.run_getObj_map hg, hc, MapKept.run_findKey hK hf, Result.andThen]
theorem ents_push (he : Ents es.toList ks) (x : Int) (v : Value) (b : Nat) : Ents (es.push { key := .int .i64 x, val := v, born := b }).toList (ks ++ [(x, v)]) := by
  unfold Ents at he ⊢
  rw [Array.toList_push, List.map_append, List.map_append, he]
  rfl
end
/-! ### steps of drawn regions, of an operation whose value is known -/
section
variable {P : Program} {w w' : World} {ops : Array Oper} {o : Oper} {a : Act} {K : Act → World → Prop} {Q : Exit → Act → World → Prop} {E : Prop}
theorem step_valF (hg : o.guard = none) {v : Value} (hrun : (execOp a.eval o).run P w = .ok (.value v) w') (h : K (a.put o.dst v) w') : if Region.wanted o (yielded ops a.tmps) = true then Oper.wp P o a w K Q else E := by
  have hw : Region.wanted o (yielded ops a.tmps) = true := by simp [Region.wanted, hg]
  rw [if_pos hw]
  unfold Oper.wp
  rw [hrun]
  exact h
theorem step_ldF (hg : o.guard = none) (ty : TypeId) (x : Operand) (ho : o.op = .load ty x) {v : Value} (hrun : (Instr.loadAt ty (a.eval x)).run P w = .ok v w) (h : K (a.put o.dst v) w) : if Region.wanted o (yielded ops a.tmps) = true then Oper.wp P o a w K Q else E := by
  have hw : Region.wanted o (yielded ops a.tmps) = true := by simp [Region.wanted, hg]
  rw [if_pos hw]
  unfold Oper.wp execOp
  simp only [ho, Sem.run_bind, hrun, Result.andThen_ok]
  exact h
theorem step_insF (hg : o.guard = none) (ty : TypeId) (m k x : Operand) (ho : o.op = .insert ty m k x) (hrun : (Instr.mapUpdate ty (a.eval m) (a.eval k) (a.eval x)).run P w = .ok () w') (h : K (a.put o.dst undef) w') : if Region.wanted o (yielded ops a.tmps) = true then Oper.wp P o a w K Q else E := by
  have hw : Region.wanted o (yielded ops a.tmps) = true := by simp [Region.wanted, hg]
  rw [if_pos hw]
  unfold Oper.wp execOp
  simp only [ho, Sem.run_bind, hrun, Result.andThen_ok]
  exact h
theorem exec_lookF {ty : TypeId} {m k : Operand} {ok : Bool} {v : Value} (ho : o.op = .lookup ty m k ok) (hrun : (Instr.lookup ty (a.eval m) (a.eval k) ok).run P w = .ok v w) : (execOp a.eval o).run P w = .ok (.value v) w := by
  unfold execOp
  simp only [ho, Sem.run_bind, hrun, Result.andThen_ok, Sem.run_pure]
theorem exec_fieldF {ty : TypeId} {x : Operand} {f : Nat} {v : Value} (ho : o.op = .field ty x f) (hrun : (Instr.field ty (a.eval x) f).run P w = .ok v w) : (execOp a.eval o).run P w = .ok (.value v) w := by
  unfold execOp
  simp only [ho, Sem.run_bind, hrun, Result.andThen_ok, Sem.run_pure]
theorem step_callF (hg : o.guard = none) (f : Nat) (args : Array Operand) (ats : Array TypeId) (ho : o.op = .call { callee := .value (.func f), args := args, argTypes := ats }) (he : Enters P f)
    {vs : Array Value} (hvs : args.map a.eval = vs) {R : Ending → World → Prop} (hc : Calls P f vs w R) (h : ∀ e W, R e W → ∃ v, e = .returned v ∧ K (a.put o.dst v) W) : if Region.wanted o (yielded ops a.tmps) = true then Oper.wp P o a w K Q else E := by
  have hw : Region.wanted o (yielded ops a.tmps) = true := by simp [Region.wanted, hg]
  rw [if_pos hw]
  unfold Oper.wp
  have hrun : (execOp a.eval o).run P w = .ok (.enter f vs) w := by
    rw [← hvs]
    simp [execOp, ho, resolve, Deferred.ofValue, invoke, Act.eval, he _ w, Result.andThen, go_sem]
  rw [hrun, Oper.upon_enter]
  refine hc.mono ?_
  intro e W hr
  obtain ⟨v, rfl, hk⟩ := h e W hr
  exact hk
end
end Go.Proofs.YtimgggpojbpfkaaGreatDoor

/- Regions that draw their order, inside a fence, by what holds as long as they go on. Over any program. -/
namespace Go.Proofs.YtimgggpojbpfkaaGreatDoor
open Go.RowKit
set_option maxRecDepth 100000
set_option linter.unusedVariables false
section
variable {F : Fence} {n : Nat} {P : Program} {ops : Array Oper} {Q : Exit → Act → World → Prop}
/-- one operation keeps what holds -/
def StepIn (F : Fence) (n : Nat) (P : Program) (ops : Array Oper) (Q : Exit → Act → World → Prop) (J : (Nat → Bool) → Act → World → Prop) (i : Nat) (o : Oper) : Prop :=
  ∀ (L : Nat → Bool) (a : Act) (w : World), J L a w → L i = false → (∀ e ∈ o.after, Region.binds .any e = true → L e.on = true) →
    Region.wanted o (yielded ops a.tmps) = true ∧ ∀ K : Act → World → Prop, Hid (∀ a' w', J (fun j => if j = i then true else L j) a' w' → K a' w') → o.wpIn F n P a w K Q
theorem inv_anyIn (J : (Nat → Bool) → Act → World → Prop) (hb : below? ops.toList 0 = true) (steps : AllOps (StepIn F n P ops Q J) ops.toList 0) (done : ∀ L a w, (∀ j, L j = true) → J L a w → Q .normal a w) :
    ∀ (fuel : Nat) (listed : Array Bool) (a : Act) (w : World), listed.size = ops.size → listed.toList.count false ≤ fuel → J (fun j => listed.getD j true) a w → wpAnyIn F n P .any ops Q fuel listed a w := by
  have fin : ∀ (listed : Array Bool) (a : Act) (w : World), listed.size = ops.size → J (fun j => listed.getD j true) a w → Region.ready .any ops listed = [] → Q .normal a w := by
    intro listed a w hs hJ hr
    refine done _ a w (fun j => ?_) hJ
    induction j using Nat.strongRecOn with
    | ind j ih =>
      by_cases hj : j < ops.size
      · cases hl : listed.getD j true with
        | true => rfl
        | false =>
          exfalso
          have hm : j ∈ Region.ready .any ops listed := by
            refine mem_ready.2 ⟨hl, ops[j], by simp [hj], fun e he hbi => ?_⟩
            have hlt := below?_get (k := 0) (i := j) (o := ops[j]) hb (by simp [hj]) e he hbi
            rw [Nat.zero_add] at hlt
            have h1 := ih e.on hlt
            have h2 : e.on < listed.size := by omega
            simpa [h2] using h1
          rw [hr] at hm; cases hm
      · have : listed.size ≤ j := by omega
        simp [Array.getElem?_eq_none this]
  intro fuel
  induction fuel with
  | zero =>
    intro listed a w hs hc hJ
    have hr : Region.ready .any ops listed = [] := by
      rw [List.eq_nil_iff_forall_not_mem]
      intro i hi
      have h0 := (mem_ready.1 hi).1
      have hlt : i < listed.size := by
        rcases Nat.lt_or_ge i listed.size with h | h
        · exact h
        · simp [Array.getElem?_eq_none h] at h0
      have hf : listed[i] = false := by simpa [hlt] using h0
      have hmem : false ∈ listed.toList := by rw [← hf]; simp
      have := List.count_pos_iff.2 hmem
      omega
    exact ⟨hr, fin listed a w hs hJ hr⟩
  | succ fuel ih =>
    intro listed a w hs hc hJ
    refine ⟨fin listed a w hs hJ, fun i hi => ?_⟩
    obtain ⟨h0, o, ho, hall⟩ := mem_ready.1 hi
    have hlt : i < listed.size := by
      rcases Nat.lt_or_ge i listed.size with h | h
      · exact h
      · simp [Array.getElem?_eq_none h] at h0
    have hst := steps.get (i := i) (o := o) (by simpa using ho)
    rw [Nat.zero_add] at hst
    obtain ⟨hw, hK⟩ := hst _ a w hJ h0 (fun e he hbi => by
      have := hall e he hbi
      rcases Nat.lt_or_ge e.on listed.size with h' | h'
      · simpa [h'] using this
      · simp [Array.getElem?_eq_none h'])
    unfold wpOpIn
    rw [ho]
    show if Region.wanted o (yielded ops a.tmps) = true then _ else _
    rw [if_pos hw]
    refine hK _ fun a' w' hJ' => ?_
    refine ih _ a' w' (by simpa using hs) ?_ ?_
    · have hf : listed[i] = false := by simpa [hlt] using h0
      rw [Array.toList_setIfInBounds, List.count_set (by simpa using hlt)]
      have e1 : (listed.toList[i]'(by simpa using hlt)) = false := by simpa using hf
      rw [e1, if_pos (by rfl), if_neg (by decide)]
      omega
    · have e : (fun j => (listed.setIfInBounds i true).getD j true) = (fun j => if j = i then true else listed.getD j true) := funext fun j => getD_set_true listed i j
      rw [e]; exact hJ'
theorem regIn_inv {id : Nat} {a : Act} {w : World} (J : (Nat → Bool) → Act → World → Prop) (hm : P.follows .mixedOrders = true) (hb : below? ops.toList 0 = true)
    (h0 : ∀ L : Nat → Bool, (∀ j, j < ops.size → L j = false) → J L a w.drew) (steps : AllOps (StepIn F n P ops Q J) ops.toList 0) (done : ∀ L a w, (∀ j, L j = true) → J L a w → Q .normal a w) : (Code.region id ops true).wpIn F n P Q a w := by
  refine wpIn_region_any hm (inv_anyIn J hb steps done ops.size _ a w.drew (by simp) ?_ (h0 _ fun j hj => ?_))
  · simp
  · simp [hj]
theorem opIn_load {o : Oper} {a : Act} {w : World} {K : Act → World → Prop} (ty : TypeId) (x : Operand) (ho : o.op = .load ty x) {p v : Value} (hx : a.eval x = p)
    (hrun : (Instr.loadAt ty p).run P w = .ok v w) (h : K (a.put o.dst v) w) : o.wpIn F n P a w K Q := by
  unfold Oper.wpIn
  refine ⟨by simp [Oper.about, ho], ?_⟩
  rw [Oper.semAt_plain F _ _ (by rw [ho]; intro c hc'; cases hc')]
  unfold execOp
  simp only [ho, hx, Sem.run_bind, hrun, Result.andThen_ok]
  exact h
theorem opIn_store {o : Oper} {a : Act} {w w' : World} {K : Act → World → Prop} (ty : TypeId) (x y : Operand) (ho : o.op = .store ty x y) {p v : Value} (hx : a.eval x = p) (hy : a.eval y = v)
    (hrun : (Instr.storeAt ty p v).run P w = .ok () w') (h : K (a.put o.dst undef) w') : o.wpIn F n P a w K Q := by
  unfold Oper.wpIn
  refine ⟨by simp [Oper.about, ho], ?_⟩
  rw [Oper.semAt_plain F _ _ (by rw [ho]; intro c hc'; cases hc')]
  unfold execOp
  simp only [ho, hx, hy, Sem.run_bind, hrun, Result.andThen_ok]
  exact h
end

theorem upF {L : Nat → Bool} {k j : Nat} (hj : L j = false) (hne : j ≠ k) (h : (if j = k then true else L j) = true) : False := by
  rw [if_neg hne, hj] at h; cases h
theorem upS {L : Nat → Bool} {k : Nat} (h : (if k = k then true else L k) = false) : False := by
  rw [if_pos rfl] at h; cases h
theorem upT {L : Nat → Bool} {k j : Nat} (hj : L j = true) (h : (if j = k then true else L j) = false) : False := by
  rw [hj] at h; split at h <;> cases h
/-! ### a region whose last operation alone turns what was there -/
def updv (vs : Nat → Value) (k : Nat) (x : Value) : Nat → Value := fun j => if j = k then x else vs j
structure RJ (n : Nat) (R : Nat → Value → World → Prop) (D : (Nat → Value) → World → Prop) (W0 : World) (vs : Nat → Value) (L : Nat → Bool) (W : World) : Prop where
  fv : L n = false → ∀ i, L i = true → i < n → R i (vs i) W
  b0 : L n = false → Below W0.heap.size W0 W
  b1 : L n = true → D vs W
  dn : L n = true → ∀ i, i < n → L i = true
theorem RJ.start {n : Nat} {R : Nat → Value → World → Prop} {D : (Nat → Value) → World → Prop} {W0 W : World} {vs : Nat → Value} {L : Nat → Bool} (hL : ∀ j, j < n + 1 → L j = false) (hb : Below W0.heap.size W0 W) : RJ n R D W0 vs L W :=
  ⟨fun _ i hi h => by (rw [hL i (by omega)] at hi; cases hi), fun _ => hb, fun h => by (rw [hL n (by omega)] at h; cases h), fun h => by (rw [hL n (by omega)] at h; cases h)⟩
theorem RJ.last {n : Nat} {R : Nat → Value → World → Prop} {D : (Nat → Value) → World → Prop} {W0 W : World} {vs : Nat → Value} {L : Nat → Bool} (H : RJ n R D W0 vs L W) {k : Nat} (hk : k < n) (hL : L k = false) : L n = false := by
  cases h : L n with
  | false => rfl
  | true => rw [H.dn h k hk] at hL; cases hL
theorem RJ.step {n : Nat} {R : Nat → Value → World → Prop} {D : (Nat → Value) → World → Prop} {W0 W W' : World} {vs : Nat → Value} {L : Nat → Bool} (H : RJ n R D W0 vs L W) (hR : ∀ i v (A B : World), R i v A → Below A.heap.size A B → R i v B)
    (k : Nat) (hk : k < n) (hL : L k = false) (hb : Below W.heap.size W W') (x : Value) (hx : R k x W') : RJ n R D W0 (updv vs k x) (fun j => if j = k then true else L j) W' := by
  have hn := H.last hk hL
  have hn' : (if n = k then true else L n) = false := by rw [if_neg (by omega)]; exact hn
  refine ⟨fun _ i hi h => ?_, fun _ => (H.b0 hn).step hb, fun h => by (rw [hn'] at h; cases h), fun h => by (rw [hn'] at h; cases h)⟩
  unfold updv
  by_cases e : i = k
  · rw [if_pos e, e]; exact hx
  · rw [if_neg e]
    rw [if_neg e] at hi
    exact hR _ _ _ _ (H.fv hn i hi h) hb
theorem RJ.fin {n : Nat} {R : Nat → Value → World → Prop} {D : (Nat → Value) → World → Prop} {W0 W W' : World} {vs : Nat → Value} {L : Nat → Bool} (H : RJ n R D W0 vs L W) (hall : ∀ i, i < n → L i = true) (hD : D vs W') : RJ n R D W0 vs (fun j => if j = n then true else L j) W' :=
  ⟨fun h => by (rw [if_pos rfl] at h; cases h), fun h => by (rw [if_pos rfl] at h; cases h), fun _ => hD, fun _ i hi => by rw [if_neg (by omega)]; exact hall i hi⟩
end Go.Proofs.YtimgggpojbpfkaaGreatDoor

/- algo.kinds: what is known of each algorithm. -/
namespace Go.Proofs.YtimgggpojbpfkaaGreatDoor
open Go.RowKit Go.Shelf
set_option linter.unusedVariables false
set_option linter.unusedSimpArgs false
set_option maxRecDepth 100000
def clsK : Nat → Int
  | 1 => 1 | 2 => 1 | 3 => 2 | 4 => 3 | 5 => 4 | 6 => 5 | _ => 0
def aadK : Nat → Int
  | 5 => 1000 | 6 => 1000 | _ => 0
def keyP : Nat → Nat → Bool
  | 1 => fun n => decide (n ∈ ([0] : List Nat))
  | 2 => fun n => decide (1 ≤ n) && decide (n ≤ 100)
  | 6 => fun n => decide (n ∈ ([32] : List Nat))
  | _ => fun n => decide (n ∈ ([16, 32] : List Nat))
def ivP : Nat → Nat → Bool
  | 1 => fun n => decide (n ∈ ([0] : List Nat))
  | 2 => fun n => decide (n ∈ ([0] : List Nat))
  | 5 => fun n => decide (1 ≤ n) && decide (n ≤ 64)
  | 6 => fun n => decide (n ∈ ([12] : List Nat))
  | _ => fun n => decide (n ∈ ([16] : List Nat))
def roomP : Nat → Bool → Nat → Int × Int
  | 1, _ => fun _ => (((32 : Nat) : Int), 0)
  | 2, _ => fun _ => (((32 : Nat) : Int), 0)
  | 3, _ => lessR 0
  | 4, false => fun n => (((n - n % 16 + 16 : Nat) : Int), 0)
  | 4, true => wholeR
  | _, false => fun n => ((n : Int) + ((16 : Nat) : Int), 0)
  | _, true => lessR 16
/-- what is done, by which function -/
def DoV (n0 : Nat) (W : World) : Nat → Bool → Value → Prop
  | 1, _, d => d = .func (.func 17) #[] #[]
  | 2, _, d => d = .func (.func 19) #[] #[]
  | 3, _, d => ByAes n0 W d 15
  | 4, false, d => ByAes n0 W d 21
  | 4, true, d => ByAes n0 W d 23
  | 5, false, d => ByAes n0 W d 25
  | 5, true, d => ByAes n0 W d 26
  | _, false, d => ByKey n0 W d 28
  | _, true, d => ByKey n0 W d 29
/-- an algorithm has a direction -/
def hasW (k : Nat) (o : Bool) : Bool := !(o && decide (k ≤ 2))
def WayRD (n0 : Nat) (W : World) (k : Nat) (o : Bool) (r d : Value) : Prop :=
  if hasW k o = true then RoomV n0 W r (roomP k o) ∧ DoV n0 W k o d else r = .nilFunc ∧ d = .nilFunc
def WayV (n0 : Nat) (W : World) (v : Value) (k : Nat) (o : Bool) : Prop := ∃ r d, v = .agg #[r, d] ∧ RoomV n0 W r (roomP k o) ∧ DoV n0 W k o d
def KindAt (n0 : Nat) (W : World) (v : Value) (k : Nat) : Prop := ∃ key iv r1 d1 r2 d2, v = .agg #[.int .i64 (clsK k), key, iv, .int .i64 (aadK k), r1, d1, r2, d2] ∧ FitV n0 W key (keyP k) ∧ FitV n0 W iv (ivP k) ∧ WayRD n0 W k false r1 d1 ∧ WayRD n0 W k true r2 d2
theorem DoV.keep' {n0 : Nat} {W W' : World} (hk : KeepL n0 W W') : ∀ (k : Nat) (o : Bool) (d : Value), DoV n0 W k o d → DoV n0 W' k o d
  | 0, false, _, h => ByKey.keep h hk
  | 0, true, _, h => ByKey.keep h hk
  | 1, _, _, h => h
  | 2, _, _, h => h
  | 3, _, _, h => ByAes.keep h hk
  | 4, false, _, h => ByAes.keep h hk
  | 4, true, _, h => ByAes.keep h hk
  | 5, false, _, h => ByAes.keep h hk
  | 5, true, _, h => ByAes.keep h hk
  | _ + 6, false, _, h => ByKey.keep h hk
  | _ + 6, true, _, h => ByKey.keep h hk
theorem DoV.keep {n0 : Nat} {W W' : World} {k : Nat} {o : Bool} {d : Value} (h : DoV n0 W k o d) (hk : KeepL n0 W W') : DoV n0 W' k o d := DoV.keep' hk k o d h
theorem WayRD.keep {n0 : Nat} {W W' : World} {k : Nat} {o : Bool} {r d : Value} (h : WayRD n0 W k o r d) (hk : KeepL n0 W W') : WayRD n0 W' k o r d := by
  unfold WayRD at h ⊢
  by_cases h1 : hasW k o = true
  · rw [if_pos h1] at h ⊢
    exact ⟨h.1.keep hk, h.2.keep hk⟩
  · rw [if_neg h1] at h ⊢
    exact h
theorem WayV.keep {n0 : Nat} {W W' : World} {v : Value} {k : Nat} {o : Bool} (h : WayV n0 W v k o) (hk : KeepL n0 W W') : WayV n0 W' v k o := by
  obtain ⟨r, d, h1, h2, h3⟩ := h
  exact ⟨r, d, h1, h2.keep hk, h3.keep hk⟩
theorem KindAt.keep {n0 : Nat} {W W' : World} {v : Value} {k : Nat} (h : KindAt n0 W v k) (hk : KeepL n0 W W') : KindAt n0 W' v k := by
  obtain ⟨a, b, c, d, e, f, h1, h2, h3, h4, h5⟩ := h
  exact ⟨a, b, c, d, e, f, h1, h2.keep hk, h3.keep hk, h4.keep hk, h5.keep hk⟩
def dkl : List Nat := [11, 12, 13, 14, 15, 16, 106, 17, 18, 19, 20, 21, 112, 22, 23, 24, 25, 26, 27, 119, 28, 29, 30, 31, 32, 33, 34, 35, 128, 36, 37, 38, 39, 40, 41, 42, 43, 44, 138, 45, 46, 47, 48, 49, 50, 51, 52, 53, 54, 55, 150, 56, 0]
def dk (i : Nat) : Nat := dkl.getD i 0
theorem dk_inj : ∀ i, i < 53 → ∀ j, j < 53 → i ≠ j → dk i ≠ dk j := by decide
theorem dk_base : ∀ i, i < 51 → 3 < dk i := by decide
def insK : Nat → Option Nat
  | 1 => some 6 | 2 => some 12 | 3 => some 19 | 4 => some 28 | 5 => some 38 | 6 => some 50 | _ => none
def DoneK (L : Nat → Bool) (k : Nat) : Prop := ∃ i, insK k = some i ∧ L i = true
def isIns (i : Nat) : Bool := i == 6 || i == 12 || i == 19 || i == 28 || i == 38 || i == 50
theorem insK_is {k i : Nat} (h : insK k = some i) : isIns i = true := by
  unfold insK at h
  split at h <;> first | (injection h with h; subst h; rfl) | cases h
theorem insK_lt {k i : Nat} (h : insK k = some i) : i < 51 ∧ 0 < i := by
  unfold insK at h
  split at h <;> first | (injection h with h; subst h; exact ⟨by decide, by decide⟩) | cases h
def kOf : Nat → Nat
  | 6 => 1 | 12 => 2 | 19 => 3 | 28 => 4 | 38 => 5 | 50 => 6 | _ => 0
theorem insK_kOf {k i : Nat} (h : insK k = some i) : kOf i = k := by
  unfold insK at h
  split at h <;> first | (injection h with h; subst h; rfl) | cases h
theorem insK_inj {k k' i : Nat} (h : insK k = some i) (h' : insK k' = some i) : k = k' := (insK_kOf h).symm.trans (insK_kOf h')
/-- what each operation leaves in its slot -/
def KP (n0 : Nat) (W : World) (v : Value) : Nat → Prop
  | 1 => FitV n0 W v (fun n => decide (n ∈ ([0] : List Nat)))
  | 2 => FitV n0 W v (fun n => decide (n ∈ ([0] : List Nat)))
  | 3 => RoomV n0 W v (fun _ => (((32 : Nat) : Int), 0))
  | 4 => WayV n0 W v 1 false
  | 5 => KindAt n0 W v 1
  | 7 => FitV n0 W v (fun n => decide (1 ≤ n) && decide (n ≤ 100))
  | 8 => FitV n0 W v (fun n => decide (n ∈ ([0] : List Nat)))
  | 9 => RoomV n0 W v (fun _ => (((32 : Nat) : Int), 0))
  | 10 => WayV n0 W v 2 false
  | 11 => KindAt n0 W v 2
  | 13 => FitV n0 W v (fun n => decide (n ∈ ([16, 32] : List Nat)))
  | 14 => IntsV n0 W v [16]
  | 15 => FitV n0 W v (fun n => decide (n ∈ ([16] : List Nat)))
  | 16 => WayV n0 W v 3 false
  | 17 => WayV n0 W v 3 true
  | 18 => KindAt n0 W v 3
  | 20 => FitV n0 W v (fun n => decide (n ∈ ([16, 32] : List Nat)))
  | 21 => IntsV n0 W v [16]
  | 22 => FitV n0 W v (fun n => decide (n ∈ ([16] : List Nat)))
  | 23 => ByAes n0 W v 21
  | 24 => WayV n0 W v 4 false
  | 25 => ByAes n0 W v 23
  | 26 => WayV n0 W v 4 true
  | 27 => KindAt n0 W v 4
  | 29 => FitV n0 W v (fun n => decide (n ∈ ([16, 32] : List Nat)))
  | 30 => FitV n0 W v (fun n => decide (1 ≤ n) && decide (n ≤ 64))
  | 31 => RoomV n0 W v (fun n => ((n : Int) + ((16 : Nat) : Int), 0))
  | 32 => ByAes n0 W v 25
  | 33 => WayV n0 W v 5 false
  | 34 => RoomV n0 W v (lessR 16)
  | 35 => ByAes n0 W v 26
  | 36 => WayV n0 W v 5 true
  | 37 => KindAt n0 W v 5
  | 39 => IntsV n0 W v [32]
  | 40 => FitV n0 W v (fun n => decide (n ∈ ([32] : List Nat)))
  | 41 => IntsV n0 W v [12]
  | 42 => FitV n0 W v (fun n => decide (n ∈ ([12] : List Nat)))
  | 43 => RoomV n0 W v (fun n => ((n : Int) + ((16 : Nat) : Int), 0))
  | 44 => ByKey n0 W v 28
  | 45 => WayV n0 W v 6 false
  | 46 => RoomV n0 W v (lessR 16)
  | 47 => ByKey n0 W v 29
  | 48 => WayV n0 W v 6 true
  | 49 => KindAt n0 W v 6
  | _ => True
theorem KP.keep' {n0 : Nat} {W W' : World} {v : Value} (hk : KeepL n0 W W') : ∀ i, KP n0 W v i → KP n0 W' v i
  | 0, _ => trivial
  | 1, h => FitV.keep h hk
  | 2, h => FitV.keep h hk
  | 3, h => RoomV.keep h hk
  | 4, h => WayV.keep h hk
  | 5, h => KindAt.keep h hk
  | 6, _ => trivial
  | 7, h => FitV.keep h hk
  | 8, h => FitV.keep h hk
  | 9, h => RoomV.keep h hk
  | 10, h => WayV.keep h hk
  | 11, h => KindAt.keep h hk
  | 12, _ => trivial
  | 13, h => FitV.keep h hk
  | 14, h => IntsV.keep h hk
  | 15, h => FitV.keep h hk
  | 16, h => WayV.keep h hk
  | 17, h => WayV.keep h hk
  | 18, h => KindAt.keep h hk
  | 19, _ => trivial
  | 20, h => FitV.keep h hk
  | 21, h => IntsV.keep h hk
  | 22, h => FitV.keep h hk
  | 23, h => ByAes.keep h hk
  | 24, h => WayV.keep h hk
  | 25, h => ByAes.keep h hk
  | 26, h => WayV.keep h hk
  | 27, h => KindAt.keep h hk
  | 28, _ => trivial
  | 29, h => FitV.keep h hk
  | 30, h => FitV.keep h hk
  | 31, h => RoomV.keep h hk
  | 32, h => ByAes.keep h hk
  | 33, h => WayV.keep h hk
  | 34, h => RoomV.keep h hk
  | 35, h => ByAes.keep h hk
  | 36, h => WayV.keep h hk
  | 37, h => KindAt.keep h hk
  | 38, _ => trivial
  | 39, h => IntsV.keep h hk
  | 40, h => FitV.keep h hk
  | 41, h => IntsV.keep h hk
  | 42, h => FitV.keep h hk
  | 43, h => RoomV.keep h hk
  | 44, h => ByKey.keep h hk
  | 45, h => WayV.keep h hk
  | 46, h => RoomV.keep h hk
  | 47, h => ByKey.keep h hk
  | 48, h => WayV.keep h hk
  | 49, h => KindAt.keep h hk
  | 50, _ => trivial
  | _ + 51, _ => trivial
theorem KP.keep {n0 : Nat} {W W' : World} {v : Value} {i : Nat} (h : KP n0 W v i) (hk : KeepL n0 W W') : KP n0 W' v i := KP.keep' hk i h
def MapS (n0 b : Nat) (v : Value) (W : World) (D : Nat → Prop) : Prop := ∃ g es clock ks, v = .map (some g) ∧ b ≤ g ∧ W.heap[g]? = some (.map es clock) ∧ Ents es.toList ks ∧ (∀ x E, kGet ks x = some E → ∃ k : Nat, x = (k : Int) ∧ KindAt n0 W E k) ∧ ∀ k : Nat, (∃ E, kGet ks (k : Int) = some E) ↔ D k
theorem MapS.ext {n0 b : Nat} {v : Value} {W W' : World} {D : Nat → Prop} (h : MapS n0 b v W D) (hb : Below W.heap.size W W') : MapS n0 b v W' D := by
  obtain ⟨g, es, clock, ks, h1, h2, h3, h4, h5, h6⟩ := h
  exact ⟨g, es, clock, ks, h1, h2, (hb.block _ (Array.getElem?_eq_some_iff.1 h3).1).trans h3, h4, fun x E hx => by
    obtain ⟨k, hk, hK⟩ := h5 x E hx
    exact ⟨k, hk, hK.keep (KeepL.of hb)⟩, h6⟩
/-- what holds while the region goes on -/
structure KJ (n0 : Nat) (w0 : World) (v1 v2 v3 : Value) (L : Nat → Bool) (a : Act) (W : World) : Prop where
  sz : a.tmps.size = 57
  df : a.defers = []
  n : n0 ≤ w0.heap.size
  b : Below w0.heap.size w0 W
  s1 : a.eval (.tmp 1) = v1
  s2 : a.eval (.tmp 2) = v2
  s3 : a.eval (.tmp 3) = v3
  f : ∀ i, i < 51 → L i = true → KP n0 W (a.eval (.tmp (dk i))) i
  m : L 0 = true → MapS n0 w0.heap.size (a.eval (.tmp 11)) W (DoneK L)
  dn : ∀ k, DoneK L k → L 0 = true
  t : (L 51 = true → a.eval (.tmp 56) = a.eval (.tmp 11)) ∧ (L 52 = true → L 51 = true ∧ a.eval (.tmp 0) = a.eval (.tmp 11)) ∧ (L 51 = true → ∀ i, i < 51 → L i = true)
theorem put_size (a : Act) (d : Nat) (x : Value) : (a.put (some d) x).tmps.size = a.tmps.size := by simp [Act.put]
theorem done_up {L : Nat → Bool} {i : Nat} (hi : isIns i = false) : DoneK (fun j => if j = i then true else L j) = DoneK L := by
  funext k
  apply propext
  constructor
  · rintro ⟨j, h1, h2⟩
    have hj := insK_is h1
    have hne : j ≠ i := fun e => by rw [e, hi] at hj; cases hj
    exact ⟨j, h1, by simpa [hne] using h2⟩
  · rintro ⟨j, h1, h2⟩
    exact ⟨j, h1, by simp [h2]⟩
theorem KJ.ext {n0 : Nat} {w0 : World} {v1 v2 v3 : Value} {L : Nat → Bool} {a : Act} {W W' : World} (H : KJ n0 w0 v1 v2 v3 L a W) (i d : Nat) (hi : i < 51) (h0 : i ≠ 0) (hI : isIns i = false) (hd : dk i = d) (hLi : L i = false) (hb : Below W.heap.size W W') (x : Value) (hx : KP n0 W' x i) :
    KJ n0 w0 v1 v2 v3 (fun j => if j = i then true else L j) (a.put (some d) x) W' := by
  have hdb := dk_base i hi
  rw [hd] at hdb
  have hn11 : d ≠ 11 := by rw [← hd]; exact fun e => dk_inj i (by omega) 0 (by omega) h0 e
  have h51 : L 51 = false := by
    cases h : L 51 with
    | false => rfl
    | true => rw [H.t.2.2 h i hi] at hLi; cases hLi
  have h52 : L 52 = false := by
    cases h : L 52 with
    | false => rfl
    | true => rw [(H.t.2.1 h).1] at h51; cases h51
  have ev : ∀ s, s ≠ d → (a.put (some d) x).eval (.tmp s) = a.eval (.tmp s) := fun s hs => Act.eval_put_ne a d s x (fun e => hs e.symm)
  refine ⟨by rw [put_size]; exact H.sz, H.df, H.n, H.b.step hb, by rw [ev 1 (by omega)]; exact H.s1, by rw [ev 2 (by omega)]; exact H.s2, by rw [ev 3 (by omega)]; exact H.s3, fun j hj hL => ?_, fun hL => ?_, fun k hk => ?_, ⟨fun h => ?_, fun h => ?_, fun h => ?_⟩⟩
  · by_cases e : j = i
    · subst e
      rw [hd]
      by_cases hlt : d < a.tmps.size
      · rw [Act.eval_put_same a d x hlt]; exact hx
      · exfalso
        have := H.sz
        have h57 : ∀ i, i < 51 → isIns i = false → dk i < 57 := by decide
        have := h57 j hj hI
        omega
    · rw [ev (dk j) (by rw [← hd]; exact dk_inj j (by omega) i (by omega) e)]
      have hL' : L j = true := by simpa [e] using hL
      exact (H.f j hj hL').keep (KeepL.of hb)
  · rw [done_up hI, ev 11 (by omega)]
    exact (H.m (by simpa [Ne.symm h0] using hL)).ext hb
  · rw [done_up hI] at hk
    have := H.dn k hk
    simp [this]
  · exact (upF h51 (by omega) h).elim
  · exact (upF h52 (by omega) h).elim
  · exact (upF h51 (by omega) h).elim
/-- the map is made -/
theorem KJ.mk0 {n0 : Nat} {w0 : World} {v1 v2 v3 : Value} {L : Nat → Bool} {a : Act} {W : World} (H : KJ n0 w0 v1 v2 v3 L a W) (hLi : L 0 = false) :
    KJ n0 w0 v1 v2 v3 (fun j => if j = 0 then true else L j) (a.put (some 11) (.map (some W.heap.size))) (W.alloc (.map #[] 0)) := by
  have hb : Below W.heap.size W (W.alloc (.map #[] 0)) := (Below.refl _ _).alloc (Nat.le_refl _) _
  have h51 : L 51 = false := by
    cases h : L 51 with
    | false => rfl
    | true => rw [H.t.2.2 h 0 (by omega)] at hLi; cases hLi
  have h52 : L 52 = false := by
    cases h : L 52 with
    | false => rfl
    | true => rw [(H.t.2.1 h).1] at h51; cases h51
  have ev : ∀ s, s ≠ 11 → (a.put (some 11) (.map (some W.heap.size))).eval (.tmp s) = a.eval (.tmp s) := fun s hs => Act.eval_put_ne a 11 s _ (fun e => hs e.symm)
  refine ⟨by rw [put_size]; exact H.sz, H.df, H.n, H.b.step hb, by rw [ev 1 (by decide)]; exact H.s1, by rw [ev 2 (by decide)]; exact H.s2, by rw [ev 3 (by decide)]; exact H.s3, fun j hj hL => ?_, fun hL => ?_, fun k hk => ?_, ⟨fun h => ?_, fun h => ?_, fun h => ?_⟩⟩
  · by_cases e : j = 0
    · subst e; exact trivial
    · rw [ev (dk j) (fun h => dk_inj j (by omega) 0 (by omega) e h)]
      have hL' : L j = true := by simpa [e] using hL
      exact (H.f j hj hL').keep (KeepL.of hb)
  · rw [Act.eval_put_same a 11 _ (by have := H.sz; omega), done_up (by rfl)]
    refine ⟨_, #[], 0, [], rfl, H.b.size, World.alloc_heap_new W _, rfl, fun x E h => by simp [kGet] at h, fun k => ⟨fun ⟨E, h⟩ => by simp [kGet] at h, fun h => ?_⟩⟩
    rw [H.dn k h] at hLi; cases hLi
  · rfl
  · exact (upF h51 (by omega) h).elim
  · exact (upF h52 (by omega) h).elim
  · exact (upF h51 (by omega) h).elim
/-- an entry is put in -/
theorem KJ.ins {n0 : Nat} {w0 : World} {v1 v2 v3 : Value} {L : Nat → Bool} {a : Act} {W : World} (H : KJ n0 w0 v1 v2 v3 L a W) (i k : Nat) (hi : insK k = some i) (hLi : L i = false) (h0 : L 0 = true) (E : Value) (hE : KindAt n0 W E k) (mt kt et : TypeId) (hT : Tryz.prog.underlying mt = some (.map kt et)) (hK : Tryz.prog.underlying kt = some (.int .i64)) :
    ∃ W', (Instr.mapUpdate mt (a.eval (.tmp 11)) (.int .i64 (k : Int)) E).run Tryz.prog W = .ok () W' ∧ KJ n0 w0 v1 v2 v3 (fun j => if j = i then true else L j) (a.put none undef) W' := by
  obtain ⟨g, es, clock, ks, h1, h2, h3, h4, h5, h6⟩ := H.m h0
  have hnone : kGet ks (k : Int) = none := by
    cases h : kGet ks (k : Int) with
    | none => rfl
    | some E' =>
      obtain ⟨j, hj1, hj2⟩ := (h6 k).1 ⟨E', h⟩
      rw [hi] at hj1
      injection hj1 with hj1
      rw [← hj1, hLi] at hj2; cases hj2
  have hrun := run_mapNew hT hK h3 h4 (k : Int) E hnone
  have hlt : g < W.heap.size := (Array.getElem?_eq_some_iff.1 h3).1
  rw [← h1] at hrun
  refine ⟨_, hrun, ?_⟩
  have hil := insK_lt hi
  have h51 : L 51 = false := by
    cases h : L 51 with
    | false => rfl
    | true => rw [H.t.2.2 h i hil.1] at hLi; cases hLi
  have h52 : L 52 = false := by
    cases h : L 52 with
    | false => rfl
    | true => rw [(H.t.2.1 h).1] at h51; cases h51
  have hkeep : KeepL n0 W (W.putObj g (.map (es.push { key := .int .i64 (k : Int), val := E, born := clock }) (clock + 1))) := by
    refine ⟨by simp, fun j cs t fr _ hj => ?_⟩
    have hne : j ≠ g := fun e => by rw [e, h3] at hj; cases hj
    exact (World.putObj_heap_other (by omega)).trans hj
  have hnew : (W.putObj g (.map (es.push { key := .int .i64 (k : Int), val := E, born := clock }) (clock + 1))).heap[g]? = some (.map (es.push { key := .int .i64 (k : Int), val := E, born := clock }) (clock + 1)) := World.putObj_heap_same hlt
  refine ⟨H.sz, H.df, H.n, ?_, H.s1, H.s2, H.s3, fun j hj hL => ?_, fun hL => ?_, fun k' hk' => ?_, ⟨fun h => ?_, fun h => ?_, fun h => ?_⟩⟩
  · exact H.b.grown (grownBy_putObj' W g _) H.b.size (fun k e => by cases e; exact h2)
  · by_cases e : j = i
    · subst e
      have hii := insK_is hi
      unfold KP
      split <;> first | exact trivial | (exfalso; revert hii; decide)
    · have hL' : L j = true := by simpa [e] using hL
      exact (H.f j hj hL').keep hkeep
  · refine ⟨g, _, _, _, h1, h2, hnew, ents_push h4 (k : Int) E clock, fun x E' hx => ?_, fun k' => ?_⟩
    · rw [kGet_snoc ks (k : Int) x E hnone] at hx
      split at hx
      · rename_i hxk
        injection hx with hx
        exact ⟨k, hxk, by rw [← hx]; exact hE.keep hkeep⟩
      · obtain ⟨k', h', h''⟩ := h5 x E' hx
        exact ⟨k', h', h''.keep hkeep⟩
    · rw [kGet_snoc ks (k : Int) (k' : Int) E hnone]
      constructor
      · rintro ⟨E', hx⟩
        split at hx
        · rename_i hxk
          have : k' = k := by omega
          exact ⟨i, by rw [this]; exact hi, by simp⟩
        · obtain ⟨j, hj1, hj2⟩ := (h6 k').1 ⟨E', hx⟩
          exact ⟨j, hj1, by simp [hj2]⟩
      · rintro ⟨j, hj1, hj2⟩
        by_cases hkk : k' = k
        · exact ⟨E, if_pos (by omega)⟩
        · have hji : j ≠ i := fun e => hkk (insK_inj (by rw [hj1, e]) hi)
          obtain ⟨E', h'⟩ := (h6 k').2 ⟨j, hj1, by simpa [hji] using hj2⟩
          exact ⟨E', by rw [if_neg (by omega)]; exact h'⟩
  · simp [h0]
  · exact (upF h51 (by omega) h).elim
  · exact (upF h52 (by omega) h).elim
  · exact (upF h51 (by omega) h).elim
theorem exec_moveK {o : Oper} {a : Act} {W : World} {x : Operand} (ho : o.op = .move x ∨ o.op = .assign x) : (execOp a.eval o).run Tryz.prog W = .ok (.value (a.eval x)) W := by
  unfold execOp
  rcases ho with ho | ho <;> simp [ho]
end Go.Proofs.YtimgggpojbpfkaaGreatDoor

/- algo.kinds: the walk. -/
namespace Go.Proofs.YtimgggpojbpfkaaGreatDoor
open Go.RowKit Go.Shelf
set_option linter.unusedVariables false
set_option linter.unusedSimpArgs false
set_option maxRecDepth 100000
def isF (v : Value) : Prop := ∃ F cap, v = .func F #[] cap
theorem fun_fit {n0 : Nat} {W : World} {v : Value} {p : Nat → Bool} (h : FitV n0 W v p) : isF v := by obtain ⟨F, cap, h1, _⟩ := h; exact ⟨_, _, h1⟩
theorem fun_room {n0 : Nat} {W : World} {v : Value} {r : Nat → Int × Int} (h : RoomV n0 W v r) : isF v := by obtain ⟨F, cap, h1, _⟩ := h; exact ⟨_, _, h1⟩
theorem fun_aes {n0 : Nat} {W : World} {v : Value} {F : Nat} (h : ByAes n0 W v F) : isF v := by obtain ⟨g, t, _, h1, _⟩ := h; exact ⟨_, _, h1⟩
theorem fun_key {n0 : Nat} {W : World} {v : Value} {F : Nat} (h : ByKey n0 W v F) : isF v := by obtain ⟨g, t, _, h1, _⟩ := h; exact ⟨_, _, h1⟩
theorem bldW (r d : Value) (hr : isF r) (hd : isF d) (W : World) : (Instr.build 44 #[(0, r), (1, d)]).run Tryz.prog W = .ok (.agg #[r, d]) W := by
  obtain ⟨F, c, rfl⟩ := hr
  obtain ⟨F', c', rfl⟩ := hd
  kernel_rfl
theorem bldK1 (c : Int) (k i r d : Value) (hk : isF k) (hi : isF i) (hr : isF r) (hd : isF d) (W : World) : (Instr.build 46 #[(0, .int .i64 c), (1, k), (2, i), (4, .agg #[r, d])]).run Tryz.prog W = .ok (.agg #[.int .i64 c, k, i, .int .i64 0, r, d, .nilFunc, .nilFunc]) W := by
  obtain ⟨F, c1, rfl⟩ := hk
  obtain ⟨F2, c2, rfl⟩ := hi
  obtain ⟨F3, c3, rfl⟩ := hr
  obtain ⟨F4, c4, rfl⟩ := hd
  kernel_rfl
theorem bldK2 (c : Int) (k i r d r2 d2 : Value) (hk : isF k) (hi : isF i) (hr : isF r) (hd : isF d) (hr2 : isF r2) (hd2 : isF d2) (W : World) : (Instr.build 46 #[(0, .int .i64 c), (1, k), (2, i), (4, .agg #[r, d]), (5, .agg #[r2, d2])]).run Tryz.prog W = .ok (.agg #[.int .i64 c, k, i, .int .i64 0, r, d, r2, d2]) W := by
  obtain ⟨F, c1, rfl⟩ := hk
  obtain ⟨F2, c2, rfl⟩ := hi
  obtain ⟨F3, c3, rfl⟩ := hr
  obtain ⟨F4, c4, rfl⟩ := hd
  obtain ⟨F5, c5, rfl⟩ := hr2
  obtain ⟨F6, c6, rfl⟩ := hd2
  kernel_rfl
theorem bldK3 (c : Int) (k i r d r2 d2 : Value) (hk : isF k) (hi : isF i) (hr : isF r) (hd : isF d) (hr2 : isF r2) (hd2 : isF d2) (W : World) : (Instr.build 46 #[(0, .int .i64 c), (1, k), (2, i), (3, .int .i64 1000), (4, .agg #[r, d]), (5, .agg #[r2, d2])]).run Tryz.prog W = .ok (.agg #[.int .i64 c, k, i, .int .i64 1000, r, d, r2, d2]) W := by
  obtain ⟨F, c1, rfl⟩ := hk
  obtain ⟨F2, c2, rfl⟩ := hi
  obtain ⟨F3, c3, rfl⟩ := hr
  obtain ⟨F4, c4, rfl⟩ := hd
  obtain ⟨F5, c5, rfl⟩ := hr2
  obtain ⟨F6, c6, rfl⟩ := hd2
  kernel_rfl
theorem exec_bldF {o : Oper} {a : Act} {W : World} {t : TypeId} {parts : Array (Nat × Operand)} {v : Value} (ho : o.op = .build t parts) (hrun : (Instr.build t (parts.map fun (i, x) => (i, a.eval x))).run Tryz.prog W = .ok v W) :
    (execOp a.eval o).run Tryz.prog W = .ok (.value v) W := by
  unfold execOp
  simp only [ho, Sem.run_bind, hrun, Result.andThen_ok, Sem.run_pure]
theorem Act.eval_const' (a : Act) (v : Value) : a.eval (.const v) = v := rfl
theorem allEdges {es : Array Edge} {L : Nat → Bool} (n : Nat) (h : ((List.range n).all fun i => es.toList.any fun e => Region.binds .any e && e.on == i) = true) (hd : ∀ e ∈ es, Region.binds .any e = true → L e.on = true) : ∀ i, i < n → L i = true := by
  intro i hi
  rw [List.all_eq_true] at h
  have := h i (by simpa using hi)
  rw [List.any_eq_true] at this
  obtain ⟨e, he, h2⟩ := this
  simp only [Bool.and_eq_true, beq_iff_eq] at h2
  rw [← h2.2]
  exact hd e (by simpa using he) h2.1
theorem KJ.t51 {n0 : Nat} {w0 : World} {v1 v2 v3 : Value} {L : Nat → Bool} {a : Act} {W : World} (H : KJ n0 w0 v1 v2 v3 L a W) (hLi : L 51 = false) (hall : ∀ i, i < 51 → L i = true) :
    KJ n0 w0 v1 v2 v3 (fun j => if j = 51 then true else L j) (a.put (some 56) (a.eval (.tmp 11))) W := by
  have h52 : L 52 = false := by
    cases h : L 52 with
    | false => rfl
    | true => rw [(H.t.2.1 h).1] at hLi; cases hLi
  have ev : ∀ s, s ≠ 56 → (a.put (some 56) (a.eval (.tmp 11))).eval (.tmp s) = a.eval (.tmp s) := fun s hs => Act.eval_put_ne a 56 s _ (fun e => hs e.symm)
  have hdk : ∀ i, i < 51 → dk i ≠ 56 := by decide
  refine ⟨by rw [put_size]; exact H.sz, H.df, H.n, H.b, by rw [ev 1 (by decide)]; exact H.s1, by rw [ev 2 (by decide)]; exact H.s2, by rw [ev 3 (by decide)]; exact H.s3, fun j hj hL => ?_, fun hL => ?_, fun k hk => ?_, ⟨fun h => ?_, fun h => ?_, fun _ i hi => ?_⟩⟩
  · rw [ev (dk j) (hdk j hj)]
    exact H.f j hj (hall j hj)
  · rw [done_up rfl, ev 11 (by decide)]
    exact H.m (hall 0 (by omega))
  · have := hall 0 (by omega)
    simp [this]
  · rw [Act.eval_put_same a 56 _ (by have := H.sz; omega), ev 11 (by decide)]
  · exact (upF h52 (by omega) h).elim
  · have : i ≠ 51 := by omega
    simpa [this] using hall i hi
theorem KJ.t52 {n0 : Nat} {w0 : World} {v1 v2 v3 : Value} {L : Nat → Bool} {a : Act} {W : World} (H : KJ n0 w0 v1 v2 v3 L a W) (hLi : L 52 = false) (h51 : L 51 = true) :
    KJ n0 w0 v1 v2 v3 (fun j => if j = 52 then true else L j) (a.put (some 0) (a.eval (.tmp 56))) W := by
  have ev : ∀ s, s ≠ 0 → (a.put (some 0) (a.eval (.tmp 56))).eval (.tmp s) = a.eval (.tmp s) := fun s hs => Act.eval_put_ne a 0 s _ (fun e => hs e.symm)
  have hdk : ∀ i, i < 51 → dk i ≠ 0 := by decide
  have hall := H.t.2.2 h51
  refine ⟨by rw [put_size]; exact H.sz, H.df, H.n, H.b, by rw [ev 1 (by decide)]; exact H.s1, by rw [ev 2 (by decide)]; exact H.s2, by rw [ev 3 (by decide)]; exact H.s3, fun j hj hL => ?_, fun hL => ?_, fun k hk => ?_, ⟨fun h => ?_, fun h => ⟨?_, ?_⟩, fun _ i hi => ?_⟩⟩
  · rw [ev (dk j) (hdk j hj)]
    exact H.f j hj (hall j hj)
  · rw [done_up rfl, ev 11 (by decide)]
    exact H.m (hall 0 (by omega))
  · have := hall 0 (by omega)
    simp [this]
  · rw [ev 56 (by decide), ev 11 (by decide)]
    exact H.t.1 h51
  · simp [h51]
  · rw [Act.eval_put_same a 0 _ (by have := H.sz; omega), ev 11 (by decide)]
    exact H.t.1 h51
  · have : i ≠ 52 := by omega
    simpa [this] using hall i hi
/-- the map of what is known -/
def KindsV (n0 : Nat) (W : World) (v : Value) : Prop := ∃ g es clock ks, v = .map (some g) ∧ W.heap[g]? = some (.map es clock) ∧ Ents es.toList ks ∧ (∀ x : Int, x < 1 ∨ 6 < x → kGet ks x = none) ∧ ∀ k : Nat, 1 ≤ k → k ≤ 6 → ∃ E, kGet ks (k : Int) = some E ∧ KindAt n0 W E k
theorem done_all {L : Nat → Bool} (hL : ∀ j, L j = true) (k : Nat) : DoneK L k ↔ 1 ≤ k ∧ k ≤ 6 := by
  constructor
  · rintro ⟨i, h, _⟩
    unfold insK at h
    split at h <;> first | omega | cases h
  · rintro ⟨h1, h2⟩
    have : k = 1 ∨ k = 2 ∨ k = 3 ∨ k = 4 ∨ k = 5 ∨ k = 6 := by omega
    rcases this with rfl | rfl | rfl | rfl | rfl | rfl <;> exact ⟨_, rfl, hL _⟩
theorem KJ.end {n0 : Nat} {w0 : World} {v1 v2 v3 : Value} {L : Nat → Bool} {a : Act} {W : World} (H : KJ n0 w0 v1 v2 v3 L a W) (hL : ∀ j, L j = true) : KindsV n0 W (a.eval (.tmp 0)) := by
  obtain ⟨g, es, clock, ks, h1, h2, h3, h4, h5, h6⟩ := H.m (hL 0)
  rw [(H.t.2.1 (hL 52)).2]
  refine ⟨g, es, clock, ks, h1, h3, h4, fun x hx => ?_, fun k hk1 hk2 => ?_⟩
  · cases h : kGet ks x with
    | none => rfl
    | some E =>
      obtain ⟨k, rfl, hK⟩ := h5 x E h
      have := (done_all hL k).1 ((h6 k).1 ⟨E, h⟩)
      omega
  · obtain ⟨E, hE⟩ := (h6 k).2 ((done_all hL k).2 ⟨hk1, hk2⟩)
    obtain ⟨k', hk', hK⟩ := h5 _ E hE
    have : k' = k := by omega
    subst this
    exact ⟨E, hE, hK⟩
set_option maxHeartbeats 8000000 in
theorem kinds_any (n0 : Nat) (w : World) (h0 : n0 ≤ w.heap.size) : Calls Tryz.prog 11 #[] w fun e w' => ∃ v, e = .returned v ∧ KindsV n0 w' v ∧ Below w.heap.size w w' := by
  have hz : ∀ W, (zeroValue 44).run Tryz.prog W = .ok (.agg #[.nilFunc, .nilFunc]) W := fun W => by kernel_rfl
  go_enter Tryz.func11, Tryz.ntmps11
  go_wp2_with fail
  have I0 : IntsV n0 (w.alloc (.cells #[.int .i64 0] 3)) (.slice (some ⟨w.heap.size, 0, none⟩) 1 1) [0] := ⟨_, _, by omega, rfl, heap_alloc_new' w _⟩
  have B0 : Hid (Below w.heap.size w (w.alloc (.cells #[.int .i64 0] 3))) := (Below.refl _ _).alloc (Nat.le_refl _) _
  generalize w.alloc _ = W0 at I0 B0 ⊢
  refine (either_any n0 _ [0] W0 (by (have := B0.out.size; omega)) I0 (by decide)).mono ?_
  rintro e w1 ⟨v1, rfl, hv1, hb1⟩
  have V1 := Lib.hid hv1
  have B1 := Lib.hid (B0.out.step hb1)
  clear hv1 hb1 I0 B0
  go_wp2_with fail
  have I1 : IntsV n0 (w1.alloc (.cells #[.int .i64 16, .int .i64 32] 3)) (.slice (some ⟨w1.heap.size, 0, none⟩) 2 2) [16, 32] := ⟨_, _, by (have := B1.out.size; omega), rfl, heap_alloc_new' w1 _⟩
  have X1 : Hid (Below w1.heap.size w1 (w1.alloc (.cells #[.int .i64 16, .int .i64 32] 3))) := (Below.refl _ _).alloc (Nat.le_refl _) _
  generalize w1.alloc _ = W1 at I1 X1 ⊢
  refine (either_any n0 _ [16, 32] W1 (by (have := B1.out.size; have := X1.out.size; omega)) I1 (by decide)).mono ?_
  rintro e w2 ⟨v2, rfl, hv2, hb2⟩
  have V2 := Lib.hid hv2
  have X2 := Lib.hid (X1.out.step hb2)
  have V1 := Lib.hid (V1.out.keep (KeepL.of X2.out))
  have B2 := Lib.hid (B1.out.step X2.out)
  clear hv2 hb2 I1 X1 X2 B1
  go_wp2_with fail
  refine (less_any n0 0 w2 (by (have := B2.out.size; omega)) (by omega)).mono ?_
  rintro e w3 ⟨v3, rfl, hv3, hb3⟩
  have V3 := Lib.hid hv3
  have V1 := Lib.hid (V1.out.keep (KeepL.of hb3))
  have V2 := Lib.hid (V2.out.keep (KeepL.of hb3))
  have B3 := Lib.hid (B2.out.step hb3)
  clear hv3 hb3 B2
  go_wp2_with fail
  refine (byAES_any n0 15 w3 (by (have := B3.out.size; omega))).mono ?_
  rintro e w4 ⟨v4, rfl, hv4, hb4⟩
  have V4 := Lib.hid hv4
  have V1 := Lib.hid (V1.out.keep (KeepL.of hb4))
  have V2 := Lib.hid (V2.out.keep (KeepL.of hb4))
  have V3 := Lib.hid (V3.out.keep (KeepL.of hb4))
  have B4 := Lib.hid (B3.out.step hb4)
  clear hv4 hb4 B3
  have hbd := bldW v3 v4 (fun_room V3.out) (fun_aes V4.out)
  have h1v : ∀ v ∈ [v3, v4], v.oneCell' = true := by
    obtain ⟨F, c, rfl⟩ := fun_room V3.out
    obtain ⟨F', c', rfl⟩ := fun_aes V4.out
    intro v hv
    simp only [List.mem_cons, List.not_mem_nil, or_false] at hv
    rcases hv with rfl | rfl <;> rfl
  go_wp2_with (first
    | (refine wpList_run (o := ⟨some 10, _, _, _, _, _⟩) rfl (v := .agg #[v3, v4]) (w' := w4) (exec_bldF rfl (by simp only [List.map_toArray, List.map_cons, List.map_nil]; exact hbd w4)) ?_)
    | (refine wpList_st rfl 44 (.tmp 3) (.tmp 10) rfl (store_arr (cs := [v3, v4]) (old := [.nilFunc, .nilFunc]) (by kernel_rfl) h1v (heap_alloc_new' w4 _) rfl) ?_
       generalize hV : World.setRow _ _ _ = W5
       have h3 := heap_of_setRow hV (heap_alloc_new' w4 _)
       have X5 : Hid (Below w4.heap.size w4 W5) := ((Below.refl _ w4).alloc (Nat.le_refl _) _).trans (below_of_setRow hV (Nat.le_refl _) (by simp))
       clear hV)
    | fail)
  have hv1 : FitV n0 W5 v1 _ := V1.out.keep (KeepL.of X5.out)
  have hv2 : FitV n0 W5 v2 _ := V2.out.keep (KeepL.of X5.out)
  have hr3 : RoomV n0 W5 v3 _ := V3.out.keep (KeepL.of X5.out)
  have hd3 : ByAes n0 W5 v4 _ := V4.out.keep (KeepL.of X5.out)
  have B5 := Lib.hid (B4.out.step X5.out)
  obtain ⟨r3, hr3e⟩ : ∃ x, x = v3 := ⟨_, rfl⟩
  obtain ⟨d3, hd3e⟩ : ∃ x, x = v4 := ⟨_, rfl⟩
  rw [← hr3e] at h3 hr3
  rw [← hd3e] at h3 hd3
  clear V1 V2 V3 V4 X5 B4 hbd h1v hz hr3e hd3e
  refine reg_inv (KJ n0 W5 v1 v2 (.pointer (some ⟨w4.heap.size, 0, none⟩))) (by kernel_rfl) (by kernel_rfl) ?_
    (And.intro ?_ (And.intro ?_ (And.intro ?_ (And.intro ?_ (And.intro ?_ (And.intro ?_ (And.intro ?_ (And.intro ?_ (And.intro ?_ (And.intro ?_ (And.intro ?_ (And.intro ?_ (And.intro ?_ (And.intro ?_ (And.intro ?_ (And.intro ?_ (And.intro ?_ (And.intro ?_ (And.intro ?_ (And.intro ?_ (And.intro ?_ (And.intro ?_ (And.intro ?_ (And.intro ?_ (And.intro ?_ (And.intro ?_ (And.intro ?_ (And.intro ?_ (And.intro ?_ (And.intro ?_ (And.intro ?_ (And.intro ?_ (And.intro ?_ (And.intro ?_ (And.intro ?_ (And.intro ?_ (And.intro ?_ (And.intro ?_ (And.intro ?_ (And.intro ?_ (And.intro ?_ (And.intro ?_ (And.intro ?_ (And.intro ?_ (And.intro ?_ (And.intro ?_ (And.intro ?_ (And.intro ?_ (And.intro ?_ (And.intro ?_ (And.intro ?_ (And.intro ?_ (And.intro ?_ trivial))))))))))))))))))))))))))))))))))))))))))))))))))))) ?_
  · intro L hL
    have no : ∀ j, j < 53 → L j = true → False := fun j hj h => by rw [hL j hj] at h; cases h
    exact ⟨rfl, rfl, Nat.le_trans h0 B5.out.size, (Below.refl _ _).drew, rfl, rfl, rfl, fun i hi h => (no i (by omega) h).elim, fun h => (no 0 (by decide) h).elim, fun k ⟨i, h1, h2⟩ => (no i (by have := insK_lt h1; omega) h2).elim, ⟨fun h => (no 51 (by decide) h).elim, fun h => (no 52 (by decide) h).elim, fun h => (no 51 (by decide) h).elim⟩⟩
  · intro L a W H hLi hd K0 hK
    refine step_valF rfl (v := .map (some W.heap.size)) (w' := W.alloc (.map #[] 0)) (by rfl) ?_
    exact hK.out _ _ (H.mk0 hLi)
  · intro L a W H hLi hd K0 hK
    refine step_valF rfl (exec_moveK (.inl rfl)) ?_
    exact hK.out _ _ (H.ext 1 12 (by omega) (by omega) rfl rfl hLi (Below.refl _ _) _ (by rw [H.s1]; exact hv1.keep (KeepL.of H.b)))
  · intro L a W H hLi hd K0 hK
    refine step_valF rfl (exec_moveK (.inl rfl)) ?_
    exact hK.out _ _ (H.ext 2 13 (by omega) (by omega) rfl rfl hLi (Below.refl _ _) _ (by rw [H.s1]; exact hv1.keep (KeepL.of H.b)))
  · intro L a W H hLi hd K0 hK
    refine step_callF rfl 16 #[.const (.int .i64 32)] _ rfl (enters_of Tryz.func16 (by kernel_rfl) rfl) (by first | (simp only [List.map_toArray, List.map_cons, List.map_nil]; done) | (simp only [List.map_toArray, List.map_cons, List.map_nil]; rfl)) (always_any n0 32 W (Nat.le_trans H.n H.b.size)) ?_
    rintro e W' ⟨v, rfl, hv, hb⟩
    exact ⟨v, rfl, hK.out _ _ (H.ext 3 14 (by omega) (by omega) rfl rfl hLi hb v hv)⟩
  · intro L a W H hLi hd K0 hK
    have hr := (H.f 3 (by omega) (hd ⟨3, .data⟩ (by simp) rfl))
    refine step_valF rfl (v := .agg #[(a.eval (.tmp 14)), (.func (.func 17) #[] #[])]) (w' := W) (exec_bldF rfl (by simp only [List.map_toArray, List.map_cons, List.map_nil]; exact bldW (a.eval (.tmp 14)) (.func (.func 17) #[] #[]) (fun_room hr) ⟨_, _, rfl⟩ W)) ?_
    exact hK.out _ _ (H.ext 4 15 (by omega) (by omega) rfl rfl hLi (Below.refl _ _) _ ⟨_, _, rfl, hr, rfl⟩)
  · intro L a W H hLi hd K0 hK
    have hk := (H.f 1 (by omega) (hd ⟨1, .data⟩ (by simp) rfl))
    have hi := (H.f 2 (by omega) (hd ⟨2, .data⟩ (by simp) rfl))
    obtain ⟨r1, d1, e1, hr1, hd1⟩ := (show WayV n0 W (a.eval (.tmp 15)) 1 false from (H.f 4 (by omega) (hd ⟨4, .data⟩ (by simp) rfl)))
    refine step_valF rfl (v := .agg #[.int .i64 1, a.eval (.tmp 12), a.eval (.tmp 13), .int .i64 0, r1, d1, .nilFunc, .nilFunc]) (w' := W) (exec_bldF rfl (by
      simp only [List.map_toArray, List.map_cons, List.map_nil, Act.eval_const']
      rw [e1]
      exact bldK1 1 _ _ r1 d1 (fun_fit hk) (fun_fit hi) (fun_room hr1) ⟨_, _, hd1⟩ W)) ?_
    exact hK.out _ _ (H.ext 5 16 (by omega) (by omega) rfl rfl hLi (Below.refl _ _) _ ⟨_, _, _, _, _, _, rfl, hk, hi, ⟨hr1, hd1⟩, ⟨rfl, rfl⟩⟩)
  · intro L a W H hLi hd K0 hK
    obtain ⟨W', hrun, hJ⟩ := H.ins 6 1 rfl hLi (hd ⟨0, .data⟩ (by simp) rfl) (a.eval (.tmp 16)) (H.f 5 (by omega) (hd ⟨5, .data⟩ (by simp) rfl)) 49 3 46 Tryz.underlying49 Tryz.underlying3
    refine step_insF rfl 49 (.tmp 11) (.const (.int .i64 1)) (.tmp 16) rfl hrun ?_
    exact hK.out _ _ hJ
  · intro L a W H hLi hd K0 hK
    refine step_callF rfl 18 #[.const (.int .i64 1), .const (.int .i64 100)] _ rfl (enters_of Tryz.func18 (by kernel_rfl) rfl) (by first | (simp only [List.map_toArray, List.map_cons, List.map_nil]; done) | (simp only [List.map_toArray, List.map_cons, List.map_nil]; rfl)) (among_any n0 1 100 W (Nat.le_trans H.n H.b.size)) ?_
    rintro e W' ⟨v, rfl, hv, hb⟩
    exact ⟨v, rfl, hK.out _ _ (H.ext 7 17 (by omega) (by omega) rfl rfl hLi hb v hv)⟩
  · intro L a W H hLi hd K0 hK
    refine step_valF rfl (exec_moveK (.inl rfl)) ?_
    exact hK.out _ _ (H.ext 8 18 (by omega) (by omega) rfl rfl hLi (Below.refl _ _) _ (by rw [H.s1]; exact hv1.keep (KeepL.of H.b)))
  · intro L a W H hLi hd K0 hK
    refine step_callF rfl 16 #[.const (.int .i64 32)] _ rfl (enters_of Tryz.func16 (by kernel_rfl) rfl) (by first | (simp only [List.map_toArray, List.map_cons, List.map_nil]; done) | (simp only [List.map_toArray, List.map_cons, List.map_nil]; rfl)) (always_any n0 32 W (Nat.le_trans H.n H.b.size)) ?_
    rintro e W' ⟨v, rfl, hv, hb⟩
    exact ⟨v, rfl, hK.out _ _ (H.ext 9 19 (by omega) (by omega) rfl rfl hLi hb v hv)⟩
  · intro L a W H hLi hd K0 hK
    have hr := (H.f 9 (by omega) (hd ⟨9, .data⟩ (by simp) rfl))
    refine step_valF rfl (v := .agg #[(a.eval (.tmp 19)), (.func (.func 19) #[] #[])]) (w' := W) (exec_bldF rfl (by simp only [List.map_toArray, List.map_cons, List.map_nil]; exact bldW (a.eval (.tmp 19)) (.func (.func 19) #[] #[]) (fun_room hr) ⟨_, _, rfl⟩ W)) ?_
    exact hK.out _ _ (H.ext 10 20 (by omega) (by omega) rfl rfl hLi (Below.refl _ _) _ ⟨_, _, rfl, hr, rfl⟩)
  · intro L a W H hLi hd K0 hK
    have hk := (H.f 7 (by omega) (hd ⟨7, .data⟩ (by simp) rfl))
    have hi := (H.f 8 (by omega) (hd ⟨8, .data⟩ (by simp) rfl))
    obtain ⟨r1, d1, e1, hr1, hd1⟩ := (show WayV n0 W (a.eval (.tmp 20)) 2 false from (H.f 10 (by omega) (hd ⟨10, .data⟩ (by simp) rfl)))
    refine step_valF rfl (v := .agg #[.int .i64 1, a.eval (.tmp 17), a.eval (.tmp 18), .int .i64 0, r1, d1, .nilFunc, .nilFunc]) (w' := W) (exec_bldF rfl (by
      simp only [List.map_toArray, List.map_cons, List.map_nil, Act.eval_const']
      rw [e1]
      exact bldK1 1 _ _ r1 d1 (fun_fit hk) (fun_fit hi) (fun_room hr1) ⟨_, _, hd1⟩ W)) ?_
    exact hK.out _ _ (H.ext 11 21 (by omega) (by omega) rfl rfl hLi (Below.refl _ _) _ ⟨_, _, _, _, _, _, rfl, hk, hi, ⟨hr1, hd1⟩, ⟨rfl, rfl⟩⟩)
  · intro L a W H hLi hd K0 hK
    obtain ⟨W', hrun, hJ⟩ := H.ins 12 2 rfl hLi (hd ⟨0, .data⟩ (by simp) rfl) (a.eval (.tmp 21)) (H.f 11 (by omega) (hd ⟨11, .data⟩ (by simp) rfl)) 49 3 46 Tryz.underlying49 Tryz.underlying3
    refine step_insF rfl 49 (.tmp 11) (.const (.int .i64 2)) (.tmp 21) rfl hrun ?_
    exact hK.out _ _ hJ
  · intro L a W H hLi hd K0 hK
    refine step_valF rfl (exec_moveK (.inl rfl)) ?_
    exact hK.out _ _ (H.ext 13 22 (by omega) (by omega) rfl rfl hLi (Below.refl _ _) _ (by rw [H.s2]; exact hv2.keep (KeepL.of H.b)))
  · intro L a W H hLi hd K0 hK
    refine step_valF rfl (v := .slice (some ⟨W.heap.size, 0, none⟩) 1 1) (w' := W.alloc (.cells #[.int .i64 16] 3)) (by kernel_rfl) ?_
    exact hK.out _ _ (H.ext 14 23 (by omega) (by omega) rfl rfl hLi ((Below.refl _ _).alloc (Nat.le_refl _) _) _ ⟨W.heap.size, _, Nat.le_trans H.n H.b.size, rfl, heap_alloc_new' W _⟩)
  · intro L a W H hLi hd K0 hK
    refine step_callF rfl 12 #[.tmp 23] _ rfl (enters_of Tryz.func12 (by kernel_rfl) rfl) (by first | (simp only [List.map_toArray, List.map_cons, List.map_nil]; done) | (simp only [List.map_toArray, List.map_cons, List.map_nil]; rfl)) (either_any n0 (a.eval (.tmp 23)) [16] W (Nat.le_trans H.n H.b.size) (H.f 14 (by omega) (hd ⟨14, .data⟩ (by simp) rfl)) (by decide)) ?_
    rintro e W' ⟨v, rfl, hv, hb⟩
    exact ⟨v, rfl, hK.out _ _ (H.ext 15 24 (by omega) (by omega) rfl rfl hLi hb v hv)⟩
  · intro L a W H hLi hd K0 hK
    refine step_ldF rfl 44 (.tmp 3) rfl (by rw [H.s3]; exact load_arr (cs := [r3, d3]) Tryz.underlying44 rfl (by kernel_rfl) ((H.b.block _ (lt_of_heap h3)).trans h3)) ?_
    exact hK.out _ _ (H.ext 16 25 (by omega) (by omega) rfl rfl hLi (Below.refl _ _) _ ⟨r3, d3, rfl, hr3.keep (KeepL.of H.b), hd3.keep (KeepL.of H.b)⟩)
  · intro L a W H hLi hd K0 hK
    refine step_ldF rfl 44 (.tmp 3) rfl (by rw [H.s3]; exact load_arr (cs := [r3, d3]) Tryz.underlying44 rfl (by kernel_rfl) ((H.b.block _ (lt_of_heap h3)).trans h3)) ?_
    exact hK.out _ _ (H.ext 17 26 (by omega) (by omega) rfl rfl hLi (Below.refl _ _) _ ⟨r3, d3, rfl, hr3.keep (KeepL.of H.b), hd3.keep (KeepL.of H.b)⟩)
  · intro L a W H hLi hd K0 hK
    have hk := (H.f 13 (by omega) (hd ⟨13, .data⟩ (by simp) rfl))
    have hi := (H.f 15 (by omega) (hd ⟨15, .data⟩ (by simp) rfl))
    obtain ⟨r1, d1, e1, hr1, hd1⟩ := (show WayV n0 W (a.eval (.tmp 25)) 3 false from (H.f 16 (by omega) (hd ⟨16, .data⟩ (by simp) rfl)))
    obtain ⟨r2, d2, e2, hr2, hd2⟩ := (show WayV n0 W (a.eval (.tmp 26)) 3 true from (H.f 17 (by omega) (hd ⟨17, .data⟩ (by simp) rfl)))
    refine step_valF rfl (v := .agg #[.int .i64 2, a.eval (.tmp 22), a.eval (.tmp 24), .int .i64 0, r1, d1, r2, d2]) (w' := W) (exec_bldF rfl (by
      simp only [List.map_toArray, List.map_cons, List.map_nil, Act.eval_const']
      rw [e1, e2]
      exact bldK2 2 _ _ r1 d1 r2 d2 (fun_fit hk) (fun_fit hi) (fun_room hr1) (fun_aes hd1) (fun_room hr2) (fun_aes hd2) W)) ?_
    exact hK.out _ _ (H.ext 18 27 (by omega) (by omega) rfl rfl hLi (Below.refl _ _) _ ⟨_, _, _, _, _, _, rfl, hk, hi, ⟨hr1, hd1⟩, ⟨hr2, hd2⟩⟩)
  · intro L a W H hLi hd K0 hK
    obtain ⟨W', hrun, hJ⟩ := H.ins 19 3 rfl hLi (hd ⟨0, .data⟩ (by simp) rfl) (a.eval (.tmp 27)) (H.f 18 (by omega) (hd ⟨18, .data⟩ (by simp) rfl)) 49 3 46 Tryz.underlying49 Tryz.underlying3
    refine step_insF rfl 49 (.tmp 11) (.const (.int .i64 3)) (.tmp 27) rfl hrun ?_
    exact hK.out _ _ hJ
  · intro L a W H hLi hd K0 hK
    refine step_valF rfl (exec_moveK (.inl rfl)) ?_
    exact hK.out _ _ (H.ext 20 28 (by omega) (by omega) rfl rfl hLi (Below.refl _ _) _ (by rw [H.s2]; exact hv2.keep (KeepL.of H.b)))
  · intro L a W H hLi hd K0 hK
    refine step_valF rfl (v := .slice (some ⟨W.heap.size, 0, none⟩) 1 1) (w' := W.alloc (.cells #[.int .i64 16] 3)) (by kernel_rfl) ?_
    exact hK.out _ _ (H.ext 21 29 (by omega) (by omega) rfl rfl hLi ((Below.refl _ _).alloc (Nat.le_refl _) _) _ ⟨W.heap.size, _, Nat.le_trans H.n H.b.size, rfl, heap_alloc_new' W _⟩)
  · intro L a W H hLi hd K0 hK
    refine step_callF rfl 12 #[.tmp 29] _ rfl (enters_of Tryz.func12 (by kernel_rfl) rfl) (by first | (simp only [List.map_toArray, List.map_cons, List.map_nil]; done) | (simp only [List.map_toArray, List.map_cons, List.map_nil]; rfl)) (either_any n0 (a.eval (.tmp 29)) [16] W (Nat.le_trans H.n H.b.size) (H.f 21 (by omega) (hd ⟨21, .data⟩ (by simp) rfl)) (by decide)) ?_
    rintro e W' ⟨v, rfl, hv, hb⟩
    exact ⟨v, rfl, hK.out _ _ (H.ext 22 30 (by omega) (by omega) rfl rfl hLi hb v hv)⟩
  · intro L a W H hLi hd K0 hK
    refine step_callF rfl 14 #[.func 21] _ rfl (enters_of Tryz.func14 (by kernel_rfl) rfl) (by first | (simp only [List.map_toArray, List.map_cons, List.map_nil]; done) | (simp only [List.map_toArray, List.map_cons, List.map_nil]; rfl)) (byAES_any n0 21 W (Nat.le_trans H.n H.b.size)) ?_
    rintro e W' ⟨v, rfl, hv, hb⟩
    exact ⟨v, rfl, hK.out _ _ (H.ext 23 31 (by omega) (by omega) rfl rfl hLi hb v hv)⟩
  · intro L a W H hLi hd K0 hK
    have hdo := (H.f 23 (by omega) (hd ⟨23, .data⟩ (by simp) rfl))
    refine step_valF rfl (v := .agg #[(.func (.func 20) #[] #[]), (a.eval (.tmp 31))]) (w' := W) (exec_bldF rfl (by simp only [List.map_toArray, List.map_cons, List.map_nil]; exact bldW (.func (.func 20) #[] #[]) (a.eval (.tmp 31)) ⟨_, _, rfl⟩ (fun_aes hdo) W)) ?_
    exact hK.out _ _ (H.ext 24 32 (by omega) (by omega) rfl rfl hLi (Below.refl _ _) _ ⟨_, _, rfl, (padded_any n0 W), hdo⟩)
  · intro L a W H hLi hd K0 hK
    refine step_callF rfl 14 #[.func 23] _ rfl (enters_of Tryz.func14 (by kernel_rfl) rfl) (by first | (simp only [List.map_toArray, List.map_cons, List.map_nil]; done) | (simp only [List.map_toArray, List.map_cons, List.map_nil]; rfl)) (byAES_any n0 23 W (Nat.le_trans H.n H.b.size)) ?_
    rintro e W' ⟨v, rfl, hv, hb⟩
    exact ⟨v, rfl, hK.out _ _ (H.ext 25 33 (by omega) (by omega) rfl rfl hLi hb v hv)⟩
  · intro L a W H hLi hd K0 hK
    have hdo := (H.f 25 (by omega) (hd ⟨25, .data⟩ (by simp) rfl))
    refine step_valF rfl (v := .agg #[(.func (.func 22) #[] #[]), (a.eval (.tmp 33))]) (w' := W) (exec_bldF rfl (by simp only [List.map_toArray, List.map_cons, List.map_nil]; exact bldW (.func (.func 22) #[] #[]) (a.eval (.tmp 33)) ⟨_, _, rfl⟩ (fun_aes hdo) W)) ?_
    exact hK.out _ _ (H.ext 26 34 (by omega) (by omega) rfl rfl hLi (Below.refl _ _) _ ⟨_, _, rfl, (wholeRoom_any n0 W), hdo⟩)
  · intro L a W H hLi hd K0 hK
    have hk := (H.f 20 (by omega) (hd ⟨20, .data⟩ (by simp) rfl))
    have hi := (H.f 22 (by omega) (hd ⟨22, .data⟩ (by simp) rfl))
    obtain ⟨r1, d1, e1, hr1, hd1⟩ := (show WayV n0 W (a.eval (.tmp 32)) 4 false from (H.f 24 (by omega) (hd ⟨24, .data⟩ (by simp) rfl)))
    obtain ⟨r2, d2, e2, hr2, hd2⟩ := (show WayV n0 W (a.eval (.tmp 34)) 4 true from (H.f 26 (by omega) (hd ⟨26, .data⟩ (by simp) rfl)))
    refine step_valF rfl (v := .agg #[.int .i64 3, a.eval (.tmp 28), a.eval (.tmp 30), .int .i64 0, r1, d1, r2, d2]) (w' := W) (exec_bldF rfl (by
      simp only [List.map_toArray, List.map_cons, List.map_nil, Act.eval_const']
      rw [e1, e2]
      exact bldK2 3 _ _ r1 d1 r2 d2 (fun_fit hk) (fun_fit hi) (fun_room hr1) (fun_aes hd1) (fun_room hr2) (fun_aes hd2) W)) ?_
    exact hK.out _ _ (H.ext 27 35 (by omega) (by omega) rfl rfl hLi (Below.refl _ _) _ ⟨_, _, _, _, _, _, rfl, hk, hi, ⟨hr1, hd1⟩, ⟨hr2, hd2⟩⟩)
  · intro L a W H hLi hd K0 hK
    obtain ⟨W', hrun, hJ⟩ := H.ins 28 4 rfl hLi (hd ⟨0, .data⟩ (by simp) rfl) (a.eval (.tmp 35)) (H.f 27 (by omega) (hd ⟨27, .data⟩ (by simp) rfl)) 49 3 46 Tryz.underlying49 Tryz.underlying3
    refine step_insF rfl 49 (.tmp 11) (.const (.int .i64 4)) (.tmp 35) rfl hrun ?_
    exact hK.out _ _ hJ
  · intro L a W H hLi hd K0 hK
    refine step_valF rfl (exec_moveK (.inl rfl)) ?_
    exact hK.out _ _ (H.ext 29 36 (by omega) (by omega) rfl rfl hLi (Below.refl _ _) _ (by rw [H.s2]; exact hv2.keep (KeepL.of H.b)))
  · intro L a W H hLi hd K0 hK
    refine step_callF rfl 18 #[.const (.int .i64 1), .const (.int .i64 64)] _ rfl (enters_of Tryz.func18 (by kernel_rfl) rfl) (by first | (simp only [List.map_toArray, List.map_cons, List.map_nil]; done) | (simp only [List.map_toArray, List.map_cons, List.map_nil]; rfl)) (among_any n0 1 64 W (Nat.le_trans H.n H.b.size)) ?_
    rintro e W' ⟨v, rfl, hv, hb⟩
    exact ⟨v, rfl, hK.out _ _ (H.ext 30 37 (by omega) (by omega) rfl rfl hLi hb v hv)⟩
  · intro L a W H hLi hd K0 hK
    refine step_callF rfl 24 #[.const (.int .i64 16)] _ rfl (enters_of Tryz.func24 (by kernel_rfl) rfl) (by first | (simp only [List.map_toArray, List.map_cons, List.map_nil]; done) | (simp only [List.map_toArray, List.map_cons, List.map_nil]; rfl)) (more_any n0 16 W (Nat.le_trans H.n H.b.size) (by omega)) ?_
    rintro e W' ⟨v, rfl, hv, hb⟩
    exact ⟨v, rfl, hK.out _ _ (H.ext 31 38 (by omega) (by omega) rfl rfl hLi hb v hv)⟩
  · intro L a W H hLi hd K0 hK
    refine step_callF rfl 14 #[.func 25] _ rfl (enters_of Tryz.func14 (by kernel_rfl) rfl) (by first | (simp only [List.map_toArray, List.map_cons, List.map_nil]; done) | (simp only [List.map_toArray, List.map_cons, List.map_nil]; rfl)) (byAES_any n0 25 W (Nat.le_trans H.n H.b.size)) ?_
    rintro e W' ⟨v, rfl, hv, hb⟩
    exact ⟨v, rfl, hK.out _ _ (H.ext 32 39 (by omega) (by omega) rfl rfl hLi hb v hv)⟩
  · intro L a W H hLi hd K0 hK
    have hr := (H.f 31 (by omega) (hd ⟨31, .data⟩ (by simp) rfl))
    have hdo := (H.f 32 (by omega) (hd ⟨32, .data⟩ (by simp) rfl))
    refine step_valF rfl (v := .agg #[(a.eval (.tmp 38)), (a.eval (.tmp 39))]) (w' := W) (exec_bldF rfl (by simp only [List.map_toArray, List.map_cons, List.map_nil]; exact bldW (a.eval (.tmp 38)) (a.eval (.tmp 39)) (fun_room hr) (fun_aes hdo) W)) ?_
    exact hK.out _ _ (H.ext 33 40 (by omega) (by omega) rfl rfl hLi (Below.refl _ _) _ ⟨_, _, rfl, hr, hdo⟩)
  · intro L a W H hLi hd K0 hK
    refine step_callF rfl 13 #[.const (.int .i64 16)] _ rfl (enters_of Tryz.func13 (by kernel_rfl) rfl) (by first | (simp only [List.map_toArray, List.map_cons, List.map_nil]; done) | (simp only [List.map_toArray, List.map_cons, List.map_nil]; rfl)) (less_any n0 16 W (Nat.le_trans H.n H.b.size) (by omega)) ?_
    rintro e W' ⟨v, rfl, hv, hb⟩
    exact ⟨v, rfl, hK.out _ _ (H.ext 34 41 (by omega) (by omega) rfl rfl hLi hb v hv)⟩
  · intro L a W H hLi hd K0 hK
    refine step_callF rfl 14 #[.func 26] _ rfl (enters_of Tryz.func14 (by kernel_rfl) rfl) (by first | (simp only [List.map_toArray, List.map_cons, List.map_nil]; done) | (simp only [List.map_toArray, List.map_cons, List.map_nil]; rfl)) (byAES_any n0 26 W (Nat.le_trans H.n H.b.size)) ?_
    rintro e W' ⟨v, rfl, hv, hb⟩
    exact ⟨v, rfl, hK.out _ _ (H.ext 35 42 (by omega) (by omega) rfl rfl hLi hb v hv)⟩
  · intro L a W H hLi hd K0 hK
    have hr := (H.f 34 (by omega) (hd ⟨34, .data⟩ (by simp) rfl))
    have hdo := (H.f 35 (by omega) (hd ⟨35, .data⟩ (by simp) rfl))
    refine step_valF rfl (v := .agg #[(a.eval (.tmp 41)), (a.eval (.tmp 42))]) (w' := W) (exec_bldF rfl (by simp only [List.map_toArray, List.map_cons, List.map_nil]; exact bldW (a.eval (.tmp 41)) (a.eval (.tmp 42)) (fun_room hr) (fun_aes hdo) W)) ?_
    exact hK.out _ _ (H.ext 36 43 (by omega) (by omega) rfl rfl hLi (Below.refl _ _) _ ⟨_, _, rfl, hr, hdo⟩)
  · intro L a W H hLi hd K0 hK
    have hk := (H.f 29 (by omega) (hd ⟨29, .data⟩ (by simp) rfl))
    have hi := (H.f 30 (by omega) (hd ⟨30, .data⟩ (by simp) rfl))
    obtain ⟨r1, d1, e1, hr1, hd1⟩ := (show WayV n0 W (a.eval (.tmp 40)) 5 false from (H.f 33 (by omega) (hd ⟨33, .data⟩ (by simp) rfl)))
    obtain ⟨r2, d2, e2, hr2, hd2⟩ := (show WayV n0 W (a.eval (.tmp 43)) 5 true from (H.f 36 (by omega) (hd ⟨36, .data⟩ (by simp) rfl)))
    refine step_valF rfl (v := .agg #[.int .i64 4, a.eval (.tmp 36), a.eval (.tmp 37), .int .i64 1000, r1, d1, r2, d2]) (w' := W) (exec_bldF rfl (by
      simp only [List.map_toArray, List.map_cons, List.map_nil, Act.eval_const']
      rw [e1, e2]
      exact bldK3 4 _ _ r1 d1 r2 d2 (fun_fit hk) (fun_fit hi) (fun_room hr1) (fun_aes hd1) (fun_room hr2) (fun_aes hd2) W)) ?_
    exact hK.out _ _ (H.ext 37 44 (by omega) (by omega) rfl rfl hLi (Below.refl _ _) _ ⟨_, _, _, _, _, _, rfl, hk, hi, ⟨hr1, hd1⟩, ⟨hr2, hd2⟩⟩)
  · intro L a W H hLi hd K0 hK
    obtain ⟨W', hrun, hJ⟩ := H.ins 38 5 rfl hLi (hd ⟨0, .data⟩ (by simp) rfl) (a.eval (.tmp 44)) (H.f 37 (by omega) (hd ⟨37, .data⟩ (by simp) rfl)) 49 3 46 Tryz.underlying49 Tryz.underlying3
    refine step_insF rfl 49 (.tmp 11) (.const (.int .i64 5)) (.tmp 44) rfl hrun ?_
    exact hK.out _ _ hJ
  · intro L a W H hLi hd K0 hK
    refine step_valF rfl (v := .slice (some ⟨W.heap.size, 0, none⟩) 1 1) (w' := W.alloc (.cells #[.int .i64 32] 3)) (by kernel_rfl) ?_
    exact hK.out _ _ (H.ext 39 45 (by omega) (by omega) rfl rfl hLi ((Below.refl _ _).alloc (Nat.le_refl _) _) _ ⟨W.heap.size, _, Nat.le_trans H.n H.b.size, rfl, heap_alloc_new' W _⟩)
  · intro L a W H hLi hd K0 hK
    refine step_callF rfl 12 #[.tmp 45] _ rfl (enters_of Tryz.func12 (by kernel_rfl) rfl) (by first | (simp only [List.map_toArray, List.map_cons, List.map_nil]; done) | (simp only [List.map_toArray, List.map_cons, List.map_nil]; rfl)) (either_any n0 (a.eval (.tmp 45)) [32] W (Nat.le_trans H.n H.b.size) (H.f 39 (by omega) (hd ⟨39, .data⟩ (by simp) rfl)) (by decide)) ?_
    rintro e W' ⟨v, rfl, hv, hb⟩
    exact ⟨v, rfl, hK.out _ _ (H.ext 40 46 (by omega) (by omega) rfl rfl hLi hb v hv)⟩
  · intro L a W H hLi hd K0 hK
    refine step_valF rfl (v := .slice (some ⟨W.heap.size, 0, none⟩) 1 1) (w' := W.alloc (.cells #[.int .i64 12] 3)) (by kernel_rfl) ?_
    exact hK.out _ _ (H.ext 41 47 (by omega) (by omega) rfl rfl hLi ((Below.refl _ _).alloc (Nat.le_refl _) _) _ ⟨W.heap.size, _, Nat.le_trans H.n H.b.size, rfl, heap_alloc_new' W _⟩)
  · intro L a W H hLi hd K0 hK
    refine step_callF rfl 12 #[.tmp 47] _ rfl (enters_of Tryz.func12 (by kernel_rfl) rfl) (by first | (simp only [List.map_toArray, List.map_cons, List.map_nil]; done) | (simp only [List.map_toArray, List.map_cons, List.map_nil]; rfl)) (either_any n0 (a.eval (.tmp 47)) [12] W (Nat.le_trans H.n H.b.size) (H.f 41 (by omega) (hd ⟨41, .data⟩ (by simp) rfl)) (by decide)) ?_
    rintro e W' ⟨v, rfl, hv, hb⟩
    exact ⟨v, rfl, hK.out _ _ (H.ext 42 48 (by omega) (by omega) rfl rfl hLi hb v hv)⟩
  · intro L a W H hLi hd K0 hK
    refine step_callF rfl 24 #[.const (.int .i64 16)] _ rfl (enters_of Tryz.func24 (by kernel_rfl) rfl) (by first | (simp only [List.map_toArray, List.map_cons, List.map_nil]; done) | (simp only [List.map_toArray, List.map_cons, List.map_nil]; rfl)) (more_any n0 16 W (Nat.le_trans H.n H.b.size) (by omega)) ?_
    rintro e W' ⟨v, rfl, hv, hb⟩
    exact ⟨v, rfl, hK.out _ _ (H.ext 43 49 (by omega) (by omega) rfl rfl hLi hb v hv)⟩
  · intro L a W H hLi hd K0 hK
    refine step_callF rfl 27 #[.func 28] _ rfl (enters_of Tryz.func27 (by kernel_rfl) rfl) (by first | (simp only [List.map_toArray, List.map_cons, List.map_nil]; done) | (simp only [List.map_toArray, List.map_cons, List.map_nil]; rfl)) (byKey_any n0 28 W (Nat.le_trans H.n H.b.size)) ?_
    rintro e W' ⟨v, rfl, hv, hb⟩
    exact ⟨v, rfl, hK.out _ _ (H.ext 44 50 (by omega) (by omega) rfl rfl hLi hb v hv)⟩
  · intro L a W H hLi hd K0 hK
    have hr := (H.f 43 (by omega) (hd ⟨43, .data⟩ (by simp) rfl))
    have hdo := (H.f 44 (by omega) (hd ⟨44, .data⟩ (by simp) rfl))
    refine step_valF rfl (v := .agg #[(a.eval (.tmp 49)), (a.eval (.tmp 50))]) (w' := W) (exec_bldF rfl (by simp only [List.map_toArray, List.map_cons, List.map_nil]; exact bldW (a.eval (.tmp 49)) (a.eval (.tmp 50)) (fun_room hr) (fun_key hdo) W)) ?_
    exact hK.out _ _ (H.ext 45 51 (by omega) (by omega) rfl rfl hLi (Below.refl _ _) _ ⟨_, _, rfl, hr, hdo⟩)
  · intro L a W H hLi hd K0 hK
    refine step_callF rfl 13 #[.const (.int .i64 16)] _ rfl (enters_of Tryz.func13 (by kernel_rfl) rfl) (by first | (simp only [List.map_toArray, List.map_cons, List.map_nil]; done) | (simp only [List.map_toArray, List.map_cons, List.map_nil]; rfl)) (less_any n0 16 W (Nat.le_trans H.n H.b.size) (by omega)) ?_
    rintro e W' ⟨v, rfl, hv, hb⟩
    exact ⟨v, rfl, hK.out _ _ (H.ext 46 52 (by omega) (by omega) rfl rfl hLi hb v hv)⟩
  · intro L a W H hLi hd K0 hK
    refine step_callF rfl 27 #[.func 29] _ rfl (enters_of Tryz.func27 (by kernel_rfl) rfl) (by first | (simp only [List.map_toArray, List.map_cons, List.map_nil]; done) | (simp only [List.map_toArray, List.map_cons, List.map_nil]; rfl)) (byKey_any n0 29 W (Nat.le_trans H.n H.b.size)) ?_
    rintro e W' ⟨v, rfl, hv, hb⟩
    exact ⟨v, rfl, hK.out _ _ (H.ext 47 53 (by omega) (by omega) rfl rfl hLi hb v hv)⟩
  · intro L a W H hLi hd K0 hK
    have hr := (H.f 46 (by omega) (hd ⟨46, .data⟩ (by simp) rfl))
    have hdo := (H.f 47 (by omega) (hd ⟨47, .data⟩ (by simp) rfl))
    refine step_valF rfl (v := .agg #[(a.eval (.tmp 52)), (a.eval (.tmp 53))]) (w' := W) (exec_bldF rfl (by simp only [List.map_toArray, List.map_cons, List.map_nil]; exact bldW (a.eval (.tmp 52)) (a.eval (.tmp 53)) (fun_room hr) (fun_key hdo) W)) ?_
    exact hK.out _ _ (H.ext 48 54 (by omega) (by omega) rfl rfl hLi (Below.refl _ _) _ ⟨_, _, rfl, hr, hdo⟩)
  · intro L a W H hLi hd K0 hK
    have hk := (H.f 40 (by omega) (hd ⟨40, .data⟩ (by simp) rfl))
    have hi := (H.f 42 (by omega) (hd ⟨42, .data⟩ (by simp) rfl))
    obtain ⟨r1, d1, e1, hr1, hd1⟩ := (show WayV n0 W (a.eval (.tmp 51)) 6 false from (H.f 45 (by omega) (hd ⟨45, .data⟩ (by simp) rfl)))
    obtain ⟨r2, d2, e2, hr2, hd2⟩ := (show WayV n0 W (a.eval (.tmp 54)) 6 true from (H.f 48 (by omega) (hd ⟨48, .data⟩ (by simp) rfl)))
    refine step_valF rfl (v := .agg #[.int .i64 5, a.eval (.tmp 46), a.eval (.tmp 48), .int .i64 1000, r1, d1, r2, d2]) (w' := W) (exec_bldF rfl (by
      simp only [List.map_toArray, List.map_cons, List.map_nil, Act.eval_const']
      rw [e1, e2]
      exact bldK3 5 _ _ r1 d1 r2 d2 (fun_fit hk) (fun_fit hi) (fun_room hr1) (fun_key hd1) (fun_room hr2) (fun_key hd2) W)) ?_
    exact hK.out _ _ (H.ext 49 55 (by omega) (by omega) rfl rfl hLi (Below.refl _ _) _ ⟨_, _, _, _, _, _, rfl, hk, hi, ⟨hr1, hd1⟩, ⟨hr2, hd2⟩⟩)
  · intro L a W H hLi hd K0 hK
    obtain ⟨W', hrun, hJ⟩ := H.ins 50 6 rfl hLi (hd ⟨0, .data⟩ (by simp) rfl) (a.eval (.tmp 55)) (H.f 49 (by omega) (hd ⟨49, .data⟩ (by simp) rfl)) 49 3 46 Tryz.underlying49 Tryz.underlying3
    refine step_insF rfl 49 (.tmp 11) (.const (.int .i64 6)) (.tmp 55) rfl hrun ?_
    exact hK.out _ _ hJ
  · intro L a W H hLi hd K0 hK
    refine step_valF rfl (exec_moveK (.inl rfl)) ?_
    exact hK.out _ _ (H.t51 hLi (allEdges 51 (by kernel_rfl) hd))
  · intro L a W H hLi hd K0 hK
    refine step_valF rfl (exec_moveK (.inr rfl)) ?_
    exact hK.out _ _ (H.t52 hLi (hd ⟨51, .data⟩ (by simp) rfl))
  · intro L a W hL H
    have hE := H.end hL
    have hB := B5.out.step H.b
    go_wp2
    exact bodyPost_ret (results_tmp rfl _ _ _) H.df ⟨_, rfl, hE, hB⟩
end Go.Proofs.YtimgggpojbpfkaaGreatDoor

/- algo.known, Class. -/
namespace Go.Proofs.YtimgggpojbpfkaaGreatDoor
open Go.RowKit Go.Shelf
set_option linter.unusedVariables false
set_option linter.unusedSimpArgs false
set_option maxRecDepth 100000
def zeroKind : List Value := [.int .i64 0, .nilFunc, .nilFunc, .int .i64 0, .nilFunc, .nilFunc, .nilFunc, .nilFunc]
def FnV (v : Value) : Prop := isF v ∨ v = .nilFunc
theorem kinds_get {n0 : Nat} {W : World} {v : Value} (h : KindsV n0 W v) (x : Int) : ∃ E, (Instr.lookup 49 v (.int .i64 x) false).run Tryz.prog W = .ok E W ∧ ((∃ k : Nat, 1 ≤ k ∧ k ≤ 6 ∧ x = (k : Int) ∧ KindAt n0 W E k) ∨ ((x < 1 ∨ 6 < x) ∧ E = .agg zeroKind.toArray)) := by
  obtain ⟨g, es, clock, ks, rfl, h2, h3, h4, h5⟩ := h
  refine ⟨_, run_mapGet Tryz.underlying49 Tryz.underlying3 h2 h3 x (.agg zeroKind.toArray) (fun W => by kernel_rfl), ?_⟩
  by_cases hx : x < 1 ∨ 6 < x
  · rw [h4 x hx]
    exact .inr ⟨hx, rfl⟩
  · obtain ⟨k, hk⟩ : ∃ k : Nat, x = (k : Int) := ⟨x.toNat, by omega⟩
    subst hk
    obtain ⟨E, hE, hK⟩ := h5 k (by omega) (by omega)
    rw [hE]
    exact .inl ⟨k, by omega, by omega, rfl, hK⟩
/-- the eight cells of a kind, which ways it has -/
theorem kind_cells {n0 : Nat} {W : World} {E : Value} {k : Nat} (hk : 1 ≤ k ∧ k ≤ 6) (h : KindAt n0 W E k) : ∃ c a : Int, ∃ key iv r1 d1 r2 d2, E = .agg [.int .i64 c, key, iv, .int .i64 a, r1, d1, r2, d2].toArray ∧ isF key ∧ isF iv ∧ FnV r1 ∧ FnV d1 ∧ FnV r2 ∧ FnV d2 ∧
    WayRD n0 W k false r1 d1 ∧ WayRD n0 W k true r2 d2 := by
  obtain ⟨key, iv, r1, d1, r2, d2, h1, h2, h3, h4, h5⟩ := h
  have hw : ∀ o r d, WayRD n0 W k o r d → FnV r ∧ FnV d := fun o r d h => by
    unfold WayRD at h
    by_cases hh : hasW k o = true
    · rw [if_pos hh] at h
      refine ⟨.inl (fun_room h.1), .inl ?_⟩
      have hd := h.2
      have hk6 : k = 1 ∨ k = 2 ∨ k = 3 ∨ k = 4 ∨ k = 5 ∨ k = 6 := by omega
      rcases hk6 with rfl | rfl | rfl | rfl | rfl | rfl <;> cases o <;> first | exact ⟨_, _, hd⟩ | exact fun_aes hd | exact fun_key hd
    · rw [if_neg hh] at h
      exact ⟨.inr h.1, .inr h.2⟩
  exact ⟨_, _, key, iv, r1, d1, r2, d2, h1, fun_fit h2, fun_fit h3, (hw _ _ _ h4).1, (hw _ _ _ h4).2, (hw _ _ _ h5).1, (hw _ _ _ h5).2, h4, h5⟩
theorem fnv_one {v : Value} (h : FnV v) : v.oneCell' = true := by
  rcases h with ⟨F, c, rfl⟩ | rfl <;> rfl
theorem isf_one {v : Value} (h : isF v) : v.oneCell' = true := by
  obtain ⟨F, c, rfl⟩ := h
  rfl
/-- what known comes to -/
def KnownV (W : World) (x : Int) (o : Bool) (v : Value) : Prop :=
  (∃ k : Nat, 1 ≤ k ∧ k ≤ 6 ∧ x = (k : Int) ∧ hasW k o = true ∧ ∃ E r d, v = .tuple #[E, .agg #[r, d], .int .i64 0] ∧ ∃ n0, KindAt n0 W E k ∧ RoomV n0 W r (roomP k o) ∧ DoV n0 W k o d) ∨
  ((x < 1 ∨ 6 < x ∨ ∃ k : Nat, 1 ≤ k ∧ k ≤ 6 ∧ x = (k : Int) ∧ hasW k o = false) ∧ v = .tuple #[.agg zeroKind.toArray, .agg #[.nilFunc, .nilFunc], .int .i64 4])
theorem known_finds {n0 : Nat} {W : World} {v : Value} (h : KindsV n0 W v) (x : Int) (o : Bool) : ∃ c a : Int, ∃ key iv r1 d1 r2 d2 : Value,
    (Instr.lookup 49 v (.int .i64 x) false).run Tryz.prog W = .ok (.agg [.int .i64 c, key, iv, .int .i64 a, r1, d1, r2, d2].toArray) W ∧ FnV key ∧ FnV iv ∧ FnV r1 ∧ FnV d1 ∧ FnV r2 ∧ FnV d2 ∧
    ((isF (if o then d2 else d1) ∧ ∀ W', KeepL n0 W W' → KnownV W' x o (.tuple #[.agg [.int .i64 c, key, iv, .int .i64 a, r1, d1, r2, d2].toArray, .agg [if o then r2 else r1, if o then d2 else d1].toArray, .int .i64 0])) ∨
     ((if o then d2 else d1) = .nilFunc ∧ ∀ W', KnownV W' x o (.tuple #[.agg zeroKind.toArray, .agg #[.nilFunc, .nilFunc], .int .i64 4]))) := by
  obtain ⟨E, hE, ⟨k, h1, h2, rfl, hK⟩ | ⟨hx, rfl⟩⟩ := kinds_get h x
  · obtain ⟨c, a, key, iv, r1, d1, r2, d2, rfl, f1, f2, f3, f4, f5, f6, w1, w2⟩ := kind_cells ⟨h1, h2⟩ hK
    refine ⟨c, a, key, iv, r1, d1, r2, d2, hE, .inl f1, .inl f2, f3, f4, f5, f6, ?_⟩
    have hw : WayRD n0 W k o (if o then r2 else r1) (if o then d2 else d1) := by cases o <;> assumption
    unfold WayRD at hw
    by_cases hh : hasW k o = true
    · rw [if_pos hh] at hw
      refine .inl ⟨?_, fun W' hW => .inl ⟨k, h1, h2, rfl, hh, _, _, _, rfl, n0, hK.keep hW, hw.1.keep hW, hw.2.keep hW⟩⟩
      have hd := hw.2
      have hk6 : k = 1 ∨ k = 2 ∨ k = 3 ∨ k = 4 ∨ k = 5 ∨ k = 6 := by omega
      rcases hk6 with rfl | rfl | rfl | rfl | rfl | rfl <;> cases o <;> first | exact ⟨_, _, hd⟩ | exact fun_aes hd | exact fun_key hd
    · rw [if_neg hh] at hw
      exact .inr ⟨hw.2, fun W' => .inr ⟨.inr (.inr ⟨k, h1, h2, rfl, by simpa using hh⟩), rfl⟩⟩
  · refine ⟨0, 0, .nilFunc, .nilFunc, .nilFunc, .nilFunc, .nilFunc, .nilFunc, hE, .inr rfl, .inr rfl, .inr rfl, .inr rfl, .inr rfl, .inr rfl, .inr ⟨by cases o <;> rfl, fun W' => .inr ⟨by rcases hx with h | h; exact .inl h; exact .inr (.inl h), rfl⟩⟩⟩
theorem way_rangeK {W : World} {g : Nat} {c a : Int} {key iv r1 d1 r2 d2 : Value} {t : TypeId} {fr : Nat × Nat} (h : W.heap[g]? = some (.cells [.int .i64 c, key, iv, .int .i64 a, r1, d1, r2, d2].toArray t fr)) :
    W.rangeAt g 4 [r1, d1] ∧ W.rangeAt g 6 [r2, d2] := by
  constructor
  · intro j v hv
    rw [cell_of_heap h]
    rcases j with _ | _ | j
    · exact hv
    · exact hv
    · simp at hv
  · intro j v hv
    rw [cell_of_heap h]
    rcases j with _ | _ | j
    · exact hv
    · exact hv
    · simp at hv
theorem agg2_one {r d : Value} (h1 : FnV r) (h2 : FnV d) : ∀ v ∈ [r, d], v.oneCell' = true := by
  intro v hv
  simp only [List.mem_cons, List.not_mem_nil, or_false] at hv
  rcases hv with rfl | rfl
  · exact fnv_one h1
  · exact fnv_one h2
theorem agg8_one {c a : Int} {key iv r1 d1 r2 d2 : Value} (h1 : FnV key) (h2 : FnV iv) (h3 : FnV r1) (h4 : FnV d1) (h5 : FnV r2) (h6 : FnV d2) : ∀ v ∈ [.int .i64 c, key, iv, .int .i64 a, r1, d1, r2, d2], v.oneCell' = true := by
  intro v hv
  simp only [List.mem_cons, List.not_mem_nil, or_false] at hv
  rcases hv with rfl | rfl | rfl | rfl | rfl | rfl | rfl | rfl <;> first | rfl | exact fnv_one (by assumption)
theorem load_cellW {ty : TypeId} {d : TypeDesc} (hd : (match d with | .struct _ | .array _ _ => true | _ => false) = false) (hu : Tryz.prog.underlying ty = some d) {W : World} {a : Addr} {v : Value} (h : W.cell? a = some v) :
    (Instr.loadAt ty (.pointer (some a))).run Tryz.prog W = .ok v W := by
  have h1 : (isAgg ty).run Tryz.prog W = .ok false W := by cases d <;> simp_all [isAgg, run_underlying hu]
  simp [Instr.loadAt, Instr.sureAddr, loadVar, h1, h, Result.andThen]
theorem results_cct {fn : Func} {p1 p2 s : Tmp} {t1 t2 : TypeId} (h : fn.results = #[.cell p1 t1, .cell p2 t2, .tmp s]) (tmps : Array Value) (w : World) (a1 a2 : Addr) (v1 v2 : Value)
    (h1 : tmps.getD p1 undef = .pointer (some a1)) (h2 : tmps.getD p2 undef = .pointer (some a2)) (l1 : (loadVar t1 a1).run Tryz.prog w = .ok v1 w) (l2 : (loadVar t2 a2).run Tryz.prog w = .ok v2 w) :
    (results fn tmps).run Tryz.prog w = .ok (.tuple #[v1, v2, tmps.getD s undef]) w := by
  have h1' : tmps[p1]?.getD undef = .pointer (some a1) := by simpa using h1
  have h2' : tmps[p2]?.getD undef = .pointer (some a2) := by simpa using h2
  simp [results, h, h1', h2', asAddr, l1, l2]
theorem loadVarK {W : World} {g : Nat} {ty t : TypeId} {cs : List Value} {fr : Nat × Nat} {d : TypeDesc} (hg : W.heap[g]? = some (.cells cs.toArray t fr)) (hu : Tryz.prog.underlying ty = some d) (hd : (match d with | .struct _ | .array _ _ => true | _ => false) = true) (hi : (Tryz.prog.info? ty).map (·.size) = some cs.length) :
    (loadVar ty ⟨g, 0, none⟩).run Tryz.prog W = .ok (.agg cs.toArray) W := run_loadVar_row W g t ty cs.toArray fr d hg hu (by cases d <;> simp_all) (by simpa using hi)
theorem keepL_setRow {n0 : Nat} {W W' : World} {g : Nat} {cs : Array Value} (hV : W.setRow g cs = W') (hg : g < n0) : KeepL n0 W W' :=
  ⟨by rw [← hV]; simp [World.setRow], fun k cs' t fr hk h => heap_of_other hV (by omega) h⟩
theorem heap2K (w : World) (o1 o2 : Obj) : ((w.alloc o1).alloc o2).heap[w.heap.size]? = some o1 ∧ ((w.alloc o1).alloc o2).heap[w.heap.size + 1]? = some o2 ∧ Below w.heap.size w ((w.alloc o1).alloc o2) := by
  have e1 : (w.alloc o1).heap.size = w.heap.size + 1 := by simp
  refine ⟨?_, ?_, ((Below.refl _ w).alloc (Nat.le_refl _) _).alloc (by simp) _⟩
  · rw [Below.heap_alloc _ _ _ (by omega)]; exact heap_alloc_new' w o1
  · rw [← e1]; exact heap_alloc_new' _ _
set_option maxHeartbeats 8000000 in
/-- the walk, of what the look-up finds -/
theorem known_any (x : Int) (o : Bool) (w : World) : Calls Tryz.prog 10 #[.int .i64 x, .bool o] w fun e w' => ∃ v, e = .returned v ∧ KnownV w' x o v ∧ Below w.heap.size w w' := by
  have hzk : ∀ W, (zeroValue 46).run Tryz.prog W = .ok (.agg zeroKind.toArray) W := fun W => by kernel_rfl
  have hzw : ∀ W, (zeroValue 44).run Tryz.prog W = .ok (.agg #[.nilFunc, .nilFunc]) W := fun W => by kernel_rfl
  have hbk : ∀ W, (Instr.build 46 #[]).run Tryz.prog W = .ok (.agg zeroKind.toArray) W := fun W => by kernel_rfl
  have hbw : ∀ W, (Instr.build 44 #[]).run Tryz.prog W = .ok (.agg #[.nilFunc, .nilFunc]) W := fun W => by kernel_rfl
  have hl8 : Hid (zeroKind.length = 8) := rfl
  have h1z : Hid (∀ v ∈ zeroKind, v.oneCell' = true) := by
    intro v hv
    simp only [zeroKind, List.mem_cons, List.not_mem_nil, or_false] at hv
    rcases hv with rfl | rfl | rfl | rfl | rfl | rfl | rfl | rfl <;> rfl
  have KF := Lib.hid (fun (n0 : Nat) (W : World) (v : Value) (h : KindsV n0 W v) => known_finds h x o)
  have ik : Hid ((Tryz.prog.info? 46).map (·.size) = some zeroKind.length) := by show _ = _; kernel_rfl
  have HR : Hid (∀ (W : World) (v : Value), KnownV W x o v → KnownV W x o v) := fun _ _ h => h
  have hq1 : ∀ (F : Fn) (cp : Array Value) (W : World), (binOp .eql 42 (.func F #[] cp) .nilFunc).run Tryz.prog W = .ok (.bool false) W := fun F cp W => by kernel_rfl
  have hq2 : ∀ (W : World), (binOp .eql 42 .nilFunc .nilFunc).run Tryz.prog W = .ok (.bool true) W := fun W => by kernel_rfl
  have KN := Lib.hid (fun (W : World) (h : KnownV W x o (.tuple #[.agg zeroKind.toArray, .agg #[.nilFunc, .nilFunc], .int .i64 4])) => h)
  generalize zeroKind = ZK at hzk hbk hl8 h1z KF ik KN
  go_enter Tryz.func10, Tryz.ntmps10
  go_wp2_with fail
  have HH := heap2K w (.cells ZK.toArray 46) (.cells #[.nilFunc, .nilFunc] 44)
  have hsz : ((w.alloc (.cells ZK.toArray 46)).alloc (.cells #[.nilFunc, .nilFunc] 44)).heap.size = w.heap.size + 2 := by simp
  generalize hV : (w.alloc _).alloc _ = W0 at HH hsz ⊢
  have R4 := Lib.hid HH.1; have R5 := Lib.hid HH.2.1; have B0 := Lib.hid HH.2.2
  clear hV HH
  have hs0 : W0.heap.size = w.heap.size + 2 := hsz
  refine (kinds_any (w.heap.size + 2) W0 (Nat.le_of_eq hs0.symm)).mono ?_
  rintro e w1 ⟨v, rfl, hv, hb⟩
  obtain ⟨c, a, key, iv, r1, d1, r2, d2, hE, f1, f2, f3, f4, f5, f6, hc⟩ := KF.out (w.heap.size + 2) w1 v hv
  have R4 : Hid (w1.heap[w.heap.size]? = _) := (hb.block _ (lt_of_heap R4.out)).trans R4.out
  have R5 : Hid (w1.heap[w.heap.size + 1]? = _) := (hb.block _ (lt_of_heap R5.out)).trans R5.out
  have B1 := Lib.hid (B0.out.step hb)
  have H8 := Lib.hid (agg8_one (c := c) (a := a) f1 f2 f3 f4 f5 f6)
  have HW1 := Lib.hid (agg2_one f3 f4); have HW2 := Lib.hid (agg2_one f5 f6)
  have HC := Lib.hid hc
  have ik8 : Hid ((Tryz.prog.info? 46).map (·.size) = some ([.int .i64 c, key, iv, .int .i64 a, r1, d1, r2, d2] : List Value).length) := by rw [ik.out, hl8.out]; rfl
  have RG := Lib.hid (fun (W : World) (g : Nat) (t : TypeId) (fr : Nat × Nat) (h : W.heap[g]? = some (.cells [.int .i64 c, key, iv, .int .i64 a, r1, d1, r2, d2].toArray t fr)) => way_rangeK h)
  have hl8' : Hid (([.int .i64 c, key, iv, .int .i64 a, r1, d1, r2, d2] : List Value).length = 8) := rfl
  clear hb hv hc KF f1 f2 f3 f5 B0
  generalize ([.int .i64 c, key, iv, .int .i64 a, r1, d1, r2, d2] : List Value) = CS at hE H8 ik8 RG HC hl8'
  have hle : ZK.length = CS.length := by rw [hl8.out, hl8'.out]
  have HLE := Lib.hid hle
  have i2 : Hid ((Tryz.prog.info? 44).map (·.size) = some 2) := by show _ = _; kernel_rfl
  clear hle
  cases o with
  | false =>
    have HC2 := HC.out
    simp only [if_true, Bool.false_eq_true, if_false] at HC2
    clear HC
    rcases HC2 with ⟨⟨F, cp, rfl⟩, hKn⟩ | ⟨rfl, hKn⟩
    · have HKN := Lib.hid hKn
      clear hKn
      go_wp2_with (first
        | (refine wpList_run (o := ⟨some 11, _, _, _, _, _⟩) rfl (v := .agg CS.toArray) (w' := w1) (exec_lookF rfl hE) ?_)
        | (refine wpList_st rfl 46 (.tmp 7) (.tmp 11) rfl (store_arr (cs := CS) (old := ZK) ik8.out H8.out (heap_alloc_new' w1 _) HLE.out) ?_
           generalize hV : World.setRow _ _ _ = W2
           have G2 := Lib.hid (heap_of_setRow hV (heap_alloc_new' w1 _))
           have X2 : Hid (Below w1.heap.size w1 W2) := ((Below.refl _ w1).alloc (Nat.le_refl _) _).trans (below_of_setRow hV (Nat.le_refl _) (by simp))
           clear hV)
        | (refine wpList_ld rfl 44 (.tmp 12) rfl (run_loadAt_mid W2 w1.heap.size 4 44 [r1, (.func F #[] cp)] _ (RG.out _ _ _ _ G2.out).1 Tryz.underlying44 rfl i2.out) ?_)
        | (refine wpList_st rfl 44 (.tmp 8) (.tmp 13) rfl (store_arr (cs := [r1, (.func F #[] cp)]) (old := [.nilFunc, .nilFunc]) i2.out HW1.out (heap_alloc_new' W2 _) rfl) ?_
           generalize hV : World.setRow _ _ _ = W3
           have P3 := Lib.hid (heap_of_setRow hV (heap_alloc_new' W2 _))
           have X3 : Hid (Below w1.heap.size w1 W3) := X2.out.step (((Below.refl _ W2).alloc (Nat.le_refl _) _).trans (below_of_setRow hV (Nat.le_refl _) (by simp)))
           have G3 : Hid (W3.heap[w1.heap.size]? = _) := heap_of_other hV (by have := lt_of_heap G2.out; omega) ((Below.heap_alloc W2 _ _ (lt_of_heap G2.out)).trans G2.out)
           clear hV)
        | (refine wpList_ld rfl 42 (.tmp 17) rfl (load_cellW (hu := Tryz.underlying42) (hd := rfl) (v := (.func F #[] cp)) (by rw [cell_of_heap (cs := [r1, (.func F #[] cp)]) P3.out]; rfl)) ?_)
        | fail)
      have HG : Hid (W3.heap[w1.heap.size]? = some (.cells CS.toArray 46 (0, 0))) := G3.out
      have hw1 : w.heap.size + 2 ≤ w1.heap.size := by have := lt_of_heap R5.out; omega
      have hw2 : w.heap.size + 2 ≤ W2.heap.size := by have := X2.out.size; omega
      have hR4 : W3.heap[w.heap.size]? = some (.cells ZK.toArray 46 (0, 0)) := (X3.out.block _ (lt_of_heap R4.out)).trans R4.out
      have hR5 : W3.heap[w.heap.size + 1]? = some (.cells #[.nilFunc, .nilFunc] 44 (0, 0)) := (X3.out.block _ (lt_of_heap R5.out)).trans R5.out
      have BR : Hid (Below w.heap.size w W3) := B1.out.step X3.out
      refine reg_inv (fun L a W => ∃ v22 v23 : Value, a = { tmps := #[.int .i64 x, .bool false, undef, undef, .pointer (some ⟨w.heap.size, 0, none⟩), .pointer (some ⟨w.heap.size + 1, 0, none⟩), .int .i64 0, .pointer (some ⟨w1.heap.size, 0, none⟩), .pointer (some ⟨W2.heap.size, 0, none⟩), v, .int .i64 x, .agg CS.toArray, .pointer (some ⟨w1.heap.size, 4, none⟩), .agg #[r1, (.func F #[] cp)], .bool false, undef, undef, .pointer (some ⟨W2.heap.size, 1, none⟩), (.func F #[] cp), .bool false, undef, undef, v22, v23], defers := [] } ∧ (L 0 = true → v22 = .agg CS.toArray) ∧ (L 1 = true → v23 = .agg [r1, (.func F #[] cp)].toArray) ∧
          Below w.heap.size w W ∧ KeepL (w.heap.size + 2) W3 W ∧ (L 2 = false → W.heap[w.heap.size]? = some (.cells ZK.toArray 46 (0, 0))) ∧ (L 2 = true → W.heap[w.heap.size]? = some (.cells CS.toArray 46 (0, 0))) ∧
          (L 3 = false → W.heap[w.heap.size + 1]? = some (.cells #[.nilFunc, .nilFunc] 44 (0, 0))) ∧ (L 3 = true → W.heap[w.heap.size + 1]? = some (.cells [r1, (.func F #[] cp)].toArray 44 (0, 0)))) (by kernel_rfl) (by kernel_rfl) ?_
        (And.intro ?_ (And.intro ?_ (And.intro ?_ (And.intro ?_ (And.intro ?_ trivial))))) ?_
      · intro L hL
        have no : ∀ j, j < 5 → L j = true → False := fun j hj h => by rw [hL j hj] at h; cases h
        exact ⟨_, _, rfl, fun h => (no 0 (by decide) h).elim, fun h => (no 1 (by decide) h).elim, BR.out.drew, ⟨Nat.le_refl _, fun _ _ _ _ _ h => h⟩, fun _ => hR4, fun h => (no 2 (by decide) h).elim, fun _ => hR5, fun h => (no 3 (by decide) h).elim⟩
      · rintro L a W ⟨v22, v23, rfl, F0, F1, hB, hK, f2, t2, f3, t3⟩ hLi hd K0 hK0
        refine step_ldF rfl 46 (.tmp 7) rfl (load_arr Tryz.underlying46 rfl ik8.out (hK.same _ _ _ _ hw1 HG.out)) ?_
        exact hK0.out _ _ ⟨_, v23, rfl, fun _ => rfl, F1, hB, hK, f2, t2, f3, t3⟩
      · rintro L a W ⟨v22, v23, rfl, F0, F1, hB, hK, f2, t2, f3, t3⟩ hLi hd K0 hK0
        refine step_ldF rfl 44 (.tmp 8) rfl (load_arr (cs := [r1, (.func F #[] cp)]) Tryz.underlying44 rfl i2.out (hK.same _ _ _ _ hw2 P3.out)) ?_
        exact hK0.out _ _ ⟨v22, _, rfl, F0, fun _ => rfl, hB, hK, f2, t2, f3, t3⟩
      · rintro L a W ⟨v22, v23, rfl, F0, F1, hB, hK, f2, t2, f3, t3⟩ hLi hd K0 hK0
        have e0 : v22 = _ := F0 (hd ⟨0, .data⟩ (by simp) rfl)
        subst e0
        have hst := f2 hLi
        refine step_st1 rfl 46 (.tmp 4) (.tmp 22) rfl (store_arr (cs := CS) (old := ZK) ik8.out H8.out hst HLE.out) ?_
        generalize hV : World.setRow _ _ _ = W'
        refine hK0.out _ _ ⟨_, v23, rfl, fun _ => rfl, F1, hB.trans (below_of_setRow hV (Nat.le_refl _) hB.size), hK.trans (keepL_setRow hV (by omega)), fun h => (upS h).elim, fun _ => heap_of_setRow hV hst, fun h => heap_of_other hV (by omega) (f3 h), fun h => heap_of_other hV (by omega) (t3 h)⟩
      · rintro L a W ⟨v22, v23, rfl, F0, F1, hB, hK, f2, t2, f3, t3⟩ hLi hd K0 hK0
        have e1 : v23 = _ := F1 (hd ⟨1, .data⟩ (by simp) rfl)
        subst e1
        have hst := f3 hLi
        refine step_st1 rfl 44 (.tmp 5) (.tmp 23) rfl (store_arr (cs := [r1, (.func F #[] cp)]) (old := [.nilFunc, .nilFunc]) i2.out HW1.out hst rfl) ?_
        generalize hV : World.setRow _ _ _ = W'
        refine hK0.out _ _ ⟨v22, _, rfl, F0, fun _ => rfl, hB.trans (below_of_setRow hV (Nat.le_succ _) hB.size), hK.trans (keepL_setRow hV (by omega)), fun h => heap_of_other hV (by omega) (f2 h), fun h => heap_of_other hV (by omega) (t2 h), fun h => (upS h).elim, fun _ => heap_of_setRow hV hst⟩
      · rintro L a W ⟨v22, v23, rfl, F0, F1, hB, hK, f2, t2, f3, t3⟩ hLi hd K0 hK0
        go_simp
        exact hK0.out _ _ ⟨v22, v23, rfl, F0, F1, hB, hK, f2, t2, f3, t3⟩
      · rintro L a W hL ⟨v22, v23, rfl, F0, F1, hB, hK, f2, t2, f3, t3⟩
        go_wp2
        exact bodyPost_ret (results_cct rfl _ _ ⟨w.heap.size, 0, none⟩ ⟨w.heap.size + 1, 0, none⟩ (.agg CS.toArray) (.agg [r1, (.func F #[] cp)].toArray) rfl rfl (loadVarK (t2 (hL 2)) Tryz.underlying46 rfl ik8.out) (loadVarK (cs := [r1, (.func F #[] cp)]) (t3 (hL 3)) Tryz.underlying44 rfl i2.out)) rfl
          ⟨.tuple #[.agg CS.toArray, .agg [r1, (.func F #[] cp)].toArray, .int .i64 0], rfl, HKN.out _ ((KeepL.of X3.out).trans hK), hB⟩
    · have HKN := Lib.hid hKn
      clear hKn
      go_wp2_with (first
        | (refine wpList_run (o := ⟨some 11, _, _, _, _, _⟩) rfl (v := .agg CS.toArray) (w' := w1) (exec_lookF rfl hE) ?_)
        | (refine wpList_st rfl 46 (.tmp 7) (.tmp 11) rfl (store_arr (cs := CS) (old := ZK) ik8.out H8.out (heap_alloc_new' w1 _) HLE.out) ?_
           generalize hV : World.setRow _ _ _ = W2
           have G2 := Lib.hid (heap_of_setRow hV (heap_alloc_new' w1 _))
           have X2 : Hid (Below w1.heap.size w1 W2) := ((Below.refl _ w1).alloc (Nat.le_refl _) _).trans (below_of_setRow hV (Nat.le_refl _) (by simp))
           clear hV)
        | (refine wpList_ld rfl 44 (.tmp 12) rfl (run_loadAt_mid W2 w1.heap.size 4 44 [r1, .nilFunc] _ (RG.out _ _ _ _ G2.out).1 Tryz.underlying44 rfl i2.out) ?_)
        | (refine wpList_st rfl 44 (.tmp 8) (.tmp 13) rfl (store_arr (cs := [r1, .nilFunc]) (old := [.nilFunc, .nilFunc]) i2.out HW1.out (heap_alloc_new' W2 _) rfl) ?_
           generalize hV : World.setRow _ _ _ = W3
           have P3 := Lib.hid (heap_of_setRow hV (heap_alloc_new' W2 _))
           have X3 : Hid (Below w1.heap.size w1 W3) := X2.out.step (((Below.refl _ W2).alloc (Nat.le_refl _) _).trans (below_of_setRow hV (Nat.le_refl _) (by simp)))
           have G3 : Hid (W3.heap[w1.heap.size]? = _) := heap_of_other hV (by have := lt_of_heap G2.out; omega) ((Below.heap_alloc W2 _ _ (lt_of_heap G2.out)).trans G2.out)
           clear hV)
        | (refine wpList_ld rfl 42 (.tmp 17) rfl (load_cellW (hu := Tryz.underlying42) (hd := rfl) (v := .nilFunc) (by rw [cell_of_heap (cs := [r1, .nilFunc]) P3.out]; rfl)) ?_)
        | (refine wpList_st rfl 46 (.tmp 4) (.tmp 20) rfl (store_arr (cs := ZK) (old := ZK) ik.out h1z.out ((X3.out.block _ (lt_of_heap R4.out)).trans R4.out) rfl) ?_
           generalize hV : World.setRow _ _ _ = W5
           have Y4 := Lib.hid (heap_of_setRow hV ((X3.out.block _ (lt_of_heap R4.out)).trans R4.out))
           have Y5 : Hid (W5.heap[w.heap.size + 1]? = _) := heap_of_other hV (by omega) ((X3.out.block _ (lt_of_heap R5.out)).trans R5.out)
           have B5 : Hid (Below w.heap.size w W5) := (B1.out.step X3.out).trans (below_of_setRow hV (Nat.le_refl _) (B1.out.step X3.out).size)
           clear hV)
        | (refine wpList_st rfl 44 (.tmp 5) (.tmp 21) rfl (store_arr (cs := [.nilFunc, .nilFunc]) (old := [.nilFunc, .nilFunc]) i2.out (agg2_one (.inr rfl) (.inr rfl)) Y5.out rfl) ?_
           generalize hV : World.setRow _ _ _ = W6
           have Z6 := Lib.hid (heap_of_setRow hV Y5.out)
           have Z5 : Hid (W6.heap[w.heap.size]? = _) := heap_of_other hV (by omega) Y4.out
           have B6 : Hid (Below w.heap.size w W6) := B5.out.trans (below_of_setRow hV (Nat.le_succ _) B5.out.size)
           clear hV)
        | fail)
      exact bodyPost_ret (results_cct rfl _ _ ⟨w.heap.size, 0, none⟩ ⟨w.heap.size + 1, 0, none⟩ (.agg ZK.toArray) (.agg #[.nilFunc, .nilFunc]) rfl rfl (loadVarK Z5.out Tryz.underlying46 rfl ik.out) (loadVarK (cs := [.nilFunc, .nilFunc]) Z6.out Tryz.underlying44 rfl i2.out)) rfl
          ⟨.tuple #[.agg ZK.toArray, .agg #[.nilFunc, .nilFunc], .int .i64 4], rfl, HKN.out _, B6.out⟩
  | true =>
    have HC2 := HC.out
    simp only [if_true, Bool.false_eq_true, if_false] at HC2
    clear HC
    rcases HC2 with ⟨⟨F, cp, rfl⟩, hKn⟩ | ⟨rfl, hKn⟩
    · have HKN := Lib.hid hKn
      clear hKn
      go_wp2_with (first
        | (refine wpList_run (o := ⟨some 11, _, _, _, _, _⟩) rfl (v := .agg CS.toArray) (w' := w1) (exec_lookF rfl hE) ?_)
        | (refine wpList_st rfl 46 (.tmp 7) (.tmp 11) rfl (store_arr (cs := CS) (old := ZK) ik8.out H8.out (heap_alloc_new' w1 _) HLE.out) ?_
           generalize hV : World.setRow _ _ _ = W2
           have G2 := Lib.hid (heap_of_setRow hV (heap_alloc_new' w1 _))
           have X2 : Hid (Below w1.heap.size w1 W2) := ((Below.refl _ w1).alloc (Nat.le_refl _) _).trans (below_of_setRow hV (Nat.le_refl _) (by simp))
           clear hV)
        | (refine wpList_ld rfl 44 (.tmp 12) rfl (run_loadAt_mid W2 w1.heap.size 4 44 [r1, d1] _ (RG.out _ _ _ _ G2.out).1 Tryz.underlying44 rfl i2.out) ?_)
        | (refine wpList_st rfl 44 (.tmp 8) (.tmp 13) rfl (store_arr (cs := [r1, d1]) (old := [.nilFunc, .nilFunc]) i2.out HW1.out (heap_alloc_new' W2 _) rfl) ?_
           generalize hV : World.setRow _ _ _ = W3
           have P3 := Lib.hid (heap_of_setRow hV (heap_alloc_new' W2 _))
           have X3 : Hid (Below w1.heap.size w1 W3) := X2.out.step (((Below.refl _ W2).alloc (Nat.le_refl _) _).trans (below_of_setRow hV (Nat.le_refl _) (by simp)))
           have G3 : Hid (W3.heap[w1.heap.size]? = _) := heap_of_other hV (by have := lt_of_heap G2.out; omega) ((Below.heap_alloc W2 _ _ (lt_of_heap G2.out)).trans G2.out)
           clear hV)
        | (refine wpList_ld rfl 44 (.tmp 15) rfl (run_loadAt_mid W3 w1.heap.size 6 44 [r2, (.func F #[] cp)] _ (RG.out _ _ _ _ G3.out).2 Tryz.underlying44 rfl i2.out) ?_)
        | (refine wpList_st rfl 44 (.tmp 8) (.tmp 16) rfl (store_arr (cs := [r2, (.func F #[] cp)]) (old := [r1, d1]) i2.out HW2.out P3.out rfl) ?_
           generalize hV : World.setRow _ _ _ = W4
           have P4 := Lib.hid (heap_of_setRow hV P3.out)
           have X4 : Hid (Below w1.heap.size w1 W4) := X3.out.trans (below_of_setRow hV (by have := X2.out.size; omega) X3.out.size)
           have G4 : Hid (W4.heap[w1.heap.size]? = _) := heap_of_other hV (by have := lt_of_heap G2.out; omega) G3.out
           clear hV)
        | (refine wpList_ld rfl 42 (.tmp 17) rfl (load_cellW (hu := Tryz.underlying42) (hd := rfl) (v := (.func F #[] cp)) (by rw [cell_of_heap (cs := [r2, (.func F #[] cp)]) P4.out]; rfl)) ?_)
        | fail)
      have HG : Hid (W4.heap[w1.heap.size]? = some (.cells CS.toArray 46 (0, 0))) := G4.out
      have hw1 : w.heap.size + 2 ≤ w1.heap.size := by have := lt_of_heap R5.out; omega
      have hw2 : w.heap.size + 2 ≤ W2.heap.size := by have := X2.out.size; omega
      have hR4 : W4.heap[w.heap.size]? = some (.cells ZK.toArray 46 (0, 0)) := (X4.out.block _ (lt_of_heap R4.out)).trans R4.out
      have hR5 : W4.heap[w.heap.size + 1]? = some (.cells #[.nilFunc, .nilFunc] 44 (0, 0)) := (X4.out.block _ (lt_of_heap R5.out)).trans R5.out
      have BR : Hid (Below w.heap.size w W4) := B1.out.step X4.out
      refine reg_inv (fun L a W => ∃ v22 v23 : Value, a = { tmps := #[.int .i64 x, .bool true, undef, undef, .pointer (some ⟨w.heap.size, 0, none⟩), .pointer (some ⟨w.heap.size + 1, 0, none⟩), .int .i64 0, .pointer (some ⟨w1.heap.size, 0, none⟩), .pointer (some ⟨W2.heap.size, 0, none⟩), v, .int .i64 x, .agg CS.toArray, .pointer (some ⟨w1.heap.size, 4, none⟩), .agg #[r1, d1], .bool true, .pointer (some ⟨w1.heap.size, 6, none⟩), .agg #[r2, (.func F #[] cp)], .pointer (some ⟨W2.heap.size, 1, none⟩), (.func F #[] cp), .bool false, undef, undef, v22, v23], defers := [] } ∧ (L 0 = true → v22 = .agg CS.toArray) ∧ (L 1 = true → v23 = .agg [r2, (.func F #[] cp)].toArray) ∧
          Below w.heap.size w W ∧ KeepL (w.heap.size + 2) W4 W ∧ (L 2 = false → W.heap[w.heap.size]? = some (.cells ZK.toArray 46 (0, 0))) ∧ (L 2 = true → W.heap[w.heap.size]? = some (.cells CS.toArray 46 (0, 0))) ∧
          (L 3 = false → W.heap[w.heap.size + 1]? = some (.cells #[.nilFunc, .nilFunc] 44 (0, 0))) ∧ (L 3 = true → W.heap[w.heap.size + 1]? = some (.cells [r2, (.func F #[] cp)].toArray 44 (0, 0)))) (by kernel_rfl) (by kernel_rfl) ?_
        (And.intro ?_ (And.intro ?_ (And.intro ?_ (And.intro ?_ (And.intro ?_ trivial))))) ?_
      · intro L hL
        have no : ∀ j, j < 5 → L j = true → False := fun j hj h => by rw [hL j hj] at h; cases h
        exact ⟨_, _, rfl, fun h => (no 0 (by decide) h).elim, fun h => (no 1 (by decide) h).elim, BR.out.drew, ⟨Nat.le_refl _, fun _ _ _ _ _ h => h⟩, fun _ => hR4, fun h => (no 2 (by decide) h).elim, fun _ => hR5, fun h => (no 3 (by decide) h).elim⟩
      · rintro L a W ⟨v22, v23, rfl, F0, F1, hB, hK, f2, t2, f3, t3⟩ hLi hd K0 hK0
        refine step_ldF rfl 46 (.tmp 7) rfl (load_arr Tryz.underlying46 rfl ik8.out (hK.same _ _ _ _ hw1 HG.out)) ?_
        exact hK0.out _ _ ⟨_, v23, rfl, fun _ => rfl, F1, hB, hK, f2, t2, f3, t3⟩
      · rintro L a W ⟨v22, v23, rfl, F0, F1, hB, hK, f2, t2, f3, t3⟩ hLi hd K0 hK0
        refine step_ldF rfl 44 (.tmp 8) rfl (load_arr (cs := [r2, (.func F #[] cp)]) Tryz.underlying44 rfl i2.out (hK.same _ _ _ _ hw2 P4.out)) ?_
        exact hK0.out _ _ ⟨v22, _, rfl, F0, fun _ => rfl, hB, hK, f2, t2, f3, t3⟩
      · rintro L a W ⟨v22, v23, rfl, F0, F1, hB, hK, f2, t2, f3, t3⟩ hLi hd K0 hK0
        have e0 : v22 = _ := F0 (hd ⟨0, .data⟩ (by simp) rfl)
        subst e0
        have hst := f2 hLi
        refine step_st1 rfl 46 (.tmp 4) (.tmp 22) rfl (store_arr (cs := CS) (old := ZK) ik8.out H8.out hst HLE.out) ?_
        generalize hV : World.setRow _ _ _ = W'
        refine hK0.out _ _ ⟨_, v23, rfl, fun _ => rfl, F1, hB.trans (below_of_setRow hV (Nat.le_refl _) hB.size), hK.trans (keepL_setRow hV (by omega)), fun h => (upS h).elim, fun _ => heap_of_setRow hV hst, fun h => heap_of_other hV (by omega) (f3 h), fun h => heap_of_other hV (by omega) (t3 h)⟩
      · rintro L a W ⟨v22, v23, rfl, F0, F1, hB, hK, f2, t2, f3, t3⟩ hLi hd K0 hK0
        have e1 : v23 = _ := F1 (hd ⟨1, .data⟩ (by simp) rfl)
        subst e1
        have hst := f3 hLi
        refine step_st1 rfl 44 (.tmp 5) (.tmp 23) rfl (store_arr (cs := [r2, (.func F #[] cp)]) (old := [.nilFunc, .nilFunc]) i2.out HW2.out hst rfl) ?_
        generalize hV : World.setRow _ _ _ = W'
        refine hK0.out _ _ ⟨v22, _, rfl, F0, fun _ => rfl, hB.trans (below_of_setRow hV (Nat.le_succ _) hB.size), hK.trans (keepL_setRow hV (by omega)), fun h => heap_of_other hV (by omega) (f2 h), fun h => heap_of_other hV (by omega) (t2 h), fun h => (upS h).elim, fun _ => heap_of_setRow hV hst⟩
      · rintro L a W ⟨v22, v23, rfl, F0, F1, hB, hK, f2, t2, f3, t3⟩ hLi hd K0 hK0
        go_simp
        exact hK0.out _ _ ⟨v22, v23, rfl, F0, F1, hB, hK, f2, t2, f3, t3⟩
      · rintro L a W hL ⟨v22, v23, rfl, F0, F1, hB, hK, f2, t2, f3, t3⟩
        go_wp2
        exact bodyPost_ret (results_cct rfl _ _ ⟨w.heap.size, 0, none⟩ ⟨w.heap.size + 1, 0, none⟩ (.agg CS.toArray) (.agg [r2, (.func F #[] cp)].toArray) rfl rfl (loadVarK (t2 (hL 2)) Tryz.underlying46 rfl ik8.out) (loadVarK (cs := [r2, (.func F #[] cp)]) (t3 (hL 3)) Tryz.underlying44 rfl i2.out)) rfl
          ⟨.tuple #[.agg CS.toArray, .agg [r2, (.func F #[] cp)].toArray, .int .i64 0], rfl, HKN.out _ ((KeepL.of X4.out).trans hK), hB⟩
    · have HKN := Lib.hid hKn
      clear hKn
      go_wp2_with (first
        | (refine wpList_run (o := ⟨some 11, _, _, _, _, _⟩) rfl (v := .agg CS.toArray) (w' := w1) (exec_lookF rfl hE) ?_)
        | (refine wpList_st rfl 46 (.tmp 7) (.tmp 11) rfl (store_arr (cs := CS) (old := ZK) ik8.out H8.out (heap_alloc_new' w1 _) HLE.out) ?_
           generalize hV : World.setRow _ _ _ = W2
           have G2 := Lib.hid (heap_of_setRow hV (heap_alloc_new' w1 _))
           have X2 : Hid (Below w1.heap.size w1 W2) := ((Below.refl _ w1).alloc (Nat.le_refl _) _).trans (below_of_setRow hV (Nat.le_refl _) (by simp))
           clear hV)
        | (refine wpList_ld rfl 44 (.tmp 12) rfl (run_loadAt_mid W2 w1.heap.size 4 44 [r1, d1] _ (RG.out _ _ _ _ G2.out).1 Tryz.underlying44 rfl i2.out) ?_)
        | (refine wpList_st rfl 44 (.tmp 8) (.tmp 13) rfl (store_arr (cs := [r1, d1]) (old := [.nilFunc, .nilFunc]) i2.out HW1.out (heap_alloc_new' W2 _) rfl) ?_
           generalize hV : World.setRow _ _ _ = W3
           have P3 := Lib.hid (heap_of_setRow hV (heap_alloc_new' W2 _))
           have X3 : Hid (Below w1.heap.size w1 W3) := X2.out.step (((Below.refl _ W2).alloc (Nat.le_refl _) _).trans (below_of_setRow hV (Nat.le_refl _) (by simp)))
           have G3 : Hid (W3.heap[w1.heap.size]? = _) := heap_of_other hV (by have := lt_of_heap G2.out; omega) ((Below.heap_alloc W2 _ _ (lt_of_heap G2.out)).trans G2.out)
           clear hV)
        | (refine wpList_ld rfl 44 (.tmp 15) rfl (run_loadAt_mid W3 w1.heap.size 6 44 [r2, .nilFunc] _ (RG.out _ _ _ _ G3.out).2 Tryz.underlying44 rfl i2.out) ?_)
        | (refine wpList_st rfl 44 (.tmp 8) (.tmp 16) rfl (store_arr (cs := [r2, .nilFunc]) (old := [r1, d1]) i2.out HW2.out P3.out rfl) ?_
           generalize hV : World.setRow _ _ _ = W4
           have P4 := Lib.hid (heap_of_setRow hV P3.out)
           have X4 : Hid (Below w1.heap.size w1 W4) := X3.out.trans (below_of_setRow hV (by have := X2.out.size; omega) X3.out.size)
           have G4 : Hid (W4.heap[w1.heap.size]? = _) := heap_of_other hV (by have := lt_of_heap G2.out; omega) G3.out
           clear hV)
        | (refine wpList_ld rfl 42 (.tmp 17) rfl (load_cellW (hu := Tryz.underlying42) (hd := rfl) (v := .nilFunc) (by rw [cell_of_heap (cs := [r2, .nilFunc]) P4.out]; rfl)) ?_)
        | (refine wpList_st rfl 46 (.tmp 4) (.tmp 20) rfl (store_arr (cs := ZK) (old := ZK) ik.out h1z.out ((X4.out.block _ (lt_of_heap R4.out)).trans R4.out) rfl) ?_
           generalize hV : World.setRow _ _ _ = W5
           have Y4 := Lib.hid (heap_of_setRow hV ((X4.out.block _ (lt_of_heap R4.out)).trans R4.out))
           have Y5 : Hid (W5.heap[w.heap.size + 1]? = _) := heap_of_other hV (by omega) ((X4.out.block _ (lt_of_heap R5.out)).trans R5.out)
           have B5 : Hid (Below w.heap.size w W5) := (B1.out.step X4.out).trans (below_of_setRow hV (Nat.le_refl _) (B1.out.step X4.out).size)
           clear hV)
        | (refine wpList_st rfl 44 (.tmp 5) (.tmp 21) rfl (store_arr (cs := [.nilFunc, .nilFunc]) (old := [.nilFunc, .nilFunc]) i2.out (agg2_one (.inr rfl) (.inr rfl)) Y5.out rfl) ?_
           generalize hV : World.setRow _ _ _ = W6
           have Z6 := Lib.hid (heap_of_setRow hV Y5.out)
           have Z5 : Hid (W6.heap[w.heap.size]? = _) := heap_of_other hV (by omega) Y4.out
           have B6 : Hid (Below w.heap.size w W6) := B5.out.trans (below_of_setRow hV (Nat.le_succ _) B5.out.size)
           clear hV)
        | fail)
      exact bodyPost_ret (results_cct rfl _ _ ⟨w.heap.size, 0, none⟩ ⟨w.heap.size + 1, 0, none⟩ (.agg ZK.toArray) (.agg #[.nilFunc, .nilFunc]) rfl rfl (loadVarK Z5.out Tryz.underlying46 rfl ik.out) (loadVarK (cs := [.nilFunc, .nilFunc]) Z6.out Tryz.underlying44 rfl i2.out)) rfl
          ⟨.tuple #[.agg ZK.toArray, .agg #[.nilFunc, .nilFunc], .int .i64 4], rfl, HKN.out _, B6.out⟩
end Go.Proofs.YtimgggpojbpfkaaGreatDoor

/- algo.Room, Check. -/
namespace Go.Proofs.YtimgggpojbpfkaaGreatDoor
open Go.RowKit Go.Shelf
set_option linter.unusedVariables false
set_option linter.unusedSimpArgs false
set_option maxRecDepth 100000
/-- an algorithm is one, and has that direction -/
def hasA (x : Int) (o : Bool) : Bool := decide (1 ≤ x ∧ x ≤ 6) && hasW x.toNat o
theorem hasA_yes {k : Nat} {o : Bool} (h1 : 1 ≤ k) (h2 : k ≤ 6) (h : hasW k o = true) : hasA (k : Int) o = true := by
  unfold hasA
  rw [Int.toNat_natCast, h, Bool.and_true]
  exact decide_eq_true ⟨by omega, by omega⟩
theorem hasA_no {x : Int} {o : Bool} (h : x < 1 ∨ 6 < x ∨ ∃ k : Nat, 1 ≤ k ∧ k ≤ 6 ∧ x = (k : Int) ∧ hasW k o = false) : hasA x o = false := by
  unfold hasA
  rcases h with h | h | ⟨k, h1, h2, rfl, h⟩
  · rw [decide_eq_false (by omega), Bool.false_and]
  · rw [decide_eq_false (by omega), Bool.false_and]
  · rw [Int.toNat_natCast, h, Bool.and_false]
def roomR (x : Int) (o : Bool) (n : Int) : Int × Int := if hasA x o = false then (0, 4) else if n < 0 then (0, 1) else roomP x.toNat o n.toNat
/-- what known comes to, in eight cells and two -/
theorem known_open {W : World} {x : Int} {o : Bool} {v : Value} (h : KnownV W x o v) :
    (hasA x o = true ∧ ∃ (k n0 : Nat) (c a : Int) (key iv r1 d1 r2 d2 r d : Value), x = (k : Int) ∧ 1 ≤ k ∧ k ≤ 6 ∧ v = .tuple #[.agg [.int .i64 c, key, iv, .int .i64 a, r1, d1, r2, d2].toArray, .agg [r, d].toArray, .int .i64 0] ∧
      (∀ u ∈ [.int .i64 c, key, iv, .int .i64 a, r1, d1, r2, d2], u.oneCell' = true) ∧ (∀ u ∈ [r, d], u.oneCell' = true) ∧ a = aadK k ∧ FitV n0 W key (keyP k) ∧ FitV n0 W iv (ivP k) ∧ RoomV n0 W r (roomP k o) ∧ DoV n0 W k o d) ∨
    (hasA x o = false ∧ v = .tuple #[.agg zeroKind.toArray, .agg [.nilFunc, .nilFunc].toArray, .int .i64 4]) := by
  rcases h with ⟨k, h1, h2, rfl, hh, E, r, d, rfl, n0, hK, hR, hD⟩ | ⟨hx, rfl⟩
  · refine .inl ⟨hasA_yes h1 h2 hh, ?_⟩
    obtain ⟨key, iv, r1, d1, r2, d2, rfl, f1, f2, w1, w2⟩ := hK
    obtain ⟨c, a, key', iv', r1', d1', r2', d2', e, g1, g2, g3, g4, g5, g6, _⟩ := kind_cells ⟨h1, h2⟩ (show KindAt n0 W _ k from ⟨key, iv, r1, d1, r2, d2, rfl, f1, f2, w1, w2⟩)
    simp only [Value.agg.injEq, Array.mk.injEq, List.cons.injEq, and_true] at e
    obtain ⟨_, rfl, rfl, _, rfl, rfl, rfl, rfl⟩ := e
    refine ⟨k, n0, clsK k, aadK k, key, iv, r1, d1, r2, d2, r, d, rfl, h1, h2, rfl, agg8_one (.inl g1) (.inl g2) g3 g4 g5 g6, agg2_one (.inl (fun_room hR)) (.inl ?_), rfl, f1, f2, hR, hD⟩
    have hk6 : k = 1 ∨ k = 2 ∨ k = 3 ∨ k = 4 ∨ k = 5 ∨ k = 6 := by omega
    rcases hk6 with rfl | rfl | rfl | rfl | rfl | rfl <;> cases o <;> first | exact ⟨_, _, hD⟩ | exact fun_aes hD | exact fun_key hD
  · exact .inr ⟨hasA_no hx, rfl⟩
theorem zk_one : ∀ u ∈ zeroKind, u.oneCell' = true := by
  intro v hv
  simp only [zeroKind, List.mem_cons, List.not_mem_nil, or_false] at hv
  rcases hv with rfl | rfl | rfl | rfl | rfl | rfl | rfl | rfl <;> rfl
theorem nn_one : ∀ u ∈ ([.nilFunc, .nilFunc] : List Value), u.oneCell' = true := by
  intro v hv
  simp only [List.mem_cons, List.not_mem_nil, or_false] at hv
  rcases hv with rfl | rfl <;> rfl
theorem i8K : (Tryz.prog.info? 46).map (·.size) = some 8 := by kernel_rfl
theorem i2K : (Tryz.prog.info? 44).map (·.size) = some 2 := by kernel_rfl
set_option maxHeartbeats 4000000 in
theorem room_any (x : Int) (o : Bool) (n : Int) (w : World) (hn : n ≤ 4611686018427387904) (hn2 : -9223372036854775808 ≤ n) : Calls Tryz.prog 9 #[.int .i64 x, .bool o, .int .i64 n] w fun e w' => e = .returned (.tuple #[.int .i64 (roomR x o n).1, .int .i64 (roomR x o n).2]) ∧ Below w.heap.size w w' := by
  have hzk : ∀ W, (zeroValue 46).run Tryz.prog W = .ok (.agg zeroKind.toArray) W := fun W => by kernel_rfl
  have hzw : ∀ W, (zeroValue 44).run Tryz.prog W = .ok (.agg #[.nilFunc, .nilFunc]) W := fun W => by kernel_rfl
  have hl8 : Hid (zeroKind.length = 8) := rfl
  have h1z := Lib.hid zk_one
  have KO := Lib.hid (fun (W : World) (v : Value) (h : KnownV W x o v) => known_open h)
  obtain ⟨y, hy⟩ : ∃ y, y = roomR x o n := ⟨_, rfl⟩
  rw [← hy]
  have HY := Lib.hid hy
  clear hy
  generalize zeroKind = ZK at hzk hl8 h1z KO
  go_enter Tryz.func9, Tryz.ntmps9
  go_wp2_with fail
  refine (known_any x o w).mono ?_
  rintro e w1 ⟨v, rfl, hv, hb⟩
  have B1 := Lib.hid hb
  rcases KO.out w1 v hv with ⟨hh, k, n0, c, a, key, iv, r1, d1, r2, d2, r, d, rfl, hk1, hk2, rfl, o8, o2, ha, f1, f2, hR, hD⟩ | ⟨hh, rfl⟩
  · obtain ⟨F, cap, rfl, hent, hRm⟩ := hR
    have HRM := Lib.hid hRm
    have O8 := Lib.hid o8; have O2 := Lib.hid o2
    have ik8 : Hid (([.int .i64 c, key, iv, .int .i64 a, r1, d1, r2, d2] : List Value).length = 8) := rfl
    clear hv hb KO o8 o2 f1 f2 hD hRm ha
    generalize ([.int .i64 c, key, iv, .int .i64 a, r1, d1, r2, d2] : List Value) = CS at O8 ik8
    have hent : ∀ args W, (callFunc F args).run Tryz.prog W = .ok (.enter F args) W := hent
    by_cases h0 : n < 0
    · have HYV : y = (0, 1) := by rw [HY.out, roomR, hh, if_neg (by decide), if_pos h0]
      subst HYV
      go_wp2_with (first
        | (refine wpList_st rfl 46 (.tmp 8) (.tmp 15) rfl (store_arr (cs := CS) (old := ZK) (by rw [ik8.out]; exact i8K) O8.out (heap2K w1 (.cells ZK.toArray 46) (.cells #[.nilFunc, .nilFunc] 44)).1 (by rw [hl8.out, ik8.out])) ?_
           generalize hV : World.setRow _ _ _ = W4
           have P4 : Hid (Below w1.heap.size w1 W4 ∧ W4.heap[w1.heap.size + 1]? = some (.cells [.nilFunc, .nilFunc].toArray 44 (0, 0))) := by
             obtain ⟨h1, h2, h3⟩ := heap2K w1 (.cells ZK.toArray 46) (.cells #[.nilFunc, .nilFunc] 44)
             exact ⟨h3.trans (below_of_setRow hV (Nat.le_refl _) h3.size), heap_of_other hV (by omega) h2⟩
           clear hV)
        | (refine wpList_st rfl 44 (.tmp 9) (.tmp 16) rfl (store_arr (cs := [.func (.func F) #[] cap, d]) (old := [.nilFunc, .nilFunc]) i2K O2.out P4.out.2 rfl) ?_
           generalize hV : World.setRow _ _ _ = W5
           have P5 := Lib.hid (heap_of_setRow hV P4.out.2)
           have B5 : Hid (Below w1.heap.size w1 W5) := P4.out.1.trans (below_of_setRow hV (Nat.le_succ _) P4.out.1.size)
           clear hV)
        | fail)
      go_ret2
      exact ⟨rfl, B1.out.step B5.out⟩
    · have h0' : 0 ≤ n := by omega
      obtain ⟨m, hm⟩ : ∃ m : Nat, n = (m : Int) := ⟨n.toNat, by omega⟩
      subst hm
      have HYV : y = roomP k o m := by rw [HY.out, roomR, hh, if_neg (by decide), if_neg h0, Int.toNat_natCast, Int.toNat_natCast]
      clear HY
      subst HYV
      go_wp2_with (first
        | (refine wpList_st rfl 46 (.tmp 8) (.tmp 15) rfl (store_arr (cs := CS) (old := ZK) (by rw [ik8.out]; exact i8K) O8.out (heap2K w1 (.cells ZK.toArray 46) (.cells #[.nilFunc, .nilFunc] 44)).1 (by rw [hl8.out, ik8.out])) ?_
           generalize hV : World.setRow _ _ _ = W4
           have P4 : Hid (Below w1.heap.size w1 W4 ∧ W4.heap[w1.heap.size + 1]? = some (.cells [.nilFunc, .nilFunc].toArray 44 (0, 0))) := by
             obtain ⟨h1, h2, h3⟩ := heap2K w1 (.cells ZK.toArray 46) (.cells #[.nilFunc, .nilFunc] 44)
             exact ⟨h3.trans (below_of_setRow hV (Nat.le_refl _) h3.size), heap_of_other hV (by omega) h2⟩
           clear hV)
        | (refine wpList_st rfl 44 (.tmp 9) (.tmp 16) rfl (store_arr (cs := [.func (.func F) #[] cap, d]) (old := [.nilFunc, .nilFunc]) i2K O2.out P4.out.2 rfl) ?_
           generalize hV : World.setRow _ _ _ = W5
           have P5 := Lib.hid (heap_of_setRow hV P4.out.2)
           have B5 : Hid (Below w1.heap.size w1 W5) := P4.out.1.trans (below_of_setRow hV (Nat.le_succ _) P4.out.1.size)
           clear hV)
        | (refine wpList_ld rfl 41 (.tmp 25) rfl (load_cellW (hu := Tryz.underlying41) (hd := rfl) (v := .func (.func F) #[] cap) (by rw [cell_of_heap P5.out]; rfl)) ?_)
        | fail)
      refine (HRM.out W5 (KeepL.of B5.out) m (by omega)).mono ?_
      rintro e w6 ⟨rfl, hb6⟩
      have B6 := Lib.hid ((B1.out.step B5.out).step hb6)
      go_wp2
      go_ret2
      exact ⟨rfl, B6.out⟩
  · have HYV : y = (0, 4) := by rw [HY.out, roomR, hh, if_pos rfl]
    clear hv hb KO
    subst HYV
    go_wp2_with (first
      | (refine wpList_st rfl 46 (.tmp 8) (.tmp 15) rfl (store_arr (cs := ZK) (old := ZK) (by rw [hl8.out]; exact i8K) h1z.out (heap2K w1 (.cells ZK.toArray 46) (.cells #[.nilFunc, .nilFunc] 44)).1 rfl) ?_
         generalize hV : World.setRow _ _ _ = W4
         have P4 : Hid (Below w1.heap.size w1 W4 ∧ W4.heap[w1.heap.size + 1]? = some (.cells [.nilFunc, .nilFunc].toArray 44 (0, 0))) := by
           obtain ⟨h1, h2, h3⟩ := heap2K w1 (.cells ZK.toArray 46) (.cells #[.nilFunc, .nilFunc] 44)
           exact ⟨h3.trans (below_of_setRow hV (Nat.le_refl _) h3.size), heap_of_other hV (by omega) h2⟩
         clear hV)
      | (refine wpList_st rfl 44 (.tmp 9) (.tmp 16) rfl (store_arr (cs := [.nilFunc, .nilFunc]) (old := [.nilFunc, .nilFunc]) i2K nn_one P4.out.2 rfl) ?_
         generalize hV : World.setRow _ _ _ = W5
         have B5 : Hid (Below w1.heap.size w1 W5) := P4.out.1.trans (below_of_setRow hV (Nat.le_succ _) P4.out.1.size)
         clear hV)
      | fail)
    go_ret2
    exact ⟨rfl, B1.out.step B5.out⟩
end Go.Proofs.YtimgggpojbpfkaaGreatDoor

/- algo.Check. -/
namespace Go.Proofs.YtimgggpojbpfkaaGreatDoor
open Go.RowKit Go.Shelf
set_option linter.unusedVariables false
set_option linter.unusedSimpArgs false
set_option maxRecDepth 100000
def checkR (x : Int) (o : Bool) (kn vn an : Nat) : Int := if hasA x o = false then 4 else if keyP x.toNat kn = false then 5 else if ivP x.toNat vn = false then 6 else if aadK x.toNat < (an : Int) then 10 else 0
/-- params, as a value -/
def parV (x : Int) (o : Bool) (Ak : Option Addr) (kn kc : Nat) (Ai : Option Addr) (vn ic : Nat) (Aa : Option Addr) (an ac : Nat) : List Value := [.int .i64 x, .bool o, .slice Ak kn kc, .slice Ai vn ic, .slice Aa an ac]
theorem par_cells {W : World} {g : Nat} {x : Int} {o : Bool} {Ak Ai Aa : Option Addr} {kn kc vn ic an ac : Nat} {t : TypeId} {fr : Nat × Nat} (h : W.heap[g]? = some (.cells (parV x o Ak kn kc Ai vn ic Aa an ac).toArray t fr)) :
    W.cell? ⟨g, 0, none⟩ = some (.int .i64 x) ∧ W.cell? ⟨g, 1, none⟩ = some (.bool o) ∧ W.cell? ⟨g, 2, none⟩ = some (.slice Ak kn kc) ∧ W.cell? ⟨g, 3, none⟩ = some (.slice Ai vn ic) ∧ W.cell? ⟨g, 4, none⟩ = some (.slice Aa an ac) :=
  ⟨cell_of_heap h 0, cell_of_heap h 1, cell_of_heap h 2, cell_of_heap h 3, cell_of_heap h 4⟩
set_option maxHeartbeats 8000000 in
theorem check_any (x : Int) (o : Bool) (Ak : Option Addr) (kn kc : Nat) (Ai : Option Addr) (vn ic : Nat) (Aa : Option Addr) (an ac : Nat) (w : World) (h1 : kn ≤ 9223372036854775807) (h2 : vn ≤ 9223372036854775807) (h3 : an ≤ 9223372036854775807) :
    Calls Tryz.prog 8 #[.agg (parV x o Ak kn kc Ai vn ic Aa an ac).toArray] w fun e w' => e = .returned (.int .i64 (checkR x o kn vn an)) ∧ Below w.heap.size w w' := by
  have hzk : ∀ W, (zeroValue 46).run Tryz.prog W = .ok (.agg zeroKind.toArray) W := fun W => by kernel_rfl
  have hzw : ∀ W, (zeroValue 44).run Tryz.prog W = .ok (.agg #[.nilFunc, .nilFunc]) W := fun W => by kernel_rfl
  have hl8 : Hid (zeroKind.length = 8) := rfl
  have h1z := Lib.hid zk_one
  have KO := Lib.hid (fun (W : World) (v : Value) (h : KnownV W x o v) => known_open h)
  have PC := Lib.hid (fun (W : World) (g : Nat) (t : TypeId) (fr : Nat × Nat) (h : W.heap[g]? = some (.cells (parV x o Ak kn kc Ai vn ic Aa an ac).toArray t fr)) => par_cells h)
  obtain ⟨y, hy⟩ : ∃ y, y = checkR x o kn vn an := ⟨_, rfl⟩
  rw [← hy]
  have HY := Lib.hid hy
  clear hy
  generalize zeroKind = ZK at hzk hl8 h1z KO
  generalize parV x o Ak kn kc Ai vn ic Aa an ac = PV at PC ⊢
  go_enter Tryz.func8, Tryz.ntmps8
  go_upto_region 1 with (fail)
  have HB := Lib.hid (heap_alloc_new' w (.cells PV.toArray 28))
  have B0 : Hid (Below w.heap.size w (w.alloc (.cells PV.toArray 28))) := (Below.refl _ _).alloc (Nat.le_refl _) _
  generalize w.alloc _ = W0 at HB B0 ⊢
  obtain ⟨gB, hgB⟩ : ∃ g, w.heap.size = g := ⟨_, rfl⟩
  have HGB := Lib.hid hgB
  rw [hgB] at HB ⊢
  clear hgB
  have c0 := (PC.out _ _ _ _ HB.out).1
  have c1 := (PC.out _ _ _ _ HB.out).2.1
  go_wp2_with fail
  clear c0 c1
  refine (known_any x o W0).mono ?_
  rintro e w1 ⟨v, rfl, hv, hb⟩
  have B1 := Lib.hid (B0.out.step hb)
  have HB1 : Hid (w1.heap[gB]? = _) := (hb.block _ (lt_of_heap HB.out)).trans HB.out
  rcases KO.out w1 v hv with ⟨hh, k, n0, c, a, key, iv, r1, d1, r2, d2, r, d, rfl, hk1, hk2, rfl, o8, o2, ha, f1, f2, hR, hD⟩ | ⟨hh, rfl⟩
  · obtain ⟨F, cap, rfl, hent, hFm⟩ := f1
    obtain ⟨F2, cap2, rfl, hent2, hFm2⟩ := f2
    have HFM := Lib.hid hFm; have HFM2 := Lib.hid hFm2
    have O8 := Lib.hid o8; have O2 := Lib.hid o2
    have ik8 : Hid (([.int .i64 c, .func (.func F) #[] cap, .func (.func F2) #[] cap2, .int .i64 a, r1, d1, r2, d2] : List Value).length = 8) := rfl
    have CK := Lib.hid (fun (W : World) (g : Nat) (t : TypeId) (fr : Nat × Nat) (h : W.heap[g]? = some (.cells [.int .i64 c, .func (.func F) #[] cap, .func (.func F2) #[] cap2, .int .i64 a, r1, d1, r2, d2].toArray t fr)) =>
      (⟨cell_of_heap h 1, cell_of_heap h 2, cell_of_heap h 3⟩ : W.cell? ⟨g, 1, none⟩ = some (.func (.func F) #[] cap) ∧ W.cell? ⟨g, 2, none⟩ = some (.func (.func F2) #[] cap2) ∧ W.cell? ⟨g, 3, none⟩ = some (.int .i64 a)))
    clear hv hb KO o8 o2 hR hD hFm hFm2
    generalize ([.int .i64 c, .func (.func F) #[] cap, .func (.func F2) #[] cap2, .int .i64 a, r1, d1, r2, d2] : List Value) = CS at O8 ik8 CK
    have hent : ∀ args W, (callFunc F args).run Tryz.prog W = .ok (.enter F args) W := hent
    have hent2 : ∀ args W, (callFunc F2 args).run Tryz.prog W = .ok (.enter F2 args) W := hent2
    rw [checkR, hh, if_neg (by decide), Int.toNat_natCast, ← ha] at HY
    go_upto_region 2 with (first
      | (refine wpList_st rfl 46 (.tmp 3) (.tmp 12) rfl (store_arr (cs := CS) (old := ZK) (by rw [ik8.out]; exact i8K) O8.out (heap2K w1 (.cells ZK.toArray 46) (.cells #[.nilFunc, .nilFunc] 44)).1 (by rw [hl8.out, ik8.out])) ?_
         generalize hV : World.setRow _ _ _ = W4
         have P4 : Hid (Below w1.heap.size w1 W4 ∧ W4.heap[w1.heap.size + 1]? = some (.cells [.nilFunc, .nilFunc].toArray 44 (0, 0))) := by
           obtain ⟨h1, h2, h3⟩ := heap2K w1 (.cells ZK.toArray 46) (.cells #[.nilFunc, .nilFunc] 44)
           exact ⟨h3.trans (below_of_setRow hV (Nat.le_refl _) h3.size), heap_of_other hV (by omega) h2⟩
         have G4 : Hid (W4.heap[w1.heap.size]? = _) := heap_of_setRow hV (heap2K w1 (.cells ZK.toArray 46) (.cells #[.nilFunc, .nilFunc] 44)).1
         clear hV)
      | (refine wpList_st rfl 44 (.tmp 4) (.tmp 13) rfl (store_arr (cs := [r, d]) (old := [.nilFunc, .nilFunc]) i2K O2.out P4.out.2 rfl) ?_
         generalize hV : World.setRow _ _ _ = W5
         have B5 : Hid (Below w1.heap.size w1 W5) := P4.out.1.trans (below_of_setRow hV (Nat.le_succ _) P4.out.1.size)
         have G5 : Hid (W5.heap[w1.heap.size]? = _) := heap_of_other hV (by omega) G4.out
         clear hV)
      | fail)
    have HB5 : Hid (W5.heap[gB]? = _) := (B5.out.block _ (lt_of_heap HB1.out)).trans HB1.out
    have BB5 := Lib.hid (B1.out.step B5.out)
    have ck := (CK.out _ _ _ _ G5.out).1
    have ca := (PC.out _ _ _ _ HB5.out).2.2.1
    go_wp2_with fail
    clear ck ca
    refine (HFM.out W5 (KeepL.of B5.out) kn h1).mono ?_
    rintro e w6 ⟨rfl, hb6⟩
    have G6 : Hid (w6.heap[w1.heap.size]? = _) := (hb6.block _ (lt_of_heap G5.out)).trans G5.out
    have HB6 : Hid (w6.heap[gB]? = _) := (hb6.block _ (lt_of_heap HB5.out)).trans HB5.out
    have BB6 := Lib.hid (BB5.out.step hb6)
    have B6 := Lib.hid (B5.out.step hb6)
    clear hb6 G5 HB5 BB5 B5
    cases hkp : keyP k kn with
    | false =>
      have HYV : y = 5 := by rw [HY.out, hkp, if_pos rfl]
      subst HYV
      go_wp2
      go_ret
      exact ⟨rfl, BB6.out⟩
    | true =>
      rw [hkp, if_neg (by decide)] at HY
      have ck := (CK.out _ _ _ _ G6.out).2.1
      have ca := (PC.out _ _ _ _ HB6.out).2.2.2.1
      go_wp2_with fail
      clear ck ca
      refine (HFM2.out w6 (KeepL.of B6.out) vn h2).mono ?_
      rintro e w7 ⟨rfl, hb7⟩
      have G7 : Hid (w7.heap[w1.heap.size]? = _) := (hb7.block _ (lt_of_heap G6.out)).trans G6.out
      have HB7 : Hid (w7.heap[gB]? = _) := (hb7.block _ (lt_of_heap HB6.out)).trans HB6.out
      have BB7 := Lib.hid (BB6.out.step hb7)
      clear hb7 G6 HB6 BB6 B6
      cases hip : ivP k vn with
      | false =>
        have HYV : y = 6 := by rw [HY.out, hip, if_pos rfl]
        subst HYV
        go_wp2
        go_ret
        exact ⟨rfl, BB7.out⟩
      | true =>
        rw [hip, if_neg (by decide)] at HY
        have ck := (CK.out _ _ _ _ G7.out).2.2
        have ca := (PC.out _ _ _ _ HB7.out).2.2.2.2
        by_cases hal : a < (an : Int)
        · have HYV : y = 10 := by rw [HY.out, if_pos hal]
          subst HYV
          go_wp2
          go_ret
          exact ⟨rfl, BB7.out⟩
        · have HYV : y = 0 := by rw [HY.out, if_neg hal]
          have hal' : ¬ (a < (an : Int)) := hal
          subst HYV
          go_wp2
          go_ret
          exact ⟨rfl, BB7.out⟩
  · have HYV : y = 4 := by rw [HY.out, checkR, hh, if_pos rfl]
    clear hv hb KO
    subst HYV
    go_wp2_with (first
      | (refine wpList_st rfl 46 (.tmp 3) (.tmp 12) rfl (store_arr (cs := ZK) (old := ZK) (by rw [hl8.out]; exact i8K) h1z.out (heap2K w1 (.cells ZK.toArray 46) (.cells #[.nilFunc, .nilFunc] 44)).1 rfl) ?_
         generalize hV : World.setRow _ _ _ = W4
         have P4 : Hid (Below w1.heap.size w1 W4 ∧ W4.heap[w1.heap.size + 1]? = some (.cells [.nilFunc, .nilFunc].toArray 44 (0, 0))) := by
           obtain ⟨h1, h2, h3⟩ := heap2K w1 (.cells ZK.toArray 46) (.cells #[.nilFunc, .nilFunc] 44)
           exact ⟨h3.trans (below_of_setRow hV (Nat.le_refl _) h3.size), heap_of_other hV (by omega) h2⟩
         clear hV)
      | (refine wpList_st rfl 44 (.tmp 4) (.tmp 13) rfl (store_arr (cs := [.nilFunc, .nilFunc]) (old := [.nilFunc, .nilFunc]) i2K nn_one P4.out.2 rfl) ?_
         generalize hV : World.setRow _ _ _ = W5
         have B5 : Hid (Below w1.heap.size w1 W5) := P4.out.1.trans (below_of_setRow hV (Nat.le_succ _) P4.out.1.size)
         clear hV)
      | fail)
    go_ret
    exact ⟨rfl, B1.out.step B5.out⟩
end Go.Proofs.YtimgggpojbpfkaaGreatDoor

/- algo.Do, by what is done. -/
namespace Go.Proofs.YtimgggpojbpfkaaGreatDoor
open Go.RowKit Go.Shelf
set_option linter.unusedVariables false
set_option linter.unusedSimpArgs false
set_option maxRecDepth 100000
theorem par_one (x : Int) (o : Bool) (Ak : Option Addr) (kn kc : Nat) (Ai : Option Addr) (vn ic : Nat) (Aa : Option Addr) (an ac : Nat) : ∀ v ∈ parV x o Ak kn kc Ai vn ic Aa an ac, v.oneCell' = true := by
  intro v hv
  simp only [parV, List.mem_cons, List.not_mem_nil, or_false] at hv
  rcases hv with rfl | rfl | rfl | rfl | rfl <;> rfl
theorem i5P : (Tryz.prog.info? 28).map (·.size) = some 5 := by kernel_rfl
/-- what Do comes to, by what is done -/
def DoR (x : Int) (o : Bool) (kn vn an n : Nat) (R : Value → Int → World → Prop) (v : Value) (y : Int) (w' : World) : Prop :=
  if checkR x o kn vn an ≠ 0 then v = .slice none 0 0 ∧ y = checkR x o kn vn an
  else if (roomR x o n).2 ≠ 0 then v = .slice none 0 0 ∧ y = (roomR x o n).2 else R v y w'
theorem check_zero {x : Int} {o : Bool} {kn vn an : Nat} (h : checkR x o kn vn an = 0) : hasA x o = true ∧ keyP x.toNat kn = true ∧ ivP x.toNat vn = true ∧ (an : Int) ≤ aadK x.toNat := by
  unfold checkR at h
  split at h
  · cases h
  · split at h
    · cases h
    · split at h
      · cases h
      · split at h
        · cases h
        · refine ⟨?_, ?_, ?_, by omega⟩ <;> (rename_i h1 h2 h3 h4; first | simpa using h1 | simpa using h2 | simpa using h3)
set_option maxHeartbeats 8000000 in
theorem do_any (R : Value → Int → World → Prop) (x : Int) (o : Bool) (Ak : Option Addr) (kn kc : Nat) (Ai : Option Addr) (vn ic : Nat) (Aa : Option Addr) (an ac : Nat) (Ab : Option Addr) (n cb : Nat) (w : World) (h1 : kn ≤ 9223372036854775807) (h2 : vn ≤ 9223372036854775807) (h3 : an ≤ 9223372036854775807) (h4 : n ≤ 4611686018427387904)
    (hwork : ∀ (k n0 : Nat) (d : Value) (W : World), x = (k : Int) → 1 ≤ k → k ≤ 6 → hasW k o = true → keyP k kn = true → ivP k vn = true → (an : Int) ≤ aadK k → (roomP k o n).2 = 0 → DoV n0 W k o d → Below w.heap.size w W →
      ∃ F cap, d = .func (.func F) #[] cap ∧ Enters Tryz.prog F ∧ Calls Tryz.prog F (#[.agg (parV x o Ak kn kc Ai vn ic Aa an ac).toArray, .slice Ab n cb] ++ cap) W fun e W' => ∃ v y, e = .returned (.tuple #[v, .int .i64 y]) ∧ R v y W' ∧ Below W.heap.size W W') :
    Calls Tryz.prog 6 #[.agg (parV x o Ak kn kc Ai vn ic Aa an ac).toArray, .slice Ab n cb] w fun e w' => ∃ v y, e = .returned (.tuple #[v, .int .i64 y]) ∧ DoR x o kn vn an n R v y w' ∧ Below w.heap.size w w' := by
  have hzk : ∀ W, (zeroValue 46).run Tryz.prog W = .ok (.agg zeroKind.toArray) W := fun W => by kernel_rfl
  have hzw : ∀ W, (zeroValue 44).run Tryz.prog W = .ok (.agg #[.nilFunc, .nilFunc]) W := fun W => by kernel_rfl
  have hl8 : Hid (zeroKind.length = 8) := rfl
  have KO := Lib.hid (fun (W : World) (v : Value) (h : KnownV W x o v) => known_open h)
  have PC := Lib.hid (fun (W : World) (g : Nat) (t : TypeId) (fr : Nat × Nat) (h : W.heap[g]? = some (.cells (parV x o Ak kn kc Ai vn ic Aa an ac).toArray t fr)) => par_cells h)
  have P1 := Lib.hid (par_one x o Ak kn kc Ai vn ic Aa an ac)
  have PL : Hid ((parV x o Ak kn kc Ai vn ic Aa an ac).length = 5) := rfl
  have CH := Lib.hid (fun W => check_any x o Ak kn kc Ai vn ic Aa an ac W h1 h2 h3)
  have RM := Lib.hid (fun W => room_any x o n W (by omega) (by omega))
  have HW := Lib.hid hwork
  have HCZ := Lib.hid (fun (h : checkR x o kn vn an = 0) => check_zero h)
  have HRP : Hid (hasA x o = true → roomR x o n = roomP x.toNat o n) := fun h => by rw [roomR, h, if_neg (by decide), if_neg (by omega), Int.toNat_natCast]
  have HDR := Lib.hid (fun (v : Value) (y : Int) (w' : World) (h : if checkR x o kn vn an ≠ 0 then v = .slice none 0 0 ∧ y = checkR x o kn vn an else if (roomR x o n).2 ≠ 0 then v = .slice none 0 0 ∧ y = (roomR x o n).2 else R v y w') => (show DoR x o kn vn an n R v y w' from h))
  generalize zeroKind = ZK at hzk hl8 KO
  generalize parV x o Ak kn kc Ai vn ic Aa an ac = PV at PC P1 PL CH HW ⊢
  generalize DoR x o kn vn an n R = DR at HDR ⊢
  generalize checkR x o kn vn an = cR at CH HCZ HDR
  generalize roomR x o n = rR at RM HRP HDR
  clear hwork
  go_enter Tryz.func6, Tryz.ntmps6
  go_upto_region 1 with (fail)
  have HB := Lib.hid (heap_alloc_new' w (.cells PV.toArray 28))
  have B0 : Hid (Below w.heap.size w (w.alloc (.cells PV.toArray 28))) := (Below.refl _ _).alloc (Nat.le_refl _) _
  generalize w.alloc _ = W0 at HB B0 ⊢
  go_wp2_with (first
    | (refine wpList_ld rfl 28 (.tmp 2) rfl (load_arr Tryz.underlying28 rfl (by rw [PL.out]; exact i5P) HB.out) ?_)
    | fail)
  refine (CH.out W0).mono ?_
  rintro e w1 ⟨rfl, hb⟩
  have B1 := Lib.hid (B0.out.step hb)
  have HB1 : Hid (w1.heap[w.heap.size]? = _) := (hb.block _ (lt_of_heap HB.out)).trans HB.out
  clear hb B0 HB CH
  by_cases hc0 : cR = 0
  · subst hc0
    obtain ⟨hA, hkP, hiP, haP⟩ := HCZ.out rfl
    have HA := Lib.hid hA; have HKP := Lib.hid hkP; have HIP := Lib.hid hiP; have HAP := Lib.hid haP
    have c0 := (PC.out _ _ _ _ HB1.out).1
    have c1 := (PC.out _ _ _ _ HB1.out).2.1
    clear hA hkP hiP haP HCZ
    go_wp2_with fail
    clear c0 c1
    refine (RM.out w1).mono ?_
    rintro e w2 ⟨rfl, hb⟩
    have B2 := Lib.hid (B1.out.step hb)
    have HB2 : Hid (w2.heap[w.heap.size]? = _) := (hb.block _ (lt_of_heap HB1.out)).trans HB1.out
    clear hb B1 HB1 RM
    have HRP2 := HRP.out HA.out
    obtain ⟨r1, r2⟩ := rR
    simp only at HDR ⊢
    by_cases hr0 : r2 = 0
    · subst hr0
      have c0 := (PC.out _ _ _ _ HB2.out).1
      have c1 := (PC.out _ _ _ _ HB2.out).2.1
      have HRQ := Lib.hid HRP2
      clear HRP2 HRP
      go_wp2_with fail
      clear c0 c1
      refine (known_any x o w2).mono ?_
      rintro e w3 ⟨v, rfl, hv, hb⟩
      have B3 := Lib.hid (B2.out.step hb)
      have HB3 : Hid (w3.heap[w.heap.size]? = _) := (hb.block _ (lt_of_heap HB2.out)).trans HB2.out
      rcases KO.out w3 v hv with ⟨hh, k, n0, c, a, key, iv, q1, d1, q2, d2, r, d, rfl, hk1, hk2, rfl, o8, o2, ha, f1, f2, hR, hD⟩ | ⟨hh, rfl⟩
      · have O8 := Lib.hid o8; have O2 := Lib.hid o2; have HD := Lib.hid hD
        have ik8 : Hid (([.int .i64 c, key, iv, .int .i64 a, q1, d1, q2, d2] : List Value).length = 8) := rfl
        have HT : Hid (((k : Int)).toNat = k) := Int.toNat_natCast k
        rw [HT.out] at HRQ HKP HIP HAP
        have HHW : Hid (hasW k o = true) := by
          have := hh
          unfold hasA at this
          rw [Int.toNat_natCast, Bool.and_eq_true] at this
          exact this.2
        clear hv hb KO o8 o2 hR hD f1 f2 ha hh
        generalize ([.int .i64 c, key, iv, .int .i64 a, q1, d1, q2, d2] : List Value) = CS at O8 ik8
        go_upto_region 8 with (first
          | (refine wpList_st rfl 46 (.tmp 9) (.tmp 36) rfl (store_arr (cs := CS) (old := ZK) (by rw [ik8.out]; exact i8K) O8.out (heap2K w3 (.cells ZK.toArray 46) (.cells #[.nilFunc, .nilFunc] 44)).1 (by rw [hl8.out, ik8.out])) ?_
             generalize hV : World.setRow _ _ _ = W4
             have P4 : Hid (Below w3.heap.size w3 W4 ∧ W4.heap[w3.heap.size + 1]? = some (.cells [.nilFunc, .nilFunc].toArray 44 (0, 0))) := by
               obtain ⟨h1, h2, h3⟩ := heap2K w3 (.cells ZK.toArray 46) (.cells #[.nilFunc, .nilFunc] 44)
               exact ⟨h3.trans (below_of_setRow hV (Nat.le_refl _) h3.size), heap_of_other hV (by omega) h2⟩
             clear hV)
          | (refine wpList_st rfl 44 (.tmp 10) (.tmp 37) rfl (store_arr (cs := [r, d]) (old := [.nilFunc, .nilFunc]) i2K O2.out P4.out.2 rfl) ?_
             generalize hV : World.setRow _ _ _ = W5
             have P5 := Lib.hid (heap_of_setRow hV P4.out.2)
             have B5 : Hid (Below w3.heap.size w3 W5) := P4.out.1.trans (below_of_setRow hV (Nat.le_succ _) P4.out.1.size)
             clear hV)
          | fail)
        have HB5 : Hid (W5.heap[w.heap.size]? = _) := (B5.out.block _ (lt_of_heap HB3.out)).trans HB3.out
        have BW5 := Lib.hid (B3.out.step B5.out)
        obtain ⟨F, cap, rfl, hent, hcall⟩ := HW.out k n0 d W5 rfl hk1 hk2 HHW.out HKP.out HIP.out HAP.out (by rw [← HRQ.out]) (HD.out.keep (KeepL.of B5.out)) BW5.out
        have HCL := Lib.hid hcall
        have hent : ∀ args W, (callFunc F args).run Tryz.prog W = .ok (.enter F args) W := hent
        clear hcall HW HD P4
        go_wp2_with (first
          | (refine wpList_ld rfl 42 (.tmp 39) rfl (load_cellW (hu := Tryz.underlying42) (hd := rfl) (v := .func (.func F) #[] cap) (cell_of_heap P5.out 1)) ?_)
          | (refine wpList_ld rfl 28 (.tmp 2) rfl (load_arr Tryz.underlying28 rfl (by rw [PL.out]; exact i5P) HB5.out) ?_)
          | fail)
        refine HCL.out.mono ?_
        rintro e w6 ⟨v6, y6, rfl, hR6, hb6⟩
        have B6 := Lib.hid (BW5.out.step hb6)
        have HR6 := Lib.hid hR6
        clear hR6 hb6
        go_wp2
        go_ret2
        exact ⟨_, _, rfl, HDR.out _ _ _ (by rw [if_neg (by simp), if_neg (by simp)]; exact HR6.out), B6.out⟩
      · exfalso
        rw [HA.out] at hh
        cases hh
    · have t1 : (r2 != 0) = true := by simpa using hr0
      have HR0 := Lib.hid hr0
      clear HRP2 HRP
      go_wp2
      go_ret2
      exact ⟨_, _, rfl, HDR.out _ _ _ (by rw [if_neg (by simp), if_pos HR0.out]; exact ⟨rfl, rfl⟩), B2.out⟩
  · have t1 : (cR != 0) = true := by simpa using hc0
    have HC0 := Lib.hid hc0
    go_wp2
    go_ret2
    exact ⟨_, _, rfl, HDR.out _ _ _ (by rw [if_pos HC0.out]; exact ⟨rfl, rfl⟩), B1.out⟩
end Go.Proofs.YtimgggpojbpfkaaGreatDoor

/- algo: what is done by the key as it is, and by the key expanded (byKey$1, byAES$1). -/
namespace Go.Proofs.YtimgggpojbpfkaaGreatDoor
open Go.RowKit Go.Shelf
set_option linter.unusedVariables false
set_option linter.unusedSimpArgs false
set_option maxRecDepth 100000
set_option maxHeartbeats 4000000 in
theorem byKey1_any (R : Value → Int → World → Prop) (F : Nat) (hent : Enters Tryz.prog F) (x : Int) (o : Bool) (Ak : Option Addr) (kn kc : Nat) (Ai : Option Addr) (vn ic : Nat) (Aa : Option Addr) (an ac : Nat) (Ab : Option Addr) (n cb : Nat) (g : Nat) (t : TypeId) (w : World)
    (hg : w.heap[g]? = some (.cells #[.func (.func F) #[] #[]] t (0, 0)))
    (hcall : ∀ W, Below w.heap.size w W → Calls Tryz.prog F #[.slice Ak kn kc, .slice Ai vn ic, .slice Aa an ac, .slice Ab n cb] W fun e W' => ∃ v y, e = .returned (.tuple #[v, .int .i64 y]) ∧ R v y W' ∧ Below W.heap.size W W') :
    Calls Tryz.prog 49 #[.agg (parV x o Ak kn kc Ai vn ic Aa an ac).toArray, .slice Ab n cb, .pointer (some ⟨g, 0, none⟩)] w fun e w' => ∃ v y, e = .returned (.tuple #[v, .int .i64 y]) ∧ R v y w' ∧ Below w.heap.size w w' := by
  have PC := Lib.hid (fun (W : World) (g : Nat) (t : TypeId) (fr : Nat × Nat) (h : W.heap[g]? = some (.cells (parV x o Ak kn kc Ai vn ic Aa an ac).toArray t fr)) => par_cells h)
  have HC := Lib.hid hcall
  have HG := Lib.hid hg
  have hent : ∀ args W, (callFunc F args).run Tryz.prog W = .ok (.enter F args) W := hent
  generalize parV x o Ak kn kc Ai vn ic Aa an ac = PV at PC ⊢
  clear hcall hg
  go_enter Tryz.func49, Tryz.ntmps49
  go_upto_region 1 with (fail)
  have HB := Lib.hid (heap_alloc_new' w (.cells PV.toArray 28))
  have B0 : Hid (Below w.heap.size w (w.alloc (.cells PV.toArray 28))) := (Below.refl _ _).alloc (Nat.le_refl _) _
  generalize w.alloc _ = W0 at HB B0 ⊢
  have HG0 : Hid (W0.heap[g]? = _) := (B0.out.block _ (lt_of_heap HG.out)).trans HG.out
  have c2 := (PC.out _ _ _ _ HB.out).2.2.1
  have c3 := (PC.out _ _ _ _ HB.out).2.2.2.1
  have c4 := (PC.out _ _ _ _ HB.out).2.2.2.2
  have cF : Hid (W0.cell? ⟨g, 0, none⟩ = some (.func (.func F) #[] #[])) := cell_of_heap (cs := [.func (.func F) #[] #[]]) HG0.out 0
  clear PC HB HG HG0
  go_wp2_with (first
    | (refine wpList_ld rfl 57 (.tmp 2) rfl (load_cellW (hu := Tryz.underlying57) (hd := rfl) (v := .func (.func F) #[] #[]) cF.out) ?_)
    | fail)
  refine (HC.out W0 B0.out).mono ?_
  rintro e w6 ⟨v6, y6, rfl, hR6, hb6⟩
  have B6 := Lib.hid (B0.out.step hb6)
  have HR6 := Lib.hid hR6
  clear hR6 hb6 c2 c3 c4
  go_wp2
  go_ret2
  exact ⟨_, _, rfl, HR6.out, B6.out⟩
end Go.Proofs.YtimgggpojbpfkaaGreatDoor

/- append onto a slice of one's own: where the new one lies; two slices of one's own side by side. -/
namespace Go.Proofs.YtimgggpojbpfkaaGreatDoor
open Go.RowKit
set_option maxRecDepth 100000
set_option linter.unusedVariables false
theorem append_row_at {P : Program} (w : World) (base : Nat) {t : TypeId} (ty : TypeId) {e : TypeId} {z : Value} {bytes : Nat} (ht : P.underlying t = some (.slice e))
    (hi : (P.info? e).map (fun i => (i.zero, i.size, i.bytes)) = some (some z, 1, bytes)) (hz : z.cells = #[z])
    (v : Value) (n : Nat) (xs : List Value) (hown : w.ownsRow base e 1 v n xs) (B : Nat) (A : Option Addr) (m c : Nat) (news : List Value) (hr : RowAt w B A news) (hm : news.length = m)
    (h1 : ∀ u ∈ news, u.oneCell' = true) (hk : (n + m) * bytes ≤ 140737488355328) (h31 : n + m ≤ maxLen) (hbase : base ≤ w.heap.size) :
    ∃ v' w', (Builtin.append_ #[t, t] ty #[v, .slice A m c]).run P w = .ok v' w' ∧ w'.ownsRow base e 1 v' (n + m) (xs ++ news) ∧ w.grownBy w' v.ownBlock ∧ (v'.ownBlock = v.ownBlock ∨ v'.ownBlock = some w.heap.size) := by
  obtain ⟨i, hi', hz0, hs, hb⟩ := info_parts hi
  by_cases h0 : m = 0
  · subst h0
    have hn : news = [] := List.eq_nil_of_length_eq_zero hm
    subst hn
    refine ⟨v, w, ?_, by simpa using hown, World.grownBy.refl w _, .inl rfl⟩
    rcases hown.2 with ⟨rfl, rfl⟩ | ⟨g, cap, cur, rfl, _, _, hnc, _⟩
    · cases A <;> simp [Builtin.append_, run_underlying ht, sizeOf, typeInfo, hi', Builtin.lenOf, Builtin.firstCells, loadCells, loadCellsFrom]
    · cases A <;> simp [Builtin.append_, run_underlying ht, sizeOf, typeInfo, hi', Builtin.lenOf, Builtin.firstCells, hnc, storeCells, loadCells, loadCellsFrom]
  · obtain ⟨b, o, rfl, _, hc⟩ := hr.at_ (by omega)
    obtain ⟨v', w', hrun, h2, h3, _, h5⟩ := run_append_own_at (P := P) w base t ty e i z 1 bytes ht hi' hz0 hs hb (by rw [hz]; rfl) (by omega) v n xs hown ⟨b, o, none⟩ m c news (by omega) (fun j u hu => by rw [add_none]; exact hc j u hu) h1 h31 hk hbase
    exact ⟨v', w', hrun, h2, h3, h5⟩
theorem wpList_app8_at {w : World} {ops : Array Oper} {rest : List Oper} {o : Oper} {a : Act} {Q : Exit → Act → World → Prop} (hw : Region.wanted o (yielded ops a.tmps) = true) (s x : Operand)
    (ho : o.op = .call { callee := .builtin .append, args := #[s, x], argTypes := #[22, 22] }) (base : Nat) (v : Value) (n : Nat) (bs : List UInt8) (hs : a.eval s = v) (hown : w.ownsRow base 5 1 v n (bs.map bv))
    (A : Option Addr) (m c B : Nat) (news : List UInt8) (hx : a.eval x = .slice A m c) (hr : RowAt w B A (news.map bv)) (hm : news.length = m) (hk : n + m ≤ 2147483647) (hbase : base ≤ w.heap.size)
    (h : ∀ v' w', w'.ownsRow base 5 1 v' (n + m) ((bs ++ news).map bv) → w.grownBy w' v.ownBlock → (v'.ownBlock = v.ownBlock ∨ v'.ownBlock = some w.heap.size) → wpList Tryz.prog ops Q rest (a.put o.dst v') w') :
    wpList Tryz.prog ops Q (o :: rest) a w := by
  obtain ⟨v', w', hrun, h2, h3, h4⟩ := append_row_at (P := Tryz.prog) w base o.type uT made8 rfl v n _ hown B A m c _ hr (by simpa using hm) (bv_one news) (by omega) (by simp [maxLen]; omega) hbase
  exact wpList_app hw s x _ _ ho (by rw [hs, hx]; exact hrun) (h v' w' (by rw [List.map_append]; exact h2) h3 h4)
/-- two slices share no block -/
def Two (v u : Value) : Prop := ∀ x, v.ownBlock = some x → u.ownBlock ≠ some x
theorem Two.symm {v u : Value} (h : Two v u) : Two u v := fun x hx hy => h x hy hx
theorem two_own {w w' : World} {base : Nat} {e : TypeId} {s : Nat} {v u : Value} {n : Nat} {xs : List Value} (h : w.ownsRow base e s u n xs) (hb : w.grownBy w' v.ownBlock) (hd : Two v u) : w'.ownsRow base e s u n xs := by
  obtain ⟨h0, h | ⟨g1, cap, cur, hv, hg1, hh, r⟩⟩ := h
  · exact ⟨h0, .inl h⟩
  · refine ⟨h0, .inr ⟨g1, cap, cur, hv, hg1, (hb.block _ (Array.getElem?_eq_some_iff.1 hh).1 (fun e => hd g1 e.symm ?_)).trans hh, r⟩⟩
    rw [hv]; rfl
theorem own_blk_lt {w : World} {base : Nat} {e : TypeId} {s : Nat} {u : Value} {n : Nat} {xs : List Value} (h : w.ownsRow base e s u n xs) {x : Nat} (hx : u.ownBlock = some x) : x < w.heap.size := by
  obtain ⟨h0, h | ⟨g1, cap, cur, hv, hg1, hh, r⟩⟩ := h
  · rw [h.1] at hx; cases hx
  · rw [hv] at hx
    have : g1 = x := by injection hx
    rw [← this]; exact (Array.getElem?_eq_some_iff.1 hh).1
theorem two_step {w : World} {base : Nat} {e : TypeId} {s : Nat} {v v' u : Value} {n : Nat} {xs : List Value} (h : w.ownsRow base e s u n xs) (hd : Two v u) (hat : v'.ownBlock = v.ownBlock ∨ v'.ownBlock = some w.heap.size) : Two v' u := by
  intro x hx hy
  rcases hat with hat | hat
  · exact hd x (hat.symm.trans hx) hy
  · have h1 := own_blk_lt h hy
    rw [hat] at hx
    injection hx with hx
    omega
theorem two_nil (u : Value) : Two (.slice none 0 0) u := fun x hx => by cases hx
end Go.Proofs.YtimgggpojbpfkaaGreatDoor

/- The mathematics of a stream put to bytes. -/
namespace Go.Proofs.YtimgggpojbpfkaaGreatDoor
open Go.RowKit
set_option linter.unusedVariables false
set_option maxRecDepth 100000
/-- bytes, and the stream f from its place p on -/
def ctrL (f : Nat → UInt8) (p : Nat) : List UInt8 → List UInt8
  | [] => []
  | x :: r => (x ^^^ f p) :: ctrL f (p + 1) r
theorem ctrL_len (f : Nat → UInt8) : ∀ (b : List UInt8) (p : Nat), (ctrL f p b).length = b.length
  | [], _ => rfl
  | x :: r, p => by simp [ctrL, ctrL_len f r]
theorem ctrL_append (f : Nat → UInt8) : ∀ (a : List UInt8) (p : Nat) (b : List UInt8), ctrL f p (a ++ b) = ctrL f p a ++ ctrL f (p + a.length) b
  | [], _, _ => by simp [ctrL]
  | x :: r, p, b => by
    simp only [List.cons_append, ctrL, ctrL_append f r, List.length_cons]
    rw [show p + 1 + r.length = p + (r.length + 1) by omega]
theorem ctrL_back (f : Nat → UInt8) : ∀ (b : List UInt8) (p : Nat), ctrL f p (ctrL f p b) = b
  | [], _ => rfl
  | x :: r, p => by simp [ctrL, ctrL_back f r, UInt8.xor_assoc]
theorem ctrL_get (f : Nat → UInt8) : ∀ (b : List UInt8) (p i : Nat) (h : i < b.length) (h' : i < (ctrL f p b).length), (ctrL f p b)[i] = b[i] ^^^ f (p + i)
  | x :: r, p, 0, _, _ => by simp [ctrL]
  | x :: r, p, i + 1, h, h' => by
    have := ctrL_get f r (p + 1) i (by simpa using h) (by rw [ctrL_len]; simpa using h)
    simp only [ctrL, List.getElem_cons_succ]
    rw [this, show p + 1 + i = p + (i + 1) by omega]
theorem ctrL_congr (f g : Nat → UInt8) : ∀ (b : List UInt8) (p q : Nat), (∀ i, i < b.length → f (p + i) = g (q + i)) → ctrL f p b = ctrL g q b
  | [], _, _, _ => rfl
  | x :: r, p, q, h => by
    have h0 := h 0 (by simp)
    simp only [Nat.add_zero] at h0
    simp only [ctrL, h0]
    rw [ctrL_congr f g r (p + 1) (q + 1) (fun i hi => by have := h (i + 1) (by simp; omega); rwa [show p + (i + 1) = p + 1 + i by omega, show q + (i + 1) = q + 1 + i by omega] at this)]
theorem ctrL_zero (b : List UInt8) (p : Nat) : ctrL (fun _ => 0) p b = b := by
  induction b generalizing p with
  | nil => rfl
  | cons x r ih => simp [ctrL, ih]
theorem ctrL_set (f : Nat → UInt8) : ∀ (b : List UInt8) (p n : Nat) (y : UInt8), ctrL f p (b.set n (b.getD n 0 ^^^ y)) = (ctrL f p b).set n ((ctrL f p b).getD n 0 ^^^ y)
  | [], _, _, _ => by simp [ctrL]
  | x :: r, p, 0, y => by
    simp only [ctrL, List.set_cons_zero, List.getD_cons_zero]
    rw [UInt8.xor_assoc, UInt8.xor_comm y, ← UInt8.xor_assoc]
  | x :: r, p, n + 1, y => by
    simp only [ctrL, List.set_cons_succ, List.getD_cons_succ]
    rw [ctrL_set f r]
/-- the bytes of a row of blocks -/
def blkF (E : Nat → List UInt8) (i : Nat) : UInt8 := (E (i / 16)).getD (i % 16) 0
/-- what is left of a block, put to bytes -/
theorem ctrL_block (E : Nat → List UInt8) (p : Nat) (b : List UInt8) (h : (E (p / 16)).length = 16) : xorL b ((E (p / 16)).drop (p % 16)) = ctrL (blkF E) p (b.take (min b.length (16 - p % 16))) := by
  have hl : (xorL b ((E (p / 16)).drop (p % 16))).length = min b.length (16 - p % 16) := by rw [xorL_len, List.length_drop, h]
  have hl2 : (ctrL (blkF E) p (b.take (min b.length (16 - p % 16)))).length = min b.length (16 - p % 16) := by rw [ctrL_len, List.length_take]; omega
  apply List.ext_getElem
  · rw [hl, hl2]
  · intro i h1 h2
    rw [ctrL_get _ _ _ _ (by rw [← ctrL_len (blkF E) _ p]; exact h2)]
    rw [hl] at h1
    have hq : (p + i) / 16 = p / 16 := by omega
    have hr : (p + i) % 16 = p % 16 + i := by omega
    have hi : p % 16 + i < (E (p / 16)).length := by omega
    rw [blkF, hq, hr, List.getD_eq_getElem?_getD, List.getElem?_eq_getElem hi]
    simp [xorL]
theorem ctrL_take (f : Nat → UInt8) (p n : Nat) (b : List UInt8) : (ctrL f p b).take n = ctrL f p (b.take n) := by
  by_cases h : n ≤ b.length
  · have := ctrL_append f (b.take n) p (b.drop n)
    rw [List.take_append_drop] at this
    rw [this, List.take_append_of_le_length (by rw [ctrL_len, List.length_take]; omega), List.take_of_length_le (by rw [ctrL_len, List.length_take]; omega)]
  · rw [List.take_of_length_le (by rw [ctrL_len]; omega), List.take_of_length_le (by omega)]
/-- one more step of the loop over blocks -/
theorem ctr_step (E : Nat → List UInt8) (p j m : Nat) (b : List UInt8) (h : (E ((p + j) / 16)).length = 16) (hj : j ≤ b.length) (hm : m = min (b.length - j) (16 - (p + j) % 16)) :
    ctrL (blkF E) p (b.take j) ++ xorL (b.drop j) ((E ((p + j) / 16)).drop ((p + j) % 16)) = ctrL (blkF E) p (b.take (j + m)) := by
  rw [ctrL_block E (p + j) (b.drop j) h, List.length_drop, ← hm, List.take_add, ctrL_append, List.length_take, Nat.min_eq_left hj]
end Go.Proofs.YtimgggpojbpfkaaGreatDoor

/- Contract of bits.Count. -/
namespace Go.Proofs.YtimgggpojbpfkaaGreatDoor
open Go.RowKit
set_option linter.unusedVariables false
set_option maxRecDepth 100000

/-- an array of bytes as a value -/
def aggB (bs : List UInt8) : Value := .agg (bs.map bv).toArray
theorem arr16T : Tryz.prog.underlying 64 = some (.array 16 5) := Tryz.underlying64
theorem i16 : (Tryz.prog.info? 64).map (·.size) = some 16 := by kernel_rfl

theorem count_any (c : List UInt8) (n : Nat) (w : World) (hc : c.length = 16) (hn : n < 18446744073709551616) :
    Calls Tryz.prog 89 #[.agg (c.map bv).toArray, .int .u64 (n : Int)] w fun e w' => e = .returned (.agg ((countL c n).map bv).toArray) ∧ Below w.heap.size w w' := by
  have harr1 := arr_to arr16T s8 ⟨w.heap.size, 0, none⟩ .i64 8 (by omega) (by omega)
  have harr2 := arr_from arr16T s8 ⟨w.heap.size, 0, none⟩ .i64 8 (by omega) (by omega)
  simp only [show (8 : Int).toNat = 8 from rfl, show cutA ⟨w.heap.size, 0, none⟩ 16 8 = ⟨w.heap.size, 8, none⟩ from rfl, Nat.reduceSub] at harr1 harr2
  obtain ⟨hi, lo, low, e1, e2, hhi, hlow, hwl, high, hlt, hm, hcase⟩ := count_cases c n hc hn
  have HLT := Lib.hid hlt; have HM := Lib.hid hm
  have HE1 := Lib.hid e1; have HE2 := Lib.hid e2; have HHI := Lib.hid hhi; have HLOW := Lib.hid hlow
  have HCASE := Lib.hid hcase
  have HC := Lib.hid hc
  clear hn hc e1 e2 hhi hlow hcase hlt hm
  go_enter Tryz.func89, Tryz.ntmps89
  go_wp2_with fail
  generalize hW : (w.alloc _).alloc _ = W0
  have F0 : W0.heap[w.heap.size]? = some (.cells (c.map bv).toArray 64 (0, 0)) := by rw [← hW]; exact heap_alloc2_old w _ _
  have F1 : W0.heap[w.heap.size + 1]? = some (.cells (List.replicate 16 (Value.int .u8 0)).toArray 64 (0, 0)) := by rw [← hW]; exact heap_alloc2_new w _ _
  have FB : Below w.heap.size w W0 := by rw [← hW]; exact two_below w _ _
  have G0 := Lib.hid F0
  have G1 := Lib.hid F1
  have GB := Lib.hid FB
  clear F0 F1 FB hW
  go_region_law (first
    | (go_simp; go_at_call 84; first
        | ((with_reducible refine (big_n (some ⟨w.heap.size, 0, none⟩) 8 16 (c.take 8) W0.drew ?_ ?_ ?_ ?_).mono ?_)
           · rw [List.length_take, HC.out]; rfl
           · omega
           · simp [maxLen]
           · exact row_sub (w := W0.drew) G0.out 0 8 (lt_of_heap G0.out)
           rintro e w1 ⟨rfl, hb1⟩
           rw [HE1.out]
           have HB1 := Lib.hid hb1; clear hb1)
        | ((with_reducible refine (big_n (some ⟨w.heap.size, 8, none⟩) 8 8 (c.drop 8) w1 ?_ ?_ ?_ ?_).mono ?_)
           · rw [List.length_drop, HC.out]
           · omega
           · simp [maxLen]
           · have := row_sub ((HB1.out.block _ (lt_of_heap (w := W0.drew) G0.out)).trans G0.out) 8 8 (Nat.lt_of_lt_of_le (lt_of_heap G0.out) HB1.out.size)
             rwa [List.take_of_length_le (by rw [List.length_drop, HC.out]; omega)] at this
           rintro e w2 ⟨rfl, hb2⟩
           rw [HE2.out]
           have HB2 := Lib.hid hb2; clear hb2)))
  have G1' := Lib.hid ((HB2.out.block _ (Nat.lt_of_lt_of_le (lt_of_heap G1.out) HB1.out.size)).trans ((HB1.out.block _ (lt_of_heap (w := W0.drew) G1.out)).trans G1.out))
  have GB' := Lib.hid ((Below.step (w1 := W0.drew) GB.out.drew HB1.out).step HB2.out)
  clear G0 G1 GB HB1 HB2 HE1 HE2
  rcases HCASE.out with ⟨hcar, hw⟩ | ⟨hcar, rfl⟩
  all_goals
    clear HCASE HHI
    go_wp2_with fail
    generalize hW3 : w2.alloc _ = W3
    have T2 : W3.heap[w2.heap.size]? = some (.cells (List.replicate 16 (Value.int .u8 0)).toArray 64 (0, 0)) := by rw [← hW3]; exact heap_alloc_new' w2 _
    have T1 : W3.heap[w.heap.size + 1]? = some (.cells (List.replicate 16 (Value.int .u8 0)).toArray 64 (0, 0)) := by rw [← hW3]; exact (Below.heap_alloc w2 _ _ (lt_of_heap G1'.out)).trans G1'.out
    have TB : Below w.heap.size w W3 := by rw [← hW3]; exact GB'.out.alloc GB'.out.size _
    have hle : w.heap.size ≤ w2.heap.size := GB'.out.size
    have hne : w.heap.size + 1 ≠ w2.heap.size := by have := lt_of_heap G1'.out; omega
    have HNE := Lib.hid hne; have HLE := Lib.hid hle
    have D1 := Lib.hid T1; have D2 := Lib.hid T2; have DB := Lib.hid TB
    clear T1 T2 TB hW3 G1' GB' hle hne
    have harr3 := arr_to arr16T s8 ⟨w2.heap.size, 0, none⟩ .i64 8 (by omega) (by omega)
    have harr4 := arr_from arr16T s8 ⟨w2.heap.size, 0, none⟩ .i64 8 (by omega) (by omega)
    simp only [show (8 : Int).toNat = 8 from rfl, show cutA ⟨w2.heap.size, 0, none⟩ 16 8 = ⟨w2.heap.size, 8, none⟩ from rfl, Nat.reduceSub] at harr3 harr4
    go_region_law (first
      | (go_simp; go_at_call 110; refine (putBig_any high 8 _ HLT.out (by omega)).mono ?_; rintro e w4 ⟨g4, hg4, rfl, hk4, hb4⟩; have HK4 := Lib.hid hk4; have HB4 := Lib.hid hb4; clear hk4 hb4 hg4)
      | (have D2' := (HB4.out.block _ (lt_of_heap (w := W3.drew) D2.out)).trans D2.out
         have D1' := (HB4.out.block _ (lt_of_heap (w := W3.drew) D1.out)).trans D1.out
         have DB' := Below.step (w1 := W3.drew) DB.out.drew HB4.out
         obtain ⟨w5, hrun, hblk, _, hgr⟩ := copy_run uT s8 (sT := 22) 3 w4 w2.heap.size 0 (List.replicate 16 (Value.int .u8 0)) 64 D2' (some ⟨w2.heap.size, 0, none⟩) (some ⟨g4, 0, none⟩) 8 16 8 8 (g4 + 1) ((putBig high 8).map bv)
           (by simp [putBig_len]) (fun _ => rfl) (row_of_heap HK4.out (Nat.lt_succ_self _)) (by simp [putBig_len]) (bv_one _)
         have E2 := Lib.hid hblk
         have E1 := Lib.hid ((hgr.block _ (lt_of_heap D1') (by have := HNE.out; simp; omega)).trans D1')
         have EB := Lib.hid (DB'.trans (grown_below hgr HLE.out DB'.size))
         refine step_cpy rfl (.tmp 19) (.tmp 21) 22 22 rfl hrun ?_
         clear hrun hblk hgr D1 D2 DB D1' D2' DB' HB4 HK4))
    have sp1 := splice_first (Value.int .u8 0) 8 8 ((putBig high 8).map bv) (by simp [putBig_len])
    have E2' := E2.out
    rw [show (16 : Nat) = 8 + 8 from rfl, sp1] at E2'
    have F2 := Lib.hid E2'
    clear E2 E2' sp1
    go_wp2_with fail
    go_region_law (first
      | (go_simp; go_at_call 110; refine (putBig_any low 8 _ HLOW.out (by omega)).mono ?_; rintro e w6 ⟨g6, hg6, rfl, hk6, hb6⟩; have HK6 := Lib.hid hk6; have HB6 := Lib.hid hb6; clear hk6 hb6 hg6)
      | (have D2' := (HB6.out.block _ (lt_of_heap (w := w5.drew) F2.out)).trans F2.out
         have D1' := (HB6.out.block _ (lt_of_heap (w := w5.drew) E1.out)).trans E1.out
         have DB' := Below.step (w1 := w5.drew) EB.out.drew HB6.out
         obtain ⟨w7, hrun, hblk, _, hgr⟩ := copy_run uT s8 (sT := 22) 3 w6 w2.heap.size 8 ((putBig high 8).map bv ++ List.replicate 8 (Value.int .u8 0)) 64 D2' (some ⟨w2.heap.size, 8, none⟩) (some ⟨g6, 0, none⟩) 8 8 8 8 (g6 + 1) ((putBig low 8).map bv)
           (by simp [putBig_len]) (fun _ => rfl) (row_of_heap HK6.out (Nat.lt_succ_self _)) (by simp [putBig_len]) (bv_one _)
         rw [splice_last (Value.int .u8 0) 8 8 ((putBig high 8).map bv) ((putBig low 8).map bv) (by simp [putBig_len]) (by simp [putBig_len]), ← List.map_append, HM.out] at hblk
         have E3 := Lib.hid hblk
         have E4 := Lib.hid ((hgr.block _ (lt_of_heap D1') (by have := HNE.out; simp; omega)).trans D1')
         have EB2 := Lib.hid (DB'.trans (grown_below hgr HLE.out DB'.size))
         refine step_cpy rfl (.tmp 23) (.tmp 25) 22 22 rfl hrun ?_
         clear hrun hblk hgr F2 E1 EB D1' D2' DB' HB6 HK6))
    have hl16 : (countL c n).length = 16 := by simp [countL, putBig_len]
    have HL := Lib.hid hl16
    clear hl16
    go_wp2_with (first
      | (refine wpList_ld rfl 64 (.tmp 7) rfl (load_arr arr16T rfl (by rw [List.length_map, HL.out]; exact i16) E3.out) ?_)
      | (refine wpList_st rfl 64 (.tmp 4) (.tmp 27) rfl (store_arr (by rw [List.length_map, HL.out]; exact i16) (bv_one _) E4.out (by simp [HL.out])) ?_))
    have hres := setRow_heap w7 (w.heap.size + 1) _ ((countL c n).map bv).toArray 64 _ E4.out
    exact bodyPost_ret (results_cell_row (P := Tryz.prog) rfl _ _ (w.heap.size + 1) 64 ((countL c n).map bv).toArray (0, 0) _ rfl hres arr16T rfl (by simp [HL.out, i16])) rfl ⟨rfl, EB2.out.trans (grown_below (grown_setRow _ _ _) (by omega) EB2.out.size)⟩
end Go.Proofs.YtimgggpojbpfkaaGreatDoor

/- Contract of the law file's own 'awake' (the chapter's examples), and the law BitsTurns' walk. -/
namespace Go.Proofs.YtimgggpojbpfkaaGreatDoor
open Go.RowKit
set_option maxRecDepth 100000
set_option linter.unusedVariables false

theorem row_two (w : World) (b1 b2 : UInt8) : RowAt (w.alloc (.cells #[.int .u8 (b1.toNat : Int), .int .u8 (b2.toNat : Int)] 5)) (w.heap.size + 1) (some ⟨w.heap.size, 0, none⟩) ([b1, b2].map bv) := by
  refine .inr ⟨w.heap.size, 0, rfl, by omega, fun j u hu => ?_⟩
  have := cell_of_heap (w := w.alloc (.cells ([b1, b2].map bv).toArray 5)) (heap_alloc_new' w _) (0 + j)
  exact this.trans (by simpa using hu)

theorem int_i16 {a : Int} (h : (Lit.int .i16 a).wf = true) : -32768 ≤ a ∧ a ≤ 32767 := by
  have := bounds_i16 h; omega
end Go.Proofs.YtimgggpojbpfkaaGreatDoor
/- Arrays of 16 bytes that come in. -/
namespace Go.Proofs.YtimgggpojbpfkaaGreatDoor
open Go.RowKit Go.ChangeShapes Go.WideShapes Go.ChangeAt
set_option maxRecDepth 100000
set_option linter.unusedVariables false
theorem open__16_uint8 {H : Type} {enc : TypeId × Value → H} {W : World} {base b0 : Nat} {sp : Nat → Bool} {held : Bool} {v : Value} {d : DataW H} {p : List MemPlace}
    (hv : Value.okWide Tryz.prog W .any base 64 v) (h : DataW.Trod enc Tryz.prog W b0 sp held 64 v d p) : ∃ bs : List UInt8, v = .agg (bs.map bv).toArray ∧ bs.length = 16 := by
  obtain ⟨zs, rfl, hl, hw⟩ := open_arr Tryz.underlying64 Tryz.underlying5 (by kernel_rfl) (by kernel_rfl) hv h
  obtain ⟨bs, rfl⟩ := bytes_of hw
  exact ⟨bs, by simp [Function.comp_def, bv], by simpa using hl⟩
end Go.Proofs.YtimgggpojbpfkaaGreatDoor

/- The walk of the law BitsSteps. -/
namespace Go.Proofs.YtimgggpojbpfkaaGreatDoor
open Go.RowKit
set_option maxRecDepth 100000
set_option linter.unusedVariables false
set_option linter.unusedSimpArgs false

theorem countL_len (c : List UInt8) (n : Nat) : (countL c n).length = 16 := by simp [countL, putBig_len]
theorem bigN_count (c : List UInt8) (n : Nat) : bigN (countL c n) = (bigN c + n) % 340282366920938463463374607431768211456 := by
  rw [countL, bigN_put]
  have : (256 : Nat) ^ 16 = 340282366920938463463374607431768211456 := by decide
  rw [this, Nat.mod_mod]
theorem count_count (c : List UInt8) (n m : Nat) : countL (countL c n) m = countL c (n + m) := by
  rw [countL, bigN_count, countL]
  congr 1
  omega
theorem putBig_big (c : List UInt8) : putBig (bigN c) c.length = c := by
  suffices h : ∀ l : List UInt8, putBig (bigN l.reverse) l.length = l.reverse by
    have := h c.reverse; simpa using this
  intro l
  induction l with
  | nil => simp [putBig]
  | cons b l ih =>
    rw [List.reverse_cons, bigN_snoc, List.length_cons, putBig_split]
    have hb : b.toNat < 256 := b.toNat_lt
    have e : (bigN l.reverse * 256 + b.toNat) / 256 ^ 1 = bigN l.reverse := by omega
    rw [e, ih]
    congr 1
    simp only [putBig, List.range_succ, List.range_zero, List.nil_append, List.map_cons, List.map_nil, byteAt, Nat.pow_zero, Nat.div_one]
    congr 1
    rw [← UInt8.toNat_inj, UInt8.toNat_ofNat']; omega
theorem count_zero (c : List UInt8) (hc : c.length = 16) : countL c 0 = c := by
  have h := bigN_lt c
  rw [hc, show (256 : Nat) ^ 16 = 340282366920938463463374607431768211456 by decide] at h
  rw [countL, Nat.add_zero, Nat.mod_eq_of_lt h, ← hc]
  exact putBig_big c
theorem count_inj (c : List UInt8) (n m : Nat) (hn : n < 4294967296) (hm : m < 4294967296) : countL c n = countL c m ↔ n = m := by
  constructor
  · intro h
    have h2 := congrArg bigN h
    rw [bigN_count, bigN_count] at h2
    omega
  · rintro rfl; rfl

theorem i16' (bs : List UInt8) (h : bs.length = 16) : (Tryz.prog.info? 64).map (·.size) = some (bs.map bv).length := by rw [List.length_map, h]; exact i16
end Go.Proofs.YtimgggpojbpfkaaGreatDoor

/- AES in Lean, and the contracts of the small functions of package aes. -/
namespace Go.Proofs.YtimgggpojbpfkaaGreatDoor
open Go.RowKit
set_option linter.unusedVariables false
set_option maxRecDepth 100000
set_option linter.unusedSimpArgs false
def dblW (x : W32) : W32 := ((x &&& 2139062143#32) <<< 1) ^^^ ((x >>> 7 &&& 16843009#32) * 27#32)
def mixW (x : W32) : W32 := dblW x ^^^ dblW (rotl x 8) ^^^ rotl x 8 ^^^ rotl x 16 ^^^ rotl x 24
def unmixW (x : W32) : W32 := mixW (mixW (mixW x))
theorem shl32 (x : W32) (k : Nat) (m : Int) (hm : m = 2 ^ k) : ((x.toNat : Int) * m) % 4294967296 = ((x <<< k).toNat : Int) := by
  rw [BitVec.toNat_shiftLeft, Nat.shiftLeft_eq, hm]; simp
theorem mul32 (x y : W32) : ((x.toNat : Int) * (y.toNat : Int)) % 4294967296 = ((x * y).toNat : Int) := by
  rw [BitVec.toNat_mul]; simp
set_option maxHeartbeats 1000000 in
theorem double_any (x : W32) (w : World) : Calls Tryz.prog 88 #[wv x] w fun e w' => e = .returned (wv (dblW x)) ∧ w = w' := by
  unfold wv
  obtain ⟨x7, h7⟩ : ∃ z, z = x >>> 7 := ⟨_, rfl⟩
  obtain ⟨f, hf⟩ : ∃ z, z = x7 &&& 16843009#32 := ⟨_, rfl⟩
  obtain ⟨a, ha⟩ : ∃ z, z = x &&& 2139062143#32 := ⟨_, rfl⟩
  obtain ⟨a2, ha2⟩ : ∃ z, z = a <<< 1 := ⟨_, rfl⟩
  obtain ⟨p, hp⟩ : ∃ z, z = f * 27#32 := ⟨_, rfl⟩
  obtain ⟨r, hr⟩ : ∃ z, z = dblW x := ⟨_, rfl⟩
  have u1 : (x.toNat : Int) / 128 = (x7.toNat : Int) := by rw [h7, shr32]; rfl
  have u2 : bits .and .u32 (x7.toNat : Int) 16843009 = (f.toNat : Int) := by rw [hf]; exact and32 x7 16843009#32
  have u3 : bits .and .u32 (x.toNat : Int) 2139062143 = (a.toNat : Int) := by rw [ha]; exact and32 x 2139062143#32
  have u4 : (a.toNat : Int) * 2 % 4294967296 = (a2.toNat : Int) := by rw [ha2]; exact shl32 a 1 2 rfl
  have u5 : (f.toNat : Int) * 27 % 4294967296 = (p.toNat : Int) := by rw [hp]; exact mul32 f 27#32
  have u6 : Hid (bits .xor .u32 (a2.toNat : Int) (p.toNat : Int) = (r.toNat : Int)) := by show _ = _; rw [hr, xor32, ha2, hp, ha, hf, h7]; rfl
  rw [← hr]
  clear h7 hf ha ha2 hp hr
  go_enter Tryz.func88, Tryz.ntmps88
  go_wp2
  go_ret
  exact ⟨ret_int (by first | exact u6.out | (rw [u6.out])), rfl⟩
set_option maxHeartbeats 1000000 in
theorem mixW_any (x : W32) (w : World) : Calls Tryz.prog 104 #[wv x] w fun e w' => e = .returned (wv (mixW x)) ∧ w = w' := by
  unfold wv
  obtain ⟨n, hn⟩ : ∃ z, z = rotl x 8 := ⟨_, rfl⟩
  obtain ⟨d1, hd1⟩ : ∃ z, z = dblW x := ⟨_, rfl⟩
  obtain ⟨d2, hd2⟩ : ∃ z, z = dblW n := ⟨_, rfl⟩
  obtain ⟨s1, hs1⟩ : ∃ z, z = d1 ^^^ d2 := ⟨_, rfl⟩
  obtain ⟨s2, hs2⟩ : ∃ z, z = s1 ^^^ n := ⟨_, rfl⟩
  obtain ⟨r16, h16⟩ : ∃ z, z = rotl x 16 := ⟨_, rfl⟩
  obtain ⟨s3, hs3⟩ : ∃ z, z = s2 ^^^ r16 := ⟨_, rfl⟩
  obtain ⟨r24, h24⟩ : ∃ z, z = rotl x 24 := ⟨_, rfl⟩
  obtain ⟨r, hr⟩ : ∃ z, z = mixW x := ⟨_, rfl⟩
  have u1 : bits .xor .u32 (d1.toNat : Int) (d2.toNat : Int) = (s1.toNat : Int) := by rw [hs1]; exact xor32 _ _
  have u2 : bits .xor .u32 (s1.toNat : Int) (n.toNat : Int) = (s2.toNat : Int) := by rw [hs2]; exact xor32 _ _
  have u3 : bits .xor .u32 (s2.toNat : Int) (r16.toNat : Int) = (s3.toNat : Int) := by rw [hs3]; exact xor32 _ _
  have u4 : Hid (bits .xor .u32 (s3.toNat : Int) (r24.toNat : Int) = (r.toNat : Int)) := by show _ = _; rw [hr, xor32, h24, hs3, hs2, hs1, hd1, hd2, hn, h16]; rfl
  have HN := Lib.hid hn; have HD1 := Lib.hid hd1; have HD2 := Lib.hid hd2; have H16 := Lib.hid h16; have H24 := Lib.hid h24
  rw [← hr]
  clear hn hd1 hd2 hs1 hs2 h16 hs3 h24 hr
  go_enter Tryz.func104, Tryz.ntmps104
  go_wp2_with fail
  refine (left_any x 8 w).mono ?_
  rw [← HN.out]
  rintro e w1 ⟨rfl, rfl⟩
  go_wp2_with fail
  refine (double_any x w).mono ?_
  rw [← HD1.out]
  rintro e w1 ⟨rfl, rfl⟩
  unfold wv
  go_wp2_with fail
  refine (double_any n w).mono ?_
  rw [← HD2.out]
  rintro e w1 ⟨rfl, rfl⟩
  unfold wv
  go_wp2_with fail
  refine (left_any x 16 w).mono ?_
  rw [← H16.out]
  rintro e w1 ⟨rfl, rfl⟩
  go_wp2_with fail
  refine (left_any x 24 w).mono ?_
  rw [← H24.out]
  rintro e w1 ⟨rfl, rfl⟩
  go_wp2
  go_ret
  exact ⟨ret_int (by first | exact u4.out | (rw [u4.out])), rfl⟩
theorem unmixW_any (x : W32) (w : World) : Calls Tryz.prog 109 #[wv x] w fun e w' => e = .returned (wv (unmixW x)) ∧ w = w' := by
  have H1 := Lib.hid (fun W => mixW_any x W)
  have H2 := Lib.hid (fun W => mixW_any (mixW x) W)
  have H3 := Lib.hid (fun W => mixW_any (mixW (mixW x)) W)
  unfold unmixW
  generalize mixW (mixW (mixW x)) = x3 at H3 ⊢
  generalize mixW (mixW x) = x2 at H2 H3
  generalize mixW x = x1 at H1 H2
  go_enter Tryz.func109, Tryz.ntmps109
  go_wp2_with fail
  refine (H1.out w).mono ?_
  rintro e w1 ⟨rfl, rfl⟩
  go_wp2_with fail
  refine (H2.out w).mono ?_
  rintro e w1 ⟨rfl, rfl⟩
  go_wp2_with fail
  refine (H3.out w).mono ?_
  rintro e w1 ⟨rfl, rfl⟩
  go_wp2
  go_ret
  exact ⟨rfl, rfl⟩
def sboxL : List UInt8 := [
  99, 124, 119, 123, 242, 107, 111, 197, 48, 1, 103, 43, 254, 215, 171, 118,
  202, 130, 201, 125, 250, 89, 71, 240, 173, 212, 162, 175, 156, 164, 114, 192,
  183, 253, 147, 38, 54, 63, 247, 204, 52, 165, 229, 241, 113, 216, 49, 21,
  4, 199, 35, 195, 24, 150, 5, 154, 7, 18, 128, 226, 235, 39, 178, 117,
  9, 131, 44, 26, 27, 110, 90, 160, 82, 59, 214, 179, 41, 227, 47, 132,
  83, 209, 0, 237, 32, 252, 177, 91, 106, 203, 190, 57, 74, 76, 88, 207,
  208, 239, 170, 251, 67, 77, 51, 133, 69, 249, 2, 127, 80, 60, 159, 168,
  81, 163, 64, 143, 146, 157, 56, 245, 188, 182, 218, 33, 16, 255, 243, 210,
  205, 12, 19, 236, 95, 151, 68, 23, 196, 167, 126, 61, 100, 93, 25, 115,
  96, 129, 79, 220, 34, 42, 144, 136, 70, 238, 184, 20, 222, 94, 11, 219,
  224, 50, 58, 10, 73, 6, 36, 92, 194, 211, 172, 98, 145, 149, 228, 121,
  231, 200, 55, 109, 141, 213, 78, 169, 108, 86, 244, 234, 101, 122, 174, 8,
  186, 120, 37, 46, 28, 166, 180, 198, 232, 221, 116, 31, 75, 189, 139, 138,
  112, 62, 181, 102, 72, 3, 246, 14, 97, 53, 87, 185, 134, 193, 29, 158,
  225, 248, 152, 17, 105, 217, 142, 148, 155, 30, 135, 233, 206, 85, 40, 223,
  140, 161, 137, 13, 191, 230, 66, 104, 65, 153, 45, 15, 176, 84, 187, 22]
theorem sboxL_len : sboxL.length = 256 := by decide +kernel
def zeros256 : List Value := List.replicate 256 (Value.int .u8 0)
theorem zeros256_len : zeros256.length = 256 := by unfold zeros256; exact List.length_replicate
theorem zeroTb (W : World) : (zeroValue 119).run Tryz.prog W = .ok (.agg zeros256.toArray) W := by kernel_rfl
theorem arrTb : Tryz.prog.underlying 119 = some (.array 256 5) := Tryz.underlying119
theorem iTb : (Tryz.prog.info? 119).map (·.size) = some 256 := by kernel_rfl
theorem subCells : (sboxL.map bv).length = 256 := by rw [List.length_map]; exact sboxL_len
def sboxV : List Value := sboxL.map bv
set_option maxRecDepth 100000 in
set_option maxHeartbeats 2000000 in
theorem forward_any (w : World) : Calls Tryz.prog 85 #[] w fun e w' => e = .returned (.agg (sboxL.map bv).toArray) ∧ Below w.heap.size w w' := by
  have F0 : Hid ((w.alloc (.cells zeros256.toArray 119)).heap[w.heap.size]? = some (.cells zeros256.toArray 119 (0, 0))) := heap_alloc_new' w _
  have HI : Hid ((Tryz.prog.info? 119).map (·.size) = some sboxV.length) := by show _ = some (sboxL.map bv).length; rw [subCells]; exact iTb
  have HIs : Hid ((Tryz.prog.info? 119).map (·.size) = some sboxV.toArray.size) := by show _ = some (sboxL.map bv).toArray.size; rw [List.size_toArray, subCells]; exact iTb
  have HE : Hid (zeros256.length = sboxV.length) := by show _ = (sboxL.map bv).length; rw [subCells, zeros256_len]
  have HO : Hid (∀ v ∈ sboxV, v.oneCell' = true) := bv_one sboxL
  have hz := zeroTb
  have HV : Hid (sboxL.map bv = sboxV) := rfl
  have HB : Hid (∀ (a : Act) (o : Oper), True) := fun _ _ => trivial
  rw [HV.out]
  go_enter Tryz.func85, Tryz.ntmps85
  go_wp2_with (first
    | (refine wpList_run (o := ⟨some 1, _, _, _, _, _⟩) rfl (v := .agg sboxV.toArray) (w' := w.alloc (.cells zeros256.toArray 119)) (by kernel_rfl) ?_
       obtain ⟨R, hR⟩ : ∃ R, Hid (sboxV = R) := ⟨_, rfl⟩
       rw [hR.out] at HI HIs HE HO ⊢)
    | (refine wpList_st rfl 119 (.tmp 0) (.tmp 1) rfl (store_arr (cs := R) HI.out HO.out F0.out HE.out) ?_))
  have hres := setRow_heap _ w.heap.size _ R.toArray 119 _ F0.out
  exact bodyPost_ret (results_cell_row (P := Tryz.prog) rfl _ _ w.heap.size 119 R.toArray (0, 0) _ rfl hres arrTb rfl HIs.out) rfl ⟨by rw [hR.out], ((Below.refl _ _).alloc (Nat.le_refl _) _).trans (grown_below (grown_setRow _ _ _) (Nat.le_refl _) (by simp))⟩
def subL (x : UInt8) : UInt8 := sboxL.getD x.toNat 0
end Go.Proofs.YtimgggpojbpfkaaGreatDoor

/- The contracts of the table's calls, and of each. -/
namespace Go.Proofs.YtimgggpojbpfkaaGreatDoor
open Go.RowKit
set_option linter.unusedVariables false
set_option maxRecDepth 100000
set_option linter.unusedSimpArgs false
theorem bcellT {w : World} {g : Nat} {bs : List UInt8} {t : TypeId} {fr : Nat × Nat} (h : w.heap[g]? = some (.cells (bs.map bv).toArray t fr)) (i : Nat) (hi : i < bs.length) : w.cell? ⟨g, i, none⟩ = some (.int .u8 ((bs.getD i 0).toNat : Int)) := by
  rw [cell_of_heap h, List.getElem?_map, List.getElem?_eq_getElem hi]; simp [hi, List.getD, bv]
/-- the number of the bytes of x by the table, the first k of them -/
def wordN (T : List UInt8) (x : W32) (k : Nat) : Nat := littleN ((List.range k).map fun i => T.getD (byteAt x.toNat i).toNat 0)
def subW (T : List UInt8) (x : W32) : W32 := BitVec.ofNat 32 (wordN T x 4)
theorem wordN_lt (T : List UInt8) (x : W32) (k : Nat) : wordN T x k < 256 ^ k := by
  have := littleN_lt ((List.range k).map fun i => T.getD (byteAt x.toNat i).toNat 0)
  simpa [wordN] using this
theorem wordN_succ (T : List UInt8) (x : W32) (k : Nat) : wordN T x (k + 1) = wordN T x k + 256 ^ k * (T.getD (byteAt x.toNat k).toNat 0).toNat := by
  unfold wordN
  rw [List.range_succ, List.map_append, List.map_singleton, littleN_snoc]; simp
theorem subW_toNat (T : List UInt8) (x : W32) : ((subW T x).toNat : Int) = (wordN T x 4 : Int) := by
  have := wordN_lt T x 4
  rw [subW, BitVec.toNat_ofNat, Nat.mod_eq_of_lt (by omega)]
theorem or_shl32 (N x k : Nat) (hN : N < 256 ^ k) (hx : x < 256) (hk : k < 4) : bits .or .u32 (N : Int) ((x : Int) * 2 ^ (8 * k) % 4294967296) = ((N + 256 ^ k * x : Nat) : Int) := by
  have h8 : (256 : Nat) ^ 4 = 4294967296 := by decide
  have h1 : 256 ^ k * x < 256 ^ (k + 1) := by
    rw [Nat.pow_succ]; exact Nat.mul_lt_mul_of_pos_left hx (Nat.pow_pos (by decide))
  have h2 : 256 ^ (k + 1) ≤ 256 ^ 4 := Nat.pow_le_pow_right (by decide) (by omega)
  have h3 : (256 : Nat) ^ k ≤ 256 ^ 4 := Nat.pow_le_pow_right (by decide) (by omega)
  have e : ((x : Int) * 2 ^ (8 * k)) = ((256 ^ k * x : Nat) : Int) := by rw [pow256, Nat.mul_comm (2 ^ (8 * k)) x]; simp
  rw [e, Int.emod_eq_of_lt (by omega) (by omega), u32_or_nat _ _ (by omega) (by omega), Nat.or_comm, nat_join (8 * k) _ N ?_ (by rw [← pow256]; exact hN)]
  · rw [Nat.add_comm]
  · rw [← pow256]; exact Nat.mul_mod_right _ _
theorem at_math32 (x : W32) (i : Nat) (hi : i < 4) : (x.toNat : Int) / 2 ^ (8 * i) % 256 = ((byteAt x.toNat i).toNat : Int) := by
  have := at_math x.toNat i (by have := x.isLt; omega)
  rw [Nat.min_eq_left (by omega)] at this; exact this
set_option maxHeartbeats 1000000 in
theorem word_any (g : Nat) (T : List UInt8) (x : W32) (w : World) {t : TypeId} {fr : Nat × Nat} (hl : T.length = 256) (hT : w.heap[g]? = some (.cells (T.map bv).toArray t fr)) :
    Calls Tryz.prog 86 #[.pointer (some ⟨g, 0, none⟩), wv x] w fun e w' => e = .returned (wv (subW T x)) ∧ w = w' := by
  unfold wv
  rw [subW_toNat]
  have HL := Lib.hid hl; have HT := Lib.hid hT
  clear hl hT
  go_enter Tryz.func86, Tryz.ntmps86
  go_wp2_with fail
  go_loop [5, 7] (fun vo vi => ∃ (i N : Nat), i ≤ 4 ∧ vi = .int .i64 (i : Int) ∧ vo = .int .u32 (N : Int) ∧ Hid (N = wordN T x i)) (fun _ i => 4 - (intOf i).toNat)
  case atStart => exact ⟨0, 0, by omega, rfl, rfl, rfl⟩
  case round =>
    obtain ⟨i, N, hi, rfl, rfl, HN⟩ := hrel
    by_cases hlt : i < 4
    · have q1 : (i : Int) < 4 := by omega
      have h0 : (0 : Int) ≤ 8 * (i : Int) := by omega
      have h1 : (8 * (i : Int)).toNat = 8 * i := by omega
      have am := at_math32 x i hlt
      have HS := Lib.hid (wordN_succ T x i)
      have c0 := bcellT HT.out (byteAt x.toNat i).toNat (by rw [HL.out]; exact (byteAt x.toNat i).toNat_lt)
      have hb := (byteAt x.toNat i).toNat_lt
      have hN4 : Hid (N < 256 ^ i) := by show _ < _; rw [HN.out]; exact wordN_lt T x i
      generalize T.getD (byteAt x.toNat i).toNat 0 = z at c0 HS
      generalize byteAt x.toNat i = bb at c0 am hb
      have q2 : (bb.toNat : Int) < 256 := by omega
      have OS := Lib.hid (or_shl32 N z.toNat i hN4.out z.toNat_lt hlt)
      have hm : min (8 * i) 32 = 8 * i := by omega
      go_wp2
      go_round
      case rel =>
        refine ⟨i + 1, N + 256 ^ i * z.toNat, by omega, by go_num, ?_, ?_⟩
        · have hz := z.toNat_lt
          rw [Int.emod_eq_of_lt (a := (z.toNat : Int)) (by omega) (by omega), OS.out]
        · show _ = _; rw [HS.out, ← HN.out]
      case measure => simp [intOf]; omega
    · go_wp2
      go_ret
      exact ⟨ret_int (by rw [HN.out, show i = 4 by omega]), rfl⟩
theorem arr4W : Tryz.prog.underlying 135 = some (.array 4 76) := Tryz.underlying135
theorem i4W : (Tryz.prog.info? 135).map (·.size) = some 4 := by kernel_rfl
theorem s32' : (Tryz.prog.info? 76).map (·.size) = some 1 := by kernel_rfl
def eachN (f : W32 → W32) (s : List W32) (i : Nat) : List W32 := (s.take i).map f ++ s.drop i
theorem eachN_step (f : W32 → W32) (s : List W32) (i : Nat) (hi : i < s.length) : (eachN f s i).set i (f (s.getD i 0)) = eachN f s (i + 1) := by
  have hl : ((s.take i).map f).length = i := by simp; omega
  unfold eachN
  rw [List.set_append_right _ _ (by omega), hl, Nat.sub_self, List.drop_eq_getElem_cons hi, List.set_cons_zero, List.take_succ_eq_append_getElem hi, List.map_append, List.append_assoc]
  simp [List.getD, hi]
theorem eachN_get (f : W32 → W32) (s : List W32) (i : Nat) (hi : i < s.length) : (eachN f s i).getD i 0 = s.getD i 0 := by
  have hl : ((s.take i).map f).length = i := by simp; omega
  rw [eachN, List.getD_eq_getElem?_getD, List.getElem?_append_right (by omega), hl, List.getElem?_drop, List.getD_eq_getElem?_getD]; simp
theorem eachN_len (f : W32 → W32) (s : List W32) (i : Nat) : (eachN f s i).length = s.length := by simp [eachN]; omega
theorem eachN_end (f : W32 → W32) (s : List W32) : eachN f s s.length = s.map f := by simp [eachN]
set_option maxHeartbeats 2000000 in
theorem each_any (F : FuncId) (pre : Array Value) (cap : Array Value) (f : W32 → W32) (s : List W32) (w : World) (hs : s.length = 4) (hcall : ∀ args W, (callFunc F args).run Tryz.prog W = .ok (.enter F args) W)
    (hF : ∀ x W, Below w.heap.size w W → Calls Tryz.prog F (pre.push (wv x) ++ cap) W fun e W' => e = .returned (wv (f x)) ∧ W = W') :
    Calls Tryz.prog 103 #[.func (.func F) pre cap, .agg (s.map wv).toArray] w fun e w' => e = .returned (.agg ((s.map f).map wv).toArray) ∧ Below w.heap.size w w' := by
  have HSL := Lib.hid hs; have HF := Lib.hid hF
  clear hs hF
  go_enter Tryz.func103, Tryz.ntmps103
  go_wp2_with fail
  generalize hV : (w.alloc _).alloc _ = W0
  have F0 : Hid (W0.heap[w.heap.size]? = some (.cells ((eachN f s 0).map wv).toArray 135 (0, 0))) := by rw [← hV]; exact (heap2 w _ _).1
  have F1 : Hid (W0.heap[w.heap.size + 1]? = some (.cells (List.replicate 4 (Value.int .u32 0)).toArray 135 (0, 0))) := by rw [← hV]; exact (heap2 w _ _).2.1
  have FB : Hid (Below w.heap.size w W0) := by rw [← hV]; exact (heap2 w _ _).2.2
  clear hV
  go_loopw [6] (fun vi wr => ∃ (i : Nat), i ≤ 4 ∧ vi = .int .i64 (i : Int) ∧ Hid (Below w.heap.size w wr) ∧ Hid (wr.heap[w.heap.size]? = some (.cells ((eachN f s i).map wv).toArray 135 (0, 0))) ∧ Hid (wr.heap[w.heap.size + 1]? = some (.cells (List.replicate 4 (Value.int .u32 0)).toArray 135 (0, 0)))) (fun i _ => 4 - (intOf i).toNat)
  case atStart => exact ⟨0, by omega, rfl, FB, F0, F1⟩
  case round =>
    clear F0 F1 FB
    obtain ⟨i, hi, rfl, HB, H0, H1⟩ := hrel
    by_cases hlt : i < 4
    · have q1 : (i : Int) < 4 := by omega
      have c0 := wcell H0.out i (by rw [eachN_len, HSL.out]; exact hlt)
      rw [eachN_get f s i (by rw [HSL.out]; exact hlt)] at c0
      have fz := frozen_of_heap H0.out i
      have HST := Lib.hid (eachN_step f s i (by rw [HSL.out]; exact hlt))
      have HFX := Lib.hid (HF.out (s.getD i 0) wr HB.out)
      generalize f (s.getD i 0) = z at HST HFX
      generalize s.getD i 0 = x at c0 HFX
      go_wp2_with fail
      refine HFX.out.mono ?_
      rintro e w1 ⟨he, rfl⟩
      have he' : e = .returned (.int .u32 (z.toNat : Int)) := he
      clear he
      subst he'
      go_wp2
      go_roundw
      case rel =>
        refine ⟨i + 1, by omega, by go_num, ?_, ?_, ?_⟩
        · exact HB.out.setCell (Nat.le_refl _) _
        · have := heap_set H0.out i (wv z)
          rw [← List.map_set, HST.out] at this
          exact this
        · exact (Below.heap_setCell wr _ _ _ (Nat.succ_ne_self _)).trans H1.out
      case measure => simp [intOf]; omega
    · have H0' : Hid (wr.heap[w.heap.size]? = some (.cells ((s.map f).map wv).toArray 135 (0, 0))) := by have := H0.out; rw [show i = s.length by rw [HSL.out]; omega, eachN_end] at this; exact this
      have hl4 : Hid (((s.map f).map wv).length = 4) := by show _ = _; rw [List.length_map, List.length_map, HSL.out]
      clear H0
      obtain ⟨L, HLL⟩ : ∃ L, Hid ((s.map f).map wv = L) := ⟨_, rfl⟩
      have hone : Hid (∀ v ∈ L, v.oneCell' = true) := by show ∀ v ∈ L, _; rw [← HLL.out]; exact wv_one _
      rw [HLL.out] at H0' hl4
      go_wp2_with (first
        | (refine wpList_ld rfl 135 (.tmp 3) rfl (load_arr arr4W rfl (by rw [hl4.out]; exact i4W) H0'.out) ?_)
        | (refine wpList_st rfl 135 (.tmp 4) (.tmp 17) rfl (store_arr (cs := L) (by rw [hl4.out]; exact i4W) hone.out H1.out (by rw [hl4.out]; simp)) ?_))
      have hres := setRow_heap wr (w.heap.size + 1) _ L.toArray 135 _ H1.out
      exact bodyPost_ret (results_cell_row (P := Tryz.prog) rfl _ _ (w.heap.size + 1) 135 L.toArray (0, 0) _ rfl hres arr4W rfl (by rw [List.size_toArray, hl4.out]; exact i4W)) rfl ⟨by rw [HLL.out], HB.out.trans (grown_below (grown_setRow _ _ _) (Nat.le_succ _) HB.out.size)⟩
theorem callWord : ∀ args W, (callFunc 86 args).run Tryz.prog W = .ok (.enter 86 args) W := fun _ _ => by kernel_rfl
theorem callMix : ∀ args W, (callFunc 104 args).run Tryz.prog W = .ok (.enter 104 args) W := fun _ _ => by kernel_rfl
theorem callUnmix : ∀ args W, (callFunc 109 args).run Tryz.prog W = .ok (.enter 109 args) W := fun _ _ => by kernel_rfl
theorem each_mix (s : List W32) (w : World) (hs : s.length = 4) : Calls Tryz.prog 103 #[.func (.func 104) #[] #[], .agg (s.map wv).toArray] w fun e w' => e = .returned (.agg ((s.map mixW).map wv).toArray) ∧ Below w.heap.size w w' :=
  each_any _ #[] #[] mixW s w hs callMix (fun x W _ => mixW_any x W)
theorem each_unmix (s : List W32) (w : World) (hs : s.length = 4) : Calls Tryz.prog 103 #[.func (.func 109) #[] #[], .agg (s.map wv).toArray] w fun e w' => e = .returned (.agg ((s.map unmixW).map wv).toArray) ∧ Below w.heap.size w w' :=
  each_any _ #[] #[] unmixW s w hs callUnmix (fun x W _ => unmixW_any x W)
set_option maxHeartbeats 1000000 in
theorem all_any (g : Nat) (T : List UInt8) (s : List W32) (w : World) {t : TypeId} {fr : Nat × Nat} (hs : s.length = 4) (hl : T.length = 256) (hT : w.heap[g]? = some (.cells (T.map bv).toArray t fr)) :
    Calls Tryz.prog 106 #[.pointer (some ⟨g, 0, none⟩), .agg (s.map wv).toArray] w fun e w' => e = .returned (.agg ((s.map (subW T)).map wv).toArray) ∧ Below w.heap.size w w' := by
  have HE : Hid (∀ W, Below w.heap.size w W → Calls Tryz.prog 103 #[.func (.func 86) #[.pointer (some ⟨g, 0, none⟩)] #[], .agg (s.map wv).toArray] W fun e w' => e = .returned (.agg ((s.map (subW T)).map wv).toArray) ∧ Below W.heap.size W w') := fun W hW =>
    each_any _ #[.pointer (some ⟨g, 0, none⟩)] #[] (subW T) s W hs callWord (fun x W' hW' => word_any g T x W' hl ((hW'.block _ (Nat.lt_of_lt_of_le (lt_of_heap hT) hW.size)).trans ((hW.block _ (lt_of_heap hT)).trans hT)))
  have hl4 : Hid (((s.map (subW T)).map wv).length = 4) := by show _ = _; rw [List.length_map, List.length_map, hs]
  have hi4 : Hid ((Tryz.prog.info? 135).map (·.size) = some (s.map wv).length) := by show _ = _; rw [List.length_map, hs]; exact i4W
  have hone : Hid (∀ v ∈ (s.map (subW T)).map wv, v.oneCell' = true) := wv_one _
  generalize (s.map (subW T)).map wv = L at HE hl4 hone ⊢
  clear hs hl hT
  go_enter Tryz.func106, Tryz.ntmps106
  go_upto_region 1 with (fail)
  generalize hV : (w.alloc _).alloc _ = W0
  have F0 : Hid (W0.heap[w.heap.size]? = some (.cells (s.map wv).toArray 135 (0, 0))) := by rw [← hV]; exact (heap2 w _ _).1
  have F1 : Hid (W0.heap[w.heap.size + 1]? = some (.cells (List.replicate 4 (Value.int .u32 0)).toArray 135 (0, 0))) := by rw [← hV]; exact (heap2 w _ _).2.1
  have FB : Hid (Below w.heap.size w W0) := by rw [← hV]; exact (heap2 w _ _).2.2
  clear hV
  go_wp2_with (first
    | (refine wpList_ld rfl 135 (.tmp 3) rfl (load_arr arr4W rfl hi4.out F0.out) ?_)
    | fail)
  refine (HE.out W0 FB.out).mono ?_
  rintro e w1 ⟨rfl, hB1⟩
  have P1 := Lib.hid ((hB1.block _ (lt_of_heap F1.out)).trans F1.out)
  have PB := Lib.hid (FB.out.step hB1)
  clear hB1
  go_wp2_with (first
    | (refine wpList_st rfl 135 (.tmp 4) (.tmp 8) rfl (store_arr (cs := L) (by rw [hl4.out]; exact i4W) hone.out P1.out (by rw [hl4.out]; simp)) ?_)
    | fail)
  have hres := setRow_heap w1 (w.heap.size + 1) _ L.toArray 135 _ P1.out
  exact bodyPost_ret (results_cell_row (P := Tryz.prog) rfl _ _ (w.heap.size + 1) 135 L.toArray (0, 0) _ rfl hres arr4W rfl (by rw [List.size_toArray, hl4.out]; exact i4W)) rfl ⟨rfl, PB.out.trans (grown_below (grown_setRow _ _ _) (Nat.le_succ _) PB.out.size)⟩
end Go.Proofs.YtimgggpojbpfkaaGreatDoor

/- The contract of (*Keys).add. -/
namespace Go.Proofs.YtimgggpojbpfkaaGreatDoor
open Go.RowKit
set_option linter.unusedVariables false
set_option maxRecDepth 100000
set_option linter.unusedSimpArgs false
/-- the round keys' cells -/
def keyCells (ws : List W32) (n : Nat) : List Value := ws.map wv ++ [.int .i64 (n : Int)]
theorem keyCell {w : World} {g : Nat} {ws : List W32} {n : Nat} {ty : TypeId} {fr : Nat × Nat} (H : w.heap[g]? = some (.cells (keyCells ws n).toArray ty fr)) (i : Nat) (hi : i < ws.length) : w.cell? ⟨g, i, none⟩ = some (.int .u32 ((ws.getD i 0).toNat : Int)) := by
  rw [cell_of_heap H, keyCells, List.getElem?_append_left (by simpa using hi), List.getElem?_map, List.getElem?_eq_getElem hi]
  simp [List.getD, hi, wv]
theorem keyN {w : World} {g : Nat} {ws : List W32} {n : Nat} {ty : TypeId} {fr : Nat × Nat} (H : w.heap[g]? = some (.cells (keyCells ws n).toArray ty fr)) (hl : ws.length = 60) : w.cell? ⟨g, 60, none⟩ = some (.int .i64 (n : Int)) := by
  rw [cell_of_heap H, keyCells, List.getElem?_append_right (by simp [hl])]; simp [hl]
/-- the round keys' cells stand at the head of block g -/
def KIn (w : World) (g : Nat) (ws : List W32) (n : Nat) : Prop := g < w.heap.size ∧ w.rangeAt g 0 (keyCells ws n)
theorem kin_of {w : World} {g : Nat} {ws : List W32} {n : Nat} {ty : TypeId} {fr : Nat × Nat} (H : w.heap[g]? = some (.cells (keyCells ws n).toArray ty fr)) : KIn w g ws n :=
  ⟨lt_of_heap H, fun j v hv => by rw [cell_of_heap H, Nat.zero_add]; exact hv⟩
theorem kinCell {w : World} {g : Nat} {ws : List W32} {n : Nat} (H : KIn w g ws n) (i : Nat) (hi : i < ws.length) : w.cell? ⟨g, i, none⟩ = some (.int .u32 ((ws.getD i 0).toNat : Int)) := by
  have := H.2 i (.int .u32 ((ws.getD i 0).toNat : Int)) (by rw [keyCells, List.getElem?_append_left (by simpa using hi), List.getElem?_map, List.getElem?_eq_getElem hi]; simp [List.getD, hi, wv])
  rwa [Nat.zero_add] at this
theorem kinN {w : World} {g : Nat} {ws : List W32} {n : Nat} (H : KIn w g ws n) (hl : ws.length = 60) : w.cell? ⟨g, 60, none⟩ = some (.int .i64 (n : Int)) := by
  have := H.2 60 (.int .i64 (n : Int)) (by rw [keyCells, List.getElem?_append_right (by simp [hl])]; simp [hl])
  rwa [Nat.zero_add] at this
theorem KIn.ext {w w' : World} {g : Nat} {ws : List W32} {n : Nat} (H : KIn w g ws n) (hb : Below w.heap.size w w') : KIn w' g ws n :=
  ⟨Nat.lt_of_lt_of_le H.1 hb.size, fun j v hv => (hb.cell H.1).trans (H.2 j v hv)⟩
def keyL (ws : List W32) (r : Nat) : List W32 := (ws.drop (4 * r)).take 4
def addW (ws : List W32) (r : Nat) (s : List W32) : List W32 := List.zipWith (· ^^^ ·) s (keyL ws r)
def addWN (ws : List W32) (r : Nat) (s : List W32) (i : Nat) : List W32 := (addW ws r s).take i ++ s.drop i
theorem addW_len (ws : List W32) (r : Nat) (s : List W32) (hs : s.length = 4) (hw : 4 * r + 4 ≤ ws.length) : (addW ws r s).length = 4 := by simp [addW, keyL, hs]; omega
theorem addWN_len (ws : List W32) (r : Nat) (s : List W32) (i : Nat) (hs : s.length = 4) (hw : 4 * r + 4 ≤ ws.length) (hi : i ≤ 4) : (addWN ws r s i).length = 4 := by
  simp [addWN, addW_len ws r s hs hw, hs]; omega
theorem addWN_get (ws : List W32) (r : Nat) (s : List W32) (i : Nat) (hs : s.length = 4) (hw : 4 * r + 4 ≤ ws.length) (hi : i < 4) : (addWN ws r s i).getD i 0 = s.getD i 0 := by
  have hl : ((addW ws r s).take i).length = i := by rw [List.length_take, addW_len ws r s hs hw]; omega
  rw [addWN, List.getD_eq_getElem?_getD, List.getElem?_append_right (by omega), hl, List.getElem?_drop, List.getD_eq_getElem?_getD]; simp
theorem addWN_step (ws : List W32) (r : Nat) (s : List W32) (i : Nat) (hs : s.length = 4) (hw : 4 * r + 4 ≤ ws.length) (hi : i < 4) : (addWN ws r s i).set i (s.getD i 0 ^^^ ws.getD (4 * r + i) 0) = addWN ws r s (i + 1) := by
  have hl : ((addW ws r s).take i).length = i := by rw [List.length_take, addW_len ws r s hs hw]; omega
  have ha : i < (addW ws r s).length := by rw [addW_len ws r s hs hw]; exact hi
  unfold addWN
  rw [List.set_append_right _ _ (by omega), hl, Nat.sub_self, List.drop_eq_getElem_cons (by omega), List.set_cons_zero, List.take_succ_eq_append_getElem ha, List.append_assoc]
  congr 1
  simp [addW, keyL, List.getD, hs, hi, show 4 * r + i < ws.length by omega]
theorem addWN_end (ws : List W32) (r : Nat) (s : List W32) (hs : s.length = 4) (hw : 4 * r + 4 ≤ ws.length) : addWN ws r s 4 = addW ws r s := by
  rw [addWN, List.take_of_length_le (by rw [addW_len ws r s hs hw]; omega), List.drop_of_length_le (by omega), List.append_nil]
set_option maxHeartbeats 2000000 in
theorem add_any (g : Nat) (ws : List W32) (n r : Nat) (s : List W32) (w : World) (hs : s.length = 4) (hw : ws.length = 60) (hr : r ≤ 14) (hT : KIn w g ws n) :
    Calls Tryz.prog 101 #[.pointer (some ⟨g, 0, none⟩), .int .i64 (r : Int), .agg (s.map wv).toArray] w fun e w' => e = .returned (.agg ((addW ws r s).map wv).toArray) ∧ Below w.heap.size w w' := by
  have HSL := Lib.hid hs; have HW := Lib.hid hw; have HT := Lib.hid hT
  have hw4 : Hid (4 * r + 4 ≤ ws.length) := by show _ ≤ _; omega
  clear hs hw hT
  go_enter Tryz.func101, Tryz.ntmps101
  go_wp2_with fail
  generalize hV : (w.alloc _).alloc _ = W0
  have F0 : Hid (W0.heap[w.heap.size]? = some (.cells ((addWN ws r s 0).map wv).toArray 135 (0, 0))) := by rw [← hV]; exact (heap2 w _ _).1
  have F1 : Hid (W0.heap[w.heap.size + 1]? = some (.cells (List.replicate 4 (Value.int .u32 0)).toArray 135 (0, 0))) := by rw [← hV]; exact (heap2 w _ _).2.1
  have FB : Hid (Below w.heap.size w W0) := by rw [← hV]; exact (heap2 w _ _).2.2
  clear hV
  go_loopw [8] (fun vi wr => ∃ (i : Nat), i ≤ 4 ∧ vi = .int .i64 (i : Int) ∧ Hid (Below w.heap.size w wr) ∧ Hid (wr.heap[w.heap.size]? = some (.cells ((addWN ws r s i).map wv).toArray 135 (0, 0))) ∧ Hid (wr.heap[w.heap.size + 1]? = some (.cells (List.replicate 4 (Value.int .u32 0)).toArray 135 (0, 0)))) (fun i _ => 4 - (intOf i).toNat)
  case atStart => exact ⟨0, by omega, rfl, FB, F0, F1⟩
  case round =>
    clear F0 F1 FB
    obtain ⟨i, hi, rfl, HB, H0, H1⟩ := hrel
    by_cases hlt : i < 4
    · have q1 : (i : Int) < 4 := by omega
      have c0 := wcell H0.out i (by rw [addWN_len ws r s i HSL.out hw4.out hi]; exact hlt)
      rw [addWN_get ws r s i HSL.out hw4.out hlt] at c0
      have fz := frozen_of_heap H0.out i
      have HST := Lib.hid (addWN_step ws r s i HSL.out hw4.out hlt)
      obtain ⟨p, hp⟩ : ∃ p, p = 4 * r := ⟨_, rfl⟩
      obtain ⟨q, hq⟩ : ∃ q, q = p + i := ⟨_, rfl⟩
      rw [← hp, ← hq] at HST
      have o1 : IntKind.i64.wrap (4 * (r : Int)) = (p : Int) := by rw [IntKind.wrap_i64]; omega
      have o2 : IntKind.i64.wrap ((p : Int) + (i : Int)) = (q : Int) := by rw [IntKind.wrap_i64]; omega
      have q2 : (q : Int) < 60 := by omega
      have c1 : wr.cell? ⟨g, q, none⟩ = some (.int .u32 ((ws.getD q 0).toNat : Int)) := (HB.out.cell HT.out.1).trans (kinCell HT.out q (by rw [HW.out]; omega))
      generalize s.getD i 0 = x at c0 HST
      generalize ws.getD q 0 = y at c1 HST
      have HXY := Lib.hid (xor32 x y)
      clear hp hq
      go_wp2_with fail
      go_still_tail 14, (by kernel_rfl)
      change wpList _ _ _ _ _ wr.drew
      go_wp2
      go_roundw
      case rel =>
        refine ⟨i + 1, by omega, by go_num, ?_, ?_, ?_⟩
        · exact HB.out.drew.setCell (Nat.le_refl _) _
        · have h1 : ((addWN ws r s i).map wv).set i (Value.int .u32 (bits .xor .u32 (x.toNat : Int) (y.toNat : Int))) = (addWN ws r s (i + 1)).map wv := by
            rw [HXY.out, ← HST.out, List.map_set]; rfl
          have := heap_set (w := wr.drew) H0.out i (Value.int .u32 (bits .xor .u32 (x.toNat : Int) (y.toNat : Int)))
          rw [h1] at this
          first | exact this | (rw [HXY.out] at this; exact this)
        · exact (Below.heap_setCell wr.drew _ _ _ (Nat.succ_ne_self _)).trans H1.out
      case measure => simp [intOf]; omega
    · have H0' : Hid (wr.heap[w.heap.size]? = some (.cells ((addW ws r s).map wv).toArray 135 (0, 0))) := by have := H0.out; rw [show i = 4 by omega, addWN_end ws r s HSL.out hw4.out] at this; exact this
      have hl4 : Hid (((addW ws r s).map wv).length = 4) := by show _ = _; rw [List.length_map, addW_len ws r s HSL.out hw4.out]
      clear H0
      obtain ⟨L, HLL⟩ : ∃ L, Hid ((addW ws r s).map wv = L) := ⟨_, rfl⟩
      have hone : Hid (∀ v ∈ L, v.oneCell' = true) := by show ∀ v ∈ L, _; rw [← HLL.out]; exact wv_one _
      rw [HLL.out] at H0' hl4
      go_wp2_with (first
        | (refine wpList_ld rfl 135 (.tmp 5) rfl (load_arr arr4W rfl (by rw [hl4.out]; exact i4W) H0'.out) ?_)
        | (refine wpList_st rfl 135 (.tmp 6) (.tmp 26) rfl (store_arr (cs := L) (by rw [hl4.out]; exact i4W) hone.out H1.out (by rw [hl4.out]; simp)) ?_))
      have hres := setRow_heap wr (w.heap.size + 1) _ L.toArray 135 _ H1.out
      exact bodyPost_ret (results_cell_row (P := Tryz.prog) rfl _ _ (w.heap.size + 1) 135 L.toArray (0, 0) _ rfl hres arr4W rfl (by rw [List.size_toArray, hl4.out]; exact i4W)) rfl ⟨by rw [HLL.out], HB.out.trans (grown_below (grown_setRow _ _ _) (Nat.le_succ _) HB.out.size)⟩
end Go.Proofs.YtimgggpojbpfkaaGreatDoor
