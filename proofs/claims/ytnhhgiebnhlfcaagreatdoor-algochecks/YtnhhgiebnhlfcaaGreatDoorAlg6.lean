/- algo.Room, Check. -/
import Derived.Test.YtnhhgiebnhlfcaaGreatDoorAlg5
namespace Go.Proofs.YtnhhgiebnhlfcaaGreatDoor
open Go.RowKit Go.Shelf
set_option linter.unusedVariables false
set_option linter.unusedSimpArgs false
set_option maxRecDepth 100000
/-- an algorithm is one, and has that direction -/
def hasA (x : Int) (o : Bool) : Bool := decide (1 ≤ x ∧ x ≤ 6) && hasW x.toNat o
theorem hasA_yes {k : Nat} {o : Bool} (h1 : 1 ≤ k) (h2 : k ≤ 6) (h : hasW k o = true) : hasA (k : Int) o = true := by
  unfold hasA
  rw [Int.toNat_natCast, h, Bool.and_true]
  exact decide_eq_true ⟨by omega, by omega⟩
theorem hasA_no {x : Int} {o : Bool} (h : x < 1 ∨ 6 < x ∨ ∃ k : Nat, 1 ≤ k ∧ k ≤ 6 ∧ x = (k : Int) ∧ hasW k o = false) : hasA x o = false := by
  unfold hasA
  rcases h with h | h | ⟨k, h1, h2, rfl, h⟩
  · rw [decide_eq_false (by omega), Bool.false_and]
  · rw [decide_eq_false (by omega), Bool.false_and]
  · rw [Int.toNat_natCast, h, Bool.and_false]
def roomR (x : Int) (o : Bool) (n : Int) : Int × Int := if hasA x o = false then (0, 4) else if n < 0 then (0, 1) else roomP x.toNat o n.toNat
/-- what known comes to, in eight cells and two -/
theorem known_open {W : World} {x : Int} {o : Bool} {v : Value} (h : KnownV W x o v) :
    (hasA x o = true ∧ ∃ (k n0 : Nat) (c a : Int) (key iv r1 d1 r2 d2 r d : Value), x = (k : Int) ∧ 1 ≤ k ∧ k ≤ 6 ∧ v = .tuple #[.agg [.int .i64 c, key, iv, .int .i64 a, r1, d1, r2, d2].toArray, .agg [r, d].toArray, .int .i64 0] ∧
      (∀ u ∈ [.int .i64 c, key, iv, .int .i64 a, r1, d1, r2, d2], u.oneCell' = true) ∧ (∀ u ∈ [r, d], u.oneCell' = true) ∧ a = aadK k ∧ FitV n0 W key (keyP k) ∧ FitV n0 W iv (ivP k) ∧ RoomV n0 W r (roomP k o) ∧ DoV n0 W k o d) ∨
    (hasA x o = false ∧ v = .tuple #[.agg zeroKind.toArray, .agg [.nilFunc, .nilFunc].toArray, .int .i64 4]) := by
  rcases h with ⟨k, h1, h2, rfl, hh, E, r, d, rfl, n0, hK, hR, hD⟩ | ⟨hx, rfl⟩
  · refine .inl ⟨hasA_yes h1 h2 hh, ?_⟩
    obtain ⟨key, iv, r1, d1, r2, d2, rfl, f1, f2, w1, w2⟩ := hK
    obtain ⟨c, a, key', iv', r1', d1', r2', d2', e, g1, g2, g3, g4, g5, g6, _⟩ := kind_cells ⟨h1, h2⟩ (show KindAt n0 W _ k from ⟨key, iv, r1, d1, r2, d2, rfl, f1, f2, w1, w2⟩)
    simp only [Value.agg.injEq, Array.mk.injEq, List.cons.injEq, and_true] at e
    obtain ⟨_, rfl, rfl, _, rfl, rfl, rfl, rfl⟩ := e
    refine ⟨k, n0, clsK k, aadK k, key, iv, r1, d1, r2, d2, r, d, rfl, h1, h2, rfl, agg8_one (.inl g1) (.inl g2) g3 g4 g5 g6, agg2_one (.inl (fun_room hR)) (.inl ?_), rfl, f1, f2, hR, hD⟩
    have hk6 : k = 1 ∨ k = 2 ∨ k = 3 ∨ k = 4 ∨ k = 5 ∨ k = 6 := by omega
    rcases hk6 with rfl | rfl | rfl | rfl | rfl | rfl <;> cases o <;> first | exact ⟨_, _, hD⟩ | exact fun_aes hD | exact fun_key hD
  · exact .inr ⟨hasA_no hx, rfl⟩
theorem zk_one : ∀ u ∈ zeroKind, u.oneCell' = true := by
  intro v hv
  simp only [zeroKind, List.mem_cons, List.not_mem_nil, or_false] at hv
  rcases hv with rfl | rfl | rfl | rfl | rfl | rfl | rfl | rfl <;> rfl
theorem nn_one : ∀ u ∈ ([.nilFunc, .nilFunc] : List Value), u.oneCell' = true := by
  intro v hv
  simp only [List.mem_cons, List.not_mem_nil, or_false] at hv
  rcases hv with rfl | rfl <;> rfl
theorem i8K : (Tryz.prog.info? 54).map (·.size) = some 8 := by kernel_rfl
theorem i2K : (Tryz.prog.info? 52).map (·.size) = some 2 := by kernel_rfl
set_option maxHeartbeats 4000000 in
theorem room_any (x : Int) (o : Bool) (n : Int) (w : World) (hn : n ≤ 4611686018427387904) (hn2 : -9223372036854775808 ≤ n) : Calls Tryz.prog 14 #[.int .i64 x, .bool o, .int .i64 n] w fun e w' => e = .returned (.tuple #[.int .i64 (roomR x o n).1, .int .i64 (roomR x o n).2]) ∧ Below w.heap.size w w' := by
  have hzk : ∀ W, (zeroValue 54).run Tryz.prog W = .ok (.agg zeroKind.toArray) W := fun W => by kernel_rfl
  have hzw : ∀ W, (zeroValue 52).run Tryz.prog W = .ok (.agg #[.nilFunc, .nilFunc]) W := fun W => by kernel_rfl
  have hl8 : Hid (zeroKind.length = 8) := rfl
  have h1z := Lib.hid zk_one
  have KO := Lib.hid (fun (W : World) (v : Value) (h : KnownV W x o v) => known_open h)
  obtain ⟨y, hy⟩ : ∃ y, y = roomR x o n := ⟨_, rfl⟩
  rw [← hy]
  have HY := Lib.hid hy
  clear hy
  generalize zeroKind = ZK at hzk hl8 h1z KO
  go_enter Tryz.func14, Tryz.ntmps14
  go_wp2_with fail
  refine (known_any x o w).mono ?_
  rintro e w1 ⟨v, rfl, hv, hb⟩
  have B1 := Lib.hid hb
  rcases KO.out w1 v hv with ⟨hh, k, n0, c, a, key, iv, r1, d1, r2, d2, r, d, rfl, hk1, hk2, rfl, o8, o2, ha, f1, f2, hR, hD⟩ | ⟨hh, rfl⟩
  · obtain ⟨F, cap, rfl, hent, hRm⟩ := hR
    have HRM := Lib.hid hRm
    have O8 := Lib.hid o8; have O2 := Lib.hid o2
    have ik8 : Hid (([.int .i64 c, key, iv, .int .i64 a, r1, d1, r2, d2] : List Value).length = 8) := rfl
    clear hv hb KO o8 o2 f1 f2 hD hRm ha
    generalize ([.int .i64 c, key, iv, .int .i64 a, r1, d1, r2, d2] : List Value) = CS at O8 ik8
    have hent : ∀ args W, (callFunc F args).run Tryz.prog W = .ok (.enter F args) W := hent
    by_cases h0 : n < 0
    · have HYV : y = (0, 1) := by rw [HY.out, roomR, hh, if_neg (by decide), if_pos h0]
      subst HYV
      go_wp2_with (first
        | (refine wpList_st rfl 54 (.tmp 8) (.tmp 15) rfl (store_arr (cs := CS) (old := ZK) (by rw [ik8.out]; exact i8K) O8.out (heap2K w1 (.cells ZK.toArray 54) (.cells #[.nilFunc, .nilFunc] 52)).1 (by rw [hl8.out, ik8.out])) ?_
           generalize hV : World.setRow _ _ _ = W4
           have P4 : Hid (Below w1.heap.size w1 W4 ∧ W4.heap[w1.heap.size + 1]? = some (.cells [.nilFunc, .nilFunc].toArray 52 (0, 0))) := by
             obtain ⟨h1, h2, h3⟩ := heap2K w1 (.cells ZK.toArray 54) (.cells #[.nilFunc, .nilFunc] 52)
             exact ⟨h3.trans (below_of_setRow hV (Nat.le_refl _) h3.size), heap_of_other hV (by omega) h2⟩
           clear hV)
        | (refine wpList_st rfl 52 (.tmp 9) (.tmp 16) rfl (store_arr (cs := [.func (.func F) #[] cap, d]) (old := [.nilFunc, .nilFunc]) i2K O2.out P4.out.2 rfl) ?_
           generalize hV : World.setRow _ _ _ = W5
           have P5 := Lib.hid (heap_of_setRow hV P4.out.2)
           have B5 : Hid (Below w1.heap.size w1 W5) := P4.out.1.trans (below_of_setRow hV (Nat.le_succ _) P4.out.1.size)
           clear hV)
        | fail)
      go_ret2
      exact ⟨rfl, B1.out.step B5.out⟩
    · have h0' : 0 ≤ n := by omega
      obtain ⟨m, hm⟩ : ∃ m : Nat, n = (m : Int) := ⟨n.toNat, by omega⟩
      subst hm
      have HYV : y = roomP k o m := by rw [HY.out, roomR, hh, if_neg (by decide), if_neg h0, Int.toNat_natCast, Int.toNat_natCast]
      clear HY
      subst HYV
      go_wp2_with (first
        | (refine wpList_st rfl 54 (.tmp 8) (.tmp 15) rfl (store_arr (cs := CS) (old := ZK) (by rw [ik8.out]; exact i8K) O8.out (heap2K w1 (.cells ZK.toArray 54) (.cells #[.nilFunc, .nilFunc] 52)).1 (by rw [hl8.out, ik8.out])) ?_
           generalize hV : World.setRow _ _ _ = W4
           have P4 : Hid (Below w1.heap.size w1 W4 ∧ W4.heap[w1.heap.size + 1]? = some (.cells [.nilFunc, .nilFunc].toArray 52 (0, 0))) := by
             obtain ⟨h1, h2, h3⟩ := heap2K w1 (.cells ZK.toArray 54) (.cells #[.nilFunc, .nilFunc] 52)
             exact ⟨h3.trans (below_of_setRow hV (Nat.le_refl _) h3.size), heap_of_other hV (by omega) h2⟩
           clear hV)
        | (refine wpList_st rfl 52 (.tmp 9) (.tmp 16) rfl (store_arr (cs := [.func (.func F) #[] cap, d]) (old := [.nilFunc, .nilFunc]) i2K O2.out P4.out.2 rfl) ?_
           generalize hV : World.setRow _ _ _ = W5
           have P5 := Lib.hid (heap_of_setRow hV P4.out.2)
           have B5 : Hid (Below w1.heap.size w1 W5) := P4.out.1.trans (below_of_setRow hV (Nat.le_succ _) P4.out.1.size)
           clear hV)
        | (refine wpList_ld rfl 49 (.tmp 25) rfl (load_cellW (hu := Tryz.underlying49) (hd := rfl) (v := .func (.func F) #[] cap) (by rw [cell_of_heap P5.out]; rfl)) ?_)
        | fail)
      refine (HRM.out W5 (KeepL.of B5.out) m (by omega)).mono ?_
      rintro e w6 ⟨rfl, hb6⟩
      have B6 := Lib.hid ((B1.out.step B5.out).step hb6)
      go_wp2
      go_ret2
      exact ⟨rfl, B6.out⟩
  · have HYV : y = (0, 4) := by rw [HY.out, roomR, hh, if_pos rfl]
    clear hv hb KO
    subst HYV
    go_wp2_with (first
      | (refine wpList_st rfl 54 (.tmp 8) (.tmp 15) rfl (store_arr (cs := ZK) (old := ZK) (by rw [hl8.out]; exact i8K) h1z.out (heap2K w1 (.cells ZK.toArray 54) (.cells #[.nilFunc, .nilFunc] 52)).1 rfl) ?_
         generalize hV : World.setRow _ _ _ = W4
         have P4 : Hid (Below w1.heap.size w1 W4 ∧ W4.heap[w1.heap.size + 1]? = some (.cells [.nilFunc, .nilFunc].toArray 52 (0, 0))) := by
           obtain ⟨h1, h2, h3⟩ := heap2K w1 (.cells ZK.toArray 54) (.cells #[.nilFunc, .nilFunc] 52)
           exact ⟨h3.trans (below_of_setRow hV (Nat.le_refl _) h3.size), heap_of_other hV (by omega) h2⟩
         clear hV)
      | (refine wpList_st rfl 52 (.tmp 9) (.tmp 16) rfl (store_arr (cs := [.nilFunc, .nilFunc]) (old := [.nilFunc, .nilFunc]) i2K nn_one P4.out.2 rfl) ?_
         generalize hV : World.setRow _ _ _ = W5
         have B5 : Hid (Below w1.heap.size w1 W5) := P4.out.1.trans (below_of_setRow hV (Nat.le_succ _) P4.out.1.size)
         clear hV)
      | fail)
    go_ret2
    exact ⟨rfl, B1.out.step B5.out⟩
end Go.Proofs.YtnhhgiebnhlfcaaGreatDoor
