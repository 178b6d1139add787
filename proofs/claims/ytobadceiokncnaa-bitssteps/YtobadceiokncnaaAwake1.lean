/- Contract of the law file's own 'awake' (the chapter's examples), and the law BitsTurns' walk. -/
import Derived.Test.YtobadceiokncnaaBits2
import Derived.OpenShut
namespace Go.Proofs.Ytobadceiokncnaa
open Go.RowKit
set_option linter.unusedVariables false

theorem row_two (w : World) (b1 b2 : UInt8) : RowAt (w.alloc (.cells #[.int .u8 (b1.toNat : Int), .int .u8 (b2.toNat : Int)] 5)) (w.heap.size + 1) (some ⟨w.heap.size, 0, none⟩) ([b1, b2].map bv) := by
  refine .inr ⟨w.heap.size, 0, rfl, by omega, fun j u hu => ?_⟩
  have := cell_of_heap (w := w.alloc (.cells ([b1, b2].map bv).toArray 5)) (heap_alloc_new' w _) (0 + j)
  exact this.trans (by simpa using hu)

theorem awake_any (w : World) : Calls Try.prog 19 #[] w fun e w' => e = .returned (.bool true) ∧ Below w.heap.size w w' := by
  have hB1 : ∀ W : World, Calls Try.prog 11 #[.slice (some ⟨W.heap.size, 0, none⟩) 2 2] (W.alloc (.cells #[.int .u8 1, .int .u8 2] 5)) fun e w' => e = .returned (.int .u64 258) ∧ Below W.heap.size W w' := fun W =>
    (big_any (some ⟨W.heap.size, 0, none⟩) 2 [1, 2] (W.heap.size + 1) _ (by simp) (by simp [maxLen]) (by simp) (row_two W 1 2)).mono fun e w' ⟨he, hb⟩ => ⟨he, ((Below.refl _ _).alloc (Nat.le_refl _) _).trans (hb.mono (by simp))⟩
  have hB2 : ∀ W : World, Calls Try.prog 13 #[.slice (some ⟨W.heap.size, 0, none⟩) 2 2] (W.alloc (.cells #[.int .u8 1, .int .u8 2] 5)) fun e w' => e = .returned (.int .u64 513) ∧ Below W.heap.size W w' := fun W =>
    (little_any (some ⟨W.heap.size, 0, none⟩) 2 [1, 2] (W.heap.size + 1) _ (by simp) (by simp [maxLen]) (by simp) (row_two W 1 2)).mono fun e w' ⟨he, hb⟩ => ⟨he, ((Below.refl _ _).alloc (Nat.le_refl _) _).trans (hb.mono (by simp))⟩
  have hB3 : ∀ W : World, Calls Try.prog 23 #[.int .u32 2147483649, .int .i64 1] W fun e w' => e = .returned (.int .u32 3) ∧ W = w' := fun W => left_any 2147483649#32 1 W
  have H1 := Lib.hid hB1
  have H2 := Lib.hid hB2
  have H3 := Lib.hid hB3
  clear hB1 hB2 hB3
  go_enter Try.func19, Try.ntmps19
  go_wp2_with (first
    | (go_at_call 11; refine (H1.out _).mono ?_; rintro e w1 ⟨rfl, hb1⟩; have HB1 := Lib.hid hb1; clear hb1)
    | (go_at_call 13; refine (H2.out _).mono ?_; rintro e w2 ⟨rfl, hb2⟩; have HB2 := Lib.hid hb2; clear hb2)
    | (go_at_call 23; refine (H3.out _).mono ?_; rintro e w3 ⟨rfl, rfl⟩))
  go_ret
  exact ⟨rfl, HB1.out.trans (HB2.out.mono HB1.out.size)⟩


theorem int_i16 {a : Int} (h : (Lit.int .i16 a).wf = true) : -32768 ≤ a ∧ a ≤ 32767 := by
  have := bounds_i16 h; omega
theorem bitsTurns_walk (w : World) (x : BitVec 32) (a1 : Int) (w1 : (Lit.int .i16 a1).wf = true) (a2 : Int) (w2 : (Lit.int .i16 a2).wf = true) :
    Calls Try.prog 8 #[.int .u32 (x.toNat : Int), .int .i16 a1, .int .i16 a2] w fun e w' => e = .returned (.bool true) ∧ Below w.heap.size w w' := by
  obtain ⟨h1, h2⟩ := int_i16 w1
  obtain ⟨h3, h4⟩ := int_i16 w2
  clear w1 w2
  have e1 : rotl (rotl x a1) (-a1) = x := by rw [turns_math, Int.add_right_neg, rotl_zero]
  have e2 : rotl x 32 = x := rotl_32 x
  have e3 := turns_math x a1 a2
  have b1 : ((((rotl (rotl x a1) (-a1)).toNat : Int) == (x.toNat : Int)) = true) := by rw [e1]; simp
  have b2 : ((((rotl x 32).toNat : Int) == (x.toNat : Int)) = true) := by rw [e2]; simp
  have b3 : ((((rotl (rotl x a1) a2).toNat : Int) == ((rotl x (a1 + a2)).toNat : Int)) = true) := by rw [e3]; simp
  clear e1 e2 e3
  go_enter Try.func8, Try.ntmps8
  go_wp2_with (first
    | (go_at_call 23; refine (left_any _ _ _).mono ?_; rintro e w' ⟨rfl, rfl⟩)
    | (go_at_call 19; refine (awake_any _).mono ?_; rintro e w1 ⟨rfl, hb1⟩; have HB1 := Lib.hid hb1; clear hb1))
  go_ret
  exact ⟨rfl, HB1.out⟩
end Go.Proofs.Ytobadceiokncnaa