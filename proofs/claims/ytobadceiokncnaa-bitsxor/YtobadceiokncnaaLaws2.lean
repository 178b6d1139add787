/- The walk of the law BitsXor. -/
import Derived.Test.YtobadceiokncnaaBits3
import Derived.Test.YtobadceiokncnaaAwake1
namespace Go.Proofs.Ytobadceiokncnaa
open Go.RowKit
set_option linter.unusedVariables false

theorem bitsXor_walk (w : World) (A : Option Addr) (c : Nat) (a : List UInt8) (h : Sl w A c a) (A' : Option Addr) (c' : Nat) (b : List UInt8) (h' : Sl w A' c' b) :
    Calls Try.prog 7 #[.slice A a.length c, .slice A' b.length c'] w fun e w' => e = .returned (.bool true) ∧ Below w.heap.size w w' := by
  have q1 : a.length ≤ 9223372036854775807 := by have := h.1; have := h.2.1; simp [maxLen] at this; omega
  have q2 : b.length ≤ 9223372036854775807 := by have := h'.1; have := h'.2.1; simp [maxLen] at this; omega
  by_cases ha : 300 < a.length
  · go_enter Try.func7, Try.ntmps7
    go_wp2
    go_ret
    exact ⟨rfl, Below.refl _ _⟩
  by_cases hb : 300 < b.length
  · go_enter Try.func7, Try.ntmps7
    go_wp2
    go_ret
    exact ⟨rfl, Below.refl _ _⟩
  clear q1 q2
  obtain ⟨n, hn⟩ : ∃ n, a.length = n := ⟨_, rfl⟩
  obtain ⟨n', hn'⟩ : ∃ n', b.length = n' := ⟨_, rfl⟩
  rw [hn] at ha ⊢
  rw [hn'] at hb ⊢
  obtain ⟨m, hm⟩ : ∃ m, min n n' = m := ⟨_, rfl⟩
  have hmin : (if n' < n then (n' : Int) else (n : Int)) = (m : Int) := by split <;> omega
  have hm1 : m ≤ n := by omega
  have hm2 : m ≤ n' := by omega
  have HM := Lib.hid hm
  have HN := Lib.hid hn
  have HN' := Lib.hid hn'
  have H := Lib.hid h
  have H' := Lib.hid h'
  have hxl : (xorL a b).length = m := by rw [xorL_len, hn, hn', hm]
  have HX := Lib.hid hxl
  have ht : (b.take m).length = m := by rw [List.length_take]; omega
  have HT := Lib.hid ht
  have ht2 : (List.replicate n (0 : UInt8)).length = n := by simp
  have HR := Lib.hid ht2
  have hc' : (m : Int) ≤ (c' : Int) := by have := h'.1; omega
  clear hn hn' h h' hm hxl ht ht2
  go_enter Try.func7, Try.ntmps7
  go_wp2_with fail
  refine (xor_n A A' n n' m c c' a b w HN.out HN'.out HM.out H.out H'.out (by omega) (by omega)).mono ?_
  rintro e w1 ⟨g1, hg1, rfl, hk1, hb1⟩
  have HK1 := Lib.hid hk1; have HB1 := Lib.hid hb1; clear hk1 hb1
  go_wp2_with fail
  refine (xor_n A (some ⟨g1, 0, none⟩) n m m c m a (xorL a b) w1 HN.out HX.out (by omega) (H.out.below HB1.out) (sl_row HX.out (by omega) HK1.out) (by omega) (by omega)).mono ?_
  rintro e w2 ⟨g2, hg2, rfl, hk2, hb2⟩
  rw [xorL_back, HN.out, HN'.out, HM.out] at hk2
  have HK2 := Lib.hid hk2; have HB2 := Lib.hid hb2; clear hk2 hb2
  go_wp2_with fail
  refine (xor_n A A n n n c c a a w2 HN.out HN.out (by omega) ((H.out.below HB1.out).below HB2.out) ((H.out.below HB1.out).below HB2.out) (by omega) (by omega)).mono ?_
  rintro e w3 ⟨g3, hg3, rfl, hk3, hb3⟩
  rw [xorL_self, HN.out] at hk3
  have HK3 := Lib.hid hk3; have HB3 := Lib.hid hb3; clear hk3 hb3
  have HK2' := Lib.hid ((HB3.out.block g2 (lt_of_heap HK2.out)).trans HK2.out)
  have s2 : Sl w3 (some ⟨g2, 0, none⟩) m (b.take m) := sl_row HT.out (by omega) HK2'.out
  have s3 : Sl w3 A' c' (b.take m) := by
    have := ((H'.out.below HB1.out).below HB2.out).below HB3.out
    exact ⟨by rw [HT.out]; omega, this.2.1, by rw [List.map_take]; exact this.2.2.take m⟩
  have hcv1 := fun k : Nat => conv_string (w3.drewN k) (some ⟨g2, 0, none⟩) m m (b.take m) HT.out s2
  have hcv2 := fun k : Nat => conv_string (w3.drewN k) A' m c' (b.take m) HT.out s3
  have hcut := cut_to uT s8 A' n' c' .i64 (m : Int) (by omega) hc'
  rw [Int.toNat_natCast] at hcut
  clear s2 s3
  go_wp2_with fail
  go_quiet (fail)
  go_wp2_with fail
  go_loop [8] (fun iv => ∃ k : Nat, k ≤ n ∧ iv = .int .i64 k) (fun i => n - (intOf i).toNat)
  case atStart => exact ⟨0, by omega, rfl⟩
  case round =>
    obtain ⟨k, hk, rfl⟩ := hrel
    by_cases hlt : k < n
    · have hc : w3.cell? ⟨g3, k, none⟩ = some (.int .u8 0) := by
        rw [cell_of_heap HK3.out]; simp [hlt, bv]
      go_wp2
      go_round
      case rel => exact ⟨k + 1, by omega, by go_num⟩
      case measure => simp [intOf]; omega
    · go_wp2_with fail
      refine (awake_any _).mono ?_
      rintro e w4 ⟨rfl, hb4⟩
      have HB4 := Lib.hid hb4; clear hb4
      go_wp2
      go_ret
      have t3 := (HB1.out.step HB2.out).step HB3.out
      exact ⟨rfl, Below.step (w1 := w3.drewN nq) ⟨t3.os, t3.tape, t3.output, t3.size, t3.block⟩ HB4.out⟩
end Go.Proofs.Ytobadceiokncnaa