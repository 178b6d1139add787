/- The library's bytes.Repeat of one byte; math/bits.Mul. -/
import Derived.Test.YtjmpbcfbfbjenaaPoly1
import Derived.Test.YtjmpbcfbfbjenaaSha8
import Derived.Test.YtjmpbcfbfbjenaaBits3
import Derived.Lib.MakeNoZero
namespace Go.Proofs.Ytjmpbcfbfbjenaa
open Go.RowKit
set_option linter.unusedVariables false
set_option maxRecDepth 100000
set_option linter.unusedSimpArgs false
theorem mul_any (x y : Nat) (w : World) (hx : x < 18446744073709551616) (hy : y < 18446744073709551616) :
    Calls Try.prog 97 #[.int .u64 (x : Int), .int .u64 (y : Int)] w fun e w' =>
      e = .returned (.tuple #[.int .u64 ((x * y / 18446744073709551616 : Nat) : Int), .int .u64 ((x * y % 18446744073709551616 : Nat) : Int)]) ∧ w = w' := by
  have H := Lib.hid (mul64_any x y w hx hy)
  generalize x * y / 18446744073709551616 = p at H ⊢
  generalize x * y % 18446744073709551616 = q at H ⊢
  go_enter Try.func97, Try.ntmps97
  go_wp2_with fail
  refine H.out.mono ?_
  rintro e w1 ⟨rfl, rfl⟩
  go_wp2
  exact bodyPost_ret (results_tmp2 rfl _ _ _) rfl ⟨rfl, rfl⟩
theorem splice_get {L cs : List Value} {k j : Nat} {v : Value} (hk : k + cs.length ≤ L.length) (h1 : ∀ i, i < k → L[i]? = some v) (h2 : ∀ u ∈ cs, u = v) (hj : j < k + cs.length) : (splice L k cs)[j]? = some v := by
  unfold splice
  by_cases hjk : j < k
  · rw [List.getElem?_append_left (by rw [List.length_take]; omega), List.getElem?_take_of_lt hjk]; exact h1 j hjk
  · rw [List.getElem?_append_right (by rw [List.length_take]; omega), List.length_take, Nat.min_eq_left (by omega), List.getElem?_append_left (by omega), List.getElem?_eq_getElem (by omega)]
    rw [h2 _ (List.getElem_mem _)]
theorem splice_length' {α : Type} (L cs : List α) (k : Nat) (hk : k + cs.length ≤ L.length) : (splice L k cs).length = L.length := by
  simp [splice]; omega
set_option maxHeartbeats 2000000 in
theorem rep_any (A : Option Addr) (c : Nat) (x : UInt8) (n : Nat) (w : World) (hn : 1 ≤ n) (hn2 : n ≤ 8192) (hS : Sl w A c [x]) :
    Calls Try.prog 78 #[.slice A 1 c, .int .i64 (n : Int)] w fun e w' => e = .returned (.slice (some ⟨w.heap.size, 0, none⟩) n n) ∧ Sl w' (some ⟨w.heap.size, 0, none⟩) n (List.replicate n x) ∧ Below w.heap.size w w' := by
  obtain ⟨cs, hrun, hle, hmax⟩ := Lib.run_makeNoZero (P := Try.prog) w #[3] 26 5 uT n (by omega)
  have hmx : n ≤ maxLen := by simp [maxLen]; omega
  have hcall : (callFunc 98 #[.int .i64 (n : Int)]).run Try.prog w = .ok (.value (.slice (some ⟨w.heap.size, 0, none⟩) n cs.size)) (w.drew.drew.alloc (.cells cs 5)) := by
    rw [run_callFunc_extern (P := Try.prog) (e := Extern.BytealgMakeNoZero.makeNoZero #[3] #[26]) Try.func98 (by kernel_rfl) (by kernel_rfl) (by kernel_rfl) (by kernel_rfl), hrun]
    rfl
  have HM : Hid (Calls Try.prog 97 #[.int .u64 1, .int .u64 (n : Int)] w fun e w' => e = .returned (.tuple #[.int .u64 0, .int .u64 (n : Int)]) ∧ w = w') := by
    have := mul_any 1 n w (by omega) (by omega)
    rw [Nat.one_mul, Nat.div_eq_of_lt (by omega), Nat.mod_eq_of_lt (by omega)] at this
    exact this
  obtain ⟨CL, hCL⟩ : ∃ L : List Value, cs = L.toArray := ⟨cs.toList, rfl⟩
  have hsz : cs.size = CL.length := by rw [hCL]; simp
  have F0 : Hid ((w.drew.drew.alloc (.cells cs 5)).heap[w.heap.size]? = some (.cells CL.toArray 5 (0, 0))) := by rw [hCL]; exact heap_alloc_new' w.drew.drew _
  have B0 : Hid (Below w.heap.size w (w.drew.drew.alloc (.cells cs 5))) := (Below.refl _ w).drew.drew.alloc (Nat.le_refl _) _
  generalize w.drew.drew.alloc (.cells cs 5) = W1 at hcall F0 B0
  rw [hsz] at hcall hle
  have HK : Hid (n ≤ CL.length) := hle
  have HS := Lib.hid hS
  generalize hKK : CL.length = K at hcall HK
  have HKL : Hid (CL.length = K) := hKK
  have u1 : IntKind.u64.wrap (n : Int) = (n : Int) := by rw [IntKind.wrap_u64]; omega
  have u2 : IntKind.i64.wrap (n : Int) = (n : Int) := by rw [IntKind.wrap_i64]; omega
  have e1 : ((n : Int) == 0) = false := by simp; omega
  have e2 : ¬ ((n : Int) < 0) := by omega
  have e3 : ¬ ((9223372036854775807 : Int) < (n : Int)) := by omega
  have e4 : ¬ ((8192 : Int) < (n : Int)) := by omega
  obtain ⟨q, hq⟩ : ∃ q, w.heap.size = q := ⟨_, rfl⟩
  rw [hq] at hcall F0
  have HQ := Lib.hid hq
  have hnK : n ≤ K := by have := HK.out; omega
  clear hrun hle hmax hsz hCL hKK hS hq
  go_enter Try.func78, Try.ntmps78
  go_wp2_with fail
  refine HM.out.mono ?_
  rintro e w1 ⟨rfl, rfl⟩
  go_upto_region 17 with (fail)
  have HR0 := Lib.hid (HS.out.2.2.below B0.out)
  obtain ⟨W2, hrun, hblk, hsz, hgr⟩ := copy_run uT s8 (sT := 26) 3 W1 q 0 CL 5 F0.out (some ⟨q, 0, none⟩) A n n 1 c w.heap.size ([x].map bv) (by simp; omega) (fun _ => rfl) HR0.out (by rw [HKL.out]; simp; omega) (bv_one _)
  simp only [List.length_map, List.length_cons, List.length_nil, Nat.zero_add] at hrun
  have HG : ∀ j, j < 1 → (splice CL 0 ([x].map bv))[j]? = some (bv x) := fun j hj => splice_get (by rw [HKL.out]; simp; omega) (fun i hi => absurd hi (Nat.not_lt_zero i)) (fun u hu => by simpa using hu) (by simpa using hj)
  have HGL : (splice CL 0 ([x].map bv)).length = K := by rw [splice_length' _ _ _ (by rw [HKL.out]; simp; omega), HKL.out]
  have F2 := Lib.hid hblk
  have G2 := Lib.hid HG
  have GL2 := Lib.hid HGL
  have HRUN := Lib.hid hrun
  have B2 : Hid (Below w.heap.size w W2) := B0.out.trans (grown_below hgr (Nat.le_of_eq HQ.out) B0.out.size)
  clear hrun hblk hsz hgr HG HGL F0 HR0 B0
  generalize splice CL 0 ([x].map bv) = L2 at F2 G2 GL2
  go_upto_region 18 with (first
    | (refine wpList_cpy rfl (.tmp 58) (.tmp 59) 26 26 rfl HRUN.out ?_)
    | fail)
  go_loopw [10, 11] (fun v10 v11 wr => ∃ (b : Nat) (L : List Value), 1 ≤ b ∧ b ≤ n ∧ v10 = .int .i64 (b : Int) ∧ Hid (L.length = K) ∧ Hid (∀ j, j < b → L[j]? = some (bv x)) ∧ Hid (wr.heap[q]? = some (.cells L.toArray 5 (0, 0))) ∧ Hid (Below w.heap.size w wr)) (fun v10 _ _ => n - (intOf v10).toNat)
  case atStart => exact ⟨1, L2, by omega, hn, rfl, GL2, G2, F2, B2⟩
  case round =>
    clear F2 G2 GL2 B2 HRUN hcall
    obtain ⟨b, L, hb1, hbn, rfl, LK, LX, FL, BL⟩ := hrel
    by_cases hlt : b < n
    · have q1 : (b : Int) < (n : Int) := by omega
      have q2 : ¬ ((n : Int) < (b : Int)) := by omega
      have q3 : (b : Int) ≤ (n : Int) := by omega
      obtain ⟨m, hm⟩ : ∃ m, m = min b (n - b) := ⟨_, rfl⟩
      obtain ⟨b2, hb2⟩ : ∃ b2, b2 = b + m := ⟨_, rfl⟩
      have u3 : IntKind.i64.wrap ((b : Int) + (m : Int)) = (b2 : Int) := by rw [IntKind.wrap_i64]; omega
      have sl1 := cut_from uT s8 (some ⟨q, 0, none⟩) n n .i64 (b : Int) (by omega) (by omega)
      rw [Int.toNat_natCast, show cutS (some ⟨q, 0, none⟩) n b = some ⟨q, b, none⟩ from by unfold cutS; rw [if_neg (by omega)]; simp [Addr.add]; omega] at sl1
      have sl2 := cut_to uT s8 (some ⟨q, 0, none⟩) n n .i64 (b : Int) (by omega) (by omega)
      rw [Int.toNat_natCast] at sl2
      have hml : ((List.replicate m x).map bv).length = m := by simp
      have hfit : b + ((List.replicate m x).map bv).length ≤ L.length := by rw [hml, LK.out]; omega
      have hsrc : RowAt wr.drew wr.heap.size (some ⟨q, 0, none⟩) ((List.replicate m x).map bv) := .inr ⟨q, 0, rfl, lt_of_heap FL.out, fun j u hu => by
        have hj : j < m := by have := (List.getElem?_eq_some_iff.1 hu).1; rw [hml] at this; exact this
        have hc : wr.drew.cell? ⟨q, 0 + j, none⟩ = L[0 + j]? := cell_of_heap FL.out (0 + j)
        rw [hc, Nat.zero_add, LX.out j (by omega), ← hu]; simp [hj, bv]⟩
      obtain ⟨w5, hrun, hblk, hsz, hgr⟩ := copy_run uT s8 (sT := 26) 3 wr.drew q b L 5 FL.out (some ⟨q, b, none⟩) (some ⟨q, 0, none⟩) (n - b) (n - b) b n wr.heap.size ((List.replicate m x).map bv) (by rw [hml]; exact hm) (fun _ => rfl) hsrc hfit (bv_one _)
      rw [hml] at hrun
      have F5 := Lib.hid hblk
      have L5 : Hid ((splice L b ((List.replicate m x).map bv)).length = K) := by show _ = _; rw [splice_length' _ _ _ hfit, LK.out]
      have X5 : Hid (∀ j, j < b2 → (splice L b ((List.replicate m x).map bv))[j]? = some (bv x)) := fun j hj => splice_get hfit (fun i hi => LX.out i hi) (fun u hu => by simp at hu; exact hu.2) (by rw [hml]; omega)
      have E5 : Hid (Below w.heap.size wr.drew w5) := grown_below hgr (Nat.le_of_eq HQ.out) BL.out.size
      have HRUN := Lib.hid hrun
      have hbb : Hid (b < b2 ∧ b2 ≤ n ∧ 1 ≤ b2) := by show _ ∧ _ ∧ _; omega
      generalize splice L b ((List.replicate m x).map bv) = L6 at F5 L5 X5
      clear hrun hblk hsz hgr hml hfit hsrc hm hb2
      go_upto_region 20 with (fail)
      have HX : Hid (Below w.heap.size wr wr.drew) := (Below.refl _ _).drew
      refine regB_start (w.heap.size) (by kernel_rfl) ?_
      try simp only [Act.put, List.setIfInBounds_toArray, List.set_cons_zero, List.set_cons_succ]
      refine regB_take (v := ?_) 0 (some 67) rfl rfl (by kernel_rfl) (by kernel_rfl) (by kernel_rfl) (fun _ _ _ h => h) (by rfl) (fun W hW => ?_) ?_
      rotate_left
      · (go_simp; try rfl)
      simp only [Act.put, List.setIfInBounds_toArray, List.set_cons_zero, List.set_cons_succ]
      refine regB_take (v := ?_) 1 (some 68) rfl rfl (by kernel_rfl) (by kernel_rfl) (by kernel_rfl) (fun _ _ _ h => h) (by rfl) (fun W hW => ?_) ?_
      rotate_left
      · (go_simp; try rfl)
      simp only [Act.put, List.setIfInBounds_toArray, List.set_cons_zero, List.set_cons_succ]
      refine regB_take (v := ?_) 2 (some 69) rfl rfl (by kernel_rfl) (by kernel_rfl) (by kernel_rfl) (fun _ _ _ h => h) (by rfl) (fun W hW => ?_) ?_
      rotate_left
      · (go_simp; try rfl)
      simp only [Act.put, List.setIfInBounds_toArray, List.set_cons_zero, List.set_cons_succ]
      refine regB_take (v := ?_) 3 (some 70) rfl rfl (by kernel_rfl) (by kernel_rfl) (by kernel_rfl) (fun _ _ _ h => h) (by rfl) (fun W hW => ?_) ?_
      rotate_left
      · (go_simp; try rfl)
      simp only [Act.put, List.setIfInBounds_toArray, List.set_cons_zero, List.set_cons_succ]
      refine regB_take (v := ?_) 4 (some 71) rfl rfl (by kernel_rfl) (by kernel_rfl) (by kernel_rfl) (fun _ _ _ h => h) (by rfl) (fun W hW => ?_) ?_
      rotate_left
      · (go_simp; try rfl)
      simp only [Act.put, List.setIfInBounds_toArray, List.set_cons_zero, List.set_cons_succ]
      refine regB_take (v := ?_) 5 (some 72) rfl rfl (by kernel_rfl) (by kernel_rfl) (by kernel_rfl) (fun _ _ _ h => h) (by rfl) (fun W hW => ?_) ?_
      rotate_left
      · (go_simp; try rfl)
      simp only [Act.put, List.setIfInBounds_toArray, List.set_cons_zero, List.set_cons_succ]
      refine regB_take (v := ?_) 6 (some 73) rfl rfl (by kernel_rfl) (by kernel_rfl) (by kernel_rfl) (fun _ _ _ h => h) (by rfl) (fun W hW => ?_) ?_
      rotate_left
      · (go_simp; try rfl)
      simp only [Act.put, List.setIfInBounds_toArray, List.set_cons_zero, List.set_cons_succ]
      refine regB_eff 7 rfl (by kernel_rfl) (fun K hK => ?_)
      refine step_cpy rfl (.tmp 70) (.tmp 73) 26 26 rfl HRUN.out ?_
      have hE : Below w.heap.size wr.drew w5 := E5.out
      refine hK.out _ _ hE ?_
      have HX := Lib.hid (Below.trans HX.out hE)
      clear hE hK K
      try simp only [Act.put, List.setIfInBounds_toArray, List.set_cons_zero, List.set_cons_succ]
      refine regB_take (v := ?_) 8 (some 75) rfl rfl (by kernel_rfl) (by kernel_rfl) (by kernel_rfl) (fun _ _ _ h => h) (by rfl) (fun W hW => ?_) ?_
      rotate_left
      · (go_simp; try rfl)
      simp only [Act.put, List.setIfInBounds_toArray, List.set_cons_zero, List.set_cons_succ]
      refine regB_take (v := ?_) 9 (some 10) rfl rfl (by kernel_rfl) (by kernel_rfl) (by kernel_rfl) (fun _ _ _ h => h) (by rfl) (fun W hW => ?_) ?_
      rotate_left
      · (go_simp; try rfl)
      simp only [Act.put, List.setIfInBounds_toArray, List.set_cons_zero, List.set_cons_succ]
      refine regB_done (by kernel_rfl) ?_
      go_wp2
      go_roundw
      case rel => exact ⟨b2, hbb.out.2.2, hbb.out.2.1, rfl, L6, L5, X5, F5, BL.out.trans HX.out⟩
      case measure => have := hbb.out; simp [intOf]; omega
    · have q1 : ¬ ((b : Int) < (n : Int)) := by omega
      have hbe : b = n := by omega
      have LX' : Hid (∀ j, j < n → L[j]? = some (bv x)) := by show ∀ j, _; rw [← hbe]; exact LX.out
      go_wp2
      go_ret
      refine ⟨by rw [HQ.out]; rfl, ⟨by simp, hmx, .inr ⟨q, 0, by rw [HQ.out], lt_of_heap FL.out, fun j u hu => ?_⟩⟩, BL.out⟩
      have hj : j < n := by have := (List.getElem?_eq_some_iff.1 hu).1; simpa using this
      rw [cell_of_heap FL.out, Nat.zero_add, LX'.out j hj, ← hu]; simp [hj, bv]
end Go.Proofs.Ytjmpbcfbfbjenaa
