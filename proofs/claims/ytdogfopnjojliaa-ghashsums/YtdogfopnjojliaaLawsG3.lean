/- The walk of the law GhashPowers. -/
import Derived.Test.YtdogfopnjojliaaGha3
namespace Go.Proofs.Ytdogfopnjojliaa
open Go.RowKit
set_option linter.unusedVariables false
set_option linter.unusedSimpArgs false
def powB (n : Nat) : List UInt8 := (List.replicate 16 (0 : UInt8)).set (n / 8) (UInt8.ofNat (128 / 2 ^ (n % 8)))
theorem powB_eq (n : Nat) (h : n < 128) : powB n = blkL (pw n) := by
  have : ∀ n : Fin 128, powB n.1 = blkL (pw n.1) := by decide +kernel
  exact this ⟨n, h⟩
theorem shr128 (k : Nat) (hk : k < 8) : (128 : Int) / 2 ^ k = ((UInt8.ofNat (128 / 2 ^ k)).toNat : Int) := by
  have : ∀ k : Fin 8, (128 : Int) / 2 ^ k.1 = ((UInt8.ofNat (128 / 2 ^ k.1)).toNat : Int) := by decide +kernel
  exact this ⟨k, hk⟩
set_option maxHeartbeats 2000000 in
theorem power_any (n : Nat) (w : World) (hn : n < 128) : Calls Try.prog 20 #[.int .i64 (n : Int)] w fun e w' => e = .returned (.agg ((blkL (pw n)).map bv).toArray) ∧ Below w.heap.size w w' := by
  rw [← powB_eq n hn]
  have hz16 : ∀ W, (zeroValue 22).run Try.prog W = .ok (.agg ((List.replicate 16 (0 : UInt8)).map bv).toArray) W := fun W => by kernel_rfl
  have HP : Hid (powB n = (List.replicate 16 (0 : UInt8)).set (n / 8) (UInt8.ofNat (128 / 2 ^ (n % 8)))) := rfl
  have u1 := shr128 (n % 8) (by omega)
  have d1 : (n : Int) / 8 = ((n / 8 : Nat) : Int) := by omega
  have d2 : (n : Int) % 8 = ((n % 8 : Nat) : Int) := by omega
  have hj : n / 8 < 16 := by omega
  have hk8 : n % 8 < 8 := by omega
  generalize powB n = R at HP ⊢
  generalize UInt8.ofNat (128 / 2 ^ (n % 8)) = x at HP u1
  generalize n / 8 = j at HP d1 hj
  generalize n % 8 = k at u1 d2 hk8
  have hj' : (j : Int) < 16 := by omega
  obtain ⟨O, HO⟩ : ∃ O, Hid (List.replicate 16 (0 : UInt8) = O) := ⟨_, rfl⟩
  have hO : O.length = 16 := by rw [← HO.out]; rfl
  rw [HO.out] at hz16 HP
  have LR : Hid (R.length = 16) := by show _ = _; rw [HP.out, List.length_set, hO]
  have HOL := Lib.hid hO
  clear HO hO hn
  obtain ⟨q, HQ⟩ : ∃ q, Hid (w.heap.size = q) := ⟨_, rfl⟩
  have G := Lib.hid (heap2p w (.cells (O.map bv).toArray 22) (.cells (O.map bv).toArray 22))
  go_enter Try.func20, Try.ntmps20
  go_upto_region 2 with (fail)
  generalize hV : (w.alloc _).alloc _ = W0 at G ⊢
  clear hV
  rw [HQ.out] at G ⊢
  have c0 : ∃ v, W0.cell? ⟨q + 1, j, none⟩ = some v := by
    rw [cell_of_heap G.out.2.1, List.getElem?_map]
    simp [HOL.out, hj]
  obtain ⟨v0, c0⟩ := c0
  have fz := frozen_of_heap G.out.2.1 j
  go_upto_region 3 with (fail)
  generalize hV : World.setCell _ _ _ = W1
  have m1 : W1.heap[q + 1]? = some (.cells (R.map bv).toArray 22 (0, 0)) := by
    have := heap_set G.out.2.1 j (bv x)
    rw [← List.map_set, ← HP.out] at this
    rw [← hV]; exact this
  have m0 : W1.heap[q]? = some (.cells (O.map bv).toArray 22 (0, 0)) := by
    rw [← hV]; exact (Below.heap_setCell W0 _ _ _ (show q ≠ q + 1 by omega)).trans G.out.1
  have mb : Below q w W1 := by rw [← hV]; exact G.out.2.2.setCell (show q ≤ q + 1 by omega) _
  have M1 := Lib.hid m1; have M0 := Lib.hid m0; have MB := Lib.hid mb
  clear m1 m0 mb hV c0 fz G u1 d1 d2
  go_wp2_with (first
    | (refine wpList_ld rfl 22 (.tmp 3) rfl (load_arr arr16B rfl (i16l R LR.out) M1.out) ?_)
    | (refine wpList_st rfl 22 (.tmp 2) (.tmp 10) rfl (store_arr (cs := R.map bv) (i16l R LR.out) (bv_one _) M0.out (by rw [List.length_map, List.length_map, LR.out, HOL.out])) ?_
       generalize hV : World.setRow _ _ _ = W4
       have hres := heap_of_setRow hV M0.out
       have JB := Lib.hid (MB.out.trans (below_of_setRow hV (by omega) (by rw [← HQ.out]; exact MB.out.size)))
       clear hV))
  exact bodyPost_ret (results_cell_row (P := Try.prog) rfl _ _ q 22 (R.map bv).toArray (0, 0) _ rfl hres arr16B rfl (by rw [List.size_toArray]; exact i16l R LR.out)) rfl ⟨rfl, by rw [HQ.out]; exact JB.out⟩
theorem gmul_pow (n m : Nat) : gmulL (blkL (pw n)) (blkL (pw m)) = blkL (pw (n + m)) := by
  rw [gmulL, bigN_blk _ (pw_lt n), bigN_blk _ (pw_lt m), pw_mul]
set_option maxHeartbeats 4000000 in
theorem ghashPowers_walk (w : World) (a b : UInt8) :
    Calls Try.prog 9 #[.int .u8 (a.toNat : Int), .int .u8 (b.toNat : Int)] w fun e w' => e = .returned (.bool true) ∧ Below w.heap.size w w' := by
  have ha := a.toNat_lt; have hb := b.toNat_lt
  obtain ⟨n, hn⟩ : ∃ n, n = a.toNat % 128 := ⟨_, rfl⟩
  obtain ⟨m, hm⟩ : ∃ m, m = b.toNat % 128 := ⟨_, rfl⟩
  have d1 : (a.toNat : Int) % 128 = (n : Int) := by omega
  have d2 : (b.toNat : Int) % 128 = (m : Int) := by omega
  have hn' : n < 128 := by omega
  have hm' : m < 128 := by omega
  generalize a.toNat = a at *
  generalize b.toNat = b at *
  obtain ⟨s, hs⟩ : ∃ s, n + m = s := ⟨_, rfl⟩
  have d3 : (n : Int) + (m : Int) = (s : Int) := by omega
  have hL : ∀ k, (blkL (pw k)).length = 16 := fun k => blkL_len _
  have q := eql_bytes (P := Try.prog) arr16B Try.underlying5 s8 (blkL (pw s)) (blkL (pw s)) (hL _) (hL _)
  rw [decide_eq_true rfl] at q
  have pn := Lib.hid (fun W => power_any n W hn')
  have pm := Lib.hid (fun W => power_any m W hm')
  have g1 := Lib.hid (fun W => gmul_any (blkL (pw n)) (blkL (pw m)) W (hL _) (hL _))
  rw [gmul_pow, hs] at g1
  by_cases h : s > 127
  · obtain ⟨u, hu⟩ : ∃ u, u = 127 - n := ⟨_, rfl⟩
    obtain ⟨v, hv⟩ : ∃ v, v = s - 127 := ⟨_, rfl⟩
    have d4 : 127 - (n : Int) = (u : Int) := by omega
    have d5 : (s : Int) - 127 = (v : Int) := by omega
    have pu := Lib.hid (fun W => power_any u W (by omega))
    have pv := Lib.hid (fun W => power_any v W (by omega))
    have g2 := Lib.hid (fun W => gmul_any (blkL (pw n)) (blkL (pw u)) W (hL _) (hL _))
    rw [gmul_pow] at g2
    have g3 := Lib.hid (fun W => gmul_any (blkL (pw (n + u))) (blkL (pw v)) W (hL _) (hL _))
    rw [gmul_pow, show n + u + v = s by omega] at g3
    have q0 : (127 : Int) < (s : Int) := by omega
    clear hn hm hs hu hv h
    generalize blkL (pw s) = S at q g1 g3
    generalize blkL (pw (n + u)) = T at g2 g3
    generalize blkL (pw n) = N at pn g1 g2
    generalize blkL (pw m) = M at pm g1
    generalize blkL (pw u) = U at pu g2
    generalize blkL (pw v) = V at pv g3
    go_enter Try.func9, Try.ntmps9
    go_wp2_with fail
    refine (pn.out _).mono ?_
    rintro e w1 ⟨rfl, hb1⟩
    have B1 := Lib.hid hb1
    clear hb1
    go_wp2_with fail
    refine (pm.out _).mono ?_
    rintro e w2 ⟨rfl, hb2⟩
    have B2 := Lib.hid (B1.out.step hb2)
    clear hb2 B1
    go_wp2_with fail
    refine (g1.out _).mono ?_
    rintro e w3 ⟨rfl, hb3⟩
    have B3 := Lib.hid (B2.out.step hb3)
    clear hb3 B2
    go_wp2_with fail
    refine (pn.out _).mono ?_
    rintro e w4 ⟨rfl, hb4⟩
    have B4 := Lib.hid (B3.out.step hb4)
    clear hb4 B3
    go_wp2_with fail
    refine (pu.out _).mono ?_
    rintro e w5 ⟨rfl, hb5⟩
    have B5 := Lib.hid (B4.out.step hb5)
    clear hb5 B4
    go_wp2_with fail
    refine (g2.out _).mono ?_
    rintro e w6 ⟨rfl, hb6⟩
    have B6 := Lib.hid (B5.out.step hb6)
    clear hb6 B5
    go_wp2_with fail
    refine (pv.out _).mono ?_
    rintro e w7 ⟨rfl, hb7⟩
    have B7 := Lib.hid (B6.out.step hb7)
    clear hb7 B6
    go_wp2_with fail
    refine (g3.out _).mono ?_
    rintro e w8 ⟨rfl, hb8⟩
    have B8 := Lib.hid (B7.out.step hb8)
    clear hb8 B7
    go_wp2_with fail
    refine (gawake_any _).mono ?_
    rintro e w9 ⟨rfl, hb9⟩
    have B9 := Lib.hid (B8.out.step hb9)
    clear hb9 B8
    go_wp2
    go_ret
    exact ⟨rfl, B9.out⟩
  · have ps := Lib.hid (fun W => power_any s W (by omega))
    have q0 : ¬ ((127 : Int) < (s : Int)) := by omega
    clear hn hm hs h
    generalize blkL (pw s) = S at q g1 ps
    generalize blkL (pw n) = N at pn g1
    generalize blkL (pw m) = M at pm g1
    go_enter Try.func9, Try.ntmps9
    go_wp2_with fail
    refine (pn.out _).mono ?_
    rintro e w1 ⟨rfl, hb1⟩
    have B1 := Lib.hid hb1
    clear hb1
    go_wp2_with fail
    refine (pm.out _).mono ?_
    rintro e w2 ⟨rfl, hb2⟩
    have B2 := Lib.hid (B1.out.step hb2)
    clear hb2 B1
    go_wp2_with fail
    refine (g1.out _).mono ?_
    rintro e w3 ⟨rfl, hb3⟩
    have B3 := Lib.hid (B2.out.step hb3)
    clear hb3 B2
    go_wp2_with fail
    refine (ps.out _).mono ?_
    rintro e w4 ⟨rfl, hb4⟩
    have B4 := Lib.hid (B3.out.step hb4)
    clear hb4 B3
    go_wp2_with fail
    refine (gawake_any _).mono ?_
    rintro e w5 ⟨rfl, hb5⟩
    have B5 := Lib.hid (B4.out.step hb5)
    clear hb5 B4
    go_wp2
    go_ret
    exact ⟨rfl, B5.out⟩
end Go.Proofs.Ytdogfopnjojliaa
