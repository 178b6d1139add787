/- poly: least, value, step. -/
import Derived.Test.YtimgggpojbpfkaaGreatDoorPoly4
import Derived.Test.YtimgggpojbpfkaaGreatDoorSha7
import Derived.Test.YtimgggpojbpfkaaGreatDoorBits3
namespace Go.Proofs.YtimgggpojbpfkaaGreatDoor
open Go.RowKit
set_option maxRecDepth 100000
set_option linter.unusedVariables false
set_option linter.unusedSimpArgs false
/-- what x is modulo 2^130 - 5, of its lowest 128 bits -/
def leastN (x : Nat) : Nat := x + 5 * ((x + 5) / 1361129467683753853853498429727072845824)
set_option maxHeartbeats 2000000 in
theorem least_any (x : Nat) (w : World) (hx : x < 2722258935367507707706996859454145691648) :
    Calls Tryz.prog 125 #[.agg ((numL x).map uv).toArray] w fun e w' => e = .returned (.agg ((numL (leastN x)).map uv).toArray) ∧ Below w.heap.size w w' := by
  have hz : ∀ W, (zeroValue 154).run Tryz.prog W = .ok (.agg zeros3.toArray) W := fun W => by kernel_rfl
  have hlz : Hid (zeros3.length = 3) := rfl
  have B1 : Hid (∀ W, (Instr.build 154 #[(0, .int .u64 5)]).run Tryz.prog W = .ok (.agg ((numL 5).map uv).toArray) W) := fun W => by kernel_rfl
  have P1 := Lib.hid (fun W => plus_any x 5 W)
  obtain ⟨q, hq⟩ : ∃ q, q = (x + 5) / 1361129467683753853853498429727072845824 := ⟨_, rfl⟩
  obtain ⟨c, hc⟩ : ∃ c, c = (x + 5) / 340282366920938463463374607431768211456 % 18446744073709551616 := ⟨_, rfl⟩
  have hcq : (c : Int) / 4 = (q : Int) := by omega
  have e1 : ((numL (x + 5)).map uv).toArray = #[.int .u64 (((x + 5) % 18446744073709551616 : Nat) : Int), .int .u64 (((x + 5) / 18446744073709551616 % 18446744073709551616 : Nat) : Int), .int .u64 (c : Int)] := by rw [hc]; rfl
  obtain ⟨z, hzz⟩ : ∃ z, z = 5 * q := ⟨_, rfl⟩
  have hz64 : z < 18446744073709551616 := by omega
  have w5 : IntKind.u64.wrap (5 * (q : Int)) = (z : Int) := by rw [IntKind.wrap_u64]; omega
  have hnz : numL z = [z, 0, 0] := by unfold numL; rw [Nat.mod_eq_of_lt hz64, Nat.div_eq_of_lt hz64, Nat.div_eq_of_lt (Nat.lt_of_lt_of_le hz64 (by decide))]
  have B2 : Hid (∀ W, (Instr.build 154 #[(0, .int .u64 (z : Int))]).run Tryz.prog W = .ok (.agg ((numL z).map uv).toArray) W) := by rw [hnz]; intro W; kernel_rfl
  have P2 := Lib.hid (fun W => plus_any x z W)
  have hl : leastN x = x + z := by unfold leastN; rw [← hq, ← hzz]
  rw [hl]
  rw [e1] at P1
  generalize (((x + 5) % 18446744073709551616 : Nat) : Int) = s0 at P1
  generalize (((x + 5) / 18446744073709551616 % 18446744073709551616 : Nat) : Int) = s1 at P1
  have LX : Hid ((numL x).length = 3) := rfl
  have LS : Hid ((numL (x + z)).length = 3) := rfl
  generalize numL (x + z) = NS at P2 LS ⊢
  generalize numL z = NZ at P2 B2
  generalize numL 5 = N5 at P1 B1
  generalize numL x = NX at P1 P2 LX ⊢
  generalize zeros3 = Z3 at hz hlz
  clear hq hc e1 hzz hz64 hnz hl hx
  have hix : ∀ W, (Instr.index 154 (.agg #[.int .u64 s0, .int .u64 s1, .int .u64 (c : Int)]) (.int .i64 2)).run Tryz.prog W = .ok (.int .u64 (c : Int)) W := fun W => by kernel_rfl
  have G0 := Lib.hid (heap2p w (.cells (NX.map uv).toArray 154) (.cells Z3.toArray 154))
  go_enter Tryz.func125, Tryz.ntmps125
  go_upto_region 1 with (fail)
  generalize hV : (w.alloc _).alloc _ = W0 at G0 ⊢
  clear hV
  go_wp2_with (first
    | (refine wpList_ld rfl 154 (.tmp 1) rfl (load_arr arr3 rfl (i3l NX LX.out) G0.out.1) ?_)
    | (refine wpList_run (o := ⟨some 5, _, _, _, _, _⟩) rfl (v := .agg (N5.map uv).toArray) (w' := W0) (exec_bld rfl (by simp only [List.map_toArray, List.map_cons, List.map_nil]; exact B1.out W0)) ?_))
  refine (P1.out W0).mono ?_
  rintro e w1 ⟨rfl, hb⟩
  have FB : Hid (Below w.heap.size w w1) := G0.out.2.2.trans (hb.mono G0.out.2.2.size)
  have N0 := Lib.hid ((hb.block _ (lt_of_heap G0.out.1)).trans G0.out.1)
  have N1 := Lib.hid ((hb.block _ (lt_of_heap G0.out.2.1)).trans G0.out.2.1)
  clear hb G0 P1 B1
  go_wp2_with (first
    | (refine wpList_ld rfl 154 (.tmp 1) rfl (load_arr arr3 rfl (i3l NX LX.out) N0.out) ?_)
    | (refine wpList_run (o := ⟨some 12, _, _, _, _, _⟩) rfl (v := .agg (NZ.map uv).toArray) (w' := w1) (exec_bld rfl (by simp only [List.map_toArray, List.map_cons, List.map_nil]; exact B2.out w1)) ?_))
  refine (P2.out w1).mono ?_
  rintro e w2 ⟨rfl, hb⟩
  have FB2 : Hid (Below w.heap.size w w2) := FB.out.trans (hb.mono FB.out.size)
  have N2 := Lib.hid ((hb.block _ (lt_of_heap N1.out)).trans N1.out)
  clear hb N0 N1 P2 B2 FB
  go_wp2_with (first
    | (refine wpList_st rfl 154 (.tmp 2) (.tmp 13) rfl (store_arr (cs := NS.map uv) (i3l NS LS.out) (uv_one _) N2.out (by rw [List.length_map, LS.out]; exact hlz.out)) ?_))
  have hres := setRow_heap w2 (w.heap.size + 1) _ (NS.map uv).toArray 154 _ N2.out
  exact bodyPost_ret (results_cell_row (P := Tryz.prog) rfl _ _ (w.heap.size + 1) 154 (NS.map uv).toArray (0, 0) _ rfl hres arr3 rfl (by rw [List.size_toArray]; exact i3l NS LS.out)) rfl ⟨rfl, FB2.out.trans (grown_below (grown_setRow _ _ _) (by omega) FB2.out.size)⟩
theorem littleN_append (a b : List UInt8) : littleN (a ++ b) = littleN a + 256 ^ a.length * littleN b := by
  unfold littleN
  rw [List.reverse_append, bigN_append, List.length_reverse, Nat.mul_comm, Nat.add_comm]
theorem value_math (bs : List UInt8) (h1 : 16 ≤ bs.length) (h2 : bs.length ≤ 24) : numL (littleN bs) = [littleN ((bs.take 8).take 8), littleN (((bs.drop 8).take 8).take 8), littleN ((bs.drop 16).take 8)] := by
  have e : bs = bs.take 8 ++ ((bs.drop 8).take 8 ++ bs.drop 16) := by
    have h1 := List.take_append_drop 8 bs
    have h2 := List.take_append_drop 8 (bs.drop 8)
    rw [List.drop_drop] at h2
    rw [h2, h1]
  have p8 : (256 : Nat) ^ 8 = 18446744073709551616 := by decide
  have la : (bs.take 8).length = 8 := by rw [List.length_take]; omega
  have lb : ((bs.drop 8).take 8).length = 8 := by rw [List.length_take, List.length_drop]; omega
  have lc : (bs.drop 16).length ≤ 8 := by rw [List.length_drop]; omega
  have ha := littleN_lt (bs.take 8)
  have hb := littleN_lt ((bs.drop 8).take 8)
  have hc := littleN_lt (bs.drop 16)
  have hc' : littleN (bs.drop 16) < 256 ^ 8 := Nat.lt_of_lt_of_le hc (Nat.pow_le_pow_right (by decide) lc)
  rw [List.take_of_length_le (l := bs.take 8) (by omega), List.take_of_length_le (l := (bs.drop 8).take 8) (by omega), List.take_of_length_le (l := bs.drop 16) lc]
  have hv : littleN bs = littleN (bs.take 8) + 18446744073709551616 * littleN ((bs.drop 8).take 8) + 340282366920938463463374607431768211456 * littleN (bs.drop 16) := by
    conv => lhs; rw [e]
    rw [littleN_append, littleN_append, la, lb, p8, Nat.mul_add, ← Nat.mul_assoc]
    omega
  rw [la, p8] at ha
  rw [lb, p8] at hb
  rw [p8] at hc'
  generalize littleN (bs.take 8) = a at *
  generalize littleN ((bs.drop 8).take 8) = b at *
  generalize littleN (bs.drop 16) = c at *
  rw [hv]
  clear hc
  unfold numL
  have q0 : (a + 18446744073709551616 * b + 340282366920938463463374607431768211456 * c) % 18446744073709551616 = a := by omega
  have q1 : (a + 18446744073709551616 * b + 340282366920938463463374607431768211456 * c) / 18446744073709551616 % 18446744073709551616 = b := by omega
  have q2 : (a + 18446744073709551616 * b + 340282366920938463463374607431768211456 * c) / 340282366920938463463374607431768211456 % 18446744073709551616 = c := by omega
  rw [q0, q1, q2]
theorem sl_take' {w : World} {A : Option Addr} {c q : Nat} {b : List UInt8} (h : Sl w A c b) : Sl w A c (b.take q) := by
  have := h.2.2.take q
  rw [← List.map_take] at this
  exact ⟨by have := h.1; rw [List.length_take]; omega, h.2.1, this⟩
theorem sl_drop' {w : World} {A : Option Addr} {c k : Nat} {l : List UInt8} (h : Sl w A c l) (hk : k ≤ l.length) : Sl w (cutS A c k) (c - k) (l.drop k) := by
  have h1 := h.1
  have h2 := h.2.1
  refine ⟨by rw [List.length_drop]; omega, by omega, ?_⟩
  have := h.2.2.cut (c := c) (l := k) (by simpa using hk) (by simpa using h1)
  rwa [← List.map_drop] at this
theorem little_s (A : Option Addr) (n c : Nat) (bs : List UInt8) (W : World) (hl : bs.length = n) (h : Sl W A c bs) :
    Calls Tryz.prog 134 #[.slice A n c] W fun e w' => e = .returned (.int .u64 (littleN (bs.take 8) : Int)) ∧ Below W.heap.size W w' :=
  little_n A n c bs W hl (by have := h.1; omega) h.2.1 h.2.2
set_option maxHeartbeats 2000000 in
theorem value_any (A : Option Addr) (n c : Nat) (bs : List UInt8) (w : World) (hl : bs.length = n) (h1 : 16 ≤ n) (h2 : n ≤ 17) (hs : Sl w A c bs) :
    Calls Tryz.prog 120 #[.slice A n c] w fun e w' => e = .returned (.agg ((numL (littleN bs)).map uv).toArray) ∧ Below w.heap.size w w' := by
  have hz : ∀ W, (zeroValue 154).run Tryz.prog W = .ok (.agg zeros3.toArray) W := fun W => by kernel_rfl
  have hlz : Hid (zeros3.length = 3) := rfl
  have hnc : n ≤ c := by have := hs.1; omega
  have VM := value_math bs (by omega) (by omega)
  have C1 := Lib.hid (fun W (h : Sl W A c bs) => little_s A 8 c (bs.take 8) W (by rw [List.length_take]; omega) (sl_take' h))
  have C2 := Lib.hid (fun W (h : Sl W A c bs) => little_s (cutS A c 8) 8 (c - 8) ((bs.drop 8).take 8) W (by rw [List.length_take, List.length_drop]; omega) (sl_take' (sl_drop' h (by omega))))
  have C3 := Lib.hid (fun W (h : Sl W A c bs) => little_s (cutS A c 16) (n - 16) (c - 16) (bs.drop 16) W (by rw [List.length_drop]; omega) (sl_drop' h (by omega)))
  generalize littleN ((bs.take 8).take 8) = v0 at VM C1
  generalize littleN (((bs.drop 8).take 8).take 8) = v1 at VM C2
  generalize littleN ((bs.drop 16).take 8) = v2 at VM C3
  have B1 : Hid (∀ W, (Instr.build 154 #[(0, .int .u64 (v0 : Int)), (1, .int .u64 (v1 : Int)), (2, .int .u64 (v2 : Int))]).run Tryz.prog W = .ok (.agg ((numL (littleN bs)).map uv).toArray) W) := by rw [VM]; intro W; kernel_rfl
  have LS : Hid ((numL (littleN bs)).length = 3) := rfl
  generalize numL (littleN bs) = NS at B1 LS ⊢
  generalize zeros3 = Z3 at hz hlz
  have sl1 := cut_to uT s8 A n c .i64 8 (by omega) (by omega)
  have sl2 := cut_mid uT s8 A n c .i64 .i64 8 16 (by omega) (by omega) (by omega)
  have sl3 := cut_from uT s8 A n c .i64 16 (by omega) (by omega)
  rw [show (8 : Int).toNat = 8 from rfl] at sl1 sl2
  rw [show (16 : Int).toNat = 16 from rfl] at sl2 sl3
  rw [show 16 - 8 = 8 from rfl] at sl2
  have HS := Lib.hid hs
  clear hs VM hl h1 h2 hnc
  have N0 := Lib.hid (heap_alloc_new' w (.cells Z3.toArray 154))
  have FB : Hid (Below w.heap.size w (w.alloc (.cells Z3.toArray 154))) := (Below.refl _ _).alloc (Nat.le_refl _) _
  go_enter Tryz.func120, Tryz.ntmps120
  go_wp2_with fail
  generalize hV : w.alloc _ = W0 at N0 FB ⊢
  clear hV
  have HX : Hid (Grow w.heap.size W0 W0.drew) := Grow.drew _ _
  have S0 : Hid (Sl W0.drew A c bs) := HS.out.below FB.out.drew
  refine regS_start (Grow w.heap.size) (by kernel_rfl) ?_
  try simp only [Act.put, List.setIfInBounds_toArray, List.set_cons_zero, List.set_cons_succ]
  refine regS_take (v := ?_) 0 (some 3) rfl rfl (by kernel_rfl) (by kernel_rfl) (by kernel_rfl) (fun _ _ _ h => h) (by rfl) (fun W hW => ?_) ?_
  rotate_left
  · (go_simp; try rfl)
  simp only [Act.put, List.setIfInBounds_toArray, List.set_cons_zero, List.set_cons_succ]
  refine regS_take (v := ?_) 1 (some 4) rfl rfl (by kernel_rfl) (by kernel_rfl) (by kernel_rfl) (fun _ _ _ h => h) (by rfl) (fun W hW => ?_) ?_
  rotate_left
  · (go_simp; try rfl)
  simp only [Act.put, List.setIfInBounds_toArray, List.set_cons_zero, List.set_cons_succ]
  refine regS_take (v := ?_) 3 (some 6) rfl rfl (by kernel_rfl) (by kernel_rfl) (by kernel_rfl) (fun _ _ _ h => h) (by rfl) (fun W hW => ?_) ?_
  rotate_left
  · (go_simp; try rfl)
  simp only [Act.put, List.setIfInBounds_toArray, List.set_cons_zero, List.set_cons_succ]
  refine regS_take (v := ?_) 4 (some 7) rfl rfl (by kernel_rfl) (by kernel_rfl) (by kernel_rfl) (fun _ _ _ h => h) (by rfl) (fun W hW => ?_) ?_
  rotate_left
  · (go_simp; try rfl)
  simp only [Act.put, List.setIfInBounds_toArray, List.set_cons_zero, List.set_cons_succ]
  refine regS_take (v := ?_) 6 (some 9) rfl rfl (by kernel_rfl) (by kernel_rfl) (by kernel_rfl) (fun _ _ _ h => h) (by rfl) (fun W hW => ?_) ?_
  rotate_left
  · (go_simp; try rfl)
  simp only [Act.put, List.setIfInBounds_toArray, List.set_cons_zero, List.set_cons_succ]
  refine regS_take (v := ?_) 7 (some 10) rfl rfl (by kernel_rfl) (by kernel_rfl) (by kernel_rfl) (fun _ _ _ h => h) (by rfl) (fun W hW => ?_) ?_
  rotate_left
  · (go_simp; try rfl)
  simp only [Act.put, List.setIfInBounds_toArray, List.set_cons_zero, List.set_cons_succ]
  refine regS_eff 2 rfl (by kernel_rfl) (fun K hK => ?_)
  go_simp
  refine (C1.out _ S0.out).mono ?_
  rintro e w1 ⟨rfl, hb⟩
  have N1 := Lib.hid ((hb.block _ (lt_of_heap (w := W0.drew) N0.out)).trans N0.out)
  have S1 := Lib.hid (S0.out.below hb)
  have hE := Grow.of_ext (g := w.heap.size) hb
  clear hb
  refine hK.out _ _ hE ?_
  have HX := Lib.hid (Pre.trans HX.out hE)
  clear hE hK K
  try simp only [Act.put, List.setIfInBounds_toArray, List.set_cons_zero, List.set_cons_succ]
  refine regS_eff 5 rfl (by kernel_rfl) (fun K hK => ?_)
  go_simp
  refine (C2.out _ S1.out).mono ?_
  rintro e w2 ⟨rfl, hb⟩
  have N2 := Lib.hid ((hb.block _ (lt_of_heap N1.out)).trans N1.out)
  have S2 := Lib.hid (S1.out.below hb)
  have hE := Grow.of_ext (g := w.heap.size) hb
  clear hb
  refine hK.out _ _ hE ?_
  have HX := Lib.hid (Pre.trans HX.out hE)
  clear hE hK K
  try simp only [Act.put, List.setIfInBounds_toArray, List.set_cons_zero, List.set_cons_succ]
  refine regS_eff 8 rfl (by kernel_rfl) (fun K hK => ?_)
  go_simp
  refine (C3.out _ S2.out).mono ?_
  rintro e w3 ⟨rfl, hb⟩
  have N3 := Lib.hid ((hb.block _ (lt_of_heap N2.out)).trans N2.out)
  have hE := Grow.of_ext (g := w.heap.size) hb
  clear hb
  refine hK.out _ _ hE ?_
  have HX := Lib.hid (Pre.trans HX.out hE)
  clear hE hK K
  try simp only [Act.put, List.setIfInBounds_toArray, List.set_cons_zero, List.set_cons_succ]
  refine regS_take (v := ?_) 9 (some 12) rfl rfl (by kernel_rfl) (by kernel_rfl) (by kernel_rfl) (fun _ _ _ h => h) (by rfl) (fun W hW => ?_) ?_
  rotate_left
  · exact exec_bld rfl (by simp only [List.map_toArray, List.map_cons, List.map_nil]; exact B1.out W)
  simp only [Act.put, List.setIfInBounds_toArray, List.set_cons_zero, List.set_cons_succ]
  refine regS_eff 10 rfl (by kernel_rfl) (fun K hK => ?_)
  refine step_st1 rfl 154 (.tmp 2) (.tmp 12) rfl (store_arr (cs := NS.map uv) (i3l NS LS.out) (uv_one _) N3.out (by rw [List.length_map, LS.out]; exact hlz.out)) ?_
  generalize hV : World.setRow _ _ _ = W5
  have hres := Lib.hid (heap_of_setRow hV N3.out)
  have hE : Grow w.heap.size w3 W5 := by rw [← hV]; exact Grow.setRow _ _ _
  clear hV
  refine hK.out _ _ hE ?_
  have HX := Lib.hid (Pre.trans HX.out hE)
  clear hE hK K
  try simp only [Act.put, List.setIfInBounds_toArray, List.set_cons_zero, List.set_cons_succ]
  refine regS_done (by kernel_rfl) ?_
  go_wp2
  exact bodyPost_ret (results_cell_row (P := Tryz.prog) rfl _ _ w.heap.size 154 (NS.map uv).toArray (0, 0) _ rfl hres.out arr3 rfl (by rw [List.size_toArray]; exact i3l NS LS.out)) rfl ⟨rfl, FB.out.trans (HX.out.below (Nat.le_refl _) FB.out.size)⟩
end Go.Proofs.YtimgggpojbpfkaaGreatDoor
