/- Numbers of three words: times. -/
import Derived.Test.YtimgggpojbpfkaaGreatDoorPoly3
namespace Go.Proofs.YtimgggpojbpfkaaGreatDoor
open Go.RowKit
set_option maxRecDepth 100000
set_option linter.unusedVariables false
set_option linter.unusedSimpArgs false
def tval (X R L : List Nat) (i j : Nat) : Nat := L.getD (i + j) 0 + X.getD j 0 * R.getD i 0 + L.getD (i + 3) 0
def tstep (X R L : List Nat) (i j : Nat) : List Nat := (L.set (i + j) (tval X R L i j % 18446744073709551616)).set (i + 3) (tval X R L i j / 18446744073709551616)
def outK (X R : List Nat) : Nat → List Nat
  | 0 => [0, 0, 0, 0, 0]
  | k + 1 => tstep X R (outK X R k) (k / 3) (k % 3)
theorem outK_len (X R : List Nat) (k : Nat) : (outK X R k).length = 5 := by
  induction k with
  | zero => rfl
  | succ k ih => simp [outK, tstep, ih]
theorem set_lt (L : List Nat) (i v B : Nat) (hv : v < B) (h : ∀ m, L.getD m 0 < B) : ∀ m, (L.set i v).getD m 0 < B := by
  intro m
  have := h m
  simp only [List.getD, List.getElem?_set] at this ⊢
  split
  · split <;> simp <;> omega
  · exact this
theorem outK_lt (X R : List Nat) (hX : ∀ m, X.getD m 0 < 18446744073709551616) (hR : ∀ m, R.getD m 0 < 18446744073709551616) (k : Nat) : ∀ m, (outK X R k).getD m 0 < 18446744073709551616 := by
  induction k with
  | zero =>
    intro m
    match m with
    | 0 => show (0 : Nat) < _; decide
    | 1 => show (0 : Nat) < _; decide
    | 2 => show (0 : Nat) < _; decide
    | 3 => show (0 : Nat) < _; decide
    | 4 => show (0 : Nat) < _; decide
    | m + 5 => simp [outK]
  | succ k ih =>
    have ht := onto_math _ _ _ _ (ih (k / 3 + k % 3)) (ih (k / 3 + 3)) (hX (k % 3)) (hR (k / 3))
    have hv : tval X R (outK X R k) (k / 3) (k % 3) < 340282366920938463463374607431768211456 := ht
    exact set_lt _ _ _ _ (by omega) (set_lt _ _ _ _ (by omega) ih)
theorem numL_lt (n : Nat) : ∀ m, (numL n).getD m 0 < 18446744073709551616 := by
  intro m
  match m with
  | 0 => exact Nat.mod_lt _ (by decide)
  | 1 => exact Nat.mod_lt _ (by decide)
  | 2 => exact Nat.mod_lt _ (by decide)
  | m + 3 => simp [numL]
theorem out_six (x0 x1 x2 r0 r1 r2 : Nat) : ∃ a b c d e, outK [x0, x1, x2] [r0, r1, r2] 6 = [a, b, c, d, e] ∧ a < 18446744073709551616 ∧ b < 18446744073709551616 ∧ c < 18446744073709551616 ∧ d < 18446744073709551616 ∧
    a + 18446744073709551616 * b + 340282366920938463463374607431768211456 * c + 6277101735386680763835789423207666416102355444464034512896 * d + 115792089237316195423570985008687907853269984665640564039457584007913129639936 * e =
      x0 * r0 + 18446744073709551616 * (x1 * r0 + x0 * r1) + 340282366920938463463374607431768211456 * (x2 * r0 + x1 * r1) + 6277101735386680763835789423207666416102355444464034512896 * (x2 * r1) := by
  have s0 : outK [x0, x1, x2] [r0, r1, r2] 0 = [0, 0, 0, 0, 0] := rfl
  obtain ⟨t1, h1⟩ : ∃ t, t = 0 + x0 * r0 + 0 := ⟨_, rfl⟩
  have s1 : outK [x0, x1, x2] [r0, r1, r2] 1 = [t1 % 18446744073709551616, 0, 0, t1 / 18446744073709551616, 0] := by rw [outK, s0, h1]; rfl
  obtain ⟨t2, h2⟩ : ∃ t, t = 0 + x1 * r0 + t1 / 18446744073709551616 := ⟨_, rfl⟩
  have s2 : outK [x0, x1, x2] [r0, r1, r2] 2 = [t1 % 18446744073709551616, t2 % 18446744073709551616, 0, t2 / 18446744073709551616, 0] := by rw [outK, s1, h2]; rfl
  obtain ⟨t3, h3⟩ : ∃ t, t = 0 + x2 * r0 + t2 / 18446744073709551616 := ⟨_, rfl⟩
  have s3 : outK [x0, x1, x2] [r0, r1, r2] 3 = [t1 % 18446744073709551616, t2 % 18446744073709551616, t3 % 18446744073709551616, t3 / 18446744073709551616, 0] := by rw [outK, s2, h3]; rfl
  obtain ⟨t4, h4⟩ : ∃ t, t = t2 % 18446744073709551616 + x0 * r1 + 0 := ⟨_, rfl⟩
  have s4 : outK [x0, x1, x2] [r0, r1, r2] 4 = [t1 % 18446744073709551616, t4 % 18446744073709551616, t3 % 18446744073709551616, t3 / 18446744073709551616, t4 / 18446744073709551616] := by rw [outK, s3, h4]; rfl
  obtain ⟨t5, h5⟩ : ∃ t, t = t3 % 18446744073709551616 + x1 * r1 + t4 / 18446744073709551616 := ⟨_, rfl⟩
  have s5 : outK [x0, x1, x2] [r0, r1, r2] 5 = [t1 % 18446744073709551616, t4 % 18446744073709551616, t5 % 18446744073709551616, t3 / 18446744073709551616, t5 / 18446744073709551616] := by rw [outK, s4, h5]; rfl
  obtain ⟨t6, h6⟩ : ∃ t, t = t3 / 18446744073709551616 + x2 * r1 + t5 / 18446744073709551616 := ⟨_, rfl⟩
  have s6 : outK [x0, x1, x2] [r0, r1, r2] 6 = [t1 % 18446744073709551616, t4 % 18446744073709551616, t5 % 18446744073709551616, t6 % 18446744073709551616, t6 / 18446744073709551616] := by rw [outK, s5, h6]; rfl
  refine ⟨_, _, _, _, _, s6, Nat.mod_lt _ (by decide), Nat.mod_lt _ (by decide), Nat.mod_lt _ (by decide), Nat.mod_lt _ (by decide), ?_⟩
  clear s0 s1 s2 s3 s4 s5 s6
  generalize x0 * r0 = p00 at *
  generalize x1 * r0 = p10 at *
  generalize x2 * r0 = p20 at *
  generalize x0 * r1 = p01 at *
  generalize x1 * r1 = p11 at *
  generalize x2 * r1 = p21 at *
  omega
theorem words5 (n a b c d e : Nat) (ha : a < 18446744073709551616) (hb : b < 18446744073709551616) (hc : c < 18446744073709551616) (hd : d < 18446744073709551616) (he : e < 18446744073709551616)
    (h : a + 18446744073709551616 * b + 340282366920938463463374607431768211456 * c + 6277101735386680763835789423207666416102355444464034512896 * d + 115792089237316195423570985008687907853269984665640564039457584007913129639936 * e = n) : [a, b, c, d, e] = numL5 n := by
  unfold numL5
  have h0 : a = n % 18446744073709551616 := by omega
  have h1 : b = n / 18446744073709551616 % 18446744073709551616 := by omega
  have h2 : c = n / 340282366920938463463374607431768211456 % 18446744073709551616 := by omega
  have h3 : d = n / 6277101735386680763835789423207666416102355444464034512896 % 18446744073709551616 := by omega
  have h4 : e = n / 115792089237316195423570985008687907853269984665640564039457584007913129639936 % 18446744073709551616 := by omega
  rw [← h0, ← h1, ← h2, ← h3, ← h4]
theorem out_math (x r : Nat) (hx : x < 6277101735386680763835789423207666416102355444464034512896) (hr : r < 340282366920938463463374607431768211456) : outK (numL x) (numL r) 6 = numL5 (x * r) := by
  obtain ⟨x0, h0⟩ : ∃ a, a = x % 18446744073709551616 := ⟨_, rfl⟩
  obtain ⟨x1, h1⟩ : ∃ a, a = x / 18446744073709551616 % 18446744073709551616 := ⟨_, rfl⟩
  obtain ⟨x2, h2⟩ : ∃ a, a = x / 340282366920938463463374607431768211456 % 18446744073709551616 := ⟨_, rfl⟩
  obtain ⟨r0, h3⟩ : ∃ a, a = r % 18446744073709551616 := ⟨_, rfl⟩
  obtain ⟨r1, h4⟩ : ∃ a, a = r / 18446744073709551616 % 18446744073709551616 := ⟨_, rfl⟩
  obtain ⟨r2, h5⟩ : ∃ a, a = r / 340282366920938463463374607431768211456 % 18446744073709551616 := ⟨_, rfl⟩
  have ex : numL x = [x0, x1, x2] := by rw [h0, h1, h2]; rfl
  have er : numL r = [r0, r1, r2] := by rw [h3, h4, h5]; rfl
  have e1 : x = x0 + 18446744073709551616 * x1 + 340282366920938463463374607431768211456 * x2 := by omega
  have e2 : r = r0 + 18446744073709551616 * r1 := by omega
  have hlt := outK_lt (numL x) (numL r) (numL_lt x) (numL_lt r) 6 4
  rw [ex, er] at hlt ⊢
  obtain ⟨a, b, c, d, e, hs, ha, hb, hc, hd, hv⟩ := out_six x0 x1 x2 r0 r1 r2
  rw [hs] at hlt ⊢
  refine words5 _ a b c d e ha hb hc hd hlt (hv.trans ?_)
  rw [e1, e2]
  clear hs hv ex er e1 e2 h0 h1 h2 h3 h4 h5 hlt
  have q : ∀ u v : Nat, (18446744073709551616 * u) * v = 18446744073709551616 * (u * v) := fun u v => Nat.mul_assoc _ _ _
  have q' : ∀ u v : Nat, u * (18446744073709551616 * v) = 18446744073709551616 * (u * v) := fun u v => Nat.mul_left_comm _ _ _
  have q2 : ∀ u v : Nat, (340282366920938463463374607431768211456 * u) * v = 340282366920938463463374607431768211456 * (u * v) := fun u v => Nat.mul_assoc _ _ _
  simp only [Nat.add_mul, Nat.mul_add, q, q', q2]
  omega
def TH (w W : World) (X R : List Nat) (Z : List Value) (L : List Nat) : Prop :=
  Below w.heap.size w W ∧ W.heap[w.heap.size]? = some (.cells (X.map uv).toArray 154 (0, 0)) ∧ W.heap[w.heap.size + 1]? = some (.cells (R.map uv).toArray 154 (0, 0)) ∧ W.heap[w.heap.size + 2]? = some (.cells Z.toArray 154 (0, 0)) ∧ W.heap[w.heap.size + 3]? = some (.cells (L.map uv).toArray 185 (0, 0))
theorem TH.drew {w W : World} {X R L : List Nat} {Z : List Value} (h : TH w W X R Z L) : TH w W.drew X R Z L := ⟨h.1.drew, h.2⟩
theorem TH.set {w W W' : World} {X R L : List Nat} {Z : List Value} {i v : Nat} (h : TH w W X R Z L) (hV : W.setCell ⟨w.heap.size + 3, i, none⟩ (.int .u64 (v : Int)) = W') : TH w W' X R Z (L.set i v) := by
  obtain ⟨m1, m2, m3⟩ := ust_row (B := w.heap.size) hV (by omega) h.2.2.2.2
  exact ⟨h.1.trans m2, (m3 _ (by omega)).trans h.2.1, (m3 _ (by omega)).trans h.2.2.1, (m3 _ (by omega)).trans h.2.2.2.1, m1⟩
theorem th_new (w : World) (X R L : List Nat) (Z : List Value) : TH w ((((w.alloc (.cells (X.map uv).toArray 154)).alloc (.cells (R.map uv).toArray 154)).alloc (.cells Z.toArray 154)).alloc (.cells (L.map uv).toArray 185)) X R Z L := by
  have h := heap3 w (.cells (X.map uv).toArray 154) (.cells (R.map uv).toArray 154) (.cells Z.toArray 154)
  generalize hV : ((w.alloc _).alloc _).alloc _ = W at h ⊢
  have hs : W.heap.size = w.heap.size + 3 := by rw [← hV]; simp
  have ho := fun k hk => Below.heap_alloc W (.cells (L.map uv).toArray 185) k hk
  refine ⟨h.2.2.2.alloc h.2.2.2.size _, (ho _ (by omega)).trans h.1, (ho _ (by omega)).trans h.2.1, (ho _ (by omega)).trans h.2.2.1, ?_⟩
  rw [← hs]; exact heap_alloc_new' W _
set_option maxHeartbeats 4000000 in
theorem times_any (x r : Nat) (w : World) (hx : x < 6277101735386680763835789423207666416102355444464034512896) (hr : r < 340282366920938463463374607431768211456) (hxr : x * r < 115792089237316195423570985008687907853269984665640564039457584007913129639936) :
    Calls Tryz.prog 136 #[.agg ((numL x).map uv).toArray, .agg ((numL r).map uv).toArray] w fun e w' => e = .returned (.agg ((numL (foldN (x * r))).map uv).toArray) ∧ Below w.heap.size w w' := by
  have hz : ∀ W, (zeroValue 154).run Tryz.prog W = .ok (.agg zeros3.toArray) W := fun W => by kernel_rfl
  have hz5 : ∀ W, (zeroValue 185).run Tryz.prog W = .ok (.agg ((outK (numL x) (numL r) 0).map uv).toArray) W := fun W => by kernel_rfl
  have hlz : Hid (zeros3.length = 3) := rfl
  have FO := Lib.hid (fun W => fold_any (x * r) W hxr)
  have OM := Lib.hid (out_math x r hx hr)
  have LF : Hid ((numL (foldN (x * r))).length = 3) := rfl
  have LX : Hid ((numL x).length = 3) := rfl
  have LR : Hid ((numL r).length = 3) := rfl
  have BX := Lib.hid (numL_lt x)
  have BR := Lib.hid (numL_lt r)
  clear hx hr hxr
  generalize numL (foldN (x * r)) = NF at FO LF ⊢
  generalize numL5 (x * r) = N5 at FO OM
  generalize numL x = X at hz5 OM LX BX ⊢
  generalize numL r = R at hz5 OM LR BR ⊢
  generalize zeros3 = Z3 at hz hlz
  have T0 := Lib.hid (th_new w X R (outK X R 0) Z3)
  obtain ⟨L0, HL0⟩ : ∃ L0, Hid (outK X R 0 = L0) := ⟨_, rfl⟩
  rw [HL0.out] at hz5 T0
  go_enter Tryz.func136, Tryz.ntmps136
  go_wp2_with fail
  generalize hV : (((w.alloc _).alloc _).alloc _).alloc _ = W0 at T0 ⊢
  clear hV hz hz5
  go_loopw [8] (fun vi wr => ∃ (i : Nat), i ≤ 2 ∧ vi = .int .i64 (i : Int) ∧ Hid (TH w wr X R Z3 (outK X R (3 * i)))) (fun i _ => 2 - (intOf i).toNat)
  case atStart => exact ⟨0, by omega, rfl, by show TH _ _ _ _ _ _; rw [Nat.mul_zero, HL0.out]; exact T0.out⟩
  case round =>
    clear T0 HL0
    obtain ⟨i, hi, rfl, H⟩ := hrel
    by_cases hlt : i < 2
    · have e1 : (i : Int) < 2 := by omega
      obtain ⟨wo, hwo⟩ : ∃ x, x = wr := ⟨_, rfl⟩
      subst hwo
      go_wp2_with fail
      go_loopw [11] (fun vi wr => ∃ (j : Nat), j ≤ 3 ∧ vi = .int .i64 (j : Int) ∧ Hid (TH w wr X R Z3 (outK X R (3 * i + j)))) (fun i _ => 3 - (intOf i).toNat)
      case atStart => exact ⟨0, by omega, rfl, H⟩
      case round =>
        clear H
        obtain ⟨j, hj, rfl, H⟩ := hrel
        by_cases hjt : j < 3
        · have e2 : (j : Int) < 3 := by omega
          obtain ⟨p, hp⟩ : ∃ p, p = i + j := ⟨_, rfl⟩
          obtain ⟨q, hq⟩ : ∃ q, q = i + 3 := ⟨_, rfl⟩
          have u1 : IntKind.i64.wrap ((i : Int) + (j : Int)) = (p : Int) := by rw [IntKind.wrap_i64]; omega
          have u2 : IntKind.i64.wrap ((i : Int) + 3) = (q : Int) := by rw [IntKind.wrap_i64]; omega
          have b1 : (p : Int) < 5 := by omega
          have b2 : (q : Int) < 5 := by omega
          have b3 : (i : Int) < 3 := by omega
          have hlo := outK_len X R (3 * i + j)
          have hbo := outK_lt X R BX.out BR.out (3 * i + j)
          have hst : outK X R (3 * i + j + 1) = tstep X R (outK X R (3 * i + j)) i j := by
            have h1 : (3 * i + j) / 3 = i := by omega
            have h2 : (3 * i + j) % 3 = j := by omega
            rw [outK, h1, h2]
          have T := H.out.drew
          obtain ⟨L, hL⟩ : ∃ L, L = outK X R (3 * i + j) := ⟨_, rfl⟩
          rw [← hL] at hlo hbo hst T
          unfold tstep tval at hst
          rw [← hp, ← hq] at hst
          have k0 := ucell T.2.2.2.2 p (by omega)
          have k1 := ucell T.2.1 j (by rw [LX.out]; exact hjt)
          have k2 := ucell T.2.2.1 i (by rw [LR.out]; omega)
          have k3 := ucell T.2.2.2.2 q (by omega)
          have g0 := hbo p
          have g1 := BX.out j
          have g2 := BR.out i
          have g3 := hbo q
          generalize L.getD p 0 = a at k0 g0 hst
          generalize X.getD j 0 = xx at k1 g1 hst
          generalize R.getD i 0 = rr at k2 g2 hst
          generalize L.getD q 0 = b at k3 g3 hst
          have ON := Lib.hid (fun W => onto_any a xx rr b W g0 g1 g2 g3)
          have K0 := Lib.hid k0; have K1 := Lib.hid k1; have K2 := Lib.hid k2; have K3 := Lib.hid k3
          have HT := Lib.hid T; have HLO := Lib.hid hlo; have HST := Lib.hid hst
          have HPQ : Hid (p < 5 ∧ q < 5) := by constructor <;> omega
          generalize (a + xx * rr + b) % 18446744073709551616 = lo at ON HST
          generalize (a + xx * rr + b) / 18446744073709551616 = hi at ON HST
          clear k0 k1 k2 k3 g0 g1 g2 g3 T hlo hbo hst hL hp hq H
          go_wp2_with fail
          have HS : Hid (wr.drew = wr.drew) := rfl
          refine regK_start (20) (fun W => W = wr.drew) (by kernel_rfl) ?_
          try simp only [Act.put, List.setIfInBounds_toArray, List.set_cons_zero, List.set_cons_succ]
          refine regK_take (v := ?_) 0 (some 15) rfl rfl (by kernel_rfl) (by kernel_rfl) (by kernel_rfl) (fun _ _ _ h => h) (by rfl) (by kernel_rfl) HS.out (fun W => ?_) ?_
          rotate_left
          · (go_simp; try rfl)
          simp only [Act.put, List.setIfInBounds_toArray, List.set_cons_zero, List.set_cons_succ]
          refine regK_take (v := ?_) 1 (some 16) rfl rfl (by kernel_rfl) (by kernel_rfl) (by kernel_rfl) (fun _ _ _ h => h) (by rfl) (by kernel_rfl) HS.out (fun W => ?_) ?_
          rotate_left
          · (go_simp; try rfl)
          simp only [Act.put, List.setIfInBounds_toArray, List.set_cons_zero, List.set_cons_succ]
          refine regK_take (v := ?_) 2 (some 17) rfl rfl (by kernel_rfl) (by kernel_rfl) (by kernel_rfl) (fun _ _ _ h => h) (by rfl) (by kernel_rfl) HS.out (fun W => ?_) ?_
          rotate_left
          · (go_simp; try rfl)
          simp only [Act.put, List.setIfInBounds_toArray, List.set_cons_zero, List.set_cons_succ]
          refine regK_take (v := ?_) 3 (some 18) rfl rfl (by kernel_rfl) (by kernel_rfl) (by kernel_rfl) (fun _ _ _ h => h) (by rfl) (by kernel_rfl) HS.out (fun W => ?_) ?_
          rotate_left
          · (go_simp; try rfl)
          simp only [Act.put, List.setIfInBounds_toArray, List.set_cons_zero, List.set_cons_succ]
          refine regK_take (v := ?_) 4 (some 19) rfl rfl (by kernel_rfl) (by kernel_rfl) (by kernel_rfl) (fun _ _ _ h => h) (by rfl) (by kernel_rfl) HS.out (fun W => ?_) ?_
          rotate_left
          · (go_simp; try rfl)
          simp only [Act.put, List.setIfInBounds_toArray, List.set_cons_zero, List.set_cons_succ]
          refine regK_take (v := ?_) 5 (some 20) rfl rfl (by kernel_rfl) (by kernel_rfl) (by kernel_rfl) (fun _ _ _ h => h) (by rfl) (by kernel_rfl) HS.out (fun W => ?_) ?_
          rotate_left
          · (go_simp; try rfl)
          simp only [Act.put, List.setIfInBounds_toArray, List.set_cons_zero, List.set_cons_succ]
          refine regK_take (v := ?_) 6 (some 21) rfl rfl (by kernel_rfl) (by kernel_rfl) (by kernel_rfl) (fun _ _ _ h => h) (by rfl) (by kernel_rfl) HS.out (fun W => ?_) ?_
          rotate_left
          · (go_simp; try rfl)
          simp only [Act.put, List.setIfInBounds_toArray, List.set_cons_zero, List.set_cons_succ]
          refine regK_take (v := ?_) 7 (some 22) rfl rfl (by kernel_rfl) (by kernel_rfl) (by kernel_rfl) (fun _ _ _ h => h) (by rfl) (by kernel_rfl) HS.out (fun W => ?_) ?_
          rotate_left
          · (go_simp; try rfl)
          simp only [Act.put, List.setIfInBounds_toArray, List.set_cons_zero, List.set_cons_succ]
          refine regK_take (v := ?_) 8 (some 23) rfl rfl (by kernel_rfl) (by kernel_rfl) (by kernel_rfl) (fun _ _ _ h => h) (by rfl) (by kernel_rfl) HS.out (fun W => ?_) ?_
          rotate_left
          · (go_simp; try rfl)
          simp only [Act.put, List.setIfInBounds_toArray, List.set_cons_zero, List.set_cons_succ]
          refine regK_load 9 (some 24) (fun W hW => load_cell Tryz.underlying115 (cell_eq' hW K0.out)) rfl rfl rfl rfl (by kernel_rfl) (by kernel_rfl) (by kernel_rfl) (fun _ _ _ h => h) (by rfl) (by kernel_rfl) HS.out ?_
          simp only [Act.put, List.setIfInBounds_toArray, List.set_cons_zero, List.set_cons_succ]
          refine regK_take (v := ?_) 10 (some 25) rfl rfl (by kernel_rfl) (by kernel_rfl) (by kernel_rfl) (fun _ _ _ h => h) (by rfl) (by kernel_rfl) HS.out (fun W => ?_) ?_
          rotate_left
          · (go_simp; try rfl)
          simp only [Act.put, List.setIfInBounds_toArray, List.set_cons_zero, List.set_cons_succ]
          refine regK_take (v := ?_) 11 (some 26) rfl rfl (by kernel_rfl) (by kernel_rfl) (by kernel_rfl) (fun _ _ _ h => h) (by rfl) (by kernel_rfl) HS.out (fun W => ?_) ?_
          rotate_left
          · (go_simp; try rfl)
          simp only [Act.put, List.setIfInBounds_toArray, List.set_cons_zero, List.set_cons_succ]
          refine regK_load 12 (some 27) (fun W hW => load_cell Tryz.underlying115 (cell_eq' hW K1.out)) rfl rfl rfl rfl (by kernel_rfl) (by kernel_rfl) (by kernel_rfl) (fun _ _ _ h => h) (by rfl) (by kernel_rfl) HS.out ?_
          simp only [Act.put, List.setIfInBounds_toArray, List.set_cons_zero, List.set_cons_succ]
          refine regK_take (v := ?_) 13 (some 28) rfl rfl (by kernel_rfl) (by kernel_rfl) (by kernel_rfl) (fun _ _ _ h => h) (by rfl) (by kernel_rfl) HS.out (fun W => ?_) ?_
          rotate_left
          · (go_simp; try rfl)
          simp only [Act.put, List.setIfInBounds_toArray, List.set_cons_zero, List.set_cons_succ]
          refine regK_take (v := ?_) 14 (some 29) rfl rfl (by kernel_rfl) (by kernel_rfl) (by kernel_rfl) (fun _ _ _ h => h) (by rfl) (by kernel_rfl) HS.out (fun W => ?_) ?_
          rotate_left
          · (go_simp; try rfl)
          simp only [Act.put, List.setIfInBounds_toArray, List.set_cons_zero, List.set_cons_succ]
          refine regK_load 15 (some 30) (fun W hW => load_cell Tryz.underlying115 (cell_eq' hW K2.out)) rfl rfl rfl rfl (by kernel_rfl) (by kernel_rfl) (by kernel_rfl) (fun _ _ _ h => h) (by rfl) (by kernel_rfl) HS.out ?_
          simp only [Act.put, List.setIfInBounds_toArray, List.set_cons_zero, List.set_cons_succ]
          refine regK_take (v := ?_) 16 (some 31) rfl rfl (by kernel_rfl) (by kernel_rfl) (by kernel_rfl) (fun _ _ _ h => h) (by rfl) (by kernel_rfl) HS.out (fun W => ?_) ?_
          rotate_left
          · (go_simp; try rfl)
          simp only [Act.put, List.setIfInBounds_toArray, List.set_cons_zero, List.set_cons_succ]
          refine regK_take (v := ?_) 17 (some 32) rfl rfl (by kernel_rfl) (by kernel_rfl) (by kernel_rfl) (fun _ _ _ h => h) (by rfl) (by kernel_rfl) HS.out (fun W => ?_) ?_
          rotate_left
          · (go_simp; try rfl)
          simp only [Act.put, List.setIfInBounds_toArray, List.set_cons_zero, List.set_cons_succ]
          refine regK_take (v := ?_) 18 (some 33) rfl rfl (by kernel_rfl) (by kernel_rfl) (by kernel_rfl) (fun _ _ _ h => h) (by rfl) (by kernel_rfl) HS.out (fun W => ?_) ?_
          rotate_left
          · (go_simp; try rfl)
          simp only [Act.put, List.setIfInBounds_toArray, List.set_cons_zero, List.set_cons_succ]
          refine regK_load 19 (some 34) (fun W hW => load_cell Tryz.underlying115 (cell_eq' hW K3.out)) rfl rfl rfl rfl (by kernel_rfl) (by kernel_rfl) (by kernel_rfl) (fun _ _ _ h => h) (by rfl) (by kernel_rfl) HS.out ?_
          simp only [Act.put, List.setIfInBounds_toArray, List.set_cons_zero, List.set_cons_succ]
          refine regK_bar 20 rfl (by kernel_rfl) (by kernel_rfl) (fun K hK => ?_)
          go_simp
          refine (ON.out _).mono ?_
          rintro ee w3 ⟨rfl, rfl⟩
          refine hK.out _ _ trivial ?_
          clear hK K
          try simp only [Act.put, List.setIfInBounds_toArray, List.set_cons_zero, List.set_cons_succ]
          refine regS_take (v := ?_) 21 (some 14) rfl rfl (by kernel_rfl) (by kernel_rfl) (by kernel_rfl) (fun _ _ _ h => h) (by rfl) (fun W hW => ?_) ?_
          rotate_left
          · (go_simp; try rfl)
          simp only [Act.put, List.setIfInBounds_toArray, List.set_cons_zero, List.set_cons_succ]
          refine regS_take (v := ?_) 22 (some 36) rfl rfl (by kernel_rfl) (by kernel_rfl) (by kernel_rfl) (fun _ _ _ h => h) (by rfl) (fun W hW => ?_) ?_
          rotate_left
          · (go_simp; try rfl)
          simp only [Act.put, List.setIfInBounds_toArray, List.set_cons_zero, List.set_cons_succ]
          refine regS_take (v := ?_) 23 (some 37) rfl rfl (by kernel_rfl) (by kernel_rfl) (by kernel_rfl) (fun _ _ _ h => h) (by rfl) (fun W hW => ?_) ?_
          rotate_left
          · (go_simp; try rfl)
          simp only [Act.put, List.setIfInBounds_toArray, List.set_cons_zero, List.set_cons_succ]
          refine regS_take (v := ?_) 24 (some 38) rfl rfl (by kernel_rfl) (by kernel_rfl) (by kernel_rfl) (fun _ _ _ h => h) (by rfl) (fun W hW => ?_) ?_
          rotate_left
          · (go_simp; try rfl)
          simp only [Act.put, List.setIfInBounds_toArray, List.set_cons_zero, List.set_cons_succ]
          refine regS_eff 25 rfl (by kernel_rfl) (fun K hK => ?_)
          refine step_st1 rfl 115 (.tmp 38) (.tmp 36) rfl (store_cell (k := .u64) Tryz.underlying115 s64 (w := wr.drew) K0.out (frozen_of_heap HT.out.2.2.2.2 _)) ?_
          generalize hV : World.setCell _ _ _ = W1
          have T1 := Lib.hid (HT.out.set hV)
          clear hV
          refine hK.out _ _ trivial ?_
          clear hK K
          try simp only [Act.put, List.setIfInBounds_toArray, List.set_cons_zero, List.set_cons_succ]
          refine regS_take (v := ?_) 26 (some 39) rfl rfl (by kernel_rfl) (by kernel_rfl) (by kernel_rfl) (fun _ _ _ h => h) (by rfl) (fun W hW => ?_) ?_
          rotate_left
          · (go_simp; try rfl)
          simp only [Act.put, List.setIfInBounds_toArray, List.set_cons_zero, List.set_cons_succ]
          refine regS_eff 27 rfl (by kernel_rfl) (fun K hK => ?_)
          refine step_st1 rfl 115 (.tmp 39) (.tmp 37) rfl (store_cell (k := .u64) Tryz.underlying115 s64 (w := W1) (ucell T1.out.2.2.2.2 q (by rw [List.length_set, HLO.out]; exact HPQ.out.2)) (frozen_of_heap T1.out.2.2.2.2 _)) ?_
          generalize hV : World.setCell _ _ _ = W2
          have T2 := Lib.hid (T1.out.set hV)
          clear hV
          refine hK.out _ _ trivial ?_
          clear hK K
          try simp only [Act.put, List.setIfInBounds_toArray, List.set_cons_zero, List.set_cons_succ]
          refine regS_done (by kernel_rfl) ?_
          rw [← HST.out] at T2
          go_wp2
          go_roundw
          case rel => exact ⟨j + 1, by omega, by go_num, T2⟩
          case measure => simp [intOf]; omega
        · have e2 : ¬ ((j : Int) < 3) := by omega
          have H' : Hid (TH w wr X R Z3 (outK X R (3 * (i + 1)))) := by have := H.out; rw [show 3 * i + j = 3 * (i + 1) by omega] at this; exact this
          clear H
          go_wp2
          go_roundw
          case rel => exact ⟨i + 1, by omega, by go_num, H'⟩
          case measure => simp [intOf]; omega
    · have e1 : ¬ ((i : Int) < 2) := by omega
      have H' : Hid (TH w wr X R Z3 N5) := by have := H.out; rw [show 3 * i = 6 by omega, OM.out] at this; exact this
      have L5 : Hid (N5.length = 5) := by show _ = _; rw [← OM.out]; exact outK_len _ _ _
      clear H
      go_wp2_with (first
        | (refine wpList_ld rfl 185 (.tmp 5) rfl (load_arr arr5 rfl (by rw [List.length_map, L5.out]; exact i5) H'.out.2.2.2.2) ?_))
      refine (FO.out wr).mono ?_
      rintro e w3 ⟨rfl, hb⟩
      have HB : Hid (Below w.heap.size w w3) := H'.out.1.trans (hb.mono H'.out.1.size)
      have N3 := Lib.hid ((hb.block _ (lt_of_heap H'.out.2.2.2.1)).trans H'.out.2.2.2.1)
      clear hb
      go_wp2_with (first
        | (refine wpList_st rfl 154 (.tmp 4) (.tmp 43) rfl (store_arr (cs := NF.map uv) (i3l NF LF.out) (uv_one _) N3.out (by rw [List.length_map, LF.out]; exact hlz.out)) ?_))
      have hres := setRow_heap w3 (w.heap.size + 2) _ (NF.map uv).toArray 154 _ N3.out
      exact bodyPost_ret (results_cell_row (P := Tryz.prog) rfl _ _ (w.heap.size + 2) 154 (NF.map uv).toArray (0, 0) _ rfl hres arr3 rfl (by rw [List.size_toArray]; exact i3l NF LF.out)) rfl ⟨rfl, HB.out.trans (grown_below (grown_setRow _ _ _) (by omega) HB.out.size)⟩
end Go.Proofs.YtimgggpojbpfkaaGreatDoor
