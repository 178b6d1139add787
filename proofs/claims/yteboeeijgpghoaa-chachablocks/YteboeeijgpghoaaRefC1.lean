/- The document's own quarter round. -/
import Derived.Test.YteboeeijgpghoaaCha5
import Derived.Test.YteboeeijgpghoaaRefL
import Derived.StillTailTactics
namespace Go.Proofs.Yteboeeijgpghoaa
open Go.RowKit
set_option linter.unusedVariables false
set_option linter.unusedSimpArgs false
/-- a row, with four of its numbers put anew -/
def L4 (l : List W32) (a b c d : Nat) (x y z u : W32) : List W32 := (((l.set a x).set b y).set c z).set d u
def Four (l : List W32) (a b c d : Nat) : Prop := a < l.length ∧ b < l.length ∧ c < l.length ∧ d < l.length ∧ a ≠ b ∧ a ≠ c ∧ a ≠ d ∧ b ≠ c ∧ b ≠ d ∧ c ≠ d
theorem L4_len (l : List W32) (a b c d : Nat) (x y z u : W32) : (L4 l a b c d x y z u).length = l.length := by simp [L4]
theorem getD_set (l : List W32) (i j : Nat) (v : W32) (hi : i < l.length) : (l.set i v).getD j 0 = if i = j then v else l.getD j 0 := by
  rw [List.getD_eq_getElem?_getD, List.getElem?_set, List.getD_eq_getElem?_getD]
  by_cases h : i = j
  · subst h; simp [hi]
  · simp [h]
theorem L4_getA {l : List W32} {a b c d : Nat} (x y z u : W32) (h : Four l a b c d) : (L4 l a b c d x y z u).getD a 0 = x := by
  obtain ⟨h1, h2, h3, h4, ab, ac, ad, bc, bd, cd⟩ := h
  unfold L4
  rw [getD_set _ _ _ _ (by simpa using h4), if_neg (Ne.symm ad), getD_set _ _ _ _ (by simpa using h3), if_neg (Ne.symm ac), getD_set _ _ _ _ (by simpa using h2), if_neg (Ne.symm ab), getD_set _ _ _ _ h1, if_pos rfl]
theorem L4_getB {l : List W32} {a b c d : Nat} (x y z u : W32) (h : Four l a b c d) : (L4 l a b c d x y z u).getD b 0 = y := by
  obtain ⟨h1, h2, h3, h4, ab, ac, ad, bc, bd, cd⟩ := h
  unfold L4
  rw [getD_set _ _ _ _ (by simpa using h4), if_neg (Ne.symm bd), getD_set _ _ _ _ (by simpa using h3), if_neg (Ne.symm bc), getD_set _ _ _ _ (by simpa using h2), if_pos rfl]
theorem L4_getC {l : List W32} {a b c d : Nat} (x y z u : W32) (h : Four l a b c d) : (L4 l a b c d x y z u).getD c 0 = z := by
  obtain ⟨h1, h2, h3, h4, ab, ac, ad, bc, bd, cd⟩ := h
  unfold L4
  rw [getD_set _ _ _ _ (by simpa using h4), if_neg (Ne.symm cd), getD_set _ _ _ _ (by simpa using h3), if_pos rfl]
theorem L4_getD {l : List W32} {a b c d : Nat} (x y z u : W32) (h : Four l a b c d) : (L4 l a b c d x y z u).getD d 0 = u := by
  obtain ⟨h1, h2, h3, h4, ab, ac, ad, bc, bd, cd⟩ := h
  unfold L4
  rw [getD_set _ _ _ _ (by simpa using h4), if_pos rfl]
theorem L4_setD {l : List W32} {a b c d : Nat} (x y z u v : W32) : (L4 l a b c d x y z u).set d v = L4 l a b c d x y z v := by
  unfold L4; rw [List.set_set]
theorem L4_setC {l : List W32} {a b c d : Nat} (x y z u v : W32) (h : Four l a b c d) : (L4 l a b c d x y z u).set c v = L4 l a b c d x y v u := by
  obtain ⟨h1, h2, h3, h4, ab, ac, ad, bc, bd, cd⟩ := h
  unfold L4; rw [List.set_comm _ _ (Ne.symm cd), List.set_set]
theorem L4_setB {l : List W32} {a b c d : Nat} (x y z u v : W32) (h : Four l a b c d) : (L4 l a b c d x y z u).set b v = L4 l a b c d x v z u := by
  obtain ⟨h1, h2, h3, h4, ab, ac, ad, bc, bd, cd⟩ := h
  unfold L4; rw [List.set_comm _ _ (Ne.symm bd), List.set_comm _ _ (Ne.symm bc), List.set_set]
theorem L4_setA {l : List W32} {a b c d : Nat} (x y z u v : W32) (h : Four l a b c d) : (L4 l a b c d x y z u).set a v = L4 l a b c d v y z u := by
  obtain ⟨h1, h2, h3, h4, ab, ac, ad, bc, bd, cd⟩ := h
  unfold L4; rw [List.set_comm _ _ (Ne.symm ad), List.set_comm _ _ (Ne.symm ac), List.set_comm _ _ (Ne.symm ab), List.set_set]
theorem L4_self {l : List W32} {a b c d : Nat} (h : Four l a b c d) : L4 l a b c d (l.getD a 0) (l.getD b 0) (l.getD c 0) (l.getD d 0) = l := by
  obtain ⟨h1, h2, h3, h4, ab, ac, ad, bc, bd, cd⟩ := h
  have s : ∀ i, i < l.length → l.set i (l.getD i 0) = l := fun i hi => by
    rw [List.getD_eq_getElem?_getD, List.getElem?_eq_getElem hi, Option.getD_some, List.set_getElem_self]
  unfold L4; rw [s a h1, s b h2, s c h3, s d h4]
/-- nothing but block g is turned -/
def Only (g : Nat) (w W : World) : Prop := Below g w W ∧ W.heap.size = w.heap.size ∧ ∀ k, k ≠ g → W.heap[k]? = w.heap[k]?
theorem Only.refl (g : Nat) (w : World) : Only g w w := ⟨Below.refl _ _, rfl, fun _ _ => rfl⟩
theorem Only.trans {g : Nat} {a b c : World} (h : Only g a b) (k : Only g b c) : Only g a c := ⟨h.1.trans k.1, k.2.1.trans h.2.1, fun i hi => (k.2.2 i hi).trans (h.2.2 i hi)⟩
theorem Only.drew {g : Nat} {a b : World} (h : Only g a b) : Only g a b.drew := ⟨h.1.drew, h.2.1, h.2.2⟩
theorem only_set {g i : Nat} {w : World} {v : Value} : Only g w (w.setCell ⟨g, i, none⟩ v) := ⟨(Below.refl g w).setCell (show g ≤ (⟨g, i, none⟩ : Addr).block from Nat.le_refl g) v, by simp, fun k hk => Below.heap_setCell w _ _ _ hk⟩
set_option maxRecDepth 100000 in
set_option maxHeartbeats 8000000 in
theorem refq_any (g : Nat) (l : List W32) (a b c d : Nat) (w : World) {ty : TypeId} (hl : l.length = 16) (h4 : Four l a b c d) (hT : w.heap[g]? = some (.cells (l.map wv).toArray ty (0, 0))) :
    Calls Try.prog 23 #[.pointer (some ⟨g, 0, none⟩), .int .i64 (a : Int), .int .i64 (b : Int), .int .i64 (c : Int), .int .i64 (d : Int)] w fun e w' => (∃ v, e = .returned v) ∧ w'.heap[g]? = some (.cells ((qAt l a b c d).map wv).toArray ty (0, 0)) ∧ Only g w w' := by
  have H4 := Lib.hid h4
  have HL := Lib.hid hl
  have ia : (a : Int) < 16 := by have := h4.1; omega
  have ib : (b : Int) < 16 := by have := h4.2.1; omega
  have ic : (c : Int) < 16 := by have := h4.2.2.1; omega
  have id : (d : Int) < 16 := by have := h4.2.2.2.1; omega
  have hq : Hid (qAt l a b c d = L4 l a b c d (qA (l.getD a 0) (l.getD b 0) (l.getD c 0) (l.getD d 0)) (qB (l.getD a 0) (l.getD b 0) (l.getD c 0) (l.getD d 0)) (qC (l.getD a 0) (l.getD b 0) (l.getD c 0) (l.getD d 0)) (qD (l.getD a 0) (l.getD b 0) (l.getD c 0) (l.getD d 0))) := rfl
  rw [hq.out]
  have M0 : Hid (w.heap[g]? = some (.cells ((L4 l a b c d (l.getD a 0) (l.getD b 0) (l.getD c 0) (l.getD d 0)).map wv).toArray ty (0, 0))) := by rw [L4_self h4]; exact hT
  have N0 : Hid (Only g w w) := Only.refl _ _
  clear hq hT
  generalize l.getD a 0 = x0 at M0 ⊢
  generalize l.getD b 0 = y0 at M0 ⊢
  generalize l.getD c 0 = z0 at M0 ⊢
  generalize l.getD d 0 = u0 at M0 ⊢
  obtain ⟨x1, h1⟩ : ∃ v, v = qA1 x0 y0 z0 u0 := ⟨_, rfl⟩
  obtain ⟨u1, h2⟩ : ∃ v, v = qD1 x0 y0 z0 u0 := ⟨_, rfl⟩
  obtain ⟨z1, h3⟩ : ∃ v, v = qC1 x0 y0 z0 u0 := ⟨_, rfl⟩
  obtain ⟨y1, h5⟩ : ∃ v, v = qB1 x0 y0 z0 u0 := ⟨_, rfl⟩
  obtain ⟨x2, h6⟩ : ∃ v, v = qA x0 y0 z0 u0 := ⟨_, rfl⟩
  obtain ⟨u2, h7⟩ : ∃ v, v = qD x0 y0 z0 u0 := ⟨_, rfl⟩
  obtain ⟨z2, h8⟩ : ∃ v, v = qC x0 y0 z0 u0 := ⟨_, rfl⟩
  obtain ⟨y2, h9⟩ : ∃ v, v = qB x0 y0 z0 u0 := ⟨_, rfl⟩
  have A1 : Hid (x1 = x0 + y0) := h1
  have A2 : Hid (u1 = rotl (u0 ^^^ x1) 16) := by rw [h2, h1]; rfl
  have A3 : Hid (z1 = z0 + u1) := by rw [h3, h2]; rfl
  have A4 : Hid (y1 = rotl (y0 ^^^ z1) 12) := by rw [h5, h3]; rfl
  have A5 : Hid (x2 = x1 + y1) := by rw [h6, h1, h5]; rfl
  have A6 : Hid (u2 = rotl (u1 ^^^ x2) 8) := by rw [h7, h2, h6]; rfl
  have A7 : Hid (z2 = z1 + u2) := by rw [h8, h3, h7]; rfl
  have A8 : Hid (y2 = rotl (y1 ^^^ z2) 7) := by rw [h9, h5, h8]; rfl
  rw [← h6, ← h7, ← h8, ← h9]
  clear h1 h2 h3 h5 h6 h7 h8 h9 h4 hl
  go_enter Try.func23, Try.ntmps23
  go_wp2_with fail
  have c1 := wcell M0.out a (by rw [L4_len]; have := H4.out; exact this.1)
  rw [L4_getA _ _ _ _ H4.out] at c1
  have c2 := wcell M0.out b (by rw [L4_len]; have := H4.out; exact this.2.1)
  rw [L4_getB _ _ _ _ H4.out] at c2
  have fz := frozen_of_heap M0.out a
  have X1 : ((x0.toNat : Int) + (y0.toNat : Int)) % 4294967296 = (x1.toNat : Int) := by rw [A1.out]; exact add32 _ _
  have Y1 := Lib.hid X1
  clear X1
  go_still_tail 13, (by kernel_rfl)
  change wpList _ _ _ _ _ w.drew
  go_wp2_with fail
  rw [Y1.out]
  generalize hV : World.drew (World.setCell _ _ _) = W1
  have M1 : Hid (W1.heap[g]? = some (.cells ((L4 l a b c d x1 y0 z0 u0).map wv).toArray ty (0, 0))) := by
    obtain ⟨m1, _, _⟩ := st_row (B := 0) (W := w) (l := L4 l a b c d x0 y0 z0 u0) (i := a) (v := x1) rfl (Nat.zero_le _) M0.out
    rw [L4_setA x0 y0 z0 u0 x1 H4.out] at m1
    rw [← hV]
    exact m1
  have N1 : Hid (Only g w W1) := by rw [← hV]; exact (N0.out.trans only_set).drew
  clear hV M0 N0 c1 c2 fz Y1
  have c1 := wcell M1.out d (by rw [L4_len]; have := H4.out; exact this.2.2.2.1)
  rw [L4_getD _ _ _ _ H4.out] at c1
  have c2 := wcell M1.out a (by rw [L4_len]; have := H4.out; exact this.1)
  rw [L4_getA _ _ _ _ H4.out] at c2
  have fz := frozen_of_heap M1.out d
  have X2 := xor32 u0 x1
  have U2 := Lib.hid X2
  clear X2
  have HS : Hid (W1.drew = W1.drew) := rfl
  have C1 : Hid (W1.drew.cell? ⟨g, d, none⟩ = _) := c1
  have C2 : Hid (W1.drew.cell? ⟨g, a, none⟩ = _) := c2
  clear c1 c2 fz
  refine regK_start (12) (fun W => W = W1.drew) (by kernel_rfl) ?_
  try simp only [Act.put, List.setIfInBounds_toArray, List.set_cons_zero, List.set_cons_succ]
  refine regK_take (v := ?_) 0 (some 23) rfl rfl (by kernel_rfl) (by kernel_rfl) (by kernel_rfl) (fun _ _ _ h => h) (by rfl) (by kernel_rfl) HS.out (fun W => ?_) ?_
  rotate_left
  · (go_simp; try rfl)
  simp only [Act.put, List.setIfInBounds_toArray, List.set_cons_zero, List.set_cons_succ]
  refine regK_take (v := ?_) 1 (some 24) rfl rfl (by kernel_rfl) (by kernel_rfl) (by kernel_rfl) (fun _ _ _ h => h) (by rfl) (by kernel_rfl) HS.out (fun W => ?_) ?_
  rotate_left
  · (go_simp; try rfl)
  simp only [Act.put, List.setIfInBounds_toArray, List.set_cons_zero, List.set_cons_succ]
  refine regK_take (v := ?_) 2 (some 25) rfl rfl (by kernel_rfl) (by kernel_rfl) (by kernel_rfl) (fun _ _ _ h => h) (by rfl) (by kernel_rfl) HS.out (fun W => ?_) ?_
  rotate_left
  · (go_simp; try rfl)
  simp only [Act.put, List.setIfInBounds_toArray, List.set_cons_zero, List.set_cons_succ]
  refine regK_take (v := ?_) 3 (some 26) rfl rfl (by kernel_rfl) (by kernel_rfl) (by kernel_rfl) (fun _ _ _ h => h) (by rfl) (by kernel_rfl) HS.out (fun W => ?_) ?_
  rotate_left
  · (go_simp; try rfl)
  simp only [Act.put, List.setIfInBounds_toArray, List.set_cons_zero, List.set_cons_succ]
  refine regK_take (v := ?_) 4 (some 27) rfl rfl (by kernel_rfl) (by kernel_rfl) (by kernel_rfl) (fun _ _ _ h => h) (by rfl) (by kernel_rfl) HS.out (fun W => ?_) ?_
  rotate_left
  · (go_simp; try rfl)
  simp only [Act.put, List.setIfInBounds_toArray, List.set_cons_zero, List.set_cons_succ]
  refine regK_take (v := ?_) 5 (some 28) rfl rfl (by kernel_rfl) (by kernel_rfl) (by kernel_rfl) (fun _ _ _ h => h) (by rfl) (by kernel_rfl) HS.out (fun W => ?_) ?_
  rotate_left
  · (go_simp; try rfl)
  simp only [Act.put, List.setIfInBounds_toArray, List.set_cons_zero, List.set_cons_succ]
  refine regK_load 6 (some 29) (fun W hW => load_cell Try.underlying24 (cell_eq hW C1.out)) rfl rfl rfl rfl (by kernel_rfl) (by kernel_rfl) (by kernel_rfl) (fun _ _ _ h => h) (by rfl) (by kernel_rfl) HS.out ?_
  simp only [Act.put, List.setIfInBounds_toArray, List.set_cons_zero, List.set_cons_succ]
  refine regK_take (v := ?_) 7 (some 30) rfl rfl (by kernel_rfl) (by kernel_rfl) (by kernel_rfl) (fun _ _ _ h => h) (by rfl) (by kernel_rfl) HS.out (fun W => ?_) ?_
  rotate_left
  · (go_simp; try rfl)
  simp only [Act.put, List.setIfInBounds_toArray, List.set_cons_zero, List.set_cons_succ]
  refine regK_take (v := ?_) 8 (some 31) rfl rfl (by kernel_rfl) (by kernel_rfl) (by kernel_rfl) (fun _ _ _ h => h) (by rfl) (by kernel_rfl) HS.out (fun W => ?_) ?_
  rotate_left
  · (go_simp; try rfl)
  simp only [Act.put, List.setIfInBounds_toArray, List.set_cons_zero, List.set_cons_succ]
  refine regK_take (v := ?_) 9 (some 32) rfl rfl (by kernel_rfl) (by kernel_rfl) (by kernel_rfl) (fun _ _ _ h => h) (by rfl) (by kernel_rfl) HS.out (fun W => ?_) ?_
  rotate_left
  · (go_simp; try rfl)
  simp only [Act.put, List.setIfInBounds_toArray, List.set_cons_zero, List.set_cons_succ]
  refine regK_take (v := ?_) 10 (some 33) rfl rfl (by kernel_rfl) (by kernel_rfl) (by kernel_rfl) (fun _ _ _ h => h) (by rfl) (by kernel_rfl) HS.out (fun W => ?_) ?_
  rotate_left
  · (go_simp; try rfl)
  simp only [Act.put, List.setIfInBounds_toArray, List.set_cons_zero, List.set_cons_succ]
  refine regK_load 11 (some 34) (fun W hW => load_cell Try.underlying24 (cell_eq hW C2.out)) rfl rfl rfl rfl (by kernel_rfl) (by kernel_rfl) (by kernel_rfl) (fun _ _ _ h => h) (by rfl) (by kernel_rfl) HS.out ?_
  simp only [Act.put, List.setIfInBounds_toArray, List.set_cons_zero, List.set_cons_succ]
  refine regK_take (v := ?_) 14 (some 37) rfl rfl (by kernel_rfl) (by kernel_rfl) (by kernel_rfl) (fun _ _ _ h => h) (by rfl) (by kernel_rfl) HS.out (fun W => ?_) ?_
  rotate_left
  · (go_simp; try rfl)
  simp only [Act.put, List.setIfInBounds_toArray, List.set_cons_zero, List.set_cons_succ]
  refine regK_bar 12 rfl (by kernel_rfl) (by kernel_rfl) (fun K hK => ?_)
  go_simp
  refine hK.out _ _ trivial ?_
  clear hK K
  try simp only [Act.put, List.setIfInBounds_toArray, List.set_cons_zero, List.set_cons_succ]
  refine regS_eff 13 rfl (by kernel_rfl) (fun K hK => ?_)
  go_simp
  rw [U2.out]
  refine (refLeft_any (u0 ^^^ x1) 16 _).mono ?_
  rintro ee w3 ⟨rfl, rfl⟩
  rw [← A2.out]
  refine hK.out _ _ trivial ?_
  clear hK K
  try simp only [Act.put, List.setIfInBounds_toArray, List.set_cons_zero, List.set_cons_succ]
  refine regS_take (v := ?_) 15 (some 38) rfl rfl (by kernel_rfl) (by kernel_rfl) (by kernel_rfl) (fun _ _ _ h => h) (by rfl) (fun W hW => ?_) ?_
  rotate_left
  · (go_simp; try rfl)
  simp only [Act.put, List.setIfInBounds_toArray, List.set_cons_zero, List.set_cons_succ]
  refine regS_eff 16 rfl (by kernel_rfl) (fun K hK => ?_)
  refine step_st1 rfl 24 (.tmp 38) (.tmp 36) rfl (store_cell (k := .u32) Try.underlying24 s32 (w := W1.drew) C1.out (frozen_of_heap (w := W1.drew) M1.out _)) ?_
  generalize hV : World.setCell _ _ _ = W2
  obtain ⟨m1, _, _⟩ := st_row (B := 0) (l := L4 l a b c d x1 y0 z0 u0) hV (Nat.zero_le _) (by exact M1.out)
  rw [L4_setD x1 y0 z0 u0 u1] at m1
  have M2 := Lib.hid m1
  have N2 : Hid (Only g w W2) := by rw [← hV]; exact N1.out.drew.trans only_set
  clear m1 hV
  refine hK.out _ _ trivial ?_
  clear hK K
  try simp only [Act.put, List.setIfInBounds_toArray, List.set_cons_zero, List.set_cons_succ]
  refine regS_done (by kernel_rfl) ?_
  clear HS C1 C2 M1 N1 U2
  go_wp2_with fail
  have c1 := wcell M2.out c (by rw [L4_len]; have := H4.out; exact this.2.2.1)
  rw [L4_getC _ _ _ _ H4.out] at c1
  have c2 := wcell M2.out d (by rw [L4_len]; have := H4.out; exact this.2.2.2.1)
  rw [L4_getD _ _ _ _ H4.out] at c2
  have fz := frozen_of_heap M2.out c
  have X3 : ((z0.toNat : Int) + (u1.toNat : Int)) % 4294967296 = (z1.toNat : Int) := by rw [A3.out]; exact add32 _ _
  have Y3 := Lib.hid X3
  clear X3
  go_still_tail 13, (by kernel_rfl)
  change wpList _ _ _ _ _ W2.drew
  go_wp2_with fail
  rw [Y3.out]
  generalize hV : World.drew (World.setCell _ _ _) = W3
  have M3 : Hid (W3.heap[g]? = some (.cells ((L4 l a b c d x1 y0 z1 u1).map wv).toArray ty (0, 0))) := by
    obtain ⟨m1, _, _⟩ := st_row (B := 0) (W := W2) (l := L4 l a b c d x1 y0 z0 u1) (i := c) (v := z1) rfl (Nat.zero_le _) M2.out
    rw [L4_setC x1 y0 z0 u1 z1 H4.out] at m1
    rw [← hV]
    exact m1
  have N3 : Hid (Only g w W3) := by rw [← hV]; exact (N2.out.trans only_set).drew
  clear hV M2 N2 c1 c2 fz Y3
  have c1 := wcell M3.out b (by rw [L4_len]; have := H4.out; exact this.2.1)
  rw [L4_getB _ _ _ _ H4.out] at c1
  have c2 := wcell M3.out c (by rw [L4_len]; have := H4.out; exact this.2.2.1)
  rw [L4_getC _ _ _ _ H4.out] at c2
  have fz := frozen_of_heap M3.out b
  have X4 := xor32 y0 z1
  have U4 := Lib.hid X4
  clear X4
  have HS : Hid (W3.drew = W3.drew) := rfl
  have C1 : Hid (W3.drew.cell? ⟨g, b, none⟩ = _) := c1
  have C2 : Hid (W3.drew.cell? ⟨g, c, none⟩ = _) := c2
  clear c1 c2 fz
  refine regK_start (12) (fun W => W = W3.drew) (by kernel_rfl) ?_
  try simp only [Act.put, List.setIfInBounds_toArray, List.set_cons_zero, List.set_cons_succ]
  refine regK_take (v := ?_) 0 (some 52) rfl rfl (by kernel_rfl) (by kernel_rfl) (by kernel_rfl) (fun _ _ _ h => h) (by rfl) (by kernel_rfl) HS.out (fun W => ?_) ?_
  rotate_left
  · (go_simp; try rfl)
  simp only [Act.put, List.setIfInBounds_toArray, List.set_cons_zero, List.set_cons_succ]
  refine regK_take (v := ?_) 1 (some 53) rfl rfl (by kernel_rfl) (by kernel_rfl) (by kernel_rfl) (fun _ _ _ h => h) (by rfl) (by kernel_rfl) HS.out (fun W => ?_) ?_
  rotate_left
  · (go_simp; try rfl)
  simp only [Act.put, List.setIfInBounds_toArray, List.set_cons_zero, List.set_cons_succ]
  refine regK_take (v := ?_) 2 (some 54) rfl rfl (by kernel_rfl) (by kernel_rfl) (by kernel_rfl) (fun _ _ _ h => h) (by rfl) (by kernel_rfl) HS.out (fun W => ?_) ?_
  rotate_left
  · (go_simp; try rfl)
  simp only [Act.put, List.setIfInBounds_toArray, List.set_cons_zero, List.set_cons_succ]
  refine regK_take (v := ?_) 3 (some 55) rfl rfl (by kernel_rfl) (by kernel_rfl) (by kernel_rfl) (fun _ _ _ h => h) (by rfl) (by kernel_rfl) HS.out (fun W => ?_) ?_
  rotate_left
  · (go_simp; try rfl)
  simp only [Act.put, List.setIfInBounds_toArray, List.set_cons_zero, List.set_cons_succ]
  refine regK_take (v := ?_) 4 (some 56) rfl rfl (by kernel_rfl) (by kernel_rfl) (by kernel_rfl) (fun _ _ _ h => h) (by rfl) (by kernel_rfl) HS.out (fun W => ?_) ?_
  rotate_left
  · (go_simp; try rfl)
  simp only [Act.put, List.setIfInBounds_toArray, List.set_cons_zero, List.set_cons_succ]
  refine regK_take (v := ?_) 5 (some 57) rfl rfl (by kernel_rfl) (by kernel_rfl) (by kernel_rfl) (fun _ _ _ h => h) (by rfl) (by kernel_rfl) HS.out (fun W => ?_) ?_
  rotate_left
  · (go_simp; try rfl)
  simp only [Act.put, List.setIfInBounds_toArray, List.set_cons_zero, List.set_cons_succ]
  refine regK_load 6 (some 58) (fun W hW => load_cell Try.underlying24 (cell_eq hW C1.out)) rfl rfl rfl rfl (by kernel_rfl) (by kernel_rfl) (by kernel_rfl) (fun _ _ _ h => h) (by rfl) (by kernel_rfl) HS.out ?_
  simp only [Act.put, List.setIfInBounds_toArray, List.set_cons_zero, List.set_cons_succ]
  refine regK_take (v := ?_) 7 (some 59) rfl rfl (by kernel_rfl) (by kernel_rfl) (by kernel_rfl) (fun _ _ _ h => h) (by rfl) (by kernel_rfl) HS.out (fun W => ?_) ?_
  rotate_left
  · (go_simp; try rfl)
  simp only [Act.put, List.setIfInBounds_toArray, List.set_cons_zero, List.set_cons_succ]
  refine regK_take (v := ?_) 8 (some 60) rfl rfl (by kernel_rfl) (by kernel_rfl) (by kernel_rfl) (fun _ _ _ h => h) (by rfl) (by kernel_rfl) HS.out (fun W => ?_) ?_
  rotate_left
  · (go_simp; try rfl)
  simp only [Act.put, List.setIfInBounds_toArray, List.set_cons_zero, List.set_cons_succ]
  refine regK_take (v := ?_) 9 (some 61) rfl rfl (by kernel_rfl) (by kernel_rfl) (by kernel_rfl) (fun _ _ _ h => h) (by rfl) (by kernel_rfl) HS.out (fun W => ?_) ?_
  rotate_left
  · (go_simp; try rfl)
  simp only [Act.put, List.setIfInBounds_toArray, List.set_cons_zero, List.set_cons_succ]
  refine regK_take (v := ?_) 10 (some 62) rfl rfl (by kernel_rfl) (by kernel_rfl) (by kernel_rfl) (fun _ _ _ h => h) (by rfl) (by kernel_rfl) HS.out (fun W => ?_) ?_
  rotate_left
  · (go_simp; try rfl)
  simp only [Act.put, List.setIfInBounds_toArray, List.set_cons_zero, List.set_cons_succ]
  refine regK_load 11 (some 63) (fun W hW => load_cell Try.underlying24 (cell_eq hW C2.out)) rfl rfl rfl rfl (by kernel_rfl) (by kernel_rfl) (by kernel_rfl) (fun _ _ _ h => h) (by rfl) (by kernel_rfl) HS.out ?_
  simp only [Act.put, List.setIfInBounds_toArray, List.set_cons_zero, List.set_cons_succ]
  refine regK_take (v := ?_) 14 (some 66) rfl rfl (by kernel_rfl) (by kernel_rfl) (by kernel_rfl) (fun _ _ _ h => h) (by rfl) (by kernel_rfl) HS.out (fun W => ?_) ?_
  rotate_left
  · (go_simp; try rfl)
  simp only [Act.put, List.setIfInBounds_toArray, List.set_cons_zero, List.set_cons_succ]
  refine regK_bar 12 rfl (by kernel_rfl) (by kernel_rfl) (fun K hK => ?_)
  go_simp
  refine hK.out _ _ trivial ?_
  clear hK K
  try simp only [Act.put, List.setIfInBounds_toArray, List.set_cons_zero, List.set_cons_succ]
  refine regS_eff 13 rfl (by kernel_rfl) (fun K hK => ?_)
  go_simp
  rw [U4.out]
  refine (refLeft_any (y0 ^^^ z1) 12 _).mono ?_
  rintro ee w3 ⟨rfl, rfl⟩
  rw [← A4.out]
  refine hK.out _ _ trivial ?_
  clear hK K
  try simp only [Act.put, List.setIfInBounds_toArray, List.set_cons_zero, List.set_cons_succ]
  refine regS_take (v := ?_) 15 (some 67) rfl rfl (by kernel_rfl) (by kernel_rfl) (by kernel_rfl) (fun _ _ _ h => h) (by rfl) (fun W hW => ?_) ?_
  rotate_left
  · (go_simp; try rfl)
  simp only [Act.put, List.setIfInBounds_toArray, List.set_cons_zero, List.set_cons_succ]
  refine regS_eff 16 rfl (by kernel_rfl) (fun K hK => ?_)
  refine step_st1 rfl 24 (.tmp 67) (.tmp 65) rfl (store_cell (k := .u32) Try.underlying24 s32 (w := W3.drew) C1.out (frozen_of_heap (w := W3.drew) M3.out _)) ?_
  generalize hV : World.setCell _ _ _ = W4
  obtain ⟨m1, _, _⟩ := st_row (B := 0) (l := L4 l a b c d x1 y0 z1 u1) hV (Nat.zero_le _) (by exact M3.out)
  rw [L4_setB x1 y0 z1 u1 y1 H4.out] at m1
  have M4 := Lib.hid m1
  have N4 : Hid (Only g w W4) := by rw [← hV]; exact N3.out.drew.trans only_set
  clear m1 hV
  refine hK.out _ _ trivial ?_
  clear hK K
  try simp only [Act.put, List.setIfInBounds_toArray, List.set_cons_zero, List.set_cons_succ]
  refine regS_done (by kernel_rfl) ?_
  clear HS C1 C2 M3 N3 U4
  go_wp2_with fail
  have c1 := wcell M4.out a (by rw [L4_len]; have := H4.out; exact this.1)
  rw [L4_getA _ _ _ _ H4.out] at c1
  have c2 := wcell M4.out b (by rw [L4_len]; have := H4.out; exact this.2.1)
  rw [L4_getB _ _ _ _ H4.out] at c2
  have fz := frozen_of_heap M4.out a
  have X5 : ((x1.toNat : Int) + (y1.toNat : Int)) % 4294967296 = (x2.toNat : Int) := by rw [A5.out]; exact add32 _ _
  have Y5 := Lib.hid X5
  clear X5
  go_still_tail 13, (by kernel_rfl)
  change wpList _ _ _ _ _ W4.drew
  go_wp2_with fail
  rw [Y5.out]
  generalize hV : World.drew (World.setCell _ _ _) = W5
  have M5 : Hid (W5.heap[g]? = some (.cells ((L4 l a b c d x2 y1 z1 u1).map wv).toArray ty (0, 0))) := by
    obtain ⟨m1, _, _⟩ := st_row (B := 0) (W := W4) (l := L4 l a b c d x1 y1 z1 u1) (i := a) (v := x2) rfl (Nat.zero_le _) M4.out
    rw [L4_setA x1 y1 z1 u1 x2 H4.out] at m1
    rw [← hV]
    exact m1
  have N5 : Hid (Only g w W5) := by rw [← hV]; exact (N4.out.trans only_set).drew
  clear hV M4 N4 c1 c2 fz Y5
  have c1 := wcell M5.out d (by rw [L4_len]; have := H4.out; exact this.2.2.2.1)
  rw [L4_getD _ _ _ _ H4.out] at c1
  have c2 := wcell M5.out a (by rw [L4_len]; have := H4.out; exact this.1)
  rw [L4_getA _ _ _ _ H4.out] at c2
  have fz := frozen_of_heap M5.out d
  have X6 := xor32 u1 x2
  have U6 := Lib.hid X6
  clear X6
  have HS : Hid (W5.drew = W5.drew) := rfl
  have C1 : Hid (W5.drew.cell? ⟨g, d, none⟩ = _) := c1
  have C2 : Hid (W5.drew.cell? ⟨g, a, none⟩ = _) := c2
  clear c1 c2 fz
  refine regK_start (12) (fun W => W = W5.drew) (by kernel_rfl) ?_
  try simp only [Act.put, List.setIfInBounds_toArray, List.set_cons_zero, List.set_cons_succ]
  refine regK_take (v := ?_) 0 (some 81) rfl rfl (by kernel_rfl) (by kernel_rfl) (by kernel_rfl) (fun _ _ _ h => h) (by rfl) (by kernel_rfl) HS.out (fun W => ?_) ?_
  rotate_left
  · (go_simp; try rfl)
  simp only [Act.put, List.setIfInBounds_toArray, List.set_cons_zero, List.set_cons_succ]
  refine regK_take (v := ?_) 1 (some 82) rfl rfl (by kernel_rfl) (by kernel_rfl) (by kernel_rfl) (fun _ _ _ h => h) (by rfl) (by kernel_rfl) HS.out (fun W => ?_) ?_
  rotate_left
  · (go_simp; try rfl)
  simp only [Act.put, List.setIfInBounds_toArray, List.set_cons_zero, List.set_cons_succ]
  refine regK_take (v := ?_) 2 (some 83) rfl rfl (by kernel_rfl) (by kernel_rfl) (by kernel_rfl) (fun _ _ _ h => h) (by rfl) (by kernel_rfl) HS.out (fun W => ?_) ?_
  rotate_left
  · (go_simp; try rfl)
  simp only [Act.put, List.setIfInBounds_toArray, List.set_cons_zero, List.set_cons_succ]
  refine regK_take (v := ?_) 3 (some 84) rfl rfl (by kernel_rfl) (by kernel_rfl) (by kernel_rfl) (fun _ _ _ h => h) (by rfl) (by kernel_rfl) HS.out (fun W => ?_) ?_
  rotate_left
  · (go_simp; try rfl)
  simp only [Act.put, List.setIfInBounds_toArray, List.set_cons_zero, List.set_cons_succ]
  refine regK_take (v := ?_) 4 (some 85) rfl rfl (by kernel_rfl) (by kernel_rfl) (by kernel_rfl) (fun _ _ _ h => h) (by rfl) (by kernel_rfl) HS.out (fun W => ?_) ?_
  rotate_left
  · (go_simp; try rfl)
  simp only [Act.put, List.setIfInBounds_toArray, List.set_cons_zero, List.set_cons_succ]
  refine regK_take (v := ?_) 5 (some 86) rfl rfl (by kernel_rfl) (by kernel_rfl) (by kernel_rfl) (fun _ _ _ h => h) (by rfl) (by kernel_rfl) HS.out (fun W => ?_) ?_
  rotate_left
  · (go_simp; try rfl)
  simp only [Act.put, List.setIfInBounds_toArray, List.set_cons_zero, List.set_cons_succ]
  refine regK_load 6 (some 87) (fun W hW => load_cell Try.underlying24 (cell_eq hW C1.out)) rfl rfl rfl rfl (by kernel_rfl) (by kernel_rfl) (by kernel_rfl) (fun _ _ _ h => h) (by rfl) (by kernel_rfl) HS.out ?_
  simp only [Act.put, List.setIfInBounds_toArray, List.set_cons_zero, List.set_cons_succ]
  refine regK_take (v := ?_) 7 (some 88) rfl rfl (by kernel_rfl) (by kernel_rfl) (by kernel_rfl) (fun _ _ _ h => h) (by rfl) (by kernel_rfl) HS.out (fun W => ?_) ?_
  rotate_left
  · (go_simp; try rfl)
  simp only [Act.put, List.setIfInBounds_toArray, List.set_cons_zero, List.set_cons_succ]
  refine regK_take (v := ?_) 8 (some 89) rfl rfl (by kernel_rfl) (by kernel_rfl) (by kernel_rfl) (fun _ _ _ h => h) (by rfl) (by kernel_rfl) HS.out (fun W => ?_) ?_
  rotate_left
  · (go_simp; try rfl)
  simp only [Act.put, List.setIfInBounds_toArray, List.set_cons_zero, List.set_cons_succ]
  refine regK_take (v := ?_) 9 (some 90) rfl rfl (by kernel_rfl) (by kernel_rfl) (by kernel_rfl) (fun _ _ _ h => h) (by rfl) (by kernel_rfl) HS.out (fun W => ?_) ?_
  rotate_left
  · (go_simp; try rfl)
  simp only [Act.put, List.setIfInBounds_toArray, List.set_cons_zero, List.set_cons_succ]
  refine regK_take (v := ?_) 10 (some 91) rfl rfl (by kernel_rfl) (by kernel_rfl) (by kernel_rfl) (fun _ _ _ h => h) (by rfl) (by kernel_rfl) HS.out (fun W => ?_) ?_
  rotate_left
  · (go_simp; try rfl)
  simp only [Act.put, List.setIfInBounds_toArray, List.set_cons_zero, List.set_cons_succ]
  refine regK_load 11 (some 92) (fun W hW => load_cell Try.underlying24 (cell_eq hW C2.out)) rfl rfl rfl rfl (by kernel_rfl) (by kernel_rfl) (by kernel_rfl) (fun _ _ _ h => h) (by rfl) (by kernel_rfl) HS.out ?_
  simp only [Act.put, List.setIfInBounds_toArray, List.set_cons_zero, List.set_cons_succ]
  refine regK_take (v := ?_) 14 (some 95) rfl rfl (by kernel_rfl) (by kernel_rfl) (by kernel_rfl) (fun _ _ _ h => h) (by rfl) (by kernel_rfl) HS.out (fun W => ?_) ?_
  rotate_left
  · (go_simp; try rfl)
  simp only [Act.put, List.setIfInBounds_toArray, List.set_cons_zero, List.set_cons_succ]
  refine regK_bar 12 rfl (by kernel_rfl) (by kernel_rfl) (fun K hK => ?_)
  go_simp
  refine hK.out _ _ trivial ?_
  clear hK K
  try simp only [Act.put, List.setIfInBounds_toArray, List.set_cons_zero, List.set_cons_succ]
  refine regS_eff 13 rfl (by kernel_rfl) (fun K hK => ?_)
  go_simp
  rw [U6.out]
  refine (refLeft_any (u1 ^^^ x2) 8 _).mono ?_
  rintro ee w3 ⟨rfl, rfl⟩
  rw [← A6.out]
  refine hK.out _ _ trivial ?_
  clear hK K
  try simp only [Act.put, List.setIfInBounds_toArray, List.set_cons_zero, List.set_cons_succ]
  refine regS_take (v := ?_) 15 (some 96) rfl rfl (by kernel_rfl) (by kernel_rfl) (by kernel_rfl) (fun _ _ _ h => h) (by rfl) (fun W hW => ?_) ?_
  rotate_left
  · (go_simp; try rfl)
  simp only [Act.put, List.setIfInBounds_toArray, List.set_cons_zero, List.set_cons_succ]
  refine regS_eff 16 rfl (by kernel_rfl) (fun K hK => ?_)
  refine step_st1 rfl 24 (.tmp 96) (.tmp 94) rfl (store_cell (k := .u32) Try.underlying24 s32 (w := W5.drew) C1.out (frozen_of_heap (w := W5.drew) M5.out _)) ?_
  generalize hV : World.setCell _ _ _ = W6
  obtain ⟨m1, _, _⟩ := st_row (B := 0) (l := L4 l a b c d x2 y1 z1 u1) hV (Nat.zero_le _) (by exact M5.out)
  rw [L4_setD x2 y1 z1 u1 u2] at m1
  have M6 := Lib.hid m1
  have N6 : Hid (Only g w W6) := by rw [← hV]; exact N5.out.drew.trans only_set
  clear m1 hV
  refine hK.out _ _ trivial ?_
  clear hK K
  try simp only [Act.put, List.setIfInBounds_toArray, List.set_cons_zero, List.set_cons_succ]
  refine regS_done (by kernel_rfl) ?_
  clear HS C1 C2 M5 N5 U6
  go_wp2_with fail
  have c1 := wcell M6.out c (by rw [L4_len]; have := H4.out; exact this.2.2.1)
  rw [L4_getC _ _ _ _ H4.out] at c1
  have c2 := wcell M6.out d (by rw [L4_len]; have := H4.out; exact this.2.2.2.1)
  rw [L4_getD _ _ _ _ H4.out] at c2
  have fz := frozen_of_heap M6.out c
  have X7 : ((z1.toNat : Int) + (u2.toNat : Int)) % 4294967296 = (z2.toNat : Int) := by rw [A7.out]; exact add32 _ _
  have Y7 := Lib.hid X7
  clear X7
  go_still_tail 13, (by kernel_rfl)
  change wpList _ _ _ _ _ W6.drew
  go_wp2_with fail
  rw [Y7.out]
  generalize hV : World.drew (World.setCell _ _ _) = W7
  have M7 : Hid (W7.heap[g]? = some (.cells ((L4 l a b c d x2 y1 z2 u2).map wv).toArray ty (0, 0))) := by
    obtain ⟨m1, _, _⟩ := st_row (B := 0) (W := W6) (l := L4 l a b c d x2 y1 z1 u2) (i := c) (v := z2) rfl (Nat.zero_le _) M6.out
    rw [L4_setC x2 y1 z1 u2 z2 H4.out] at m1
    rw [← hV]
    exact m1
  have N7 : Hid (Only g w W7) := by rw [← hV]; exact (N6.out.trans only_set).drew
  clear hV M6 N6 c1 c2 fz Y7
  have c1 := wcell M7.out b (by rw [L4_len]; have := H4.out; exact this.2.1)
  rw [L4_getB _ _ _ _ H4.out] at c1
  have c2 := wcell M7.out c (by rw [L4_len]; have := H4.out; exact this.2.2.1)
  rw [L4_getC _ _ _ _ H4.out] at c2
  have fz := frozen_of_heap M7.out b
  have X8 := xor32 y1 z2
  have U8 := Lib.hid X8
  clear X8
  have HS : Hid (W7.drew = W7.drew) := rfl
  have C1 : Hid (W7.drew.cell? ⟨g, b, none⟩ = _) := c1
  have C2 : Hid (W7.drew.cell? ⟨g, c, none⟩ = _) := c2
  clear c1 c2 fz
  refine regK_start (12) (fun W => W = W7.drew) (by kernel_rfl) ?_
  try simp only [Act.put, List.setIfInBounds_toArray, List.set_cons_zero, List.set_cons_succ]
  refine regK_take (v := ?_) 0 (some 110) rfl rfl (by kernel_rfl) (by kernel_rfl) (by kernel_rfl) (fun _ _ _ h => h) (by rfl) (by kernel_rfl) HS.out (fun W => ?_) ?_
  rotate_left
  · (go_simp; try rfl)
  simp only [Act.put, List.setIfInBounds_toArray, List.set_cons_zero, List.set_cons_succ]
  refine regK_take (v := ?_) 1 (some 111) rfl rfl (by kernel_rfl) (by kernel_rfl) (by kernel_rfl) (fun _ _ _ h => h) (by rfl) (by kernel_rfl) HS.out (fun W => ?_) ?_
  rotate_left
  · (go_simp; try rfl)
  simp only [Act.put, List.setIfInBounds_toArray, List.set_cons_zero, List.set_cons_succ]
  refine regK_take (v := ?_) 2 (some 112) rfl rfl (by kernel_rfl) (by kernel_rfl) (by kernel_rfl) (fun _ _ _ h => h) (by rfl) (by kernel_rfl) HS.out (fun W => ?_) ?_
  rotate_left
  · (go_simp; try rfl)
  simp only [Act.put, List.setIfInBounds_toArray, List.set_cons_zero, List.set_cons_succ]
  refine regK_take (v := ?_) 3 (some 113) rfl rfl (by kernel_rfl) (by kernel_rfl) (by kernel_rfl) (fun _ _ _ h => h) (by rfl) (by kernel_rfl) HS.out (fun W => ?_) ?_
  rotate_left
  · (go_simp; try rfl)
  simp only [Act.put, List.setIfInBounds_toArray, List.set_cons_zero, List.set_cons_succ]
  refine regK_take (v := ?_) 4 (some 114) rfl rfl (by kernel_rfl) (by kernel_rfl) (by kernel_rfl) (fun _ _ _ h => h) (by rfl) (by kernel_rfl) HS.out (fun W => ?_) ?_
  rotate_left
  · (go_simp; try rfl)
  simp only [Act.put, List.setIfInBounds_toArray, List.set_cons_zero, List.set_cons_succ]
  refine regK_take (v := ?_) 5 (some 115) rfl rfl (by kernel_rfl) (by kernel_rfl) (by kernel_rfl) (fun _ _ _ h => h) (by rfl) (by kernel_rfl) HS.out (fun W => ?_) ?_
  rotate_left
  · (go_simp; try rfl)
  simp only [Act.put, List.setIfInBounds_toArray, List.set_cons_zero, List.set_cons_succ]
  refine regK_load 6 (some 116) (fun W hW => load_cell Try.underlying24 (cell_eq hW C1.out)) rfl rfl rfl rfl (by kernel_rfl) (by kernel_rfl) (by kernel_rfl) (fun _ _ _ h => h) (by rfl) (by kernel_rfl) HS.out ?_
  simp only [Act.put, List.setIfInBounds_toArray, List.set_cons_zero, List.set_cons_succ]
  refine regK_take (v := ?_) 7 (some 117) rfl rfl (by kernel_rfl) (by kernel_rfl) (by kernel_rfl) (fun _ _ _ h => h) (by rfl) (by kernel_rfl) HS.out (fun W => ?_) ?_
  rotate_left
  · (go_simp; try rfl)
  simp only [Act.put, List.setIfInBounds_toArray, List.set_cons_zero, List.set_cons_succ]
  refine regK_take (v := ?_) 8 (some 118) rfl rfl (by kernel_rfl) (by kernel_rfl) (by kernel_rfl) (fun _ _ _ h => h) (by rfl) (by kernel_rfl) HS.out (fun W => ?_) ?_
  rotate_left
  · (go_simp; try rfl)
  simp only [Act.put, List.setIfInBounds_toArray, List.set_cons_zero, List.set_cons_succ]
  refine regK_take (v := ?_) 9 (some 119) rfl rfl (by kernel_rfl) (by kernel_rfl) (by kernel_rfl) (fun _ _ _ h => h) (by rfl) (by kernel_rfl) HS.out (fun W => ?_) ?_
  rotate_left
  · (go_simp; try rfl)
  simp only [Act.put, List.setIfInBounds_toArray, List.set_cons_zero, List.set_cons_succ]
  refine regK_take (v := ?_) 10 (some 120) rfl rfl (by kernel_rfl) (by kernel_rfl) (by kernel_rfl) (fun _ _ _ h => h) (by rfl) (by kernel_rfl) HS.out (fun W => ?_) ?_
  rotate_left
  · (go_simp; try rfl)
  simp only [Act.put, List.setIfInBounds_toArray, List.set_cons_zero, List.set_cons_succ]
  refine regK_load 11 (some 121) (fun W hW => load_cell Try.underlying24 (cell_eq hW C2.out)) rfl rfl rfl rfl (by kernel_rfl) (by kernel_rfl) (by kernel_rfl) (fun _ _ _ h => h) (by rfl) (by kernel_rfl) HS.out ?_
  simp only [Act.put, List.setIfInBounds_toArray, List.set_cons_zero, List.set_cons_succ]
  refine regK_take (v := ?_) 14 (some 124) rfl rfl (by kernel_rfl) (by kernel_rfl) (by kernel_rfl) (fun _ _ _ h => h) (by rfl) (by kernel_rfl) HS.out (fun W => ?_) ?_
  rotate_left
  · (go_simp; try rfl)
  simp only [Act.put, List.setIfInBounds_toArray, List.set_cons_zero, List.set_cons_succ]
  refine regK_bar 12 rfl (by kernel_rfl) (by kernel_rfl) (fun K hK => ?_)
  go_simp
  refine hK.out _ _ trivial ?_
  clear hK K
  try simp only [Act.put, List.setIfInBounds_toArray, List.set_cons_zero, List.set_cons_succ]
  refine regS_eff 13 rfl (by kernel_rfl) (fun K hK => ?_)
  go_simp
  rw [U8.out]
  refine (refLeft_any (y1 ^^^ z2) 7 _).mono ?_
  rintro ee w3 ⟨rfl, rfl⟩
  rw [← A8.out]
  refine hK.out _ _ trivial ?_
  clear hK K
  try simp only [Act.put, List.setIfInBounds_toArray, List.set_cons_zero, List.set_cons_succ]
  refine regS_take (v := ?_) 15 (some 125) rfl rfl (by kernel_rfl) (by kernel_rfl) (by kernel_rfl) (fun _ _ _ h => h) (by rfl) (fun W hW => ?_) ?_
  rotate_left
  · (go_simp; try rfl)
  simp only [Act.put, List.setIfInBounds_toArray, List.set_cons_zero, List.set_cons_succ]
  refine regS_eff 16 rfl (by kernel_rfl) (fun K hK => ?_)
  refine step_st1 rfl 24 (.tmp 125) (.tmp 123) rfl (store_cell (k := .u32) Try.underlying24 s32 (w := W7.drew) C1.out (frozen_of_heap (w := W7.drew) M7.out _)) ?_
  generalize hV : World.setCell _ _ _ = W8
  obtain ⟨m1, _, _⟩ := st_row (B := 0) (l := L4 l a b c d x2 y1 z2 u2) hV (Nat.zero_le _) (by exact M7.out)
  rw [L4_setB x2 y1 z2 u2 y2 H4.out] at m1
  have M8 := Lib.hid m1
  have N8 : Hid (Only g w W8) := by rw [← hV]; exact N7.out.drew.trans only_set
  clear m1 hV
  refine hK.out _ _ trivial ?_
  clear hK K
  try simp only [Act.put, List.setIfInBounds_toArray, List.set_cons_zero, List.set_cons_succ]
  refine regS_done (by kernel_rfl) ?_
  clear HS C1 C2 M7 N7 U8
  go_wp2
  exact bodyPost_end (v := .tuple #[]) (by simp [results, Try.results23, go_sem]) rfl ⟨⟨_, rfl⟩, M8.out, N8.out⟩
end Go.Proofs.Yteboeeijgpghoaa
