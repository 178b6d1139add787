/- algo.kinds: the walk. -/
import Derived.Test.YtnhhgiebnhlfcaaGreatDoorAlg3
namespace Go.Proofs.YtnhhgiebnhlfcaaGreatDoor
open Go.RowKit Go.Shelf
set_option linter.unusedVariables false
set_option linter.unusedSimpArgs false
set_option maxRecDepth 100000
def isF (v : Value) : Prop := ∃ F cap, v = .func F #[] cap
theorem fun_fit {n0 : Nat} {W : World} {v : Value} {p : Nat → Bool} (h : FitV n0 W v p) : isF v := by obtain ⟨F, cap, h1, _⟩ := h; exact ⟨_, _, h1⟩
theorem fun_room {n0 : Nat} {W : World} {v : Value} {r : Nat → Int × Int} (h : RoomV n0 W v r) : isF v := by obtain ⟨F, cap, h1, _⟩ := h; exact ⟨_, _, h1⟩
theorem fun_aes {n0 : Nat} {W : World} {v : Value} {F : Nat} (h : ByAes n0 W v F) : isF v := by obtain ⟨g, t, _, h1, _⟩ := h; exact ⟨_, _, h1⟩
theorem fun_key {n0 : Nat} {W : World} {v : Value} {F : Nat} (h : ByKey n0 W v F) : isF v := by obtain ⟨g, t, _, h1, _⟩ := h; exact ⟨_, _, h1⟩
theorem bldW (r d : Value) (hr : isF r) (hd : isF d) (W : World) : (Instr.build 52 #[(0, r), (1, d)]).run Tryz.prog W = .ok (.agg #[r, d]) W := by
  obtain ⟨F, c, rfl⟩ := hr
  obtain ⟨F', c', rfl⟩ := hd
  kernel_rfl
theorem bldK1 (c : Int) (k i r d : Value) (hk : isF k) (hi : isF i) (hr : isF r) (hd : isF d) (W : World) : (Instr.build 54 #[(0, .int .i64 c), (1, k), (2, i), (4, .agg #[r, d])]).run Tryz.prog W = .ok (.agg #[.int .i64 c, k, i, .int .i64 0, r, d, .nilFunc, .nilFunc]) W := by
  obtain ⟨F, c1, rfl⟩ := hk
  obtain ⟨F2, c2, rfl⟩ := hi
  obtain ⟨F3, c3, rfl⟩ := hr
  obtain ⟨F4, c4, rfl⟩ := hd
  kernel_rfl
theorem bldK2 (c : Int) (k i r d r2 d2 : Value) (hk : isF k) (hi : isF i) (hr : isF r) (hd : isF d) (hr2 : isF r2) (hd2 : isF d2) (W : World) : (Instr.build 54 #[(0, .int .i64 c), (1, k), (2, i), (4, .agg #[r, d]), (5, .agg #[r2, d2])]).run Tryz.prog W = .ok (.agg #[.int .i64 c, k, i, .int .i64 0, r, d, r2, d2]) W := by
  obtain ⟨F, c1, rfl⟩ := hk
  obtain ⟨F2, c2, rfl⟩ := hi
  obtain ⟨F3, c3, rfl⟩ := hr
  obtain ⟨F4, c4, rfl⟩ := hd
  obtain ⟨F5, c5, rfl⟩ := hr2
  obtain ⟨F6, c6, rfl⟩ := hd2
  kernel_rfl
theorem bldK3 (c : Int) (k i r d r2 d2 : Value) (hk : isF k) (hi : isF i) (hr : isF r) (hd : isF d) (hr2 : isF r2) (hd2 : isF d2) (W : World) : (Instr.build 54 #[(0, .int .i64 c), (1, k), (2, i), (3, .int .i64 1000), (4, .agg #[r, d]), (5, .agg #[r2, d2])]).run Tryz.prog W = .ok (.agg #[.int .i64 c, k, i, .int .i64 1000, r, d, r2, d2]) W := by
  obtain ⟨F, c1, rfl⟩ := hk
  obtain ⟨F2, c2, rfl⟩ := hi
  obtain ⟨F3, c3, rfl⟩ := hr
  obtain ⟨F4, c4, rfl⟩ := hd
  obtain ⟨F5, c5, rfl⟩ := hr2
  obtain ⟨F6, c6, rfl⟩ := hd2
  kernel_rfl
theorem exec_bldF {o : Oper} {a : Act} {W : World} {t : TypeId} {parts : Array (Nat × Operand)} {v : Value} (ho : o.op = .build t parts) (hrun : (Instr.build t (parts.map fun (i, x) => (i, a.eval x))).run Tryz.prog W = .ok v W) :
    (execOp a.eval o).run Tryz.prog W = .ok (.value v) W := by
  unfold execOp
  simp only [ho, Sem.run_bind, hrun, Result.andThen_ok, Sem.run_pure]
theorem Act.eval_const' (a : Act) (v : Value) : a.eval (.const v) = v := rfl
theorem allEdges {es : Array Edge} {L : Nat → Bool} (n : Nat) (h : ((List.range n).all fun i => es.toList.any fun e => Region.binds .any e && e.on == i) = true) (hd : ∀ e ∈ es, Region.binds .any e = true → L e.on = true) : ∀ i, i < n → L i = true := by
  intro i hi
  rw [List.all_eq_true] at h
  have := h i (by simpa using hi)
  rw [List.any_eq_true] at this
  obtain ⟨e, he, h2⟩ := this
  simp only [Bool.and_eq_true, beq_iff_eq] at h2
  rw [← h2.2]
  exact hd e (by simpa using he) h2.1
theorem KJ.t51 {n0 : Nat} {w0 : World} {v1 v2 v3 : Value} {L : Nat → Bool} {a : Act} {W : World} (H : KJ n0 w0 v1 v2 v3 L a W) (hLi : L 51 = false) (hall : ∀ i, i < 51 → L i = true) :
    KJ n0 w0 v1 v2 v3 (fun j => if j = 51 then true else L j) (a.put (some 56) (a.eval (.tmp 11))) W := by
  have h52 : L 52 = false := by
    cases h : L 52 with
    | false => rfl
    | true => rw [(H.t.2.1 h).1] at hLi; cases hLi
  have ev : ∀ s, s ≠ 56 → (a.put (some 56) (a.eval (.tmp 11))).eval (.tmp s) = a.eval (.tmp s) := fun s hs => Act.eval_put_ne a 56 s _ (fun e => hs e.symm)
  have hdk : ∀ i, i < 51 → dk i ≠ 56 := by decide
  refine ⟨by rw [put_size]; exact H.sz, H.df, H.n, H.b, by rw [ev 1 (by decide)]; exact H.s1, by rw [ev 2 (by decide)]; exact H.s2, by rw [ev 3 (by decide)]; exact H.s3, fun j hj hL => ?_, fun hL => ?_, fun k hk => ?_, ⟨fun h => ?_, fun h => ?_, fun _ i hi => ?_⟩⟩
  · rw [ev (dk j) (hdk j hj)]
    exact H.f j hj (hall j hj)
  · rw [done_up rfl, ev 11 (by decide)]
    exact H.m (hall 0 (by omega))
  · have := hall 0 (by omega)
    simp [this]
  · rw [Act.eval_put_same a 56 _ (by have := H.sz; omega), ev 11 (by decide)]
  · exact (upF h52 (by omega) h).elim
  · have : i ≠ 51 := by omega
    simpa [this] using hall i hi
theorem KJ.t52 {n0 : Nat} {w0 : World} {v1 v2 v3 : Value} {L : Nat → Bool} {a : Act} {W : World} (H : KJ n0 w0 v1 v2 v3 L a W) (hLi : L 52 = false) (h51 : L 51 = true) :
    KJ n0 w0 v1 v2 v3 (fun j => if j = 52 then true else L j) (a.put (some 0) (a.eval (.tmp 56))) W := by
  have ev : ∀ s, s ≠ 0 → (a.put (some 0) (a.eval (.tmp 56))).eval (.tmp s) = a.eval (.tmp s) := fun s hs => Act.eval_put_ne a 0 s _ (fun e => hs e.symm)
  have hdk : ∀ i, i < 51 → dk i ≠ 0 := by decide
  have hall := H.t.2.2 h51
  refine ⟨by rw [put_size]; exact H.sz, H.df, H.n, H.b, by rw [ev 1 (by decide)]; exact H.s1, by rw [ev 2 (by decide)]; exact H.s2, by rw [ev 3 (by decide)]; exact H.s3, fun j hj hL => ?_, fun hL => ?_, fun k hk => ?_, ⟨fun h => ?_, fun h => ⟨?_, ?_⟩, fun _ i hi => ?_⟩⟩
  · rw [ev (dk j) (hdk j hj)]
    exact H.f j hj (hall j hj)
  · rw [done_up rfl, ev 11 (by decide)]
    exact H.m (hall 0 (by omega))
  · have := hall 0 (by omega)
    simp [this]
  · rw [ev 56 (by decide), ev 11 (by decide)]
    exact H.t.1 h51
  · simp [h51]
  · rw [Act.eval_put_same a 0 _ (by have := H.sz; omega), ev 11 (by decide)]
    exact H.t.1 h51
  · have : i ≠ 52 := by omega
    simpa [this] using hall i hi
/-- the map of what is known -/
def KindsV (n0 : Nat) (W : World) (v : Value) : Prop := ∃ g es clock ks, v = .map (some g) ∧ W.heap[g]? = some (.map es clock) ∧ Ents es.toList ks ∧ (∀ x : Int, x < 1 ∨ 6 < x → kGet ks x = none) ∧ ∀ k : Nat, 1 ≤ k → k ≤ 6 → ∃ E, kGet ks (k : Int) = some E ∧ KindAt n0 W E k
theorem done_all {L : Nat → Bool} (hL : ∀ j, L j = true) (k : Nat) : DoneK L k ↔ 1 ≤ k ∧ k ≤ 6 := by
  constructor
  · rintro ⟨i, h, _⟩
    unfold insK at h
    split at h <;> first | omega | cases h
  · rintro ⟨h1, h2⟩
    have : k = 1 ∨ k = 2 ∨ k = 3 ∨ k = 4 ∨ k = 5 ∨ k = 6 := by omega
    rcases this with rfl | rfl | rfl | rfl | rfl | rfl <;> exact ⟨_, rfl, hL _⟩
theorem KJ.end {n0 : Nat} {w0 : World} {v1 v2 v3 : Value} {L : Nat → Bool} {a : Act} {W : World} (H : KJ n0 w0 v1 v2 v3 L a W) (hL : ∀ j, L j = true) : KindsV n0 W (a.eval (.tmp 0)) := by
  obtain ⟨g, es, clock, ks, h1, h2, h3, h4, h5, h6⟩ := H.m (hL 0)
  rw [(H.t.2.1 (hL 52)).2]
  refine ⟨g, es, clock, ks, h1, h3, h4, fun x hx => ?_, fun k hk1 hk2 => ?_⟩
  · cases h : kGet ks x with
    | none => rfl
    | some E =>
      obtain ⟨k, rfl, hK⟩ := h5 x E h
      have := (done_all hL k).1 ((h6 k).1 ⟨E, h⟩)
      omega
  · obtain ⟨E, hE⟩ := (h6 k).2 ((done_all hL k).2 ⟨hk1, hk2⟩)
    obtain ⟨k', hk', hK⟩ := h5 _ E hE
    have : k' = k := by omega
    subst this
    exact ⟨E, hE, hK⟩
set_option maxHeartbeats 8000000 in
theorem kinds_any (n0 : Nat) (w : World) (h0 : n0 ≤ w.heap.size) : Calls Tryz.prog 31 #[] w fun e w' => ∃ v, e = .returned v ∧ KindsV n0 w' v ∧ Below w.heap.size w w' := by
  have hz : ∀ W, (zeroValue 52).run Tryz.prog W = .ok (.agg #[.nilFunc, .nilFunc]) W := fun W => by kernel_rfl
  go_enter Tryz.func31, Tryz.ntmps31
  go_wp2_with fail
  have I0 : IntsV n0 (w.alloc (.cells #[.int .i64 0] 3)) (.slice (some ⟨w.heap.size, 0, none⟩) 1 1) [0] := ⟨_, _, by omega, rfl, heap_alloc_new' w _⟩
  have B0 : Hid (Below w.heap.size w (w.alloc (.cells #[.int .i64 0] 3))) := (Below.refl _ _).alloc (Nat.le_refl _) _
  generalize w.alloc _ = W0 at I0 B0 ⊢
  refine (either_any n0 _ [0] W0 (by (have := B0.out.size; omega)) I0 (by decide)).mono ?_
  rintro e w1 ⟨v1, rfl, hv1, hb1⟩
  have V1 := Lib.hid hv1
  have B1 := Lib.hid (B0.out.step hb1)
  clear hv1 hb1 I0 B0
  go_wp2_with fail
  have I1 : IntsV n0 (w1.alloc (.cells #[.int .i64 16, .int .i64 32] 3)) (.slice (some ⟨w1.heap.size, 0, none⟩) 2 2) [16, 32] := ⟨_, _, by (have := B1.out.size; omega), rfl, heap_alloc_new' w1 _⟩
  have X1 : Hid (Below w1.heap.size w1 (w1.alloc (.cells #[.int .i64 16, .int .i64 32] 3))) := (Below.refl _ _).alloc (Nat.le_refl _) _
  generalize w1.alloc _ = W1 at I1 X1 ⊢
  refine (either_any n0 _ [16, 32] W1 (by (have := B1.out.size; have := X1.out.size; omega)) I1 (by decide)).mono ?_
  rintro e w2 ⟨v2, rfl, hv2, hb2⟩
  have V2 := Lib.hid hv2
  have X2 := Lib.hid (X1.out.step hb2)
  have V1 := Lib.hid (V1.out.keep (KeepL.of X2.out))
  have B2 := Lib.hid (B1.out.step X2.out)
  clear hv2 hb2 I1 X1 X2 B1
  go_wp2_with fail
  refine (less_any n0 0 w2 (by (have := B2.out.size; omega)) (by omega)).mono ?_
  rintro e w3 ⟨v3, rfl, hv3, hb3⟩
  have V3 := Lib.hid hv3
  have V1 := Lib.hid (V1.out.keep (KeepL.of hb3))
  have V2 := Lib.hid (V2.out.keep (KeepL.of hb3))
  have B3 := Lib.hid (B2.out.step hb3)
  clear hv3 hb3 B2
  go_wp2_with fail
  refine (byAES_any n0 51 w3 (by (have := B3.out.size; omega))).mono ?_
  rintro e w4 ⟨v4, rfl, hv4, hb4⟩
  have V4 := Lib.hid hv4
  have V1 := Lib.hid (V1.out.keep (KeepL.of hb4))
  have V2 := Lib.hid (V2.out.keep (KeepL.of hb4))
  have V3 := Lib.hid (V3.out.keep (KeepL.of hb4))
  have B4 := Lib.hid (B3.out.step hb4)
  clear hv4 hb4 B3
  have hbd := bldW v3 v4 (fun_room V3.out) (fun_aes V4.out)
  have h1v : ∀ v ∈ [v3, v4], v.oneCell' = true := by
    obtain ⟨F, c, rfl⟩ := fun_room V3.out
    obtain ⟨F', c', rfl⟩ := fun_aes V4.out
    intro v hv
    simp only [List.mem_cons, List.not_mem_nil, or_false] at hv
    rcases hv with rfl | rfl <;> rfl
  go_wp2_with (first
    | (refine wpList_run (o := ⟨some 10, _, _, _, _, _⟩) rfl (v := .agg #[v3, v4]) (w' := w4) (exec_bldF rfl (by simp only [List.map_toArray, List.map_cons, List.map_nil]; exact hbd w4)) ?_)
    | (refine wpList_st rfl 52 (.tmp 3) (.tmp 10) rfl (store_arr (cs := [v3, v4]) (old := [.nilFunc, .nilFunc]) (by kernel_rfl) h1v (heap_alloc_new' w4 _) rfl) ?_
       generalize hV : World.setRow _ _ _ = W5
       have h3 := heap_of_setRow hV (heap_alloc_new' w4 _)
       have X5 : Hid (Below w4.heap.size w4 W5) := ((Below.refl _ w4).alloc (Nat.le_refl _) _).trans (below_of_setRow hV (Nat.le_refl _) (by simp))
       clear hV)
    | fail)
  have hv1 : FitV n0 W5 v1 _ := V1.out.keep (KeepL.of X5.out)
  have hv2 : FitV n0 W5 v2 _ := V2.out.keep (KeepL.of X5.out)
  have hr3 : RoomV n0 W5 v3 _ := V3.out.keep (KeepL.of X5.out)
  have hd3 : ByAes n0 W5 v4 _ := V4.out.keep (KeepL.of X5.out)
  have B5 := Lib.hid (B4.out.step X5.out)
  obtain ⟨r3, hr3e⟩ : ∃ x, x = v3 := ⟨_, rfl⟩
  obtain ⟨d3, hd3e⟩ : ∃ x, x = v4 := ⟨_, rfl⟩
  rw [← hr3e] at h3 hr3
  rw [← hd3e] at h3 hd3
  clear V1 V2 V3 V4 X5 B4 hbd h1v hz hr3e hd3e
  refine reg_inv (KJ n0 W5 v1 v2 (.pointer (some ⟨w4.heap.size, 0, none⟩))) (by kernel_rfl) (by kernel_rfl) ?_
    (And.intro ?_ (And.intro ?_ (And.intro ?_ (And.intro ?_ (And.intro ?_ (And.intro ?_ (And.intro ?_ (And.intro ?_ (And.intro ?_ (And.intro ?_ (And.intro ?_ (And.intro ?_ (And.intro ?_ (And.intro ?_ (And.intro ?_ (And.intro ?_ (And.intro ?_ (And.intro ?_ (And.intro ?_ (And.intro ?_ (And.intro ?_ (And.intro ?_ (And.intro ?_ (And.intro ?_ (And.intro ?_ (And.intro ?_ (And.intro ?_ (And.intro ?_ (And.intro ?_ (And.intro ?_ (And.intro ?_ (And.intro ?_ (And.intro ?_ (And.intro ?_ (And.intro ?_ (And.intro ?_ (And.intro ?_ (And.intro ?_ (And.intro ?_ (And.intro ?_ (And.intro ?_ (And.intro ?_ (And.intro ?_ (And.intro ?_ (And.intro ?_ (And.intro ?_ (And.intro ?_ (And.intro ?_ (And.intro ?_ (And.intro ?_ (And.intro ?_ (And.intro ?_ (And.intro ?_ trivial))))))))))))))))))))))))))))))))))))))))))))))))))))) ?_
  · intro L hL
    have no : ∀ j, j < 53 → L j = true → False := fun j hj h => by rw [hL j hj] at h; cases h
    exact ⟨rfl, rfl, Nat.le_trans h0 B5.out.size, (Below.refl _ _).drew, rfl, rfl, rfl, fun i hi h => (no i (by omega) h).elim, fun h => (no 0 (by decide) h).elim, fun k ⟨i, h1, h2⟩ => (no i (by have := insK_lt h1; omega) h2).elim, ⟨fun h => (no 51 (by decide) h).elim, fun h => (no 52 (by decide) h).elim, fun h => (no 51 (by decide) h).elim⟩⟩
  · intro L a W H hLi hd K0 hK
    refine step_valF rfl (v := .map (some W.heap.size)) (w' := W.alloc (.map #[] 0)) (by rfl) ?_
    exact hK.out _ _ (H.mk0 hLi)
  · intro L a W H hLi hd K0 hK
    refine step_valF rfl (exec_moveK (.inl rfl)) ?_
    exact hK.out _ _ (H.ext 1 12 (by omega) (by omega) rfl rfl hLi (Below.refl _ _) _ (by rw [H.s1]; exact hv1.keep (KeepL.of H.b)))
  · intro L a W H hLi hd K0 hK
    refine step_valF rfl (exec_moveK (.inl rfl)) ?_
    exact hK.out _ _ (H.ext 2 13 (by omega) (by omega) rfl rfl hLi (Below.refl _ _) _ (by rw [H.s1]; exact hv1.keep (KeepL.of H.b)))
  · intro L a W H hLi hd K0 hK
    refine step_callF rfl 52 #[.const (.int .i64 32)] _ rfl (enters_of Tryz.func52 (by kernel_rfl) rfl) (by first | (simp only [List.map_toArray, List.map_cons, List.map_nil]; done) | (simp only [List.map_toArray, List.map_cons, List.map_nil]; rfl)) (always_any n0 32 W (Nat.le_trans H.n H.b.size)) ?_
    rintro e W' ⟨v, rfl, hv, hb⟩
    exact ⟨v, rfl, hK.out _ _ (H.ext 3 14 (by omega) (by omega) rfl rfl hLi hb v hv)⟩
  · intro L a W H hLi hd K0 hK
    have hr := (H.f 3 (by omega) (hd ⟨3, .data⟩ (by simp) rfl))
    refine step_valF rfl (v := .agg #[(a.eval (.tmp 14)), (.func (.func 53) #[] #[])]) (w' := W) (exec_bldF rfl (by simp only [List.map_toArray, List.map_cons, List.map_nil]; exact bldW (a.eval (.tmp 14)) (.func (.func 53) #[] #[]) (fun_room hr) ⟨_, _, rfl⟩ W)) ?_
    exact hK.out _ _ (H.ext 4 15 (by omega) (by omega) rfl rfl hLi (Below.refl _ _) _ ⟨_, _, rfl, hr, rfl⟩)
  · intro L a W H hLi hd K0 hK
    have hk := (H.f 1 (by omega) (hd ⟨1, .data⟩ (by simp) rfl))
    have hi := (H.f 2 (by omega) (hd ⟨2, .data⟩ (by simp) rfl))
    obtain ⟨r1, d1, e1, hr1, hd1⟩ := (show WayV n0 W (a.eval (.tmp 15)) 1 false from (H.f 4 (by omega) (hd ⟨4, .data⟩ (by simp) rfl)))
    refine step_valF rfl (v := .agg #[.int .i64 1, a.eval (.tmp 12), a.eval (.tmp 13), .int .i64 0, r1, d1, .nilFunc, .nilFunc]) (w' := W) (exec_bldF rfl (by
      simp only [List.map_toArray, List.map_cons, List.map_nil, Act.eval_const']
      rw [e1]
      exact bldK1 1 _ _ r1 d1 (fun_fit hk) (fun_fit hi) (fun_room hr1) ⟨_, _, hd1⟩ W)) ?_
    exact hK.out _ _ (H.ext 5 16 (by omega) (by omega) rfl rfl hLi (Below.refl _ _) _ ⟨_, _, _, _, _, _, rfl, hk, hi, ⟨hr1, hd1⟩, ⟨rfl, rfl⟩⟩)
  · intro L a W H hLi hd K0 hK
    obtain ⟨W', hrun, hJ⟩ := H.ins 6 1 rfl hLi (hd ⟨0, .data⟩ (by simp) rfl) (a.eval (.tmp 16)) (H.f 5 (by omega) (hd ⟨5, .data⟩ (by simp) rfl)) 66 3 54 Tryz.underlying66 Tryz.underlying3
    refine step_insF rfl 66 (.tmp 11) (.const (.int .i64 1)) (.tmp 16) rfl hrun ?_
    exact hK.out _ _ hJ
  · intro L a W H hLi hd K0 hK
    refine step_callF rfl 54 #[.const (.int .i64 1), .const (.int .i64 100)] _ rfl (enters_of Tryz.func54 (by kernel_rfl) rfl) (by first | (simp only [List.map_toArray, List.map_cons, List.map_nil]; done) | (simp only [List.map_toArray, List.map_cons, List.map_nil]; rfl)) (among_any n0 1 100 W (Nat.le_trans H.n H.b.size)) ?_
    rintro e W' ⟨v, rfl, hv, hb⟩
    exact ⟨v, rfl, hK.out _ _ (H.ext 7 17 (by omega) (by omega) rfl rfl hLi hb v hv)⟩
  · intro L a W H hLi hd K0 hK
    refine step_valF rfl (exec_moveK (.inl rfl)) ?_
    exact hK.out _ _ (H.ext 8 18 (by omega) (by omega) rfl rfl hLi (Below.refl _ _) _ (by rw [H.s1]; exact hv1.keep (KeepL.of H.b)))
  · intro L a W H hLi hd K0 hK
    refine step_callF rfl 52 #[.const (.int .i64 32)] _ rfl (enters_of Tryz.func52 (by kernel_rfl) rfl) (by first | (simp only [List.map_toArray, List.map_cons, List.map_nil]; done) | (simp only [List.map_toArray, List.map_cons, List.map_nil]; rfl)) (always_any n0 32 W (Nat.le_trans H.n H.b.size)) ?_
    rintro e W' ⟨v, rfl, hv, hb⟩
    exact ⟨v, rfl, hK.out _ _ (H.ext 9 19 (by omega) (by omega) rfl rfl hLi hb v hv)⟩
  · intro L a W H hLi hd K0 hK
    have hr := (H.f 9 (by omega) (hd ⟨9, .data⟩ (by simp) rfl))
    refine step_valF rfl (v := .agg #[(a.eval (.tmp 19)), (.func (.func 55) #[] #[])]) (w' := W) (exec_bldF rfl (by simp only [List.map_toArray, List.map_cons, List.map_nil]; exact bldW (a.eval (.tmp 19)) (.func (.func 55) #[] #[]) (fun_room hr) ⟨_, _, rfl⟩ W)) ?_
    exact hK.out _ _ (H.ext 10 20 (by omega) (by omega) rfl rfl hLi (Below.refl _ _) _ ⟨_, _, rfl, hr, rfl⟩)
  · intro L a W H hLi hd K0 hK
    have hk := (H.f 7 (by omega) (hd ⟨7, .data⟩ (by simp) rfl))
    have hi := (H.f 8 (by omega) (hd ⟨8, .data⟩ (by simp) rfl))
    obtain ⟨r1, d1, e1, hr1, hd1⟩ := (show WayV n0 W (a.eval (.tmp 20)) 2 false from (H.f 10 (by omega) (hd ⟨10, .data⟩ (by simp) rfl)))
    refine step_valF rfl (v := .agg #[.int .i64 1, a.eval (.tmp 17), a.eval (.tmp 18), .int .i64 0, r1, d1, .nilFunc, .nilFunc]) (w' := W) (exec_bldF rfl (by
      simp only [List.map_toArray, List.map_cons, List.map_nil, Act.eval_const']
      rw [e1]
      exact bldK1 1 _ _ r1 d1 (fun_fit hk) (fun_fit hi) (fun_room hr1) ⟨_, _, hd1⟩ W)) ?_
    exact hK.out _ _ (H.ext 11 21 (by omega) (by omega) rfl rfl hLi (Below.refl _ _) _ ⟨_, _, _, _, _, _, rfl, hk, hi, ⟨hr1, hd1⟩, ⟨rfl, rfl⟩⟩)
  · intro L a W H hLi hd K0 hK
    obtain ⟨W', hrun, hJ⟩ := H.ins 12 2 rfl hLi (hd ⟨0, .data⟩ (by simp) rfl) (a.eval (.tmp 21)) (H.f 11 (by omega) (hd ⟨11, .data⟩ (by simp) rfl)) 66 3 54 Tryz.underlying66 Tryz.underlying3
    refine step_insF rfl 66 (.tmp 11) (.const (.int .i64 2)) (.tmp 21) rfl hrun ?_
    exact hK.out _ _ hJ
  · intro L a W H hLi hd K0 hK
    refine step_valF rfl (exec_moveK (.inl rfl)) ?_
    exact hK.out _ _ (H.ext 13 22 (by omega) (by omega) rfl rfl hLi (Below.refl _ _) _ (by rw [H.s2]; exact hv2.keep (KeepL.of H.b)))
  · intro L a W H hLi hd K0 hK
    refine step_valF rfl (v := .slice (some ⟨W.heap.size, 0, none⟩) 1 1) (w' := W.alloc (.cells #[.int .i64 16] 3)) (by kernel_rfl) ?_
    exact hK.out _ _ (H.ext 14 23 (by omega) (by omega) rfl rfl hLi ((Below.refl _ _).alloc (Nat.le_refl _) _) _ ⟨W.heap.size, _, Nat.le_trans H.n H.b.size, rfl, heap_alloc_new' W _⟩)
  · intro L a W H hLi hd K0 hK
    refine step_callF rfl 48 #[.tmp 23] _ rfl (enters_of Tryz.func48 (by kernel_rfl) rfl) (by first | (simp only [List.map_toArray, List.map_cons, List.map_nil]; done) | (simp only [List.map_toArray, List.map_cons, List.map_nil]; rfl)) (either_any n0 (a.eval (.tmp 23)) [16] W (Nat.le_trans H.n H.b.size) (H.f 14 (by omega) (hd ⟨14, .data⟩ (by simp) rfl)) (by decide)) ?_
    rintro e W' ⟨v, rfl, hv, hb⟩
    exact ⟨v, rfl, hK.out _ _ (H.ext 15 24 (by omega) (by omega) rfl rfl hLi hb v hv)⟩
  · intro L a W H hLi hd K0 hK
    refine step_ldF rfl 52 (.tmp 3) rfl (by rw [H.s3]; exact load_arr (cs := [r3, d3]) Tryz.underlying52 rfl (by kernel_rfl) ((H.b.block _ (lt_of_heap h3)).trans h3)) ?_
    exact hK.out _ _ (H.ext 16 25 (by omega) (by omega) rfl rfl hLi (Below.refl _ _) _ ⟨r3, d3, rfl, hr3.keep (KeepL.of H.b), hd3.keep (KeepL.of H.b)⟩)
  · intro L a W H hLi hd K0 hK
    refine step_ldF rfl 52 (.tmp 3) rfl (by rw [H.s3]; exact load_arr (cs := [r3, d3]) Tryz.underlying52 rfl (by kernel_rfl) ((H.b.block _ (lt_of_heap h3)).trans h3)) ?_
    exact hK.out _ _ (H.ext 17 26 (by omega) (by omega) rfl rfl hLi (Below.refl _ _) _ ⟨r3, d3, rfl, hr3.keep (KeepL.of H.b), hd3.keep (KeepL.of H.b)⟩)
  · intro L a W H hLi hd K0 hK
    have hk := (H.f 13 (by omega) (hd ⟨13, .data⟩ (by simp) rfl))
    have hi := (H.f 15 (by omega) (hd ⟨15, .data⟩ (by simp) rfl))
    obtain ⟨r1, d1, e1, hr1, hd1⟩ := (show WayV n0 W (a.eval (.tmp 25)) 3 false from (H.f 16 (by omega) (hd ⟨16, .data⟩ (by simp) rfl)))
    obtain ⟨r2, d2, e2, hr2, hd2⟩ := (show WayV n0 W (a.eval (.tmp 26)) 3 true from (H.f 17 (by omega) (hd ⟨17, .data⟩ (by simp) rfl)))
    refine step_valF rfl (v := .agg #[.int .i64 2, a.eval (.tmp 22), a.eval (.tmp 24), .int .i64 0, r1, d1, r2, d2]) (w' := W) (exec_bldF rfl (by
      simp only [List.map_toArray, List.map_cons, List.map_nil, Act.eval_const']
      rw [e1, e2]
      exact bldK2 2 _ _ r1 d1 r2 d2 (fun_fit hk) (fun_fit hi) (fun_room hr1) (fun_aes hd1) (fun_room hr2) (fun_aes hd2) W)) ?_
    exact hK.out _ _ (H.ext 18 27 (by omega) (by omega) rfl rfl hLi (Below.refl _ _) _ ⟨_, _, _, _, _, _, rfl, hk, hi, ⟨hr1, hd1⟩, ⟨hr2, hd2⟩⟩)
  · intro L a W H hLi hd K0 hK
    obtain ⟨W', hrun, hJ⟩ := H.ins 19 3 rfl hLi (hd ⟨0, .data⟩ (by simp) rfl) (a.eval (.tmp 27)) (H.f 18 (by omega) (hd ⟨18, .data⟩ (by simp) rfl)) 66 3 54 Tryz.underlying66 Tryz.underlying3
    refine step_insF rfl 66 (.tmp 11) (.const (.int .i64 3)) (.tmp 27) rfl hrun ?_
    exact hK.out _ _ hJ
  · intro L a W H hLi hd K0 hK
    refine step_valF rfl (exec_moveK (.inl rfl)) ?_
    exact hK.out _ _ (H.ext 20 28 (by omega) (by omega) rfl rfl hLi (Below.refl _ _) _ (by rw [H.s2]; exact hv2.keep (KeepL.of H.b)))
  · intro L a W H hLi hd K0 hK
    refine step_valF rfl (v := .slice (some ⟨W.heap.size, 0, none⟩) 1 1) (w' := W.alloc (.cells #[.int .i64 16] 3)) (by kernel_rfl) ?_
    exact hK.out _ _ (H.ext 21 29 (by omega) (by omega) rfl rfl hLi ((Below.refl _ _).alloc (Nat.le_refl _) _) _ ⟨W.heap.size, _, Nat.le_trans H.n H.b.size, rfl, heap_alloc_new' W _⟩)
  · intro L a W H hLi hd K0 hK
    refine step_callF rfl 48 #[.tmp 29] _ rfl (enters_of Tryz.func48 (by kernel_rfl) rfl) (by first | (simp only [List.map_toArray, List.map_cons, List.map_nil]; done) | (simp only [List.map_toArray, List.map_cons, List.map_nil]; rfl)) (either_any n0 (a.eval (.tmp 29)) [16] W (Nat.le_trans H.n H.b.size) (H.f 21 (by omega) (hd ⟨21, .data⟩ (by simp) rfl)) (by decide)) ?_
    rintro e W' ⟨v, rfl, hv, hb⟩
    exact ⟨v, rfl, hK.out _ _ (H.ext 22 30 (by omega) (by omega) rfl rfl hLi hb v hv)⟩
  · intro L a W H hLi hd K0 hK
    refine step_callF rfl 50 #[.func 57] _ rfl (enters_of Tryz.func50 (by kernel_rfl) rfl) (by first | (simp only [List.map_toArray, List.map_cons, List.map_nil]; done) | (simp only [List.map_toArray, List.map_cons, List.map_nil]; rfl)) (byAES_any n0 57 W (Nat.le_trans H.n H.b.size)) ?_
    rintro e W' ⟨v, rfl, hv, hb⟩
    exact ⟨v, rfl, hK.out _ _ (H.ext 23 31 (by omega) (by omega) rfl rfl hLi hb v hv)⟩
  · intro L a W H hLi hd K0 hK
    have hdo := (H.f 23 (by omega) (hd ⟨23, .data⟩ (by simp) rfl))
    refine step_valF rfl (v := .agg #[(.func (.func 56) #[] #[]), (a.eval (.tmp 31))]) (w' := W) (exec_bldF rfl (by simp only [List.map_toArray, List.map_cons, List.map_nil]; exact bldW (.func (.func 56) #[] #[]) (a.eval (.tmp 31)) ⟨_, _, rfl⟩ (fun_aes hdo) W)) ?_
    exact hK.out _ _ (H.ext 24 32 (by omega) (by omega) rfl rfl hLi (Below.refl _ _) _ ⟨_, _, rfl, (padded_any n0 W), hdo⟩)
  · intro L a W H hLi hd K0 hK
    refine step_callF rfl 50 #[.func 59] _ rfl (enters_of Tryz.func50 (by kernel_rfl) rfl) (by first | (simp only [List.map_toArray, List.map_cons, List.map_nil]; done) | (simp only [List.map_toArray, List.map_cons, List.map_nil]; rfl)) (byAES_any n0 59 W (Nat.le_trans H.n H.b.size)) ?_
    rintro e W' ⟨v, rfl, hv, hb⟩
    exact ⟨v, rfl, hK.out _ _ (H.ext 25 33 (by omega) (by omega) rfl rfl hLi hb v hv)⟩
  · intro L a W H hLi hd K0 hK
    have hdo := (H.f 25 (by omega) (hd ⟨25, .data⟩ (by simp) rfl))
    refine step_valF rfl (v := .agg #[(.func (.func 58) #[] #[]), (a.eval (.tmp 33))]) (w' := W) (exec_bldF rfl (by simp only [List.map_toArray, List.map_cons, List.map_nil]; exact bldW (.func (.func 58) #[] #[]) (a.eval (.tmp 33)) ⟨_, _, rfl⟩ (fun_aes hdo) W)) ?_
    exact hK.out _ _ (H.ext 26 34 (by omega) (by omega) rfl rfl hLi (Below.refl _ _) _ ⟨_, _, rfl, (wholeRoom_any n0 W), hdo⟩)
  · intro L a W H hLi hd K0 hK
    have hk := (H.f 20 (by omega) (hd ⟨20, .data⟩ (by simp) rfl))
    have hi := (H.f 22 (by omega) (hd ⟨22, .data⟩ (by simp) rfl))
    obtain ⟨r1, d1, e1, hr1, hd1⟩ := (show WayV n0 W (a.eval (.tmp 32)) 4 false from (H.f 24 (by omega) (hd ⟨24, .data⟩ (by simp) rfl)))
    obtain ⟨r2, d2, e2, hr2, hd2⟩ := (show WayV n0 W (a.eval (.tmp 34)) 4 true from (H.f 26 (by omega) (hd ⟨26, .data⟩ (by simp) rfl)))
    refine step_valF rfl (v := .agg #[.int .i64 3, a.eval (.tmp 28), a.eval (.tmp 30), .int .i64 0, r1, d1, r2, d2]) (w' := W) (exec_bldF rfl (by
      simp only [List.map_toArray, List.map_cons, List.map_nil, Act.eval_const']
      rw [e1, e2]
      exact bldK2 3 _ _ r1 d1 r2 d2 (fun_fit hk) (fun_fit hi) (fun_room hr1) (fun_aes hd1) (fun_room hr2) (fun_aes hd2) W)) ?_
    exact hK.out _ _ (H.ext 27 35 (by omega) (by omega) rfl rfl hLi (Below.refl _ _) _ ⟨_, _, _, _, _, _, rfl, hk, hi, ⟨hr1, hd1⟩, ⟨hr2, hd2⟩⟩)
  · intro L a W H hLi hd K0 hK
    obtain ⟨W', hrun, hJ⟩ := H.ins 28 4 rfl hLi (hd ⟨0, .data⟩ (by simp) rfl) (a.eval (.tmp 35)) (H.f 27 (by omega) (hd ⟨27, .data⟩ (by simp) rfl)) 66 3 54 Tryz.underlying66 Tryz.underlying3
    refine step_insF rfl 66 (.tmp 11) (.const (.int .i64 4)) (.tmp 35) rfl hrun ?_
    exact hK.out _ _ hJ
  · intro L a W H hLi hd K0 hK
    refine step_valF rfl (exec_moveK (.inl rfl)) ?_
    exact hK.out _ _ (H.ext 29 36 (by omega) (by omega) rfl rfl hLi (Below.refl _ _) _ (by rw [H.s2]; exact hv2.keep (KeepL.of H.b)))
  · intro L a W H hLi hd K0 hK
    refine step_callF rfl 54 #[.const (.int .i64 1), .const (.int .i64 64)] _ rfl (enters_of Tryz.func54 (by kernel_rfl) rfl) (by first | (simp only [List.map_toArray, List.map_cons, List.map_nil]; done) | (simp only [List.map_toArray, List.map_cons, List.map_nil]; rfl)) (among_any n0 1 64 W (Nat.le_trans H.n H.b.size)) ?_
    rintro e W' ⟨v, rfl, hv, hb⟩
    exact ⟨v, rfl, hK.out _ _ (H.ext 30 37 (by omega) (by omega) rfl rfl hLi hb v hv)⟩
  · intro L a W H hLi hd K0 hK
    refine step_callF rfl 60 #[.const (.int .i64 16)] _ rfl (enters_of Tryz.func60 (by kernel_rfl) rfl) (by first | (simp only [List.map_toArray, List.map_cons, List.map_nil]; done) | (simp only [List.map_toArray, List.map_cons, List.map_nil]; rfl)) (more_any n0 16 W (Nat.le_trans H.n H.b.size) (by omega)) ?_
    rintro e W' ⟨v, rfl, hv, hb⟩
    exact ⟨v, rfl, hK.out _ _ (H.ext 31 38 (by omega) (by omega) rfl rfl hLi hb v hv)⟩
  · intro L a W H hLi hd K0 hK
    refine step_callF rfl 50 #[.func 61] _ rfl (enters_of Tryz.func50 (by kernel_rfl) rfl) (by first | (simp only [List.map_toArray, List.map_cons, List.map_nil]; done) | (simp only [List.map_toArray, List.map_cons, List.map_nil]; rfl)) (byAES_any n0 61 W (Nat.le_trans H.n H.b.size)) ?_
    rintro e W' ⟨v, rfl, hv, hb⟩
    exact ⟨v, rfl, hK.out _ _ (H.ext 32 39 (by omega) (by omega) rfl rfl hLi hb v hv)⟩
  · intro L a W H hLi hd K0 hK
    have hr := (H.f 31 (by omega) (hd ⟨31, .data⟩ (by simp) rfl))
    have hdo := (H.f 32 (by omega) (hd ⟨32, .data⟩ (by simp) rfl))
    refine step_valF rfl (v := .agg #[(a.eval (.tmp 38)), (a.eval (.tmp 39))]) (w' := W) (exec_bldF rfl (by simp only [List.map_toArray, List.map_cons, List.map_nil]; exact bldW (a.eval (.tmp 38)) (a.eval (.tmp 39)) (fun_room hr) (fun_aes hdo) W)) ?_
    exact hK.out _ _ (H.ext 33 40 (by omega) (by omega) rfl rfl hLi (Below.refl _ _) _ ⟨_, _, rfl, hr, hdo⟩)
  · intro L a W H hLi hd K0 hK
    refine step_callF rfl 49 #[.const (.int .i64 16)] _ rfl (enters_of Tryz.func49 (by kernel_rfl) rfl) (by first | (simp only [List.map_toArray, List.map_cons, List.map_nil]; done) | (simp only [List.map_toArray, List.map_cons, List.map_nil]; rfl)) (less_any n0 16 W (Nat.le_trans H.n H.b.size) (by omega)) ?_
    rintro e W' ⟨v, rfl, hv, hb⟩
    exact ⟨v, rfl, hK.out _ _ (H.ext 34 41 (by omega) (by omega) rfl rfl hLi hb v hv)⟩
  · intro L a W H hLi hd K0 hK
    refine step_callF rfl 50 #[.func 62] _ rfl (enters_of Tryz.func50 (by kernel_rfl) rfl) (by first | (simp only [List.map_toArray, List.map_cons, List.map_nil]; done) | (simp only [List.map_toArray, List.map_cons, List.map_nil]; rfl)) (byAES_any n0 62 W (Nat.le_trans H.n H.b.size)) ?_
    rintro e W' ⟨v, rfl, hv, hb⟩
    exact ⟨v, rfl, hK.out _ _ (H.ext 35 42 (by omega) (by omega) rfl rfl hLi hb v hv)⟩
  · intro L a W H hLi hd K0 hK
    have hr := (H.f 34 (by omega) (hd ⟨34, .data⟩ (by simp) rfl))
    have hdo := (H.f 35 (by omega) (hd ⟨35, .data⟩ (by simp) rfl))
    refine step_valF rfl (v := .agg #[(a.eval (.tmp 41)), (a.eval (.tmp 42))]) (w' := W) (exec_bldF rfl (by simp only [List.map_toArray, List.map_cons, List.map_nil]; exact bldW (a.eval (.tmp 41)) (a.eval (.tmp 42)) (fun_room hr) (fun_aes hdo) W)) ?_
    exact hK.out _ _ (H.ext 36 43 (by omega) (by omega) rfl rfl hLi (Below.refl _ _) _ ⟨_, _, rfl, hr, hdo⟩)
  · intro L a W H hLi hd K0 hK
    have hk := (H.f 29 (by omega) (hd ⟨29, .data⟩ (by simp) rfl))
    have hi := (H.f 30 (by omega) (hd ⟨30, .data⟩ (by simp) rfl))
    obtain ⟨r1, d1, e1, hr1, hd1⟩ := (show WayV n0 W (a.eval (.tmp 40)) 5 false from (H.f 33 (by omega) (hd ⟨33, .data⟩ (by simp) rfl)))
    obtain ⟨r2, d2, e2, hr2, hd2⟩ := (show WayV n0 W (a.eval (.tmp 43)) 5 true from (H.f 36 (by omega) (hd ⟨36, .data⟩ (by simp) rfl)))
    refine step_valF rfl (v := .agg #[.int .i64 4, a.eval (.tmp 36), a.eval (.tmp 37), .int .i64 1000, r1, d1, r2, d2]) (w' := W) (exec_bldF rfl (by
      simp only [List.map_toArray, List.map_cons, List.map_nil, Act.eval_const']
      rw [e1, e2]
      exact bldK3 4 _ _ r1 d1 r2 d2 (fun_fit hk) (fun_fit hi) (fun_room hr1) (fun_aes hd1) (fun_room hr2) (fun_aes hd2) W)) ?_
    exact hK.out _ _ (H.ext 37 44 (by omega) (by omega) rfl rfl hLi (Below.refl _ _) _ ⟨_, _, _, _, _, _, rfl, hk, hi, ⟨hr1, hd1⟩, ⟨hr2, hd2⟩⟩)
  · intro L a W H hLi hd K0 hK
    obtain ⟨W', hrun, hJ⟩ := H.ins 38 5 rfl hLi (hd ⟨0, .data⟩ (by simp) rfl) (a.eval (.tmp 44)) (H.f 37 (by omega) (hd ⟨37, .data⟩ (by simp) rfl)) 66 3 54 Tryz.underlying66 Tryz.underlying3
    refine step_insF rfl 66 (.tmp 11) (.const (.int .i64 5)) (.tmp 44) rfl hrun ?_
    exact hK.out _ _ hJ
  · intro L a W H hLi hd K0 hK
    refine step_valF rfl (v := .slice (some ⟨W.heap.size, 0, none⟩) 1 1) (w' := W.alloc (.cells #[.int .i64 32] 3)) (by kernel_rfl) ?_
    exact hK.out _ _ (H.ext 39 45 (by omega) (by omega) rfl rfl hLi ((Below.refl _ _).alloc (Nat.le_refl _) _) _ ⟨W.heap.size, _, Nat.le_trans H.n H.b.size, rfl, heap_alloc_new' W _⟩)
  · intro L a W H hLi hd K0 hK
    refine step_callF rfl 48 #[.tmp 45] _ rfl (enters_of Tryz.func48 (by kernel_rfl) rfl) (by first | (simp only [List.map_toArray, List.map_cons, List.map_nil]; done) | (simp only [List.map_toArray, List.map_cons, List.map_nil]; rfl)) (either_any n0 (a.eval (.tmp 45)) [32] W (Nat.le_trans H.n H.b.size) (H.f 39 (by omega) (hd ⟨39, .data⟩ (by simp) rfl)) (by decide)) ?_
    rintro e W' ⟨v, rfl, hv, hb⟩
    exact ⟨v, rfl, hK.out _ _ (H.ext 40 46 (by omega) (by omega) rfl rfl hLi hb v hv)⟩
  · intro L a W H hLi hd K0 hK
    refine step_valF rfl (v := .slice (some ⟨W.heap.size, 0, none⟩) 1 1) (w' := W.alloc (.cells #[.int .i64 12] 3)) (by kernel_rfl) ?_
    exact hK.out _ _ (H.ext 41 47 (by omega) (by omega) rfl rfl hLi ((Below.refl _ _).alloc (Nat.le_refl _) _) _ ⟨W.heap.size, _, Nat.le_trans H.n H.b.size, rfl, heap_alloc_new' W _⟩)
  · intro L a W H hLi hd K0 hK
    refine step_callF rfl 48 #[.tmp 47] _ rfl (enters_of Tryz.func48 (by kernel_rfl) rfl) (by first | (simp only [List.map_toArray, List.map_cons, List.map_nil]; done) | (simp only [List.map_toArray, List.map_cons, List.map_nil]; rfl)) (either_any n0 (a.eval (.tmp 47)) [12] W (Nat.le_trans H.n H.b.size) (H.f 41 (by omega) (hd ⟨41, .data⟩ (by simp) rfl)) (by decide)) ?_
    rintro e W' ⟨v, rfl, hv, hb⟩
    exact ⟨v, rfl, hK.out _ _ (H.ext 42 48 (by omega) (by omega) rfl rfl hLi hb v hv)⟩
  · intro L a W H hLi hd K0 hK
    refine step_callF rfl 60 #[.const (.int .i64 16)] _ rfl (enters_of Tryz.func60 (by kernel_rfl) rfl) (by first | (simp only [List.map_toArray, List.map_cons, List.map_nil]; done) | (simp only [List.map_toArray, List.map_cons, List.map_nil]; rfl)) (more_any n0 16 W (Nat.le_trans H.n H.b.size) (by omega)) ?_
    rintro e W' ⟨v, rfl, hv, hb⟩
    exact ⟨v, rfl, hK.out _ _ (H.ext 43 49 (by omega) (by omega) rfl rfl hLi hb v hv)⟩
  · intro L a W H hLi hd K0 hK
    refine step_callF rfl 63 #[.func 64] _ rfl (enters_of Tryz.func63 (by kernel_rfl) rfl) (by first | (simp only [List.map_toArray, List.map_cons, List.map_nil]; done) | (simp only [List.map_toArray, List.map_cons, List.map_nil]; rfl)) (byKey_any n0 64 W (Nat.le_trans H.n H.b.size)) ?_
    rintro e W' ⟨v, rfl, hv, hb⟩
    exact ⟨v, rfl, hK.out _ _ (H.ext 44 50 (by omega) (by omega) rfl rfl hLi hb v hv)⟩
  · intro L a W H hLi hd K0 hK
    have hr := (H.f 43 (by omega) (hd ⟨43, .data⟩ (by simp) rfl))
    have hdo := (H.f 44 (by omega) (hd ⟨44, .data⟩ (by simp) rfl))
    refine step_valF rfl (v := .agg #[(a.eval (.tmp 49)), (a.eval (.tmp 50))]) (w' := W) (exec_bldF rfl (by simp only [List.map_toArray, List.map_cons, List.map_nil]; exact bldW (a.eval (.tmp 49)) (a.eval (.tmp 50)) (fun_room hr) (fun_key hdo) W)) ?_
    exact hK.out _ _ (H.ext 45 51 (by omega) (by omega) rfl rfl hLi (Below.refl _ _) _ ⟨_, _, rfl, hr, hdo⟩)
  · intro L a W H hLi hd K0 hK
    refine step_callF rfl 49 #[.const (.int .i64 16)] _ rfl (enters_of Tryz.func49 (by kernel_rfl) rfl) (by first | (simp only [List.map_toArray, List.map_cons, List.map_nil]; done) | (simp only [List.map_toArray, List.map_cons, List.map_nil]; rfl)) (less_any n0 16 W (Nat.le_trans H.n H.b.size) (by omega)) ?_
    rintro e W' ⟨v, rfl, hv, hb⟩
    exact ⟨v, rfl, hK.out _ _ (H.ext 46 52 (by omega) (by omega) rfl rfl hLi hb v hv)⟩
  · intro L a W H hLi hd K0 hK
    refine step_callF rfl 63 #[.func 65] _ rfl (enters_of Tryz.func63 (by kernel_rfl) rfl) (by first | (simp only [List.map_toArray, List.map_cons, List.map_nil]; done) | (simp only [List.map_toArray, List.map_cons, List.map_nil]; rfl)) (byKey_any n0 65 W (Nat.le_trans H.n H.b.size)) ?_
    rintro e W' ⟨v, rfl, hv, hb⟩
    exact ⟨v, rfl, hK.out _ _ (H.ext 47 53 (by omega) (by omega) rfl rfl hLi hb v hv)⟩
  · intro L a W H hLi hd K0 hK
    have hr := (H.f 46 (by omega) (hd ⟨46, .data⟩ (by simp) rfl))
    have hdo := (H.f 47 (by omega) (hd ⟨47, .data⟩ (by simp) rfl))
    refine step_valF rfl (v := .agg #[(a.eval (.tmp 52)), (a.eval (.tmp 53))]) (w' := W) (exec_bldF rfl (by simp only [List.map_toArray, List.map_cons, List.map_nil]; exact bldW (a.eval (.tmp 52)) (a.eval (.tmp 53)) (fun_room hr) (fun_key hdo) W)) ?_
    exact hK.out _ _ (H.ext 48 54 (by omega) (by omega) rfl rfl hLi (Below.refl _ _) _ ⟨_, _, rfl, hr, hdo⟩)
  · intro L a W H hLi hd K0 hK
    have hk := (H.f 40 (by omega) (hd ⟨40, .data⟩ (by simp) rfl))
    have hi := (H.f 42 (by omega) (hd ⟨42, .data⟩ (by simp) rfl))
    obtain ⟨r1, d1, e1, hr1, hd1⟩ := (show WayV n0 W (a.eval (.tmp 51)) 6 false from (H.f 45 (by omega) (hd ⟨45, .data⟩ (by simp) rfl)))
    obtain ⟨r2, d2, e2, hr2, hd2⟩ := (show WayV n0 W (a.eval (.tmp 54)) 6 true from (H.f 48 (by omega) (hd ⟨48, .data⟩ (by simp) rfl)))
    refine step_valF rfl (v := .agg #[.int .i64 5, a.eval (.tmp 46), a.eval (.tmp 48), .int .i64 1000, r1, d1, r2, d2]) (w' := W) (exec_bldF rfl (by
      simp only [List.map_toArray, List.map_cons, List.map_nil, Act.eval_const']
      rw [e1, e2]
      exact bldK3 5 _ _ r1 d1 r2 d2 (fun_fit hk) (fun_fit hi) (fun_room hr1) (fun_key hd1) (fun_room hr2) (fun_key hd2) W)) ?_
    exact hK.out _ _ (H.ext 49 55 (by omega) (by omega) rfl rfl hLi (Below.refl _ _) _ ⟨_, _, _, _, _, _, rfl, hk, hi, ⟨hr1, hd1⟩, ⟨hr2, hd2⟩⟩)
  · intro L a W H hLi hd K0 hK
    obtain ⟨W', hrun, hJ⟩ := H.ins 50 6 rfl hLi (hd ⟨0, .data⟩ (by simp) rfl) (a.eval (.tmp 55)) (H.f 49 (by omega) (hd ⟨49, .data⟩ (by simp) rfl)) 66 3 54 Tryz.underlying66 Tryz.underlying3
    refine step_insF rfl 66 (.tmp 11) (.const (.int .i64 6)) (.tmp 55) rfl hrun ?_
    exact hK.out _ _ hJ
  · intro L a W H hLi hd K0 hK
    refine step_valF rfl (exec_moveK (.inl rfl)) ?_
    exact hK.out _ _ (H.t51 hLi (allEdges 51 (by kernel_rfl) hd))
  · intro L a W H hLi hd K0 hK
    refine step_valF rfl (exec_moveK (.inr rfl)) ?_
    exact hK.out _ _ (H.t52 hLi (hd ⟨51, .data⟩ (by simp) rfl))
  · intro L a W hL H
    have hE := H.end hL
    have hB := B5.out.step H.b
    go_wp2
    exact bodyPost_ret (results_tmp rfl _ _ _) H.df ⟨_, rfl, hE, hB⟩
end Go.Proofs.YtnhhgiebnhlfcaaGreatDoor
