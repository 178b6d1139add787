/- algo.Check. -/
import Derived.Test.YtnhhgiebnhlfcaaGreatDoorAlg6
namespace Go.Proofs.YtnhhgiebnhlfcaaGreatDoor
open Go.RowKit Go.Shelf
set_option linter.unusedVariables false
set_option linter.unusedSimpArgs false
set_option maxRecDepth 100000
def checkR (x : Int) (o : Bool) (kn vn an : Nat) : Int := if hasA x o = false then 4 else if keyP x.toNat kn = false then 5 else if ivP x.toNat vn = false then 6 else if aadK x.toNat < (an : Int) then 10 else 0
/-- params, as a value -/
def parV (x : Int) (o : Bool) (Ak : Option Addr) (kn kc : Nat) (Ai : Option Addr) (vn ic : Nat) (Aa : Option Addr) (an ac : Nat) : List Value := [.int .i64 x, .bool o, .slice Ak kn kc, .slice Ai vn ic, .slice Aa an ac]
theorem par_cells {W : World} {g : Nat} {x : Int} {o : Bool} {Ak Ai Aa : Option Addr} {kn kc vn ic an ac : Nat} {t : TypeId} {fr : Nat × Nat} (h : W.heap[g]? = some (.cells (parV x o Ak kn kc Ai vn ic Aa an ac).toArray t fr)) :
    W.cell? ⟨g, 0, none⟩ = some (.int .i64 x) ∧ W.cell? ⟨g, 1, none⟩ = some (.bool o) ∧ W.cell? ⟨g, 2, none⟩ = some (.slice Ak kn kc) ∧ W.cell? ⟨g, 3, none⟩ = some (.slice Ai vn ic) ∧ W.cell? ⟨g, 4, none⟩ = some (.slice Aa an ac) :=
  ⟨cell_of_heap h 0, cell_of_heap h 1, cell_of_heap h 2, cell_of_heap h 3, cell_of_heap h 4⟩
set_option maxHeartbeats 8000000 in
theorem check_any (x : Int) (o : Bool) (Ak : Option Addr) (kn kc : Nat) (Ai : Option Addr) (vn ic : Nat) (Aa : Option Addr) (an ac : Nat) (w : World) (h1 : kn ≤ 9223372036854775807) (h2 : vn ≤ 9223372036854775807) (h3 : an ≤ 9223372036854775807) :
    Calls Tryz.prog 16 #[.agg (parV x o Ak kn kc Ai vn ic Aa an ac).toArray] w fun e w' => e = .returned (.int .i64 (checkR x o kn vn an)) ∧ Below w.heap.size w w' := by
  have hzk : ∀ W, (zeroValue 54).run Tryz.prog W = .ok (.agg zeroKind.toArray) W := fun W => by kernel_rfl
  have hzw : ∀ W, (zeroValue 52).run Tryz.prog W = .ok (.agg #[.nilFunc, .nilFunc]) W := fun W => by kernel_rfl
  have hl8 : Hid (zeroKind.length = 8) := rfl
  have h1z := Lib.hid zk_one
  have KO := Lib.hid (fun (W : World) (v : Value) (h : KnownV W x o v) => known_open h)
  have PC := Lib.hid (fun (W : World) (g : Nat) (t : TypeId) (fr : Nat × Nat) (h : W.heap[g]? = some (.cells (parV x o Ak kn kc Ai vn ic Aa an ac).toArray t fr)) => par_cells h)
  obtain ⟨y, hy⟩ : ∃ y, y = checkR x o kn vn an := ⟨_, rfl⟩
  rw [← hy]
  have HY := Lib.hid hy
  clear hy
  generalize zeroKind = ZK at hzk hl8 h1z KO
  generalize parV x o Ak kn kc Ai vn ic Aa an ac = PV at PC ⊢
  go_enter Tryz.func16, Tryz.ntmps16
  go_upto_region 1 with (fail)
  have HB := Lib.hid (heap_alloc_new' w (.cells PV.toArray 29))
  have B0 : Hid (Below w.heap.size w (w.alloc (.cells PV.toArray 29))) := (Below.refl _ _).alloc (Nat.le_refl _) _
  generalize w.alloc _ = W0 at HB B0 ⊢
  obtain ⟨gB, hgB⟩ : ∃ g, w.heap.size = g := ⟨_, rfl⟩
  have HGB := Lib.hid hgB
  rw [hgB] at HB ⊢
  clear hgB
  have c0 := (PC.out _ _ _ _ HB.out).1
  have c1 := (PC.out _ _ _ _ HB.out).2.1
  go_wp2_with fail
  clear c0 c1
  refine (known_any x o W0).mono ?_
  rintro e w1 ⟨v, rfl, hv, hb⟩
  have B1 := Lib.hid (B0.out.step hb)
  have HB1 : Hid (w1.heap[gB]? = _) := (hb.block _ (lt_of_heap HB.out)).trans HB.out
  rcases KO.out w1 v hv with ⟨hh, k, n0, c, a, key, iv, r1, d1, r2, d2, r, d, rfl, hk1, hk2, rfl, o8, o2, ha, f1, f2, hR, hD⟩ | ⟨hh, rfl⟩
  · obtain ⟨F, cap, rfl, hent, hFm⟩ := f1
    obtain ⟨F2, cap2, rfl, hent2, hFm2⟩ := f2
    have HFM := Lib.hid hFm; have HFM2 := Lib.hid hFm2
    have O8 := Lib.hid o8; have O2 := Lib.hid o2
    have ik8 : Hid (([.int .i64 c, .func (.func F) #[] cap, .func (.func F2) #[] cap2, .int .i64 a, r1, d1, r2, d2] : List Value).length = 8) := rfl
    have CK := Lib.hid (fun (W : World) (g : Nat) (t : TypeId) (fr : Nat × Nat) (h : W.heap[g]? = some (.cells [.int .i64 c, .func (.func F) #[] cap, .func (.func F2) #[] cap2, .int .i64 a, r1, d1, r2, d2].toArray t fr)) =>
      (⟨cell_of_heap h 1, cell_of_heap h 2, cell_of_heap h 3⟩ : W.cell? ⟨g, 1, none⟩ = some (.func (.func F) #[] cap) ∧ W.cell? ⟨g, 2, none⟩ = some (.func (.func F2) #[] cap2) ∧ W.cell? ⟨g, 3, none⟩ = some (.int .i64 a)))
    clear hv hb KO o8 o2 hR hD hFm hFm2
    generalize ([.int .i64 c, .func (.func F) #[] cap, .func (.func F2) #[] cap2, .int .i64 a, r1, d1, r2, d2] : List Value) = CS at O8 ik8 CK
    have hent : ∀ args W, (callFunc F args).run Tryz.prog W = .ok (.enter F args) W := hent
    have hent2 : ∀ args W, (callFunc F2 args).run Tryz.prog W = .ok (.enter F2 args) W := hent2
    rw [checkR, hh, if_neg (by decide), Int.toNat_natCast, ← ha] at HY
    go_upto_region 2 with (first
      | (refine wpList_st rfl 54 (.tmp 3) (.tmp 12) rfl (store_arr (cs := CS) (old := ZK) (by rw [ik8.out]; exact i8K) O8.out (heap2K w1 (.cells ZK.toArray 54) (.cells #[.nilFunc, .nilFunc] 52)).1 (by rw [hl8.out, ik8.out])) ?_
         generalize hV : World.setRow _ _ _ = W4
         have P4 : Hid (Below w1.heap.size w1 W4 ∧ W4.heap[w1.heap.size + 1]? = some (.cells [.nilFunc, .nilFunc].toArray 52 (0, 0))) := by
           obtain ⟨h1, h2, h3⟩ := heap2K w1 (.cells ZK.toArray 54) (.cells #[.nilFunc, .nilFunc] 52)
           exact ⟨h3.trans (below_of_setRow hV (Nat.le_refl _) h3.size), heap_of_other hV (by omega) h2⟩
         have G4 : Hid (W4.heap[w1.heap.size]? = _) := heap_of_setRow hV (heap2K w1 (.cells ZK.toArray 54) (.cells #[.nilFunc, .nilFunc] 52)).1
         clear hV)
      | (refine wpList_st rfl 52 (.tmp 4) (.tmp 13) rfl (store_arr (cs := [r, d]) (old := [.nilFunc, .nilFunc]) i2K O2.out P4.out.2 rfl) ?_
         generalize hV : World.setRow _ _ _ = W5
         have B5 : Hid (Below w1.heap.size w1 W5) := P4.out.1.trans (below_of_setRow hV (Nat.le_succ _) P4.out.1.size)
         have G5 : Hid (W5.heap[w1.heap.size]? = _) := heap_of_other hV (by omega) G4.out
         clear hV)
      | fail)
    have HB5 : Hid (W5.heap[gB]? = _) := (B5.out.block _ (lt_of_heap HB1.out)).trans HB1.out
    have BB5 := Lib.hid (B1.out.step B5.out)
    have ck := (CK.out _ _ _ _ G5.out).1
    have ca := (PC.out _ _ _ _ HB5.out).2.2.1
    go_wp2_with fail
    clear ck ca
    refine (HFM.out W5 (KeepL.of B5.out) kn h1).mono ?_
    rintro e w6 ⟨rfl, hb6⟩
    have G6 : Hid (w6.heap[w1.heap.size]? = _) := (hb6.block _ (lt_of_heap G5.out)).trans G5.out
    have HB6 : Hid (w6.heap[gB]? = _) := (hb6.block _ (lt_of_heap HB5.out)).trans HB5.out
    have BB6 := Lib.hid (BB5.out.step hb6)
    have B6 := Lib.hid (B5.out.step hb6)
    clear hb6 G5 HB5 BB5 B5
    cases hkp : keyP k kn with
    | false =>
      have HYV : y = 5 := by rw [HY.out, hkp, if_pos rfl]
      subst HYV
      go_wp2
      go_ret
      exact ⟨rfl, BB6.out⟩
    | true =>
      rw [hkp, if_neg (by decide)] at HY
      have ck := (CK.out _ _ _ _ G6.out).2.1
      have ca := (PC.out _ _ _ _ HB6.out).2.2.2.1
      go_wp2_with fail
      clear ck ca
      refine (HFM2.out w6 (KeepL.of B6.out) vn h2).mono ?_
      rintro e w7 ⟨rfl, hb7⟩
      have G7 : Hid (w7.heap[w1.heap.size]? = _) := (hb7.block _ (lt_of_heap G6.out)).trans G6.out
      have HB7 : Hid (w7.heap[gB]? = _) := (hb7.block _ (lt_of_heap HB6.out)).trans HB6.out
      have BB7 := Lib.hid (BB6.out.step hb7)
      clear hb7 G6 HB6 BB6 B6
      cases hip : ivP k vn with
      | false =>
        have HYV : y = 6 := by rw [HY.out, hip, if_pos rfl]
        subst HYV
        go_wp2
        go_ret
        exact ⟨rfl, BB7.out⟩
      | true =>
        rw [hip, if_neg (by decide)] at HY
        have ck := (CK.out _ _ _ _ G7.out).2.2
        have ca := (PC.out _ _ _ _ HB7.out).2.2.2.2
        by_cases hal : a < (an : Int)
        · have HYV : y = 10 := by rw [HY.out, if_pos hal]
          subst HYV
          go_wp2
          go_ret
          exact ⟨rfl, BB7.out⟩
        · have HYV : y = 0 := by rw [HY.out, if_neg hal]
          have hal' : ¬ (a < (an : Int)) := hal
          subst HYV
          go_wp2
          go_ret
          exact ⟨rfl, BB7.out⟩
  · have HYV : y = 4 := by rw [HY.out, checkR, hh, if_pos rfl]
    clear hv hb KO
    subst HYV
    go_wp2_with (first
      | (refine wpList_st rfl 54 (.tmp 3) (.tmp 12) rfl (store_arr (cs := ZK) (old := ZK) (by rw [hl8.out]; exact i8K) h1z.out (heap2K w1 (.cells ZK.toArray 54) (.cells #[.nilFunc, .nilFunc] 52)).1 rfl) ?_
         generalize hV : World.setRow _ _ _ = W4
         have P4 : Hid (Below w1.heap.size w1 W4 ∧ W4.heap[w1.heap.size + 1]? = some (.cells [.nilFunc, .nilFunc].toArray 52 (0, 0))) := by
           obtain ⟨h1, h2, h3⟩ := heap2K w1 (.cells ZK.toArray 54) (.cells #[.nilFunc, .nilFunc] 52)
           exact ⟨h3.trans (below_of_setRow hV (Nat.le_refl _) h3.size), heap_of_other hV (by omega) h2⟩
         clear hV)
      | (refine wpList_st rfl 52 (.tmp 4) (.tmp 13) rfl (store_arr (cs := [.nilFunc, .nilFunc]) (old := [.nilFunc, .nilFunc]) i2K nn_one P4.out.2 rfl) ?_
         generalize hV : World.setRow _ _ _ = W5
         have B5 : Hid (Below w1.heap.size w1 W5) := P4.out.1.trans (below_of_setRow hV (Nat.le_succ _) P4.out.1.size)
         clear hV)
      | fail)
    go_ret
    exact ⟨rfl, B1.out.step B5.out⟩
end Go.Proofs.YtnhhgiebnhlfcaaGreatDoor
