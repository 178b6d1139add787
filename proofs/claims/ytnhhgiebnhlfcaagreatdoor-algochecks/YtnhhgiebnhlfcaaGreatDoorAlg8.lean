/- algo.Do, by what is done. -/
import Derived.Test.YtnhhgiebnhlfcaaGreatDoorAlg7
namespace Go.Proofs.YtnhhgiebnhlfcaaGreatDoor
open Go.RowKit Go.Shelf
set_option linter.unusedVariables false
set_option linter.unusedSimpArgs false
set_option maxRecDepth 100000
theorem par_one (x : Int) (o : Bool) (Ak : Option Addr) (kn kc : Nat) (Ai : Option Addr) (vn ic : Nat) (Aa : Option Addr) (an ac : Nat) : ∀ v ∈ parV x o Ak kn kc Ai vn ic Aa an ac, v.oneCell' = true := by
  intro v hv
  simp only [parV, List.mem_cons, List.not_mem_nil, or_false] at hv
  rcases hv with rfl | rfl | rfl | rfl | rfl <;> rfl
theorem i5P : (Tryz.prog.info? 29).map (·.size) = some 5 := by kernel_rfl
/-- what Do comes to, by what is done -/
def DoR (x : Int) (o : Bool) (kn vn an n : Nat) (R : Value → Int → World → Prop) (v : Value) (y : Int) (w' : World) : Prop :=
  if checkR x o kn vn an ≠ 0 then v = .slice none 0 0 ∧ y = checkR x o kn vn an
  else if (roomR x o n).2 ≠ 0 then v = .slice none 0 0 ∧ y = (roomR x o n).2 else R v y w'
theorem check_zero {x : Int} {o : Bool} {kn vn an : Nat} (h : checkR x o kn vn an = 0) : hasA x o = true ∧ keyP x.toNat kn = true ∧ ivP x.toNat vn = true ∧ (an : Int) ≤ aadK x.toNat := by
  unfold checkR at h
  split at h
  · cases h
  · split at h
    · cases h
    · split at h
      · cases h
      · split at h
        · cases h
        · refine ⟨?_, ?_, ?_, by omega⟩ <;> (rename_i h1 h2 h3 h4; first | simpa using h1 | simpa using h2 | simpa using h3)
set_option maxHeartbeats 8000000 in
theorem do_any (R : Value → Int → World → Prop) (x : Int) (o : Bool) (Ak : Option Addr) (kn kc : Nat) (Ai : Option Addr) (vn ic : Nat) (Aa : Option Addr) (an ac : Nat) (Ab : Option Addr) (n cb : Nat) (w : World) (h1 : kn ≤ 9223372036854775807) (h2 : vn ≤ 9223372036854775807) (h3 : an ≤ 9223372036854775807) (h4 : n ≤ 4611686018427387904)
    (hwork : ∀ (k n0 : Nat) (d : Value) (W : World), x = (k : Int) → 1 ≤ k → k ≤ 6 → hasW k o = true → keyP k kn = true → ivP k vn = true → (an : Int) ≤ aadK k → (roomP k o n).2 = 0 → DoV n0 W k o d → Below w.heap.size w W →
      ∃ F cap, d = .func (.func F) #[] cap ∧ Enters Tryz.prog F ∧ Calls Tryz.prog F (#[.agg (parV x o Ak kn kc Ai vn ic Aa an ac).toArray, .slice Ab n cb] ++ cap) W fun e W' => ∃ v y, e = .returned (.tuple #[v, .int .i64 y]) ∧ R v y W' ∧ Below W.heap.size W W') :
    Calls Tryz.prog 10 #[.agg (parV x o Ak kn kc Ai vn ic Aa an ac).toArray, .slice Ab n cb] w fun e w' => ∃ v y, e = .returned (.tuple #[v, .int .i64 y]) ∧ DoR x o kn vn an n R v y w' ∧ Below w.heap.size w w' := by
  have hzk : ∀ W, (zeroValue 54).run Tryz.prog W = .ok (.agg zeroKind.toArray) W := fun W => by kernel_rfl
  have hzw : ∀ W, (zeroValue 52).run Tryz.prog W = .ok (.agg #[.nilFunc, .nilFunc]) W := fun W => by kernel_rfl
  have hl8 : Hid (zeroKind.length = 8) := rfl
  have KO := Lib.hid (fun (W : World) (v : Value) (h : KnownV W x o v) => known_open h)
  have PC := Lib.hid (fun (W : World) (g : Nat) (t : TypeId) (fr : Nat × Nat) (h : W.heap[g]? = some (.cells (parV x o Ak kn kc Ai vn ic Aa an ac).toArray t fr)) => par_cells h)
  have P1 := Lib.hid (par_one x o Ak kn kc Ai vn ic Aa an ac)
  have PL : Hid ((parV x o Ak kn kc Ai vn ic Aa an ac).length = 5) := rfl
  have CH := Lib.hid (fun W => check_any x o Ak kn kc Ai vn ic Aa an ac W h1 h2 h3)
  have RM := Lib.hid (fun W => room_any x o n W (by omega) (by omega))
  have HW := Lib.hid hwork
  have HCZ := Lib.hid (fun (h : checkR x o kn vn an = 0) => check_zero h)
  have HRP : Hid (hasA x o = true → roomR x o n = roomP x.toNat o n) := fun h => by rw [roomR, h, if_neg (by decide), if_neg (by omega), Int.toNat_natCast]
  have HDR := Lib.hid (fun (v : Value) (y : Int) (w' : World) (h : if checkR x o kn vn an ≠ 0 then v = .slice none 0 0 ∧ y = checkR x o kn vn an else if (roomR x o n).2 ≠ 0 then v = .slice none 0 0 ∧ y = (roomR x o n).2 else R v y w') => (show DoR x o kn vn an n R v y w' from h))
  generalize zeroKind = ZK at hzk hl8 KO
  generalize parV x o Ak kn kc Ai vn ic Aa an ac = PV at PC P1 PL CH HW ⊢
  generalize DoR x o kn vn an n R = DR at HDR ⊢
  generalize checkR x o kn vn an = cR at CH HCZ HDR
  generalize roomR x o n = rR at RM HRP HDR
  clear hwork
  go_enter Tryz.func10, Tryz.ntmps10
  go_upto_region 1 with (fail)
  have HB := Lib.hid (heap_alloc_new' w (.cells PV.toArray 29))
  have B0 : Hid (Below w.heap.size w (w.alloc (.cells PV.toArray 29))) := (Below.refl _ _).alloc (Nat.le_refl _) _
  generalize w.alloc _ = W0 at HB B0 ⊢
  go_wp2_with (first
    | (refine wpList_ld rfl 29 (.tmp 2) rfl (load_arr Tryz.underlying29 rfl (by rw [PL.out]; exact i5P) HB.out) ?_)
    | fail)
  refine (CH.out W0).mono ?_
  rintro e w1 ⟨rfl, hb⟩
  have B1 := Lib.hid (B0.out.step hb)
  have HB1 : Hid (w1.heap[w.heap.size]? = _) := (hb.block _ (lt_of_heap HB.out)).trans HB.out
  clear hb B0 HB CH
  by_cases hc0 : cR = 0
  · subst hc0
    obtain ⟨hA, hkP, hiP, haP⟩ := HCZ.out rfl
    have HA := Lib.hid hA; have HKP := Lib.hid hkP; have HIP := Lib.hid hiP; have HAP := Lib.hid haP
    have c0 := (PC.out _ _ _ _ HB1.out).1
    have c1 := (PC.out _ _ _ _ HB1.out).2.1
    clear hA hkP hiP haP HCZ
    go_wp2_with fail
    clear c0 c1
    refine (RM.out w1).mono ?_
    rintro e w2 ⟨rfl, hb⟩
    have B2 := Lib.hid (B1.out.step hb)
    have HB2 : Hid (w2.heap[w.heap.size]? = _) := (hb.block _ (lt_of_heap HB1.out)).trans HB1.out
    clear hb B1 HB1 RM
    have HRP2 := HRP.out HA.out
    obtain ⟨r1, r2⟩ := rR
    simp only at HDR ⊢
    by_cases hr0 : r2 = 0
    · subst hr0
      have c0 := (PC.out _ _ _ _ HB2.out).1
      have c1 := (PC.out _ _ _ _ HB2.out).2.1
      have HRQ := Lib.hid HRP2
      clear HRP2 HRP
      go_wp2_with fail
      clear c0 c1
      refine (known_any x o w2).mono ?_
      rintro e w3 ⟨v, rfl, hv, hb⟩
      have B3 := Lib.hid (B2.out.step hb)
      have HB3 : Hid (w3.heap[w.heap.size]? = _) := (hb.block _ (lt_of_heap HB2.out)).trans HB2.out
      rcases KO.out w3 v hv with ⟨hh, k, n0, c, a, key, iv, q1, d1, q2, d2, r, d, rfl, hk1, hk2, rfl, o8, o2, ha, f1, f2, hR, hD⟩ | ⟨hh, rfl⟩
      · have O8 := Lib.hid o8; have O2 := Lib.hid o2; have HD := Lib.hid hD
        have ik8 : Hid (([.int .i64 c, key, iv, .int .i64 a, q1, d1, q2, d2] : List Value).length = 8) := rfl
        have HT : Hid (((k : Int)).toNat = k) := Int.toNat_natCast k
        rw [HT.out] at HRQ HKP HIP HAP
        have HHW : Hid (hasW k o = true) := by
          have := hh
          unfold hasA at this
          rw [Int.toNat_natCast, Bool.and_eq_true] at this
          exact this.2
        clear hv hb KO o8 o2 hR hD f1 f2 ha hh
        generalize ([.int .i64 c, key, iv, .int .i64 a, q1, d1, q2, d2] : List Value) = CS at O8 ik8
        go_upto_region 8 with (first
          | (refine wpList_st rfl 54 (.tmp 9) (.tmp 36) rfl (store_arr (cs := CS) (old := ZK) (by rw [ik8.out]; exact i8K) O8.out (heap2K w3 (.cells ZK.toArray 54) (.cells #[.nilFunc, .nilFunc] 52)).1 (by rw [hl8.out, ik8.out])) ?_
             generalize hV : World.setRow _ _ _ = W4
             have P4 : Hid (Below w3.heap.size w3 W4 ∧ W4.heap[w3.heap.size + 1]? = some (.cells [.nilFunc, .nilFunc].toArray 52 (0, 0))) := by
               obtain ⟨h1, h2, h3⟩ := heap2K w3 (.cells ZK.toArray 54) (.cells #[.nilFunc, .nilFunc] 52)
               exact ⟨h3.trans (below_of_setRow hV (Nat.le_refl _) h3.size), heap_of_other hV (by omega) h2⟩
             clear hV)
          | (refine wpList_st rfl 52 (.tmp 10) (.tmp 37) rfl (store_arr (cs := [r, d]) (old := [.nilFunc, .nilFunc]) i2K O2.out P4.out.2 rfl) ?_
             generalize hV : World.setRow _ _ _ = W5
             have P5 := Lib.hid (heap_of_setRow hV P4.out.2)
             have B5 : Hid (Below w3.heap.size w3 W5) := P4.out.1.trans (below_of_setRow hV (Nat.le_succ _) P4.out.1.size)
             clear hV)
          | fail)
        have HB5 : Hid (W5.heap[w.heap.size]? = _) := (B5.out.block _ (lt_of_heap HB3.out)).trans HB3.out
        have BW5 := Lib.hid (B3.out.step B5.out)
        obtain ⟨F, cap, rfl, hent, hcall⟩ := HW.out k n0 d W5 rfl hk1 hk2 HHW.out HKP.out HIP.out HAP.out (by rw [← HRQ.out]) (HD.out.keep (KeepL.of B5.out)) BW5.out
        have HCL := Lib.hid hcall
        have hent : ∀ args W, (callFunc F args).run Tryz.prog W = .ok (.enter F args) W := hent
        clear hcall HW HD P4
        go_wp2_with (first
          | (refine wpList_ld rfl 50 (.tmp 39) rfl (load_cellW (hu := Tryz.underlying50) (hd := rfl) (v := .func (.func F) #[] cap) (cell_of_heap P5.out 1)) ?_)
          | (refine wpList_ld rfl 29 (.tmp 2) rfl (load_arr Tryz.underlying29 rfl (by rw [PL.out]; exact i5P) HB5.out) ?_)
          | fail)
        refine HCL.out.mono ?_
        rintro e w6 ⟨v6, y6, rfl, hR6, hb6⟩
        have B6 := Lib.hid (BW5.out.step hb6)
        have HR6 := Lib.hid hR6
        clear hR6 hb6
        go_wp2
        go_ret2
        exact ⟨_, _, rfl, HDR.out _ _ _ (by rw [if_neg (by simp), if_neg (by simp)]; exact HR6.out), B6.out⟩
      · exfalso
        rw [HA.out] at hh
        cases hh
    · have t1 : (r2 != 0) = true := by simpa using hr0
      have HR0 := Lib.hid hr0
      clear HRP2 HRP
      go_wp2
      go_ret2
      exact ⟨_, _, rfl, HDR.out _ _ _ (by rw [if_neg (by simp), if_pos HR0.out]; exact ⟨rfl, rfl⟩), B2.out⟩
  · have t1 : (cR != 0) = true := by simpa using hc0
    have HC0 := Lib.hid hc0
    go_wp2
    go_ret2
    exact ⟨_, _, rfl, HDR.out _ _ _ (by rw [if_pos HC0.out]; exact ⟨rfl, rfl⟩), B1.out⟩
end Go.Proofs.YtnhhgiebnhlfcaaGreatDoor
