/- Joined: Reg5 Aed4 Aed5 LiftN Aes1 Aes2 Aes5 Aes8 Aes9. -/
import Derived.Test.YtfcnahbbieldfaaReg4
import Derived.Test.YtfcnahbbieldfaaAed3
import Derived.Test.YtfcnahbbieldfaaOwn
import Derived.Test.YtfcnahbbieldfaaLift
import Derived.Test.YtfcnahbbieldfaaLiftC
import Derived.Deep.Strs
import Derived.Test.YtfcnahbbieldfaaSha7
import Derived.Test.YtfcnahbbieldfaaRefS1
import Derived.StillTailTactics
/- Two operations of a region that draws its order, free to go in either order, whose ways meet again: what is behind them once. Over any program. -/
namespace Go.Proofs.Ytfcnahbbieldfaa
open Go.RowKit
set_option maxRecDepth 100000
set_option linter.unusedVariables false
theorem put_comm' (a : Act) {d1 d2 : Nat} (h : d1 ≠ d2) (v1 v2 : Value) : (a.put (some d2) v2).put (some d1) v1 = (a.put (some d1) v1).put (some d2) v2 := by
  simp only [Act.put]
  rw [Array.setIfInBounds_comm _ _ (Ne.symm h)]
/-- what an operation owes -/
def Does (P : Program) (ops : Array Oper) (Q : Exit → Act → World → Prop) (o : Oper) (K : Act → World → Prop) (a : Act) (w : World) : Prop :=
  if Region.wanted o (yielded ops a.tmps) = true then Oper.wp P o a w K Q else K (a.put o.dst undef) w
theorem regB_join {P : Program} {ops : Array Oper} {Q : Exit → Act → World → Prop} (i j d1 d2 : Nat) {o o' : Oper} {B fuel : Nat} {listed : Array Bool} {a : Act} {w : World} (J : Value → Value → World → Prop)
    (hi : ops[i]? = some o) (hj : ops[j]? = some o') (hne : d1 ≠ d2) (hij : i ≠ j)
    (hr : Region.ready .any ops listed = [i, j]) (hr1 : Region.ready .any ops (listed.setIfInBounds i true) = [j]) (hr2 : Region.ready .any ops (listed.setIfInBounds j true) = [i])
    (h1 : ∀ K : Act → World → Prop, Hid (∀ v1 w1, Below B w w1 → (∀ K2 : Act → World → Prop, Hid (∀ v2 w2, Below B w1 w2 → J v1 v2 w2 → K2 ((a.put (some d1) v1).put (some d2) v2) w2) → Does P ops Q o' K2 (a.put (some d1) v1) w1) → K (a.put (some d1) v1) w1) → Does P ops Q o K a w)
    (h2 : ∀ K : Act → World → Prop, Hid (∀ v2 w1, Below B w w1 → (∀ K2 : Act → World → Prop, Hid (∀ v1 w2, Below B w1 w2 → J v1 v2 w2 → K2 ((a.put (some d2) v2).put (some d1) v1) w2) → Does P ops Q o K2 (a.put (some d2) v2) w1) → K (a.put (some d2) v2) w1) → Does P ops Q o' K a w)
    (h : ∀ v1 v2 w', Below B w w' → J v1 v2 w' → RegB P ops Q B fuel ((listed.setIfInBounds i true).setIfInBounds j true) ((a.put (some d1) v1).put (some d2) v2) w') :
    RegB P ops Q B (fuel + 2) listed a w := by
  refine regB_eff2 i j hi hj hr (fun K hK => h1 K fun v1 w1 hE hst => ?_) (fun K hK => h2 K fun v2 w1 hE hst => ?_)
  · exact hK.out _ _ hE (regB_eff j hj hr1 fun K2 hK2 => hst K2 fun v2 w2 hE2 hJ => hK2.out _ _ hE2 (h v1 v2 w2 (hE.trans hE2) hJ))
  · refine hK.out _ _ hE (regB_eff i hi hr2 fun K2 hK2 => hst K2 fun v1 w2 hE2 hJ => hK2.out _ _ hE2 ?_)
    rw [put_comm' a hne, Array.setIfInBounds_comm _ _ (Ne.symm hij)]
    exact h v1 v2 w2 (hE.trans hE2) hJ
section
variable {P : Program} {ops : Array Oper} {Q : Exit → Act → World → Prop}
theorem inv_anyH {S : World → Prop} (J : (Nat → Bool) → Act → World → Prop) (hb : below? ops.toList 0 = true) (steps : AllOps (StepOK P ops Q J) ops.toList 0) (hS : ∀ L a w, J L a w → S w) (done : ∀ L a w, (∀ j, L j = true) → J L a w → Q .normal a w) :
    ∀ (fuel : Nat) (listed : Array Bool) (a : Act) (w : World), listed.size = ops.size → listed.toList.count false ≤ fuel → J (fun j => listed.getD j true) a w → wpAnyH P .any ops Q S fuel listed a w := by
  have fin : ∀ (listed : Array Bool) (a : Act) (w : World), listed.size = ops.size → J (fun j => listed.getD j true) a w → Region.ready .any ops listed = [] → Q .normal a w := by
    intro listed a w hs hJ hr
    refine done _ a w (fun j => ?_) hJ
    induction j using Nat.strongRecOn with
    | ind j ih =>
      by_cases hj : j < ops.size
      · cases hl : listed.getD j true with
        | true => rfl
        | false =>
          exfalso
          have hm : j ∈ Region.ready .any ops listed := by
            refine mem_ready.2 ⟨hl, ops[j], by simp [hj], fun e he hbi => ?_⟩
            have hlt := below?_get (k := 0) (i := j) (o := ops[j]) hb (by simp [hj]) e he hbi
            rw [Nat.zero_add] at hlt
            have h1 := ih e.on hlt
            have h2 : e.on < listed.size := by omega
            simpa [h2] using h1
          rw [hr] at hm; cases hm
      · have : listed.size ≤ j := by omega
        simp [Array.getElem?_eq_none this]
  intro fuel
  induction fuel with
  | zero =>
    intro listed a w hs hc hJ
    have hr : Region.ready .any ops listed = [] := by
      rw [List.eq_nil_iff_forall_not_mem]
      intro i hi
      have h0 := (mem_ready.1 hi).1
      have hlt : i < listed.size := by
        rcases Nat.lt_or_ge i listed.size with h | h
        · exact h
        · simp [Array.getElem?_eq_none h] at h0
      have hf : listed[i] = false := by simpa [hlt] using h0
      have hmem : false ∈ listed.toList := by rw [← hf]; simp
      have := List.count_pos_iff.2 hmem
      omega
    exact ⟨hr, fin listed a w hs hJ hr⟩
  | succ fuel ih =>
    intro listed a w hs hc hJ
    refine ⟨fin listed a w hs hJ, fun i hi => ?_⟩
    obtain ⟨h0, o, ho, hall⟩ := mem_ready.1 hi
    have hlt : i < listed.size := by
      rcases Nat.lt_or_ge i listed.size with h | h
      · exact h
      · simp [Array.getElem?_eq_none h] at h0
    have hst := steps.get (i := i) (o := o) (by simpa using ho)
    rw [Nat.zero_add] at hst
    refine wpOp_step ho fun K hK => hst _ a w hJ h0 (fun e he hbi => ?_) K fun a' w' hJ' => hK a' w' ⟨hS _ _ _ hJ', ?_⟩
    · have := hall e he hbi
      rcases Nat.lt_or_ge e.on listed.size with h' | h'
      · simpa [h'] using this
      · simp [Array.getElem?_eq_none h']
    · refine ih _ a' w' (by simpa using hs) ?_ ?_
      · have hf : listed[i] = false := by simpa [hlt] using h0
        rw [Array.toList_setIfInBounds, List.count_set (by simpa using hlt)]
        have e1 : (listed.toList[i]'(by simpa using hlt)) = false := by simpa using hf
        rw [e1, if_pos (by rfl), if_neg (by decide)]
        omega
      · have e : (fun j => (listed.setIfInBounds i true).getD j true) = (fun j => if j = i then true else listed.getD j true) := funext fun j => getD_set_true listed i j
        rw [e]; exact hJ'
theorem regB_inv {B fuel : Nat} {listed : Array Bool} {a : Act} {w : World} (J : (Nat → Bool) → Act → World → Prop) (hs : listed.size = ops.size) (hc : listed.toList.count false ≤ fuel) (hb : below? ops.toList 0 = true)
    (hS : ∀ L a' w', J L a' w' → Below B w w') (h0 : J (fun j => listed.getD j true) a w) (steps : AllOps (StepOK P ops Q J) ops.toList 0) (done : ∀ L a w, (∀ j, L j = true) → J L a w → Q .normal a w) : RegB P ops Q B fuel listed a w :=
  inv_anyH J hb steps hS done fuel listed a w hs hc h0
end
end Go.Proofs.Ytfcnahbbieldfaa

/- aead: what Seal and Open hand to both. -/
namespace Go.Proofs.Ytfcnahbbieldfaa
open Go.RowKit
set_option linter.unusedVariables false
set_option linter.unusedSimpArgs false
set_option maxRecDepth 100000
/-- bytes, sealed -/
def sealE (key nonce aad b : List UInt8) : List UInt8 := cryptC key nonce 1#32 b ++ tagL key nonce aad (cryptC key nonce 1#32 b)
theorem sealE_len (key nonce aad b : List UInt8) : (sealE key nonce aad b).length = b.length + 16 := by rw [sealE, List.length_append, cryptC_len, tagL_len]
/-- what a box of a slice holds -/
theorem box_ext {W W' : World} {g : Nat} {v : Value} {t : TypeId} {fr : Nat × Nat} (h : W.heap[g]? = some (.cells #[v] t fr)) (hE : Below W.heap.size W W') : W'.heap[g]? = some (.cells #[v] t fr) := (hE.block _ (lt_of_heap h)).trans h
theorem box_cell {W : World} {g : Nat} {v : Value} {t : TypeId} {fr : Nat × Nat} (h : W.heap[g]? = some (.cells #[v] t fr)) : W.cell? ⟨g, 0, none⟩ = some v := by rw [cell_of_heap (cs := [v]) h]; rfl
theorem ge_ownE {a g : Nat} (h : a ≤ g) {n c : Nat} : ∀ k, (Value.slice (some ⟨g, 0, none⟩) n c).ownBlock = some k → a ≤ k := by
  intro k hk
  simp [Value.ownBlock] at hk
  omega
set_option maxHeartbeats 4000000 in
theorem seal1_any (key nonce : List UInt8) (g2 g3 : Nat) (A3 A4 : Option Addr) (k3 c3 k4 c4 : Nat) (aad x : List UInt8) (w : World) (hk : key.length = 32) (hn : nonce.length = 12) (h3 : aad.length = k3) (h4 : x.length = k4) (h31 : k3 ≤ 100000) (h41 : k4 ≤ 100000)
    (S3 : Sl w A3 c3 aad) (S4 : Sl w A4 c4 x) (H2 : w.heap[g2]? = some (.cells #[.slice A4 k4 c4] 26 (0, 0))) (H3 : w.heap[g3]? = some (.cells #[.slice A3 k3 c3] 26 (0, 0))) :
    Calls Try.prog 17 #[.agg (key.map bv).toArray, .agg (nonce.map bv).toArray, .pointer (some ⟨g2, 0, none⟩), .pointer (some ⟨g3, 0, none⟩)] w fun e w' =>
      ∃ v, e = .returned (.tuple #[v, .int .i64 0]) ∧ w'.ownsRow w.heap.size 5 1 v (k4 + 16) ((sealE key nonce aad x).map bv) ∧ Below w.heap.size w w' := by
  have hz : ∀ W, (zeroValue 23).run Try.prog W = .ok (.agg zer16.toArray) W := fun W => by kernel_rfl
  have hlz : Hid (zer16.length = 16) := rfl
  have HK := Lib.hid hk; have HN := Lib.hid hn; have HS3 := Lib.hid S3; have HS4 := Lib.hid S4; have HH2 := Lib.hid H2; have HH3 := Lib.hid H3
  have CR : Hid (∀ W, Sl W A4 c4 x → Calls Try.prog 11 #[.agg (key.map bv).toArray, .agg (nonce.map bv).toArray, .int .u32 1, .slice A4 k4 c4] W (NewRow W k4 (cryptC key nonce 1#32 x))) := fun W hS => crypt_any key nonce 1#32 A4 k4 c4 x W hk hn h4 h41 hS
  have HCL : Hid ((cryptC key nonce 1#32 x).length = k4) := by show _ = _; rw [cryptC_len]; exact h4
  have TA := Lib.hid (fun A W hS3 hS => atag_any key nonce A3 A k3 c3 k4 k4 aad (cryptC key nonce 1#32 x) W hk hn h3 HCL.out (by omega) (by omega) hS3 hS)
  have HSE : Hid (cryptC key nonce 1#32 x ++ tagL key nonce aad (cryptC key nonce 1#32 x) = sealE key nonce aad x) := rfl
  have HTL := Lib.hid (tagL_len key nonce aad (cryptC key nonce 1#32 x))
  generalize tagL key nonce aad (cryptC key nonce 1#32 x) = T at TA HSE HTL
  generalize cryptC key nonce 1#32 x = C at CR HCL TA HSE
  generalize sealE key nonce aad x = R at HSE ⊢
  generalize zer16 = Z at hz hlz
  have G := Lib.hid (heap2c w (.cells (key.map bv).toArray 22) (.cells (nonce.map bv).toArray 27))
  have q4 : (k4 : Int) + 16 ≤ 2147483647 := by omega
  clear hk hn h3 h4 S3 S4 H2 H3 h31
  go_enter Try.func17, Try.ntmps17
  go_upto_region 1 with (fail)
  generalize hV : (w.alloc _).alloc _ = W0 at G ⊢
  clear hV
  have B0 : Hid (Below w.heap.size w W0) := G.out.2.2
  have K0 := Lib.hid G.out.1
  have N0 := Lib.hid G.out.2.1
  clear G
  have c2 := box_cell (box_ext HH2.out B0.out)
  go_upto_region 2 with (first
    | (refine wpList_ld rfl 22 (.tmp 4) rfl (load_arr arr32K rfl (i32K' key HK.out) K0.out) ?_)
    | (refine wpList_ld rfl 27 (.tmp 5) rfl (load_arr arr12B rfl (i12B' nonce HN.out) N0.out) ?_))
  refine (CR.out W0 (HS4.out.below B0.out)).mono ?_
  rintro e w1 ⟨g, hg, rfl, hk1, hb1⟩
  have B1 : Hid (Below w.heap.size w w1) := B0.out.step hb1
  have K1 := Lib.hid ((hb1.block _ (lt_of_heap K0.out)).trans K0.out)
  have N1 := Lib.hid ((hb1.block _ (lt_of_heap N0.out)).trans N0.out)
  have C1 := Lib.hid hk1
  have HG : Hid (w.heap.size ≤ g) := Nat.le_trans B0.out.size hg
  clear hg hk1 hb1 B0 K0 N0 c2 CR
  have c3' := box_cell (box_ext HH3.out B1.out)
  go_wp2_with (first
    | (refine wpList_ld rfl 22 (.tmp 4) rfl (load_arr arr32K rfl (i32K' key HK.out) K1.out) ?_)
    | (refine wpList_ld rfl 27 (.tmp 5) rfl (load_arr arr12B rfl (i12B' nonce HN.out) N1.out) ?_))
  refine (TA.out (some ⟨g, 0, none⟩) w1 (HS3.out.below B1.out) (sl_row HCL.out (by omega) C1.out)).mono ?_
  rintro e w2 ⟨rfl, hb2⟩
  have B2 : Hid (Below w.heap.size w w2) := B1.out.step hb2
  have C2 := Lib.hid ((hb2.block _ (lt_of_heap C1.out)).trans C1.out)
  clear hb2 B1 K1 N1 C1 c3' TA
  have ar := arr_all arr16P s8 ⟨w2.heap.size, 0, none⟩
  go_wp2_with (first
    | (refine wpList_st rfl 23 (.tmp 9) (.tmp 18) rfl (store_arr (cs := T.map bv) (i16p T HTL.out) (bv_one _) (heap_alloc_new' w2 _) (by rw [List.length_map, HTL.out]; exact hlz.out)) ?_
       generalize hV : World.setRow _ _ _ = W3
       have M3 := Lib.hid (heap_of_setRow hV (heap_alloc_new' w2 _))
       have MB := Lib.hid (((Below.refl w2.heap.size w2).alloc (Nat.le_refl _) _).trans (below_of_setRow hV (Nat.le_refl w2.heap.size) (by simp)))
       clear hV)
    | (at_builtin
       refine wpList_app8 rfl (.tmp 19) (.tmp 20) rfl w.heap.size _ k4 C rfl ?_ (some ⟨w2.heap.size, 0, none⟩) 16 16 W3.heap.size T rfl ?_ ?_ ?_ ?_ ?_
       · exact own_heap ((MB.out.block _ (lt_of_heap C2.out)).trans C2.out) HG.out HCL.out (by unfold maxLen; omega)
       · exact (sl_row HTL.out (by omega) M3.out).2.2
       · exact HTL.out
       · omega
       · exact (B2.out.step MB.out).size
       rintro v4 w4 hown hgr
       have HO4 := Lib.hid hown
       have B4 : Hid (Below w.heap.size w w4) := (B2.out.step MB.out).grown hgr (B2.out.step MB.out).size (ge_ownE HG.out)
       clear hown hgr)
    | fail)
  go_ret2
  exact ⟨_, rfl, by rw [← HSE.out]; exact HO4.out, B4.out⟩
end Go.Proofs.Ytfcnahbbieldfaa

/- aead: Open's own function; Seal and Open. -/
namespace Go.Proofs.Ytfcnahbbieldfaa
open Go.RowKit
set_option linter.unusedVariables false
set_option linter.unusedSimpArgs false
set_option maxRecDepth 100000
theorem own_monoE {w : World} {base b' : Nat} {e : TypeId} {s : Nat} {v : Value} {n : Nat} {xs : List Value} (h : w.ownsRow base e s v n xs) (hb : b' ≤ base) : w.ownsRow b' e s v n xs := by
  obtain ⟨h0, h | ⟨g, cap, cur, hv, hg, r⟩⟩ := h
  · exact ⟨h0, .inl h⟩
  · exact ⟨h0, .inr ⟨g, cap, cur, hv, Nat.le_trans hb hg, r⟩⟩
/-- what opening comes to -/
def OpenE (w : World) (key nonce aad b : List UInt8) (m : Nat) (v : Value) (x : Int) (w' : World) : Prop :=
  if tagL key nonce aad (b.take m) = b.drop m then x = 0 ∧ w'.ownsRow w.heap.size 5 1 v m ((cryptC key nonce 1#32 (b.take m)).map bv) else v = .slice none 0 0 ∧ x = 7
theorem callSealE : ∀ args W, (callFunc 17 args).run Try.prog W = .ok (.enter 17 args) W := fun _ _ => by kernel_rfl
theorem heap_two (w : World) (o1 o2 : Obj) : ((w.alloc o1).alloc o2).heap[w.heap.size]? = some o1 ∧ ((w.alloc o1).alloc o2).heap[w.heap.size + 1]? = some o2 ∧ Below w.heap.size w ((w.alloc o1).alloc o2) := heap2c w o1 o2
set_option maxHeartbeats 2000000 in
theorem aseal_any (key nonce aad x : List UInt8) (A1 A2 A3 A4 : Option Addr) (c1 c2 k3 c3 k4 c4 : Nat) (w : World) (hk : key.length = 32) (hn : nonce.length = 12) (h3 : aad.length = k3) (h4 : x.length = k4) (h31 : k3 ≤ 100000) (h41 : k4 ≤ 100000)
    (S1 : Sl w A1 c1 key) (S2 : Sl w A2 c2 nonce) (S3 : Sl w A3 c3 aad) (S4 : Sl w A4 c4 x) :
    Calls Try.prog 5 #[.slice A1 32 c1, .slice A2 12 c2, .slice A3 k3 c3, .slice A4 k4 c4] w fun e w' =>
      ∃ v, e = .returned (.tuple #[v, .int .i64 0]) ∧ w'.ownsRow w.heap.size 5 1 v (k4 + 16) ((sealE key nonce aad x).map bv) ∧ Below w.heap.size w w' := by
  have G := heap_two w (.cells #[.slice A3 k3 c3] 26) (.cells #[.slice A4 k4 c4] 26)
  have BA : Hid (Calls Try.prog 16 #[.slice A1 32 c1, .slice A2 12 c2, .func (.func 17) #[] #[.pointer (some ⟨w.heap.size + 1, 0, none⟩), .pointer (some ⟨w.heap.size, 0, none⟩)]] ((w.alloc (.cells #[.slice A3 k3 c3] 26)).alloc (.cells #[.slice A4 k4 c4] 26)) fun e w' =>
      ∃ v y, e = .returned (.tuple #[v, .int .i64 y]) ∧ Ext ((w.alloc (.cells #[.slice A3 k3 c3] 26)).alloc (.cells #[.slice A4 k4 c4] 26)) w' ∧ (y = 0 ∧ w'.ownsRow w.heap.size 5 1 v (k4 + 16) ((sealE key nonce aad x).map bv))) := by
    generalize (w.alloc _).alloc _ = W0 at G ⊢
    refine aboth_any 17 _ (fun v y w' => y = 0 ∧ w'.ownsRow w.heap.size 5 1 v (k4 + 16) ((sealE key nonce aad x).map bv)) key nonce A1 A2 c1 c2 W0 hk hn (S1.below G.2.2) (S2.below G.2.2) callSealE fun W hW => ?_
    have hb := G.2.2.step hW
    refine (seal1_any key nonce (w.heap.size + 1) w.heap.size A3 A4 k3 c3 k4 c4 aad x W hk hn h3 h4 h31 h41 (S3.below hb) (S4.below hb) (box_ext G.2.1 hW) (box_ext G.1 hW)).mono ?_
    rintro e w' ⟨v, rfl, hO, hB⟩
    exact ⟨v, 0, rfl, hB, rfl, own_monoE hO hb.size⟩
  have GB := Lib.hid G.2.2
  clear G hk hn h3 h4 S1 S2 S3 S4
  generalize sealE key nonce aad x = R at BA ⊢
  go_enter Try.func5, Try.ntmps5
  go_wp2_with fail
  refine BA.out.mono ?_
  rintro e w' ⟨v, y, rfl, hE, rfl, hO⟩
  have HO := Lib.hid hO
  have HB : Hid (Below w.heap.size w w') := GB.out.step hE
  clear hO hE
  go_wp2
  go_ret2
  exact ⟨_, rfl, HO.out, HB.out⟩
end Go.Proofs.Ytfcnahbbieldfaa

/- A key, whether it is long, and an IV, that come in (layer 8). -/
namespace Go.Proofs.Ytfcnahbbieldfaa
open Go.RowKit Go.ChangeShapes Go.WideShapes Go.ChangeAt
set_option maxRecDepth 100000
set_option linter.unusedVariables false
set_option linter.unusedSimpArgs false
def kCells (k : List UInt8) (b : Bool) (n : List UInt8) : List Value := k.map bv ++ ([.bool b] ++ n.map bv)
theorem split49 (L : List Value) (h : L.length = 49) : L = L.take 32 ++ ((L.drop 32).take 1 ++ (L.drop 33).take 16) := by
  have h1 := List.take_append_drop 32 L
  have h2 := List.take_append_drop 1 (L.drop 32)
  rw [List.drop_drop] at h2
  have h4 : (L.drop 33).take 16 = L.drop 33 := List.take_of_length_le (by simp; omega)
  rw [h4, show L.drop 33 = L.drop (32 + 1) from rfl, h2, h1]
end Go.Proofs.Ytfcnahbbieldfaa

/- AES in Lean, and the contracts of the small functions of package aes. -/
namespace Go.Proofs.Ytfcnahbbieldfaa
open Go.RowKit
set_option linter.unusedVariables false
set_option maxRecDepth 100000
set_option linter.unusedSimpArgs false
def dblW (x : W32) : W32 := ((x &&& 2139062143#32) <<< 1) ^^^ ((x >>> 7 &&& 16843009#32) * 27#32)
def mixW (x : W32) : W32 := dblW x ^^^ dblW (rotl x 8) ^^^ rotl x 8 ^^^ rotl x 16 ^^^ rotl x 24
def unmixW (x : W32) : W32 := mixW (mixW (mixW x))
theorem shl32 (x : W32) (k : Nat) (m : Int) (hm : m = 2 ^ k) : ((x.toNat : Int) * m) % 4294967296 = ((x <<< k).toNat : Int) := by
  rw [BitVec.toNat_shiftLeft, Nat.shiftLeft_eq, hm]; simp
theorem mul32 (x y : W32) : ((x.toNat : Int) * (y.toNat : Int)) % 4294967296 = ((x * y).toNat : Int) := by
  rw [BitVec.toNat_mul]; simp
set_option maxHeartbeats 1000000 in
theorem double_any (x : W32) (w : World) : Calls Try.prog 49 #[wv x] w fun e w' => e = .returned (wv (dblW x)) ∧ w = w' := by
  unfold wv
  obtain ⟨x7, h7⟩ : ∃ z, z = x >>> 7 := ⟨_, rfl⟩
  obtain ⟨f, hf⟩ : ∃ z, z = x7 &&& 16843009#32 := ⟨_, rfl⟩
  obtain ⟨a, ha⟩ : ∃ z, z = x &&& 2139062143#32 := ⟨_, rfl⟩
  obtain ⟨a2, ha2⟩ : ∃ z, z = a <<< 1 := ⟨_, rfl⟩
  obtain ⟨p, hp⟩ : ∃ z, z = f * 27#32 := ⟨_, rfl⟩
  obtain ⟨r, hr⟩ : ∃ z, z = dblW x := ⟨_, rfl⟩
  have u1 : (x.toNat : Int) / 128 = (x7.toNat : Int) := by rw [h7, shr32]; rfl
  have u2 : bits .and .u32 (x7.toNat : Int) 16843009 = (f.toNat : Int) := by rw [hf]; exact and32 x7 16843009#32
  have u3 : bits .and .u32 (x.toNat : Int) 2139062143 = (a.toNat : Int) := by rw [ha]; exact and32 x 2139062143#32
  have u4 : (a.toNat : Int) * 2 % 4294967296 = (a2.toNat : Int) := by rw [ha2]; exact shl32 a 1 2 rfl
  have u5 : (f.toNat : Int) * 27 % 4294967296 = (p.toNat : Int) := by rw [hp]; exact mul32 f 27#32
  have u6 : Hid (bits .xor .u32 (a2.toNat : Int) (p.toNat : Int) = (r.toNat : Int)) := by show _ = _; rw [hr, xor32, ha2, hp, ha, hf, h7]; rfl
  rw [← hr]
  clear h7 hf ha ha2 hp hr
  go_enter Try.func49, Try.ntmps49
  go_wp2
  go_ret
  exact ⟨ret_int (by first | exact u6.out | (rw [u6.out])), rfl⟩
set_option maxHeartbeats 1000000 in
theorem mixW_any (x : W32) (w : World) : Calls Try.prog 56 #[wv x] w fun e w' => e = .returned (wv (mixW x)) ∧ w = w' := by
  unfold wv
  obtain ⟨n, hn⟩ : ∃ z, z = rotl x 8 := ⟨_, rfl⟩
  obtain ⟨d1, hd1⟩ : ∃ z, z = dblW x := ⟨_, rfl⟩
  obtain ⟨d2, hd2⟩ : ∃ z, z = dblW n := ⟨_, rfl⟩
  obtain ⟨s1, hs1⟩ : ∃ z, z = d1 ^^^ d2 := ⟨_, rfl⟩
  obtain ⟨s2, hs2⟩ : ∃ z, z = s1 ^^^ n := ⟨_, rfl⟩
  obtain ⟨r16, h16⟩ : ∃ z, z = rotl x 16 := ⟨_, rfl⟩
  obtain ⟨s3, hs3⟩ : ∃ z, z = s2 ^^^ r16 := ⟨_, rfl⟩
  obtain ⟨r24, h24⟩ : ∃ z, z = rotl x 24 := ⟨_, rfl⟩
  obtain ⟨r, hr⟩ : ∃ z, z = mixW x := ⟨_, rfl⟩
  have u1 : bits .xor .u32 (d1.toNat : Int) (d2.toNat : Int) = (s1.toNat : Int) := by rw [hs1]; exact xor32 _ _
  have u2 : bits .xor .u32 (s1.toNat : Int) (n.toNat : Int) = (s2.toNat : Int) := by rw [hs2]; exact xor32 _ _
  have u3 : bits .xor .u32 (s2.toNat : Int) (r16.toNat : Int) = (s3.toNat : Int) := by rw [hs3]; exact xor32 _ _
  have u4 : Hid (bits .xor .u32 (s3.toNat : Int) (r24.toNat : Int) = (r.toNat : Int)) := by show _ = _; rw [hr, xor32, h24, hs3, hs2, hs1, hd1, hd2, hn, h16]; rfl
  have HN := Lib.hid hn; have HD1 := Lib.hid hd1; have HD2 := Lib.hid hd2; have H16 := Lib.hid h16; have H24 := Lib.hid h24
  rw [← hr]
  clear hn hd1 hd2 hs1 hs2 h16 hs3 h24 hr
  go_enter Try.func56, Try.ntmps56
  go_wp2_with fail
  refine (left_any x 8 w).mono ?_
  rw [← HN.out]
  rintro e w1 ⟨rfl, rfl⟩
  go_wp2_with fail
  refine (double_any x w).mono ?_
  rw [← HD1.out]
  rintro e w1 ⟨rfl, rfl⟩
  unfold wv
  go_wp2_with fail
  refine (double_any n w).mono ?_
  rw [← HD2.out]
  rintro e w1 ⟨rfl, rfl⟩
  unfold wv
  go_wp2_with fail
  refine (left_any x 16 w).mono ?_
  rw [← H16.out]
  rintro e w1 ⟨rfl, rfl⟩
  go_wp2_with fail
  refine (left_any x 24 w).mono ?_
  rw [← H24.out]
  rintro e w1 ⟨rfl, rfl⟩
  go_wp2
  go_ret
  exact ⟨ret_int (by first | exact u4.out | (rw [u4.out])), rfl⟩
def sboxL : List UInt8 := [
  99, 124, 119, 123, 242, 107, 111, 197, 48, 1, 103, 43, 254, 215, 171, 118,
  202, 130, 201, 125, 250, 89, 71, 240, 173, 212, 162, 175, 156, 164, 114, 192,
  183, 253, 147, 38, 54, 63, 247, 204, 52, 165, 229, 241, 113, 216, 49, 21,
  4, 199, 35, 195, 24, 150, 5, 154, 7, 18, 128, 226, 235, 39, 178, 117,
  9, 131, 44, 26, 27, 110, 90, 160, 82, 59, 214, 179, 41, 227, 47, 132,
  83, 209, 0, 237, 32, 252, 177, 91, 106, 203, 190, 57, 74, 76, 88, 207,
  208, 239, 170, 251, 67, 77, 51, 133, 69, 249, 2, 127, 80, 60, 159, 168,
  81, 163, 64, 143, 146, 157, 56, 245, 188, 182, 218, 33, 16, 255, 243, 210,
  205, 12, 19, 236, 95, 151, 68, 23, 196, 167, 126, 61, 100, 93, 25, 115,
  96, 129, 79, 220, 34, 42, 144, 136, 70, 238, 184, 20, 222, 94, 11, 219,
  224, 50, 58, 10, 73, 6, 36, 92, 194, 211, 172, 98, 145, 149, 228, 121,
  231, 200, 55, 109, 141, 213, 78, 169, 108, 86, 244, 234, 101, 122, 174, 8,
  186, 120, 37, 46, 28, 166, 180, 198, 232, 221, 116, 31, 75, 189, 139, 138,
  112, 62, 181, 102, 72, 3, 246, 14, 97, 53, 87, 185, 134, 193, 29, 158,
  225, 248, 152, 17, 105, 217, 142, 148, 155, 30, 135, 233, 206, 85, 40, 223,
  140, 161, 137, 13, 191, 230, 66, 104, 65, 153, 45, 15, 176, 84, 187, 22]
theorem sboxL_len : sboxL.length = 256 := by decide +kernel
def zeros256 : List Value := List.replicate 256 (Value.int .u8 0)
theorem zeros256_len : zeros256.length = 256 := by unfold zeros256; exact List.length_replicate
theorem zeroTb (W : World) : (zeroValue 92).run Try.prog W = .ok (.agg zeros256.toArray) W := by kernel_rfl
theorem arrTb : Try.prog.underlying 92 = some (.array 256 5) := Try.underlying92
theorem iTb : (Try.prog.info? 92).map (·.size) = some 256 := by kernel_rfl
theorem subCells : (sboxL.map bv).length = 256 := by rw [List.length_map]; exact sboxL_len
def sboxV : List Value := sboxL.map bv
set_option maxRecDepth 100000 in
set_option maxHeartbeats 2000000 in
theorem forward_any (w : World) : Calls Try.prog 46 #[] w fun e w' => e = .returned (.agg (sboxL.map bv).toArray) ∧ Below w.heap.size w w' := by
  have F0 : Hid ((w.alloc (.cells zeros256.toArray 92)).heap[w.heap.size]? = some (.cells zeros256.toArray 92 (0, 0))) := heap_alloc_new' w _
  have HI : Hid ((Try.prog.info? 92).map (·.size) = some sboxV.length) := by show _ = some (sboxL.map bv).length; rw [subCells]; exact iTb
  have HIs : Hid ((Try.prog.info? 92).map (·.size) = some sboxV.toArray.size) := by show _ = some (sboxL.map bv).toArray.size; rw [List.size_toArray, subCells]; exact iTb
  have HE : Hid (zeros256.length = sboxV.length) := by show _ = (sboxL.map bv).length; rw [subCells, zeros256_len]
  have HO : Hid (∀ v ∈ sboxV, v.oneCell' = true) := bv_one sboxL
  have hz := zeroTb
  have HV : Hid (sboxL.map bv = sboxV) := rfl
  have HB : Hid (∀ (a : Act) (o : Oper), True) := fun _ _ => trivial
  rw [HV.out]
  go_enter Try.func46, Try.ntmps46
  go_wp2_with (first
    | (refine wpList_run (o := ⟨some 1, _, _, _, _, _⟩) rfl (v := .agg sboxV.toArray) (w' := w.alloc (.cells zeros256.toArray 92)) (by kernel_rfl) ?_
       obtain ⟨R, hR⟩ : ∃ R, Hid (sboxV = R) := ⟨_, rfl⟩
       rw [hR.out] at HI HIs HE HO ⊢)
    | (refine wpList_st rfl 92 (.tmp 0) (.tmp 1) rfl (store_arr (cs := R) HI.out HO.out F0.out HE.out) ?_))
  have hres := setRow_heap _ w.heap.size _ R.toArray 92 _ F0.out
  exact bodyPost_ret (results_cell_row (P := Try.prog) rfl _ _ w.heap.size 92 R.toArray (0, 0) _ rfl hres arrTb rfl HIs.out) rfl ⟨by rw [hR.out], ((Below.refl _ _).alloc (Nat.le_refl _) _).trans (grown_below (grown_setRow _ _ _) (Nat.le_refl _) (by simp))⟩
def subL (x : UInt8) : UInt8 := sboxL.getD x.toNat 0
end Go.Proofs.Ytfcnahbbieldfaa

/- The contracts of the table's calls, and of each. -/
namespace Go.Proofs.Ytfcnahbbieldfaa
open Go.RowKit
set_option linter.unusedVariables false
set_option maxRecDepth 100000
set_option linter.unusedSimpArgs false
theorem bcellT {w : World} {g : Nat} {bs : List UInt8} {t : TypeId} {fr : Nat × Nat} (h : w.heap[g]? = some (.cells (bs.map bv).toArray t fr)) (i : Nat) (hi : i < bs.length) : w.cell? ⟨g, i, none⟩ = some (.int .u8 ((bs.getD i 0).toNat : Int)) := by
  rw [cell_of_heap h, List.getElem?_map, List.getElem?_eq_getElem hi]; simp [hi, List.getD, bv]
/-- the number of the bytes of x by the table, the first k of them -/
def wordN (T : List UInt8) (x : W32) (k : Nat) : Nat := littleN ((List.range k).map fun i => T.getD (byteAt x.toNat i).toNat 0)
def subW (T : List UInt8) (x : W32) : W32 := BitVec.ofNat 32 (wordN T x 4)
theorem wordN_lt (T : List UInt8) (x : W32) (k : Nat) : wordN T x k < 256 ^ k := by
  have := littleN_lt ((List.range k).map fun i => T.getD (byteAt x.toNat i).toNat 0)
  simpa [wordN] using this
theorem wordN_succ (T : List UInt8) (x : W32) (k : Nat) : wordN T x (k + 1) = wordN T x k + 256 ^ k * (T.getD (byteAt x.toNat k).toNat 0).toNat := by
  unfold wordN
  rw [List.range_succ, List.map_append, List.map_singleton, littleN_snoc]; simp
theorem subW_toNat (T : List UInt8) (x : W32) : ((subW T x).toNat : Int) = (wordN T x 4 : Int) := by
  have := wordN_lt T x 4
  rw [subW, BitVec.toNat_ofNat, Nat.mod_eq_of_lt (by omega)]
theorem or_shl32 (N x k : Nat) (hN : N < 256 ^ k) (hx : x < 256) (hk : k < 4) : bits .or .u32 (N : Int) ((x : Int) * 2 ^ (8 * k) % 4294967296) = ((N + 256 ^ k * x : Nat) : Int) := by
  have h8 : (256 : Nat) ^ 4 = 4294967296 := by decide
  have h1 : 256 ^ k * x < 256 ^ (k + 1) := by
    rw [Nat.pow_succ]; exact Nat.mul_lt_mul_of_pos_left hx (Nat.pow_pos (by decide))
  have h2 : 256 ^ (k + 1) ≤ 256 ^ 4 := Nat.pow_le_pow_right (by decide) (by omega)
  have h3 : (256 : Nat) ^ k ≤ 256 ^ 4 := Nat.pow_le_pow_right (by decide) (by omega)
  have e : ((x : Int) * 2 ^ (8 * k)) = ((256 ^ k * x : Nat) : Int) := by rw [pow256, Nat.mul_comm (2 ^ (8 * k)) x]; simp
  rw [e, Int.emod_eq_of_lt (by omega) (by omega), u32_or_nat _ _ (by omega) (by omega), Nat.or_comm, nat_join (8 * k) _ N ?_ (by rw [← pow256]; exact hN)]
  · rw [Nat.add_comm]
  · rw [← pow256]; exact Nat.mul_mod_right _ _
theorem at_math32 (x : W32) (i : Nat) (hi : i < 4) : (x.toNat : Int) / 2 ^ (8 * i) % 256 = ((byteAt x.toNat i).toNat : Int) := by
  have := at_math x.toNat i (by have := x.isLt; omega)
  rw [Nat.min_eq_left (by omega)] at this; exact this
set_option maxHeartbeats 1000000 in
theorem word_any (g : Nat) (T : List UInt8) (x : W32) (w : World) {t : TypeId} {fr : Nat × Nat} (hl : T.length = 256) (hT : w.heap[g]? = some (.cells (T.map bv).toArray t fr)) :
    Calls Try.prog 47 #[.pointer (some ⟨g, 0, none⟩), wv x] w fun e w' => e = .returned (wv (subW T x)) ∧ w = w' := by
  unfold wv
  rw [subW_toNat]
  have HL := Lib.hid hl; have HT := Lib.hid hT
  clear hl hT
  go_enter Try.func47, Try.ntmps47
  go_wp2_with fail
  go_loop [5, 7] (fun vo vi => ∃ (i N : Nat), i ≤ 4 ∧ vi = .int .i64 (i : Int) ∧ vo = .int .u32 (N : Int) ∧ Hid (N = wordN T x i)) (fun _ i => 4 - (intOf i).toNat)
  case atStart => exact ⟨0, 0, by omega, rfl, rfl, rfl⟩
  case round =>
    obtain ⟨i, N, hi, rfl, rfl, HN⟩ := hrel
    by_cases hlt : i < 4
    · have q1 : (i : Int) < 4 := by omega
      have h0 : (0 : Int) ≤ 8 * (i : Int) := by omega
      have h1 : (8 * (i : Int)).toNat = 8 * i := by omega
      have am := at_math32 x i hlt
      have HS := Lib.hid (wordN_succ T x i)
      have c0 := bcellT HT.out (byteAt x.toNat i).toNat (by rw [HL.out]; exact (byteAt x.toNat i).toNat_lt)
      have hb := (byteAt x.toNat i).toNat_lt
      have hN4 : Hid (N < 256 ^ i) := by show _ < _; rw [HN.out]; exact wordN_lt T x i
      generalize T.getD (byteAt x.toNat i).toNat 0 = z at c0 HS
      generalize byteAt x.toNat i = bb at c0 am hb
      have q2 : (bb.toNat : Int) < 256 := by omega
      have OS := Lib.hid (or_shl32 N z.toNat i hN4.out z.toNat_lt hlt)
      have hm : min (8 * i) 32 = 8 * i := by omega
      go_wp2
      go_round
      case rel =>
        refine ⟨i + 1, N + 256 ^ i * z.toNat, by omega, by go_num, ?_, ?_⟩
        · have hz := z.toNat_lt
          rw [Int.emod_eq_of_lt (a := (z.toNat : Int)) (by omega) (by omega), OS.out]
        · show _ = _; rw [HS.out, ← HN.out]
      case measure => simp [intOf]; omega
    · go_wp2
      go_ret
      exact ⟨ret_int (by rw [HN.out, show i = 4 by omega]), rfl⟩
theorem arr4W : Try.prog.underlying 99 = some (.array 4 33) := Try.underlying99
theorem i4W : (Try.prog.info? 99).map (·.size) = some 4 := by kernel_rfl
theorem s32' : (Try.prog.info? 33).map (·.size) = some 1 := by kernel_rfl
def eachN (f : W32 → W32) (s : List W32) (i : Nat) : List W32 := (s.take i).map f ++ s.drop i
theorem eachN_step (f : W32 → W32) (s : List W32) (i : Nat) (hi : i < s.length) : (eachN f s i).set i (f (s.getD i 0)) = eachN f s (i + 1) := by
  have hl : ((s.take i).map f).length = i := by simp; omega
  unfold eachN
  rw [List.set_append_right _ _ (by omega), hl, Nat.sub_self, List.drop_eq_getElem_cons hi, List.set_cons_zero, List.take_succ_eq_append_getElem hi, List.map_append, List.append_assoc]
  simp [List.getD, hi]
theorem eachN_get (f : W32 → W32) (s : List W32) (i : Nat) (hi : i < s.length) : (eachN f s i).getD i 0 = s.getD i 0 := by
  have hl : ((s.take i).map f).length = i := by simp; omega
  rw [eachN, List.getD_eq_getElem?_getD, List.getElem?_append_right (by omega), hl, List.getElem?_drop, List.getD_eq_getElem?_getD]; simp
theorem eachN_len (f : W32 → W32) (s : List W32) (i : Nat) : (eachN f s i).length = s.length := by simp [eachN]; omega
theorem eachN_end (f : W32 → W32) (s : List W32) : eachN f s s.length = s.map f := by simp [eachN]
set_option maxHeartbeats 2000000 in
theorem each_any (F : FuncId) (pre : Array Value) (cap : Array Value) (f : W32 → W32) (s : List W32) (w : World) (hs : s.length = 4) (hcall : ∀ args W, (callFunc F args).run Try.prog W = .ok (.enter F args) W)
    (hF : ∀ x W, Below w.heap.size w W → Calls Try.prog F (pre.push (wv x) ++ cap) W fun e W' => e = .returned (wv (f x)) ∧ W = W') :
    Calls Try.prog 55 #[.func (.func F) pre cap, .agg (s.map wv).toArray] w fun e w' => e = .returned (.agg ((s.map f).map wv).toArray) ∧ Below w.heap.size w w' := by
  have HSL := Lib.hid hs; have HF := Lib.hid hF
  clear hs hF
  go_enter Try.func55, Try.ntmps55
  go_wp2_with fail
  generalize hV : (w.alloc _).alloc _ = W0
  have F0 : Hid (W0.heap[w.heap.size]? = some (.cells ((eachN f s 0).map wv).toArray 99 (0, 0))) := by rw [← hV]; exact (heap2 w _ _).1
  have F1 : Hid (W0.heap[w.heap.size + 1]? = some (.cells (List.replicate 4 (Value.int .u32 0)).toArray 99 (0, 0))) := by rw [← hV]; exact (heap2 w _ _).2.1
  have FB : Hid (Below w.heap.size w W0) := by rw [← hV]; exact (heap2 w _ _).2.2
  clear hV
  go_loopw [6] (fun vi wr => ∃ (i : Nat), i ≤ 4 ∧ vi = .int .i64 (i : Int) ∧ Hid (Below w.heap.size w wr) ∧ Hid (wr.heap[w.heap.size]? = some (.cells ((eachN f s i).map wv).toArray 99 (0, 0))) ∧ Hid (wr.heap[w.heap.size + 1]? = some (.cells (List.replicate 4 (Value.int .u32 0)).toArray 99 (0, 0)))) (fun i _ => 4 - (intOf i).toNat)
  case atStart => exact ⟨0, by omega, rfl, FB, F0, F1⟩
  case round =>
    clear F0 F1 FB
    obtain ⟨i, hi, rfl, HB, H0, H1⟩ := hrel
    by_cases hlt : i < 4
    · have q1 : (i : Int) < 4 := by omega
      have c0 := wcell H0.out i (by rw [eachN_len, HSL.out]; exact hlt)
      rw [eachN_get f s i (by rw [HSL.out]; exact hlt)] at c0
      have fz := frozen_of_heap H0.out i
      have HST := Lib.hid (eachN_step f s i (by rw [HSL.out]; exact hlt))
      have HFX := Lib.hid (HF.out (s.getD i 0) wr HB.out)
      generalize f (s.getD i 0) = z at HST HFX
      generalize s.getD i 0 = x at c0 HFX
      go_wp2_with fail
      refine HFX.out.mono ?_
      rintro e w1 ⟨he, rfl⟩
      have he' : e = .returned (.int .u32 (z.toNat : Int)) := he
      clear he
      subst he'
      go_wp2
      go_roundw
      case rel =>
        refine ⟨i + 1, by omega, by go_num, ?_, ?_, ?_⟩
        · exact HB.out.setCell (Nat.le_refl _) _
        · have := heap_set H0.out i (wv z)
          rw [← List.map_set, HST.out] at this
          exact this
        · exact (Below.heap_setCell wr _ _ _ (Nat.succ_ne_self _)).trans H1.out
      case measure => simp [intOf]; omega
    · have H0' : Hid (wr.heap[w.heap.size]? = some (.cells ((s.map f).map wv).toArray 99 (0, 0))) := by have := H0.out; rw [show i = s.length by rw [HSL.out]; omega, eachN_end] at this; exact this
      have hl4 : Hid (((s.map f).map wv).length = 4) := by show _ = _; rw [List.length_map, List.length_map, HSL.out]
      clear H0
      obtain ⟨L, HLL⟩ : ∃ L, Hid ((s.map f).map wv = L) := ⟨_, rfl⟩
      have hone : Hid (∀ v ∈ L, v.oneCell' = true) := by show ∀ v ∈ L, _; rw [← HLL.out]; exact wv_one _
      rw [HLL.out] at H0' hl4
      go_wp2_with (first
        | (refine wpList_ld rfl 99 (.tmp 3) rfl (load_arr arr4W rfl (by rw [hl4.out]; exact i4W) H0'.out) ?_)
        | (refine wpList_st rfl 99 (.tmp 4) (.tmp 17) rfl (store_arr (cs := L) (by rw [hl4.out]; exact i4W) hone.out H1.out (by rw [hl4.out]; simp)) ?_))
      have hres := setRow_heap wr (w.heap.size + 1) _ L.toArray 99 _ H1.out
      exact bodyPost_ret (results_cell_row (P := Try.prog) rfl _ _ (w.heap.size + 1) 99 L.toArray (0, 0) _ rfl hres arr4W rfl (by rw [List.size_toArray, hl4.out]; exact i4W)) rfl ⟨by rw [HLL.out], HB.out.trans (grown_below (grown_setRow _ _ _) (Nat.le_succ _) HB.out.size)⟩
theorem callWord : ∀ args W, (callFunc 47 args).run Try.prog W = .ok (.enter 47 args) W := fun _ _ => by kernel_rfl
theorem callMix : ∀ args W, (callFunc 56 args).run Try.prog W = .ok (.enter 56 args) W := fun _ _ => by kernel_rfl
theorem each_mix (s : List W32) (w : World) (hs : s.length = 4) : Calls Try.prog 55 #[.func (.func 56) #[] #[], .agg (s.map wv).toArray] w fun e w' => e = .returned (.agg ((s.map mixW).map wv).toArray) ∧ Below w.heap.size w w' :=
  each_any _ #[] #[] mixW s w hs callMix (fun x W _ => mixW_any x W)
set_option maxHeartbeats 1000000 in
theorem all_any (g : Nat) (T : List UInt8) (s : List W32) (w : World) {t : TypeId} {fr : Nat × Nat} (hs : s.length = 4) (hl : T.length = 256) (hT : w.heap[g]? = some (.cells (T.map bv).toArray t fr)) :
    Calls Try.prog 58 #[.pointer (some ⟨g, 0, none⟩), .agg (s.map wv).toArray] w fun e w' => e = .returned (.agg ((s.map (subW T)).map wv).toArray) ∧ Below w.heap.size w w' := by
  have HE : Hid (∀ W, Below w.heap.size w W → Calls Try.prog 55 #[.func (.func 47) #[.pointer (some ⟨g, 0, none⟩)] #[], .agg (s.map wv).toArray] W fun e w' => e = .returned (.agg ((s.map (subW T)).map wv).toArray) ∧ Below W.heap.size W w') := fun W hW =>
    each_any _ #[.pointer (some ⟨g, 0, none⟩)] #[] (subW T) s W hs callWord (fun x W' hW' => word_any g T x W' hl ((hW'.block _ (Nat.lt_of_lt_of_le (lt_of_heap hT) hW.size)).trans ((hW.block _ (lt_of_heap hT)).trans hT)))
  have hl4 : Hid (((s.map (subW T)).map wv).length = 4) := by show _ = _; rw [List.length_map, List.length_map, hs]
  have hi4 : Hid ((Try.prog.info? 99).map (·.size) = some (s.map wv).length) := by show _ = _; rw [List.length_map, hs]; exact i4W
  have hone : Hid (∀ v ∈ (s.map (subW T)).map wv, v.oneCell' = true) := wv_one _
  generalize (s.map (subW T)).map wv = L at HE hl4 hone ⊢
  clear hs hl hT
  go_enter Try.func58, Try.ntmps58
  go_upto_region 1 with (fail)
  generalize hV : (w.alloc _).alloc _ = W0
  have F0 : Hid (W0.heap[w.heap.size]? = some (.cells (s.map wv).toArray 99 (0, 0))) := by rw [← hV]; exact (heap2 w _ _).1
  have F1 : Hid (W0.heap[w.heap.size + 1]? = some (.cells (List.replicate 4 (Value.int .u32 0)).toArray 99 (0, 0))) := by rw [← hV]; exact (heap2 w _ _).2.1
  have FB : Hid (Below w.heap.size w W0) := by rw [← hV]; exact (heap2 w _ _).2.2
  clear hV
  go_wp2_with (first
    | (refine wpList_ld rfl 99 (.tmp 3) rfl (load_arr arr4W rfl hi4.out F0.out) ?_)
    | fail)
  refine (HE.out W0 FB.out).mono ?_
  rintro e w1 ⟨rfl, hB1⟩
  have P1 := Lib.hid ((hB1.block _ (lt_of_heap F1.out)).trans F1.out)
  have PB := Lib.hid (FB.out.step hB1)
  clear hB1
  go_wp2_with (first
    | (refine wpList_st rfl 99 (.tmp 4) (.tmp 8) rfl (store_arr (cs := L) (by rw [hl4.out]; exact i4W) hone.out P1.out (by rw [hl4.out]; simp)) ?_)
    | fail)
  have hres := setRow_heap w1 (w.heap.size + 1) _ L.toArray 99 _ P1.out
  exact bodyPost_ret (results_cell_row (P := Try.prog) rfl _ _ (w.heap.size + 1) 99 L.toArray (0, 0) _ rfl hres arr4W rfl (by rw [List.size_toArray, hl4.out]; exact i4W)) rfl ⟨rfl, PB.out.trans (grown_below (grown_setRow _ _ _) (Nat.le_succ _) PB.out.size)⟩
end Go.Proofs.Ytfcnahbbieldfaa

/- The contract of (*Keys).add. -/
namespace Go.Proofs.Ytfcnahbbieldfaa
open Go.RowKit
set_option linter.unusedVariables false
set_option maxRecDepth 100000
set_option linter.unusedSimpArgs false
/-- the round keys' cells -/
def keyCells (ws : List W32) (n : Nat) : List Value := ws.map wv ++ [.int .i64 (n : Int)]
theorem keyCell {w : World} {g : Nat} {ws : List W32} {n : Nat} {ty : TypeId} {fr : Nat × Nat} (H : w.heap[g]? = some (.cells (keyCells ws n).toArray ty fr)) (i : Nat) (hi : i < ws.length) : w.cell? ⟨g, i, none⟩ = some (.int .u32 ((ws.getD i 0).toNat : Int)) := by
  rw [cell_of_heap H, keyCells, List.getElem?_append_left (by simpa using hi), List.getElem?_map, List.getElem?_eq_getElem hi]
  simp [List.getD, hi, wv]
theorem keyN {w : World} {g : Nat} {ws : List W32} {n : Nat} {ty : TypeId} {fr : Nat × Nat} (H : w.heap[g]? = some (.cells (keyCells ws n).toArray ty fr)) (hl : ws.length = 60) : w.cell? ⟨g, 60, none⟩ = some (.int .i64 (n : Int)) := by
  rw [cell_of_heap H, keyCells, List.getElem?_append_right (by simp [hl])]; simp [hl]
/-- the round keys' cells stand at the head of block g -/
def KIn (w : World) (g : Nat) (ws : List W32) (n : Nat) : Prop := g < w.heap.size ∧ w.rangeAt g 0 (keyCells ws n)
theorem kin_of {w : World} {g : Nat} {ws : List W32} {n : Nat} {ty : TypeId} {fr : Nat × Nat} (H : w.heap[g]? = some (.cells (keyCells ws n).toArray ty fr)) : KIn w g ws n :=
  ⟨lt_of_heap H, fun j v hv => by rw [cell_of_heap H, Nat.zero_add]; exact hv⟩
theorem kinCell {w : World} {g : Nat} {ws : List W32} {n : Nat} (H : KIn w g ws n) (i : Nat) (hi : i < ws.length) : w.cell? ⟨g, i, none⟩ = some (.int .u32 ((ws.getD i 0).toNat : Int)) := by
  have := H.2 i (.int .u32 ((ws.getD i 0).toNat : Int)) (by rw [keyCells, List.getElem?_append_left (by simpa using hi), List.getElem?_map, List.getElem?_eq_getElem hi]; simp [List.getD, hi, wv])
  rwa [Nat.zero_add] at this
theorem kinN {w : World} {g : Nat} {ws : List W32} {n : Nat} (H : KIn w g ws n) (hl : ws.length = 60) : w.cell? ⟨g, 60, none⟩ = some (.int .i64 (n : Int)) := by
  have := H.2 60 (.int .i64 (n : Int)) (by rw [keyCells, List.getElem?_append_right (by simp [hl])]; simp [hl])
  rwa [Nat.zero_add] at this
theorem KIn.ext {w w' : World} {g : Nat} {ws : List W32} {n : Nat} (H : KIn w g ws n) (hb : Below w.heap.size w w') : KIn w' g ws n :=
  ⟨Nat.lt_of_lt_of_le H.1 hb.size, fun j v hv => (hb.cell H.1).trans (H.2 j v hv)⟩
def keyL (ws : List W32) (r : Nat) : List W32 := (ws.drop (4 * r)).take 4
def addW (ws : List W32) (r : Nat) (s : List W32) : List W32 := List.zipWith (· ^^^ ·) s (keyL ws r)
def addWN (ws : List W32) (r : Nat) (s : List W32) (i : Nat) : List W32 := (addW ws r s).take i ++ s.drop i
theorem addW_len (ws : List W32) (r : Nat) (s : List W32) (hs : s.length = 4) (hw : 4 * r + 4 ≤ ws.length) : (addW ws r s).length = 4 := by simp [addW, keyL, hs]; omega
theorem addWN_len (ws : List W32) (r : Nat) (s : List W32) (i : Nat) (hs : s.length = 4) (hw : 4 * r + 4 ≤ ws.length) (hi : i ≤ 4) : (addWN ws r s i).length = 4 := by
  simp [addWN, addW_len ws r s hs hw, hs]; omega
theorem addWN_get (ws : List W32) (r : Nat) (s : List W32) (i : Nat) (hs : s.length = 4) (hw : 4 * r + 4 ≤ ws.length) (hi : i < 4) : (addWN ws r s i).getD i 0 = s.getD i 0 := by
  have hl : ((addW ws r s).take i).length = i := by rw [List.length_take, addW_len ws r s hs hw]; omega
  rw [addWN, List.getD_eq_getElem?_getD, List.getElem?_append_right (by omega), hl, List.getElem?_drop, List.getD_eq_getElem?_getD]; simp
theorem addWN_step (ws : List W32) (r : Nat) (s : List W32) (i : Nat) (hs : s.length = 4) (hw : 4 * r + 4 ≤ ws.length) (hi : i < 4) : (addWN ws r s i).set i (s.getD i 0 ^^^ ws.getD (4 * r + i) 0) = addWN ws r s (i + 1) := by
  have hl : ((addW ws r s).take i).length = i := by rw [List.length_take, addW_len ws r s hs hw]; omega
  have ha : i < (addW ws r s).length := by rw [addW_len ws r s hs hw]; exact hi
  unfold addWN
  rw [List.set_append_right _ _ (by omega), hl, Nat.sub_self, List.drop_eq_getElem_cons (by omega), List.set_cons_zero, List.take_succ_eq_append_getElem ha, List.append_assoc]
  congr 1
  simp [addW, keyL, List.getD, hs, hi, show 4 * r + i < ws.length by omega]
theorem addWN_end (ws : List W32) (r : Nat) (s : List W32) (hs : s.length = 4) (hw : 4 * r + 4 ≤ ws.length) : addWN ws r s 4 = addW ws r s := by
  rw [addWN, List.take_of_length_le (by rw [addW_len ws r s hs hw]; omega), List.drop_of_length_le (by omega), List.append_nil]
set_option maxHeartbeats 2000000 in
theorem add_any (g : Nat) (ws : List W32) (n r : Nat) (s : List W32) (w : World) (hs : s.length = 4) (hw : ws.length = 60) (hr : r ≤ 14) (hT : KIn w g ws n) :
    Calls Try.prog 53 #[.pointer (some ⟨g, 0, none⟩), .int .i64 (r : Int), .agg (s.map wv).toArray] w fun e w' => e = .returned (.agg ((addW ws r s).map wv).toArray) ∧ Below w.heap.size w w' := by
  have HSL := Lib.hid hs; have HW := Lib.hid hw; have HT := Lib.hid hT
  have hw4 : Hid (4 * r + 4 ≤ ws.length) := by show _ ≤ _; omega
  clear hs hw hT
  go_enter Try.func53, Try.ntmps53
  go_wp2_with fail
  generalize hV : (w.alloc _).alloc _ = W0
  have F0 : Hid (W0.heap[w.heap.size]? = some (.cells ((addWN ws r s 0).map wv).toArray 99 (0, 0))) := by rw [← hV]; exact (heap2 w _ _).1
  have F1 : Hid (W0.heap[w.heap.size + 1]? = some (.cells (List.replicate 4 (Value.int .u32 0)).toArray 99 (0, 0))) := by rw [← hV]; exact (heap2 w _ _).2.1
  have FB : Hid (Below w.heap.size w W0) := by rw [← hV]; exact (heap2 w _ _).2.2
  clear hV
  go_loopw [8] (fun vi wr => ∃ (i : Nat), i ≤ 4 ∧ vi = .int .i64 (i : Int) ∧ Hid (Below w.heap.size w wr) ∧ Hid (wr.heap[w.heap.size]? = some (.cells ((addWN ws r s i).map wv).toArray 99 (0, 0))) ∧ Hid (wr.heap[w.heap.size + 1]? = some (.cells (List.replicate 4 (Value.int .u32 0)).toArray 99 (0, 0)))) (fun i _ => 4 - (intOf i).toNat)
  case atStart => exact ⟨0, by omega, rfl, FB, F0, F1⟩
  case round =>
    clear F0 F1 FB
    obtain ⟨i, hi, rfl, HB, H0, H1⟩ := hrel
    by_cases hlt : i < 4
    · have q1 : (i : Int) < 4 := by omega
      have c0 := wcell H0.out i (by rw [addWN_len ws r s i HSL.out hw4.out hi]; exact hlt)
      rw [addWN_get ws r s i HSL.out hw4.out hlt] at c0
      have fz := frozen_of_heap H0.out i
      have HST := Lib.hid (addWN_step ws r s i HSL.out hw4.out hlt)
      obtain ⟨p, hp⟩ : ∃ p, p = 4 * r := ⟨_, rfl⟩
      obtain ⟨q, hq⟩ : ∃ q, q = p + i := ⟨_, rfl⟩
      rw [← hp, ← hq] at HST
      have o1 : IntKind.i64.wrap (4 * (r : Int)) = (p : Int) := by rw [IntKind.wrap_i64]; omega
      have o2 : IntKind.i64.wrap ((p : Int) + (i : Int)) = (q : Int) := by rw [IntKind.wrap_i64]; omega
      have q2 : (q : Int) < 60 := by omega
      have c1 : wr.cell? ⟨g, q, none⟩ = some (.int .u32 ((ws.getD q 0).toNat : Int)) := (HB.out.cell HT.out.1).trans (kinCell HT.out q (by rw [HW.out]; omega))
      generalize s.getD i 0 = x at c0 HST
      generalize ws.getD q 0 = y at c1 HST
      have HXY := Lib.hid (xor32 x y)
      clear hp hq
      go_wp2_with fail
      go_still_tail 14, (by kernel_rfl)
      change wpList _ _ _ _ _ wr.drew
      go_wp2
      go_roundw
      case rel =>
        refine ⟨i + 1, by omega, by go_num, ?_, ?_, ?_⟩
        · exact HB.out.drew.setCell (Nat.le_refl _) _
        · have h1 : ((addWN ws r s i).map wv).set i (Value.int .u32 (bits .xor .u32 (x.toNat : Int) (y.toNat : Int))) = (addWN ws r s (i + 1)).map wv := by
            rw [HXY.out, ← HST.out, List.map_set]; rfl
          have := heap_set (w := wr.drew) H0.out i (Value.int .u32 (bits .xor .u32 (x.toNat : Int) (y.toNat : Int)))
          rw [h1] at this
          first | exact this | (rw [HXY.out] at this; exact this)
        · exact (Below.heap_setCell wr.drew _ _ _ (Nat.succ_ne_self _)).trans H1.out
      case measure => simp [intOf]; omega
    · have H0' : Hid (wr.heap[w.heap.size]? = some (.cells ((addW ws r s).map wv).toArray 99 (0, 0))) := by have := H0.out; rw [show i = 4 by omega, addWN_end ws r s HSL.out hw4.out] at this; exact this
      have hl4 : Hid (((addW ws r s).map wv).length = 4) := by show _ = _; rw [List.length_map, addW_len ws r s HSL.out hw4.out]
      clear H0
      obtain ⟨L, HLL⟩ : ∃ L, Hid ((addW ws r s).map wv = L) := ⟨_, rfl⟩
      have hone : Hid (∀ v ∈ L, v.oneCell' = true) := by show ∀ v ∈ L, _; rw [← HLL.out]; exact wv_one _
      rw [HLL.out] at H0' hl4
      go_wp2_with (first
        | (refine wpList_ld rfl 99 (.tmp 5) rfl (load_arr arr4W rfl (by rw [hl4.out]; exact i4W) H0'.out) ?_)
        | (refine wpList_st rfl 99 (.tmp 6) (.tmp 26) rfl (store_arr (cs := L) (by rw [hl4.out]; exact i4W) hone.out H1.out (by rw [hl4.out]; simp)) ?_))
      have hres := setRow_heap wr (w.heap.size + 1) _ L.toArray 99 _ H1.out
      exact bodyPost_ret (results_cell_row (P := Try.prog) rfl _ _ (w.heap.size + 1) 99 L.toArray (0, 0) _ rfl hres arr4W rfl (by rw [List.size_toArray, hl4.out]; exact i4W)) rfl ⟨by rw [HLL.out], HB.out.trans (grown_below (grown_setRow _ _ _) (Nat.le_succ _) HB.out.size)⟩
end Go.Proofs.Ytfcnahbbieldfaa

/- The contract of aes.expanded. -/
namespace Go.Proofs.Ytfcnahbbieldfaa
open Go.RowKit
set_option linter.unusedVariables false
set_option maxRecDepth 100000
set_option linter.unusedSimpArgs false
/-- the words of a key, noughts behind, and the first constant; then a word more, i of them told -/
def keyRow (nk : Nat) (key : List UInt8) (i : Nat) : List W32 := (List.range i).map (wordAt key) ++ List.replicate (60 - i) 0
def lastW (T : List UInt8) (nk : Nat) (p : List W32 × W32) (i : Nat) : W32 :=
  if i % nk = 0 then subW T (rotl (p.1.getD (nk + i - 1) 0) 8) ^^^ p.2 else if i % nk = 4 then subW T (p.1.getD (nk + i - 1) 0) else p.1.getD (nk + i - 1) 0
def expStep (T : List UInt8) (nk : Nat) (p : List W32 × W32) (i : Nat) : List W32 × W32 :=
  (p.1.set (nk + i) (p.1.getD i 0 ^^^ lastW T nk p i), if i % nk = 0 then dblW p.2 else p.2)
def expN (T : List UInt8) (nk : Nat) (key : List UInt8) : Nat → List W32 × W32
  | 0 => (keyRow nk key nk, 16777216#32)
  | i + 1 => expStep T nk (expN T nk key i) i
def expandL (key : List UInt8) : List W32 := (expN sboxL (key.length / 4) key (4 * (key.length / 4 + 7) - key.length / 4)).1
theorem keyRow_len (nk : Nat) (key : List UInt8) (i : Nat) (hi : i ≤ 60) : (keyRow nk key i).length = 60 := by simp [keyRow]; omega
theorem keyRow_step (nk : Nat) (key : List UInt8) (i : Nat) (hi : i < 60) : (keyRow nk key i).set i (wordAt key i) = keyRow nk key (i + 1) := by
  unfold keyRow
  rw [List.range_succ, List.map_append, List.append_assoc, show 60 - i = (60 - (i + 1)) + 1 by omega, List.replicate_succ]
  rw [List.set_append_right _ _ (by simp)]
  simp
theorem expN_len (T : List UInt8) (nk : Nat) (key : List UInt8) (i : Nat) (hk : nk ≤ 60) : (expN T nk key i).1.length = 60 := by
  induction i with
  | zero => exact keyRow_len nk key nk hk
  | succ i ih => simp [expN, expStep, ih]
theorem arr60W : Try.prog.underlying 73 = some (.array 60 33) := Try.underlying73
theorem i60W : (Try.prog.info? 73).map (·.size) = some 60 := by kernel_rfl
def zeros60 : List Value := List.replicate 60 (Value.int .u32 0)
theorem zeros60_len : zeros60.length = 60 := by unfold zeros60; exact List.length_replicate
theorem zero60 (W : World) : (zeroValue 73).run Try.prog W = .ok (.agg zeros60.toArray) W := by kernel_rfl
theorem zeros_row (nk : Nat) (key : List UInt8) : zeros60 = (keyRow nk key 0).map wv := by unfold zeros60 keyRow; rw [List.map_append, List.map_replicate]; rfl
set_option maxRecDepth 100000 in
set_option maxHeartbeats 4000000 in
theorem expanded_any (A : Option Addr) (n c nk : Nat) (key : List UInt8) (w : World) (hl : key.length = n) (hn : n = 4 * nk) (hk : nk = 4 ∨ nk = 8) (hS : Sl w A c key) :
    Calls Try.prog 34 #[.slice A n c] w fun e w' => e = .returned (.agg ((expandL key).map wv).toArray) ∧ Below w.heap.size w w' := by
  have hex : expandL key = (expN sboxL nk key (4 * (nk + 7) - nk)).1 := by unfold expandL; rw [hl, hn, show 4 * nk / 4 = nk by omega]
  rw [hex]
  clear hex
  have HL := Lib.hid hl; have HN := Lib.hid hn; have HS := Lib.hid hS; have HKK := Lib.hid hk
  have hnk : 4 ≤ nk ∧ nk ≤ 8 := by omega
  have hc : Hid (n ≤ c) := by have := hS.1; show _ ≤ _; omega
  have u0 : (n : Int) / 4 = (nk : Int) := by omega
  have hn32 : n ≤ 32 := by omega
  clear hl hn hS hk
  have HF := Lib.hid (fun W => forward_any W)
  have hsl := Lib.hid sboxL_len
  have HI : Hid ((Try.prog.info? 92).map (·.size) = some (sboxL.map bv).length) := by show _ = _; rw [subCells]; exact iTb
  have HE : Hid (zeros256.length = (sboxL.map bv).length) := by show _ = _; rw [subCells, zeros256_len]
  generalize sboxL = T at HF hsl HI HE ⊢
  have hz := zero60
  have hz2 := zeroTb
  go_enter Try.func34, Try.ntmps34
  go_upto_region 2 with (fail)
  generalize hV : (w.alloc _).alloc _ = W0
  have F0 : Hid (W0.heap[w.heap.size]? = some (.cells zeros60.toArray 73 (0, 0))) := by rw [← hV]; exact (heap2 w _ _).1
  have F1 : Hid (W0.heap[w.heap.size + 1]? = some (.cells ((keyRow nk key 0).map wv).toArray 73 (0, 0))) := by rw [← zeros_row, ← hV]; exact (heap2 w _ _).2.1
  have FB : Hid (Below w.heap.size w W0) := by rw [← hV]; exact (heap2 w _ _).2.2
  clear hV
  generalize hg1 : w.heap.size + 1 = g1 at F1 ⊢
  have HG1 : Hid (w.heap.size + 1 = g1) := hg1
  clear hg1
  go_wp2_with fail
  go_loopw [14] (fun vi wr => ∃ (i : Nat), i ≤ nk ∧ vi = .int .i64 (i : Int) ∧ Hid (Below w.heap.size w wr) ∧ Hid (wr.heap[w.heap.size]? = some (.cells zeros60.toArray 73 (0, 0))) ∧ Hid (wr.heap[g1]? = some (.cells ((keyRow nk key i).map wv).toArray 73 (0, 0)))) (fun i _ => nk - (intOf i).toNat)
  case atStart => exact ⟨0, by omega, rfl, FB, F0, F1⟩
  case round =>
    clear F0 F1 FB
    obtain ⟨i, hi, rfl, HB, H0, H1⟩ := hrel
    by_cases hlt : i < nk
    · have q1 : (i : Int) < (nk : Int) := by omega
      obtain ⟨q, hq⟩ : ∃ q, q = 4 * i := ⟨_, rfl⟩
      obtain ⟨q4, hq4⟩ : ∃ q4, q4 = q + 4 := ⟨_, rfl⟩
      have u1 : 4 * (i : Int) = (q : Int) := by omega
      have u2 : (q : Int) + 4 = (q4 : Int) := by omega
      have hqn : q + 4 ≤ n := by have := HN.out; omega
      have sl := cut_mid uT s8 A n c .i64 .i64 (q : Int) (q4 : Int) (by omega) (by omega) (by have := hc.out; omega)
      rw [Int.toNat_natCast, Int.toNat_natCast, show q4 - q = 4 by omega] at sl
      have hX : Hid (big ((key.drop q).take 4) = (wordAt key i).toNat) := by show _ = _; rw [hq]; exact word_big key i
      have hXl : Hid (((key.drop q).take 4).length = 4) := by show _ = _; have := HL.out; simp; omega
      have HSl : Hid (Sl wr (cutS A c q) (c - q) ((key.drop q).take 4)) := by
        have h1 := sl_cut (HS.out.below HB.out) (k := q) (by have := HL.out; omega)
        refine ⟨?_, h1.2.1, ?_⟩
        · have := hXl.out; have := hc.out; omega
        · have := h1.2.2.take 4; rw [← List.map_take] at this; exact this
      have HST := Lib.hid (keyRow_step nk key i (by omega))
      generalize wordAt key i = x at hX HST
      generalize (key.drop q).take 4 = X at hX hXl HSl
      have HQ := Lib.hid hq; have HQ4 := Lib.hid hq4
      clear hq hq4
      go_wp2_with fail
      refine (big_n (cutS A c q) 4 (c - q) X wr hXl.out (by have := HSl.out.1; have := hXl.out; omega) HSl.out.2.1 HSl.out.2.2).mono ?_
      rw [hX.out]
      rintro e w1 ⟨rfl, hB1⟩
      have hx : (x.toNat : Int) % 4294967296 = (x.toNat : Int) := by have := x.isLt; omega
      have H0' := Lib.hid ((hB1.block _ (lt_of_heap H0.out)).trans H0.out)
      have H1' := Lib.hid ((hB1.block _ (lt_of_heap H1.out)).trans H1.out)
      have HB' := Lib.hid (HB.out.step hB1)
      have c2 := wcell H1'.out i (by rw [keyRow_len nk key i (by omega)]; omega)
      have fz := frozen_of_heap H1'.out i
      generalize (keyRow nk key i).getD i 0 = z0 at c2
      have q60 : (i : Int) < 60 := by omega
      clear hB1 H0 H1 HB
      go_wp2
      go_roundw
      case rel =>
        have k1 := HG1.out
        refine ⟨i + 1, by omega, by go_num, ?_, ?_, ?_⟩
        · exact HB'.out.setCell (show w.heap.size ≤ g1 by omega) _
        · exact (Below.heap_setCell w1 _ _ _ (show w.heap.size ≠ g1 by omega)).trans H0'.out
        · have := heap_set (w := w1) H1'.out i (wv x)
          rw [← List.map_set, HST.out] at this
          exact this
      case measure => simp [intOf]; omega
    · have q1 : ¬ ((i : Int) < (nk : Int)) := by omega
      have H1' : Hid (wr.heap[g1]? = some (.cells ((expN T nk key 0).1.map wv).toArray 73 (0, 0))) := by have := H1.out; rw [show i = nk by omega] at this; exact this
      clear H1
      go_wp2_with fail
      refine (HF.out wr).mono ?_
      rintro e w1 ⟨rfl, hB1⟩
      have P0 := Lib.hid ((hB1.block _ (lt_of_heap H0.out)).trans H0.out)
      have P1 := Lib.hid ((hB1.block _ (lt_of_heap H1'.out)).trans H1'.out)
      have PB := Lib.hid (HB.out.step hB1)
      have hl0 := Lib.hid (lt_of_heap P0.out)
      have hl1 := Lib.hid (lt_of_heap P1.out)
      clear hB1 H0 H1' HB
      obtain ⟨M, hM⟩ : ∃ M, M = 4 * (nk + 7) - nk := ⟨_, rfl⟩
      have uM : 4 * ((nk : Int) + 7) - (nk : Int) = (M : Int) := by omega
      have hM52 : nk + M ≤ 60 := by omega
      have HM := Lib.hid hM
      clear hM
      go_upto_region 11 with (first
        | (refine wpList_st rfl 92 (.tmp 6) (.tmp 29) rfl (store_arr (cs := T.map bv) (old := zeros256) HI.out (bv_one _) (heap_alloc_new' w1 _) HE.out) ?_
           generalize hV : World.setRow _ _ _ = W5
           have M0 := Lib.hid (heap_of_setRow hV (heap_alloc_new' w1 _))
           have MB := Lib.hid (((Below.refl w1.heap.size w1).alloc (Nat.le_refl _) _).trans (below_of_setRow hV (Nat.le_refl w1.heap.size) (by simp)))
           clear hV)
        | fail)
      have N0 := Lib.hid ((MB.out.block _ hl0.out).trans P0.out)
      have N1 := Lib.hid ((MB.out.block _ hl1.out).trans P1.out)
      have NB := Lib.hid (PB.out.step MB.out)
      clear P0 P1 PB MB
      go_loopw [7, 35] (fun vc vi wr => ∃ (i : Nat) (ws : List W32) (cn : W32), i ≤ M ∧ vi = .int .i64 (i : Int) ∧ vc = .int .u32 (cn.toNat : Int) ∧ Hid ((ws, cn) = expN T nk key i) ∧ Hid (Below w.heap.size w wr) ∧ Hid (wr.heap[w.heap.size]? = some (.cells zeros60.toArray 73 (0, 0))) ∧
         Hid (wr.heap[g1]? = some (.cells (ws.map wv).toArray 73 (0, 0))) ∧ Hid (wr.heap[w1.heap.size]? = some (.cells (T.map bv).toArray 92 (0, 0)))) (fun _ i _ => M - (intOf i).toNat)
      case atStart => exact ⟨0, _, 16777216#32, by omega, rfl, rfl, rfl, NB, N0, N1, M0⟩
      case round =>
        clear N0 N1 NB M0
        obtain ⟨i, ws, cn, hi, rfl, rfl, HP, HB, H0, H1, H6⟩ := hrel
        have hwl : ws.length = 60 := by have := expN_len T nk key i (by omega); rw [← HP.out] at this; exact this
        by_cases hlt : i < M
        · have q1 : (i : Int) < (M : Int) := by omega
          obtain ⟨a, ha⟩ : ∃ a, a = nk + i := ⟨_, rfl⟩
          obtain ⟨b, hb⟩ : ∃ b, b = nk + i - 1 := ⟨_, rfl⟩
          obtain ⟨m, hm⟩ : ∃ m, m = i % nk := ⟨_, rfl⟩
          have r1 : (nk : Int) + (i : Int) = (a : Int) := by omega
          have r2 : (a : Int) - 1 = (b : Int) := by omega
          have r3 : (i : Int) % (nk : Int) = (m : Int) := by rw [hm]; simp
          have r4 : (i : Int).tmod (nk : Int) = (m : Int) := by rw [Int.tmod_eq_emod_of_nonneg (by omega)]; exact r3
          have r5 : ((nk : Int) == 0) = false := by simp; omega
          have r6 : ¬ ((nk : Int) = 0) := by omega
          have qa : (a : Int) < 60 := by omega
          have qb : (b : Int) < 60 := by omega
          have qi : (i : Int) < 60 := by omega
          have ca := wcell H1.out a (by omega)
          have cb := wcell H1.out b (by omega)
          have ci := wcell H1.out i (by omega)
          have fz := frozen_of_heap H1.out a
          have HEX : Hid (expStep T nk (ws, cn) i = expN T nk key (i + 1)) := by show _ = _; rw [HP.out]; rfl
          have HLD : Hid (lastW T nk (ws, cn) i = if m = 0 then subW T (rotl (ws.getD b 0) 8) ^^^ cn else if m = 4 then subW T (ws.getD b 0) else ws.getD b 0) := by show _ = _; rw [hm, hb]; rfl
          have HCD : Hid ((if i % nk = 0 then dblW cn else cn) = if m = 0 then dblW cn else cn) := by show _ = _; rw [hm]
          generalize ws.getD a 0 = xa at ca
          generalize ws.getD b 0 = xb at cb HLD
          obtain ⟨xi, hxi⟩ : ∃ xi, ws.getD i 0 = xi := ⟨_, rfl⟩
          rw [hxi] at ci
          have HXI : Hid (ws.getD i 0 = xi) := hxi
          have HA : Hid (nk + i = a) := ha.symm
          clear ha hb hm hxi hwl
          have HH6 := Lib.hid H6.out
          by_cases hm0 : m = 0
          · have t0 : ((m : Int) == 0) = true := by simp [hm0]
            obtain ⟨y, hy⟩ : ∃ y, y = rotl xb 8 := ⟨_, rfl⟩
            obtain ⟨z, hz3⟩ : ∃ z, z = subW T y := ⟨_, rfl⟩
            obtain ⟨z2, hz4⟩ : ∃ z2, z2 = z ^^^ cn := ⟨_, rfl⟩
            obtain ⟨c2, hc2⟩ : ∃ c2, c2 = dblW cn := ⟨_, rfl⟩
            have HLW : Hid (lastW T nk (ws, cn) i = z2) := by show _ = _; rw [HLD.out, if_pos hm0, hz4, hz3, hy]
            have HCON : Hid ((if i % nk = 0 then dblW cn else cn) = c2) := by show _ = _; rw [HCD.out, if_pos hm0, hc2]
            have x1 : bits .xor .u32 (z.toNat : Int) (cn.toNat : Int) = (z2.toNat : Int) := by rw [hz4]; exact xor32 _ _
            have HY := Lib.hid hy; have HZ3 := Lib.hid hz3; have HC2 := Lib.hid hc2
            clear hy hz3 hz4 hc2 hm0 HLD HCD
            go_wp2_with fail
            refine (left_any xb 8 wr).mono ?_
            rw [← HY.out]
            rintro e w3 ⟨rfl, rfl⟩
            go_wp2_with fail
            refine (word_any w1.heap.size T y wr hsl.out H6.out).mono ?_
            rw [← HZ3.out]
            rintro e w3 ⟨he, rfl⟩
            have he' : e = .returned (.int .u32 (z.toNat : Int)) := he
            clear he
            subst he'
            go_wp2_with fail
            refine (double_any cn wr).mono ?_
            rw [← HC2.out]
            rintro e w3 ⟨he, rfl⟩
            have he' : e = .returned (.int .u32 (c2.toNat : Int)) := he
            clear he
            subst he'
            go_wp2
            go_roundw
            case rel =>
              have k1 := HG1.out
              have k6 := hl1.out
              have k0 := hl0.out
              refine ⟨i + 1, ws.set a (xi ^^^ z2), c2, by omega, by go_num, rfl, ?_, ?_, ?_, ?_, ?_⟩
              · show _ = _
                rw [← HEX.out, expStep, HLW.out, HCON.out, HA.out, HXI.out]
              · exact HB.out.setCell (show w.heap.size ≤ g1 by omega) _
              · exact (Below.heap_setCell wr _ _ _ (show w.heap.size ≠ g1 by omega)).trans H0.out
              · have h1 : (ws.map wv).set a (Value.int .u32 (bits .xor .u32 (xi.toNat : Int) (z2.toNat : Int))) = (ws.set a (xi ^^^ z2)).map wv := by
                  rw [xor32, List.map_set]; rfl
                have := heap_set H1.out a (Value.int .u32 (bits .xor .u32 (xi.toNat : Int) (z2.toNat : Int)))
                rw [h1] at this
                exact this
              · exact (Below.heap_setCell wr _ _ _ (show w1.heap.size ≠ g1 by omega)).trans H6.out
            case measure => simp [intOf]; omega
          · have t0 : ((m : Int) == 0) = false := by simp; omega
            by_cases hm4 : m = 4
            · have t4 : ((m : Int) == 4) = true := by simp [hm4]
              obtain ⟨z, hz3⟩ : ∃ z, z = subW T xb := ⟨_, rfl⟩
              have HLW : Hid (lastW T nk (ws, cn) i = z) := by show _ = _; rw [HLD.out, if_neg hm0, if_pos hm4, hz3]
              have HCON : Hid ((if i % nk = 0 then dblW cn else cn) = cn) := by show _ = _; rw [HCD.out, if_neg hm0]
              have HZ3 := Lib.hid hz3
              clear hz3 hm0 hm4 HLD HCD
              go_wp2_with fail
              refine (word_any w1.heap.size T xb wr hsl.out H6.out).mono ?_
              rw [← HZ3.out]
              rintro e w3 ⟨he, rfl⟩
              have he' : e = .returned (.int .u32 (z.toNat : Int)) := he
              clear he
              subst he'
              go_wp2
              go_roundw
              case rel =>
                have k1 := HG1.out
                have k6 := hl1.out
                have k0 := hl0.out
                refine ⟨i + 1, ws.set a (xi ^^^ z), cn, by omega, by go_num, rfl, ?_, ?_, ?_, ?_, ?_⟩
                · show _ = _
                  rw [← HEX.out, expStep, HLW.out, HCON.out, HA.out, HXI.out]
                · exact HB.out.setCell (show w.heap.size ≤ g1 by omega) _
                · exact (Below.heap_setCell wr _ _ _ (show w.heap.size ≠ g1 by omega)).trans H0.out
                · have h1 : (ws.map wv).set a (Value.int .u32 (bits .xor .u32 (xi.toNat : Int) (z.toNat : Int))) = (ws.set a (xi ^^^ z)).map wv := by
                    rw [xor32, List.map_set]; rfl
                  have := heap_set H1.out a (Value.int .u32 (bits .xor .u32 (xi.toNat : Int) (z.toNat : Int)))
                  rw [h1] at this
                  exact this
                · exact (Below.heap_setCell wr _ _ _ (show w1.heap.size ≠ g1 by omega)).trans H6.out
              case measure => simp [intOf]; omega
            · have t4 : ((m : Int) == 4) = false := by simp; omega
              have HLW : Hid (lastW T nk (ws, cn) i = xb) := by show _ = _; rw [HLD.out, if_neg hm0, if_neg hm4]
              have HCON : Hid ((if i % nk = 0 then dblW cn else cn) = cn) := by show _ = _; rw [HCD.out, if_neg hm0]
              clear hm0 hm4 HLD HCD
              go_wp2
              go_roundw
              case rel =>
                have k1 := HG1.out
                have k6 := hl1.out
                have k0 := hl0.out
                refine ⟨i + 1, ws.set a (xi ^^^ xb), cn, by omega, by go_num, rfl, ?_, ?_, ?_, ?_, ?_⟩
                · show _ = _
                  rw [← HEX.out, expStep, HLW.out, HCON.out, HA.out, HXI.out]
                · exact HB.out.setCell (show w.heap.size ≤ g1 by omega) _
                · exact (Below.heap_setCell wr _ _ _ (show w.heap.size ≠ g1 by omega)).trans H0.out
                · have h1 : (ws.map wv).set a (Value.int .u32 (bits .xor .u32 (xi.toNat : Int) (xb.toNat : Int))) = (ws.set a (xi ^^^ xb)).map wv := by
                    rw [xor32, List.map_set]; rfl
                  have := heap_set H1.out a (Value.int .u32 (bits .xor .u32 (xi.toNat : Int) (xb.toNat : Int)))
                  rw [h1] at this
                  exact this
                · exact (Below.heap_setCell wr _ _ _ (show w1.heap.size ≠ g1 by omega)).trans H6.out
              case measure => simp [intOf]; omega
        · have q1 : ¬ ((i : Int) < (M : Int)) := by omega
          have H1' : Hid (wr.heap[g1]? = some (.cells ((expN T nk key M).1.map wv).toArray 73 (0, 0))) := by
            have := H1.out; rw [show ws = (expN T nk key M).1 from by rw [← show i = M by omega, ← HP.out]] at this; exact this
          have hl60 : Hid (((expN T nk key M).1.map wv).length = 60) := by show _ = _; rw [List.length_map]; exact expN_len T nk key M (by omega)
          have hone : Hid (∀ v ∈ (expN T nk key M).1.map wv, v.oneCell' = true) := wv_one _
          obtain ⟨L, HLL⟩ : ∃ L, Hid ((expN T nk key M).1.map wv = L) := ⟨_, rfl⟩
          rw [HLL.out] at H1' hl60 hone
          have hi60 : Hid ((Try.prog.info? 73).map (·.size) = some L.length) := by show _ = _; rw [hl60.out]; exact i60W
          have hle : Hid (zeros60.length = L.length) := by show _ = _; rw [hl60.out, zeros60_len]
          clear H1
          go_wp2_with (first
            | (refine wpList_ld rfl 73 (.tmp 3) rfl (load_arr arr60W rfl hi60.out H1'.out) ?_)
            | (refine wpList_st rfl 73 (.tmp 2) (.tmp 70) rfl (store_arr (cs := L) (old := zeros60) hi60.out hone.out H0.out hle.out) ?_))
          have hres := setRow_heap wr w.heap.size _ L.toArray 73 _ H0.out
          exact bodyPost_ret (results_cell_row (P := Try.prog) rfl _ _ w.heap.size 73 L.toArray (0, 0) _ rfl hres arr60W rfl (by rw [List.size_toArray, hl60.out]; exact i60W)) rfl ⟨by rw [← HLL.out, HM.out], HB.out.trans (grown_below (grown_setRow _ _ _) (Nat.le_refl _) HB.out.size)⟩
end Go.Proofs.Ytfcnahbbieldfaa

/- The contracts of Expand, Rounds, Wipe. -/
namespace Go.Proofs.Ytfcnahbbieldfaa
open Go.RowKit
set_option linter.unusedVariables false
set_option maxRecDepth 100000
set_option linter.unusedSimpArgs false
theorem fill_fold (off : Nat) : ∀ (L : List Value) (k : Nat) (cs : Array Value), off + k + L.length ≤ cs.size →
    ((L.zipIdx k).foldl (fun (cs : Array Value) (p : Value × Nat) => cs.setIfInBounds (off + p.2) p.1) cs).toList = cs.toList.take (off + k) ++ L ++ cs.toList.drop (off + k + L.length)
  | [], k, cs, _ => by simp
  | v :: rest, k, cs, h => by
    rw [List.zipIdx_cons, List.foldl_cons, fill_fold off rest (k + 1) _ (by simp at h ⊢; omega)]
    have hk : off + k < cs.toList.length := by simp at h ⊢; omega
    simp only [Array.toList_setIfInBounds]
    rw [show off + (k + 1) = (off + k) + 1 by omega, List.take_succ_eq_append_getElem (by simpa using hk)]
    simp only [List.getElem_set_self, List.length_cons]
    rw [List.take_set_of_le (by omega), List.drop_set_of_lt (by omega), show off + k + 1 + rest.length = off + k + (rest.length + 1) by omega]
    simp
def zeros61 : List Value := zeros60 ++ [.int .i64 0]
theorem built_fill (parts : List (Nat × Value)) : Try.prog.built 76 parts = Instr.fill (fun i => #[(0, 60), (60, 1)][i]?) zeros61.toArray parts := by kernel_rfl
theorem fill_cons {place : Nat → Option (Nat × Nat)} {cells : Array Value} {i : Nat} {v : Value} {rest : List (Nat × Value)} {off size : Nat} (h : place i = some (off, size)) (hs : v.cells.size = size) (ho : off + size ≤ cells.size) :
    Instr.fill place cells ((i, v) :: rest) = Instr.fill place (v.cells.zipIdx.foldl (fun (cs : Array Value) (p : Value × Nat) => cs.setIfInBounds (off + p.2) p.1) cells) rest := by
  rw [Instr.fill]
  simp only [h]
  rw [if_neg (by rw [hs]; simp; omega)]
theorem fold_arr (off : Nat) (L : List Value) (cs : List Value) (h : off + L.length ≤ cs.length) :
    L.toArray.zipIdx.foldl (fun (cs : Array Value) (p : Value × Nat) => cs.setIfInBounds (off + p.2) p.1) cs.toArray = (splice cs off L).toArray := by
  have h1 := fill_fold off L 0 cs.toArray (by simpa using h)
  simp only [Nat.add_zero] at h1
  apply Array.ext'
  rw [← Array.foldl_toList]
  simp only [Array.toList_zipIdx]
  rw [h1]; simp [splice]
theorem exec_build {P : Program} {o : Oper} {a : Act} {W : World} {t : TypeId} {parts : Array (Nat × Operand)} {v : Value} (ho : o.op = .build t parts) (hrun : (Instr.build t (parts.map fun (i, x) => (i, a.eval x))).run P W = .ok v W) : (execOp a.eval o).run P W = .ok (.value v) W := by
  unfold execOp
  simp only [ho, Sem.run_bind, hrun, Result.andThen_ok, Sem.run_pure]
theorem built_keys (L : List Value) (n : Int) (hl : L.length = 60) : Try.prog.built 76 [(0, .agg L.toArray), (1, .int .i64 n)] = some (L ++ [Value.int .i64 n]).toArray := by
  have hz : zeros61.length = 61 := by simp [zeros61, zeros60_len]
  rw [built_fill]
  generalize zeros61 = Z at hz
  rw [fill_cons (off := 0) (size := 60) rfl (by simpa [Value.cells] using hl) (by simp [hz])]
  have e1 : (Value.agg L.toArray).cells = L.toArray := rfl
  rw [e1, fold_arr 0 L Z (by rw [hl, hz]; omega)]
  have hs1 : (splice Z 0 L).length = 61 := by simp [splice, hl, hz]
  rw [fill_cons (off := 60) (size := 1) rfl rfl (by simp [hs1])]
  have e2 : (Value.int .i64 n).cells = [Value.int .i64 n].toArray := rfl
  rw [e2, fold_arr 60 [Value.int .i64 n] (splice Z 0 L) (by rw [hs1]; simp)]
  rw [Instr.fill]
  congr 2
  obtain ⟨z, hzz⟩ : ∃ z, Z.drop 60 = [z] := by
    have : (Z.drop 60).length = 1 := by simp [hz]
    match Z.drop 60, this with
    | [z], _ => exact ⟨z, rfl⟩
  have e3 : splice Z 0 L = L ++ [z] := by simp [splice, hl, hzz]
  rw [e3]
  simp [splice, hl]
/-- round keys lie at block g -/
def KeyAt (w : World) (g : Nat) (ws : List W32) (n : Nat) : Prop := ws.length = 60 ∧ w.heap[g]? = some (.cells (keyCells ws n).toArray 76 (0, 0))
theorem KeyAt.ext {w w' : World} {g : Nat} {ws : List W32} {n : Nat} (h : KeyAt w g ws n) (hb : Below w.heap.size w w') : KeyAt w' g ws n := ⟨h.1, (hb.block _ (lt_of_heap h.2)).trans h.2⟩
def KeyIn (w : World) (g : Nat) (ws : List W32) (n : Nat) : Prop := ws.length = 60 ∧ KIn w g ws n
theorem KeyIn.ext {w w' : World} {g : Nat} {ws : List W32} {n : Nat} (h : KeyIn w g ws n) (hb : Below w.heap.size w w') : KeyIn w' g ws n := ⟨h.1, h.2.ext hb⟩
theorem KeyAt.toIn {w : World} {g : Nat} {ws : List W32} {n : Nat} (h : KeyAt w g ws n) : KeyIn w g ws n := ⟨h.1, kin_of h.2⟩
theorem expandL_len (key : List UInt8) (h : key.length ≤ 32) : (expandL key).length = 60 := expN_len _ _ _ _ (by omega)
set_option maxHeartbeats 1000000 in
theorem expand_any (A : Option Addr) (n c nk : Nat) (key : List UInt8) (w : World) (hl : key.length = n) (hn : n = 4 * nk) (hk : nk = 4 ∨ nk = 8) (hS : Sl w A c key) :
    Calls Try.prog 13 #[.slice A n c] w fun e w' => ∃ g, e = .returned (.tuple #[.pointer (some ⟨g, 0, none⟩), .int .i64 0]) ∧ w.heap.size ≤ g ∧ KeyAt w' g (expandL key) (nk + 6) ∧ Below w.heap.size w w' := by
  have HX := Lib.hid (expanded_any A n c nk key w hl hn hk hS)
  have hwl : (expandL key).length = 60 := expandL_len key (by omega)
  generalize expandL key = ws at HX hwl ⊢
  have HB := Lib.hid (built_keys (ws.map wv) ((nk + 6 : Nat) : Int) (by rw [List.length_map]; exact hwl))
  have HWL := Lib.hid hwl
  have u1 : (n : Int) / 4 = (nk : Int) := by omega
  have u2 : (nk : Int) + 6 = ((nk + 6 : Nat) : Int) := by omega
  generalize nk + 6 = r at HB u2 ⊢
  have hb : Hid (∀ W, (Instr.build 76 #[(0, .agg (ws.map wv).toArray), (1, .int .i64 (r : Int))]).run Try.prog W = .ok (.agg (keyCells ws r).toArray) W) := fun W => run_build W _ _ _ HB.out
  have hn8 : nk ≤ 8 := by omega
  have hn32 : n ≤ 32 := by omega
  have hc : ((n : Int) != 16) = false ∨ ((n : Int) != 16) = true ∧ ((n : Int) != 32) = false := by
    rcases hk with h | h
    · left; simp; omega
    · right; simp; omega
  clear hl hn hk hS hwl HB
  rcases hc with t1 | ⟨t1, t2⟩
  all_goals
    go_enter Try.func13, Try.ntmps13
    go_wp2_with fail
    refine HX.out.mono ?_
    rintro e w1 ⟨rfl, hB1⟩
    have HB1 := Lib.hid hB1
    clear hB1
    obtain ⟨KC, HKC⟩ : ∃ KC, Hid ((keyCells ws r).toArray = KC) := ⟨_, rfl⟩
    go_wp2_with (first
      | (refine wpList_run (o := ⟨some 18, _, _, _, _, _⟩) rfl (v := .agg (keyCells ws r).toArray) (w' := w1) (exec_build rfl (by simp only [List.map_toArray, List.map_cons, List.map_nil]; exact hb.out w1)) ?_
         rw [HKC.out])
      | fail)
    go_ret2
    exact ⟨_, rfl, HB1.out.size, ⟨HWL.out, by rw [HKC.out]; exact heap_alloc_new' w1 _⟩, HB1.out.alloc HB1.out.size _⟩
set_option maxHeartbeats 1000000 in
theorem expand_no (A : Option Addr) (n c : Nat) (w : World) (h1 : n ≠ 16) (h2 : n ≠ 32) : Calls Try.prog 13 #[.slice A n c] w fun e w' => e = .returned (.tuple #[.pointer none, .int .i64 5]) ∧ w = w' := by
  have t1 : ((n : Int) != 16) = true := by simp; omega
  have t2 : ((n : Int) != 32) = true := by simp; omega
  clear h1 h2
  go_enter Try.func13, Try.ntmps13
  go_wp2
  go_ret2
  exact ⟨rfl, rfl⟩
theorem rounds_nil (w : World) : Calls Try.prog 52 #[.pointer none] w fun e w' => e = .returned (.int .i64 0) ∧ w = w' := by
  go_enter Try.func52, Try.ntmps52
  go_wp2
  go_ret
  exact ⟨rfl, rfl⟩
theorem roundsIn_any (g : Nat) (ws : List W32) (n : Nat) (w : World) (H : KeyIn w g ws n) : Calls Try.prog 52 #[.pointer (some ⟨g, 0, none⟩)] w fun e w' => e = .returned (.int .i64 (n : Int)) ∧ w = w' := by
  have c := kinN H.2 H.1
  clear H
  go_enter Try.func52, Try.ntmps52
  go_wp2
  go_ret
  exact ⟨rfl, rfl⟩
theorem rounds_any (g : Nat) (ws : List W32) (n : Nat) (w : World) (H : KeyAt w g ws n) : Calls Try.prog 52 #[.pointer (some ⟨g, 0, none⟩)] w fun e w' => e = .returned (.int .i64 (n : Int)) ∧ w = w' := roundsIn_any g ws n w H.toIn
end Go.Proofs.Ytfcnahbbieldfaa
