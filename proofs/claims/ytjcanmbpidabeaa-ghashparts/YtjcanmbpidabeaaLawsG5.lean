/- The walk of the law GhashParts. -/
import Derived.Test.YtjcanmbpidabeaaLawsG4
import Derived.Test.YtjcanmbpidabeaaRefS1
import Derived.Lib.SmallJoins
namespace Go.Proofs.Ytjcanmbpidabeaa
open Go.RowKit
set_option linter.unusedVariables false
set_option linter.unusedSimpArgs false
theorem own_geG {w : World} {base : Nat} {e : TypeId} {s : Nat} {v : Value} {n : Nat} {xs : List Value} (h : w.ownsRow base e s v n xs) {B : Nat} (hB : B ≤ base) : ∀ g, v.ownBlock = some g → B ≤ g := fun g hq => Nat.le_trans hB (h.lt g hq).1
theorem rep_snocG (k : Nat) : List.replicate (k + 1) (0 : UInt8) = List.replicate k 0 ++ [0] := by rw [List.replicate_succ']
theorem one_rowG (w : World) (b : UInt8) : RowAt (w.alloc (.cells #[.int .u8 (b.toNat : Int)] 5)) (w.heap.size + 1) (some ⟨w.heap.size, 0, none⟩) ([b].map bv) :=
  row_of_heap (t := 5) (fr := (0, 0)) (heap_alloc_new' w _) (Nat.lt_succ_self _)
/-- gone on by blocks: first m, then j -/
theorem gsF_add (h y : List UInt8) (f : Nat → UInt8) (m j : Nat) : gsF h y f (m + j) = gsF h (gsF h y f m) (fun i => f (16 * m + i)) j := by
  induction j with
  | zero => rfl
  | succ j ih =>
    rw [← Nat.add_assoc, gsF, gsF, ih]
    congr 2
    funext k
    congr 1; omega
theorem gsF_congr (h y : List UInt8) (f g : Nat → UInt8) (m : Nat) (hf : ∀ i, i < 16 * m → f i = g i) : gsF h y f m = gsF h y g m := by
  induction m with
  | zero => rfl
  | succ m ih =>
    rw [gsF, gsF, ih (fun i hi => hf i (by omega))]
    congr 1
    unfold mixF
    apply List.map_congr_left
    intro k hk
    show _ ^^^ f (16 * m + k) = _ ^^^ g (16 * m + k)
    rw [hf (16 * m + k) (by have := List.mem_range.1 hk; omega)]
theorem byteF_left (a b : List UInt8) (i : Nat) (hi : i < a.length) : byteF (a ++ b) i = byteF a i := by
  unfold byteF; simp [List.getD, List.getElem?_append_left hi]
theorem byteF_right (a b : List UInt8) (i : Nat) : byteF (a ++ b) (a.length + i) = byteF b i := by
  unfold byteF; rw [List.getD, List.getElem?_append_right (by omega), Nat.add_sub_cancel_left]; rfl
/-- bytes, the first n of them put to a block -/
def headX (c s : List UInt8) (n : Nat) : List UInt8 := (List.range c.length).map fun k => if k < n then c.getD k 0 ^^^ s.getD k 0 else c.getD k 0
theorem headX_len (c s : List UInt8) (n : Nat) : (headX c s n).length = c.length := by simp [headX]
theorem headX_zero (c s : List UInt8) : headX c s 0 = c := by
  apply List.ext_getElem
  · exact headX_len _ _ _
  · intro i h1 h2; simp [headX, List.getD, h2]
theorem headX_at (c s : List UInt8) (n : Nat) (hn : n < c.length) : (headX c s n).getD n 0 = c.getD n 0 := by
  simp [headX, List.getD, hn]
theorem headX_set (c s : List UInt8) (n : Nat) (hn : n < c.length) : (headX c s n).set n (c.getD n 0 ^^^ s.getD n 0) = headX c s (n + 1) := by
  apply List.ext_getElem
  · simp [headX_len]
  · intro i h1 h2
    rw [headX_len] at h2
    rw [List.getElem_set]
    by_cases e : n = i
    · subst e; simp [headX]
    · simp only [headX, List.getElem_map, List.getElem_range, if_neg e]
      by_cases hlt : i < n
      · rw [if_pos hlt, if_pos (by omega)]
      · rw [if_neg hlt, if_neg (by omega)]
theorem byteF_headX (c s : List UInt8) (hc : 16 ≤ c.length) (i : Nat) : byteF (headX c s 16) i = if i < 16 then byteF c i ^^^ s.getD i 0 else byteF c i := by
  by_cases hi : i < c.length
  · simp [byteF, headX, List.getD, hi]
  · have e : (headX c s 16)[i]? = none := List.getElem?_eq_none (by rw [headX_len]; omega)
    have e2 : c[i]? = none := List.getElem?_eq_none (by omega)
    rw [if_neg (by omega)]
    simp [byteF, List.getD, e, e2]
theorem gsum_parts (h a b : List UInt8) (k : Nat) (ha : a.length % 16 = 0) (hb : 0 < b.length) (hk : b.length + k = max 16 b.length) :
    gsumL h (headX (b ++ List.replicate k 0) (gsumL h a) 16) = gsumL h (a ++ b) := by
  obtain ⟨m, hm⟩ : ∃ m, a.length = 16 * m := ⟨a.length / 16, by omega⟩
  have hcl : (b ++ List.replicate k (0 : UInt8)).length = max 16 b.length := by simp [hk]
  obtain ⟨j, hj⟩ : ∃ j, (b.length + 15) / 16 = 1 + j := ⟨(b.length + 15) / 16 - 1, by omega⟩
  have e1 : gsumL h a = gsF h zerB (byteF a) m := by unfold gsumL; congr 1; omega
  have e2 : gsumL h (a ++ b) = gsF h (gsumL h a) (byteF b) (1 + j) := by
    unfold gsumL
    rw [show (((a ++ b).length + 15) / 16) = m + (1 + j) by rw [List.length_append, hm]; omega, gsF_add, show (a.length + 15) / 16 = m by omega,
      gsF_congr h zerB (byteF (a ++ b)) (byteF a) m (fun i hi => byteF_left a b i (by omega))]
    congr 1
    funext i
    rw [← hm]; exact byteF_right a b i
  rw [e2, gsF_add]
  generalize hs : gsumL h a = s
  unfold gsumL
  rw [headX_len, hcl, show (max 16 b.length + 15) / 16 = 1 + j by omega, gsF_add]
  have hf := byteF_headX (b ++ List.replicate k 0) s (by omega)
  rw [byteF_pad] at hf
  have e3 : gsF h zerB (byteF (headX (b ++ List.replicate k 0) s 16)) 1 = gsF h s (byteF b) 1 := by
    show gmulL (mixF zerB _) h = gmulL (mixF s _) h
    congr 1
    unfold mixF
    apply List.map_congr_left
    intro i hi
    have hi16 := List.mem_range.1 hi
    show zerB.getD i 0 ^^^ byteF (headX (b ++ List.replicate k 0) s 16) (16 * 0 + i) = s.getD i 0 ^^^ byteF b (16 * 0 + i)
    rw [show 16 * 0 + i = i by omega, hf, if_pos hi16, show zerB.getD i 0 = 0 from by show (List.replicate 16 (0 : UInt8)).getD i 0 = 0; rw [List.getD, List.getElem?_replicate]; split <;> rfl]
    rw [UInt8.zero_xor, UInt8.xor_comm]
  rw [e3]
  congr 1
  funext i
  rw [hf, if_neg (by omega)]
theorem sl_setG {w : World} {g c k : Nat} {bs : List UInt8} {cur : Array Value} {t : TypeId} {fr : Nat × Nat} {x : UInt8} (h : Sl w (some ⟨g, 0, none⟩) c bs) (hc : w.heap[g]? = some (.cells cur t fr)) (hk : k < bs.length) :
    Sl (w.setCell ⟨g, k, none⟩ (.int .u8 (x.toNat : Int))) (some ⟨g, 0, none⟩) c (bs.set k x) := by
  obtain ⟨h1, h2, h3⟩ := h
  obtain ⟨b, o, he, hb, hcell⟩ := h3.at_ (by simpa using (by omega : 0 < bs.length))
  injection he with he
  injection he with he1 he2
  subst he1; subst he2
  refine ⟨by simpa using h1, h2, .inr ⟨g, 0, rfl, by simpa using hb, fun j u hu => ?_⟩⟩
  rw [List.getElem?_map, List.getElem?_set] at hu
  by_cases hj : k = j
  · subst hj
    simp [hk] at hu
    have hck := hcell k (bv bs[k]) (by simp [hk])
    rw [Nat.zero_add] at hck ⊢
    have hsz : k < cur.size := by
      simp only [World.cell?, hc] at hck
      rcases Nat.lt_or_ge k cur.size with h | h
      · exact h
      · simp [Array.getElem?_eq_none h] at hck
    simp [World.cell?, World.setCell, Array.getElem?_modify, hc, hsz, ← hu, bv]
  · rw [if_neg hj, ← List.getElem?_map] at hu
    rw [World.cell?_setCell_other _ _ _ _ (fun e => hj (by injection e with e1 e2; omega))]
    exact hcell j u hu
theorem pad_until {lb k p : Nat} (h : p = lb + k ∧ (k = 0 ∨ p ≤ 16)) (hp : ¬ p < 16) : lb + k = max 16 lb := by omega
theorem sl_cell {w : World} {g c i : Nat} {bs : List UInt8} (h : Sl w (some ⟨g, 0, none⟩) c bs) (hi : i < bs.length) : w.cell? ⟨g, i, none⟩ = some (.int .u8 ((bs.getD i 0).toNat : Int)) := by
  obtain ⟨b1, o1, he, _, hc⟩ := h.2.2.at_ (by rw [List.length_map]; omega)
  injection he with he
  injection he with he1 he2
  subst he1; subst he2
  have := hc i (bv bs[i]) (by simp [hi])
  rw [Nat.zero_add] at this
  rw [this]; simp [List.getD, hi, bv]
set_option maxHeartbeats 4000000 in
theorem ghashParts_walk (w : World) (h : List UInt8) (hh : h.length = 16) (A : Option Addr) (c : Nat) (xa : List UInt8) (hA : Sl w A c xa) (B : Option Addr) (cb : Nat) (bs : List UInt8) (hB : Sl w B cb bs) :
    Calls Try.prog 7 #[.agg (h.map bv).toArray, .slice A xa.length c, .slice B bs.length cb] w fun e w' => e = .returned (.bool true) ∧ Below w.heap.size w w' := by
  have q1 : xa.length ≤ 9223372036854775807 := by have := hA.1; have := hA.2.1; simp [maxLen] at this; omega
  have q2 : bs.length ≤ 9223372036854775807 := by have := hB.1; have := hB.2.1; simp [maxLen] at this; omega
  by_cases ha : 300 < xa.length
  · have e1 : (300 : Int) < (xa.length : Int) := by omega
    go_enter Try.func7, Try.ntmps7
    go_wp2
    go_ret
    exact ⟨rfl, (Below.refl _ _).alloc (Nat.le_refl _) _⟩
  by_cases hb : 300 < bs.length
  · have e1 : (300 : Int) < (bs.length : Int) := by omega
    have e2 : ¬ ((300 : Int) < (xa.length : Int)) := by omega
    go_enter Try.func7, Try.ntmps7
    go_wp2
    go_ret
    exact ⟨rfl, (Below.refl _ _).alloc (Nat.le_refl _) _⟩
  have e1 : ¬ ((300 : Int) < (bs.length : Int)) := by omega
  have e2 : ¬ ((300 : Int) < (xa.length : Int)) := by omega
  by_cases hb0 : bs.length = 0
  · have e3 : ((bs.length : Int) == 0) = true := by simp [hb0]
    go_enter Try.func7, Try.ntmps7
    go_wp2
    go_ret
    exact ⟨rfl, (Below.refl _ _).alloc (Nat.le_refl _) _⟩
  have e3 : ((bs.length : Int) == 0) = false := by simp; intro e; simp [e] at hb0
  clear q1 q2
  obtain ⟨la, hla⟩ : ∃ n, xa.length = n := ⟨_, rfl⟩
  obtain ⟨lb, hlb⟩ : ∃ n, bs.length = n := ⟨_, rfl⟩
  have hAc := hA.1
  rw [hla] at ha e2 hAc ⊢
  rw [hlb] at hb hb0 e1 e3 ⊢
  obtain ⟨m, hm⟩ : ∃ m, m = la / 16 := ⟨_, rfl⟩
  obtain ⟨n, hn⟩ : ∃ n, n = 16 * m := ⟨_, rfl⟩
  have d1 : (la : Int) / 16 = (m : Int) := by omega
  have d2 : (m : Int) * 16 = (n : Int) := by omega
  have hcut := cut_to uT s8 A la c .i64 (n : Int) (by omega) (by omega)
  rw [Int.toNat_natCast] at hcut
  have hXS : Sl w A c (xa.take n) := sl_take' hA
  have hXL : (xa.take n).length = n := by rw [List.length_take]; omega
  have HPT := Lib.hid (fun k hk => gsum_parts h (xa.take n) bs k (by rw [hXL]; omega) (by omega) hk)
  have hn300 : n ≤ 300 := by omega
  have hm300 : m ≤ 300 := by omega
  have hlb0 : Hid (0 < lb ∧ lb ≤ 300) := by show _ ∧ _; omega
  rw [hlb] at HPT
  have HMM := Lib.hid hm; have HNN := Lib.hid hn
  clear hA hm hn hla
  obtain ⟨X, HX0⟩ : ∃ X, Hid (xa.take n = X) := ⟨_, rfl⟩
  rw [HX0.out] at hXS hXL HPT
  have HXS := Lib.hid hXS; have HXL := Lib.hid hXL; have HBS := Lib.hid hB; have HBL := Lib.hid hlb; have HH := Lib.hid hh
  clear HX0 hXS hXL hB hlb hh
  have GSX := Lib.hid (fun W hS => gsum_any h A n c X W HH.out HXL.out (by omega) hS)
  have HYL := Lib.hid (gsumL_len h X)
  obtain ⟨Y, HY⟩ : ∃ Y, Hid (gsumL h X = Y) := ⟨_, rfl⟩
  rw [HY.out] at GSX HYL HPT
  clear HY
  have hz16 : ∀ W, (zeroValue 22).run Try.prog W = .ok (.agg (zerB.map bv).toArray) W := fun W => by kernel_rfl
  have HZL : Hid (zerB.length = 16) := rfl
  generalize zerB = Z at hz16 HZL
  have G0 := Lib.hid (heap_alloc_new' w (.cells (h.map bv).toArray 22))
  have GB : Hid (Below w.heap.size w (w.alloc (.cells (h.map bv).toArray 22))) := (Below.refl _ _).alloc (Nat.le_refl _) _
  have hlb31 : 0 + lb ≤ 2147483647 := by omega
  go_enter Try.func7, Try.ntmps7
  go_upto_region 4 with (fail)
  generalize hV : w.alloc _ = W0 at G0 GB ⊢
  clear hV
  go_upto_region 5 with (first
    | (refine wpList_ld rfl 22 (.tmp 3) rfl (load_arr arr16B rfl (i16l h HH.out) G0.out) ?_)
    | (refine (GSX.out _ (HXS.out.below GB.out)).mono ?_
       rintro e w1 ⟨rfl, hb1⟩
       have G1 := Lib.hid ((hb1.block _ (lt_of_heap G0.out)).trans G0.out)
       have GB1 := Lib.hid (GB.out.step hb1)
       clear hb1)
    | (refine wpList_st rfl 22 (.tmp 7) (.tmp 32) rfl (store_arr (cs := Y.map bv) (i16l Y HYL.out) (bv_one _) (old := Z.map bv) (heap_alloc_new' w1 _) (by rw [List.length_map, List.length_map, HYL.out, HZL.out])) ?_
       generalize hV : World.setRow _ _ _ = W3
       have hbs : Below w1.heap.size w1 W3 := ((Below.refl w1.heap.size w1).alloc (Nat.le_refl _) _).trans (below_of_setRow hV (Nat.le_refl _) (by simp))
       have K0 := Lib.hid ((hbs.block _ (lt_of_heap G1.out)).trans G1.out)
       have K1 := Lib.hid (heap_of_setRow hV (heap_alloc_new' w1 _))
       have KB := Lib.hid (GB1.out.step hbs)
       clear hV hbs))
  obtain ⟨q, HQ⟩ : ∃ q, Hid (w1.heap.size = q) := ⟨_, rfl⟩
  have hqw : Hid (w.heap.size ≤ q ∧ w.heap.size < q) := by have h1 := GB1.out.size; have h2 := lt_of_heap G1.out; have h3 := HQ.out; show _ ∧ _; omega
  rw [HQ.out] at K1 ⊢
  clear G0 G1 GB GB1 GSX HQ hz16 HZL
  have HBS3 := Lib.hid (HBS.out.below KB.out)
  go_upto_region 6 with (
    at_builtin
    refine wpList_app8 rfl (.tmp 33) (.tmp 34) rfl W3.heap.size _ 0 [] rfl ?_ B lb cb W3.heap.size bs rfl ?_ ?_ ?_ ?_ ?_
    · exact own_heap (g := W3.heap.size) (heap_alloc_new' W3 _) (Nat.le_refl _) rfl (Nat.zero_le _)
    · exact HBS3.out.2.2.below ((Below.refl _ _).alloc (Nat.le_refl _) _)
    · exact HBL.out
    · exact hlb31
    · simp
    rintro v1 w6 hown hgr
    have HB6 := Lib.hid (((Below.refl W3.heap.size W3).alloc (Nat.le_refl _) _).grown hgr (by simp) (ge_own W3.heap.size 0))
    have HO6 := Lib.hid hown
    clear hgr hown)
  obtain ⟨Q, HQ⟩ : ∃ Q, Hid (W3.heap.size = Q) := ⟨_, rfl⟩
  go_loopw [8] (fun v wr => ∃ (k p : Nat) (A' : Option Addr) (c' : Nat), v = .slice A' p c' ∧ p ≤ 316 ∧ Hid (p = lb + k ∧ (k = 0 ∨ p ≤ 16)) ∧ Hid (wr.ownsRow Q 5 1 (.slice A' p c') p ((bs ++ List.replicate k 0).map bv)) ∧ Hid (Below Q W3 wr)) (fun v _ => 316 - sliceLen v)
  case atStart =>
    obtain ⟨A2, c2, rfl, _, _, _, _⟩ := own_read HO6.out
    refine ⟨0, 0 + lb, A2, c2, rfl, by omega, ?_, ?_, by rw [← HQ.out]; exact HB6⟩
    · show _ ∧ _; omega
    · have := HO6.out; rw [List.nil_append] at this; rw [List.replicate_zero, List.append_nil, ← HQ.out]; exact this
  case round =>
    clear HO6 HB6
    obtain ⟨k, p, A', c', rfl, hp, HP, HO, HB⟩ := hrel
    by_cases hlt : p < 16
    · have e1 : (p : Int) < 16 := by omega
      have hp31 : Hid (p + 1 ≤ 2147483647) := by show _ ≤ _; omega
      have hs1 : Hid (Q ≤ wr.heap.size) := by show _ ≤ _; rw [← HQ.out]; exact HB.out.size
      have HB1 := Lib.hid (HB.out.alloc hs1.out (.cells #[.int .u8 0] 5))
      have HO1 := Lib.hid (own_below HO.out ((Below.refl wr.heap.size wr).alloc (Nat.le_refl _) (.cells #[.int .u8 0] 5)))
      go_wp2_with (
        at_builtin
        refine wpList_app8 rfl (.tmp 39) (.tmp 40) rfl Q _ p (bs ++ List.replicate k 0) rfl ?_ (some ⟨wr.heap.size, 0, none⟩) 1 1 (wr.heap.size + 1) [0] rfl ?_ ?_ ?_ ?_ ?_
        · exact HO1.out
        · exact one_rowG wr 0
        · rfl
        · exact hp31.out
        · simp; exact Nat.le_succ_of_le hs1.out
        rintro v2 w2 hown hgr
        obtain ⟨A2, c2, rfl, _, _, _, _⟩ := own_read hown
        have HO2 := Lib.hid hown
        have FB2 := Lib.hid (HB1.out.grown hgr (by simp; exact Nat.le_succ_of_le hs1.out) (own_geG HO1.out (Nat.le_refl _)))
        clear hown hgr)
      go_roundw
      case rel =>
        refine ⟨k + 1, p + 1, A2, c2, rfl, by omega, ?_, ?_, FB2⟩
        · have h1 := HP.out; show _ ∧ _; omega
        · have := HO2.out; rw [List.append_assoc, ← rep_snocG] at this; exact this
      case measure => simp [sliceLen]; omega
    · have e1 : ¬ ((p : Int) < 16) := by omega
      have hmx := pad_until HP.out hlt
      have HPT1 := Lib.hid (HPT.out k hmx)
      have HCL : Hid ((bs ++ List.replicate k (0 : UInt8)).length = p) := by have h1 := HP.out; show _ = _; rw [List.length_append, List.length_replicate, HBL.out]; omega
      obtain ⟨C, HC⟩ : ∃ C, Hid (bs ++ List.replicate k (0 : UInt8) = C) := ⟨_, rfl⟩
      rw [HC.out] at HPT1 HCL HO
      clear HC HPT hmx
      obtain ⟨h0, hv⟩ := HO.out
      rcases hv with ⟨hv0, h00⟩ | ⟨gc, cap, cur, hve, hgc, hcur, hnc, hcm, hcs, htk⟩
      · exfalso; omega
      injection hve with hv1 _ hv2
      subst hv1; subst hv2
      obtain ⟨_, _, hsl, _, h1, h2, h3⟩ := own_read HO.out
      injection hsl with hv1 _ hv2
      subst hv1; subst hv2
      have HSC : Hid (Sl wr (some ⟨gc, 0, none⟩) c' C) := ⟨by rw [HCL.out]; exact h1, h2, h3⟩
      obtain ⟨cl⟩ := cur
      have HCU : Hid (wr.heap[gc]? = some (.cells cl.toArray 5 (0, 0))) := hcur
      have hcap : Hid (p ≤ c') := hnc
      have hgq : Hid (Q ≤ gc) := hgc
      have hQq : Hid (q < Q) := by have h1 := lt_of_heap K1.out; have h2 := HQ.out; show _ < _; omega
      have K0' : Hid (wr.heap[w.heap.size]? = _) := (HB.out.block _ (by have h1 := hqw.out; have h2 := hQq.out; omega)).trans K0.out
      have K1' : Hid (wr.heap[q]? = _) := (HB.out.block _ hQq.out).trans K1.out
      have KB' : Hid (Below w.heap.size w wr) := KB.out.trans (HB.out.mono (by have h1 := hqw.out; have h2 := hQq.out; omega))
      clear h0 hgc hcur hnc hcm hcs htk h1 h2 h3 HO HB K0 K1 KB HBS3
      obtain ⟨wo, hwo⟩ : ∃ x, x = wr := ⟨_, rfl⟩
      subst hwo
      go_wp2_with fail
      go_loopw [9] (fun vi wr => ∃ (i : Nat) (l : List Value), i ≤ 16 ∧ vi = .int .i64 (i : Int) ∧ Hid (Sl wr (some ⟨gc, 0, none⟩) c' (headX C Y i)) ∧ Hid (wr.heap[gc]? = some (.cells l.toArray 5 (0, 0))) ∧ Hid (Below w.heap.size w wr) ∧ Hid (wr.heap[w.heap.size]? = some (.cells (h.map bv).toArray 22 (0, 0))) ∧ Hid (wr.heap[q]? = some (.cells (Y.map bv).toArray 22 (0, 0)))) (fun i _ => 16 - (intOf i).toNat)
      case atStart => exact ⟨0, cl, by omega, rfl, by rw [headX_zero]; exact HSC, HCU, KB', K0', K1'⟩
      case round =>
        clear HSC HCU KB' K0' K1'
        obtain ⟨i, l, hi, rfl, HS, HL, HB, H0, H1⟩ := hrel
        by_cases hlt : i < 16
        · have e1 : (i : Int) < 16 := by omega
          have e4 : (i : Int) < (p : Int) := by omega
          have hiC : i < C.length := by rw [HCL.out]; omega
          have c0 := sl_cell HS.out (i := i) (by rw [headX_len]; exact hiC)
          rw [headX_at C Y i hiC] at c0
          have c1 : wr.cell? ⟨q, i, none⟩ = some (.int .u8 ((Y.getD i 0).toNat : Int)) := by
            rw [cell_of_heap H1.out, List.getElem?_map]
            simp [List.getD, HYL.out, hlt, bv]
          have fz := frozen_of_heap HL.out i
          have HST := Lib.hid (headX_set C Y i hiC)
          have HIX : Hid (i < (headX C Y i).length) := by show _ < _; rw [headX_len]; exact hiC
          generalize C.getD i 0 = x at c0 HST
          generalize Y.getD i 0 = y at c1 HST
          have hx := xor8 x y
          generalize x ^^^ y = z at hx HST
          clear hiC
          go_wp2_with fail
          go_still_tail 9, (by kernel_rfl)
          change wpList _ _ _ _ _ wr.drew
          go_wp2
          go_roundw
          case rel =>
            refine ⟨i + 1, _, by omega, by go_num, ?_, heap_set (w := wr.drew) HL.out i (bv z), ?_, ?_, ?_⟩
            · rw [← HST.out]; exact sl_setG (w := wr.drew) (HS.out.below ((Below.refl _ _).drew)) HL.out HIX.out
            · exact HB.out.drew.setCell (show w.heap.size ≤ gc by have h1 := hqw.out; have h2 := hQq.out; have h3 := hgq.out; omega) _
            · exact (Below.heap_setCell wr.drew _ _ _ (show w.heap.size ≠ gc by have h1 := hqw.out; have h2 := hQq.out; have h3 := hgq.out; omega)).trans H0.out
            · exact (Below.heap_setCell wr.drew _ _ _ (show q ≠ gc by have h2 := hQq.out; have h3 := hgq.out; omega)).trans H1.out
          case measure => simp [intOf]; omega
        · have e1 : ¬ ((i : Int) < 16) := by omega
          obtain rfl : i = 16 := by omega
          have GSC := Lib.hid (fun W hS => gsum_any h (some ⟨gc, 0, none⟩) p c' (headX C Y 16) W HH.out (by rw [headX_len]; exact HCL.out) (by omega) hS)
          have GSA := Lib.hid (fun A' c' W hS => gsum_any h A' (n + lb) c' (X ++ bs) W HH.out (by rw [List.length_append, HXL.out, HBL.out]) (by omega) hS)
          rw [HPT1.out] at GSC
          have q := eql_bytes (P := Try.prog) arr16B Try.underlying5 s8 (gsumL h (X ++ bs)) (gsumL h (X ++ bs)) (gsumL_len _ _) (gsumL_len _ _)
          rw [decide_eq_true rfl] at q
          generalize gsumL h (X ++ bs) = E at q GSA GSC
          generalize headX C Y 16 = C' at HS GSC
          have HXr := Lib.hid (HXS.out.below HB.out)
          have HBr := Lib.hid (HBS.out.below HB.out)
          have hn31 : 0 + n ≤ 2147483647 := by omega
          have hnb31 : n + lb ≤ 2147483647 := by omega
          clear HPT1 hlt
          obtain ⟨wo2, hwo2⟩ : ∃ x, x = wr := ⟨_, rfl⟩
          subst hwo2
          go_upto_region 12 with (fail)
          go_upto_region 13 with (first
            | (at_builtin
               refine wpList_app8 (o := ⟨some 57, _, _, _, _, _⟩) rfl (.tmp 55) (.tmp 56) rfl wo2.heap.size _ 0 [] rfl ?_ A n c wo2.heap.size X rfl ?_ ?_ ?_ ?_ ?_
               · exact own_heap (g := wo2.heap.size) (heap_alloc_new' wo2 _) (Nat.le_refl _) rfl (Nat.zero_le _)
               · exact HXr.out.2.2.below ((Below.refl _ _).alloc (Nat.le_refl _) _)
               · exact HXL.out
               · exact hn31
               · simp
               rintro v7 w7 hown hgr
               have HB7 := Lib.hid (((Below.refl wo2.heap.size wo2).alloc (Nat.le_refl _) _).grown hgr (by simp) (ge_own wo2.heap.size 0))
               rw [List.nil_append, Nat.zero_add] at hown
               have HO7 := Lib.hid hown
               have HBr7 := Lib.hid (HBr.out.below HB7.out)
               clear hgr hown)
            | (at_builtin
               refine wpList_app8 (o := ⟨some 59, _, _, _, _, _⟩) rfl (.tmp 57) (.tmp 58) rfl wo2.heap.size _ n X rfl ?_ B lb cb w7.heap.size bs rfl ?_ ?_ ?_ ?_ ?_
               · exact HO7.out
               · exact HBr7.out.2.2
               · exact HBL.out
               · exact hnb31
               · exact HB7.out.size
               rintro v8 w8 hown8 hgr8
               have HO8 := Lib.hid hown8
               have HB8 := Lib.hid (HB7.out.grown hgr8 HB7.out.size (own_geG HO7.out (Nat.le_refl _)))
               clear hown8 hgr8))
          obtain ⟨A8, c8, rfl, hl8, hc8, hm8, hr8⟩ := own_read HO8.out
          have S8 : Hid (Sl w8 A8 c8 (X ++ bs)) := ⟨by rw [hl8]; exact hc8, hm8, hr8⟩
          have SC := Lib.hid (HS.out.below HB8.out)
          have NB := Lib.hid (HB.out.step HB8.out)
          have N0 := Lib.hid ((HB8.out.block _ (lt_of_heap H0.out)).trans H0.out)
          clear hl8 hc8 hm8 hr8 HO8 HO7 HB7 HBr7 HB8 HS HL HB H0 H1 HXr HBr
          obtain ⟨nb, hnb⟩ : ∃ m, m = n + lb := ⟨_, rfl⟩
          rw [← hnb] at GSA ⊢
          clear hnb
          have LH : Hid (∀ W, Ext w8 W → (Instr.loadAt 22 (.pointer (some ⟨w.heap.size, 0, none⟩))).run Try.prog W = .ok (.agg (h.map bv).toArray) W) := fun W hW => load_arr arr16B rfl (i16l h HH.out) ((hW.block _ (lt_of_heap N0.out)).trans N0.out)
          have HX : Hid (Ext w8 w8.drew) := (Below.refl _ _).drew
          refine reg_start (by kernel_rfl) ?_
          try simp only [Act.put, List.setIfInBounds_toArray, List.set_cons_zero, List.set_cons_succ]
          generalize w8.drew = W9 at HX ⊢
          refine reg_load 0 (some 60) (fun W hW => LH.out W (Ext.trans HX.out hW)) rfl rfl rfl rfl (by kernel_rfl) (by kernel_rfl) (by kernel_rfl) (fun _ _ _ h => h) (by rfl) ?_
          simp only [Act.put, List.setIfInBounds_toArray, List.set_cons_zero, List.set_cons_succ]
          refine reg_take (v := ?_) 1 (some 61) rfl rfl (by kernel_rfl) (by kernel_rfl) (by kernel_rfl) (fun _ _ _ h => h) (by rfl) (fun W hW => ?_) ?_
          rotate_left
          · (go_simp; try rfl)
          simp only [Act.put, List.setIfInBounds_toArray, List.set_cons_zero, List.set_cons_succ]
          refine reg_load 3 (some 63) (fun W hW => LH.out W (Ext.trans HX.out hW)) rfl rfl rfl rfl (by kernel_rfl) (by kernel_rfl) (by kernel_rfl) (fun _ _ _ h => h) (by rfl) ?_
          simp only [Act.put, List.setIfInBounds_toArray, List.set_cons_zero, List.set_cons_succ]
          refine reg_take (v := ?_) 4 (some 64) rfl rfl (by kernel_rfl) (by kernel_rfl) (by kernel_rfl) (fun _ _ _ h => h) (by rfl) (fun W hW => ?_) ?_
          rotate_left
          · (go_simp; try rfl)
          simp only [Act.put, List.setIfInBounds_toArray, List.set_cons_zero, List.set_cons_succ]
          refine reg_eff 2 rfl (by kernel_rfl) (fun K hK => ?_)
          go_simp
          refine (GSA.out _ _ _ (S8.out.below HX.out)).mono ?_
          rintro e w10 ⟨rfl, hE⟩
          refine hK.out _ _ hE ?_
          have HX := Lib.hid (Ext.trans HX.out hE)
          clear hE hK K
          try simp only [Act.put, List.setIfInBounds_toArray, List.set_cons_zero, List.set_cons_succ]
          refine reg_eff 5 rfl (by kernel_rfl) (fun K hK => ?_)
          go_simp
          refine (GSC.out _ (SC.out.below HX.out)).mono ?_
          rintro e w11 ⟨rfl, hE⟩
          refine hK.out _ _ hE ?_
          have HX := Lib.hid (Ext.trans HX.out hE)
          clear hE hK K
          try simp only [Act.put, List.setIfInBounds_toArray, List.set_cons_zero, List.set_cons_succ]
          refine reg_take (v := ?_) 6 (some 66) rfl rfl (by kernel_rfl) (by kernel_rfl) (by kernel_rfl) (fun _ _ _ h => h) (by rfl) (fun W hW => ?_) ?_
          rotate_left
          · (go_simp; try rfl)
          simp only [Act.put, List.setIfInBounds_toArray, List.set_cons_zero, List.set_cons_succ]
          refine reg_take (v := ?_) 7 (some 67) rfl rfl (by kernel_rfl) (by kernel_rfl) (by kernel_rfl) (fun _ _ _ h => h) (by rfl) (fun W hW => ?_) ?_
          rotate_left
          · (go_simp; try rfl)
          simp only [Act.put, List.setIfInBounds_toArray, List.set_cons_zero, List.set_cons_succ]
          refine reg_eff 8 rfl (by kernel_rfl) (fun K hK => ?_)
          go_simp
          refine (gawake_any _).mono ?_
          rintro e w12 ⟨rfl, hE⟩
          refine hK.out _ _ hE ?_
          have HX := Lib.hid (Ext.trans HX.out hE)
          clear hE hK K
          try simp only [Act.put, List.setIfInBounds_toArray, List.set_cons_zero, List.set_cons_succ]
          refine reg_take (v := ?_) 9 (some 69) rfl rfl (by kernel_rfl) (by kernel_rfl) (by kernel_rfl) (fun _ _ _ h => h) (by rfl) (fun W hW => ?_) ?_
          rotate_left
          · (go_simp; try rfl)
          simp only [Act.put, List.setIfInBounds_toArray, List.set_cons_zero, List.set_cons_succ]
          refine reg_take (v := ?_) 10 (some 6) rfl rfl (by kernel_rfl) (by kernel_rfl) (by kernel_rfl) (fun _ _ _ h => h) (by rfl) (fun W hW => ?_) ?_
          rotate_left
          · (go_simp; try rfl)
          simp only [Act.put, List.setIfInBounds_toArray, List.set_cons_zero, List.set_cons_succ]
          refine reg_done (by kernel_rfl) ?_
          go_wp2
          go_ret
          exact ⟨rfl, NB.out.step HX.out⟩
end Go.Proofs.Ytjcanmbpidabeaa
