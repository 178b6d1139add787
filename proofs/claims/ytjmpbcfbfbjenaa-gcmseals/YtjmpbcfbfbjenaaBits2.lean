/- Contracts of bits.Little, at, put. -/
import Derived.Test.YtjmpbcfbfbjenaaBits1
namespace Go.Proofs.Ytjmpbcfbfbjenaa
open Go.RowKit
set_option linter.unusedVariables false
set_option maxRecDepth 100000

theorem at_any (x i : Nat) (w : World) (hx : x < 18446744073709551616) (hi : i ≤ 2147483647) :
    Calls Try.prog 102 #[.int .u64 (x : Int), .int .i64 (i : Int)] w fun e w' => e = .returned (.int .u8 ((byteAt x i).toNat : Int)) ∧ w = w' := by
  have hm := Lib.hid (at_math x i hx)
  clear hx
  have h0 : (0 : Int) ≤ 8 * (i : Int) := by omega
  have h1 : (8 * (i : Int)).toNat = 8 * i := by omega
  go_enter Try.func102, Try.ntmps102
  go_wp2
  go_ret
  exact ⟨ret_int hm.out, rfl⟩

/-- A row of bytes of the call's own, from block 'base' on. -/
def OwnB (w : World) (base : Nat) (v : Value) (bs : List UInt8) : Prop := w.ownsRow base 5 1 v bs.length (bs.map bv)

theorem made8 : (Try.prog.info? 5).map (fun i => (i.zero, i.size, i.bytes)) = some (some (.int .u8 0), 1, 1) := by kernel_rfl

theorem put_any (F : FuncId) (cap : Array Value) (f : Nat → UInt8) (many : Nat) (w : World) (hm : many ≤ 2147483647) (hcall : ∀ args W, (callFunc F args).run Try.prog W = .ok (.enter F args) W)
    (hF : ∀ i W, i < many → Below w.heap.size w W → Calls Try.prog F (#[.int .i64 (i : Int)] ++ cap) W fun e W' => e = .returned (.int .u8 ((f i).toNat : Int)) ∧ Below W.heap.size W W') :
    Calls Try.prog 94 #[.int .i64 (many : Int), .func (.func F) #[] cap] w fun e w' => e = .returned (.slice (some ⟨w.heap.size, 0, none⟩) many many) ∧
      w'.heap[w.heap.size]? = some (.cells (((List.range many).map f).map bv).toArray 5 (0, 0)) ∧ Below w.heap.size w w' := by
  have hmk := make_run (P := Try.prog) uT made8 rfl .i64 .i64 many (by omega) (by omega) w
  obtain ⟨W1, hW1⟩ : ∃ W1, W1 = w.alloc (.cells (List.replicate many (Value.int .u8 0)).toArray 5) := ⟨_, rfl⟩
  rw [← hW1] at hmk
  have hb1 : Below w.heap.size w W1 := by rw [hW1]; exact (Below.refl _ _).alloc (Nat.le_refl _) _
  have hk1 : W1.heap[w.heap.size]? = some (.cells (List.replicate many (Value.int .u8 0)).toArray 5 (0, 0)) := by rw [hW1]; exact heap_alloc_new' w _
  have HB1 := Lib.hid hb1
  have HK1 := Lib.hid hk1
  have HF := Lib.hid hF
  clear hb1 hk1 hF hW1
  go_enter Try.func94, Try.ntmps94
  go_wp2_with fail
  go_loopw [11] (fun iv wr => ∃ k : Nat, k ≤ many ∧ iv = .int .i64 k ∧ Hid (Below w.heap.size w wr) ∧
      Hid (wr.heap[w.heap.size]? = some (.cells (((List.range k).map f).map bv ++ List.replicate (many - k) (Value.int .u8 0)).toArray 5 (0, 0)))) (fun i _ => many - (intOf i).toNat)
  case atStart => exact ⟨0, by omega, rfl, HB1, by simpa using HK1⟩
  case round =>
    obtain ⟨k, hk, rfl, HB, HK⟩ := hrel
    by_cases hlt : k < many
    · go_wp2_with fail
      refine (HF.out k wr hlt HB.out).mono ?_
      rintro e W' ⟨rfl, hb'⟩
      have hg : w.heap.size < wr.heap.size := lt_of_heap HK.out
      have hK' := (hb'.block _ hg).trans HK.out
      have hc := cell_of_heap hK' k
      rw [List.getElem?_append_right (by simp)] at hc
      simp only [List.length_map, List.length_range, Nat.sub_self] at hc
      rw [List.getElem?_replicate, if_pos (by omega)] at hc
      have hfz := frozen_of_heap hK' k
      have HK' := Lib.hid hK'
      have HB' := Lib.hid (HB.out.trans (hb'.mono (Nat.le_of_lt hg)))
      clear hK' hb' hg
      go_wp2
      go_roundw
      case rel =>
        refine ⟨k + 1, by omega, by go_num, ?_, ?_⟩
        · exact HB'.out.setCell (Nat.le_refl _) _
        · have := heap_set HK'.out k (.int .u8 ((f k).toNat : Int))
          have e1 : many - k = (many - (k + 1)) + 1 := by omega
          rw [e1, set_mid _ _ _ _ k (by simp)] at this
          rw [List.range_succ, List.map_append, List.map_append]
          exact this
      case measure => simp [intOf]; omega
    · go_wp2
      go_ret
      have : k = many := by omega
      subst this
      exact ⟨rfl, by simpa using HK.out, HB.out⟩

/-- a row just made, as a row of one's own -/
theorem own_made {w w' : World} {g : Nat} {bs : List UInt8} (hg : w.heap.size ≤ g) (hl : bs.length ≤ maxLen) (h : w'.heap[g]? = some (.cells (bs.map bv).toArray 5 (0, 0))) :
    OwnB w' w.heap.size (.slice (some ⟨g, 0, none⟩) bs.length bs.length) bs :=
  ⟨by simp, .inr ⟨g, bs.length, _, rfl, hg, h, Nat.le_refl _, hl, by simp, by simp [List.take_of_length_le]⟩⟩
theorem OwnB.read {w : World} {base : Nat} {v : Value} {bs : List UInt8} (h : OwnB w base v bs) :
    ∃ A c, v = .slice A bs.length c ∧ bs.length ≤ c ∧ c ≤ maxLen ∧ RowAt w w.heap.size A (bs.map bv) := by
  obtain ⟨_, h | ⟨g, cap, cur, rfl, hg, hh, hn, hm, hs, ht⟩⟩ := h
  · obtain ⟨rfl, h0⟩ := h
    exact ⟨none, 0, by rw [h0], by omega, by simp [maxLen], .inl (by simpa using h0)⟩
  · refine ⟨_, cap, rfl, hn, hm, .inr ⟨g, 0, rfl, lt_of_heap hh, fun j u hu => ?_⟩⟩
    rw [← ht, List.getElem?_take] at hu
    split at hu
    · simpa [World.cell?, hh] using hu
    · cases hu


theorem callPutBig : ∀ args W, (callFunc 101 args).run Try.prog W = .ok (.enter 101 args) W := fun _ _ => by kernel_rfl
theorem putBig1_any (x many i : Nat) (b1 b2 : Nat) (w : World) (hx : x < 18446744073709551616) (hm : many ≤ 2147483647) (hi : i < many)
    (h1 : w.cell? ⟨b1, 0, none⟩ = some (.int .u64 (x : Int))) (h2 : w.cell? ⟨b2, 0, none⟩ = some (.int .i64 (many : Int))) :
    Calls Try.prog 101 #[.int .i64 (i : Int), .pointer (some ⟨b1, 0, none⟩), .pointer (some ⟨b2, 0, none⟩)] w fun e w' => e = .returned (.int .u8 ((byteAt x (many - 1 - i)).toNat : Int)) ∧ w = w' := by
  have hk : (many : Int) - 1 - (i : Int) = ((many - 1 - i : Nat) : Int) := by omega
  have HX := Lib.hid hx
  clear hx
  go_enter Try.func101, Try.ntmps101
  go_wp2_with (go_at_call 102; refine (at_any x (many - 1 - i) _ HX.out (by omega)).mono ?_; rintro e w' ⟨rfl, rfl⟩)
  go_ret
  exact ⟨rfl, rfl⟩

theorem put_neg (F : FuncId) (cap : Array Value) (many : Int) (w : World) (hm : many < 0) :
    Calls Try.prog 94 #[.int .i64 many, .func (.func F) #[] cap] w fun e w' => e = .returned (.slice (some ⟨w.heap.size, 0, none⟩) 0 0) ∧
      w'.heap[w.heap.size]? = some (.cells (([] : List UInt8).map bv).toArray 5 (0, 0)) ∧ Below w.heap.size w w' := by
  have hmk := make_run (P := Try.prog) uT made8 rfl .i64 .i64 0 (by omega) (by omega) w
  have hl : ¬ (0 < many) := by omega
  simp only [Int.natCast_zero, List.replicate_zero] at hmk
  go_enter Try.func94, Try.ntmps94
  go_wp2_with fail
  refine wp_loop_once ?_
  go_wp2
  go_ret
  exact ⟨rfl, heap_alloc_new' w _, (Below.refl _ _).alloc (Nat.le_refl _) _⟩

theorem two_below (w : World) (o1 o2 : Obj) : Below w.heap.size w ((w.alloc o1).alloc o2) := ((Below.refl _ _).alloc (Nat.le_refl _) _).alloc (by simp) _

theorem OwnB.mono {w : World} {b b' : Nat} {v : Value} {bs : List UInt8} (h : OwnB w b v bs) (hb : b' ≤ b) : OwnB w b' v bs := by
  obtain ⟨h0, h | ⟨g, cap, cur, rfl, hg, r⟩⟩ := h
  · exact ⟨h0, .inl h⟩
  · exact ⟨h0, .inr ⟨g, cap, cur, rfl, Nat.le_trans hb hg, r⟩⟩
theorem row_of_heap {w : World} {g : Nat} {bs : List UInt8} {t : TypeId} {fr : Nat × Nat} (h : w.heap[g]? = some (.cells (bs.map bv).toArray t fr)) {B : Nat} (hB : g < B) : RowAt w B (some ⟨g, 0, none⟩) (bs.map bv) :=
  .inr ⟨g, 0, rfl, hB, fun j u hu => by rw [cell_of_heap h]; simpa using hu⟩
/-- the call's result is a new row of n bytes, bs; all that was there is as it was -/
def NewRow (w : World) (n : Nat) (bs : List UInt8) (e : Ending) (w' : World) : Prop :=
  ∃ g, w.heap.size ≤ g ∧ e = .returned (.slice (some ⟨g, 0, none⟩) n n) ∧ w'.heap[g]? = some (.cells (bs.map bv).toArray 5 (0, 0)) ∧ Below w.heap.size w w'
theorem putBig_len (x n : Nat) : (putBig x n).length = n := by simp [putBig]
theorem putLittle_len (x n : Nat) : (putLittle x n).length = n := by simp [putLittle]

theorem putBig_any (x many : Nat) (w : World) (hx : x < 18446744073709551616) (hm : many ≤ 2147483647) :
    Calls Try.prog 93 #[.int .u64 (x : Int), .int .i64 (many : Int)] w (NewRow w many (putBig x many)) := by
  have hput := put_any 101 #[.pointer (some ⟨w.heap.size, 0, none⟩), .pointer (some ⟨w.heap.size + 1, 0, none⟩)] (fun i => byteAt x (many - 1 - i)) many
    ((w.alloc (.cells #[.int .u64 (x : Int)] 61)).alloc (.cells #[.int .i64 (many : Int)] 3)) hm callPutBig (fun i W hi hb => by
      refine (putBig1_any x many i w.heap.size (w.heap.size + 1) W hx hm hi ?_ ?_).mono fun e w' h => ⟨h.1, by rw [← h.2]; exact Below.refl _ _⟩
      · rw [hb.cell (by simp; omega)]; simp
      · rw [hb.cell (by simp)]; simp)
  have HP := Lib.hid hput
  clear hput hx
  go_enter Try.func93, Try.ntmps93
  go_wp2_with fail
  refine HP.out.mono ?_
  rintro e w' ⟨rfl, hK, hB⟩
  have HK := Lib.hid hK
  have HB := Lib.hid hB
  clear hK hB
  go_wp2
  go_ret
  exact ⟨_, by omega, rfl, by simpa [putBig] using HK.out, (two_below w _ _).trans (HB.out.mono (by simp; omega))⟩
theorem putBig_neg (x : Nat) (many : Int) (w : World) (hm : many < 0) :
    Calls Try.prog 93 #[.int .u64 (x : Int), .int .i64 many] w (NewRow w 0 []) := by
  go_enter Try.func93, Try.ntmps93
  go_wp2_with fail
  refine (put_neg _ _ many _ hm).mono ?_
  rintro e w' ⟨rfl, hK, hB⟩
  have HK := Lib.hid hK
  have HB := Lib.hid hB
  clear hK hB
  go_wp2
  go_ret
  exact ⟨_, by omega, rfl, by simpa using HK.out, (two_below w _ _).trans (HB.out.mono (by simp; omega))⟩

/-- Big and Little of a row that is known whole -/
theorem big_row (g n : Nat) (bs : List UInt8) (W : World) {t : TypeId} {fr : Nat × Nat} (hl : bs.length = n) (hn : n ≤ 2147483647) (hk : W.heap[g]? = some (.cells (bs.map bv).toArray t fr)) :
    Calls Try.prog 89 #[.slice (some ⟨g, 0, none⟩) n n] W fun e w' => e = .returned (.int .u64 (big bs : Int)) ∧ Below W.heap.size W w' := by
  have := big_any (some ⟨g, 0, none⟩) n bs _ W (by omega) (by simp [maxLen]; omega) (Nat.le_refl _) (row_of_heap hk (lt_of_heap hk))
  rwa [hl] at this
/-- append onto bytes of one's own, as a step of a region that draws, and of one that does not -/
theorem step_app8 {w : World} {ops : Array Oper} {o : Oper} {a : Act} {K : Act → World → Prop} {Q : Exit → Act → World → Prop} {E : Prop} (hg : o.guard = none) (s x : Operand)
    (ho : o.op = .call { callee := .builtin .append, args := #[s, x], argTypes := #[26, 26] }) (base : Nat) (v : Value) (n : Nat) (bs : List UInt8) (hs : a.eval s = v) (hown : w.ownsRow base 5 1 v n (bs.map bv))
    (A : Option Addr) (m c B : Nat) (news : List UInt8) (hx : a.eval x = .slice A m c) (hr : RowAt w B A (news.map bv)) (hm : news.length = m) (hk : n + m ≤ 2147483647) (hbase : base ≤ w.heap.size)
    (h : ∀ v' w', w'.ownsRow base 5 1 v' (n + m) ((bs ++ news).map bv) → w.grownBy w' v.ownBlock → K (a.put o.dst v') w') :
    if Region.wanted o (yielded ops a.tmps) = true then Oper.wp Try.prog o a w K Q else E := by
  obtain ⟨v', w', hrun, h2, h3⟩ := append_row (P := Try.prog) w base o.type uT made8 rfl v n _ hown B A m c _ hr (by simpa using hm) (bv_one news) (by omega) (by simp [maxLen]; omega) hbase
  exact step_app hg s x _ _ ho (by rw [hs, hx]; exact hrun) (h v' w' (by rw [List.map_append]; exact h2) h3)
theorem wpList_app8 {w : World} {ops : Array Oper} {rest : List Oper} {o : Oper} {a : Act} {Q : Exit → Act → World → Prop} (hw : Region.wanted o (yielded ops a.tmps) = true) (s x : Operand)
    (ho : o.op = .call { callee := .builtin .append, args := #[s, x], argTypes := #[26, 26] }) (base : Nat) (v : Value) (n : Nat) (bs : List UInt8) (hs : a.eval s = v) (hown : w.ownsRow base 5 1 v n (bs.map bv))
    (A : Option Addr) (m c B : Nat) (news : List UInt8) (hx : a.eval x = .slice A m c) (hr : RowAt w B A (news.map bv)) (hm : news.length = m) (hk : n + m ≤ 2147483647) (hbase : base ≤ w.heap.size)
    (h : ∀ v' w', w'.ownsRow base 5 1 v' (n + m) ((bs ++ news).map bv) → w.grownBy w' v.ownBlock → wpList Try.prog ops Q rest (a.put o.dst v') w') :
    wpList Try.prog ops Q (o :: rest) a w := by
  obtain ⟨v', w', hrun, h2, h3⟩ := append_row (P := Try.prog) w base o.type uT made8 rfl v n _ hown B A m c _ hr (by simpa using hm) (bv_one news) (by omega) (by simp [maxLen]; omega) hbase
  exact wpList_app hw s x _ _ ho (by rw [hs, hx]; exact hrun) (h v' w' (by rw [List.map_append]; exact h2) h3)
theorem wpList_app0 {w : World} {ops : Array Oper} {rest : List Oper} {o : Oper} {a : Act} {Q : Exit → Act → World → Prop} (hw : Region.wanted o (yielded ops a.tmps) = true) (s x : Operand)
    (ho : o.op = .call { callee := .builtin .append, args := #[s, x], argTypes := #[26, 3] }) (base : Nat) (v : Value) (n : Nat) (bs : List UInt8) (hs : a.eval s = v) (hown : w.ownsRow base 5 1 v n (bs.map bv))
    (k : Nat) (hx : a.eval x = .int .i64 (k : Int)) (hk : n + k ≤ 2147483647) (hbase : base ≤ w.heap.size)
    (h : ∀ v' w', w'.ownsRow base 5 1 v' (n + k) ((bs ++ List.replicate k 0).map bv) → w.grownBy w' v.ownBlock → wpList Try.prog ops Q rest (a.put o.dst v') w') :
    wpList Try.prog ops Q (o :: rest) a w := by
  obtain ⟨v', w', hrun, h2, h3⟩ := append_zeros (P := Try.prog) w base o.type uT Try.underlying3 made8 rfl rfl v n _ hown k (by omega) (by omega) hbase
  exact wpList_app hw s x _ _ ho (by rw [hs, hx]; exact hrun) (h v' w' (by rw [List.map_append, List.map_replicate]; exact h2) h3)
theorem own_read {w : World} {base : Nat} {v : Value} {n : Nat} {bs : List UInt8} (h : w.ownsRow base 5 1 v n (bs.map bv)) :
    ∃ A c, v = .slice A n c ∧ bs.length = n ∧ n ≤ c ∧ c ≤ maxLen ∧ RowAt w w.heap.size A (bs.map bv) := by
  have hl : bs.length = n := by have := h.1; simpa using this
  subst hl
  obtain ⟨A, c, hv, h1, h2, h3⟩ := OwnB.read h
  exact ⟨A, c, hv, rfl, h1, h2, h3⟩

theorem big_n (A : Option Addr) (n c : Nat) (bs : List UInt8) (W : World) (hl : bs.length = n) (h1 : n ≤ c) (h2 : c ≤ maxLen) (hr : RowAt W W.heap.size A (bs.map bv)) :
    Calls Try.prog 89 #[.slice A n c] W fun e w' => e = .returned (.int .u64 (big bs : Int)) ∧ Below W.heap.size W w' := by
  subst hl
  exact big_any A c bs _ W h1 h2 (Nat.le_refl _) hr
theorem RowAt.after {w w' : World} {A : Option Addr} {xs : List Value} (h : RowAt w w.heap.size A xs) (hb : Below w.heap.size w w') : RowAt w' w'.heap.size A xs := (h.below hb).more hb.size
end Go.Proofs.Ytjmpbcfbfbjenaa
