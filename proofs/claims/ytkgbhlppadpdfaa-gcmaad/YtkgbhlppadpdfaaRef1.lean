/- Contracts of the document's own answers for layer 1: Little, Big, PutLittle, PutBig. -/
import Derived.Test.YtkgbhlppadpdfaaJoin1
namespace Go.Proofs.Ytkgbhlppadpdfaa
open Go.RowKit
set_option maxRecDepth 100000
set_option linter.unusedVariables false
set_option linter.unusedSimpArgs false

theorem ref_step (U N x : Nat) (hU : U * x < 18446744073709551616) (hN : N + U * x < 18446744073709551616) :
    ∃ V M U' : Nat, IntKind.u64.wrap ((U : Int) * (x : Int)) = (V : Int) ∧ IntKind.u64.wrap ((N : Int) + (V : Int)) = (M : Int) ∧ IntKind.u64.wrap ((U : Int) * 256) = (U' : Int) ∧ M = N + U * x ∧ U' = U * 256 % 18446744073709551616 := by
  refine ⟨U * x, N + U * x, U * 256 % 18446744073709551616, ?_, ?_, ?_, rfl, rfl⟩
  · rw [IntKind.wrap_u64, ← Int.natCast_mul]; omega
  · rw [IntKind.wrap_u64]; omega
  · rw [IntKind.wrap_u64]; omega
theorem pow_lt8 (k : Nat) (hk : k < 8) : 256 ^ (k + 1) ≤ 18446744073709551616 := by
  have h : (256 : Nat) ^ 8 = 18446744073709551616 := by decide
  rw [← h]; exact Nat.pow_le_pow_right (by decide) (by omega)
theorem unit_step (k : Nat) (hk : k < 8) : 256 ^ k % 18446744073709551616 = 256 ^ k := by
  have := pow_lt8 k hk
  rw [Nat.pow_succ] at this
  have hp : 0 < 256 ^ k := Nat.pow_pos (by decide)
  exact Nat.mod_eq_of_lt (by omega)

theorem bigN_cons (x : UInt8) (l : List UInt8) : bigN (x :: l) = x.toNat * 256 ^ l.length + bigN l := by
  have := bigN_append [x] l
  simpa [bigN] using this
/-- the last j bytes -/
def lastL (bs : List UInt8) (j : Nat) : List UInt8 := bs.drop (bs.length - j)
theorem lastL_succ (bs : List UInt8) (j : Nat) (h : j < bs.length) : lastL bs (j + 1) = bs[bs.length - 1 - j] :: lastL bs j := by
  unfold lastL
  rw [List.drop_eq_getElem_cons (by omega)]
  simp only [show bs.length - (j + 1) + 1 = bs.length - j by omega, show bs.length - (j + 1) = bs.length - 1 - j by omega]
  rw [show bs.length - 1 - j + 1 = bs.length - j by omega]
theorem lastL_len (bs : List UInt8) (j : Nat) (h : j ≤ bs.length) : (lastL bs j).length = j := by simp [lastL]; omega

theorem refPutLittle_any (x many : Nat) (w : World) (hx : x < 18446744073709551616) (hm : many ≤ 2147483647) :
    Calls Try.prog 74 #[.int .u64 (x : Int), .int .i64 (many : Int)] w fun e w' => ∃ v, e = .returned v ∧ w'.ownsRow w.heap.size 5 1 v many ((putLittle x many).map bv) ∧ Below w.heap.size w w' := by
  have HX := Lib.hid hx
  clear hx
  go_enter Try.func74, Try.ntmps74
  go_wp2_with fail
  go_loopw [0, 5, 6] (fun xv ov iv wr => ∃ (k : Nat), k ≤ many ∧ iv = .int .i64 k ∧ xv = .int .u64 ((x / 256 ^ k : Nat) : Int) ∧ Hid (wr.ownsRow w.heap.size 5 1 ov k ((putLittle x k).map bv)) ∧ Hid (Below w.heap.size w wr)) (fun _ _ i _ => many - (intOf i).toNat)
  case atStart => exact ⟨0, by omega, rfl, by simp, World.ownsRow_nil w _ _ _, Below.refl _ _⟩
  case round =>
    obtain ⟨k, hk, rfl, rfl, HO, HB⟩ := hrel
    by_cases hlt : k < many
    · have hz : ((x / 256 ^ k : Nat) : Int) % 256 = ((byteAt x k).toNat : Int) := by rw [byteAt, UInt8.toNat_ofNat']; omega
      have hy0 : x / 256 ^ k < 18446744073709551616 := Nat.lt_of_le_of_lt (Nat.div_le_self _ _) HX.out
      have HP : Hid (IntKind.u64.wrap (((x / 256 ^ k : Nat) : Int) / 256) = ((x / 256 ^ (k + 1) : Nat) : Int)) := by
        show _ = _
        rw [Nat.pow_succ, ← Nat.div_div_eq_div_mul, IntKind.wrap_u64]
        generalize x / 256 ^ k = y at hy0 ⊢
        omega
      clear hy0
      have hpl : putLittle x (k + 1) = putLittle x k ++ [byteAt x k] := by simp [putLittle, List.range_succ]
      have HPL := Lib.hid hpl
      clear hpl
      have hy : x / 256 ^ k < 18446744073709551616 := Nat.lt_of_le_of_lt (Nat.div_le_self _ _) HX.out
      generalize byteAt x k = z at hz HPL
      generalize x / 256 ^ k = y at hz HP hy ⊢
      have hzb : z.toNat < 256 := z.toNat_lt
      have HY := Lib.hid hy
      clear hy
      go_wp2_with (
        at_builtin
        refine wpList_app8 rfl (.tmp 12) (.tmp 16) rfl w.heap.size _ k (putLittle x k) rfl ?_ _ 1 1 (wr.heap.size + 1) [z] rfl ?_ ?_ ?_ ?_ ?_
        · exact HO.out.alloc _
        · exact row_of_heap (heap_alloc_new' wr _) (Nat.lt_succ_self _)
        · rfl
        · omega
        · exact Nat.le_trans HB.out.size (by simp)
        rintro v' w' hown hgr
        have HO' := Lib.hid hown
        have HB' : Hid (Below w.heap.size w w') := (HB.out.alloc HB.out.size _).grown hgr (Nat.le_trans HB.out.size (by simp)) (fun g hg => (HO.out.lt g hg).1)
        clear hown hgr)
      go_roundw
      case rel => exact ⟨k + 1, by omega, by go_num, by rw [HP.out], by rw [HPL.out]; exact HO', HB'⟩
      case measure => simp [intOf]; omega
    · go_wp2
      go_ret
      have : k = many := by omega
      subst this
      exact ⟨_, rfl, HO.out, HB.out⟩

theorem refPutLittle_neg (x : Nat) (many : Int) (w : World) (hm : many < 0) :
    Calls Try.prog 74 #[.int .u64 (x : Int), .int .i64 many] w fun e w' => e = .returned (.slice none 0 0) ∧ w = w' := by
  have hl : ¬ (0 < many) := by omega
  go_enter Try.func74, Try.ntmps74
  go_wp2_with fail
  refine wp_loop_once ?_
  go_wp2
  go_ret
  exact ⟨rfl, rfl⟩

theorem lastPut (x many j : Nat) (h : j < many) : putBig x many = (putLittle x many).reverse := putBig_rev x many

theorem refPutBig_any (x many : Nat) (w : World) (hx : x < 18446744073709551616) (hm : many ≤ 2147483647) :
    Calls Try.prog 62 #[.int .u64 (x : Int), .int .i64 (many : Int)] w fun e w' => ∃ v, e = .returned v ∧ w'.ownsRow w.heap.size 5 1 v many ((putBig x many).map bv) ∧ Below w.heap.size w w' := by
  have HX := Lib.hid hx
  clear hx
  go_enter Try.func62, Try.ntmps62
  go_wp2_with fail
  refine (refPutLittle_any x many w HX.out hm).mono ?_
  rintro e w1 ⟨v, rfl, hO, hB⟩
  obtain ⟨A, c, rfl, hl, h1, h2, hr⟩ := own_read hO
  have HL := Lib.hid hl
  have HR := Lib.hid hr
  have HB1 := Lib.hid hB
  clear hl hr hB hO h2 h1
  go_wp2_with fail
  go_loopw [6, 7] (fun ov iv wr => ∃ (k : Nat), k ≤ many ∧ iv = .int .i64 ((many : Int) - 1 - k) ∧ Hid (wr.ownsRow w1.heap.size 5 1 ov k (((putLittle x many).reverse.take k).map bv)) ∧ Hid (Below w1.heap.size w1 wr)) (fun _ i _ => (intOf i + 1).toNat)
  case atStart => exact ⟨0, by omega, by simp, by simpa [Hid] using World.ownsRow_nil w1 w1.heap.size 5 1, Below.refl _ _⟩
  case round =>
    obtain ⟨k, hk, rfl, HO, HB⟩ := hrel
    by_cases hlt : k < many
    · have t1 : (0 : Int) ≤ (many : Int) - 1 - k := by omega
      have t3 : ((many : Int) - 1 - k).toNat = many - 1 - k := by omega
      have t4 : (many : Int) - 1 - k < many := by omega
      obtain ⟨b, o, rfl, hbl, r⟩ := HR.out.at_ (by have := HL.out; simp; omega)
      have kb : many - 1 - k < (putLittle x many).length := by have := HL.out; omega
      have hc : wr.cell? ⟨b, o + (many - 1 - k), none⟩ = some (.int .u8 ((putLittle x many)[many - 1 - k].toNat : Int)) := by
        rw [HB.out.cell hbl]; exact r _ _ (by simp [kb, bv])
      have hsn : (putLittle x many).reverse.take (k + 1) = (putLittle x many).reverse.take k ++ [(putLittle x many)[many - 1 - k]] := by
        rw [List.take_succ_eq_append_getElem (by rw [List.length_reverse, HL.out]; exact hlt)]
        congr 2
        rw [List.getElem_reverse]
        simp only [HL.out]
      have HS := Lib.hid hsn
      clear hsn r
      generalize (putLittle x many)[many - 1 - k] = z at hc HS
      have hzb : z.toNat < 256 := z.toNat_lt
      clear kb
      go_wp2_with (
        at_builtin
        refine wpList_app8 rfl (.tmp 18) (.tmp 23) rfl w1.heap.size _ k ((putLittle x many).reverse.take k) rfl ?_ _ 1 1 (wr.heap.size + 1) [z] rfl ?_ ?_ ?_ ?_ ?_
        · exact HO.out.alloc _
        · exact row_of_heap (heap_alloc_new' wr _) (Nat.lt_succ_self _)
        · rfl
        · omega
        · exact Nat.le_trans HB.out.size (by simp)
        rintro v' w' hown hgr
        have HO' := Lib.hid hown
        have HB' : Hid (Below w1.heap.size w1 w') := (HB.out.alloc HB.out.size _).grown hgr (Nat.le_trans HB.out.size (by simp)) (fun g hg => (HO.out.lt g hg).1)
        clear hown hgr)
      go_roundw
      case rel => exact ⟨k + 1, by omega, by congr 1; omega, by rw [HS.out]; exact HO', HB'⟩
      case measure => simp [intOf]; omega
    · have t1 : ¬ ((0 : Int) ≤ (many : Int) - 1 - k) := by omega
      go_wp2
      go_ret
      have : k = many := by omega
      subst this
      have hO := HO.out
      rw [List.take_of_length_le (by simp [HL.out]), ← putBig_rev] at hO
      obtain ⟨h0, hO | ⟨g, cap, cur, hv, hg, rr⟩⟩ := hO
      · exact ⟨_, rfl, ⟨h0, .inl hO⟩, HB1.out.step HB.out⟩
      · exact ⟨_, rfl, ⟨h0, .inr ⟨g, cap, cur, hv, Nat.le_trans HB1.out.size hg, rr⟩⟩, HB1.out.step HB.out⟩
theorem refPutBig_neg (x : Nat) (many : Int) (w : World) (hm : many < 0) :
    Calls Try.prog 62 #[.int .u64 (x : Int), .int .i64 many] w fun e w' => e = .returned (.slice none 0 0) ∧ w = w' := by
  go_enter Try.func62, Try.ntmps62
  go_wp2_with fail
  refine (refPutLittle_neg x many w hm).mono ?_
  rintro e w1 ⟨rfl, rfl⟩
  go_wp2_with fail
  refine wp_loop_once ?_
  go_wp2
  go_ret
  exact ⟨rfl, rfl⟩
end Go.Proofs.Ytkgbhlppadpdfaa