/- Contracts of the document's own answers for layer 1: Little, Big, PutLittle, PutBig. -/
import Derived.Test.YteboeeijgpghoaaBits3
import Derived.Test.YteboeeijgpghoaaReg
namespace Go.Proofs.Yteboeeijgpghoaa
open Go.RowKit
set_option linter.unusedVariables false
set_option linter.unusedSimpArgs false

theorem ref_step (U N x : Nat) (hU : U * x < 18446744073709551616) (hN : N + U * x < 18446744073709551616) :
    ∃ V M U' : Nat, IntKind.u64.wrap ((U : Int) * (x : Int)) = (V : Int) ∧ IntKind.u64.wrap ((N : Int) + (V : Int)) = (M : Int) ∧ IntKind.u64.wrap ((U : Int) * 256) = (U' : Int) ∧ M = N + U * x ∧ U' = U * 256 % 18446744073709551616 := by
  refine ⟨U * x, N + U * x, U * 256 % 18446744073709551616, ?_, ?_, ?_, rfl, rfl⟩
  · rw [IntKind.wrap_u64, ← Int.natCast_mul]; omega
  · rw [IntKind.wrap_u64]; omega
  · rw [IntKind.wrap_u64]; omega
theorem pow_lt8 (k : Nat) (hk : k < 8) : 256 ^ (k + 1) ≤ 18446744073709551616 := by
  have h : (256 : Nat) ^ 8 = 18446744073709551616 := by decide
  rw [← h]; exact Nat.pow_le_pow_right (by decide) (by omega)
theorem unit_step (k : Nat) (hk : k < 8) : 256 ^ k % 18446744073709551616 = 256 ^ k := by
  have := pow_lt8 k hk
  rw [Nat.pow_succ] at this
  have hp : 0 < 256 ^ k := Nat.pow_pos (by decide)
  exact Nat.mod_eq_of_lt (by omega)

theorem refLittle_any (A : Option Addr) (n c : Nat) (bs : List UInt8) (w : World) (hl : bs.length = n) (h : Sl w A c bs) :
    Calls Try.prog 22 #[.slice A n c] w fun e w' => e = .returned (.int .u64 (littleN (bs.take 8) : Int)) ∧ w = w' := by
  have hn : n ≤ 9223372036854775807 := by have h1 := h.1; have h2 := h.2.1; simp only [maxLen] at h2; omega
  have HL := Lib.hid hl
  have H := Lib.hid h
  clear hl h
  go_enter Try.func22, Try.ntmps22
  go_wp2_with fail
  go_loop [3, 4, 5] (fun nv uv iv => ∃ k : Nat, k ≤ n ∧ k ≤ 8 ∧ iv = .int .i64 k ∧ nv = .int .u64 (littleN (bs.take k)) ∧ uv = .int .u64 ((256 ^ k % 18446744073709551616 : Nat) : Int)) (fun _ _ i => n - (intOf i).toNat)
  case atStart => exact ⟨0, by omega, by omega, rfl, rfl, rfl⟩
  case round =>
    obtain ⟨k, hk, hk8, rfl, rfl, rfl⟩ := hrel
    by_cases hlt : k < n
    · by_cases hlt8 : k < 8
      · obtain ⟨b, o, rfl, _, r⟩ := H.out.2.2.at_ (by have := HL.out; simp; omega)
        have kb : k < bs.length := by have := HL.out; omega
        have hc : w.cell? ⟨b, o + k, none⟩ = some (.int .u8 (bs[k].toNat : Int)) := r k _ (by simp [kb, bv])
        have hs := littleN_snoc (bs.take k) bs[k]
        rw [← List.take_succ_eq_append_getElem kb, List.length_take, Nat.min_eq_left (by omega)] at hs
        have hb : bs[k].toNat < 256 := bs[k].toNat_lt
        have hN := littleN_lt (bs.take k)
        rw [List.length_take, Nat.min_eq_left (by omega)] at hN
        have hp := pow_lt8 k hlt8
        have hU : 256 ^ k * bs[k].toNat < 18446744073709551616 := by
          rw [Nat.pow_succ] at hp
          exact Nat.lt_of_lt_of_le (Nat.mul_lt_mul_of_pos_left hb (Nat.pow_pos (by decide))) hp
        have hM : littleN (bs.take k) + 256 ^ k * bs[k].toNat < 18446744073709551616 := by
          rw [← hs]
          have h1 := littleN_lt (bs.take (k + 1))
          rw [List.length_take, Nat.min_eq_left (by omega)] at h1
          omega
        have hu := unit_step k hlt8
        rw [hu]
        obtain ⟨V, M, U', e1, e2, e3, hMM, hUU⟩ := ref_step (256 ^ k) (littleN (bs.take k)) bs[k].toNat hU hM
        have HM : Hid (littleN (bs.take (k + 1)) = M) := by rw [hMM]; exact hs
        have HU : Hid (256 ^ (k + 1) % 18446744073709551616 = U') := by rw [hUU, Nat.pow_succ]; rfl
        clear hM hU hp hN hs hu r hMM hUU
        generalize bs[k] = x at hc e1 hb
        clear kb
        generalize 256 ^ k = U at e1 e3 ⊢
        generalize littleN (bs.take k) = N at e2 ⊢
        go_wp2
        go_round
        case rel => exact ⟨k + 1, by omega, by omega, by go_num, by rw [HM.out], by rw [HU.out]⟩
        case measure => simp [intOf]; omega
      · have hk8' : k = 8 := by omega
        have HK : Hid (bs.take k = bs.take 8) := by rw [hk8']; rfl
        clear hk8'
        have h2 : ¬ ((k : Int) < 8) := by omega
        go_wp2
        go_ret
        exact ⟨ret_int (by rw [HK.out]), rfl⟩
    · have HK : Hid (bs.take k = bs.take 8) := by
        have := HL.out
        have e1 : bs.take k = bs := List.take_of_length_le (by omega)
        have e2 : bs.take 8 = bs := List.take_of_length_le (by omega)
        show _ = _; rw [e1, e2]
      go_wp2
      go_ret
      exact ⟨ret_int (by rw [HK.out]), rfl⟩

theorem bigN_cons (x : UInt8) (l : List UInt8) : bigN (x :: l) = x.toNat * 256 ^ l.length + bigN l := by
  have := bigN_append [x] l
  simpa [bigN] using this
/-- the last j bytes -/
def lastL (bs : List UInt8) (j : Nat) : List UInt8 := bs.drop (bs.length - j)
theorem lastL_succ (bs : List UInt8) (j : Nat) (h : j < bs.length) : lastL bs (j + 1) = bs[bs.length - 1 - j] :: lastL bs j := by
  unfold lastL
  rw [List.drop_eq_getElem_cons (by omega)]
  simp only [show bs.length - (j + 1) + 1 = bs.length - j by omega, show bs.length - (j + 1) = bs.length - 1 - j by omega]
  rw [show bs.length - 1 - j + 1 = bs.length - j by omega]
theorem lastL_len (bs : List UInt8) (j : Nat) (h : j ≤ bs.length) : (lastL bs j).length = j := by simp [lastL]; omega

theorem refPutLittle_any (x many : Nat) (w : World) (hx : x < 18446744073709551616) (hm : many ≤ 2147483647) :
    Calls Try.prog 21 #[.int .u64 (x : Int), .int .i64 (many : Int)] w fun e w' => ∃ v, e = .returned v ∧ w'.ownsRow w.heap.size 5 1 v many ((putLittle x many).map bv) ∧ Below w.heap.size w w' := by
  have HX := Lib.hid hx
  clear hx
  go_enter Try.func21, Try.ntmps21
  go_wp2_with fail
  go_loopw [0, 5, 6] (fun xv ov iv wr => ∃ (k : Nat), k ≤ many ∧ iv = .int .i64 k ∧ xv = .int .u64 ((x / 256 ^ k : Nat) : Int) ∧ Hid (wr.ownsRow w.heap.size 5 1 ov k ((putLittle x k).map bv)) ∧ Hid (Below w.heap.size w wr)) (fun _ _ i _ => many - (intOf i).toNat)
  case atStart => exact ⟨0, by omega, rfl, by simp, World.ownsRow_nil w _ _ _, Below.refl _ _⟩
  case round =>
    obtain ⟨k, hk, rfl, rfl, HO, HB⟩ := hrel
    by_cases hlt : k < many
    · have hz : ((x / 256 ^ k : Nat) : Int) % 256 = ((byteAt x k).toNat : Int) := by rw [byteAt, UInt8.toNat_ofNat']; omega
      have hy0 : x / 256 ^ k < 18446744073709551616 := Nat.lt_of_le_of_lt (Nat.div_le_self _ _) HX.out
      have HP : Hid (IntKind.u64.wrap (((x / 256 ^ k : Nat) : Int) / 256) = ((x / 256 ^ (k + 1) : Nat) : Int)) := by
        show _ = _
        rw [Nat.pow_succ, ← Nat.div_div_eq_div_mul, IntKind.wrap_u64]
        generalize x / 256 ^ k = y at hy0 ⊢
        omega
      clear hy0
      have hpl : putLittle x (k + 1) = putLittle x k ++ [byteAt x k] := by simp [putLittle, List.range_succ]
      have HPL := Lib.hid hpl
      clear hpl
      have hy : x / 256 ^ k < 18446744073709551616 := Nat.lt_of_le_of_lt (Nat.div_le_self _ _) HX.out
      generalize byteAt x k = z at hz HPL
      generalize x / 256 ^ k = y at hz HP hy ⊢
      have hzb : z.toNat < 256 := z.toNat_lt
      have HY := Lib.hid hy
      clear hy
      go_wp2_with (
        at_builtin
        refine wpList_app8 rfl (.tmp 12) (.tmp 16) rfl w.heap.size _ k (putLittle x k) rfl ?_ _ 1 1 (wr.heap.size + 1) [z] rfl ?_ ?_ ?_ ?_ ?_
        · exact HO.out.alloc _
        · exact row_of_heap (heap_alloc_new' wr _) (Nat.lt_succ_self _)
        · rfl
        · omega
        · exact Nat.le_trans HB.out.size (by simp)
        rintro v' w' hown hgr
        have HO' := Lib.hid hown
        have HB' : Hid (Below w.heap.size w w') := (HB.out.alloc HB.out.size _).grown hgr (Nat.le_trans HB.out.size (by simp)) (fun g hg => (HO.out.lt g hg).1)
        clear hown hgr)
      go_roundw
      case rel => exact ⟨k + 1, by omega, by go_num, by rw [HP.out], by rw [HPL.out]; exact HO', HB'⟩
      case measure => simp [intOf]; omega
    · go_wp2
      go_ret
      have : k = many := by omega
      subst this
      exact ⟨_, rfl, HO.out, HB.out⟩

theorem refPutLittle_neg (x : Nat) (many : Int) (w : World) (hm : many < 0) :
    Calls Try.prog 21 #[.int .u64 (x : Int), .int .i64 many] w fun e w' => e = .returned (.slice none 0 0) ∧ w = w' := by
  have hl : ¬ (0 < many) := by omega
  go_enter Try.func21, Try.ntmps21
  go_wp2_with fail
  refine wp_loop_once ?_
  go_wp2
  go_ret
  exact ⟨rfl, rfl⟩

theorem lastPut (x many j : Nat) (h : j < many) : putBig x many = (putLittle x many).reverse := putBig_rev x many

end Go.Proofs.Yteboeeijgpghoaa