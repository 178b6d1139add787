/- The contracts of chacha.stir and chacha.Quarter. -/
import Derived.Test.YtfcnahbbieldfaaSha3
namespace Go.Proofs.Ytfcnahbbieldfaa
open Go.RowKit
set_option maxRecDepth 100000
set_option linter.unusedVariables false
set_option linter.unusedSimpArgs false
/-- a quarter round of four numbers -/
def qA1 (a b c d : W32) : W32 := a + b
def qD1 (a b c d : W32) : W32 := rotl (d ^^^ qA1 a b c d) 16
def qC1 (a b c d : W32) : W32 := c + qD1 a b c d
def qB1 (a b c d : W32) : W32 := rotl (b ^^^ qC1 a b c d) 12
def qA (a b c d : W32) : W32 := qA1 a b c d + qB1 a b c d
def qD (a b c d : W32) : W32 := rotl (qD1 a b c d ^^^ qA a b c d) 8
def qC (a b c d : W32) : W32 := qC1 a b c d + qD a b c d
def qB (a b c d : W32) : W32 := rotl (qB1 a b c d ^^^ qC a b c d) 7

theorem stir_any (x y z r s : W32) (n : Int) (w : World) (hr : r = x + y) (hs : s = rotl (z ^^^ r) n) :
    Calls Try.prog 60 #[.int .u32 (x.toNat : Int), .int .u32 (y.toNat : Int), .int .u32 (z.toNat : Int), .int .i64 n] w fun e w' => e = .returned (.tuple #[.int .u32 (r.toNat : Int), .int .u32 (s.toNat : Int)]) ∧ w = w' := by
  have u1 : ((x.toNat : Int) + (y.toNat : Int)) % 4294967296 = (r.toNat : Int) := by rw [hr]; exact add32 x y
  have u2 := xor32 z r
  have HS := Lib.hid hs
  clear hr hs
  go_enter Try.func60, Try.ntmps60
  go_wp2_with fail
  rw [← BitVec.toNat_xor]
  refine (left_any (z ^^^ r) n _).mono ?_
  rintro e w1 ⟨rfl, rfl⟩
  rw [← HS.out]
  go_wp2
  exact bodyPost_ret (results_tmp2 rfl _ _ _) rfl ⟨rfl, rfl⟩

theorem results_tmp4 {fn : Func} {t u v x : Tmp} (h : fn.results = #[.tmp t, .tmp u, .tmp v, .tmp x]) (tmps : Array Value) (P : Program) (w : World) :
    (results fn tmps).run P w = .ok (.tuple #[tmps.getD t undef, tmps.getD u undef, tmps.getD v undef, tmps.getD x undef]) w := by
  simp [results, h]
theorem quarter_any (a b c d : W32) (w : World) :
    Calls Try.prog 42 #[.int .u32 (a.toNat : Int), .int .u32 (b.toNat : Int), .int .u32 (c.toNat : Int), .int .u32 (d.toNat : Int)] w fun e w' =>
      e = .returned (.tuple #[.int .u32 ((qA a b c d).toNat : Int), .int .u32 ((qB a b c d).toNat : Int), .int .u32 ((qC a b c d).toNat : Int), .int .u32 ((qD a b c d).toNat : Int)]) ∧ w = w' := by
  obtain ⟨a1, h1⟩ : ∃ x, x = qA1 a b c d := ⟨_, rfl⟩
  obtain ⟨d1, h2⟩ : ∃ x, x = qD1 a b c d := ⟨_, rfl⟩
  obtain ⟨c1, h3⟩ : ∃ x, x = qC1 a b c d := ⟨_, rfl⟩
  obtain ⟨b1, h4⟩ : ∃ x, x = qB1 a b c d := ⟨_, rfl⟩
  obtain ⟨a2, h5⟩ : ∃ x, x = qA a b c d := ⟨_, rfl⟩
  obtain ⟨d2, h6⟩ : ∃ x, x = qD a b c d := ⟨_, rfl⟩
  obtain ⟨c2, h7⟩ : ∃ x, x = qC a b c d := ⟨_, rfl⟩
  obtain ⟨b2, h8⟩ : ∃ x, x = qB a b c d := ⟨_, rfl⟩
  have S1 := Lib.hid (stir_any a b d a1 d1 16 w h1 (by rw [h2, h1]; rfl))
  have S2 := Lib.hid (stir_any c d1 b c1 b1 12 w (by rw [h3, h2]; rfl) (by rw [h4, h3]; rfl))
  have S3 := Lib.hid (stir_any a1 b1 d1 a2 d2 8 w (by rw [h5, h1, h4]; rfl) (by rw [h6, h2, h5]; rfl))
  have S4 := Lib.hid (stir_any c1 d2 b1 c2 b2 7 w (by rw [h7, h3, h6]; rfl) (by rw [h8, h4, h7]; rfl))
  rw [← h5, ← h6, ← h7, ← h8]
  clear h1 h2 h3 h4 h5 h6 h7 h8
  go_enter Try.func42, Try.ntmps42
  go_wp2_with fail
  refine S1.out.mono ?_
  rintro e w1 ⟨rfl, rfl⟩
  go_wp2_with fail
  refine S2.out.mono ?_
  rintro e w1 ⟨rfl, rfl⟩
  go_wp2_with fail
  refine S3.out.mono ?_
  rintro e w1 ⟨rfl, rfl⟩
  go_wp2_with fail
  refine S4.out.mono ?_
  rintro e w1 ⟨rfl, rfl⟩
  go_wp2
  exact bodyPost_ret (results_tmp4 rfl _ _ _) rfl ⟨rfl, rfl⟩
end Go.Proofs.Ytfcnahbbieldfaa
