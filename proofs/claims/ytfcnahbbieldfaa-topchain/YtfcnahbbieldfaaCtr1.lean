/- Package ctr: crypt, Crypt. -/
import Derived.Test.YtfcnahbbieldfaaCtrM
import Derived.Test.YtfcnahbbieldfaaLaws3
import Derived.Test.YtfcnahbbieldfaaAes10
namespace Go.Proofs.Ytfcnahbbieldfaa
open Go.RowKit
set_option linter.unusedVariables false
set_option maxRecDepth 100000
set_option linter.unusedSimpArgs false
theorem c_own_below {w w' : World} {base : Nat} {e : TypeId} {s : Nat} {v : Value} {n : Nat} {xs : List Value} (h : w.ownsRow base e s v n xs) (hb : Below w.heap.size w w') : w'.ownsRow base e s v n xs := by
  obtain ⟨h0, h | ⟨g, cap, cur, hv, hg, hh, r⟩⟩ := h
  · exact ⟨h0, .inl h⟩
  · exact ⟨h0, .inr ⟨g, cap, cur, hv, hg, (hb.block _ (lt_of_heap hh)).trans hh, r⟩⟩
theorem c_own_ge {w : World} {base : Nat} {e : TypeId} {s : Nat} {v : Value} {n : Nat} {xs : List Value} (h : w.ownsRow base e s v n xs) {B : Nat} (hB : B ≤ base) : ∀ g, v.ownBlock = some g → B ≤ g := fun g hq => Nat.le_trans hB (h.lt g hq).1
theorem c_own_ne {w : World} {base : Nat} {e : TypeId} {s : Nat} {v : Value} {n : Nat} {xs : List Value} (h : w.ownsRow base e s v n xs) {g : Nat} (hB : g < base) : some g ≠ v.ownBlock := fun hq => by have := (h.lt g hq.symm).1; omega
theorem own_mono {w : World} {base b' : Nat} {e : TypeId} {s : Nat} {v : Value} {n : Nat} {xs : List Value} (h : w.ownsRow base e s v n xs) (hb : b' ≤ base) : w.ownsRow b' e s v n xs := by
  obtain ⟨h0, h | ⟨g, cap, cur, hv, hg, r⟩⟩ := h
  · exact ⟨h0, .inl h⟩
  · exact ⟨h0, .inr ⟨g, cap, cur, hv, Nat.le_trans hb hg, r⟩⟩
theorem c_hid_mp {J J' : Act → World → Prop} (h : Hid (J = J')) {a : Act} {w : World} (hh : J' a w) : J a w := by rw [h.out]; exact hh
/-- a label in a scope, behind code of which none jumps, to which its own code jumps back -/
theorem c_scope_label {P : Program} {a : Act} {w : World} {Q : Exit → Act → World → Prop} {ahead rest : Code} (l : Nat) (J : Act → World → Prop) (μ : Act → World → Nat) (hf : findLabel (ahead.seq ((Code.label l).seq rest)) l = some (Code.skip.seq rest)) (h0 : ahead.wp P (fun e a w => e = .normal ∧ J a w) a w)
    (pass : ∀ a w, J a w → rest.wp P (Exit.jump l (fun a' w' => J a' w' ∧ μ a' w' < μ a w) Q) a w) : (Code.scope (ahead.seq ((Code.label l).seq rest))).wp P Q a w := by
  refine wp_scope_jumps l J μ hf (wp_seq (Code.wp_mono ?_ h0)) (fun a w h => wp_seq (wp_skip (pass a w h)))
  rintro e a w ⟨rfl, hJ⟩
  refine wp_seq (wp_label ?_)
  refine Code.wp_mono ?_ (pass a w hJ)
  intro e a w h
  cases e <;> first | exact h | exact ⟨h.1, h.2.1⟩
theorem make_room {P : Program} {t e : TypeId} {z : Value} {bytes : Nat} (ht : P.underlying t = some (.slice e)) (hi : (P.info? e).map (fun i => (i.zero, i.size, i.bytes)) = some (some z, 1, bytes)) (hz : z.cells = #[z])
    (kl kc : IntKind) (n : Nat) (hb : bytes * n ≤ 281474976710656) (h63 : n ≤ 9223372036854775807) (W : World) :
    (Instr.makeSlice t (.int kl 0) (.int kc (n : Int))).run P W = .ok (.slice (some ⟨W.heap.size, 0, none⟩) 0 n) (W.alloc (.cells (List.replicate n z).toArray e)) := by
  obtain ⟨i, hi, h1, h2, h3⟩ := info_parts hi
  have hr := run_make (P := P) W t e i z ht hi h1 kl kc 0 n (by omega) (by omega) (by rw [h3, ← Int.natCast_mul]; omega) (by omega)
  rw [Int.toNat_natCast, h2, Nat.mul_one, madeCells_one z hz] at hr
  exact hr
theorem own_room {w : World} {g n base : Nat} {z : Value} {e : TypeId} (hb : base ≤ g) (hn : n ≤ maxLen) (h : w.heap[g]? = some (.cells (Array.replicate n z) e (0, 0))) : w.ownsRow base e 1 (.slice (some ⟨g, 0, none⟩) 0 n) 0 [] :=
  ⟨rfl, .inr ⟨g, n, _, rfl, hb, h, Nat.zero_le _, hn, by simp, by simp⟩⟩
/-- a block's cells from r on, as a slice -/
theorem sl_from {W : World} {g r : Nat} {x : List UInt8} {t : TypeId} {fr : Nat × Nat} (hx : x.length = 16) (hr : r < 16) (hk : W.heap[g]? = some (.cells (x.map bv).toArray t fr)) : Sl W (some (cutA ⟨g, 0, none⟩ 16 r)) (16 - r) (x.drop r) := by
  have h := sl_cut (sl_row hx (by omega) hk) (k := r) (by omega)
  have e : cutS (some ⟨g, 0, none⟩) 16 r = some (cutA ⟨g, 0, none⟩ 16 r) := by
    unfold cutS cutA; split <;> rfl
  rw [e] at h
  exact h
theorem i16c (l : List UInt8) (h : l.length = 16) : (Try.prog.info? 23).map (·.size) = some (l.map bv).length := by rw [List.length_map, h]; exact i16B
/-- what enciphers, as calls see it -/
def Enc (w : World) (kp : Value) (E : List UInt8 → List UInt8) : Prop :=
  (∀ x, x.length = 16 → (E x).length = 16) ∧ ∀ W, Below w.heap.size w W → ∀ x, x.length = 16 → Calls Try.prog 38 #[kp, .agg (x.map bv).toArray] W fun e w' => e = .returned (.agg ((E x).map bv).toArray) ∧ Below W.heap.size W w'
theorem Enc.ext {w w' : World} {kp : Value} {E : List UInt8 → List UInt8} (h : Enc w kp E) (hb : Below w.heap.size w w') : Enc w' kp E := ⟨h.1, fun W hW x hx => h.2 W (hb.step hW) x hx⟩
theorem KeyAt.enc {w : World} {g n : Nat} {ws : List W32} (h : KeyAt w g ws n) (hn : 1 ≤ n) (hn2 : n ≤ 14) : Enc w (.pointer (some ⟨g, 0, none⟩)) (encL ws n) :=
  ⟨fun x hx => by rw [encL, encT, outL_len, addW_len _ _ _ (shiftW_len _ _) (by have := h.1; omega)], fun W hW x hx => enc_any g n ws x W hx hn hn2 (h.ext hW)⟩
theorem enc_nil (w : World) : Enc w (.pointer none) (fun _ => List.replicate 16 0) :=
  ⟨fun _ _ => by simp, fun W _ x hx => enc_none _ x W hx (fun W' _ => rounds_nil W')⟩
/-- the stream of what enciphers, and an iv -/
def strmF (E : List UInt8 → List UInt8) (iv : List UInt8) : Nat → UInt8 := blkF fun i => E (countL iv i)
theorem c_left {n j m t : Nat} (h : m = n - j ∧ j ≤ n) (h2 : t ≤ m) : Hid (m - t = n - (j + t) ∧ j + t ≤ n) := by
  show _ ∧ _; omega
end Go.Proofs.Ytfcnahbbieldfaa
