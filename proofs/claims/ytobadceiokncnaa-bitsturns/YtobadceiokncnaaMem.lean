/- Rows of cells in memory: what a slice reads as, cuts of slices and arrays; over any program. -/
import Derived.WalkKit
import Derived.WalkSpells
import Derived.Lib.Hide
import Derived.Laws.CopyOwn
import Derived.Deep.AppendLies
import Derived.Deep.Draws
namespace Go.Proofs.Ytobadceiokncnaa
open Go.RowKit
set_option linter.unusedVariables false

/-- where the elements from l on lie -/
def cutS (A : Option Addr) (c l : Nat) : Option Addr := if c = l then A else A.map (·.add l)
def cutA (a : Addr) (c l : Nat) : Addr := if c = l then a else a.add l

theorem sizeOf_one {P : Program} {e : TypeId} (hs : (P.info? e).map (·.size) = some 1) (W : World) : (sizeOf e).run P W = .ok 1 W := by
  cases h : P.info? e with
  | none => simp [h] at hs
  | some i => simp [h] at hs; simp [sizeOf, typeInfo, h, hs]

section
variable {P : Program} {t e : TypeId} (ht : P.underlying t = some (.slice e)) (hs : (P.info? e).map (·.size) = some 1)
include ht hs
theorem cut_from (A : Option Addr) (n c : Nat) (k : IntKind) (l : Int) (h0 : 0 ≤ l) (h1 : l ≤ n) (W : World) :
    (Instr.sliceAt t (.slice A n c) (some (.int k l)) none none).run P W = .ok (.slice (cutS A c l.toNat) (n - l.toNat) (c - l.toNat)) W := by
  have he : P.elem t = e := by simp [Program.elem, ht]
  rw [run_sliceAt_slice W t _ _ _ _ (by rw [he]; exact ht), run_slice_l W t A n c (by rw [he]; exact ht) k l h0 h1, he, sizeOf_one hs]
  simp [Result.andThen, sliced, cutS]
theorem cut_to (A : Option Addr) (n c : Nat) (k : IntKind) (h : Int) (h0 : 0 ≤ h) (h1 : h ≤ c) (W : World) :
    (Instr.sliceAt t (.slice A n c) none (some (.int k h)) none).run P W = .ok (.slice A h.toNat c) W := by
  have he : P.elem t = e := by simp [Program.elem, ht]
  rw [run_sliceAt_slice W t _ _ _ _ (by rw [he]; exact ht), run_slice_h W t A n c (by rw [he]; exact ht) k h h0 h1, he, sizeOf_one hs]
  simp [Result.andThen, sliced]
  intro _; cases A <;> simp [Addr.add]
theorem cut_mid (A : Option Addr) (n c : Nat) (k k' : IntKind) (l h : Int) (h0 : 0 ≤ l) (h1 : l ≤ h) (h2 : h ≤ c) (W : World) :
    (Instr.sliceAt t (.slice A n c) (some (.int k l)) (some (.int k' h)) none).run P W = .ok (.slice (cutS A c l.toNat) (h.toNat - l.toNat) (c - l.toNat)) W := by
  have he : P.elem t = e := by simp [Program.elem, ht]
  rw [run_sliceAt_slice W t _ _ _ _ (by rw [he]; exact ht), run_slice_lh W t A n c (by rw [he]; exact ht) k k' l h h0 h1 h2, he, sizeOf_one hs]
  simp [Result.andThen, sliced, cutS]
end

section
variable {P : Program} {t e : TypeId} {N : Nat} (ht : P.underlying t = some (.array N e)) (hs : (P.info? e).map (·.size) = some 1)
include ht hs
theorem arr_from (a : Addr) (k : IntKind) (l : Int) (h0 : 0 ≤ l) (h1 : l ≤ N) (W : World) :
    (Instr.sliceAt t (.pointer (some a)) (some (.int k l)) none none).run P W = .ok (.slice (some (cutA a N l.toNat)) (N - l.toNat) (N - l.toNat)) W := by
  have he : P.elem t = e := by simp [Program.elem, ht]
  have hl : P.arrayLen t = N := by simp [Program.arrayLen, ht]
  rw [run_sliceAt_array_l W t a (by rw [he, hl]; exact ht) k l h0 (by rw [hl]; exact h1), he, hl, sizeOf_one hs]
  simp [Result.andThen, slicedAt, cutA]
theorem arr_to (a : Addr) (k : IntKind) (h : Int) (h0 : 0 ≤ h) (h1 : h ≤ N) (W : World) :
    (Instr.sliceAt t (.pointer (some a)) none (some (.int k h)) none).run P W = .ok (.slice (some a) h.toNat N) W := by
  have he : P.elem t = e := by simp [Program.elem, ht]
  have hl : P.arrayLen t = N := by simp [Program.arrayLen, ht]
  rw [run_sliceAt_array_h W t a (by rw [he, hl]; exact ht) k h h0 (by rw [hl]; exact h1), he, hl, sizeOf_one hs]
  simp [Result.andThen, slicedAt, Addr.add]
theorem arr_all (a : Addr) (W : World) :
    (Instr.sliceAt t (.pointer (some a)) none none none).run P W = .ok (.slice (some a) N N) W := by
  have he : P.elem t = e := by simp [Program.elem, ht]
  have hl : P.arrayLen t = N := by simp [Program.arrayLen, ht]
  rw [run_sliceAt_array_all W t a (by rw [he, hl]; exact ht), he, hl, sizeOf_one hs]
  simp [Result.andThen, slicedAt, Addr.add]
theorem arr_mid (a : Addr) (k k' : IntKind) (l h : Int) (h0 : 0 ≤ l) (h1 : l ≤ h) (h2 : h ≤ N) (W : World) :
    (Instr.sliceAt t (.pointer (some a)) (some (.int k l)) (some (.int k' h)) none).run P W = .ok (.slice (some (cutA a N l.toNat)) (h.toNat - l.toNat) (N - l.toNat)) W := by
  have he : P.elem t = e := by simp [Program.elem, ht]
  have hl : P.arrayLen t = N := by simp [Program.arrayLen, ht]
  rw [run_sliceAt_array_lh W t a (by rw [he, hl]; exact ht) k k' l h h0 h1 (by rw [hl]; exact h2), he, hl, sizeOf_one hs]
  simp [Result.andThen, slicedAt, cutA]
end

/-- The cells xs lie from A on, below block B (where there are any). -/
def RowAt (w : World) (B : Nat) (A : Option Addr) (xs : List Value) : Prop :=
  xs = [] ∨ ∃ b o, A = some ⟨b, o, none⟩ ∧ b < B ∧ ∀ j u, xs[j]? = some u → w.cell? ⟨b, o + j, none⟩ = some u

theorem add_none (b o l : Nat) : (⟨b, o, none⟩ : Addr).add l = ⟨b, o + l, none⟩ := by
  unfold Addr.add; split <;> simp_all

section
variable {w w' : World} {B B' : Nat} {A : Option Addr} {xs : List Value}
theorem RowAt.nil : RowAt w B A [] := .inl rfl
theorem RowAt.at_ (h : RowAt w B A xs) (hp : 0 < xs.length) : ∃ b o, A = some ⟨b, o, none⟩ ∧ b < B ∧ ∀ j u, xs[j]? = some u → w.cell? ⟨b, o + j, none⟩ = some u := by
  rcases h with rfl | h
  · simp at hp
  · exact h
theorem RowAt.keep (h : RowAt w B A xs) (hk : ∀ p : Addr, p.block < B → w'.cell? p = w.cell? p) : RowAt w' B A xs := by
  rcases h with h | ⟨b, o, hA, hb, hc⟩
  · exact .inl h
  · exact .inr ⟨b, o, hA, hb, fun j u hu => (hk _ hb).trans (hc j u hu)⟩
theorem RowAt.more (h : RowAt w B A xs) (hB : B ≤ B') : RowAt w B' A xs := by
  rcases h with h | ⟨b, o, hA, hb, hc⟩
  · exact .inl h
  · exact .inr ⟨b, o, hA, by omega, hc⟩
theorem RowAt.below (h : RowAt w B A xs) (hb : Below B w w') : RowAt w' B A xs := h.keep fun _ hp => hb.cell hp
theorem RowAt.cut (h : RowAt w B A xs) {c l : Nat} (hl : l ≤ xs.length) (hc : xs.length ≤ c) : RowAt w B (cutS A c l) (xs.drop l) := by
  by_cases he : l = xs.length
  · exact .inl (by simp [he])
  · rcases h with rfl | ⟨b, o, rfl, hb, hcell⟩
    · simp at hl; simp [hl] at he
    · refine .inr ⟨b, o + l, ?_, hb, fun j u hu => ?_⟩
      · unfold cutS; rw [if_neg (by omega)]; simp [add_none]
      · rw [Nat.add_assoc]; exact hcell _ u (by rw [← hu, List.getElem?_drop])
theorem RowAt.take (h : RowAt w B A xs) (n : Nat) : RowAt w B A (xs.take n) := by
  rcases h with rfl | ⟨b, o, hA, hb, hcell⟩
  · exact .inl (by simp)
  · refine .inr ⟨b, o, hA, hb, fun j u hu => hcell j u ?_⟩
    rw [List.getElem?_take] at hu; split at hu
    · exact hu
    · cases hu
end

/-- bytes as cells -/
def bv (b : UInt8) : Value := .int .u8 (b.toNat : Int)
theorem bv_one (bs : List UInt8) : ∀ v ∈ bs.map bv, v.oneCell' = true := by
  intro v hv
  obtain ⟨b, _, rfl⟩ := List.mem_map.1 hv
  rfl

theorem splice_split {α : Type} (a b c cs : List α) (h : cs.length = b.length) : splice (a ++ b ++ c) a.length cs = a ++ cs ++ c := by
  unfold splice
  rw [h, List.append_assoc, List.take_left', ← List.append_assoc a b c]
  · have : (a ++ b ++ c).drop (a.length + b.length) = c := by
      rw [← List.length_append]; exact List.drop_left' rfl
    rw [this]; simp
  · rfl

/-- copy into a block that is known whole -/
theorem copy_run {P : Program} {dT sT e : TypeId} (hu : P.underlying dT = some (.slice e)) (hs : (P.info? e).map (·.size) = some 1) (ty : TypeId) (W : World) (g off : Nat) (cur : List Value) (t : TypeId)
    (hg : W.heap[g]? = some (.cells cur.toArray t (0, 0))) (dp sp : Option Addr) (dLen dCap sLen sCap : Nat) (B : Nat) (cs : List Value) (hn : cs.length = min sLen dLen)
    (hd : 0 < cs.length → dp = some ⟨g, off, none⟩) (hr : RowAt W B sp cs) (hfit : off + cs.length ≤ cur.length) (h1 : ∀ v ∈ cs, v.oneCell' = true) :
    ∃ W', (Builtin.copy_ #[dT, sT] ty #[.slice dp dLen dCap, .slice sp sLen sCap]).run P W = .ok (.int .i64 (cs.length : Int)) W' ∧
      W'.heap[g]? = some (.cells (splice cur off cs).toArray t (0, 0)) ∧ W'.heap.size = W.heap.size ∧ W.grownBy W' (some g) := by
  by_cases h0 : cs.length = 0
  · obtain rfl : cs = [] := List.eq_nil_of_length_eq_zero h0
    refine ⟨W, run_copy_none (P := P) W dT sT ty e dp sp dLen dCap sLen sCap hu hs (by simpa using hn.symm), by simpa [splice] using hg, rfl, World.grownBy.refl W _⟩
  · obtain rfl := hd (by omega)
    obtain ⟨b, o, rfl, _, hc⟩ := hr.at_ (by omega)
    have hrun := run_copy_row (P := P) W dT sT ty e g off dLen dCap ⟨b, o, none⟩ sLen sCap cur.toArray t cs hu hs hg hn (fun j v hv => by rw [add_none]; exact hc j v hv) (by simpa using hfit) h1
    refine ⟨_, hrun, ?_, by simp [World.setRow], ⟨rfl, rfl, rfl, by simp [World.setRow], fun k _ hk => setRow_other W g k _ (fun h => hk (by rw [h]))⟩⟩
    simpa [splice] using setRow_heap W g _ _ t _ hg
theorem cell_of_heap {w : World} {g : Nat} {cs : List Value} {t : TypeId} {fr : Nat × Nat} (h : w.heap[g]? = some (.cells cs.toArray t fr)) (i : Nat) : w.cell? ⟨g, i, none⟩ = cs[i]? := by
  simp [World.cell?, h]
theorem heap_alloc_new' (w : World) (o : Obj) : (w.alloc o).heap[w.heap.size]? = some o := heap_alloc_new w o
theorem grown_below {W W' : World} {g B : Nat} (h : W.grownBy W' (some g)) (hB : B ≤ g) (hs : B ≤ W.heap.size) : Below B W W' :=
  ⟨h.os, h.tape, h.output, h.size, fun k hk => h.block k (by omega) (by simp; omega)⟩

theorem madeCells_one (z : Value) (hz : z.cells = #[z]) (n : Nat) : madeCells z.cells n = (List.replicate n z).toArray := by
  unfold madeCells
  apply Array.ext
  · simp
  · intro i h1 h2
    simp [hz, Nat.mod_one]
theorem make_run {P : Program} {t e : TypeId} {z : Value} {bytes : Nat} (ht : P.underlying t = some (.slice e)) (hi : (P.info? e).map (fun i => (i.zero, i.size, i.bytes)) = some (some z, 1, bytes)) (hz : z.cells = #[z])
    (kl kc : IntKind) (n : Nat) (hb : bytes * n ≤ 281474976710656) (h63 : n ≤ 9223372036854775807) (W : World) :
    (Instr.makeSlice t (.int kl (n : Int)) (.int kc (n : Int))).run P W = .ok (.slice (some ⟨W.heap.size, 0, none⟩) n n) (W.alloc (.cells (List.replicate n z).toArray e)) := by
  obtain ⟨i, hi, h1, h2, h3⟩ := info_parts hi
  have hr := run_make (P := P) W t e i z ht hi h1 kl kc n n (by omega) (by omega) (by rw [h3, ← Int.natCast_mul]; omega) (by omega)
  rw [Int.toNat_natCast, h2, Nat.mul_one, madeCells_one z hz] at hr
  exact hr
theorem heap_set {w : World} {g : Nat} {cs : List Value} {t : TypeId} (h : w.heap[g]? = some (.cells cs.toArray t (0, 0))) (i : Nat) (u : Value) :
    (w.setCell ⟨g, i, none⟩ u).heap[g]? = some (.cells (cs.set i u).toArray t (0, 0)) := by
  simp [World.setCell, Array.getElem?_modify, h]
theorem set_mid {α : Type} (a : List α) (z : α) (m : Nat) (v : α) (i : Nat) (hi : a.length = i) : (a ++ List.replicate (m + 1) z).set i v = (a ++ [v]) ++ List.replicate m z := by
  subst hi
  rw [List.set_append_right _ _ (Nat.le_refl _)]
  simp [List.replicate_succ]
theorem frozen_of_heap {w : World} {g : Nat} {cs : List Value} {t : TypeId} (h : w.heap[g]? = some (.cells cs.toArray t (0, 0))) (i : Nat) : w.frozen? ⟨g, i, none⟩ = false := by
  simp [World.frozen?, h]
theorem lt_of_heap {w : World} {g : Nat} {o : Obj} (h : w.heap[g]? = some o) : g < w.heap.size := (Array.getElem?_eq_some_iff.1 h).1
end Go.Proofs.Ytobadceiokncnaa
