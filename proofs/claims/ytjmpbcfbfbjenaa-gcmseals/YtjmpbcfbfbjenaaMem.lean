/- Rows of cells in memory: what a slice reads as, cuts of slices and arrays; over any program. -/
import Derived.WalkKit
import Derived.WalkSpells
import Derived.Lib.Hide
import Derived.Laws.CopyOwn
import Derived.Deep.AppendLies
import Derived.Deep.Draws
namespace Go.Proofs.Ytjmpbcfbfbjenaa
open Go.RowKit
set_option maxRecDepth 100000
set_option linter.unusedVariables false
set_option linter.unusedSimpArgs false

/-- where the elements from l on lie -/
def cutS (A : Option Addr) (c l : Nat) : Option Addr := if c = l then A else A.map (·.add l)
def cutA (a : Addr) (c l : Nat) : Addr := if c = l then a else a.add l

theorem sizeOf_one {P : Program} {e : TypeId} (hs : (P.info? e).map (·.size) = some 1) (W : World) : (sizeOf e).run P W = .ok 1 W := by
  cases h : P.info? e with
  | none => simp [h] at hs
  | some i => simp [h] at hs; simp [sizeOf, typeInfo, h, hs]

section
variable {P : Program} {t e : TypeId} (ht : P.underlying t = some (.slice e)) (hs : (P.info? e).map (·.size) = some 1)
include ht hs
theorem cut_from (A : Option Addr) (n c : Nat) (k : IntKind) (l : Int) (h0 : 0 ≤ l) (h1 : l ≤ n) (W : World) :
    (Instr.sliceAt t (.slice A n c) (some (.int k l)) none none).run P W = .ok (.slice (cutS A c l.toNat) (n - l.toNat) (c - l.toNat)) W := by
  have he : P.elem t = e := by simp [Program.elem, ht]
  rw [run_sliceAt_slice W t _ _ _ _ (by rw [he]; exact ht), run_slice_l W t A n c (by rw [he]; exact ht) k l h0 h1, he, sizeOf_one hs]
  simp [Result.andThen, sliced, cutS]
theorem cut_to (A : Option Addr) (n c : Nat) (k : IntKind) (h : Int) (h0 : 0 ≤ h) (h1 : h ≤ c) (W : World) :
    (Instr.sliceAt t (.slice A n c) none (some (.int k h)) none).run P W = .ok (.slice A h.toNat c) W := by
  have he : P.elem t = e := by simp [Program.elem, ht]
  rw [run_sliceAt_slice W t _ _ _ _ (by rw [he]; exact ht), run_slice_h W t A n c (by rw [he]; exact ht) k h h0 h1, he, sizeOf_one hs]
  simp [Result.andThen, sliced]
  intro _; cases A <;> simp [Addr.add]
theorem cut_mid (A : Option Addr) (n c : Nat) (k k' : IntKind) (l h : Int) (h0 : 0 ≤ l) (h1 : l ≤ h) (h2 : h ≤ c) (W : World) :
    (Instr.sliceAt t (.slice A n c) (some (.int k l)) (some (.int k' h)) none).run P W = .ok (.slice (cutS A c l.toNat) (h.toNat - l.toNat) (c - l.toNat)) W := by
  have he : P.elem t = e := by simp [Program.elem, ht]
  rw [run_sliceAt_slice W t _ _ _ _ (by rw [he]; exact ht), run_slice_lh W t A n c (by rw [he]; exact ht) k k' l h h0 h1 h2, he, sizeOf_one hs]
  simp [Result.andThen, sliced, cutS]
end

section
variable {P : Program} {t e : TypeId} {N : Nat} (ht : P.underlying t = some (.array N e)) (hs : (P.info? e).map (·.size) = some 1)
include ht hs
theorem arr_from (a : Addr) (k : IntKind) (l : Int) (h0 : 0 ≤ l) (h1 : l ≤ N) (W : World) :
    (Instr.sliceAt t (.pointer (some a)) (some (.int k l)) none none).run P W = .ok (.slice (some (cutA a N l.toNat)) (N - l.toNat) (N - l.toNat)) W := by
  have he : P.elem t = e := by simp [Program.elem, ht]
  have hl : P.arrayLen t = N := by simp [Program.arrayLen, ht]
  rw [run_sliceAt_array_l W t a (by rw [he, hl]; exact ht) k l h0 (by rw [hl]; exact h1), he, hl, sizeOf_one hs]
  simp [Result.andThen, slicedAt, cutA]
theorem arr_to (a : Addr) (k : IntKind) (h : Int) (h0 : 0 ≤ h) (h1 : h ≤ N) (W : World) :
    (Instr.sliceAt t (.pointer (some a)) none (some (.int k h)) none).run P W = .ok (.slice (some a) h.toNat N) W := by
  have he : P.elem t = e := by simp [Program.elem, ht]
  have hl : P.arrayLen t = N := by simp [Program.arrayLen, ht]
  rw [run_sliceAt_array_h W t a (by rw [he, hl]; exact ht) k h h0 (by rw [hl]; exact h1), he, hl, sizeOf_one hs]
  simp [Result.andThen, slicedAt, Addr.add]
theorem arr_all (a : Addr) (W : World) :
    (Instr.sliceAt t (.pointer (some a)) none none none).run P W = .ok (.slice (some a) N N) W := by
  have he : P.elem t = e := by simp [Program.elem, ht]
  have hl : P.arrayLen t = N := by simp [Program.arrayLen, ht]
  rw [run_sliceAt_array_all W t a (by rw [he, hl]; exact ht), he, hl, sizeOf_one hs]
  simp [Result.andThen, slicedAt, Addr.add]
theorem arr_mid (a : Addr) (k k' : IntKind) (l h : Int) (h0 : 0 ≤ l) (h1 : l ≤ h) (h2 : h ≤ N) (W : World) :
    (Instr.sliceAt t (.pointer (some a)) (some (.int k l)) (some (.int k' h)) none).run P W = .ok (.slice (some (cutA a N l.toNat)) (h.toNat - l.toNat) (N - l.toNat)) W := by
  have he : P.elem t = e := by simp [Program.elem, ht]
  have hl : P.arrayLen t = N := by simp [Program.arrayLen, ht]
  rw [run_sliceAt_array_lh W t a (by rw [he, hl]; exact ht) k k' l h h0 h1 (by rw [hl]; exact h2), he, hl, sizeOf_one hs]
  simp [Result.andThen, slicedAt, cutA]
end

/-- The cells xs lie from A on, below block B (where there are any). -/
def RowAt (w : World) (B : Nat) (A : Option Addr) (xs : List Value) : Prop :=
  xs = [] ∨ ∃ b o, A = some ⟨b, o, none⟩ ∧ b < B ∧ ∀ j u, xs[j]? = some u → w.cell? ⟨b, o + j, none⟩ = some u

theorem add_none (b o l : Nat) : (⟨b, o, none⟩ : Addr).add l = ⟨b, o + l, none⟩ := by
  unfold Addr.add; split <;> simp_all

section
variable {w w' : World} {B B' : Nat} {A : Option Addr} {xs : List Value}
theorem RowAt.nil : RowAt w B A [] := .inl rfl
theorem RowAt.at_ (h : RowAt w B A xs) (hp : 0 < xs.length) : ∃ b o, A = some ⟨b, o, none⟩ ∧ b < B ∧ ∀ j u, xs[j]? = some u → w.cell? ⟨b, o + j, none⟩ = some u := by
  rcases h with rfl | h
  · simp at hp
  · exact h
theorem RowAt.keep (h : RowAt w B A xs) (hk : ∀ p : Addr, p.block < B → w'.cell? p = w.cell? p) : RowAt w' B A xs := by
  rcases h with h | ⟨b, o, hA, hb, hc⟩
  · exact .inl h
  · exact .inr ⟨b, o, hA, hb, fun j u hu => (hk _ hb).trans (hc j u hu)⟩
theorem RowAt.more (h : RowAt w B A xs) (hB : B ≤ B') : RowAt w B' A xs := by
  rcases h with h | ⟨b, o, hA, hb, hc⟩
  · exact .inl h
  · exact .inr ⟨b, o, hA, by omega, hc⟩
theorem RowAt.below (h : RowAt w B A xs) (hb : Below B w w') : RowAt w' B A xs := h.keep fun _ hp => hb.cell hp
theorem RowAt.cut (h : RowAt w B A xs) {c l : Nat} (hl : l ≤ xs.length) (hc : xs.length ≤ c) : RowAt w B (cutS A c l) (xs.drop l) := by
  by_cases he : l = xs.length
  · exact .inl (by simp [he])
  · rcases h with rfl | ⟨b, o, rfl, hb, hcell⟩
    · simp at hl; simp [hl] at he
    · refine .inr ⟨b, o + l, ?_, hb, fun j u hu => ?_⟩
      · unfold cutS; rw [if_neg (by omega)]; simp [add_none]
      · rw [Nat.add_assoc]; exact hcell _ u (by rw [← hu, List.getElem?_drop])
theorem RowAt.take (h : RowAt w B A xs) (n : Nat) : RowAt w B A (xs.take n) := by
  rcases h with rfl | ⟨b, o, hA, hb, hcell⟩
  · exact .inl (by simp)
  · refine .inr ⟨b, o, hA, hb, fun j u hu => hcell j u ?_⟩
    rw [List.getElem?_take] at hu; split at hu
    · exact hu
    · cases hu
end

/-- bytes as cells -/
def bv (b : UInt8) : Value := .int .u8 (b.toNat : Int)
theorem bv_one (bs : List UInt8) : ∀ v ∈ bs.map bv, v.oneCell' = true := by
  intro v hv
  obtain ⟨b, _, rfl⟩ := List.mem_map.1 hv
  rfl

theorem splice_split {α : Type} (a b c cs : List α) (h : cs.length = b.length) : splice (a ++ b ++ c) a.length cs = a ++ cs ++ c := by
  unfold splice
  rw [h, List.append_assoc, List.take_left', ← List.append_assoc a b c]
  · have : (a ++ b ++ c).drop (a.length + b.length) = c := by
      rw [← List.length_append]; exact List.drop_left' rfl
    rw [this]; simp
  · rfl

/-- copy into a block that is known whole -/
theorem copy_run {P : Program} {dT sT e : TypeId} (hu : P.underlying dT = some (.slice e)) (hs : (P.info? e).map (·.size) = some 1) (ty : TypeId) (W : World) (g off : Nat) (cur : List Value) (t : TypeId)
    (hg : W.heap[g]? = some (.cells cur.toArray t (0, 0))) (dp sp : Option Addr) (dLen dCap sLen sCap : Nat) (B : Nat) (cs : List Value) (hn : cs.length = min sLen dLen)
    (hd : 0 < cs.length → dp = some ⟨g, off, none⟩) (hr : RowAt W B sp cs) (hfit : off + cs.length ≤ cur.length) (h1 : ∀ v ∈ cs, v.oneCell' = true) :
    ∃ W', (Builtin.copy_ #[dT, sT] ty #[.slice dp dLen dCap, .slice sp sLen sCap]).run P W = .ok (.int .i64 (cs.length : Int)) W' ∧
      W'.heap[g]? = some (.cells (splice cur off cs).toArray t (0, 0)) ∧ W'.heap.size = W.heap.size ∧ W.grownBy W' (some g) := by
  by_cases h0 : cs.length = 0
  · obtain rfl : cs = [] := List.eq_nil_of_length_eq_zero h0
    refine ⟨W, run_copy_none (P := P) W dT sT ty e dp sp dLen dCap sLen sCap hu hs (by simpa using hn.symm), by simpa [splice] using hg, rfl, World.grownBy.refl W _⟩
  · obtain rfl := hd (by omega)
    obtain ⟨b, o, rfl, _, hc⟩ := hr.at_ (by omega)
    have hrun := run_copy_row (P := P) W dT sT ty e g off dLen dCap ⟨b, o, none⟩ sLen sCap cur.toArray t cs hu hs hg hn (fun j v hv => by rw [add_none]; exact hc j v hv) (by simpa using hfit) h1
    refine ⟨_, hrun, ?_, by simp [World.setRow], ⟨rfl, rfl, rfl, by simp [World.setRow], fun k _ hk => setRow_other W g k _ (fun h => hk (by rw [h]))⟩⟩
    simpa [splice] using setRow_heap W g _ _ t _ hg
theorem cell_of_heap {w : World} {g : Nat} {cs : List Value} {t : TypeId} {fr : Nat × Nat} (h : w.heap[g]? = some (.cells cs.toArray t fr)) (i : Nat) : w.cell? ⟨g, i, none⟩ = cs[i]? := by
  simp [World.cell?, h]
theorem heap_alloc_new' (w : World) (o : Obj) : (w.alloc o).heap[w.heap.size]? = some o := heap_alloc_new w o
theorem grown_below {W W' : World} {g B : Nat} (h : W.grownBy W' (some g)) (hB : B ≤ g) (hs : B ≤ W.heap.size) : Below B W W' :=
  ⟨h.os, h.tape, h.output, h.size, fun k hk => h.block k (by omega) (by simp; omega)⟩

theorem madeCells_one (z : Value) (hz : z.cells = #[z]) (n : Nat) : madeCells z.cells n = (List.replicate n z).toArray := by
  unfold madeCells
  apply Array.ext
  · simp
  · intro i h1 h2
    simp [hz, Nat.mod_one]
theorem make_run {P : Program} {t e : TypeId} {z : Value} {bytes : Nat} (ht : P.underlying t = some (.slice e)) (hi : (P.info? e).map (fun i => (i.zero, i.size, i.bytes)) = some (some z, 1, bytes)) (hz : z.cells = #[z])
    (kl kc : IntKind) (n : Nat) (hb : bytes * n ≤ 281474976710656) (h63 : n ≤ 9223372036854775807) (W : World) :
    (Instr.makeSlice t (.int kl (n : Int)) (.int kc (n : Int))).run P W = .ok (.slice (some ⟨W.heap.size, 0, none⟩) n n) (W.alloc (.cells (List.replicate n z).toArray e)) := by
  obtain ⟨i, hi, h1, h2, h3⟩ := info_parts hi
  have hr := run_make (P := P) W t e i z ht hi h1 kl kc n n (by omega) (by omega) (by rw [h3, ← Int.natCast_mul]; omega) (by omega)
  rw [Int.toNat_natCast, h2, Nat.mul_one, madeCells_one z hz] at hr
  exact hr
theorem heap_set {w : World} {g : Nat} {cs : List Value} {t : TypeId} (h : w.heap[g]? = some (.cells cs.toArray t (0, 0))) (i : Nat) (u : Value) :
    (w.setCell ⟨g, i, none⟩ u).heap[g]? = some (.cells (cs.set i u).toArray t (0, 0)) := by
  simp [World.setCell, Array.getElem?_modify, h]
theorem set_mid {α : Type} (a : List α) (z : α) (m : Nat) (v : α) (i : Nat) (hi : a.length = i) : (a ++ List.replicate (m + 1) z).set i v = (a ++ [v]) ++ List.replicate m z := by
  subst hi
  rw [List.set_append_right _ _ (Nat.le_refl _)]
  simp [List.replicate_succ]
theorem frozen_of_heap {w : World} {g : Nat} {cs : List Value} {t : TypeId} (h : w.heap[g]? = some (.cells cs.toArray t (0, 0))) (i : Nat) : w.frozen? ⟨g, i, none⟩ = false := by
  simp [World.frozen?, h]
theorem lt_of_heap {w : World} {g : Nat} {o : Obj} (h : w.heap[g]? = some o) : g < w.heap.size := (Array.getElem?_eq_some_iff.1 h).1

theorem _root_.Go.RowKit.Below.step {w w1 w2 : World} (h : Below w.heap.size w w1) (k : Below w1.heap.size w1 w2) : Below w.heap.size w w2 := h.trans (k.mono h.size)

theorem zeroCells_one (z : Value) (hz : z.cells = #[z]) (n : Nat) : Builtin.zeroCells z.cells n = (List.replicate n z).toArray := by
  unfold Builtin.zeroCells
  apply Array.ext
  · simp [hz]
  · intro i h1 h2
    simp [hz, Nat.mod_one]
/-- append(s, make([]T, k)...) onto a row of one's own -/
theorem append_zeros {P : Program} (w : World) (base : Nat) {t it : TypeId} (ty : TypeId) {e : TypeId} {z : Value} {bytes : Nat} (ht : P.underlying t = some (.slice e)) (hit : P.underlying it = some (.int .i64))
    (hi : (P.info? e).map (fun i => (i.zero, i.size, i.bytes)) = some (some z, 1, bytes)) (hz : z.cells = #[z]) (h1 : z.oneCell' = true)
    (v : Value) (n : Nat) (xs : List Value) (hown : w.ownsRow base e 1 v n xs) (k : Nat) (hk : (n + k) * bytes ≤ 140737488355328) (h31 : n + k ≤ 2147483647) (hbase : base ≤ w.heap.size) :
    ∃ v' w', (Builtin.append_ #[t, it] ty #[v, .int .i64 (k : Int)]).run P w = .ok v' w' ∧ w'.ownsRow base e 1 v' (n + k) (xs ++ List.replicate k z) ∧ w.grownBy w' v.ownBlock := by
  obtain ⟨i, hi', hz0, hs, hb⟩ := info_parts hi
  subst hb
  clear hi
  have hw : IntKind.i64.wrap (k : Int) = (k : Int) := IntWalk.i64_in _ (by omega)
  have hlen : (xs ++ List.replicate k z).length = (n + k) * 1 := by rw [List.length_append, hown.1, List.length_replicate, Nat.add_mul]; omega
  have hkn : ¬ ((k : Int) < 0) := by omega
  have hkb : ¬ (281474976710656 < (k : Int) * (i.bytes : Int)) := by
    have : k * i.bytes ≤ (n + k) * i.bytes := Nat.mul_le_mul_right _ (by omega)
    rw [← Int.natCast_mul]; omega
  have h63' : ¬ (9223372036854775807 < ((n : Int) + (k : Int))) := by omega
  have hgrow : ∀ (old : Nat) (xs' : List Value), xs' = xs → old < n + k → ∀ (row : Option Nat),
      (w.drew.alloc (.cells (xs'.toArray ++ (List.replicate k z).toArray ++ Builtin.zeroCells z.cells (grownCap w (n + k) old e - (n + k))) e)).ownsRow base e 1
        (.slice (some ⟨w.heap.size, 0, none⟩) (n + k) (grownCap w (n + k) old e)) (n + k) (xs ++ List.replicate k z) ∧
      w.grownBy (w.drew.alloc (.cells (xs'.toArray ++ (List.replicate k z).toArray ++ Builtin.zeroCells z.cells (grownCap w (n + k) old e - (n + k))) e)) row := by
    rintro old _ rfl ho row
    have hge := grownCap_ge w (n + k) old e
    have hcm : grownCap w (n + k) old e ≤ maxLen := grownCap_le_maxLen w (n + k) old e (by simp [maxLen]; omega)
    refine ⟨⟨hlen, .inr ⟨w.heap.size, _, _, rfl, hbase, heap_alloc_new w.drew _, hge, hcm, ?_, ?_⟩⟩, ⟨rfl, rfl, rfl, by simp, fun k hk _ => Below.heap_alloc w.drew _ k hk⟩⟩
    · simp only [Array.size_append, List.size_toArray, size_zeroCells, hz, hown.1, List.length_replicate]
      simp; omega
    · simp only [Array.toList_append, List.append_assoc]
      rw [← List.append_assoc, ← hlen]
      exact List.take_left
  rcases hown.2 with ⟨rfl, rfl⟩ | ⟨g, cap, cur, rfl, hbg, hg, hnc, hcm, hcs, htake⟩
  · have hx : xs = [] := List.eq_nil_of_length_eq_zero (by simpa using hown.1)
    subst hx
    by_cases hk0 : k = 0
    · subst hk0
      refine ⟨.slice none 0 0, w, ?_, World.ownsRow_nil w base e 1, World.grownBy.refl w _⟩
      have hw0 : IntKind.i64.wrap 0 = 0 := IntWalk.i64_in _ (by omega)
      simp [Builtin.append_, run_underlying ht, run_underlying hit, sizeOf, typeInfo, hi', hs, asInt, asIntOf, hw0]
    · have hgr := hgrow 0 [] rfl (by omega) (Value.ownBlock (.slice none 0 0))
      refine ⟨_, _, ?_, hgr.1, hgr.2⟩
      have h48' : ¬ (281474976710656 < Builtin.nextslicecap k 0 * i.bytes) := by have := growslice_fits (bytes := i.bytes) (need := k) (old := 0) (by omega) (by simpa using hk); omega
      simp [Builtin.append_, run_underlying ht, run_underlying hit, sizeOf, typeInfo, hi', hs, asInt, asIntOf, hw, hkn, hkb, hk0, h48', Question.forced, newRow, grownCap, zeroValue, hz0, zeroCells_one z hz, Builtin.firstCells]
      intro h; omega
  · by_cases hroom : n + k ≤ cap
    · have hrun : (Builtin.append_ #[t, it] ty #[.slice (some ⟨g, 0, none⟩) n cap, .int .i64 (k : Int)]).run P w = .ok (.slice (some ⟨g, 0, none⟩) (n + k) cap) (w.setRow g (cur.toList.take n ++ List.replicate k z ++ cur.toList.drop (n + (List.replicate k z).length)).toArray) := by
        have hst := run_storeCells_at P g n e (List.replicate k z) 0 cur w hg (by simp; omega) (by intro v hv; rw [List.eq_of_mem_replicate hv]; exact h1)
        simp only [Nat.add_zero] at hst
        by_cases hk0 : k = 0
        · subst hk0
          simp only [List.replicate_zero] at hst
          simp [Builtin.append_, run_underlying ht, run_underlying hit, sizeOf, typeInfo, hi', hs, asInt, asIntOf, show IntKind.i64.wrap 0 = 0 from IntWalk.i64_in _ (by omega), hnc, Addr.add_lit, hst]
        · simp [Builtin.append_, run_underlying ht, run_underlying hit, sizeOf, typeInfo, hi', hs, asInt, asIntOf, hw, hkn, hkb, hk0, hroom, zeroValue, hz0, zeroCells_one z hz, Addr.add_lit, hst]
      refine ⟨_, _, hrun, ⟨hlen, .inr ⟨g, cap, _, rfl, hbg, setRow_heap w g cur _ e _ hg, hroom, hcm, ?_, ?_⟩⟩, ⟨rfl, rfl, rfl, by simp, fun k _ hk => setRow_other w g k _ (fun e => hk (by simp [Value.ownBlock, e]))⟩⟩
      · simp; omega
      · rw [Nat.mul_one] at htake; rw [htake, ← hlen]
        exact List.take_left
    · have hgr := hgrow cap xs rfl (by omega) (Value.ownBlock (.slice (some ⟨g, 0, none⟩) n cap))
      refine ⟨_, _, ?_, hgr.1, hgr.2⟩
      have hk0 : ¬ k = 0 := by omega
      have holds : ∀ j u, xs[j]? = some u → w.cell? ((⟨g, 0, none⟩ : Addr).add j) = some u := hown.cells (g := g) rfl
      have hfo := run_firstCells_some (P := P) w.drew i.size n ⟨g, 0, none⟩ n cap xs (by rw [hs]; exact hown.1) (by simpa using holds)
      rw [hs] at hfo
      have h48' : ¬ (281474976710656 < Builtin.nextslicecap (n + k) cap * i.bytes) := by have := growslice_fits (bytes := i.bytes) (need := n + k) (old := cap) (by omega) hk; omega
      simp [Builtin.append_, run_underlying ht, run_underlying hit, sizeOf, typeInfo, hi', hs, asInt, asIntOf, hw, hkn, hkb, hk0, hroom, h48', h63', Question.forced, newRow, grownCap, zeroValue, hz0, zeroCells_one z hz, hfo]

/-- append of what another slice holds onto a row of one's own -/
theorem append_row {P : Program} (w : World) (base : Nat) {t : TypeId} (ty : TypeId) {e : TypeId} {z : Value} {bytes : Nat} (ht : P.underlying t = some (.slice e))
    (hi : (P.info? e).map (fun i => (i.zero, i.size, i.bytes)) = some (some z, 1, bytes)) (hz : z.cells = #[z])
    (v : Value) (n : Nat) (xs : List Value) (hown : w.ownsRow base e 1 v n xs) (B : Nat) (A : Option Addr) (m c : Nat) (news : List Value) (hr : RowAt w B A news) (hm : news.length = m)
    (h1 : ∀ u ∈ news, u.oneCell' = true) (hk : (n + m) * bytes ≤ 140737488355328) (h31 : n + m ≤ maxLen) (hbase : base ≤ w.heap.size) :
    ∃ v' w', (Builtin.append_ #[t, t] ty #[v, .slice A m c]).run P w = .ok v' w' ∧ w'.ownsRow base e 1 v' (n + m) (xs ++ news) ∧ w.grownBy w' v.ownBlock := by
  obtain ⟨i, hi', hz0, hs, hb⟩ := info_parts hi
  by_cases h0 : m = 0
  · subst h0
    have hn : news = [] := List.eq_nil_of_length_eq_zero hm
    subst hn
    refine ⟨v, w, ?_, by simpa using hown, World.grownBy.refl w _⟩
    rcases hown.2 with ⟨rfl, rfl⟩ | ⟨g, cap, cur, rfl, _, _, hnc, _⟩
    · cases A <;> simp [Builtin.append_, run_underlying ht, sizeOf, typeInfo, hi', Builtin.lenOf, Builtin.firstCells, loadCells, loadCellsFrom]
    · cases A <;> simp [Builtin.append_, run_underlying ht, sizeOf, typeInfo, hi', Builtin.lenOf, Builtin.firstCells, hnc, storeCells, loadCells, loadCellsFrom]
  · obtain ⟨b, o, rfl, _, hc⟩ := hr.at_ (by omega)
    obtain ⟨v', w', hrun, h2, h3, _⟩ := run_append_own (P := P) w base t ty e i z 1 bytes ht hi' hz0 hs hb (by rw [hz]; rfl) (by omega) v n xs hown ⟨b, o, none⟩ m c news (by omega) (fun j u hu => by rw [add_none]; exact hc j u hu) h1 h31 hk hbase
    exact ⟨v', w', hrun, h2, h3⟩

theorem wpList_app {P : Program} {w : World} {ops : Array Oper} {rest : List Oper} {o : Oper} {a : Act} {Q : Exit → Act → World → Prop} (hw : Region.wanted o (yielded ops a.tmps) = true) (s x : Operand) (t xt : TypeId)
    (ho : o.op = .call { callee := .builtin .append, args := #[s, x], argTypes := #[t, xt] }) {v' : Value} {w' : World}
    (hrun : (Builtin.append_ #[t, xt] o.type #[a.eval s, a.eval x]).run P w = .ok v' w') (h : wpList P ops Q rest (a.put o.dst v') w') : wpList P ops Q (o :: rest) a w := by
  unfold wpList
  rw [if_pos hw]
  refine .inl ?_
  unfold Oper.wp execOp
  simp only [ho, resolve, invoke, builtin, Sem.run_bind, Sem.run_pure, Result.andThen_ok, List.map_toArray, List.map_cons, List.map_nil, hrun]
  exact h
theorem step_app {P : Program} {w : World} {ops : Array Oper} {o : Oper} {a : Act} {K : Act → World → Prop} {Q : Exit → Act → World → Prop} {E : Prop} (hg : o.guard = none) (s x : Operand) (t xt : TypeId)
    (ho : o.op = .call { callee := .builtin .append, args := #[s, x], argTypes := #[t, xt] }) {v' : Value} {w' : World}
    (hrun : (Builtin.append_ #[t, xt] o.type #[a.eval s, a.eval x]).run P w = .ok v' w') (h : K (a.put o.dst v') w') : if Region.wanted o (yielded ops a.tmps) = true then Oper.wp P o a w K Q else E := by
  have hw : Region.wanted o (yielded ops a.tmps) = true := by simp [Region.wanted, hg]
  rw [if_pos hw]
  unfold Oper.wp execOp
  simp only [ho, resolve, invoke, builtin, Sem.run_bind, Sem.run_pure, Result.andThen_ok, List.map_toArray, List.map_cons, List.map_nil, hrun]
  exact h

/-! ### whole arrays, out of and into a block that is known whole -/
theorem load_arr {P : Program} {ty : TypeId} {d : TypeDesc} (hu : P.underlying ty = some d) (hd : (match d with | .struct _ | .array _ _ => true | _ => false) = true) {cs : List Value} (hi : (P.info? ty).map (·.size) = some cs.length)
    {W : World} {g : Nat} {t : TypeId} {fr : Nat × Nat} (hg : W.heap[g]? = some (.cells cs.toArray t fr)) :
    (Instr.loadAt ty (.pointer (some ⟨g, 0, none⟩))).run P W = .ok (.agg cs.toArray) W := by
  simp only [Instr.loadAt, Instr.sureAddr, Sem.run_bind, Sem.run_pure, Result.andThen]
  exact run_loadVar_row (P := P) W g t ty cs.toArray fr d hg hu hd (by simpa using hi)
theorem store_arr {P : Program} {ty : TypeId} {cs : List Value} (hi : (P.info? ty).map (·.size) = some cs.length) (h1 : ∀ v ∈ cs, v.oneCell' = true)
    {W : World} {g : Nat} {t : TypeId} {old : List Value} (hg : W.heap[g]? = some (.cells old.toArray t (0, 0))) (ho : old.length = cs.length) :
    (Instr.storeAt ty (.pointer (some ⟨g, 0, none⟩)) (.agg cs.toArray)).run P W = .ok () (W.setRow g cs.toArray) := by
  simp only [Instr.storeAt, Instr.sureAddr, Sem.run_bind, Sem.run_pure, Result.andThen]
  exact run_storeVar_row (P := P) W g t ty old.toArray cs.toArray hg (by simpa using hi) (by simpa using ho) (by simpa using h1)
theorem wpList_ld {P : Program} {w : World} {ops : Array Oper} {rest : List Oper} {o : Oper} {a : Act} {Q : Exit → Act → World → Prop} (hw : Region.wanted o (yielded ops a.tmps) = true) (ty : TypeId) (x : Operand)
    (ho : o.op = .load ty x) {v : Value} (hrun : (Instr.loadAt ty (a.eval x)).run P w = .ok v w) (h : wpList P ops Q rest (a.put o.dst v) w) : wpList P ops Q (o :: rest) a w := by
  unfold wpList
  rw [if_pos hw]
  refine .inl ?_
  unfold Oper.wp execOp
  simp only [ho, Sem.run_bind, hrun, Result.andThen_ok]
  exact h
theorem wpList_st {P : Program} {w w' : World} {ops : Array Oper} {rest : List Oper} {o : Oper} {a : Act} {Q : Exit → Act → World → Prop} (hw : Region.wanted o (yielded ops a.tmps) = true) (ty : TypeId) (x y : Operand)
    (ho : o.op = .store ty x y) (hrun : (Instr.storeAt ty (a.eval x) (a.eval y)).run P w = .ok () w') (h : wpList P ops Q rest (a.put o.dst undef) w') : wpList P ops Q (o :: rest) a w := by
  unfold wpList
  rw [if_pos hw]
  refine .inl ?_
  unfold Oper.wp execOp
  simp only [ho, Sem.run_bind, hrun, Result.andThen_ok]
  exact h
theorem step_cpy {P : Program} {w : World} {ops : Array Oper} {o : Oper} {a : Act} {K : Act → World → Prop} {Q : Exit → Act → World → Prop} {E : Prop} (hg : o.guard = none) (s x : Operand) (t xt : TypeId)
    (ho : o.op = .call { callee := .builtin .copy, args := #[s, x], argTypes := #[t, xt] }) {v' : Value} {w' : World}
    (hrun : (Builtin.copy_ #[t, xt] o.type #[a.eval s, a.eval x]).run P w = .ok v' w') (h : K (a.put o.dst v') w') : if Region.wanted o (yielded ops a.tmps) = true then Oper.wp P o a w K Q else E := by
  have hw : Region.wanted o (yielded ops a.tmps) = true := by simp [Region.wanted, hg]
  rw [if_pos hw]
  unfold Oper.wp execOp
  simp only [ho, resolve, invoke, builtin, Sem.run_bind, Sem.run_pure, Result.andThen_ok, List.map_toArray, List.map_cons, List.map_nil, hrun]
  exact h
theorem grown_setRow (W : World) (g : Nat) (cs : Array Value) : W.grownBy (W.setRow g cs) (some g) :=
  ⟨rfl, rfl, rfl, by simp, fun k _ hk => setRow_other W g k _ (fun h => hk (by rw [h]))⟩

theorem row_sub {w : World} {g : Nat} {bs : List UInt8} {t : TypeId} {fr : Nat × Nat} (h : w.heap[g]? = some (.cells (bs.map bv).toArray t fr)) (o k : Nat) {B : Nat} (hB : g < B) : RowAt w B (some ⟨g, o, none⟩) (((bs.drop o).take k).map bv) :=
  .inr ⟨g, o, rfl, hB, fun j u hu => by
    rw [cell_of_heap h]
    rw [List.getElem?_map, List.getElem?_take] at hu
    rw [List.getElem?_map]
    split at hu
    · rwa [List.getElem?_drop] at hu
    · cases hu⟩

theorem splice_first {α : Type} (z : α) (k m : Nat) (X : List α) (hX : X.length = k) : splice (List.replicate (k + m) z) 0 X = X ++ List.replicate m z := by
  have := splice_split [] (List.replicate k z) (List.replicate m z) X (by simpa using hX)
  simpa [List.replicate_append_replicate] using this
theorem splice_last {α : Type} (z : α) (k m : Nat) (X Y : List α) (hX : X.length = k) (hY : Y.length = m) : splice (X ++ List.replicate m z) k Y = X ++ Y := by
  have := splice_split X (List.replicate m z) [] Y (by simpa using hY)
  simpa [hX] using this

/-! ### arrays of integers, held against each other -/
theorem part_int {P : Program} {e : TypeId} {k : IntKind} (he : P.underlying e = some (.int k)) (cs : Array Value) (i : Nat) (v : Value) (h : cs[i]? = some v) (W : World) : (part e cs i).run P W = .ok v W := by
  simp [part, isAgg, run_underlying he, h]
theorem equalIn_arr {P : Program} {t e : TypeId} {n : Nat} {k : IntKind} (ht : P.underlying t = some (.array n e)) (he : P.underlying e = some (.int k)) (hs : (P.info? e).map (·.size) = some 1)
    (d : Nat) (xs ys : List Int) (hx : xs.length = n) (hy : ys.length = n) (W : World) :
    (Op.equalIn (d + 2) t (.agg (xs.map (Value.int k)).toArray) (.agg (ys.map (Value.int k)).toArray)).run P W = .ok (decide (xs = ys)) W := by
  unfold Op.equalIn
  simp only [Sem.run_bind, run_underlying ht, Result.andThen_ok, sizeOf_one hs, Nat.mul_one]
  rw [Std.Legacy.Range.forIn_eq_forIn_range']
  simp only [Std.Legacy.Range.size, Nat.sub_zero, Nat.add_sub_cancel, Nat.div_one]
  have key : ∀ m s, s + m = n → (Sem.run P
          (forIn (List.range' s m) ((none, ()) : Option Bool × Unit) fun i _ => do
            let a ← part e (List.map (Value.int k) xs).toArray i
            let b ← part e (List.map (Value.int k) ys).toArray i
            let r ← Op.equalIn (d + 1) e a b
            if (!r) = true then pure (ForInStep.done (some false, ())) else pure (ForInStep.yield (none, ()))) W) =
      .ok (if xs.drop s = ys.drop s then (none, ()) else (some false, ())) W := by
    intro m
    induction m with
    | zero =>
      intro s hs
      rw [List.drop_eq_nil_of_le (by omega), List.drop_eq_nil_of_le (by omega)]
      simp
    | succ m ih =>
      intro s hs
      have h1 : s < xs.length := by omega
      have h2 : s < ys.length := by omega
      rw [List.range'_succ, List.forIn_cons]
      simp only [Sem.run_bind]
      rw [part_int he _ s (.int k xs[s]) (by simp [h1]), Result.andThen_ok, part_int he _ s (.int k ys[s]) (by simp [h2]), Result.andThen_ok, run_equalIn_int W d e k k _ _ he, Result.andThen_ok]
      rw [List.drop_eq_getElem_cons h1, List.drop_eq_getElem_cons h2]
      by_cases hq : xs[s] = ys[s]
      · simp only [hq, beq_self_eq_true, Bool.not_true, Bool.false_eq_true, if_false, Sem.run_pure, Result.andThen_ok, List.cons.injEq, true_and]
        exact ih (s + 1) (by omega)
      · have hb : (xs[s] == ys[s]) = false := by simpa using hq
        have hne : ¬ (xs[s] :: xs.drop (s + 1) = ys[s] :: ys.drop (s + 1)) := by
          intro h; injection h with h _; exact hq h
        rw [if_neg hne]
        simp only [hb, Bool.not_false, if_true, Sem.run_pure, Result.andThen_ok]
  have := key n 0 (by omega)
  simp only [List.drop_zero] at this
  rw [this]
  by_cases hq : xs = ys <;> simp [hq]
theorem eql_arr {P : Program} {t e : TypeId} {n : Nat} {k : IntKind} (ht : P.underlying t = some (.array n e)) (he : P.underlying e = some (.int k)) (hs : (P.info? e).map (·.size) = some 1)
    (xs ys : List Int) (hx : xs.length = n) (hy : ys.length = n) (W : World) :
    (binOp .eql t (.agg (xs.map (Value.int k)).toArray) (.agg (ys.map (Value.int k)).toArray)).run P W = .ok (.bool (decide (xs = ys))) W := by
  rw [run_eql_struct, equalIn_arr ht he hs 9998 xs ys hx hy]; rfl
theorem neq_arr {P : Program} {t e : TypeId} {n : Nat} {k : IntKind} (ht : P.underlying t = some (.array n e)) (he : P.underlying e = some (.int k)) (hs : (P.info? e).map (·.size) = some 1)
    (xs ys : List Int) (hx : xs.length = n) (hy : ys.length = n) (W : World) :
    (binOp .neq t (.agg (xs.map (Value.int k)).toArray) (.agg (ys.map (Value.int k)).toArray)).run P W = .ok (.bool (!decide (xs = ys))) W := by
  rw [run_neq_struct, equalIn_arr ht he hs 9998 xs ys hx hy]; rfl
theorem eql_bytes {P : Program} {t e : TypeId} {n : Nat} (ht : P.underlying t = some (.array n e)) (he : P.underlying e = some (.int .u8)) (hs : (P.info? e).map (·.size) = some 1)
    (xs ys : List UInt8) (hx : xs.length = n) (hy : ys.length = n) (W : World) :
    (binOp .eql t (.agg (xs.map bv).toArray) (.agg (ys.map bv).toArray)).run P W = .ok (.bool (decide (xs = ys))) W := by
  have h := eql_arr ht he hs (xs.map fun b => (b.toNat : Int)) (ys.map fun b => (b.toNat : Int)) (by simpa using hx) (by simpa using hy) W
  have e : ∀ l : List UInt8, (l.map fun b => (b.toNat : Int)).map (Value.int .u8) = l.map bv := fun l => by simp [Function.comp_def, bv]
  rw [e, e] at h
  rw [h]
  congr 3
  apply propext
  constructor
  · intro h
    have := List.map_inj_right (l := xs) (l' := ys) (f := fun b : UInt8 => (b.toNat : Int)) (fun a b hab => UInt8.toNat_inj.1 (by have h0 : (a.toNat : Int) = (b.toNat : Int) := hab; omega))
    exact this.1 h
  · rintro rfl; rfl
theorem neq_bytes {P : Program} {t e : TypeId} {n : Nat} (ht : P.underlying t = some (.array n e)) (he : P.underlying e = some (.int .u8)) (hs : (P.info? e).map (·.size) = some 1)
    (xs ys : List UInt8) (hx : xs.length = n) (hy : ys.length = n) (W : World) :
    (binOp .neq t (.agg (xs.map bv).toArray) (.agg (ys.map bv).toArray)).run P W = .ok (.bool (!decide (xs = ys))) W := by
  have h := eql_bytes ht he hs xs ys hx hy W
  rw [run_eql_struct] at h
  rw [run_neq_struct]
  cases hq : (Op.equalIn 10000 t (.agg (xs.map bv).toArray) (.agg (ys.map bv).toArray)).run P W with
  | ok b w' =>
    rw [hq] at h
    simp only [Result.andThen] at h ⊢
    injection h with h1 h2
    injection h1 with h1
    rw [h1, h2]
  | halt x w' => rw [hq] at h; simp [Result.andThen] at h

theorem load_cell {P : Program} {ty : TypeId} {k : IntKind} (hu : P.underlying ty = some (.int k)) {W : World} {a : Addr} {v : Value} (h : W.cell? a = some v) :
    (Instr.loadAt ty (.pointer (some a))).run P W = .ok v W := by
  simp [Instr.loadAt, Instr.sureAddr, loadVar, isAgg, run_underlying hu, h]
end Go.Proofs.Ytjmpbcfbfbjenaa
