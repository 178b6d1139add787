/- The document's own Crypt. -/
import Derived.Test.YteboeeijgpghoaaRefC3
import Derived.Test.YteboeeijgpghoaaCha6
namespace Go.Proofs.Yteboeeijgpghoaa
open Go.RowKit
set_option linter.unusedVariables false
set_option linter.unusedSimpArgs false
/-- append onto a row of one's own, and where what comes of it lies: where it lay, or in a new block -/
theorem append_spot {P : Program} (w : World) (base : Nat) {t : TypeId} (ty : TypeId) {e : TypeId} {z : Value} {bytes : Nat} (ht : P.underlying t = some (.slice e))
    (hi : (P.info? e).map (fun i => (i.zero, i.size, i.bytes)) = some (some z, 1, bytes)) (hz : z.cells = #[z]) (v : Value) (n : Nat) (xs : List Value) (hown : w.ownsRow base e 1 v n xs)
    (b o m c : Nat) (news : List Value) (hm : news.length = m) (hnews : ∀ j u, news[j]? = some u → w.cell? ⟨b, o + j, none⟩ = some u) (h1 : ∀ u ∈ news, u.oneCell' = true) (h0 : 0 < m) (hk : (n + m) * bytes ≤ 140737488355328) (h31 : n + m ≤ maxLen) (hbase : base ≤ w.heap.size) :
    ∃ v' w', (Builtin.append_ #[t, t] ty #[v, .slice (some ⟨b, o, none⟩) m c]).run P w = .ok v' w' ∧ w'.ownsRow base e 1 v' (n + m) (xs ++ news) ∧ w.grownBy w' v.ownBlock ∧ (v'.ownBlock = v.ownBlock ∨ v'.ownBlock = some w.heap.size) := by
  obtain ⟨i, hi', hz0, hs, hb⟩ := info_parts hi
  have hn' : ∀ j u, news[j]? = some u → w.cell? ((⟨b, o, none⟩ : Addr).add j) = some u := fun j u hu => by rw [add_none]; exact hnews j u hu
  obtain ⟨v', w', hrun, h2, h3, _⟩ := run_append_own (P := P) w base t ty e i z 1 bytes ht hi' hz0 hs hb (by rw [hz]; rfl) (by omega) v n xs hown ⟨b, o, none⟩ m c news (by omega) hn' h1 h31 hk hbase
  refine ⟨v', w', hrun, h2, h3, ?_⟩
  subst hb
  have hsmall : n + m ≤ 9223372036854775807 := by simp only [maxLen] at h31; omega
  rcases hown.2 with ⟨rfl, rfl⟩ | ⟨g, cap, cur, rfl, hbg, hg, hnc, hcm, hcs, htake⟩
  · have hr := run_append_nil (P := P) w t ty e i z ht hi' hz0 ⟨b, o, none⟩ m c news (by rw [hs]; omega) hn' h0 (by omega) (by simp only [Nat.zero_add] at hk; omega)
    rw [hr] at hrun
    injection hrun with e1 _
    right; rw [← e1]; rfl
  · by_cases hroom : n + m ≤ cap
    · have hfit : n * i.size + news.length ≤ cur.size := by rw [hs, hcs]; omega
      have hr := run_append_room (P := P) w t ty e i ht hi' g n cap cur hg ⟨b, o, none⟩ m c news (by rw [hs]; omega) hn' h1 hroom hfit
      rw [hr] at hrun
      injection hrun with e1 _
      left; rw [← e1]; rfl
    · have holds : ∀ j u, xs[j]? = some u → w.cell? ((⟨g, 0, none⟩ : Addr).add j) = some u := hown.cells (g := g) rfl
      have hr := run_append_grow (P := P) w t ty e i z ht hi' hz0 ⟨g, 0, none⟩ n cap xs (by rw [hs]; exact hown.1) holds ⟨b, o, none⟩ m c news (by rw [hs]; omega) hn' (by omega) (by omega) (growslice_fits (by omega) hk)
      rw [hr] at hrun
      injection hrun with e1 _
      right; rw [← e1]; rfl
theorem cryptC_take (key nonce : List UInt8) (n : W32) (b : List UInt8) (i : Nat) (hi : i < b.length) :
    (cryptC key nonce n b).take (i + 1) = (cryptC key nonce n b).take i ++ [b.getD i 0 ^^^ (blockC key nonce (ctrAt n (i / 64))).getD (i % 64) 0] := by
  have hl : i < (cryptC key nonce n b).length := by rw [cryptC_len]; exact hi
  have hs : i < (streamC key nonce n b.length).length := by rw [streamC_len]; exact hi
  have e1 : (cryptC key nonce n b)[i] = b[i] ^^^ (streamC key nonce n b.length)[i] := by simp [cryptC, xorL]
  have e2 : b.getD i 0 = b[i] := by simp [List.getD, hi]
  have hbl := blockC_len key nonce (ctrAt n (i / 64))
  have key2 : ∀ k, i / 64 < k → (blocksC key nonce n k)[i]? = (blockC key nonce (ctrAt n (i / 64)))[i % 64]? := by
    intro k hk
    obtain ⟨t, rfl⟩ : ∃ t, k = (i / 64 + 1) + t := ⟨k - (i / 64 + 1), by omega⟩
    induction t with
    | zero =>
      rw [Nat.add_zero, blocksC_succ, List.getElem?_append_right (by rw [blocksC_len]; omega), blocksC_len, show i - 64 * (i / 64) = i % 64 by omega]
    | succ t ih =>
      rw [← Nat.add_assoc, blocksC_succ, List.getElem?_append_left (by rw [blocksC_len]; omega)]
      exact ih (by omega)
  have e3 : (streamC key nonce n b.length)[i]? = (blockC key nonce (ctrAt n (i / 64)))[i % 64]? := by
    rw [streamC, List.getElem?_take, if_pos hi]
    exact key2 _ (by omega)
  rw [List.getElem?_eq_getElem hs] at e3
  have e4 : (blockC key nonce (ctrAt n (i / 64))).getD (i % 64) 0 = (streamC key nonce n b.length)[i] := by
    rw [List.getD_eq_getElem?_getD, ← e3, Option.getD_some]
  rw [List.take_succ_eq_append_getElem hl, e1, e2, e4]
/-- one byte behind a row of one's own -/
theorem step_spot {w : World} {ops : Array Oper} {o : Oper} {a : Act} {K : Act → World → Prop} {Q : Exit → Act → World → Prop} {E : Prop} (hg : o.guard = none) (s x : Operand)
    (ho : o.op = .call { callee := .builtin .append, args := #[s, x], argTypes := #[32, 32] }) (base : Nat) (v : Value) (n : Nat) (bs : List UInt8) (hs : a.eval s = v) (hown : w.ownsRow base 5 1 v n (bs.map bv))
    (b c : Nat) (z : UInt8) (hx : a.eval x = .slice (some ⟨b, 0, none⟩) 1 c) (hr : w.cell? ⟨b, 0, none⟩ = some (bv z)) (hk : n + 1 ≤ 2147483647) (hbase : base ≤ w.heap.size)
    (h : ∀ v' w', w'.ownsRow base 5 1 v' (n + 1) ((bs ++ [z]).map bv) → w.grownBy w' v.ownBlock → (v'.ownBlock = v.ownBlock ∨ v'.ownBlock = some w.heap.size) → K (a.put o.dst v') w') :
    if Region.wanted o (yielded ops a.tmps) = true then Oper.wp Try.prog o a w K Q else E := by
  obtain ⟨v', w', hrun, h2, h3, h4⟩ := append_spot (P := Try.prog) w base o.type uT made8 rfl v n _ hown b 0 1 c [bv z] rfl (fun j u hu => by
    have : j = 0 := by rcases Nat.eq_zero_or_pos j with h | h; exact h; rw [List.getElem?_eq_none (by simp; omega)] at hu; cases hu
    subst this; simp at hu; subst hu; exact hr) (fun u hu => by simp at hu; subst hu; rfl) (by omega) (by omega) (by simp [maxLen]; omega) hbase
  exact step_app hg s x _ _ ho (by rw [hs, hx]; exact hrun) (h v' w' (by rw [List.map_append]; exact h2) h3 h4)
/-- a block's row that is kept beside a row of one's own -/
def KeptK (W : World) (vo vk : Value) (X : List UInt8) : Prop := ∃ g c, vk = .slice (some ⟨g, 0, none⟩) 64 c ∧ vo.ownBlock ≠ some g ∧ g < W.heap.size ∧ ∀ j, j < 64 → W.cell? ⟨g, j, none⟩ = some (bv (X.getD j 0))
theorem kept_of_own {W : World} {base : Nat} {vk vo : Value} {X : List UInt8} (h : W.ownsRow base 5 1 vk 64 (X.map bv)) (hX : X.length = 64) (hne : ∀ g, vo.ownBlock = some g → g < base) : KeptK W vo vk X := by
  rcases h.2 with ⟨_, h0⟩ | ⟨g, cap, cur, rfl, hbg, hg, hnc, hcm, hcs, htake⟩
  · cases h0
  · refine ⟨g, cap, rfl, fun e => ?_, lt_of_heap hg, fun j hj => ?_⟩
    · have := hne g e; omega
    · have := h.cells (g := g) rfl j (bv (X.getD j 0)) (by rw [List.getElem?_map, List.getElem?_eq_getElem (by omega)]; simp [List.getD, hX, hj])
      rw [add_none, Nat.zero_add] at this
      exact this
end Go.Proofs.Yteboeeijgpghoaa
