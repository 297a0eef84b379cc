/- rows of keys that the call made -/
import Derived.Test.YtnbfdoneknidhaaKp6
namespace Go.Proofs.Ytnbfdoneknidhaa
open Go.RowKit
set_option linter.unusedVariables false
theorem key_info : (Try.prog.info? 24).map (fun i => (i.zero, i.size, i.bytes)) = some (some (.agg #[.int .i64 0, .string ⟨#[]⟩]), 2, 24) := by kernel_rfl
def keysV : List KV → List Value
  | [] => []
  | k :: ks => .int .i64 k.1 :: .string k.2 :: keysV ks
theorem keysV_len : ∀ ks : List KV, (keysV ks).length = ks.length * 2
  | [] => rfl
  | k :: ks => by simp [keysV, keysV_len ks]; omega
theorem keysV_app : ∀ ks ls : List KV, keysV (ks ++ ls) = keysV ks ++ keysV ls
  | [], ls => rfl
  | k :: ks, ls => by simp [keysV, keysV_app ks ls]
theorem keysV_one : ∀ (ks : List KV), ∀ u ∈ keysV ks, u.oneCell' = true
  | [], u, h => by simp [keysV] at h
  | k :: ks, u, h => by
    simp only [keysV, List.mem_cons] at h
    rcases h with h | h | h
    · subst h; rfl
    · subst h; rfl
    · exact keysV_one ks u h
theorem keysV_at : ∀ (ks : List KV) (i : Nat), i < ks.length → (keysV ks)[i * 2]? = some (.int .i64 (ks.getD i k0).1) ∧ (keysV ks)[i * 2 + 1]? = some (.string (ks.getD i k0).2)
  | [], i, h => by simp at h
  | k :: ks, 0, _ => by simp [keysV]
  | k :: ks, i + 1, h => by
    have ih := keysV_at ks i (by simpa using h)
    have e1 : (i + 1) * 2 = i * 2 + 1 + 1 := by omega
    rw [e1]
    simpa [keysV] using ih
theorem HoldsK.cells {w : World} {b o n : Nat} {ks : List KV} (h : HoldsK w (some ⟨b, o, none⟩) n ks) : ∀ j u, (keysV ks)[j]? = some u → w.cell? ((⟨b, o, none⟩ : Addr).add j) = some u := by
  intro j u hj
  have hl := h.len
  have hjl : j < (keysV ks).length := by
    rcases Nat.lt_or_ge j (keysV ks).length with h' | h'
    · exact h'
    · rw [List.getElem?_eq_none h'] at hj; cases hj
  rw [keysV_len] at hjl
  obtain ⟨b', o', ha, hc⟩ := h.at (by omega)
  cases ha
  obtain ⟨c1, c2⟩ := hc (j / 2) (by omega)
  obtain ⟨v1, v2⟩ := keysV_at ks (j / 2) (by omega)
  rw [Go.WideShapes.add_plain]
  have hcase : j = j / 2 * 2 ∨ j = j / 2 * 2 + 1 := by omega
  rcases hcase with e | e
  · rw [← e] at v1 c1
    rw [c1, ← hj, v1]
  · have e2 : o + j / 2 * 2 + 1 = o + j := by omega
    rw [← e] at v2
    rw [e2] at c2
    rw [c2, ← hj, v2]
theorem HoldsK.own {w : World} {B : Nat} {e : TypeId} {a : Option Addr} {n c : Nat} {ks : List KV} (h : w.ownsRow B e 2 (.slice a n c) n (keysV ks)) : HoldsK w a n ks := by
  have hl : ks.length = n := by have := h.1; rw [keysV_len] at this; omega
  refine ⟨hl, fun h0 => ?_⟩
  rcases h.2 with ⟨_, h1⟩ | ⟨g, cap, cur, hv, _, hh, hc, _, hs, hx⟩
  · omega
  · simp only [Value.slice.injEq] at hv
    obtain ⟨rfl, _, rfl⟩ := hv
    refine ⟨g, 0, rfl, fun i hi => ?_⟩
    obtain ⟨v1, v2⟩ := keysV_at ks i (by omega)
    rw [← hx] at v1 v2
    rw [List.getElem?_take_of_lt (by omega)] at v1 v2
    rw [Array.getElem?_toList] at v1 v2
    rw [Nat.zero_add, Joins.cell_of_block hh, Joins.cell_of_block hh]
    exact ⟨v1, v2⟩
theorem HoldsK.take {w : World} {a : Option Addr} {n : Nat} {ks : List KV} (h : HoldsK w a n ks) (k : Nat) (hk : k ≤ n) : HoldsK w a k (ks.take k) := by
  have hl := h.len
  refine ⟨by simp; omega, fun h0 => ?_⟩
  obtain ⟨b, o, ha, hc⟩ := h.at (by omega)
  refine ⟨b, o, ha, fun i hi => ?_⟩
  have e : (ks.take k).getD i k0 = ks.getD i k0 := by simp [List.getD_eq_getElem?_getD, List.getElem?_take_of_lt hi]
  rw [e]; exact hc i (by omega)
theorem HoldsK.drop {w : World} {b o n : Nat} {ks : List KV} (h : HoldsK w (some ⟨b, o, none⟩) n ks) (k : Nat) (hk : k ≤ n) : HoldsK w (some ⟨b, o + k * 2, none⟩) (n - k) (ks.drop k) := by
  have hl := h.len
  refine ⟨by simp; omega, fun h0 => ?_⟩
  obtain ⟨b', o', ha, hc⟩ := h.at (by omega)
  cases ha
  refine ⟨b, o + k * 2, rfl, fun i hi => ?_⟩
  have e : (ks.drop k).getD i k0 = ks.getD (k + i) k0 := by simp [List.getD_eq_getElem?_getD]
  obtain ⟨c1, c2⟩ := hc (k + i) (by omega)
  rw [e]
  have e1 : o + k * 2 + i * 2 = o + (k + i) * 2 := by omega
  rw [e1]; exact ⟨c1, c2⟩
/-- 'append(v, x...)' at one operation: the value is a slice of the call's own -/
theorem wp_append_any {P : Program} {w : World} {o : Oper} {a : Act} {K : Act → World → Prop} {Q : Exit → Act → World → Prop} (s x : Operand) (t : TypeId)
    (ho : o.op = .call { callee := .builtin .append, args := #[s, x], argTypes := #[t, t] })
    (base : Nat) (e : TypeId) (i : TypeInfo) (z : Value) (size bytes : Nat) (ht : P.underlying t = some (.slice e)) (hi : P.info? e = some i) (hz : i.zero = some z)
    (hsize : i.size = size) (hby : i.bytes = bytes) (hzs : z.cells.size = size) (hsz : 0 < size)
    (v : Value) (n : Nat) (xs : List Value) (hs : a.eval s = v) (hown : w.ownsRow base e size v n xs)
    (ad : Addr) (m c : Nat) (news : List Value) (hx : a.eval x = .slice (some ad) m c) (hl : news.length = m * size)
    (hnews : ∀ j u, news[j]? = some u → w.cell? (ad.add j) = some u) (h1 : ∀ u ∈ news, u.oneCell' = true)
    (h63 : n + m ≤ maxLen) (hbytes : (n + m) * bytes ≤ 140737488355328) (hbase : base ≤ w.heap.size)
    (h : ∀ a' c' w', w'.ownsRow base e size (.slice a' (n + m) c') (n + m) (xs ++ news) → Below base w w' → K (a.put o.dst (.slice a' (n + m) c')) w') : o.wp P a w K Q := by
  refine wp_append_own w s x t ho base e i z size bytes ht hi hz hsize hby hzs hsz v n xs hs hown ad m c news hx hl hnews h1 h63 hbytes hbase fun v' w' h2 h3 _ => ?_
  have hb' := (Below.refl base w).grown h3 hbase fun k hk => (hown.lt k hk).1
  rcases Joins.ownsRow_forms h2 with ⟨rfl, h0⟩ | ⟨g, cap, rfl⟩
  · have := h none 0 w' (by rw [h0] at h2 ⊢; exact h2) hb'
    rw [h0] at this
    exact this
  · exact h _ _ w' h2 hb'
/-! which shard: counted -/
theorem ofN_count {ks : List KV} {k : KV} : SortedK ks → ofN ks k = ks.countP fun c => !decide (ordK k c < 0) := by
  induction ks with
  | nil => intro _; rfl
  | cons x ks ih =>
    intro h
    obtain ⟨h1, h2⟩ := List.pairwise_cons.1 h
    unfold ofN at ih ⊢
    rw [List.findIdx_cons]
    by_cases hp : ordK k x < 0
    · rw [decide_eq_true hp, List.countP_cons_of_neg (by simp [hp])]
      symm
      simp only [cond_true]
      rw [List.countP_eq_zero]
      intro c hc
      simp [ordK_trans hp (h1 c hc)]
    · rw [decide_eq_false hp, List.countP_cons_of_pos (by simp [hp]), ih h2]
      simp
theorem ofN_less {ks : List KV} {k : KV} (h : SortedK ks) (j : Nat) (hj : j < ks.length) : ofN ks k = ofN (ks.take j ++ ks.drop (j + 1)) k + (if ordK k (ks.getD j k0) < 0 then 0 else 1) := by
  have hsub : (ks.take j ++ ks.drop (j + 1)).Sublist ks := by
    rw [← List.eraseIdx_eq_take_drop_succ]; exact List.eraseIdx_sublist _ _
  rw [ofN_count h, ofN_count (h.sublist hsub), List.countP_append]
  have e : ks = ks.take j ++ ks.getD j k0 :: ks.drop (j + 1) := by
    have e1 : ks.getD j k0 = ks[j] := by simp [List.getD_eq_getElem?_getD, hj]
    rw [e1, ← List.drop_eq_getElem_cons hj, List.take_append_drop]
  conv => lhs; rw [e]
  rw [List.countP_append, List.countP_cons]
  obtain ⟨c, hc⟩ : ∃ c, ks.getD j k0 = c := ⟨_, rfl⟩
  rw [hc]
  by_cases hp : ordK k c < 0
  · have h2 : (!decide (ordK k c < 0)) = false := by rw [decide_eq_true hp]; rfl
    rw [h2, if_pos hp, if_neg (by simp)]; omega
  · have h2 : (!decide (ordK k c < 0)) = true := by rw [decide_eq_false hp]; rfl
    rw [h2, if_neg hp, if_pos rfl]; omega
theorem good_less {ks : List KV} (h : goodK ks = 0) (j : Nat) : goodK (ks.take j ++ ks.drop (j + 1)) = 0 := by
  obtain ⟨h1, h2, h3⟩ := goodK_zero h
  have hsub : (ks.take j ++ ks.drop (j + 1)).Sublist ks := by
    rw [← List.eraseIdx_eq_take_drop_succ]; exact List.eraseIdx_sublist _ _
  exact goodK_of (Nat.le_trans hsub.length_le h1) (fun c hc => h2 c (hsub.subset hc)) (h3.sublist hsub)
end Go.Proofs.Ytnbfdoneknidhaa
