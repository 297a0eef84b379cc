/- rows of pairs (a number and a text each) that the call made -/
import Derived.Test.YthboiklcjpnhbaaKp1
namespace Go.Proofs.Ythboiklcjpnhbaa
open Go.RowKit
set_option linter.unusedVariables false
set_option maxRecDepth 20000
def keysV : List KV → List Value
  | [] => []
  | k :: ks => .int .i64 k.1 :: .string k.2 :: keysV ks
theorem keysV_len : ∀ ks : List KV, (keysV ks).length = ks.length * 2
  | [] => rfl
  | k :: ks => by simp [keysV, keysV_len ks]; omega
theorem keysV_app : ∀ ks ls : List KV, keysV (ks ++ ls) = keysV ks ++ keysV ls
  | [], ls => rfl
  | k :: ks, ls => by simp [keysV, keysV_app ks ls]
theorem keysV_one : ∀ (ks : List KV), ∀ u ∈ keysV ks, u.oneCell' = true
  | [], u, h => by simp [keysV] at h
  | k :: ks, u, h => by
    simp only [keysV, List.mem_cons] at h
    rcases h with h | h | h
    · subst h; rfl
    · subst h; rfl
    · exact keysV_one ks u h
theorem keysV_at : ∀ (ks : List KV) (i : Nat), i < ks.length → (keysV ks)[i * 2]? = some (.int .i64 (ks.getD i k0).1) ∧ (keysV ks)[i * 2 + 1]? = some (.string (ks.getD i k0).2)
  | [], i, h => by simp at h
  | k :: ks, 0, _ => by simp [keysV]
  | k :: ks, i + 1, h => by
    have ih := keysV_at ks i (by simpa using h)
    have e1 : (i + 1) * 2 = i * 2 + 1 + 1 := by omega
    rw [e1]
    simpa [keysV] using ih
theorem HoldsK.cells {w : World} {b o n : Nat} {ks : List KV} (h : HoldsK w (some ⟨b, o, none⟩) n ks) : ∀ j u, (keysV ks)[j]? = some u → w.cell? ((⟨b, o, none⟩ : Addr).add j) = some u := by
  intro j u hj
  have hl := h.len
  have hjl : j < (keysV ks).length := by
    rcases Nat.lt_or_ge j (keysV ks).length with h' | h'
    · exact h'
    · rw [List.getElem?_eq_none h'] at hj; cases hj
  rw [keysV_len] at hjl
  obtain ⟨b', o', ha, hc⟩ := h.at (by omega)
  cases ha
  obtain ⟨c1, c2⟩ := hc (j / 2) (by omega)
  obtain ⟨v1, v2⟩ := keysV_at ks (j / 2) (by omega)
  rw [Go.WideShapes.add_plain]
  have hcase : j = j / 2 * 2 ∨ j = j / 2 * 2 + 1 := by omega
  rcases hcase with e | e
  · rw [← e] at v1 c1
    rw [c1, ← hj, v1]
  · have e2 : o + j / 2 * 2 + 1 = o + j := by omega
    rw [← e] at v2
    rw [e2] at c2
    rw [c2, ← hj, v2]
theorem HoldsK.own {w : World} {B : Nat} {e : TypeId} {a : Option Addr} {n c : Nat} {ks : List KV} (h : w.ownsRow B e 2 (.slice a n c) n (keysV ks)) : HoldsK w a n ks := by
  have hl : ks.length = n := by have := h.1; rw [keysV_len] at this; omega
  refine ⟨hl, fun h0 => ?_⟩
  rcases h.2 with ⟨_, h1⟩ | ⟨g, cap, cur, hv, _, hh, hc, _, hs, hx⟩
  · omega
  · simp only [Value.slice.injEq] at hv
    obtain ⟨rfl, _, rfl⟩ := hv
    refine ⟨g, 0, rfl, fun i hi => ?_⟩
    obtain ⟨v1, v2⟩ := keysV_at ks i (by omega)
    rw [← hx] at v1 v2
    rw [List.getElem?_take_of_lt (by omega)] at v1 v2
    rw [Array.getElem?_toList] at v1 v2
    rw [Nat.zero_add, Joins.cell_of_block hh, Joins.cell_of_block hh]
    exact ⟨v1, v2⟩
theorem HoldsK.take {w : World} {a : Option Addr} {n : Nat} {ks : List KV} (h : HoldsK w a n ks) (k : Nat) (hk : k ≤ n) : HoldsK w a k (ks.take k) := by
  have hl := h.len
  refine ⟨by simp; omega, fun h0 => ?_⟩
  obtain ⟨b, o, ha, hc⟩ := h.at (by omega)
  refine ⟨b, o, ha, fun i hi => ?_⟩
  have e : (ks.take k).getD i k0 = ks.getD i k0 := by simp [List.getD_eq_getElem?_getD, List.getElem?_take_of_lt hi]
  rw [e]; exact hc i (by omega)
theorem HoldsK.drop {w : World} {b o n : Nat} {ks : List KV} (h : HoldsK w (some ⟨b, o, none⟩) n ks) (k : Nat) (hk : k ≤ n) : HoldsK w (some ⟨b, o + k * 2, none⟩) (n - k) (ks.drop k) := by
  have hl := h.len
  refine ⟨by simp; omega, fun h0 => ?_⟩
  obtain ⟨b', o', ha, hc⟩ := h.at (by omega)
  cases ha
  refine ⟨b, o + k * 2, rfl, fun i hi => ?_⟩
  have e : (ks.drop k).getD i k0 = ks.getD (k + i) k0 := by simp [List.getD_eq_getElem?_getD]
  obtain ⟨c1, c2⟩ := hc (k + i) (by omega)
  rw [e]
  have e1 : o + k * 2 + i * 2 = o + (k + i) * 2 := by omega
  rw [e1]; exact ⟨c1, c2⟩
theorem HoldsK.cellsAny {w : World} {a : Option Addr} {n : Nat} {ks : List KV} (h : HoldsK w a n ks) {w' : World} (hg : w.grownBy w' none) : ∀ ad, a = some ad → ∀ j u, (keysV ks)[j]? = some u → w'.cell? (ad.add j) = some u := by
  intro ad ha j u hj
  have hjl : j < (keysV ks).length := (List.getElem?_eq_some_iff.1 hj).1
  rw [keysV_len] at hjl
  obtain ⟨b, o, hb, _⟩ := h.at (by have := h.len; omega)
  rw [ha] at hb
  obtain rfl := Option.some.inj hb
  subst ha
  exact hg.cell (h.cells j u hj) (by simp)
/-- Block B is a row of n + 3 pairs that may be written: the first n hold ks, of the three behind them the first k hold the mark. -/
def Roomy2 (w : World) (B : Nat) (e : TypeId) (n : Nat) (ks : List KV) (k : Nat) : Prop :=
  ∃ cs : Array Value, w.heap[B]? = some (.cells cs e (0, 0)) ∧ cs.size = (n + 3) * 2 ∧ (∀ i, i < n → cs[i * 2]? = some (.int .i64 (ks.getD i k0).1) ∧ cs[i * 2 + 1]? = some (.string (ks.getD i k0).2)) ∧ ∀ i, i < k → cs[n * 2 + i * 2]? = some (.int .i64 (-7)) ∧ cs[n * 2 + i * 2 + 1]? = some (.string ⟨#[]⟩)
theorem roomy2_of_own {w : World} {base B : Nat} {e : TypeId} {n : Nat} {ks : List KV} (hl : ks.length = n) (h : w.ownsRow base e 2 (.slice (some ⟨B, 0, none⟩) n (n + 3)) n (keysV ks)) : Roomy2 w B e n ks 0 := by
  rcases h.2 with ⟨h0, _⟩ | ⟨g, cap, cur, hv, _, hh, _, _, hs, hx⟩
  · cases h0
  · simp only [Value.slice.injEq, Option.some.injEq, Addr.mk.injEq, and_true, true_and] at hv
    obtain ⟨rfl, rfl⟩ := hv
    refine ⟨cur, hh, by omega, fun i hi => ?_, fun i hi => by omega⟩
    obtain ⟨v1, v2⟩ := keysV_at ks i (by omega)
    rw [← hx] at v1 v2
    rw [List.getElem?_take_of_lt (by omega)] at v1 v2
    rw [Array.getElem?_toList] at v1 v2
    exact ⟨v1, v2⟩
theorem Roomy2.holds {w : World} {B : Nat} {e : TypeId} {n : Nat} {ks : List KV} {k : Nat} (h : Roomy2 w B e n ks k) (hl : ks.length = n) : HoldsK w (some ⟨B, 0, none⟩) n ks := by
  obtain ⟨cs, h1, _, h3, _⟩ := h
  refine ⟨hl, fun _ => ⟨B, 0, rfl, fun i hi => ?_⟩⟩
  rw [Nat.zero_add, Joins.cell_of_block h1, Joins.cell_of_block h1]
  exact h3 i hi
theorem Roomy2.room {w : World} {B : Nat} {e : TypeId} {n : Nat} {ks : List KV} {k : Nat} (h : Roomy2 w B e n ks k) (i : Nat) (hi : i < k) : w.cell? ⟨B, n * 2 + i * 2, none⟩ = some (.int .i64 (-7)) ∧ w.cell? ⟨B, n * 2 + i * 2 + 1, none⟩ = some (.string ⟨#[]⟩) := by
  obtain ⟨cs, h1, _, _, h4⟩ := h
  rw [Joins.cell_of_block h1, Joins.cell_of_block h1]; exact h4 i hi
theorem Roomy2.there {w : World} {B : Nat} {e : TypeId} {n : Nat} {ks : List KV} {k : Nat} (h : Roomy2 w B e n ks k) (i : Nat) (hi : i < (n + 3) * 2) : ∃ v, w.cell? ⟨B, i, none⟩ = some v := by
  obtain ⟨cs, h1, h2, _, _⟩ := h
  exact ⟨cs[i]'(by omega), by rw [Joins.cell_of_block h1, Array.getElem?_eq_getElem (by omega)]⟩
theorem Roomy2.free {w : World} {B : Nat} {e : TypeId} {n : Nat} {ks : List KV} {k : Nat} (h : Roomy2 w B e n ks k) (i : Nat) : w.frozen? ⟨B, i, none⟩ = false := by
  obtain ⟨cs, h1, _, _, _⟩ := h
  exact Joins.unfrozen_of_block h1 i
theorem Roomy2.put {w : World} {B : Nat} {e : TypeId} {n : Nat} {ks : List KV} {k : Nat} (h : Roomy2 w B e n ks k) (hk : k < 3) : Roomy2 ((w.setCell ⟨B, n * 2 + k * 2, none⟩ (.int .i64 (-7))).setCell ⟨B, n * 2 + k * 2 + 1, none⟩ (.string ⟨#[]⟩)) B e n ks (k + 1) := by
  obtain ⟨cs, h1, h2, h3, h4⟩ := h
  refine ⟨_, Joins.block_setCell (Joins.block_setCell h1 _) _, by simpa using h2, fun i hi => ?_, fun i hi => ?_⟩
  · simp only [Array.getElem?_setIfInBounds]
    rw [if_neg (by omega), if_neg (by omega), if_neg (by omega), if_neg (by omega)]; exact h3 i hi
  · by_cases e1 : i = k
    · subst e1
      simp only [Array.getElem?_setIfInBounds, Array.size_setIfInBounds]
      constructor
      · rw [if_neg (by omega), if_pos trivial, if_pos (by omega)]
      · rw [if_pos trivial, if_pos (by omega)]
    · simp only [Array.getElem?_setIfInBounds]
      rw [if_neg (by omega), if_neg (by omega), if_neg (by omega), if_neg (by omega)]; exact h4 i (by omega)
theorem Roomy2.below {w w' : World} {B : Nat} {e : TypeId} {n : Nat} {ks : List KV} {k : Nat} (h : Roomy2 w B e n ks k) (hb : Below w.heap.size w w') : Roomy2 w' B e n ks k := by
  obtain ⟨cs, h1, h2⟩ := h
  exact ⟨cs, by rw [hb.block B (Array.getElem?_eq_some_iff.1 h1).1]; exact h1, h2⟩
end Go.Proofs.Ythboiklcjpnhbaa
