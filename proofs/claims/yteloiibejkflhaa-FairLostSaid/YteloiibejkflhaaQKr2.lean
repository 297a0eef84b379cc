/- the laws of cuts: no word of a shard is nearer -/
import Derived.Test.YteloiibejkflhaaQKr1
import Derived.Test.YteloiibejkflhaaQAs1
import Derived.Test.YteloiibejkflhaaQEd4
import Derived.Test.YteloiibejkflhaaQEdA
import Derived.Test.YteloiibejkflhaaQEdT
import Derived.Test.YteloiibejkflhaaQOpT
namespace Go.Proofs.Yteloiibejkflhaa
open Go.RowKit
set_option linter.unusedVariables false
set_option maxRecDepth 20000
theorem ofN_below {ks : List KV} {k : KV} {i : Nat} (h : i < ofN ks k) (hi : i < ks.length) : ¬ ordK k (ks.getD i k0) < 0 := by
  have := List.not_of_lt_findIdx h
  have e : ks.getD i k0 = ks[i] := by simp [List.getD_eq_getElem?_getD, hi]
  rw [e]; simpa using this
theorem ofN_at {ks : List KV} {k : KV} (h : ofN ks k < ks.length) : ordK k (ks.getD (ofN ks k) k0) < 0 := by
  have h3 : decide (ordK k ks[ofN ks k] < 0) = true := List.findIdx_getElem (w := h)
  have e : ks.getD (ofN ks k) k0 = ks[ofN ks k] := by simp [List.getD_eq_getElem?_getD, h]
  rw [e]; exact of_decide_eq_true h3
theorem cmpS_empty (t : Tx) : ¬ cmpS t ByteArray.empty < 0 := by
  rw [cmpS_lt]
  have h : (ByteArray.empty).toList = [] := by rw [ByteArray.toList_eq]; rfl
  rw [h]
  exact List.not_lt_nil _
/-- the lengths that words of a shard have -/
theorem lens_of {ks : List KV} {t : Tx} (hw : wordP t) : loK ks (ofN ks (keyOf t)) ≤ lenS t ∧ lenS t ≤ hiK ks (ofN ks (keyOf t)) := by
  obtain ⟨s, hs⟩ : ∃ s, ofN ks (keyOf t) = s := ⟨_, rfl⟩
  have hle := ofN_le ks (keyOf t)
  have h1 := fun i => @ofN_below ks (keyOf t) i
  have h2 := @ofN_at ks (keyOf t)
  rw [hs] at hle h1 h2
  rw [hs]
  constructor
  · unfold loK
    split
    · have h3 := h1 (s - 1) (by omega) (by omega)
      rw [ordK_lt] at h3
      unfold keyOf at h3
      simp only at h3
      omega
    · exact hw.1
  · unfold hiK
    split
    · rename_i h4
      have h3 := h2 h4
      rw [ordK_lt] at h3
      unfold keyOf at h3
      simp only at h3
      split
      · rename_i h5
        rw [h5] at h3
        rcases h3 with h3 | h3
        · omega
        · exact absurd h3.2 (cmpS_empty t)
      · omega
    · exact hw.2
theorem dist_low {a b : Tx} (ha : 0 ≤ lenS a) (hb : 0 ≤ lenS b) : lenS a - lenS b ≤ distS a b ∧ lenS b - lenS a ≤ distS a b := by
  unfold distS
  rw [if_pos ⟨ha, hb⟩]
  have h := Ed.L_low (intsN (runesS a)) (intsN (runesS b)) (runesS a).length (runesS b).length
  have h1 := (lenS_pos ha).2
  have h2 := (lenS_pos hb).2
  omega
theorem least_low {ks : List KV} {t u : Tx} (hw : wordP t) (hu : 0 ≤ lenS u) : 0 ≤ leastK ks (ofN ks (keyOf t)) (lenS u) ∧ leastK ks (ofN ks (keyOf t)) (lenS u) ≤ distS t u := by
  obtain ⟨h1, h2⟩ := lens_of (ks := ks) hw
  have hwl := hw.1
  obtain ⟨h3, h4⟩ := dist_low (a := t) (b := u) (by omega) hu
  unfold leastK
  rw [if_neg (by omega)]
  have h0 : 0 ≤ distS t u := by
    unfold distS; rw [if_pos ⟨by omega, hu⟩]
    exact (Ed.L_bd _ _ _ _).1
  omega
end Go.Proofs.Yteloiibejkflhaa
