/- contracts of part.Lens, Least, Slice -/
import Derived.Test.YteloiibejkflhaaQKp4
namespace Go.Proofs.Yteloiibejkflhaa
open Go.RowKit
set_option linter.unusedVariables false
set_option maxRecDepth 20000
theorem not_empty {x : Tx} (h : x ≠ ByteArray.empty) : x.toList.isEmpty = false := by
  rw [List.isEmpty_eq_false_iff]
  intro h2
  exact h (toList_inj (h2.trans (by rw [ByteArray.toList_eq]; rfl)))
def loK (ks : List KV) (s : Nat) : Int := if 0 < s then (ks.getD (s - 1) k0).1 else 1
def hiK (ks : List KV) (s : Nat) : Int := if s < ks.length then (if (ks.getD s k0).2 = ByteArray.empty then (ks.getD s k0).1 - 1 else (ks.getD s k0).1) else 12
theorem lo_bd {ks : List KV} (hm : ∀ k ∈ ks, mayK k) {s : Nat} (hs : s ≤ ks.length) : 1 ≤ loK ks s ∧ loK ks s ≤ 12 := by
  unfold loK
  split
  · have := hm _ (getD_memK ks (s - 1) (by omega)); unfold mayK at this; exact ⟨this.1, this.2.1⟩
  · omega
theorem hi_bd {ks : List KV} (hm : ∀ k ∈ ks, mayK k) {s : Nat} (hs : s ≤ ks.length) : 0 ≤ hiK ks s ∧ hiK ks s ≤ 12 := by
  unfold hiK
  split
  · have := hm _ (getD_memK ks s (by omega)); unfold mayK at this
    split <;> omega
  · omega
def leastK (ks : List KV) (s : Nat) (n : Int) : Int := if hiK ks s < loK ks s then -1 else max (max (loK ks s - n) (n - hiK ks s)) 0
end Go.Proofs.Yteloiibejkflhaa
