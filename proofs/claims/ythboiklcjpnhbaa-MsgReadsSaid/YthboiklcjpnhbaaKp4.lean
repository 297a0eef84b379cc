/- contracts of part.Less, may, Of, Lens, Least -/
import Derived.Test.YthboiklcjpnhbaaKp3
import Derived.Test.YthboiklcjpnhbaaTx1
import Derived.Test.YthboiklcjpnhbaaWd1
namespace Go.Proofs.Ythboiklcjpnhbaa
open Go.RowKit
set_option linter.unusedVariables false
set_option maxRecDepth 20000
theorem box2 (w : World) (x y : Value) (t : TypeId) : ((w.alloc (.cells #[x] t)).alloc (.cells #[y] t)).heap.size = w.heap.size + 2 := by simp
def mayK (k : KV) : Prop := 1 ≤ k.1 ∧ k.1 ≤ 12 ∧ 0 ≤ lenS k.2 ∧ lenS k.2 ≤ 12
instance (k : KV) : Decidable (mayK k) := by unfold mayK; infer_instance
theorem word_bool' {w : World} (s : Tx) (b : Bool) (hs : s.size ≤ 9223372036854775807) (hb : decide (wordP s) = b) :
    Calls Try.prog 100 #[.string s] w fun e w' => e = .returned (.bool b) ∧ Below w.heap.size w w' := by subst hb; exact word_any s w hs
/-! which shard a word belongs to -/
def keyOf (t : Tx) : KV := (lenS t, t)
def ofN (ks : List KV) (k : KV) : Nat := ks.findIdx fun c => decide (ordK k c < 0)
theorem ofN_le (ks : List KV) (k : KV) : ofN ks k ≤ ks.length := List.findIdx_le_length
def ofZ (ks : List KV) (t : Tx) : Int := if wordP t then ofN ks (keyOf t) else -1
theorem findIdx_take {α : Type} (p : α → Bool) (xs : List α) (z : α) (j : Nat) (hj : j < xs.length) (h : ∀ x ∈ xs.take j, p x = false) (hp : p (xs.getD j z) = true) : xs.findIdx p = j := by
  rw [List.findIdx_eq hj]
  have e : xs.getD j z = xs[j] := by simp [List.getD_eq_getElem?_getD, hj]
  refine ⟨by rw [← e]; exact hp, fun i hi => ?_⟩
  have h1 := h xs[i] (by rw [List.mem_take_iff_getElem]; exact ⟨i, by omega, rfl⟩)
  simpa using h1
theorem findIdx_none {α : Type} (p : α → Bool) (xs : List α) (h : ∀ x ∈ xs, p x = false) : xs.findIdx p = xs.length := by
  rw [List.findIdx_eq_length]; exact h
def idxZ (ks : List KV) (k : KV) : Int := if ofN ks k < ks.length then ofN ks k else -1
end Go.Proofs.Ythboiklcjpnhbaa
