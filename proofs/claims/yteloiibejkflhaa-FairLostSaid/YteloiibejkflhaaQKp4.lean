/- contracts of part.Less, may, Of, Lens, Least -/
import Derived.Test.YteloiibejkflhaaPkA
import Derived.Test.YteloiibejkflhaaQTx1
import Derived.Test.YteloiibejkflhaaQWd1
namespace Go.Proofs.Yteloiibejkflhaa
open Go.RowKit
set_option linter.unusedVariables false
set_option maxRecDepth 20000
theorem order_lit (a b : KV) (v : Int) (hv : ordK a b = v) (w : World) :
    Calls Try.prog 42 #[keyV a, keyV b] w fun e w' => e = .returned (.int .i64 v) ∧ Below w.heap.size w w' := by subst hv; exact order_any a b w
theorem box2 (w : World) (x y : Value) (t : TypeId) : ((w.alloc (.cells #[x] t)).alloc (.cells #[y] t)).heap.size = w.heap.size + 2 := by simp
theorem pless_any (a b : KV) (w : World) :
    Calls Try.prog 29 #[keyV a, keyV b] w fun e w' => e = .returned (.bool (lessK a b)) ∧ Below w.heap.size w w' := by
  unfold lessK
  have C := Lib.hid (fun w => order_any a b w)
  obtain ⟨v, hv⟩ : ∃ v, ordK a b = v := ⟨_, rfl⟩
  rw [hv] at C ⊢
  clear hv
  obtain ⟨a1, a2⟩ := a
  obtain ⟨b1, b2⟩ := b
  unfold keyV at C ⊢
  simp only at C ⊢
  go_enter Try.func29, Try.ntmps29
  go_wp2_with fail
  refine (C.out _).mono ?_
  rintro e w' ⟨rfl, hb⟩
  go_wp2_with fail
  go_ret
  exact ⟨rfl, ((Below.refl w.heap.size w).alloc (Nat.le_refl _) _ |>.alloc (by simp) _).trans (hb.mono (by simp; omega))⟩
theorem pless_lit (a b : KV) (c : Bool) (hc : lessK a b = c) (w : World) :
    Calls Try.prog 29 #[keyV a, keyV b] w fun e w' => e = .returned (.bool c) ∧ Below w.heap.size w w' := by subst hc; exact pless_any a b w
def mayK (k : KV) : Prop := 1 ≤ k.1 ∧ k.1 ≤ 12 ∧ 0 ≤ lenS k.2 ∧ lenS k.2 ≤ 12
instance (k : KV) : Decidable (mayK k) := by unfold mayK; infer_instance
theorem may_any (k : KV) (hk : KeyOk k) (w : World) :
    Calls Try.prog 28 #[keyV k] w fun e w' => e = .returned (.bool (decide (mayK k))) ∧ Below w.heap.size w w' := by
  obtain ⟨c, hcv⟩ : ∃ c, decide (mayK k) = c := ⟨_, rfl⟩
  rw [hcv]
  have hm : c = true ↔ mayK k := by rw [← hcv]; exact decide_eq_true_iff
  clear hcv
  obtain ⟨k1, k2⟩ := k
  have hb1 := hk.1
  unfold i64okK at hb1
  have C := Lib.hid (fun w => len_any k2 w hk.2)
  unfold mayK at hm
  unfold keyV
  simp only at hb1 hm ⊢
  have hs := hk.2
  simp only at hs
  obtain ⟨n, hn⟩ : ∃ n, lenS k2 = n := ⟨_, rfl⟩
  have hnb : -1 ≤ n ∧ n ≤ 9223372036854775807 := by rw [← hn]; have := lenS_bd k2; omega
  simp only [hn] at C hm
  clear hn hk
  have hcase : (k1 < 1 ∧ c = false) ∨ (1 ≤ k1 ∧ 12 < k1 ∧ c = false) ∨ (1 ≤ k1 ∧ k1 ≤ 12 ∧ n < 0 ∧ c = false) ∨ (1 ≤ k1 ∧ k1 ≤ 12 ∧ 0 ≤ n ∧ 12 < n ∧ c = false) ∨ (1 ≤ k1 ∧ k1 ≤ 12 ∧ 0 ≤ n ∧ n ≤ 12 ∧ c = true) := by
    cases c <;> simp at hm ⊢ <;> omega
  clear hm
  rcases hcase with ⟨h, rfl⟩ | ⟨h, h2, rfl⟩ | ⟨h, h2, h3, rfl⟩ | ⟨h, h2, h3, h4, rfl⟩ | ⟨h, h2, h3, h4, rfl⟩
  all_goals
    first
      | have x1 : decide (k1 ≥ 1) = false := by rw [decide_eq_false_iff_not]; omega
      | have x1 : decide (k1 ≥ 1) = true := by rw [decide_eq_true_iff]; omega
    first
      | have x2 : decide (k1 ≤ 12) = false := by rw [decide_eq_false_iff_not]; omega
      | have x2 : decide (k1 ≤ 12) = true := by rw [decide_eq_true_iff]; omega
      | skip
    first
      | have x3 : decide (n ≥ 0) = false := by rw [decide_eq_false_iff_not]; omega
      | have x3 : decide (n ≥ 0) = true := by rw [decide_eq_true_iff]; omega
      | skip
    first
      | have x4 : decide (n ≤ 12) = false := by rw [decide_eq_false_iff_not]; omega
      | have x4 : decide (n ≤ 12) = true := by rw [decide_eq_true_iff]; omega
      | skip
    have hcell : ∀ w', Below (w.alloc (.cells #[.int .i64 k1, .string k2] 48)).heap.size (w.alloc (.cells #[.int .i64 k1, .string k2] 48)) w' → w'.cell? ⟨w.heap.size, 0, none⟩ = some (.int .i64 k1) := fun w' hb => by
      rw [hb.cell (p := ⟨w.heap.size, 0, none⟩) (by simp)]; simp
    have HC := Lib.hid hcell
    clear hcell
    go_enter Try.func28, Try.ntmps28
    go_wp2_with fail
    refine (C.out _).mono ?_
    rintro e w' ⟨rfl, hb⟩
    have e1 := HC.out w' hb
    go_wp2_with fail
    go_ret
    exact ⟨rfl, (below_one w _).trans (hb.mono (by simp))⟩
theorem word_bool' {w : World} (s : Tx) (b : Bool) (hs : s.size ≤ 9223372036854775807) (hb : decide (wordP s) = b) :
    Calls Try.prog 26 #[.string s] w fun e w' => e = .returned (.bool b) ∧ Below w.heap.size w w' := by subst hb; exact word_any s w hs
/-! which shard a word belongs to -/
def keyOf (t : Tx) : KV := (lenS t, t)
def ofN (ks : List KV) (k : KV) : Nat := ks.findIdx fun c => decide (ordK k c < 0)
theorem ofN_le (ks : List KV) (k : KV) : ofN ks k ≤ ks.length := List.findIdx_le_length
def ofZ (ks : List KV) (t : Tx) : Int := if wordP t then ofN ks (keyOf t) else -1
theorem findIdx_take {α : Type} (p : α → Bool) (xs : List α) (z : α) (j : Nat) (hj : j < xs.length) (h : ∀ x ∈ xs.take j, p x = false) (hp : p (xs.getD j z) = true) : xs.findIdx p = j := by
  rw [List.findIdx_eq hj]
  have e : xs.getD j z = xs[j] := by simp [List.getD_eq_getElem?_getD, hj]
  refine ⟨by rw [← e]; exact hp, fun i hi => ?_⟩
  have h1 := h xs[i] (by rw [List.mem_take_iff_getElem]; exact ⟨i, by omega, rfl⟩)
  simpa using h1
theorem findIdx_none {α : Type} (p : α → Bool) (xs : List α) (h : ∀ x ∈ xs, p x = false) : xs.findIdx p = xs.length := by
  rw [List.findIdx_eq_length]; exact h
def idxZ (ks : List KV) (k : KV) : Int := if ofN ks k < ks.length then ofN ks k else -1
end Go.Proofs.Yteloiibejkflhaa
