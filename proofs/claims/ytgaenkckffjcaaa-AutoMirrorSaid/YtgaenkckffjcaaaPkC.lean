/- texts joined -/
import Derived.Test.YtgaenkckffjcaaaPkA
/- distances of lists read backwards -/
namespace Go.Proofs.Ytgaenkckffjcaaa
set_option linter.unusedVariables false
set_option maxRecDepth 20000
set_option linter.unusedSimpArgs false
namespace Ed
theorem min9 (g1 g2 g3 h1 h2 h3 k1 k2 k3 c k : Int) : min (min (min (min (g1 + k) (h1 + 1)) (k1 + 1) + c) (min (min (g2 + k) (h2 + 1)) (k2 + 1) + 1)) (min (min (g3 + k) (h3 + 1)) (k3 + 1) + 1) =
    min (min (min (min (g1 + c) (g2 + 1)) (g3 + 1) + k) (min (min (h1 + c) (h2 + 1)) (h3 + 1) + 1)) (min (min (k1 + c) (k2 + 1)) (k3 + 1) + 1) := by
  have hd : ∀ a b c : Int, min a b + c = min (a + c) (b + c) := fun a b c => by omega
  simp only [hd]
  have e1 : g1 + k + c = g1 + c + k := by omega
  have e2 : g2 + k + 1 = g2 + 1 + k := by omega
  have e3 : g3 + k + 1 = g3 + 1 + k := by omega
  have e4 : h1 + 1 + c = h1 + c + 1 := by omega
  have e5 : k1 + 1 + c = k1 + c + 1 := by omega
  rw [e1, e2, e3, e4, e5]
  ac_rfl
theorem L_minV (a b : List Int) (i j : Nat) : L a b (i + 1) (j + 1) = min (min (L a b i j + cost (a.getD i 0) (b.getD j 0)) (L a b (i + 1) j + 1)) (L a b i (j + 1) + 1) := by simp only [L]
/-- the table's step, at the lists' beginnings -/
theorem L_front (x y : Int) (a b : List Int) : ∀ N i j, i + j ≤ N → L (x :: a) (y :: b) (i + 1) (j + 1) = min (min (L a b i j + cost x y) (L (x :: a) b (i + 1) j + 1)) (L a (y :: b) i (j + 1) + 1) := by
  intro N
  induction N with
  | zero =>
    intro i j h
    obtain rfl : i = 0 := by omega
    obtain rfl : j = 0 := by omega
    rw [L_minV]
    simp only [L_zero, L_zeroL, List.getD_cons_zero]
  | succ N ih =>
    intro i j h
    cases i with
    | zero =>
      cases j with
      | zero => exact ih 0 0 (by omega)
      | succ j =>
        have h1 := ih 0 j (by omega)
        have e1 := L_minV (x :: a) (y :: b) 0 (j + 1)
        have e2 := L_minV (x :: a) b 0 j
        simp only [L_zero, L_zeroL, List.getD_cons_zero, List.getD_cons_succ, Nat.zero_add] at h1 e1 e2 ⊢
        omega
    | succ i =>
      cases j with
      | zero =>
        have h1 := ih i 0 (by omega)
        have e1 := L_minV (x :: a) (y :: b) (i + 1) 0
        have e2 := L_minV a (y :: b) i 0
        simp only [L_zero, L_zeroL, List.getD_cons_zero, List.getD_cons_succ, Nat.zero_add] at h1 e1 e2 ⊢
        omega
      | succ j =>
        have h1 := ih i j (by omega)
        have h2 := ih (i + 1) j (by omega)
        have h3 := ih i (j + 1) (by omega)
        have e1 := L_minV (x :: a) (y :: b) (i + 1) (j + 1)
        have e2 := L_minV a b i j
        have e3 := L_minV (x :: a) b (i + 1) j
        have e4 := L_minV a (y :: b) i (j + 1)
        simp only [List.getD_cons_succ] at e1 e2 e3 e4
        rw [e1, h1, h2, h3, e2, e3, e4]
        exact min9 _ _ _ _ _ _ _ _ _ _ _
theorem L_appV (a b c d : List Int) : ∀ i, i ≤ a.length → ∀ j, j ≤ b.length → L (a ++ c) (b ++ d) i j = L a b i j := by
  intro i
  induction i with
  | zero => intro _ j _; rw [L_zeroL, L_zeroL]
  | succ i ih =>
    intro hi j
    induction j with
    | zero => intro _; rw [L_zero, L_zero]
    | succ j ihj =>
      intro hj
      have g1 : (a ++ c).getD i 0 = a.getD i 0 := by rw [List.getD_eq_getElem?_getD, List.getD_eq_getElem?_getD, List.getElem?_append_left (by omega)]
      have g2 : (b ++ d).getD j 0 = b.getD j 0 := by rw [List.getD_eq_getElem?_getD, List.getD_eq_getElem?_getD, List.getElem?_append_left (by omega)]
      rw [L_minV, L_minV, ih (by omega) j (by omega), ih (by omega) (j + 1) hj, ihj (by omega), g1, g2]
theorem L_rev : ∀ (N : Nat) (a b : List Int), a.length + b.length ≤ N → L a.reverse b.reverse a.length b.length = L a b a.length b.length := by
  intro N
  induction N with
  | zero =>
    intro a b h
    have h1 : a = [] := List.length_eq_zero_iff.1 (by omega)
    have h2 : b = [] := List.length_eq_zero_iff.1 (by omega)
    subst h1 h2; rfl
  | succ N ih =>
    intro a b h
    cases a with
    | nil => simp only [List.length_nil, L_zeroL]
    | cons x a =>
      cases b with
      | nil => simp only [List.length_nil, L_zero]
      | cons y b =>
        simp only [List.length_cons] at h ⊢
        have h1 := ih a b (by omega)
        have h2 := ih (x :: a) b (by simp only [List.length_cons]; omega)
        have h3 := ih a (y :: b) (by simp only [List.length_cons]; omega)
        simp only [List.length_cons, List.reverse_cons] at h2 h3
        rw [List.reverse_cons, List.reverse_cons, L_front x y a b _ _ _ (Nat.le_refl _), L_minV]
        have g1 : (a.reverse ++ [x]).getD a.length 0 = x := by simp [List.getD_eq_getElem?_getD]
        have g2 : (b.reverse ++ [y]).getD b.length 0 = y := by simp [List.getD_eq_getElem?_getD]
        have k1 := L_appV a.reverse b.reverse [x] [y] a.length (by simp) b.length (by simp)
        have k2 := L_appV (a.reverse ++ [x]) b.reverse [] [y] (a.length + 1) (by simp) b.length (by simp)
        have k3 := L_appV a.reverse (b.reverse ++ [y]) [x] [] a.length (by simp) (b.length + 1) (by simp)
        rw [List.append_nil] at k2 k3
        rw [g1, g2, k1, k2, k3, h1, h2, h3]
end Ed
end Go.Proofs.Ytgaenkckffjcaaa
