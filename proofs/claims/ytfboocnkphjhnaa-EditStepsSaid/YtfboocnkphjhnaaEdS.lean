/- Edit distances: a like beginning and end put about both; one step. -/
import Derived.Test.YtfboocnkphjhnaaEdA
import Derived.Test.YtfboocnkphjhnaaEdT
namespace Go.Proofs.Ytfboocnkphjhnaa
set_option linter.unusedVariables false
namespace Ed
/-- the distance of two lists -/
def D (a b : List Int) : Int := L a b a.length b.length
theorem L_backS (a b : List Int) (i j : Nat) : L a b i j ≤ L a b (i + 1) j + 1 ∧ L a b i j ≤ L a b i (j + 1) + 1 := by
  have h1 := L_tri a a b (i + (i + 1) + j) i (i + 1) j (by omega)
  have h2 := L_tri a b b (i + (j + 1) + j) i (j + 1) j (by omega)
  have h3 := L_right a a i i
  rw [L_same] at h3
  have h4 := L_left b b j j
  rw [L_same] at h4
  omega
theorem L_min (a b : List Int) (i j : Nat) : L a b (i + 1) (j + 1) = min (min (L a b i j + cost (a.getD i 0) (b.getD j 0)) (L a b (i + 1) j + 1)) (L a b i (j + 1) + 1) := by simp only [L]
theorem L_cons (c : Int) (a b : List Int) : ∀ n i j, i + j ≤ n → L (c :: a) (c :: b) (i + 1) (j + 1) = L a b i j := by
  intro n
  induction n with
  | zero =>
    intro i j h
    obtain rfl : i = 0 := by omega
    obtain rfl : j = 0 := by omega
    simp only [L]
    have : cost ((c :: a).getD 0 0) ((c :: b).getD 0 0) = 0 := by simp [cost]
    omega
  | succ n ih =>
    intro i j h
    cases i with
    | zero =>
      cases j with
      | zero =>
        simp only [L]
        have : cost ((c :: a).getD 0 0) ((c :: b).getD 0 0) = 0 := by simp [cost]
        omega
      | succ j =>
        have i1 := ih 0 j (by omega)
        rw [L_min, i1, L_zeroL, L_zeroL, L_zeroL, L_zeroL]
        have c1 := cost_bd ((c :: a).getD 0 0) ((c :: b).getD (j + 1) 0)
        omega
    | succ i =>
      cases j with
      | zero =>
        have i1 := ih i 0 (by omega)
        rw [L_min, i1, L_zero, L_zero, L_zero, L_zero]
        have c1 := cost_bd ((c :: a).getD (i + 1) 0) ((c :: b).getD 0 0)
        omega
      | succ j =>
        have i1 := ih i j (by omega)
        have i2 := ih (i + 1) j (by omega)
        have i3 := ih i (j + 1) (by omega)
        rw [L_min, i1, i2, i3, L_min]
        rfl
theorem D_cons (c : Int) (a b : List Int) : D (c :: a) (c :: b) = D a b := L_cons c a b _ _ _ (Nat.le_refl _)
theorem D_ahead (p a b : List Int) : D (p ++ a) (p ++ b) = D a b := by
  induction p with
  | nil => rfl
  | cons c p ih => rw [List.cons_append, List.cons_append, D_cons, ih]
theorem getD_app {a c : List Int} {i : Nat} (h : i < a.length) : (a ++ c).getD i 0 = a.getD i 0 := by
  simp [List.getD_eq_getElem?_getD, List.getElem?_append_left h]
theorem L_app (a b c d : List Int) : ∀ i, i ≤ a.length → ∀ j, j ≤ b.length → L (a ++ c) (b ++ d) i j = L a b i j := by
  intro i
  induction i with
  | zero => intro _ j _; simp only [L]
  | succ i ih =>
    intro hi j
    induction j with
    | zero => intro _; simp only [L]
    | succ j ihj =>
      intro hj
      rw [L_min, L_min, ih (by omega) j (by omega), ih (by omega) (j + 1) hj, ihj (by omega), getD_app (by omega), getD_app (by omega)]
theorem D_snoc (a b : List Int) (c : Int) : D (a ++ [c]) (b ++ [c]) = D a b := by
  have e1 : (a ++ [c]).length = a.length + 1 := by simp
  have e2 : (b ++ [c]).length = b.length + 1 := by simp
  unfold D
  rw [e1, e2, L_min, L_app a b [c] [c] _ (Nat.le_refl _) _ (Nat.le_refl _)]
  have h1 : (a ++ [c]).getD a.length 0 = c := by simp [List.getD_eq_getElem?_getD]
  have h2 : (b ++ [c]).getD b.length 0 = c := by simp [List.getD_eq_getElem?_getD]
  rw [h1, h2]
  have h3 : cost c c = 0 := by simp [cost]
  have h4 := L_backS (a ++ [c]) (b ++ [c]) a.length b.length
  rw [L_app a b [c] [c] _ (Nat.le_refl _) _ (Nat.le_refl _)] at h4
  omega
theorem D_behind (a b : List Int) : ∀ q : List Int, D (a ++ q) (b ++ q) = D a b := by
  intro q
  induction q generalizing a b with
  | nil => simp
  | cons c q ih =>
    have e1 : a ++ c :: q = (a ++ [c]) ++ q := by simp
    have e2 : b ++ c :: q = (b ++ [c]) ++ q := by simp
    rw [e1, e2, ih, D_snoc]
theorem D_about (p a b q : List Int) : D (p ++ a ++ q) (p ++ b ++ q) = D a b := by
  rw [D_behind, D_ahead]
theorem D_tri (a b c : List Int) : D a c ≤ D a b + D b c := L_tri a b c _ _ _ _ (Nat.le_refl _)
theorem D_sym (a b : List Int) : D a b = D b a := L_sym a b _ _
theorem D_small (u v : List Int) (h : u.length ≤ 1) (h2 : v.length ≤ 1) : D u v ≤ 1 := by
  have := L_up u v u.length v.length
  unfold D; omega
/-- one step makes a list one further at most -/
theorem D_step (p u v q b : List Int) (h : u.length ≤ 1) (h2 : v.length ≤ 1) : D (p ++ u ++ q) b ≤ D (p ++ v ++ q) b + 1 ∧ D (p ++ v ++ q) b ≤ D (p ++ u ++ q) b + 1 := by
  have h3 := D_small u v h h2
  have h4 := D_about p u v q
  have h5 := D_tri (p ++ u ++ q) (p ++ v ++ q) b
  have h6 := D_tri (p ++ v ++ q) (p ++ u ++ q) b
  have h7 := D_sym (p ++ v ++ q) (p ++ u ++ q)
  omega
end Ed
end Go.Proofs.Ytfboocnkphjhnaa
