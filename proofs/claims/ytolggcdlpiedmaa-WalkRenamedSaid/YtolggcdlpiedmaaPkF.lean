/- texts joined -/
import Derived.WalkKit
import Derived.Test.YtolggcdlpiedmaaPkA
import Derived.OpenShut
import Derived.Lib.SmallJoins
import Derived.Deep.RegionHeld3
import Derived.Test.YtolggcdlpiedmaaChecked
import Derived.WalkLawsBesides
import Derived.WalkSpells
import Derived.Outline
import Derived.Deep.QuietTactic
import Derived.BigQuiet
import Derived.Deep.DeepCutAuto
import Derived.BigRegion
/- Edit distances by a table: plain lemmas. -/
namespace Go.Proofs.Ytolggcdlpiedmaa
set_option linter.unusedVariables false
set_option maxRecDepth 20000
namespace Ed
def cost (x y : Int) : Int := if x = y then 0 else 1
theorem cost_bd (x y : Int) : 0 ≤ cost x y ∧ cost x y ≤ 1 := by unfold cost; split <;> omega
/-- the distance of the first i of a and the first j of b -/
def L (a b : List Int) : Nat → Nat → Int
  | 0, j => j
  | i + 1, 0 => (i : Int) + 1
  | i + 1, j + 1 => min (min (L a b i j + cost (a.getD i 0) (b.getD j 0)) (L a b (i + 1) j + 1)) (L a b i (j + 1) + 1)
/-- a row of the table turned into the next one, for the rune r -/
def adv (R : List Int) (a : List Int) (r : Int) : Nat → Int
  | 0 => R.getD 0 0 + 1
  | i + 1 => min (min (R.getD i 0 + cost (a.getD i 0) r) (R.getD (i + 1) 0 + 1)) (adv R a r i + 1)
/-- the row of the first j of b -/
def row (a b : List Int) (j : Nat) : List Int := (List.range (a.length + 1)).map fun i => L a b i j
theorem row_length (a b : List Int) (j : Nat) : (row a b j).length = a.length + 1 := by simp [row]
theorem row_getD (a b : List Int) (j i : Nat) (h : i ≤ a.length) : (row a b j).getD i 0 = L a b i j := by
  simp [row, List.getD_eq_getElem?_getD, show i < a.length + 1 by omega]
theorem adv_row (a b : List Int) (j i : Nat) (h : i ≤ a.length) : adv (row a b j) a (b.getD j 0) i = L a b i (j + 1) := by
  induction i with
  | zero => rw [adv, row_getD a b j 0 (by omega)]; simp only [L]; omega
  | succ i ih => rw [adv, row_getD a b j i (by omega), row_getD a b j (i + 1) h, ih (by omega)]; simp only [L]
/-- the first k + 1 of a row turned, the rest as it was -/
def mix (R : List Int) (a : List Int) (r : Int) (k : Nat) : List Int := (List.range R.length).map fun i => if i ≤ k then adv R a r i else R.getD i 0
theorem mix_length (R a : List Int) (r : Int) (k : Nat) : (mix R a r k).length = R.length := by simp [mix]
theorem mix_old (R a : List Int) (r : Int) (k i : Nat) (h : i < R.length) (hk : k < i) : (mix R a r k).getD i 0 = R.getD i 0 := by
  simp [mix, List.getD_eq_getElem?_getD, h, show ¬ i ≤ k by omega]
theorem mix_new (R a : List Int) (r : Int) (k i : Nat) (h : i < R.length) (hk : i ≤ k) : (mix R a r k).getD i 0 = adv R a r i := by
  simp [mix, List.getD_eq_getElem?_getD, h, hk]
theorem mix_set (R a : List Int) (r : Int) (k : Nat) (h : k + 1 < R.length) : (mix R a r k).set (k + 1) (adv R a r (k + 1)) = mix R a r (k + 1) := by
  apply List.ext_getElem
  · simp [mix]
  · intro i h1 h2
    rw [List.getElem_set]
    simp only [mix, List.getElem_map, List.getElem_range]
    by_cases e : k + 1 = i
    · subst e; simp
    · rw [if_neg e]
      by_cases h3 : i ≤ k
      · simp [h3, show i ≤ k + 1 by omega]
      · simp [h3, show ¬ i ≤ k + 1 by omega]
theorem mix_zero (R a : List Int) (r : Int) (h : 0 < R.length) : R.set 0 (R.getD 0 0 + 1) = mix R a r 0 := by
  apply List.ext_getElem
  · simp [mix]
  · intro i h1 h2
    rw [List.getElem_set]
    simp only [mix, List.getElem_map, List.getElem_range]
    by_cases e : 0 = i
    · subst e; simp [adv]
    · rw [if_neg e, if_neg (by omega)]
      have h3 : i < R.length := by simpa using h1
      simp [List.getD_eq_getElem?_getD, h3]
theorem mix_all (a b : List Int) (j : Nat) : mix (row a b j) a (b.getD j 0) a.length = row a b (j + 1) := by
  unfold mix
  rw [row_length]
  refine List.map_congr_left fun i hi => ?_
  have := List.mem_range.1 hi
  rw [if_pos (by omega), adv_row a b j i (by omega)]
theorem adv_bd (R a : List Int) (r M : Int) (hM : 0 ≤ M) (h : ∀ i, 0 ≤ R.getD i 0 ∧ R.getD i 0 ≤ M) (i : Nat) : 0 ≤ adv R a r i ∧ adv R a r i ≤ M + 1 := by
  induction i with
  | zero => have := h 0; simp only [adv]; omega
  | succ i ih => have h1 := h i; have h2 := h (i + 1); have h3 := cost_bd (a.getD i 0) r; simp only [adv]; omega
theorem L_bd (a b : List Int) : ∀ i j, 0 ≤ L a b i j ∧ L a b i j ≤ (i : Int) + j := by
  intro i
  induction i with
  | zero => intro j; simp only [L]; omega
  | succ i ih =>
    intro j
    induction j with
    | zero => simp only [L]; omega
    | succ j ihj => have h1 := ih j; have h2 := ih (j + 1); have h3 := cost_bd (a.getD i 0) (b.getD j 0); simp only [L]; omega
theorem row_bd (a b : List Int) (j : Nat) : ∀ i, 0 ≤ (row a b j).getD i 0 ∧ (row a b j).getD i 0 ≤ (a.length : Int) + j := by
  intro i
  by_cases h : i ≤ a.length
  · rw [row_getD a b j i h]; have := L_bd a b i j; omega
  · have : (row a b j).getD i 0 = 0 := by
      rw [List.getD_eq_getElem?_getD, List.getElem?_eq_none (by rw [row_length]; omega)]; rfl
    omega
end Ed
end Go.Proofs.Ytolggcdlpiedmaa
/- Edit distances: lists that have no rune together, lists that have one; how much one step changes. -/
namespace Go.Proofs.Ytolggcdlpiedmaa
set_option linter.unusedVariables false
set_option maxRecDepth 20000
namespace Ed
theorem L_zero (a b : List Int) (i : Nat) : L a b i 0 = (i : Int) := by
  cases i with
  | zero => simp only [L]
  | succ i => simp only [L]; omega
theorem L_zeroL (a b : List Int) (j : Nat) : L a b 0 j = (j : Int) := by simp only [L]
theorem L_left (a b : List Int) (i j : Nat) : L a b (i + 1) j ≤ L a b i j + 1 := by
  cases j with
  | zero => rw [L_zero, L_zero]; omega
  | succ j => simp only [L]; omega
theorem L_right (a b : List Int) (i j : Nat) : L a b i (j + 1) ≤ L a b i j + 1 := by
  cases i with
  | zero => rw [L_zeroL, L_zeroL]; omega
  | succ i => simp only [L]; omega
theorem L_lefts (a b : List Int) (i j p : Nat) : L a b (i + p) j ≤ L a b i j + p := by
  induction p with
  | zero => simp
  | succ p ih => have := L_left a b (i + p) j; rw [← Nat.add_assoc]; omega
theorem L_rights (a b : List Int) (i j p : Nat) : L a b i (j + p) ≤ L a b i j + p := by
  induction p with
  | zero => simp
  | succ p ih => have := L_right a b i (j + p); rw [← Nat.add_assoc]; omega
theorem L_apart (a b : List Int) (h : ∀ i j, i < a.length → j < b.length → a.getD i 0 ≠ b.getD j 0) : ∀ i j, i ≤ a.length → j ≤ b.length → L a b i j = ((max i j : Nat) : Int) := by
  intro i
  induction i with
  | zero => intro j _ _; rw [L_zeroL]; simp
  | succ i ih =>
    intro j hi
    induction j with
    | zero => intro _; rw [L_zero]; simp
    | succ j ihj =>
      intro hj
      have h1 := ih j (by omega) (by omega)
      have h2 := ih (j + 1) (by omega) hj
      have h3 := ihj (by omega)
      have hc : cost (a.getD i 0) (b.getD j 0) = 1 := by unfold cost; rw [if_neg (h i j (by omega) (by omega))]
      simp only [L]
      rw [h1, h2, h3, hc]
      omega
theorem L_meet (a b : List Int) (i j : Nat) (hi : i < a.length) (hj : j < b.length) (h : a.getD i 0 = b.getD j 0) : L a b a.length b.length < (a.length : Int) + b.length := by
  have h1 : L a b (i + 1) (j + 1) ≤ L a b i j := by
    have hc : cost (a.getD i 0) (b.getD j 0) = 0 := by unfold cost; rw [if_pos h]
    simp only [L]; rw [hc]; omega
  have h2 := L_bd a b i j
  have h3 := L_lefts a b (i + 1) (j + 1) (a.length - (i + 1))
  have h4 := L_rights a b a.length (j + 1) (b.length - (j + 1))
  rw [show i + 1 + (a.length - (i + 1)) = a.length by omega] at h3
  rw [show j + 1 + (b.length - (j + 1)) = b.length by omega] at h4
  omega
end Ed
end Go.Proofs.Ytolggcdlpiedmaa
/- Edit distances are a metric. -/
namespace Go.Proofs.Ytolggcdlpiedmaa
set_option linter.unusedVariables false
set_option maxRecDepth 20000
namespace Ed
theorem cost_sym (x y : Int) : cost x y = cost y x := by
  unfold cost
  by_cases h : x = y
  · rw [if_pos h, if_pos h.symm]
  · rw [if_neg h, if_neg (fun e => h e.symm)]
theorem cost_tri (x y z : Int) : cost x z ≤ cost x y + cost y z := by
  unfold cost
  by_cases h : x = y
  · by_cases h2 : y = z
    · rw [if_pos h, if_pos h2, if_pos (h.trans h2)]; omega
    · rw [if_pos h, if_neg h2]; split <;> omega
  · rw [if_neg h]; split <;> split <;> omega
theorem L_sym (a b : List Int) : ∀ i j, L a b i j = L b a j i := by
  intro i
  induction i with
  | zero => intro j; rw [L_zeroL, L_zero]
  | succ i ih =>
    intro j
    induction j with
    | zero => rw [L_zero, L_zeroL]
    | succ j ihj =>
      have h1 := ih j; have h2 := ih (j + 1); have h3 := cost_sym (a.getD i 0) (b.getD j 0)
      simp only [L]
      rw [h1, h2, ihj, h3]
      omega
theorem L_low (a b : List Int) : ∀ (i j : Nat), (i : Int) - j ≤ L a b i j ∧ (j : Int) - i ≤ L a b i j := by
  intro i
  induction i with
  | zero => intro j; rw [L_zeroL]; omega
  | succ i ih =>
    intro j
    induction j with
    | zero => rw [L_zero]; omega
    | succ j ihj => have h1 := ih j; have h2 := ih (j + 1); have h3 := cost_bd (a.getD i 0) (b.getD j 0); simp only [L]; omega
theorem L_diag (a b : List Int) (i j : Nat) : L a b (i + 1) (j + 1) ≤ L a b i j + cost (a.getD i 0) (b.getD j 0) := by
  simp only [L]; omega
theorem L_up (a b : List Int) : ∀ i j, L a b i j ≤ ((max i j : Nat) : Int) := by
  intro i
  induction i with
  | zero => intro j; rw [L_zeroL]; omega
  | succ i ih =>
    intro j
    cases j with
    | zero => rw [L_zero]; omega
    | succ j => have h1 := ih j; have h2 := L_diag a b i j; have h3 := cost_bd (a.getD i 0) (b.getD j 0); omega
theorem L_same (a : List Int) : ∀ i, L a a i i = 0 := by
  intro i
  induction i with
  | zero => rw [L_zeroL]; rfl
  | succ i ih =>
    have h1 := L_diag a a i i
    have h2 := (L_bd a a (i + 1) (i + 1)).1
    have h3 : cost (a.getD i 0) (a.getD i 0) = 0 := by unfold cost; rw [if_pos rfl]
    omega
theorem L_none (a b : List Int) : ∀ i, L a b i i = 0 → ∀ t, t < i → a.getD t 0 = b.getD t 0 := by
  intro i
  induction i with
  | zero => intro _ t h; omega
  | succ i ih =>
    intro h t ht
    have h1 := L_bd a b i i; have h2 := L_bd a b (i + 1) i; have h3 := L_bd a b i (i + 1); have h4 := cost_bd (a.getD i 0) (b.getD i 0)
    simp only [L] at h
    have h5 : L a b i i = 0 := by omega
    have h6 : cost (a.getD i 0) (b.getD i 0) = 0 := by omega
    rcases Nat.lt_or_ge t i with h7 | h7
    · exact ih h5 t h7
    · obtain rfl : t = i := by omega
      unfold cost at h6
      split at h6
      · assumption
      · omega
theorem L_zero_iff (a b : List Int) : L a b a.length b.length = 0 ↔ a = b := by
  constructor
  · intro h
    have h1 := L_low a b a.length b.length
    have hl : a.length = b.length := by omega
    rw [← hl] at h
    have h2 := L_none a b a.length h
    apply List.ext_getElem hl
    intro i h3 h4
    have h5 := h2 i h3
    simpa [List.getD_eq_getElem?_getD, h3, h4] using h5
  · rintro rfl; exact L_same a _
theorem L_tri (a b c : List Int) : ∀ n i j k, i + j + k ≤ n → L a c i k ≤ L a b i j + L b c j k := by
  intro n
  induction n with
  | zero =>
    intro i j k h
    obtain rfl : i = 0 := by omega
    obtain rfl : j = 0 := by omega
    obtain rfl : k = 0 := by omega
    simp only [L]; omega
  | succ n ih =>
    intro i j k h
    cases i with
    | zero => rw [L_zeroL, L_zeroL]; have := L_low b c j k; omega
    | succ i =>
      cases k with
      | zero => rw [L_zero, L_zero]; have := L_low a b (i + 1) j; omega
      | succ k =>
        cases j with
        | zero => rw [L_zero, L_zeroL]; have := L_bd a c (i + 1) (k + 1); omega
        | succ j =>
          have i1 := ih i (j + 1) (k + 1) (by omega)
          have i2 := ih (i + 1) (j + 1) k (by omega)
          have i3 := ih (i + 1) j (k + 1) (by omega)
          have i4 := ih (i + 1) j k (by omega)
          have i5 := ih i j (k + 1) (by omega)
          have i6 := ih i j k (by omega)
          have u1 := L_left a c i (k + 1)
          have u2 := L_right a c (i + 1) k
          have u3 := L_diag a c i k
          have c1 := cost_bd (a.getD i 0) (b.getD j 0); have c2 := cost_bd (b.getD j 0) (c.getD k 0)
          have t := cost_tri (a.getD i 0) (b.getD j 0) (c.getD k 0)
          have x1 : L a b (i + 1) (j + 1) = min (min (L a b i j + cost (a.getD i 0) (b.getD j 0)) (L a b (i + 1) j + 1)) (L a b i (j + 1) + 1) := by simp only [L]
          have x2 : L b c (j + 1) (k + 1) = min (min (L b c j k + cost (b.getD j 0) (c.getD k 0)) (L b c (j + 1) k + 1)) (L b c j (k + 1) + 1) := by simp only [L]
          omega
end Ed
end Go.Proofs.Ytolggcdlpiedmaa
/- auto: states by the rows of a table: plain -/
namespace Go.Proofs.Ytolggcdlpiedmaa
set_option linter.unusedVariables false
set_option maxRecDepth 20000
namespace Au
abbrev Ps := List (Int × Int)
/-- the row behind j runes of p, at most k + 1 each -/
def cap (q p : List Int) (k : Int) (j i : Nat) : Int := min (Ed.L q p i j) (k + 1)
def needP (C : Nat → Int) (n : Nat) (k : Int) (i : Nat) : Prop := C i ≤ k ∧ ¬ (0 < i ∧ C (i - 1) < C i) ∧ ¬ (i < n ∧ C (i + 1) < C i)
instance (C : Nat → Int) (n : Nat) (k : Int) (i : Nat) : Decidable (needP C n k i) := by unfold needP; infer_instance
/-- the positions below m that no other one makes needless -/
def needL (C : Nat → Int) (n : Nat) (k : Int) (m : Nat) : Ps := ((List.range m).filter fun (i : Nat) => decide (needP C n k i)).map fun (i : Nat) => ((i : Int), C i)
theorem needL_zero (C : Nat → Int) (n : Nat) (k : Int) : needL C n k 0 = [] := rfl
theorem needL_succ (C : Nat → Int) (n : Nat) (k : Int) (m : Nat) : needL C n k (m + 1) = needL C n k m ++ (if needP C n k m then [((m : Int), C m)] else []) := by
  unfold needL
  rw [List.range_succ, List.filter_append, List.map_append]
  congr 1
  by_cases h : needP C n k m <;> simp [h]
theorem needL_mem {C : Nat → Int} {n : Nat} {k : Int} {m : Nat} {x : Int × Int} (h : x ∈ needL C n k m) : ∃ i : Nat, i < m ∧ needP C n k i ∧ x = ((i : Int), C i) := by
  unfold needL at h
  obtain ⟨i, hi, rfl⟩ := List.mem_map.1 h
  have := List.mem_filter.1 hi
  exact ⟨i, List.mem_range.1 this.1, of_decide_eq_true this.2, rfl⟩
/-- rows that are alike up to k have the same positions -/
theorem needL_like {C D : Nat → Int} {n : Nat} {k : Int} (h : ∀ i, i ≤ n → min (C i) (k + 1) = min (D i) (k + 1)) : ∀ m, m ≤ n + 1 → needL C n k m = needL D n k m := by
  intro m
  induction m with
  | zero => intro _; rfl
  | succ m ih =>
    intro hm
    rw [needL_succ, needL_succ, ih (by omega)]
    congr 1
    have h0 := h m (by omega)
    have h1 : 0 < m → min (C (m - 1)) (k + 1) = min (D (m - 1)) (k + 1) := fun _ => h (m - 1) (by omega)
    have h2 : m < n → min (C (m + 1)) (k + 1) = min (D (m + 1)) (k + 1) := fun _ => h (m + 1) (by omega)
    by_cases hk : C m ≤ k
    · have e : C m = D m := by omega
      have hp : needP C n k m ↔ needP D n k m := by
        unfold needP
        rw [← e]
        constructor
        · rintro ⟨a, b, c⟩
          refine ⟨a, fun ⟨x, y⟩ => b ⟨x, ?_⟩, fun ⟨x, y⟩ => c ⟨x, ?_⟩⟩
          · have := h1 x; omega
          · have := h2 x; omega
        · rintro ⟨a, b, c⟩
          refine ⟨a, fun ⟨x, y⟩ => b ⟨x, ?_⟩, fun ⟨x, y⟩ => c ⟨x, ?_⟩⟩
          · have := h1 x; omega
          · have := h2 x; omega
      by_cases hc : needP C n k m
      · rw [if_pos hc, if_pos (hp.1 hc), e]
      · rw [if_neg hc, if_neg fun x => hc (hp.2 x)]
    · rw [if_neg fun x => hk x.1, if_neg fun x => hk (by have := x.1; omega)]
/-- neighbours differ by one at most -/
def Lip (C : Nat → Int) (n : Nat) : Prop := ∀ i, i < n → C (i + 1) ≤ C i + 1 ∧ C i ≤ C (i + 1) + 1
theorem cap_bd (q p : List Int) (k : Int) (hk : 0 ≤ k) (j i : Nat) : 0 ≤ cap q p k j i ∧ cap q p k j i ≤ k + 1 := by
  unfold cap; have := Ed.L_bd q p i j; omega
theorem L_backA (a b : List Int) (i j : Nat) : Ed.L a b i j ≤ Ed.L a b (i + 1) j + 1 := by
  have h : ∀ j i, Ed.L a b i j ≤ Ed.L a b (i + 1) j + 1 := by
    intro j
    induction j with
    | zero => intro i; rw [Ed.L_zero, Ed.L_zero]; omega
    | succ j ih =>
      intro i
      have e : Ed.L a b (i + 1) (j + 1) = min (min (Ed.L a b i j + Ed.cost (a.getD i 0) (b.getD j 0)) (Ed.L a b (i + 1) j + 1)) (Ed.L a b i (j + 1) + 1) := by simp only [Ed.L]
      have h1 := ih i
      have h2 := Ed.L_right a b i j
      have h3 := Ed.cost_bd (a.getD i 0) (b.getD j 0)
      omega
  exact h j i
theorem cap_lip (q p : List Int) (k : Int) (j n : Nat) : Lip (cap q p k j) n := by
  intro i _
  unfold cap
  have h1 := Ed.L_left q p i j
  have h2 := L_backA q p i j
  omega
theorem L_lip (q p : List Int) (j n : Nat) : Lip (fun i => Ed.L q p i j) n := fun i _ => ⟨Ed.L_left q p i j, L_backA q p i j⟩
theorem lip_chain {C : Nat → Int} {n : Nat} (h : Lip C n) (i : Nat) : ∀ p, i + p ≤ n → C (i + p) ≤ C i + p ∧ C i ≤ C (i + p) + p := by
  intro p
  induction p with
  | zero => intro _; simp
  | succ p ih =>
    intro hp
    have h1 := ih (by omega)
    have h2 := h (i + p) (by omega)
    rw [show i + (p + 1) = i + p + 1 by omega]
    omega
/-! ## spread -/
def base (s : Ps) (k : Int) (i : Nat) : Int := s.foldl (fun d p => if p.1 = (i : Int) then min d p.2 else d) (k + 1)
theorem base_snoc (s : Ps) (x : Int × Int) (k : Int) (i : Nat) : base (s ++ [x]) k i = if x.1 = (i : Int) then min (base s k i) x.2 else base s k i := by simp [base, List.foldl_append]
theorem base_need (C : Nat → Int) (n : Nat) (k : Int) (i : Nat) : ∀ m, base (needL C n k m) k i = if i < m ∧ needP C n k i then C i else k + 1 := by
  intro m
  induction m with
  | zero => simp [needL_zero, base]
  | succ m ih =>
    rw [needL_succ]
    by_cases h : needP C n k m
    · rw [if_pos h, base_snoc, ih]
      by_cases e : m = i
      · subst e
        have := h.1
        rw [if_pos rfl, if_neg (by omega), if_pos ⟨by omega, h⟩]
        simp only
        omega
      · rw [if_neg (by simp only; omega)]
        by_cases hn : needP C n k i
        · by_cases hi : i < m
          · rw [if_pos ⟨hi, hn⟩, if_pos ⟨by omega, hn⟩]
          · rw [if_neg (fun x => hi x.1), if_neg (fun x => hi (by omega))]
        · rw [if_neg (fun x => hn x.2), if_neg (fun x => hn x.2)]
    · rw [if_neg h, List.append_nil, ih]
      by_cases hn : needP C n k i
      · have hne : i ≠ m := fun e => h (e ▸ hn)
        by_cases hi : i < m
        · rw [if_pos ⟨hi, hn⟩, if_pos ⟨by omega, hn⟩]
        · rw [if_neg (fun x => hi x.1), if_neg (fun x => by omega)]
      · rw [if_neg (fun x => hn x.2), if_neg (fun x => hn x.2)]
def fwd (b : Nat → Int) : Nat → Int
  | 0 => b 0
  | i + 1 => min (b (i + 1)) (fwd b i + 1)
/-- from the end, t steps back -/
def bwt (f : Nat → Int) (n : Nat) : Nat → Int
  | 0 => f n
  | t + 1 => min (f (n - (t + 1))) (bwt f n t + 1)
theorem fwd_le (b : Nat → Int) : ∀ i, fwd b i ≤ b i
  | 0 => Int.le_refl _
  | i + 1 => by simp only [fwd]; omega
theorem bwt_le (f : Nat → Int) (n : Nat) : ∀ t, bwt f n t ≤ f (n - t)
  | 0 => Int.le_refl _
  | t + 1 => by simp only [bwt]; omega
theorem fwd_ge {b C : Nat → Int} {n : Nat} (hl : Lip C n) (h : ∀ i, i ≤ n → C i ≤ b i) : ∀ i, i ≤ n → C i ≤ fwd b i := by
  intro i
  induction i with
  | zero => intro hi; exact h 0 hi
  | succ i ih =>
    intro hi
    have h1 := ih (by omega); have h2 := h (i + 1) hi; have h3 := hl i (by omega)
    simp only [fwd]; omega
theorem bwt_ge {f C : Nat → Int} {n : Nat} (hl : Lip C n) (h : ∀ i, i ≤ n → C i ≤ f i) : ∀ t, t ≤ n → C (n - t) ≤ bwt f n t := by
  intro t
  induction t with
  | zero => intro _; exact h n (Nat.le_refl _)
  | succ t ih =>
    intro ht
    have h1 := ih (by omega); have h2 := h (n - (t + 1)) (by omega); have h3 := hl (n - (t + 1)) (by omega)
    rw [show n - (t + 1) + 1 = n - t by omega] at h3
    simp only [bwt]; omega
def bs (C : Nat → Int) (n : Nat) (k : Int) (i : Nat) : Int := if needP C n k i then C i else k + 1
theorem fwd_left {C : Nat → Int} {n : Nat} {k : Int} (hl : Lip C n) (hc : ∀ i, i ≤ n → C i ≤ k + 1) : ∀ i, i < n → C i < C (i + 1) → fwd (bs C n k) i ≤ C i := by
  intro i
  induction i with
  | zero =>
    intro h h1
    have h2 := hc 1 h
    simp only [Nat.zero_add] at h1
    have : needP C n k 0 := ⟨by omega, by omega, fun x => by have := x.2; simp only [Nat.zero_add] at this; omega⟩
    have := fwd_le (bs C n k) 0
    simp only [bs, if_pos ‹needP C n k 0›] at this
    exact this
  | succ i ih =>
    intro h h1
    have h2 := hc (i + 1 + 1) h
    by_cases hp : needP C n k (i + 1)
    · have h3 := fwd_le (bs C n k) (i + 1)
      simp only [bs, if_pos hp] at h3
      exact h3
    · have h4 : C i < C (i + 1) := by
        rcases Int.lt_or_le (C i) (C (i + 1)) with x | x
        · exact x
        · exact absurd ⟨by omega, fun y => by have := y.2; rw [Nat.add_sub_cancel] at this; omega, fun y => by have := y.2; omega⟩ hp
      have h5 := ih (by omega) h4
      simp only [fwd]; omega
theorem bwt_right {C : Nat → Int} {n : Nat} {k : Int} (hl : Lip C n) (hc : ∀ i, i ≤ n → C i ≤ k + 1) : ∀ t, t < n → C (n - t) < C (n - t - 1) → bwt (fwd (bs C n k)) n t ≤ C (n - t) := by
  intro t
  induction t with
  | zero =>
    intro h h1
    have h2 := hc (n - 0 - 1) (by omega)
    have hp : needP C n k n := ⟨by simp only [Nat.sub_zero] at h1; have := hc (n - 1) (by omega); omega, fun x => by have := x.2; simp only [Nat.sub_zero] at h1; omega, by omega⟩
    have h3 := fwd_le (bs C n k) n
    simp only [bs, if_pos hp] at h3
    simp only [bwt, Nat.sub_zero]; exact h3
  | succ t ih =>
    intro h h1
    have h2 := hc (n - (t + 1) - 1) (by omega)
    by_cases hp : needP C n k (n - (t + 1))
    · have h3 := fwd_le (bs C n k) (n - (t + 1))
      have h4 := bwt_le (fwd (bs C n k)) n (t + 1)
      simp only [bs, if_pos hp] at h3
      omega
    · have h4 : C (n - t) < C (n - t - 1) := by
        rw [show n - t - 1 = n - (t + 1) by omega]
        rcases Int.lt_or_le (C (n - t)) (C (n - (t + 1))) with x | x
        · exact x
        · refine absurd ⟨by omega, fun y => by have := y.2; omega, fun y => by have := y.2; rw [show n - (t + 1) + 1 = n - t by omega] at this; omega⟩ hp
      have h5 := ih (by omega) h4
      have h6 : C (n - t) + 1 ≤ C (n - (t + 1)) := by rw [show n - t - 1 = n - (t + 1) by omega] at h4; omega
      simp only [bwt]; omega
/-- what is spread out of a row's positions is the row -/
theorem spread_same {C : Nat → Int} {n : Nat} {k : Int} (hl : Lip C n) (hc : ∀ i, i ≤ n → C i ≤ k + 1) : ∀ t, t ≤ n → bwt (fwd (bs C n k)) n t = C (n - t) := by
  intro t ht
  have hb : ∀ i, i ≤ n → C i ≤ bs C n k i := fun i hi => by unfold bs; split; exact Int.le_refl _; exact hc i hi
  have hge := bwt_ge hl (fwd_ge hl hb) t ht
  have hle := bwt_le (fwd (bs C n k)) n t
  have hle2 := fwd_le (bs C n k) (n - t)
  obtain ⟨i, hi⟩ : ∃ i, n - t = i := ⟨_, rfl⟩
  rw [hi] at hge hle hle2 ⊢
  have hin : i ≤ n := by omega
  by_cases hk : C i ≤ k
  · by_cases hp : needP C n k i
    · simp only [bs, if_pos hp] at hle2; omega
    · by_cases h1 : 0 < i ∧ C (i - 1) < C i
      · obtain ⟨j, rfl⟩ : ∃ j, i = j + 1 := ⟨i - 1, by omega⟩
        have h2 := h1.2
        rw [Nat.add_sub_cancel] at h2
        have h3 := fwd_left hl hc j (by omega) h2
        have h4 : fwd (bs C n k) (j + 1) ≤ fwd (bs C n k) j + 1 := by simp only [fwd]; omega
        omega
      · have h2 : i < n ∧ C (i + 1) < C i := by
          by_cases x : i < n ∧ C (i + 1) < C i
          · exact x
          · exact absurd ⟨hk, h1, x⟩ hp
        obtain ⟨u, rfl⟩ : ∃ u, t = u + 1 := ⟨t - 1, by omega⟩
        have h3 := bwt_right hl hc u (by omega) (by rw [show n - u = i + 1 by omega, Nat.add_sub_cancel]; exact h2.2)
        rw [show n - u = i + 1 by omega] at h3
        simp only [bwt] at hge ⊢
        omega
  · have : bs C n k i ≤ k + 1 := by unfold bs; split; exact hc i hin; exact Int.le_refl _
    have := hc i hin
    omega
theorem adv_cap {q p : List Int} {k : Int} {j : Nat} {R : List Int} (hk : 0 ≤ k) (hR : ∀ i, i ≤ q.length → R.getD i 0 = cap q p k j i) : ∀ i, i ≤ q.length → min (Ed.adv R q (p.getD j 0) i) (k + 1) = cap q p k (j + 1) i := by
  intro i
  induction i with
  | zero =>
    intro hi
    rw [Ed.adv, hR 0 hi]
    unfold cap
    rw [Ed.L_zeroL, Ed.L_zeroL]; omega
  | succ i ih =>
    intro hi
    have h1 := ih (by omega)
    rw [Ed.adv, hR i (by omega), hR (i + 1) hi]
    have e : Ed.L q p (i + 1) (j + 1) = min (min (Ed.L q p i j + Ed.cost (q.getD i 0) (p.getD j 0)) (Ed.L q p (i + 1) j + 1)) (Ed.L q p i (j + 1) + 1) := by simp only [Ed.L]
    have h3 := Ed.cost_bd (q.getD i 0) (p.getD j 0)
    unfold cap at h1 ⊢
    rw [e]
    omega
/-! ## how near the whole text is -/
def dmin (s : Ps) (n : Nat) (k : Int) : Int := s.foldl (fun d p => min d (p.2 + n - p.1)) (k + 1)
theorem dmin_snoc (s : Ps) (x : Int × Int) (n : Nat) (k : Int) : dmin (s ++ [x]) n k = min (dmin s n k) (x.2 + n - x.1) := by simp [dmin, List.foldl_append]
theorem dmin_fwd {C : Nat → Int} {n : Nat} {k : Int} : ∀ i, i ≤ n → dmin (needL C n k (i + 1)) n k = min (fwd (bs C n k) i + ((n : Int) - i)) (k + 1) := by
  intro i
  induction i with
  | zero =>
    intro _
    rw [needL_succ, needL_zero, List.nil_append]
    simp only [fwd, bs]
    by_cases h : needP C n k 0
    · simp only [if_pos h, dmin, List.foldl_cons, List.foldl_nil]; omega
    · simp only [if_neg h, dmin, List.foldl_nil]; omega
  | succ i ih =>
    intro hi
    have h1 := ih (by omega)
    rw [needL_succ]
    simp only [fwd]
    by_cases h : needP C n k (i + 1)
    · rw [if_pos h, dmin_snoc, h1]
      have : bs C n k (i + 1) = C (i + 1) := by simp only [bs, if_pos h]
      rw [this]; simp only; omega
    · rw [if_neg h, List.append_nil, h1]
      have : bs C n k (i + 1) = k + 1 := by simp only [bs, if_neg h]
      rw [this]; omega
theorem dmin_whole {C : Nat → Int} {n : Nat} {k : Int} (hl : Lip C n) (hc : ∀ i, i ≤ n → C i ≤ k + 1) : dmin (needL C n k (n + 1)) n k = C n := by
  rw [dmin_fwd n (Nat.le_refl _)]
  have h := spread_same hl hc 0 (by omega)
  simp only [bwt, Nat.sub_zero] at h
  have := hc n (Nat.le_refl _)
  rw [h]; omega
/-! ## the document's way -/
theorem dom_iff {C : Nat → Int} {n : Nat} {k : Int} (hl : Lip C n) {i : Nat} (hi : i ≤ n) (hk : C i ≤ k) :
    (∃ j, j ≤ n ∧ C j ≤ k ∧ C j < C i ∧ max ((i : Int) - j) ((j : Int) - i) ≤ C i - C j) ↔ (0 < i ∧ C (i - 1) < C i) ∨ (i < n ∧ C (i + 1) < C i) := by
  constructor
  · rintro ⟨j, hj, h1, h2, h3⟩
    rcases Nat.lt_trichotomy j i with e | e | e
    · left
      have h4 := lip_chain hl j (i - 1 - j) (by omega)
      rw [show j + (i - 1 - j) = i - 1 by omega] at h4
      exact ⟨by omega, by omega⟩
    · subst e; omega
    · right
      have h4 := lip_chain hl (i + 1) (j - (i + 1)) (by omega)
      rw [show i + 1 + (j - (i + 1)) = j by omega] at h4
      exact ⟨by omega, by omega⟩
  · rintro (⟨h1, h2⟩ | ⟨h1, h2⟩)
    · exact ⟨i - 1, by omega, by omega, h2, by omega⟩
    · exact ⟨i + 1, by omega, by omega, h2, by omega⟩
/-! ## the window -/
theorem need_low {q p : List Int} {k : Int} {j i : Nat} (h : needP (cap q p k j) q.length k i) : (i : Int) - j ≤ cap q p k j i ∧ (j : Int) - i ≤ cap q p k j i ∧ cap q p k j i ≤ k := by
  have h1 := Ed.L_low q p i j
  have h2 := h.1
  unfold cap at h2 ⊢
  omega
theorem range_between (lo hi : Nat) (P : Nat → Bool) (hP : ∀ i, P i = true → lo ≤ i ∧ i < hi) : ∀ m, ((List.range m).filter P).length ≤ min m hi - lo := by
  intro m
  induction m with
  | zero => simp
  | succ m ih =>
    rw [List.range_succ, List.filter_append, List.length_append]
    by_cases h : P m = true
    · have := hP m h
      simp [h]; omega
    · simp [h]; omega
theorem need_len {q p : List Int} {k : Int} {j : Nat} (hk : 0 ≤ k) (m : Nat) : ((needL (cap q p k j) q.length k m).length : Int) ≤ 2 * k + 1 := by
  unfold needL
  rw [List.length_map]
  obtain ⟨K, rfl⟩ : ∃ K : Nat, k = (K : Int) := ⟨k.toNat, by omega⟩
  have := range_between (j - K) (j + K + 1) (fun i => decide (needP (cap q p K j) q.length K i)) (fun i h => by
    have := need_low (of_decide_eq_true h); omega) m
  omega
end Au
end Go.Proofs.Ytolggcdlpiedmaa
/- append at one operation of a region that draws -/
namespace Go.Proofs.Ytolggcdlpiedmaa
open Go.RowKit
set_option linter.unusedVariables false
set_option maxRecDepth 20000
/-- 'append(v, x...)' at one operation, x whatever slice (nil too): the value is a slice of the call's own -/
theorem wp_append_opt {P : Program} {w : World} {o : Oper} {a : Act} {K : Act → World → Prop} {Q : Exit → Act → World → Prop} (s x : Operand) (t : TypeId)
    (ho : o.op = .call { callee := .builtin .append, args := #[s, x], argTypes := #[t, t] })
    (base : Nat) (e : TypeId) (i : TypeInfo) (z : Value) (size bytes : Nat) (ht : P.underlying t = some (.slice e)) (hi : P.info? e = some i) (hz : i.zero = some z)
    (hsize : i.size = size) (hby : i.bytes = bytes) (hzs : z.cells.size = size) (hsz : 0 < size)
    (v : Value) (n : Nat) (xs : List Value) (hs : a.eval s = v) (hown : w.ownsRow base e size v n xs)
    (ao : Option Addr) (m c : Nat) (news : List Value) (hx : a.eval x = .slice ao m c) (hnone : ao = none → m = 0 ∧ c = 0) (hl : news.length = m * size)
    (hnews : ∀ ad, ao = some ad → ∀ j u, news[j]? = some u → w.cell? (ad.add j) = some u) (h1 : ∀ u ∈ news, u.oneCell' = true)
    (h63 : n + m ≤ maxLen) (hbytes : (n + m) * bytes ≤ 140737488355328) (hbase : base ≤ w.heap.size)
    (h : ∀ a' c' w', w'.ownsRow base e size (.slice a' (n + m) c') (n + m) (xs ++ news) → Below base w w' → K (a.put o.dst (.slice a' (n + m) c')) w') : o.wp P a w K Q := by
  have fin : ∀ v' w', w'.ownsRow base e size v' (n + m) (xs ++ news) → Below base w w' → K (a.put o.dst v') w' := by
    intro v' w' ho' hb'
    rcases Joins.ownsRow_forms ho' with ⟨rfl, h0⟩ | ⟨g, cap, rfl⟩
    · have := h none 0 w' (by rw [h0] at ho' ⊢; exact ho') hb'
      rw [h0] at this
      exact this
    · exact h _ _ w' ho' hb'
  cases ao with
  | some ad =>
    refine wp_append_own w s x t ho base e i z size bytes ht hi hz hsize hby hzs hsz v n xs hs hown ad m c news hx hl (hnews ad rfl) h1 h63 hbytes hbase fun v' w' h2 h3 _ => ?_
    exact fin v' w' h2 ((Below.refl base w).grown h3 hbase fun k hk => (hown.lt k hk).1)
  | none =>
    obtain ⟨rfl, rfl⟩ := hnone rfl
    have hn : news = [] := List.eq_nil_of_length_eq_zero (by simpa using hl)
    subst hn
    have hr := run_append_owned_none w base t o.type e i size ht hi v n xs hown
    unfold Oper.wp execOp
    simp only [ho, resolve, invoke, builtin, Sem.run_bind, Sem.run_pure, Result.andThen_ok, List.map_toArray, List.map_cons, List.map_nil, hs, hx, hr]
    exact fin v w (by simpa using hown) (Below.refl _ _)
/-- the first append of a row: onto nil -/
theorem wp_append_first {P : Program} {w : World} {o : Oper} {a : Act} {K : Act → World → Prop} {Q : Exit → Act → World → Prop} (s x : Operand) (t : TypeId)
    (ho : o.op = .call { callee := .builtin .append, args := #[s, x], argTypes := #[t, t] })
    (e : TypeId) (i : TypeInfo) (z : Value) (size bytes : Nat) (ht : P.underlying t = some (.slice e)) (hi : P.info? e = some i) (hz : i.zero = some z)
    (hsize : i.size = size) (hby : i.bytes = bytes) (hzs : z.cells.size = size) (hsz : 0 < size)
    (hs : a.eval s = .slice none 0 0)
    (ao : Option Addr) (m c : Nat) (news : List Value) (hx : a.eval x = .slice ao m c) (hnone : ao = none → m = 0 ∧ c = 0) (hl : news.length = m * size)
    (hnews : ∀ ad, ao = some ad → ∀ j u, news[j]? = some u → w.cell? (ad.add j) = some u) (h1 : ∀ u ∈ news, u.oneCell' = true)
    (h63 : m ≤ maxLen) (hbytes : m * bytes ≤ 140737488355328)
    (h : ∀ a' c' w', w'.ownsRow w.heap.size e size (.slice a' m c') m news → Below w.heap.size w w' → K (a.put o.dst (.slice a' m c')) w') : o.wp P a w K Q := by
  refine wp_append_opt s x t ho w.heap.size e i z size bytes ht hi hz hsize hby hzs hsz (.slice none 0 0) 0 [] hs (World.ownsRow_nil _ _ _ _) ao m c news hx hnone hl hnews h1 (by omega) (by rw [Nat.zero_add]; exact hbytes) (Nat.le_refl _) ?_
  intro a' c' w' h2 h3
  rw [Nat.zero_add] at h2 ⊢
  exact h a' c' w' h2 h3
/-- 'append(v, x...)' at one operation, the sum of the lengths by a name of its own -/
theorem wp_append_n {P : Program} {w : World} {o : Oper} {a : Act} {K : Act → World → Prop} {Q : Exit → Act → World → Prop} (s x : Operand) (t : TypeId)
    (ho : o.op = .call { callee := .builtin .append, args := #[s, x], argTypes := #[t, t] })
    (base : Nat) (e : TypeId) (i : TypeInfo) (z : Value) (size bytes : Nat) (ht : P.underlying t = some (.slice e)) (hi : P.info? e = some i) (hz : i.zero = some z)
    (hsize : i.size = size) (hby : i.bytes = bytes) (hzs : z.cells.size = size) (hsz : 0 < size)
    (v : Value) (n : Nat) (xs : List Value) (hs : a.eval s = v) (hown : w.ownsRow base e size v n xs)
    (ao : Option Addr) (m c : Nat) (news : List Value) (hx : a.eval x = .slice ao m c) (hnone : ao = none → m = 0 ∧ c = 0) (hl : news.length = m * size)
    (hnews : ∀ ad, ao = some ad → ∀ j u, news[j]? = some u → w.cell? (ad.add j) = some u) (h1 : ∀ u ∈ news, u.oneCell' = true) (N : Nat) (hN : n + m = N)
    (h63 : N ≤ maxLen) (hbytes : N * bytes ≤ 140737488355328) (hbase : base ≤ w.heap.size)
    (h : ∀ a' c' w', w'.ownsRow base e size (.slice a' N c') N (xs ++ news) → Below base w w' → K (a.put o.dst (.slice a' N c')) w') : o.wp P a w K Q := by
  subst hN
  exact wp_append_opt s x t ho base e i z size bytes ht hi hz hsize hby hzs hsz v n xs hs hown ao m c news hx hnone hl hnews h1 h63 hbytes hbase h
end Go.Proofs.Ytolggcdlpiedmaa
/- a number, from 0 to below n -/
namespace Go.Proofs.Ytolggcdlpiedmaa
open Go.RowKit
set_option linter.unusedVariables false
set_option maxRecDepth 20000
def lowV (x n : Int) : Int := IntKind.u64.wrap x % n
theorem low_bd (x n : Int) (h : 0 < n) : 0 ≤ lowV x n ∧ lowV x n < n := ⟨Int.emod_nonneg _ (by omega), Int.emod_lt_of_pos _ h⟩
theorem u64_in (n : Int) (h : 0 ≤ n) (h2 : n < 18446744073709551616) : IntKind.u64.wrap n = n := by
  simp only [IntKind.wrap, IntKind.signed, IntKind.bits]; simp; omega
theorem u64_bdL (d : Int) : 0 ≤ IntKind.u64.wrap d ∧ IntKind.u64.wrap d < 18446744073709551616 := by
  simp only [IntKind.wrap, IntKind.signed, IntKind.bits]; simp; omega
theorem low_any (x n : Int) (h : 1 ≤ n) (h2 : n < 4611686018427387904) (w : World) :
    Calls Try.prog 24 #[.int .i64 x, .int .i64 n] w fun e w' => e = .returned (.int .i64 (lowV x n)) ∧ w = w' := by
  have hb := low_bd x n (by omega)
  have hw := u64_in n (by omega) (by omega)
  have hx := u64_bdL x
  go_enter Try.func24, Try.ntmps24
  go_wp2
  go_ret
  exact ⟨ret_int (by unfold lowV at *; rw [IntWalk.wrap64_in _ ⟨by omega, by omega⟩]), rfl⟩
end Go.Proofs.Ytolggcdlpiedmaa
/- lists of positions (two numbers each) -/
namespace Go.Proofs.Ytolggcdlpiedmaa
open Go.RowKit
set_option linter.unusedVariables false
set_option maxRecDepth 20000
abbrev PV := Int × Int
def p0 : PV := (0, 0)
def HoldsP (w : World) (a : Option Addr) (n : Nat) (ks : List PV) : Prop := ks.length = n ∧ (0 < n → ∃ b o, a = some ⟨b, o, none⟩ ∧ ∀ i, i < n → w.cell? ⟨b, o + i * 2, none⟩ = some (.int .i64 (ks.getD i p0).1) ∧ w.cell? ⟨b, o + i * 2 + 1, none⟩ = some (.int .i64 (ks.getD i p0).2))
theorem HoldsP.len {w : World} {a : Option Addr} {n : Nat} {ks : List PV} (h : HoldsP w a n ks) : ks.length = n := h.1
theorem HoldsP.at {w : World} {a : Option Addr} {n : Nat} {ks : List PV} (h : HoldsP w a n ks) (h0 : 0 < n) : ∃ b o, a = some ⟨b, o, none⟩ ∧ ∀ i, i < n → w.cell? ⟨b, o + i * 2, none⟩ = some (.int .i64 (ks.getD i p0).1) ∧ w.cell? ⟨b, o + i * 2 + 1, none⟩ = some (.int .i64 (ks.getD i p0).2) := h.2 h0
theorem HoldsP.nil (w : World) (a : Option Addr) : HoldsP w a 0 [] := ⟨rfl, fun h => absurd h (by omega)⟩
theorem HoldsP.below {w w' : World} {a : Option Addr} {n : Nat} {ks : List PV} (h : HoldsP w a n ks) (hb : Below w.heap.size w w') : HoldsP w' a n ks := by
  refine ⟨h.1, fun h0 => ?_⟩
  obtain ⟨b, o, ha, hc⟩ := h.2 h0
  have hlt := lt_of_cell (hc 0 h0).1
  refine ⟨b, o, ha, fun i hi => ?_⟩
  rw [hb.cell (p := ⟨b, o + i * 2, none⟩) hlt, hb.cell (p := ⟨b, o + i * 2 + 1, none⟩) hlt]
  exact hc i hi
theorem getD_memP (zs : List PV) (j : Nat) (h : j < zs.length) : zs.getD j p0 ∈ zs := by
  rw [List.getD_eq_getElem?_getD, List.getElem?_eq_getElem h]; simp
def posV : List PV → List Value
  | [] => []
  | k :: ks => .int .i64 k.1 :: .int .i64 k.2 :: posV ks
theorem posV_len : ∀ ks : List PV, (posV ks).length = ks.length * 2
  | [] => rfl
  | k :: ks => by simp [posV, posV_len ks]; omega
theorem posV_app : ∀ ks ls : List PV, posV (ks ++ ls) = posV ks ++ posV ls
  | [], ls => rfl
  | k :: ks, ls => by simp [posV, posV_app ks ls]
theorem posV_one : ∀ (ks : List PV), ∀ u ∈ posV ks, u.oneCell' = true
  | [], u, h => by simp [posV] at h
  | k :: ks, u, h => by
    simp only [posV, List.mem_cons] at h
    rcases h with h | h | h
    · subst h; rfl
    · subst h; rfl
    · exact posV_one ks u h
theorem posV_at : ∀ (ks : List PV) (i : Nat), i < ks.length → (posV ks)[i * 2]? = some (.int .i64 (ks.getD i p0).1) ∧ (posV ks)[i * 2 + 1]? = some (.int .i64 (ks.getD i p0).2)
  | [], i, h => by simp at h
  | k :: ks, 0, _ => by simp [posV]
  | k :: ks, i + 1, h => by
    have ih := posV_at ks i (by simpa using h)
    have e1 : (i + 1) * 2 = i * 2 + 1 + 1 := by omega
    rw [e1]
    simpa [posV] using ih
theorem HoldsP.cells {w : World} {b o n : Nat} {ks : List PV} (h : HoldsP w (some ⟨b, o, none⟩) n ks) : ∀ j u, (posV ks)[j]? = some u → w.cell? ((⟨b, o, none⟩ : Addr).add j) = some u := by
  intro j u hj
  have hl := h.len
  have hjl : j < (posV ks).length := by
    rcases Nat.lt_or_ge j (posV ks).length with h' | h'
    · exact h'
    · rw [List.getElem?_eq_none h'] at hj; cases hj
  rw [posV_len] at hjl
  obtain ⟨b', o', ha, hc⟩ := h.at (by omega)
  cases ha
  obtain ⟨c1, c2⟩ := hc (j / 2) (by omega)
  obtain ⟨v1, v2⟩ := posV_at ks (j / 2) (by omega)
  rw [Go.WideShapes.add_plain]
  have hcase : j = j / 2 * 2 ∨ j = j / 2 * 2 + 1 := by omega
  rcases hcase with e | e
  · rw [← e] at v1 c1
    rw [c1, ← hj, v1]
  · have e2 : o + j / 2 * 2 + 1 = o + j := by omega
    rw [← e] at v2
    rw [e2] at c2
    rw [c2, ← hj, v2]
theorem HoldsP.own {w : World} {B : Nat} {e : TypeId} {a : Option Addr} {n c : Nat} {ks : List PV} (h : w.ownsRow B e 2 (.slice a n c) n (posV ks)) : HoldsP w a n ks := by
  have hl : ks.length = n := by have := h.1; rw [posV_len] at this; omega
  refine ⟨hl, fun h0 => ?_⟩
  rcases h.2 with ⟨_, h1⟩ | ⟨g, cap, cur, hv, _, hh, hc, _, hs, hx⟩
  · omega
  · simp only [Value.slice.injEq] at hv
    obtain ⟨rfl, _, rfl⟩ := hv
    refine ⟨g, 0, rfl, fun i hi => ?_⟩
    obtain ⟨v1, v2⟩ := posV_at ks i (by omega)
    rw [← hx] at v1 v2
    rw [List.getElem?_take_of_lt (by omega)] at v1 v2
    rw [Array.getElem?_toList] at v1 v2
    rw [Nat.zero_add, Joins.cell_of_block hh, Joins.cell_of_block hh]
    exact ⟨v1, v2⟩
theorem HoldsP.take {w : World} {a : Option Addr} {n : Nat} {ks : List PV} (h : HoldsP w a n ks) (k : Nat) (hk : k ≤ n) : HoldsP w a k (ks.take k) := by
  have hl := h.len
  refine ⟨by simp; omega, fun h0 => ?_⟩
  obtain ⟨b, o, ha, hc⟩ := h.at (by omega)
  refine ⟨b, o, ha, fun i hi => ?_⟩
  have e : (ks.take k).getD i p0 = ks.getD i p0 := by simp [List.getD_eq_getElem?_getD, List.getElem?_take_of_lt hi]
  rw [e]; exact hc i (by omega)
theorem HoldsP.drop {w : World} {b o n : Nat} {ks : List PV} (h : HoldsP w (some ⟨b, o, none⟩) n ks) (k : Nat) (hk : k ≤ n) : HoldsP w (some ⟨b, o + k * 2, none⟩) (n - k) (ks.drop k) := by
  have hl := h.len
  refine ⟨by simp; omega, fun h0 => ?_⟩
  obtain ⟨b', o', ha, hc⟩ := h.at (by omega)
  cases ha
  refine ⟨b, o + k * 2, rfl, fun i hi => ?_⟩
  have e : (ks.drop k).getD i p0 = ks.getD (k + i) p0 := by simp [List.getD_eq_getElem?_getD]
  obtain ⟨c1, c2⟩ := hc (k + i) (by omega)
  rw [e]
  have e1 : o + k * 2 + i * 2 = o + (k + i) * 2 := by omega
  rw [e1]; exact ⟨c1, c2⟩
theorem HoldsP.cellsAny {w : World} {a : Option Addr} {n : Nat} {ks : List PV} (h : HoldsP w a n ks) {w' : World} (hg : w.grownBy w' none) : ∀ ad, a = some ad → ∀ j u, (posV ks)[j]? = some u → w'.cell? (ad.add j) = some u := by
  intro ad ha j u hj
  have hjl : j < (posV ks).length := (List.getElem?_eq_some_iff.1 hj).1
  rw [posV_len] at hjl
  obtain ⟨b, o, hb, _⟩ := h.at (by have := h.len; omega)
  rw [ha] at hb
  obtain rfl := Option.some.inj hb
  subst ha
  exact hg.cell (h.cells j u hj) (by simp)
theorem HoldsP.cellsAt {w : World} {a : Option Addr} {n : Nat} {ks : List PV} (h : HoldsP w a n ks) : ∀ ad, a = some ad → ∀ j u, (posV ks)[j]? = some u → w.cell? (ad.add j) = some u := HoldsP.cellsAny h ⟨rfl, rfl, rfl, Nat.le_refl _, fun _ _ _ => rfl⟩
theorem posV_snoc (ks : List PV) (k : PV) : posV (ks ++ [k]) = posV ks ++ [.int .i64 k.1, .int .i64 k.2] := by rw [posV_app]; rfl
theorem pos_info : (Try.prog.info? 119).map (fun i => (i.zero, i.size, i.bytes)) = some (some (.agg #[.int .i64 0, .int .i64 0]), 2, 16) := by kernel_rfl
theorem two_newP (w : World) (u v : Value) (e : TypeId) (fr : Nat × Nat) : ∀ ad, (some ⟨w.heap.size, 0, none⟩ : Option Addr) = some ad → ∀ j x, [u, v][j]? = some x → (w.alloc (.cells #[u, v] e fr)).cell? (ad.add j) = some x := by
  intro ad h j x hx
  cases h
  rw [Go.WideShapes.add_plain, Nat.zero_add, World.cell?_alloc_mark]
  simpa using hx
theorem two_oneP (y z : Int) : ∀ u ∈ [Value.int .i64 y, Value.int .i64 z], u.oneCell' = true := by simp [Value.oneCell']
end Go.Proofs.Ytolggcdlpiedmaa
/- contracts of rows: the first row of a table, and a row turned into the next one -/
namespace Go.Proofs.Ytolggcdlpiedmaa
open Go.RowKit
set_option linter.unusedVariables false
set_option maxRecDepth 20000
def intsV (zs : List Int) : List Value := zs.map (Value.int .i64)
theorem int_info : (Try.prog.info? 3).map (fun i => (i.zero, i.size, i.bytes)) = some (some (.int .i64 0), 1, 8) := by kernel_rfl
theorem intsV_set (zs : List Int) (j : Nat) (x : Int) : (intsV zs).set j (.int .i64 x) = intsV (zs.set j x) := by simp [intsV, List.map_set]
theorem intsV_at (zs : List Int) (j : Nat) (h : j < zs.length) : (intsV zs)[j]? = some (.int .i64 (zs.getD j 0)) := by simp [intsV, List.getD_eq_getElem?_getD, h]
theorem intsV_one (zs : List Int) : ∀ u ∈ intsV zs, u.oneCell' = true := ints_oneCell _ _
/-- the numbers from 0 on, the first k; 0 behind them -/
def upTo (n k : Nat) : List Int := (List.range n).map fun i => if i < k then (i : Int) else 0
theorem upTo_set (n k : Nat) (h : k < n) : (upTo n k).set k (k : Int) = upTo n (k + 1) := by
  apply List.ext_getElem
  · simp [upTo]
  · intro i h1 h2
    rw [List.getElem_set]
    simp only [upTo, List.getElem_map, List.getElem_range]
    by_cases e : k = i
    · subst e; simp
    · rw [if_neg e]
      by_cases h3 : i < k
      · simp [h3, show i < k + 1 by omega]
      · simp [h3, show ¬ i < k + 1 by omega]
theorem upTo_zero (n : Nat) : intsV (upTo n 0) = List.replicate n (.int .i64 0) := by
  apply List.ext_getElem
  · simp [intsV, upTo]
  · intro i h1 h2; simp [intsV, upTo]
theorem upTo_row (a b : List Int) : upTo (a.length + 1) (a.length + 1) = Ed.row a b 0 := by
  unfold upTo Ed.row
  refine List.map_congr_left fun i hi => ?_
  have := List.mem_range.1 hi
  rw [if_pos (by omega)]
  cases i with
  | zero => simp only [Ed.L]
  | succ i => simp only [Ed.L]; omega
theorem upTo_length (n k : Nat) : (upTo n k).length = n := by simp [upTo]
set_option maxHeartbeats 400000 in
theorem first_any (m : Nat) (w : World) (hm : m ≤ 1048576) :
    Calls Try.prog 122 #[.int .i64 m] w fun e w' => e = .returned (.slice (some ⟨w.heap.size, 0, none⟩) (m + 1) (m + 1)) ∧ w'.ownsRow w.heap.size 3 1 (.slice (some ⟨w.heap.size, 0, none⟩) (m + 1) (m + 1)) (m + 1) (intsV (upTo (m + 1) (m + 1))) ∧ Below w.heap.size w w' := by
  obtain ⟨i0, hi, hz0, hz1, hz2⟩ := info_parts int_info
  go_enter Try.func122, Try.ntmps122
  go_wp2_with (at_make; refine wpList_make_full _ rfl _ _ 45 rfl w.heap.size 3 i0 (.int .i64 0) 1 Try.underlying45 hi hz0 hz1 _ _ _ _ (m + 1) rfl rfl (by omega) (by omega) (by rw [hz2]; omega) (by unfold maxLen; omega) (Nat.le_refl _) ?_; intro w0 hown0 hgrow0)
  have hB0 := below_grown hgrow0 (by intro k hk; cases hk)
  have ho : w0.ownsRow w.heap.size 3 1 (.slice (some ⟨w.heap.size, 0, none⟩) (m + 1) (m + 1)) (m + 1) (intsV (upTo (m + 1) 0)) := by
    rw [upTo_zero, ← toList_madeCells_one]; rw [Nat.mul_one] at hown0; exact hown0
  have O0 := Lib.hid ho; have B0 := Lib.hid hB0
  clear hown0 hgrow0 ho hB0
  go_loopw [10] (fun i wr => ∃ k : Nat, k ≤ m + 1 ∧ i = .int .i64 k ∧ Hid (wr.ownsRow w.heap.size 3 1 (.slice (some ⟨w.heap.size, 0, none⟩) (m + 1) (m + 1)) (m + 1) (intsV (upTo (m + 1) k))) ∧ Hid (Below w.heap.size w wr)) (fun i _ => m + 1 - (intOf i).toNat)
  case atStart => exact ⟨0, by omega, rfl, O0, B0⟩
  case round =>
    obtain ⟨k, hk, rfl, hO, hB⟩ := hrel
    by_cases hlt : k < m + 1
    · have hc := hO.out.cellAt k (by omega)
      rw [intsV_at _ k (by rw [upTo_length]; exact hlt)] at hc
      have hf := hO.out.frozenAt k
      have hs := (hO.out.stored k (.int .i64 (k : Int))).1
      rw [intsV_set, upTo_set (m + 1) k hlt] at hs
      have HS := Lib.hid hs
      obtain ⟨x, hx⟩ : ∃ x, (upTo (m + 1) k).getD k 0 = x := ⟨_, rfl⟩
      rw [hx] at hc
      clear hs hx
      go_wp2
      go_roundw
      case rel => exact ⟨k + 1, by omega, by go_num, HS, Lib.hid (hB.out.setCell (Nat.le_refl _) _)⟩
      case measure => simp [intOf]; omega
    · obtain rfl : k = m + 1 := by omega
      go_wp2
      go_ret
      exact ⟨rfl, hO.out, hB.out⟩
end Go.Proofs.Ytolggcdlpiedmaa
/- contracts of auto's small functions, and of needed -/
namespace Go.Proofs.Ytolggcdlpiedmaa
open Go.RowKit
set_option linter.unusedVariables false
set_option maxRecDepth 20000
theorem permitted_lit (k : Int) (c : Bool) (w : World) (h : decide (0 ≤ k ∧ k ≤ 4) = c) :
    Calls Try.prog 76 #[.int .i64 k] w fun e w' => e = .returned (.bool c) ∧ w = w' := by
  subst h
  go_enter Try.func76, Try.ntmps76
  go_wp2
  all_goals (go_ret; exact ⟨ret_bool (by simp; try omega), rfl⟩)
theorem dead_any (a : Option Addr) (n c : Nat) (f : Bool) (w : World) (hn : n ≤ 9223372036854775807) (h : decide (n = 0) = f) :
    Calls Try.prog 61 #[.slice a n c] w fun e w' => e = .returned (.bool f) ∧ w = w' := by
  have x1 : ((n : Int) == 0) = f := by rw [← h]; by_cases e : n = 0 <;> simp [e]
  clear h
  go_enter Try.func61, Try.ntmps61
  go_wp2
  go_ret
  exact ⟨rfl, rfl⟩
/-- positions that were answered, the call's own -/
def RetP (w : World) (n : Nat) (ps : List PV) (e : Ending) (w' : World) : Prop := ∃ a c, e = .returned (.slice a n c) ∧ w'.ownsRow w.heap.size 119 2 (.slice a n c) n (posV ps) ∧ Below w.heap.size w w'
theorem retP_own {w w' : World} {a : Option Addr} {c n : Nat} {ys zs : List PV} (h : ys = zs) (hh : w'.ownsRow w.heap.size 119 2 (.slice a n c) n (posV ys)) (hb : Below w.heap.size w w') (v : Value) (hv : v = .slice a n c) : RetP w n zs (.returned v) w' := by
  subst h hv; exact ⟨a, c, rfl, hh, hb⟩
theorem start_yes (a : Option Addr) (n c : Nat) (k : Int) (w : World) (h : 0 ≤ k ∧ k ≤ 4) : Calls Try.prog 55 #[.slice a n c, .int .i64 k] w (RetP w 1 [(0, 0)]) := by
  have CP := Lib.hid (fun w => permitted_lit k true w (decide_eq_true h))
  go_enter Try.func55, Try.ntmps55
  go_wp2_with fail
  refine (CP.out _).mono ?_
  rintro e w' ⟨rfl, rfl⟩
  go_wp2_with fail
  go_ret
  exact retP_own (c := 1) rfl (World.ownsRow_lit w #[.int .i64 0, .int .i64 0] 1 (Nat.le_refl _) (by unfold maxLen; omega) rfl) (below_one _ _) _ rfl
theorem start_no (a : Option Addr) (n c : Nat) (k : Int) (w : World) (h : ¬ (0 ≤ k ∧ k ≤ 4)) : Calls Try.prog 55 #[.slice a n c, .int .i64 k] w (RetP w 0 []) := by
  have CP := Lib.hid (fun w => permitted_lit k false w (decide_eq_false h))
  go_enter Try.func55, Try.ntmps55
  go_wp2_with fail
  refine (CP.out _).mono ?_
  rintro e w' ⟨rfl, rfl⟩
  go_wp2_with fail
  go_ret
  exact retP_own rfl (World.ownsRow_nil _ _ _ _) (Below.refl _ _) _ rfl
theorem within_yes (x y : Int) (a : Option Addr) (n c : Nat) (k : Int) (w : World) (hx : 0 ≤ x ∧ x ≤ n) (hy : 0 ≤ y ∧ y ≤ k) (hn : n ≤ 9223372036854775807) :
    Calls Try.prog 77 #[.agg #[.int .i64 x, .int .i64 y], .slice a n c, .int .i64 k] w fun e w' => e = .returned (.bool true) ∧ Below w.heap.size w w' := by
  obtain ⟨h1, h2⟩ := hx
  obtain ⟨h3, h4⟩ := hy
  have hb := below_one w (.cells #[.int .i64 x, .int .i64 y] 119)
  have HB := Lib.hid hb
  clear hb
  go_enter Try.func77, Try.ntmps77
  go_wp2_with fail
  go_ret
  exact ⟨ret_bool (by simp <;> omega), HB.out⟩
set_option maxRecDepth 100000 in
set_option maxHeartbeats 6400000 in
theorem needed_any (a : Option Addr) (n cap L : Nat) (R : List Int) (k : Int) (ys : List PV) (w : World) (h : HoldsI .i64 w a (n + 1) R) (hb : ∀ i, 0 ≤ R.getD i 0 ∧ R.getD i 0 ≤ 4194304) (hk : 0 ≤ k ∧ k ≤ 4) (hn : n ≤ 1048576)
    (hy : Au.needL (fun i => R.getD i 0) n k (n + 1) = ys) (hL : ys.length = L) :
    Calls Try.prog 83 #[.slice a (n + 1) cap, .int .i64 k] w (RetP w L ys) := by
  obtain ⟨i0, hi, hz0, hz1, hz2⟩ := info_parts pos_info
  have H := Lib.hid h; have HB := Lib.hid hb; have HY := Lib.hid hy; have HL := Lib.hid hL
  obtain ⟨hk0, hk4⟩ := hk
  obtain ⟨N, hN⟩ : ∃ N, n + 1 = N := ⟨_, rfl⟩
  have HN := Lib.hid hN
  rw [hN]
  have hN2 : N ≤ 1048577 := by omega
  clear h hb hy hL hN
  go_enter Try.func83, Try.ntmps83
  go_wp2_with fail
  go_loopw [5, 10] (fun ov iv wr => ∃ (j : Nat) (P : List PV) (av : Option Addr) (cv : Nat), j ≤ N ∧ P.length ≤ j ∧ iv = .int .i64 j ∧ ov = .slice av P.length cv ∧ Hid (P = Au.needL (fun i => R.getD i 0) n k j) ∧ Hid (wr.ownsRow w.heap.size 119 2 (.slice av P.length cv) P.length (posV P)) ∧ Hid (Below w.heap.size w wr)) (fun _ iv _ => N - (intOf iv).toNat)
  case atStart => exact ⟨0, [], none, 0, by omega, by simp, rfl, rfl, Lib.hid rfl, Lib.hid (World.ownsRow_nil _ _ _ _), Lib.hid (Below.refl _ _)⟩
  case round =>
    obtain ⟨j, P, av, cv, hj, hPl, rfl, rfl, hP, hO, hB⟩ := hrel
    by_cases hlt : j < N
    · have Hr := H.out.below hB.out
      rw [HN.out] at Hr
      obtain ⟨bb, o, rfl, hc⟩ := Hr.at (by omega)
      have HC := Lib.hid hc
      have e0 := hc j hlt
      have SU := Lib.hid (Au.needL_succ (fun i => R.getD i 0) n k j)
      have bd := HB.out j
      have HNP := Lib.hid (show Au.needP (fun i => R.getD i 0) n k j ↔ R.getD j 0 ≤ k ∧ ¬ (0 < j ∧ R.getD (j - 1) 0 < R.getD j 0) ∧ ¬ (j < n ∧ R.getD (j + 1) 0 < R.getD j 0) from Iff.rfl)
      obtain ⟨d, hd⟩ : ∃ d, R.getD j 0 = d := ⟨_, rfl⟩
      simp only [hd] at SU HNP
      rw [hd] at e0 bd
      obtain ⟨bd0, bd1⟩ := bd
      have x1 : (0 : Int) ≤ (j : Int) := by omega
      have x2 : (j : Int) < (N : Int) := by omega
      clear hc hd Hr
      by_cases hdk : k < d
      · have hdk2 := hdk
        have hnp : ¬ Au.needP (fun i => R.getD i 0) n k j := fun h => by obtain ⟨h1, h2, h3⟩ := HNP.out.1 h; omega
        have hs := SU.out
        rw [if_neg hnp, List.append_nil, ← hP.out] at hs
        have HS := Lib.hid hs.symm
        clear hnp hs
        go_wp2_with fail
        go_roundw
        case rel => exact ⟨j + 1, P, av, cv, by omega, by omega, by go_num, rfl, HS, hO, hB⟩
        case measure => simp [intOf] <;> omega
      have hdk3 : d ≤ k := by omega
      clear hdk
      by_cases hj0 : j = 0
      · have hj0c := hj0
        subst hj0
        rw [Nat.add_zero] at e0
        have g0 : decide ((0 : Int) > 0) = false := by decide
        by_cases hjn : 0 < n
        · have hjn2 := hjn
          have e2 := HC.out (0 + 1) (by have := HN.out; omega)
          obtain ⟨y, hy⟩ : ∃ y, R.getD (0 + 1) 0 = y := ⟨_, rfl⟩
          rw [hy] at e2
          have bdy := HB.out (0 + 1)
          rw [hy] at bdy
          obtain ⟨by0, by1⟩ := bdy
          have HYY := Lib.hid hy
          have x5 : 0 + 1 < N := by have := HN.out; omega
          simp only [Nat.zero_add] at e2
          clear hy
          by_cases hyl : y < d
          · have hyl2 := hyl
            have hnp : ¬ Au.needP (fun i => R.getD i 0) n k 0 := fun h => by obtain ⟨h1, h2, h3⟩ := HNP.out.1 h; exact h3 ⟨hjn, by rw [HYY.out]; exact hyl⟩
            have hs := SU.out
            rw [if_neg hnp, List.append_nil, ← hP.out] at hs
            have HS := Lib.hid hs.symm
            clear hnp hs
            go_wp2_with fail
            go_roundw
            case rel => exact ⟨0 + 1, P, av, cv, by omega, by omega, by go_num, rfl, HS, hO, hB⟩
            case measure => simp [intOf] <;> omega
          · have x7 := hyl
            have hnp : Au.needP (fun i => R.getD i 0) n k 0 := HNP.out.2 ⟨by omega, fun h => absurd h.1 (by omega), fun h => by have := h.2; rw [HYY.out] at this; omega⟩
            have hs := SU.out
            rw [if_pos hnp, ← hP.out] at hs
            have HS := Lib.hid hs.symm
            clear hnp hs
            go_wp2_with (at_builtin; refine wpList_append_any rfl (.tmp 45) (.tmp 49) 95 rfl w.heap.size 119 i0 _ 2 16 Try.underlying95 hi hz0 hz1 hz2 rfl (by decide) _ P.length _ rfl (hO.out.alloc _) _ 1 1 [.int .i64 ((0 : Nat) : Int), .int .i64 d] rfl (some_none _) rfl (two_newP _ _ _ _ _) (two_oneP _ _) (by unfold maxLen; omega) (by omega) (by have := hB.out.size; simp; omega) ?_; intro a3 c3 w3 hown3 hb3 hnil3)
            have hown4 : w3.ownsRow w.heap.size 119 2 (.slice a3 (P.length + 1) c3) (P.length + 1) (posV (P ++ [(((0 : Nat) : Int), d)])) := by rw [posV_snoc]; exact hown3
            have O3 := Lib.hid hown4
            have B3 := Lib.hid ((hB.out.alloc hB.out.size _).trans hb3)
            clear hown3 hown4 hb3 hnil3
            go_roundw
            case rel => exact ⟨0 + 1, P ++ [(((0 : Nat) : Int), d)], a3, c3, by omega, by rw [List.length_append]; exact Nat.add_le_add_right hPl 1, by go_num, by simp, HS, Lib.hid (by have := O3.out; simpa using this), B3⟩
            case measure => simp [intOf] <;> omega
        · have hjn2 := hjn
          have x5 : ¬ (0 + 1 < N) := by have := HN.out; omega
          have hnp : Au.needP (fun i => R.getD i 0) n k 0 := HNP.out.2 ⟨by omega, fun h => absurd h.1 (by omega), fun h => hjn h.1⟩
          have hs := SU.out
          rw [if_pos hnp, ← hP.out] at hs
          have HS := Lib.hid hs.symm
          clear hnp hs
          go_wp2_with (at_builtin; refine wpList_append_any rfl (.tmp 45) (.tmp 49) 95 rfl w.heap.size 119 i0 _ 2 16 Try.underlying95 hi hz0 hz1 hz2 rfl (by decide) _ P.length _ rfl (hO.out.alloc _) _ 1 1 [.int .i64 ((0 : Nat) : Int), .int .i64 d] rfl (some_none _) rfl (two_newP _ _ _ _ _) (two_oneP _ _) (by unfold maxLen; omega) (by omega) (by have := hB.out.size; simp; omega) ?_; intro a3 c3 w3 hown3 hb3 hnil3)
          have hown4 : w3.ownsRow w.heap.size 119 2 (.slice a3 (P.length + 1) c3) (P.length + 1) (posV (P ++ [(((0 : Nat) : Int), d)])) := by rw [posV_snoc]; exact hown3
          have O3 := Lib.hid hown4
          have B3 := Lib.hid ((hB.out.alloc hB.out.size _).trans hb3)
          clear hown3 hown4 hb3 hnil3
          go_roundw
          case rel => exact ⟨0 + 1, P ++ [(((0 : Nat) : Int), d)], a3, c3, by omega, by rw [List.length_append]; exact Nat.add_le_add_right hPl 1, by go_num, by simp, HS, Lib.hid (by have := O3.out; simpa using this), B3⟩
          case measure => simp [intOf] <;> omega
      · have hj0c := hj0
        have g0 : 0 < j := by omega
        obtain ⟨q, hq⟩ : ∃ q : Nat, j - 1 = q := ⟨_, rfl⟩
        have e1 := HC.out q (by omega)
        obtain ⟨x, hx⟩ : ∃ x, R.getD q 0 = x := ⟨_, rfl⟩
        rw [hx] at e1
        have bdx := HB.out q
        rw [hx] at bdx
        obtain ⟨bx0, bx1⟩ := bdx
        have HXX := Lib.hid hx
        have HQQ := Lib.hid hq
        have hqi : (j : Int) - 1 = (q : Int) := by omega
        have x3 : (0 : Int) ≤ (q : Int) := by omega
        have x4 : (q : Int) < (N : Int) := by omega
        have x8 : q < N := by omega
        clear hx hq
        by_cases hxl : x < d
        · have hxl2 := hxl
          have hnp : ¬ Au.needP (fun i => R.getD i 0) n k j := fun h => by obtain ⟨h1, h2, h3⟩ := HNP.out.1 h; exact h2 ⟨g0, by rw [HQQ.out, HXX.out]; exact hxl⟩
          have hs := SU.out
          rw [if_neg hnp, List.append_nil, ← hP.out] at hs
          have HS := Lib.hid hs.symm
          clear hnp hs
          go_wp2_with fail
          go_roundw
          case rel => exact ⟨j + 1, P, av, cv, by omega, by omega, by go_num, rfl, HS, hO, hB⟩
          case measure => simp [intOf] <;> omega
        · have hxl2 := hxl
          by_cases hjn : j < n
          · have hjn2 := hjn
            have e2 := HC.out (j + 1) (by have := HN.out; omega)
            obtain ⟨y, hy⟩ : ∃ y, R.getD (j + 1) 0 = y := ⟨_, rfl⟩
            rw [hy] at e2
            have bdy := HB.out (j + 1)
            rw [hy] at bdy
            obtain ⟨by0, by1⟩ := bdy
            have HYY := Lib.hid hy
            have x5 : j + 1 < N := by have := HN.out; omega
            have x6 : (j : Int) + 1 < (N : Int) := by omega
            clear hy
            by_cases hyl : y < d
            · have hyl2 := hyl
              have hnp : ¬ Au.needP (fun i => R.getD i 0) n k j := fun h => by obtain ⟨h1, h2, h3⟩ := HNP.out.1 h; exact h3 ⟨hjn, by rw [HYY.out]; exact hyl⟩
              have hs := SU.out
              rw [if_neg hnp, List.append_nil, ← hP.out] at hs
              have HS := Lib.hid hs.symm
              clear hnp hs
              go_wp2_with fail
              go_roundw
              case rel => exact ⟨j + 1, P, av, cv, by omega, by omega, by go_num, rfl, HS, hO, hB⟩
              case measure => simp [intOf] <;> omega
            · have x7 := hyl
              have hnp : Au.needP (fun i => R.getD i 0) n k j := HNP.out.2 ⟨by omega, fun h => by have := h.2; rw [HQQ.out, HXX.out] at this; omega, fun h => by have := h.2; rw [HYY.out] at this; omega⟩
              have hs := SU.out
              rw [if_pos hnp, ← hP.out] at hs
              have HS := Lib.hid hs.symm
              clear hnp hs
              go_wp2_with (at_builtin; refine wpList_append_any rfl (.tmp 45) (.tmp 49) 95 rfl w.heap.size 119 i0 _ 2 16 Try.underlying95 hi hz0 hz1 hz2 rfl (by decide) _ P.length _ rfl (hO.out.alloc _) _ 1 1 [.int .i64 j, .int .i64 d] rfl (some_none _) rfl (two_newP _ _ _ _ _) (two_oneP _ _) (by unfold maxLen; omega) (by omega) (by have := hB.out.size; simp; omega) ?_; intro a3 c3 w3 hown3 hb3 hnil3)
              have hown4 : w3.ownsRow w.heap.size 119 2 (.slice a3 (P.length + 1) c3) (P.length + 1) (posV (P ++ [((j : Int), d)])) := by rw [posV_snoc]; exact hown3
              have O3 := Lib.hid hown4
              have B3 := Lib.hid ((hB.out.alloc hB.out.size _).trans hb3)
              clear hown3 hown4 hb3 hnil3
              go_roundw
              case rel => exact ⟨j + 1, P ++ [((j : Int), d)], a3, c3, by omega, by rw [List.length_append]; exact Nat.add_le_add_right hPl 1, by go_num, by simp, HS, Lib.hid (by have := O3.out; simpa using this), B3⟩
              case measure => simp [intOf] <;> omega
          · have hjn2 := hjn
            have x5 : ¬ (j + 1 < N) := by have := HN.out; omega
            have hnp : Au.needP (fun i => R.getD i 0) n k j := HNP.out.2 ⟨by omega, fun h => by have := h.2; rw [HQQ.out, HXX.out] at this; omega, fun h => hjn h.1⟩
            have hs := SU.out
            rw [if_pos hnp, ← hP.out] at hs
            have HS := Lib.hid hs.symm
            clear hnp hs
            go_wp2_with (at_builtin; refine wpList_append_any rfl (.tmp 45) (.tmp 49) 95 rfl w.heap.size 119 i0 _ 2 16 Try.underlying95 hi hz0 hz1 hz2 rfl (by decide) _ P.length _ rfl (hO.out.alloc _) _ 1 1 [.int .i64 j, .int .i64 d] rfl (some_none _) rfl (two_newP _ _ _ _ _) (two_oneP _ _) (by unfold maxLen; omega) (by omega) (by have := hB.out.size; simp; omega) ?_; intro a3 c3 w3 hown3 hb3 hnil3)
            have hown4 : w3.ownsRow w.heap.size 119 2 (.slice a3 (P.length + 1) c3) (P.length + 1) (posV (P ++ [((j : Int), d)])) := by rw [posV_snoc]; exact hown3
            have O3 := Lib.hid hown4
            have B3 := Lib.hid ((hB.out.alloc hB.out.size _).trans hb3)
            clear hown3 hown4 hb3 hnil3
            go_roundw
            case rel => exact ⟨j + 1, P ++ [((j : Int), d)], a3, c3, by omega, by rw [List.length_append]; exact Nat.add_le_add_right hPl 1, by go_num, by simp, HS, Lib.hid (by have := O3.out; simpa using this), B3⟩
            case measure => simp [intOf] <;> omega
    · obtain rfl : j = N := by omega
      have e := hP.out
      rw [← HN.out, HY.out] at e
      have hl : P.length = L := by rw [e]; exact HL.out
      have HE := Lib.hid e
      clear e
      rw [hl] at hO
      simp only [hl]
      clear hl
      go_wp2_with fail
      go_ret
      exact retP_own HE.out hO.out hB.out _ rfl
end Go.Proofs.Ytolggcdlpiedmaa
/- contract of rows.Advance: a row of a table turned into the next one, in place -/
namespace Go.Proofs.Ytolggcdlpiedmaa
open Go.RowKit
set_option linter.unusedVariables false
set_option maxRecDepth 20000
theorem cost_eq (x : Int) : Ed.cost x x = 0 := by simp [Ed.cost]
theorem cost_ne {x y : Int} (h : x ≠ y) : Ed.cost x y = 1 := by simp [Ed.cost, h]
theorem store_grown (w : World) (g i : Nat) (v : Value) : w.grownBy (w.setCell ⟨g, i, none⟩ v) (some g) :=
  ⟨rfl, rfl, rfl, by simp [World.setCell], fun k _ hk => Below.heap_setCell _ _ _ _ (fun e => hk (by rw [e]))⟩
theorem grown_trans {a b c : World} {r : Option Nat} (h : a.grownBy b r) (k : b.grownBy c r) : a.grownBy c r :=
  ⟨k.os.trans h.os, k.tape.trans h.tape, k.output.trans h.output, Nat.le_trans h.size k.size, fun i hi hr => (k.block i (Nat.lt_of_lt_of_le hi h.size) hr).trans (h.block i hi hr)⟩
theorem own_val {w : World} {p : Addr} {base : Nat} {e : TypeId} {size : Nat} {v : Value} {n : Nat} {xs : List Value} {V x : Int} (h : (w.setCell p (.int .i64 V)).ownsRow base e size v n xs) (hx : x = V) : (w.setCell p (.int .i64 x)).ownsRow base e size v n xs := by
  rw [hx]; exact h
set_option maxHeartbeats 1600000 in
theorem advance_any (B g cap m : Nat) (R ra : List Int) (a : Option Addr) (acap : Nat) (r : Int) (w : World) (h : w.ownsRow B 3 1 (.slice (some ⟨g, 0, none⟩) (m + 1) cap) (m + 1) (intsV R))
    (ha : HoldsI .i32 w a m ra) (hne : ∀ b o, 0 < m → a = some ⟨b, o, none⟩ → b ≠ g) (hR : ∀ i, 0 ≤ R.getD i 0 ∧ R.getD i 0 ≤ 4194304) (hm : m ≤ 1048576) :
    Calls Try.prog 82 #[.slice (some ⟨g, 0, none⟩) (m + 1) cap, .slice a m acap, .int .i32 r] w fun e w' => e = .returned (.tuple #[]) ∧
      w'.ownsRow B 3 1 (.slice (some ⟨g, 0, none⟩) (m + 1) cap) (m + 1) (intsV (Ed.mix R ra r m)) ∧ w.grownBy w' (some g) := by
  have hlR : R.length = m + 1 := by have := h.1; simpa [intsV] using this
  have hla := ha.len
  have hbd := Ed.adv_bd R ra r 4194304 (by decide) hR
  have HR := Lib.hid hR; have HBD := Lib.hid hbd; have HLR := Lib.hid hlR; have HLA := Lib.hid hla; have HA := Lib.hid ha; have HNE := Lib.hid hne; have H := Lib.hid h
  have hc0 := h.cellAt 0 (by omega)
  rw [intsV_at _ 0 (by omega)] at hc0
  have hf0 := h.frozenAt 0
  have hs0 := (h.stored 0 (.int .i64 (R.getD 0 0 + 1))).1
  rw [intsV_set, Ed.mix_zero R ra r (by omega)] at hs0
  have HS0 := Lib.hid hs0
  have b0 := hR 0
  obtain ⟨x0, hx0⟩ : ∃ x, R.getD 0 0 = x := ⟨_, rfl⟩
  rw [hx0] at hc0 b0
  have HX0 := Lib.hid hx0
  clear hs0 hx0 hR hbd hlR hla ha hne h
  go_enter Try.func82, Try.ntmps82
  go_wp2
  go_loopw [6, 20] (fun ab i wr => ∃ k : Nat, k ≤ m ∧ i = .int .i64 k ∧ ab = .int .i64 (R.getD k 0) ∧ Hid (wr.ownsRow B 3 1 (.slice (some ⟨g, 0, none⟩) (m + 1) cap) (m + 1) (intsV (Ed.mix R ra r k))) ∧ Hid (w.grownBy wr (some g))) (fun _ i _ => m - (intOf i).toNat)
  case atStart => exact ⟨0, by omega, rfl, by rw [HX0.out], by rw [← HX0.out]; exact HS0, Lib.hid (store_grown w g 0 _)⟩
  case round =>
    obtain ⟨k, hk, rfl, rfl, hO, hG⟩ := hrel
    by_cases hlt : k < m
    · obtain ⟨ba, oa, rfl, hca⟩ := HA.out.at (by omega)
      have hbg : ba ≠ g := HNE.out ba oa (by omega) rfl
      have e1 := hca k hlt
      have hba := lt_of_cell e1
      have ea : wr.cell? ⟨ba, oa + k, none⟩ = some (.int .i32 (ra.getD k 0)) := by
        rw [World.cell?_of_block (w := w) (hG.out.block ba hba (by intro e; injection e with e; exact hbg e))]; exact e1
      have hk1 := hO.out.cellAt (k + 1) (by omega)
      rw [intsV_at _ (k + 1) (by rw [Ed.mix_length, HLR.out]; omega), Ed.mix_old R ra r k (k + 1) (by rw [HLR.out]; omega) (by omega)] at hk1
      have hk0 := hO.out.cellAt k (by omega)
      rw [intsV_at _ k (by rw [Ed.mix_length, HLR.out]; omega), Ed.mix_new R ra r k k (by rw [HLR.out]; omega) (by omega)] at hk0
      have hf1 := hO.out.frozenAt (k + 1)
      have hst := (hO.out.stored (k + 1) (.int .i64 (Ed.adv R ra r (k + 1)))).1
      rw [intsV_set, Ed.mix_set R ra r k (by rw [HLR.out]; omega)] at hst
      have hadv : Ed.adv R ra r (k + 1) = min (min (R.getD k 0 + Ed.cost (ra.getD k 0) r) (R.getD (k + 1) 0 + 1)) (Ed.adv R ra r k + 1) := rfl
      have q0 := HR.out k; have q1 := HR.out (k + 1); have q2 := HBD.out k
      have HST := Lib.hid hst
      obtain ⟨V, hV⟩ : ∃ V, Ed.adv R ra r (k + 1) = V := ⟨_, rfl⟩
      obtain ⟨c, hc⟩ : ∃ c, ra.getD k 0 = c := ⟨_, rfl⟩
      obtain ⟨x, hx⟩ : ∃ x, R.getD k 0 = x := ⟨_, rfl⟩
      obtain ⟨y, hy⟩ : ∃ y, R.getD (k + 1) 0 = y := ⟨_, rfl⟩
      obtain ⟨z, hz⟩ : ∃ z, Ed.adv R ra r k = z := ⟨_, rfl⟩
      rw [hV] at HST hadv
      rw [hc] at ea hadv; rw [hx] at q0 hadv ⊢; rw [hy] at hk1 q1 hadv; rw [hz] at hk0 q2 hadv
      have HY := Lib.hid hy
      clear hst hV hc hx hy hz e1 hca hc0 hf0
      by_cases hcr : c = r
      · subst hcr
        rw [cost_eq] at hadv
        have HADV := Lib.hid hadv
        clear hadv
        go_wp2
        all_goals (
          go_roundw
          case rel => exact ⟨k + 1, by omega, by go_num, by rw [HY.out], Lib.hid (own_val HST.out (by have e := HADV.out; omega)), Lib.hid (grown_trans hG.out (store_grown wr g (k + 1) _))⟩
          case measure => simp [intOf]; omega)
      · rw [cost_ne hcr] at hadv
        have hb : (c != r) = true := by simpa using hcr
        have HADV := Lib.hid hadv
        clear hadv hcr
        go_wp2
        all_goals (
          go_roundw
          case rel => exact ⟨k + 1, by omega, by go_num, by rw [HY.out], Lib.hid (own_val HST.out (by have e := HADV.out; omega)), Lib.hid (grown_trans hG.out (store_grown wr g (k + 1) _))⟩
          case measure => simp [intOf]; omega)
    · obtain rfl : k = m := by omega
      go_wp2
      go_end0
      exact ⟨rfl, hO.out, hG.out⟩
end Go.Proofs.Ytolggcdlpiedmaa
/- contract of auto.spread -/
namespace Go.Proofs.Ytolggcdlpiedmaa
open Go.RowKit
set_option linter.unusedVariables false
set_option maxRecDepth 20000
def rwF (f : Nat → Int) (N : Nat) : List Int := (List.range N).map f
def updF (f : Nat → Int) (i : Nat) (v : Int) : Nat → Int := fun j => if j = i then v else f j
theorem rwF_len (f : Nat → Int) (N : Nat) : (rwF f N).length = N := by simp [rwF]
theorem rwF_getD {f : Nat → Int} {N i : Nat} (h : i < N) : (rwF f N).getD i 0 = f i := by simp [rwF, List.getD_eq_getElem?_getD, h]
theorem rwF_out {f : Nat → Int} {N i : Nat} (h : N ≤ i) : (rwF f N).getD i 0 = 0 := by simp [rwF, List.getD_eq_getElem?_getD, h]
theorem rwF_set (f : Nat → Int) (N i : Nat) (v : Int) : (rwF f N).set i v = rwF (updF f i v) N := by
  apply List.ext_getElem
  · simp [rwF]
  · intro j h1 h2
    rw [List.getElem_set]
    simp only [rwF, List.getElem_map, List.getElem_range, updF]
    by_cases e : i = j
    · subst e; simp
    · rw [if_neg e, if_neg (fun x => e x.symm)]
theorem rwF_congr {f g : Nat → Int} {N : Nat} (h : ∀ i, i < N → f i = g i) : rwF f N = rwF g N := List.map_congr_left fun i hi => h i (List.mem_range.1 hi)
theorem rwF_at {f : Nat → Int} {N i : Nat} (h : i < N) : (intsV (rwF f N))[i]? = some (.int .i64 (f i)) := by rw [intsV_at _ i (by rw [rwF_len]; exact h), rwF_getD h]
/-- the cell of a row that the call made, and the row with it set -/
theorem row_step {w : World} {B g N cap : Nat} {f h : Nat → Int} (o : w.ownsRow B 3 1 (.slice (some ⟨g, 0, none⟩) N cap) N (intsV (rwF f N))) (i : Nat) (hi : i < N) (v : Int) (e : ∀ j, j < N → updF f i v j = h j) :
    w.cell? ⟨g, i, none⟩ = some (.int .i64 (f i)) ∧ w.frozen? ⟨g, i, none⟩ = false ∧ (w.setCell ⟨g, i, none⟩ (.int .i64 v)).ownsRow B 3 1 (.slice (some ⟨g, 0, none⟩) N cap) N (intsV (rwF h N)) := by
  have h1 := o.cellAt i (by omega)
  rw [rwF_at hi] at h1
  have h2 := (o.stored i (.int .i64 v)).1
  rw [intsV_set, rwF_set, rwF_congr e] at h2
  exact ⟨h1, o.frozenAt i, h2⟩
def PosOk (n : Nat) (k : Int) (s : List PV) : Prop := ∀ x ∈ s, (0 ≤ x.1 ∧ x.1 ≤ (n : Int)) ∧ 0 ≤ x.2 ∧ x.2 ≤ k
theorem base_bd {n : Nat} {k : Int} (hk : 0 ≤ k) (i : Nat) : ∀ s : List PV, PosOk n k s → 0 ≤ Au.base s k i ∧ Au.base s k i ≤ k + 1 := by
  have h : ∀ (s : List PV) (d : Int), PosOk n k s → 0 ≤ d → d ≤ k + 1 → 0 ≤ s.foldl (fun d p => if p.1 = (i : Int) then min d p.2 else d) d ∧ s.foldl (fun d p => if p.1 = (i : Int) then min d p.2 else d) d ≤ k + 1 := by
    intro s
    induction s with
    | nil => intro d _ h1 h2; exact ⟨h1, h2⟩
    | cons x s ih =>
      intro d hs h1 h2
      have hx := hs x (by simp)
      rw [List.foldl_cons]
      refine ih _ (fun y hy => hs y (by simp [hy])) ?_ ?_
      · split <;> omega
      · split <;> omega
  exact fun s hs => h s (k + 1) hs (by omega) (Int.le_refl _)
theorem fwd_bd {b : Nat → Int} {k : Int} (h : ∀ i, 0 ≤ b i ∧ b i ≤ k + 1) : ∀ i, 0 ≤ Au.fwd b i ∧ Au.fwd b i ≤ k + 1 := by
  intro i
  induction i with
  | zero => exact h 0
  | succ i ih => have := h (i + 1); simp only [Au.fwd]; omega
theorem bwt_bd {f : Nat → Int} {k : Int} (n : Nat) (h : ∀ i, 0 ≤ f i ∧ f i ≤ k + 1) : ∀ t, 0 ≤ Au.bwt f n t ∧ Au.bwt f n t ≤ k + 1 := by
  intro t
  induction t with
  | zero => exact h n
  | succ t ih => have := h (n - (t + 1)); simp only [Au.bwt]; omega
/-- the row spread out of positions -/
def sprF (s : List PV) (k : Int) (n i : Nat) : Int := Au.bwt (Au.fwd (Au.base s k)) n (n - i)
theorem zeroRow (N : Nat) : intsV (rwF (fun _ => 0) N) = List.replicate N (.int .i64 0) := by
  apply List.ext_getElem
  · simp [intsV, rwF]
  · intro i h1 h2; simp [intsV, rwF]
set_option maxRecDepth 100000 in
set_option maxHeartbeats 6400000 in
theorem spread_any (a : Option Addr) (n c : Nat) (sa : Option Addr) (L sc : Nat) (s : List PV) (k : Int) (w : World) (h : HoldsP w sa L s) (hs : PosOk n k s) (hk : 0 ≤ k ∧ k ≤ 4) (hn : n ≤ 1048576) (hL : L ≤ 1048576) :
    Calls Try.prog 81 #[.slice a n c, .int .i64 k, .slice sa L sc] w fun e w' => e = .returned (.slice (some ⟨w.heap.size, 0, none⟩) (n + 1) (n + 1)) ∧ w'.ownsRow w.heap.size 3 1 (.slice (some ⟨w.heap.size, 0, none⟩) (n + 1) (n + 1)) (n + 1) (intsV (rwF (sprF s k n) (n + 1))) ∧ Below w.heap.size w w' := by
  obtain ⟨i0, hi, hz0, hz1, hz2⟩ := info_parts int_info
  obtain ⟨hk0, hk4⟩ := hk
  have H := Lib.hid h; have HS := Lib.hid hs; have LS := Lib.hid h.len
  have BB := Lib.hid (fun i t => base_bd (n := n) hk0 i (s.take t) (fun x hx => hs x (List.mem_of_mem_take hx)))
  have BF := Lib.hid (fwd_bd (b := Au.base s k) (k := k) (fun i => base_bd (n := n) hk0 i s hs))
  have BW := Lib.hid (bwt_bd (f := Au.fwd (Au.base s k)) (k := k) n BF.out)
  clear h hs
  go_enter Try.func81, Try.ntmps81
  go_wp2_with (at_make; refine wpList_make_full _ rfl _ _ 45 rfl w.heap.size 3 i0 (.int .i64 0) 1 Try.underlying45 hi hz0 hz1 _ _ _ _ (n + 1) rfl rfl (by omega) (by omega) (by rw [hz2]; omega) (by unfold maxLen; omega) (Nat.le_refl _) ?_; intro w0 hown0 hgrow0)
  have hB0 := below_grown hgrow0 (by intro k hk; cases hk)
  have ho : w0.ownsRow w.heap.size 3 1 (.slice (some ⟨w.heap.size, 0, none⟩) (n + 1) (n + 1)) (n + 1) (intsV (rwF (fun i => if i < 0 then k + 1 else 0) (n + 1))) := by
    have e : rwF (fun i => if i < 0 then k + 1 else 0) (n + 1) = rwF (fun _ => 0) (n + 1) := rwF_congr fun i _ => if_neg (by omega)
    rw [e, zeroRow, ← toList_madeCells_one]; rw [Nat.mul_one] at hown0; exact hown0
  have O0 := Lib.hid ho; have B0 := Lib.hid hB0
  clear hown0 hgrow0 ho hB0
  go_loopw [19] (fun iv wr => ∃ j : Nat, j ≤ n + 1 ∧ iv = .int .i64 j ∧ Hid (wr.ownsRow w.heap.size 3 1 (.slice (some ⟨w.heap.size, 0, none⟩) (n + 1) (n + 1)) (n + 1) (intsV (rwF (fun i => if i < j then k + 1 else 0) (n + 1)))) ∧ Hid (Below w.heap.size w wr)) (fun iv _ => n + 1 - (intOf iv).toNat)
  case atStart => exact ⟨0, by omega, rfl, O0, B0⟩
  case round =>
    obtain ⟨j, hj, rfl, hO, hB⟩ := hrel
    by_cases hlt : j < n + 1
    · obtain ⟨c0, f0, st⟩ := row_step (h := fun i => if i < j + 1 then k + 1 else 0) hO.out j hlt (k + 1) (fun i _ => by
        unfold updF
        by_cases e : i = j
        · subst e; rw [if_pos rfl, if_pos (by omega)]
        · rw [if_neg e]
          show (if i < j then k + 1 else 0) = _
          by_cases e2 : i < j
          · rw [if_pos e2, if_pos (by omega)]
          · rw [if_neg e2, if_neg (by omega)])
      obtain ⟨z, hz⟩ : ∃ z, (if j < j then k + 1 else (0 : Int)) = z := ⟨_, rfl⟩
      simp only [hz] at c0
      have ST := Lib.hid st
      clear st hz
      go_wp2_with fail
      go_roundw
      case rel => exact ⟨j + 1, by omega, by go_num, ST, Lib.hid (hB.out.setCell (Nat.le_refl _) _)⟩
      case measure => simp [intOf] <;> omega
    · obtain rfl : j = n + 1 := by omega
      have O1 := Lib.hid (show wr.ownsRow w.heap.size 3 1 (.slice (some ⟨w.heap.size, 0, none⟩) (n + 1) (n + 1)) (n + 1) (intsV (rwF (Au.base (s.take 0) k) (n + 1))) from by
        rw [rwF_congr (g := fun i => if i < n + 1 then k + 1 else 0) (fun i hi => by simp [Au.base, hi])]; exact hO.out)
      have B1 := Lib.hid hB.out
      clear hO hB O0 B0
      go_wp2_with fail
      go_loopw [30] (fun iv wr => ∃ t : Nat, t ≤ L ∧ iv = .int .i64 t ∧ Hid (wr.ownsRow w.heap.size 3 1 (.slice (some ⟨w.heap.size, 0, none⟩) (n + 1) (n + 1)) (n + 1) (intsV (rwF (Au.base (s.take t) k) (n + 1)))) ∧ Hid (Below w.heap.size w wr)) (fun iv _ => L - (intOf iv).toNat)
      case atStart => exact ⟨0, by omega, rfl, O1, B1⟩
      case round =>
        obtain ⟨t, ht, rfl, hO, hB⟩ := hrel
        by_cases hlt2 : t < L
        · obtain ⟨bs, os, rfl, hc⟩ := (H.out.below hB.out).at (by omega)
          obtain ⟨p0', p1'⟩ := hc t hlt2
          have hok := HS.out _ (getD_memP s t (by have := LS.out; omega))
          have htk := take_succ_getD s p0 t (by have := LS.out; omega)
          obtain ⟨x, hx⟩ : ∃ x, s.getD t p0 = x := ⟨_, rfl⟩
          rw [hx] at p0' p1' hok htk
          obtain ⟨x1, x2⟩ := x
          simp only at p0' p1' hok
          obtain ⟨⟨hx0, hxn⟩, hd0, hdk⟩ := hok
          obtain ⟨u, rfl⟩ : ∃ u : Nat, x1 = (u : Int) := ⟨x1.toNat, by omega⟩
          have hu : u < n + 1 := by omega
          have bb := BB.out u t
          obtain ⟨R, hR⟩ : ∃ R, Au.base (s.take t) k u = R := ⟨_, rfl⟩
          rw [hR] at bb
          obtain ⟨bb0, bb1⟩ := bb
          have TK := Lib.hid htk
          have HR := Lib.hid hR
          have CW := Lib.hid (fun w => within_yes (u : Int) x2 a n c k w ⟨hx0, hxn⟩ ⟨hd0, hdk⟩ (by omega))
          have b1 := below_one wr (.cells #[.int .i64 u, .int .i64 x2] 119)
          have g0 : (wr.alloc (.cells #[.int .i64 u, .int .i64 x2] 119)).cell? ⟨wr.heap.size, 0, none⟩ = some (.int .i64 u) := by rw [World.cell?_alloc_mark]; rfl
          have g1 : (wr.alloc (.cells #[.int .i64 u, .int .i64 x2] 119)).cell? ⟨wr.heap.size, 1, none⟩ = some (.int .i64 x2) := by rw [World.cell?_alloc_mark]; rfl
          have OA := Lib.hid (owns_below hO.out b1)
          have BA := Lib.hid (hB.out.trans (b1.mono hB.out.size))
          clear hc hx htk hR hO hB
          go_upto_region 10 with fail
          clear b1 p0' p1'
          generalize wr.alloc (.cells #[.int .i64 u, .int .i64 x2] 119) = wa at *
          generalize wr.heap.size = r at *
          go_wp2_with fail
          refine (CW.out _).mono ?_
          rintro e wb ⟨rfl, hb⟩
          have q0 := (hb.cell (p := ⟨r, 0, none⟩) (lt_of_cell g0)).trans g0
          have q1 := (hb.cell (p := ⟨r, 1, none⟩) (lt_of_cell g0)).trans g1
          have OB := Lib.hid (owns_below OA.out hb)
          have BC := Lib.hid (BA.out.trans (hb.mono BA.out.size))
          clear hb g0 g1 OA BA
          obtain ⟨c0, f0, st⟩ := row_step (h := Au.base (s.take (t + 1)) k) OB.out u hu (min R x2) (fun i _ => by
            rw [TK.out, Au.base_snoc]
            unfold updF
            by_cases e : i = u
            · subst e; rw [if_pos rfl, if_pos rfl, HR.out]
            · rw [if_neg e, if_neg (by simp only; omega)])
          rw [HR.out] at c0
          have ST := Lib.hid st
          have z1 : (u : Int) < (n : Int) + 1 := by omega
          clear st
          by_cases hmin : x2 < R
          · have em : min R x2 = x2 := by omega
            have ST0 := ST
            rw [em] at ST
            clear em
            go_upto_region 11 with fail
            go_region
            all_goals
              go_wp2_with fail
              go_roundw
              case rel => first | (((repeat apply Exists.intro); exact ⟨⟨t + 1, by omega, by go_num, Lib.hid (owns_below ST.out (Below.refl _ _).drew), Lib.hid ((BC.out.setCell (p := ⟨w.heap.size, u, none⟩) (Nat.le_refl _) _).drew)⟩, rfl⟩)) | (((repeat apply Exists.intro); exact ⟨⟨t + 1, by omega, by go_num, Lib.hid (owns_below ST0.out (Below.refl _ _).drew), Lib.hid ((BC.out.setCell (p := ⟨w.heap.size, u, none⟩) (Nat.le_refl _) _).drew)⟩, rfl⟩))
              case measure => simp [intOf] <;> omega
          · have em : min R x2 = R := by omega
            have ST0 := ST
            rw [em] at ST
            clear em
            go_upto_region 11 with fail
            go_region
            all_goals
              go_wp2_with fail
              go_roundw
              case rel => first | (((repeat apply Exists.intro); exact ⟨⟨t + 1, by omega, by go_num, Lib.hid (owns_below ST.out (Below.refl _ _).drew), Lib.hid ((BC.out.setCell (p := ⟨w.heap.size, u, none⟩) (Nat.le_refl _) _).drew)⟩, rfl⟩)) | (((repeat apply Exists.intro); exact ⟨⟨t + 1, by omega, by go_num, Lib.hid (owns_below ST0.out (Below.refl _ _).drew), Lib.hid ((BC.out.setCell (p := ⟨w.heap.size, u, none⟩) (Nat.le_refl _) _).drew)⟩, rfl⟩))
              case measure => simp [intOf] <;> omega
        · obtain rfl : t = L := by omega
          have O2 := Lib.hid (show wr.ownsRow w.heap.size 3 1 (.slice (some ⟨w.heap.size, 0, none⟩) (n + 1) (n + 1)) (n + 1) (intsV (rwF (fun i => if i ≤ 0 then Au.fwd (Au.base s k) i else Au.base s k i) (n + 1))) from by
            rw [rwF_congr (g := Au.base (s.take t) k) (fun i hi => by
              rw [List.take_of_length_le (by have := LS.out; omega)]
              by_cases e : i ≤ 0
              · obtain rfl : i = 0 := by omega
                rw [if_pos (Nat.le_refl _)]; rfl
              · rw [if_neg e])]; exact hO.out)
          have B2 := Lib.hid hB.out
          clear hO hB O1 B1
          go_wp2_with fail
          go_loopw [53] (fun iv wr => ∃ j : Nat, j ≤ n ∧ iv = .int .i64 j ∧ Hid (wr.ownsRow w.heap.size 3 1 (.slice (some ⟨w.heap.size, 0, none⟩) (n + 1) (n + 1)) (n + 1) (intsV (rwF (fun i => if i ≤ j then Au.fwd (Au.base s k) i else Au.base s k i) (n + 1)))) ∧ Hid (Below w.heap.size w wr)) (fun iv _ => n - (intOf iv).toNat)
          case atStart => exact ⟨0, by omega, rfl, O2, B2⟩
          case round =>
            obtain ⟨j, hj3, rfl, hO, hB⟩ := hrel
            by_cases hlt3 : j < n
            · have b0 := fwd_bd (b := Au.base s k) (k := k) (fun i => by have := BB.out i s.length; rwa [List.take_length] at this) j
              have b1 := BB.out (j + 1) s.length
              rw [List.take_length] at b1
              obtain ⟨X, hX⟩ : ∃ X, Au.fwd (Au.base s k) j = X := ⟨_, rfl⟩
              obtain ⟨Y, hY⟩ : ∃ Y, Au.base s k (j + 1) = Y := ⟨_, rfl⟩
              rw [hX] at b0; rw [hY] at b1
              obtain ⟨bx0, bx1⟩ := b0
              obtain ⟨by0, by1⟩ := b1
              obtain ⟨c0, _, _⟩ := row_step (h := fun i => if i ≤ j then Au.fwd (Au.base s k) i else Au.base s k i) hO.out j (by omega) X (fun i _ => by
                unfold updF
                by_cases e : i = j
                · subst e; rw [if_pos rfl, if_pos (Nat.le_refl _), hX]
                · rw [if_neg e])
              obtain ⟨c1, f1, st⟩ := row_step (h := fun i => if i ≤ j + 1 then Au.fwd (Au.base s k) i else Au.base s k i) hO.out (j + 1) (by omega) (min Y (X + 1)) (fun i _ => by
                unfold updF
                by_cases e : i = j + 1
                · subst e; rw [if_pos rfl, if_pos (Nat.le_refl _)]; simp only [Au.fwd, hX, hY]
                · rw [if_neg e]
                  show (if i ≤ j then _ else _) = _
                  by_cases e2 : i ≤ j
                  · rw [if_pos e2, if_pos (by omega)]
                  · rw [if_neg e2, if_neg (by omega)])
              simp only [Nat.le_refl, if_true, hX] at c0
              rw [if_neg (by omega), hY] at c1
              have ST := Lib.hid st
              have BC := Lib.hid hB.out
              have HXY := Lib.hid (And.intro hX hY)
              have z1 : (j : Int) < (n : Int) + 1 := by omega
              have z2 : (j : Int) + 1 < (n : Int) + 1 := by omega
              have z3 : j < n + 1 := by omega
              have z4 : j + 1 < n + 1 := by omega
              have z5 : IntKind.i64.wrap ((j : Int) + 1) = (j : Int) + 1 := IntWalk.i64_in _ (by omega)
              have z6 : IntKind.i64.wrap (X + 1) = X + 1 := IntWalk.i64_in _ (by omega)
              have z7 : (0 : Int) ≤ (j : Int) + 1 := by omega
              have z8 : ((j : Int) + 1).toNat = j + 1 := by omega
              clear st hX hY hO hB
              by_cases hmin : X + 1 < Y
              · have em : min Y (X + 1) = X + 1 := by omega
                have ST0 := ST
                rw [em] at ST
                clear em
                go_upto_region 16 with fail
                go_region
                all_goals
                  clear z5 z6 z8
                  go_wp2_with fail
                  go_roundw
                  case rel => first | (exact ⟨j + 1, by omega, by go_num, Lib.hid (owns_below ST.out (Below.refl _ _).drew), Lib.hid ((BC.out.setCell (p := ⟨w.heap.size, j + 1, none⟩) (Nat.le_refl _) _).drew)⟩) | (exact ⟨j + 1, by omega, by go_num, Lib.hid (owns_below ST0.out (Below.refl _ _).drew), Lib.hid ((BC.out.setCell (p := ⟨w.heap.size, j + 1, none⟩) (Nat.le_refl _) _).drew)⟩)
                  case measure => simp [intOf] <;> omega
              · have em : min Y (X + 1) = Y := by omega
                have ST0 := ST
                rw [em] at ST
                clear em
                go_upto_region 16 with fail
                go_region
                all_goals
                  clear z5 z6 z8
                  go_wp2_with fail
                  go_roundw
                  case rel => first | (exact ⟨j + 1, by omega, by go_num, Lib.hid (owns_below ST.out (Below.refl _ _).drew), Lib.hid ((BC.out.setCell (p := ⟨w.heap.size, j + 1, none⟩) (Nat.le_refl _) _).drew)⟩) | (exact ⟨j + 1, by omega, by go_num, Lib.hid (owns_below ST0.out (Below.refl _ _).drew), Lib.hid ((BC.out.setCell (p := ⟨w.heap.size, j + 1, none⟩) (Nat.le_refl _) _).drew)⟩)
                  case measure => simp [intOf] <;> omega
            · obtain rfl : n = j := by omega
              have O3 := Lib.hid (show wr.ownsRow w.heap.size 3 1 (.slice (some ⟨w.heap.size, 0, none⟩) (n + 1) (n + 1)) (n + 1) (intsV (rwF (fun i => if n - i ≤ 0 then Au.bwt (Au.fwd (Au.base s k)) n (n - i) else Au.fwd (Au.base s k) i) (n + 1))) from by
                rw [rwF_congr (g := fun i => if i ≤ n then Au.fwd (Au.base s k) i else Au.base s k i) (fun i hi => by
                  rw [if_pos (show i ≤ n by omega)]
                  by_cases e : n - i ≤ 0
                  · obtain rfl : i = n := by omega
                    rw [if_pos e, Nat.sub_self]; rfl
                  · rw [if_neg e])]; exact hO.out)
              have B3 := Lib.hid hB.out
              clear hO hB O2 B2
              go_wp2_with fail
              go_loopw [12] (fun iv wr => ∃ (t : Nat) (z : Int), t ≤ n ∧ z = (n : Int) - 1 - t ∧ iv = .int .i64 z ∧ Hid (wr.ownsRow w.heap.size 3 1 (.slice (some ⟨w.heap.size, 0, none⟩) (n + 1) (n + 1)) (n + 1) (intsV (rwF (fun i => if n - i ≤ t then Au.bwt (Au.fwd (Au.base s k)) n (n - i) else Au.fwd (Au.base s k) i) (n + 1)))) ∧ Hid (Below w.heap.size w wr)) (fun iv _ => (intOf iv + 1).toNat)
              case atStart => exact ⟨0, (n : Int) - 1, by omega, by omega, rfl, O3, B3⟩
              case round =>
                obtain ⟨t, z, ht4, hz4, rfl, hO, hB⟩ := hrel
                by_cases hlt4 : t < n
                · obtain ⟨m, hm⟩ : ∃ m : Nat, m + 1 + t = n := ⟨n - 1 - t, by omega⟩
                  obtain rfl : z = (m : Int) := by omega
                  clear hz4
                  have b0 := BF.out m
                  have b1 := BW.out t
                  obtain ⟨X, hX⟩ : ∃ X, Au.fwd (Au.base s k) m = X := ⟨_, rfl⟩
                  obtain ⟨Z, hZ⟩ : ∃ Z, Au.bwt (Au.fwd (Au.base s k)) n t = Z := ⟨_, rfl⟩
                  rw [hX] at b0; rw [hZ] at b1
                  obtain ⟨bx0, bx1⟩ := b0
                  obtain ⟨bz0, bz1⟩ := b1
                  have em1 : n - (m + 1) = t := by omega
                  have em0 : n - m = t + 1 := by omega
                  have em2 : n - (t + 1) = m := by omega
                  obtain ⟨c0, _, _⟩ := row_step (h := fun i => if n - i ≤ t then Au.bwt (Au.fwd (Au.base s k)) n (n - i) else Au.fwd (Au.base s k) i) hO.out (m + 1) (by omega) Z (fun i _ => by
                    unfold updF
                    by_cases e : i = m + 1
                    · subst e; rw [if_pos rfl, if_pos (by omega), em1, hZ]
                    · rw [if_neg e])
                  obtain ⟨c1, f1, st⟩ := row_step (h := fun i => if n - i ≤ t + 1 then Au.bwt (Au.fwd (Au.base s k)) n (n - i) else Au.fwd (Au.base s k) i) hO.out m (by omega) (min X (Z + 1)) (fun i _ => by
                    unfold updF
                    by_cases e : i = m
                    · subst e; rw [if_pos rfl, if_pos (by omega), em0]; simp only [Au.bwt, hZ, em2, hX]
                    · rw [if_neg e]
                      show (if n - i ≤ t then _ else _) = _
                      by_cases e2 : n - i ≤ t
                      · rw [if_pos e2, if_pos (by omega)]
                      · rw [if_neg e2, if_neg (by omega)])
                  rw [if_pos (by omega), em1, hZ] at c0
                  rw [if_neg (by omega), hX] at c1
                  have ST := Lib.hid st
                  have BC := Lib.hid hB.out
                  have z1 : (m : Int) < (n : Int) + 1 := by omega
                  have z2 : (m : Int) + 1 < (n : Int) + 1 := by omega
                  have z3 : m < n + 1 := by omega
                  have z4 : m + 1 < n + 1 := by omega
                  have z5 : IntKind.i64.wrap ((m : Int) + 1) = (m : Int) + 1 := IntWalk.i64_in _ (by omega)
                  have z6 : IntKind.i64.wrap (Z + 1) = Z + 1 := IntWalk.i64_in _ (by omega)
                  have z7 : (0 : Int) ≤ (m : Int) + 1 := by omega
                  have z8 : ((m : Int) + 1).toNat = m + 1 := by omega
                  have z9 : IntKind.i64.wrap ((m : Int) - 1) = (m : Int) - 1 := IntWalk.i64_in _ (by omega)
                  clear st hX hZ hO hB em0 em1 em2
                  by_cases hmin : Z + 1 < X
                  · have em : min X (Z + 1) = Z + 1 := by omega
                    have ST0 := ST
                    rw [em] at ST
                    clear em
                    go_upto_region 21 with fail
                    go_region
                    all_goals
                      clear z5 z6 z8 z9
                      go_wp2_with fail
                      go_roundw
                      case rel => first | (exact ⟨t + 1, (m : Int) - 1, by omega, by omega, by go_num, Lib.hid (owns_below ST.out (Below.refl _ _).drew), Lib.hid ((BC.out.setCell (p := ⟨w.heap.size, m, none⟩) (Nat.le_refl _) _).drew)⟩) | (exact ⟨t + 1, (m : Int) - 1, by omega, by omega, by go_num, Lib.hid (owns_below ST0.out (Below.refl _ _).drew), Lib.hid ((BC.out.setCell (p := ⟨w.heap.size, m, none⟩) (Nat.le_refl _) _).drew)⟩)
                      case measure => simp [intOf] <;> omega
                  · have em : min X (Z + 1) = X := by omega
                    have ST0 := ST
                    rw [em] at ST
                    clear em
                    go_upto_region 21 with fail
                    go_region
                    all_goals
                      clear z5 z6 z8 z9
                      go_wp2_with fail
                      go_roundw
                      case rel => first | (exact ⟨t + 1, (m : Int) - 1, by omega, by omega, by go_num, Lib.hid (owns_below ST.out (Below.refl _ _).drew), Lib.hid ((BC.out.setCell (p := ⟨w.heap.size, m, none⟩) (Nat.le_refl _) _).drew)⟩) | (exact ⟨t + 1, (m : Int) - 1, by omega, by omega, by go_num, Lib.hid (owns_below ST0.out (Below.refl _ _).drew), Lib.hid ((BC.out.setCell (p := ⟨w.heap.size, m, none⟩) (Nat.le_refl _) _).drew)⟩)
                      case measure => simp [intOf] <;> omega
                · obtain rfl : t = n := by omega
                  have OE := Lib.hid (show wr.ownsRow w.heap.size 3 1 (.slice (some ⟨w.heap.size, 0, none⟩) (t + 1) (t + 1)) (t + 1) (intsV (rwF (sprF s k t) (t + 1))) from by
                    rw [rwF_congr (g := fun i => if t - i ≤ t then Au.bwt (Au.fwd (Au.base s k)) t (t - i) else Au.fwd (Au.base s k) i) (fun i hi => by
                      rw [if_pos (by omega)]; rfl)]; exact hO.out)
                  have BE := Lib.hid hB.out
                  clear hO hB O3 B3
                  go_wp2_with fail
                  go_ret
                  exact ⟨rfl, OE.out, BE.out⟩
end Go.Proofs.Ytolggcdlpiedmaa
