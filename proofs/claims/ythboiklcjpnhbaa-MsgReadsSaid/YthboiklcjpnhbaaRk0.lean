/- items in order: the plain mathematics -/
import Derived.Test.YthboiklcjpnhbaaKp1
namespace Go.Proofs.Ythboiklcjpnhbaa
set_option linter.unusedVariables false
set_option maxRecDepth 20000
/-- not behind -/
def leK (a b : KV) : Prop := ¬ ordK b a < 0
theorem leK_refl (a : KV) : leK a a := ordK_irrefl a
theorem leK_trans {a b c : KV} (h : leK a b) (k : leK b c) : leK a c := ordK_le_trans h k
theorem leK_of_lt {a b : KV} (h : ordK a b < 0) : leK a b := by unfold leK; rw [ordK_swap]; omega
theorem leK_total (a b : KV) : leK a b ∨ leK b a := by unfold leK; have := ordK_swap a b; omega
theorem leK_asymm {a b : KV} (h : leK a b) (k : leK b a) : a = b := by
  unfold leK at h k; have := ordK_swap a b; exact ordK_zero.1 (by omega)
theorem leK_iff {a b : KV} : leK a b ↔ a = b ∨ ordK a b < 0 := by
  constructor
  · intro h
    by_cases e : ordK a b < 0
    · exact Or.inr e
    · exact Or.inl (leK_asymm h e)
  · rintro (h | h)
    · subst h; exact leK_refl a
    · exact leK_of_lt h
theorem ordK_of_le_of_lt {a b c : KV} (h : leK a b) (k : ordK b c < 0) : ordK a c < 0 := by
  rcases leK_iff.1 h with rfl | h
  · exact k
  · exact ordK_trans h k
theorem ordK_of_lt_of_le {a b c : KV} (h : ordK a b < 0) (k : leK b c) : ordK a c < 0 := by
  rcases leK_iff.1 k with rfl | k
  · exact h
  · exact ordK_trans h k
def SortedK (l : List KV) : Prop := l.Pairwise leK
theorem sortedK_unique : ∀ {xs ys : List KV}, SortedK xs → SortedK ys → xs.Perm ys → xs = ys
  | [], ys, _, _, p => (List.perm_nil.1 p.symm).symm
  | x :: xs, [], _, _, p => absurd (List.perm_nil.1 p) (by simp)
  | x :: xs, y :: ys, hx, hy, p => by
    have h1 : x = y := by
      have hy' : y ∈ x :: xs := p.mem_iff.2 (by simp)
      have hx' : x ∈ y :: ys := p.mem_iff.1 (by simp)
      rcases List.mem_cons.1 hy' with e | e
      · exact e.symm
      · rcases List.mem_cons.1 hx' with e2 | e2
        · exact e2
        · exact leK_asymm ((List.pairwise_cons.1 hx).1 y e) ((List.pairwise_cons.1 hy).1 x e2)
    subst h1
    rw [sortedK_unique (List.pairwise_cons.1 hx).2 (List.pairwise_cons.1 hy).2 (List.perm_cons x |>.1 p)]
/-- put in ahead of the first that it is ahead of -/
def putK (x : KV) : List KV → List KV
  | [] => [x]
  | y :: l => if ordK x y < 0 then x :: y :: l else y :: putK x l
theorem putK_perm (x : KV) : ∀ l, (putK x l).Perm (x :: l)
  | [] => List.Perm.refl _
  | y :: l => by
    unfold putK; split
    · exact List.Perm.refl _
    · exact ((putK_perm x l).cons y).trans (List.Perm.swap x y l)
theorem putK_sorted (x : KV) : ∀ l, SortedK l → SortedK (putK x l)
  | [], _ => by simp [putK, SortedK]
  | y :: l, h => by
    obtain ⟨h1, h2⟩ := List.pairwise_cons.1 h
    unfold putK; split
    · rename_i hlt
      refine List.pairwise_cons.2 ⟨fun z hz => ?_, h⟩
      rcases List.mem_cons.1 hz with rfl | hz
      · exact leK_of_lt hlt
      · exact leK_trans (leK_of_lt hlt) (h1 z hz)
    · rename_i hlt
      refine List.pairwise_cons.2 ⟨fun z hz => ?_, putK_sorted x l h2⟩
      rcases List.mem_cons.1 ((putK_perm x l).mem_iff.1 hz) with rfl | hz
      · exact hlt
      · exact h1 z hz
def sortK (l : List KV) : List KV := l.foldl (fun acc x => putK x acc) []
theorem foldK (l : List KV) : ∀ acc, SortedK acc → SortedK (l.foldl (fun acc x => putK x acc) acc) ∧ (l.foldl (fun acc x => putK x acc) acc).Perm (acc ++ l) := by
  induction l with
  | nil => intro acc h; simpa using h
  | cons x l ih =>
    intro acc h
    obtain ⟨h1, h2⟩ := ih (putK x acc) (putK_sorted x acc h)
    refine ⟨h1, h2.trans ?_⟩
    refine ((putK_perm x acc).append_right l).trans ?_
    exact (List.perm_middle (a := x) (l₁ := acc) (l₂ := l)).symm
theorem sortK_sorted (l : List KV) : SortedK (sortK l) := (foldK l [] List.Pairwise.nil).1
theorem sortK_perm (l : List KV) : (sortK l).Perm l := (foldK l [] List.Pairwise.nil).2
theorem sortK_snoc (l : List KV) (x : KV) : sortK (l ++ [x]) = putK x (sortK l) := by simp [sortK, List.foldl_append]
theorem sortK_length (l : List KV) : (sortK l).length = l.length := (sortK_perm l).length_eq
theorem sortK_mem {l : List KV} {x : KV} : x ∈ sortK l ↔ x ∈ l := (sortK_perm l).mem_iff
theorem sortK_of {l m : List KV} (h : SortedK m) (p : m.Perm l) : m = sortK l := sortedK_unique h (sortK_sorted l) (p.trans (sortK_perm l).symm)
theorem sortK_same {l : List KV} (h : SortedK l) : sortK l = l := (sortK_of h (List.Perm.refl _)).symm
theorem sortK_congr {l m : List KV} (p : l.Perm m) : sortK l = sortK m := sortK_of (sortK_sorted l) ((sortK_perm l).trans p)
def mleK (x y : KV) : Bool := !decide (ordK y x < 0)
theorem mergeK (l : List KV) : l.mergeSort mleK = sortK l := by
  refine sortK_of ?_ (List.mergeSort_perm l _)
  have h := List.pairwise_mergeSort (le := mleK) (fun a b c h1 h2 => by
    simp only [mleK, Bool.not_eq_true', decide_eq_false_iff_not] at *
    exact leK_trans h1 h2) (fun a b => by
    simp only [mleK, Bool.or_eq_true, Bool.not_eq_true', decide_eq_false_iff_not]
    exact leK_total a b) l
  exact h.imp fun {a b} hab => by
    simp only [mleK, Bool.not_eq_true', decide_eq_false_iff_not] at hab
    exact hab
end Go.Proofs.Ythboiklcjpnhbaa
