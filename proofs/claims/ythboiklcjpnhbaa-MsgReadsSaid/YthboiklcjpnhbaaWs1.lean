/- words in order: plain lemmas -/
import Derived.Test.YthboiklcjpnhbaaCp1
import Derived.Test.YthboiklcjpnhbaaUtf
namespace Go.Proofs.Ythboiklcjpnhbaa
set_option linter.unusedVariables false
set_option maxRecDepth 20000
abbrev Tx := ByteArray
instance (t : Tx) (ts : List Tx) : Decidable (t ∈ ts) := decidable_of_iff (ts.any (fun x => decide (x = t)) = true) (by simp)
def wordP (t : Tx) : Prop := 1 ≤ lenS t ∧ lenS t ≤ 12
instance (t : Tx) : Decidable (wordP t) := by unfold wordP; infer_instance
def SortedS (xs : List Tx) : Prop := xs.Pairwise fun a b => cmpS a b < 0
theorem cmpS_irrefl (a : Tx) : ¬ cmpS a a < 0 := by rw [cmpS_same]; omega
theorem cmpS_asymm {a b : Tx} (h : cmpS a b < 0) : ¬ cmpS b a < 0 := by rw [cmpS_swap]; omega
theorem cmpS_pos {a b : Tx} : 0 < cmpS a b ↔ cmpS b a < 0 := by rw [cmpS_swap a b]; omega
/-- two lists in order that have the same words are one -/
theorem sorted_unique : ∀ {xs ys : List Tx}, SortedS xs → SortedS ys → (∀ z, z ∈ xs ↔ z ∈ ys) → xs = ys
  | [], [], _, _, _ => rfl
  | [], y :: ys, _, _, h => by have := (h y).2 (List.mem_cons_self ..); simp at this
  | x :: xs, [], _, _, h => by have := (h x).1 (List.mem_cons_self ..); simp at this
  | x :: xs, y :: ys, hx, hy, h => by
    obtain ⟨hx1, hx2⟩ := List.pairwise_cons.1 hx
    obtain ⟨hy1, hy2⟩ := List.pairwise_cons.1 hy
    have hxy : x = y := by
      rcases List.mem_cons.1 ((h x).1 (List.mem_cons_self ..)) with e | e
      · exact e
      rcases List.mem_cons.1 ((h y).2 (List.mem_cons_self ..)) with e2 | e2
      · exact e2.symm
      · exact absurd (hy1 x e) (cmpS_asymm (hx1 y e2))
    subst hxy
    have : xs = ys := by
      refine sorted_unique hx2 hy2 fun z => ⟨fun hz => ?_, fun hz => ?_⟩
      · rcases List.mem_cons.1 ((h z).1 (List.mem_cons_of_mem _ hz)) with e | e
        · subst e; exact absurd (hx1 z hz) (cmpS_irrefl z)
        · exact e
      · rcases List.mem_cons.1 ((h z).2 (List.mem_cons_of_mem _ hz)) with e | e
        · subst e; exact absurd (hy1 z hz) (cmpS_irrefl z)
        · exact e
    rw [this]
/-- the document's way to put a word in -/
def putF (w : Tx) : Bool → List Tx → List Tx
  | b, [] => if b then [] else [w]
  | b, x :: xs => (if b = false ∧ 0 < cmpS x w then [w] else []) ++ x :: putF w (b || decide (0 ≤ cmpS x w)) xs
def putS (xs : List Tx) (w : Tx) : List Tx := putF w false xs
theorem putF_true (w : Tx) : ∀ xs, putF w true xs = xs
  | [] => rfl
  | x :: xs => by simp [putF, putF_true w xs]
theorem putS_cons (x w : Tx) (xs : List Tx) : putS (x :: xs) w = if cmpS x w < 0 then x :: putS xs w else if cmpS x w = 0 then x :: xs else w :: x :: xs := by
  unfold putS
  by_cases h : cmpS x w < 0
  · simp only [putF, h, if_true]
    rw [if_neg (by omega), decide_eq_false (by omega)]; rfl
  · rw [if_neg h]
    by_cases h2 : cmpS x w = 0
    · simp only [putF]
      rw [if_neg (by omega), if_pos h2, decide_eq_true (by omega), Bool.or_true, putF_true]; rfl
    · simp only [putF]
      rw [if_pos ⟨trivial, by omega⟩, if_neg h2, decide_eq_true (by omega), Bool.or_true, putF_true]; rfl
theorem mem_putS {z w : Tx} : ∀ {xs : List Tx}, z ∈ putS xs w ↔ z = w ∨ z ∈ xs
  | [] => by simp [putS, putF]
  | x :: xs => by
    rw [putS_cons]
    split
    · rw [List.mem_cons, mem_putS, List.mem_cons]
      constructor
      · rintro (h | h | h) <;> simp [h]
      · rintro (h | h | h) <;> simp [h]
    · split
      · rename_i h2
        have e := cmpS_zero.1 h2
        subst e
        simp
      · simp
theorem sorted_putS {w : Tx} : ∀ {xs : List Tx}, SortedS xs → SortedS (putS xs w)
  | [], _ => by simp [putS, putF, SortedS]
  | x :: xs, h => by
    obtain ⟨h1, h2⟩ := List.pairwise_cons.1 h
    rw [putS_cons]
    split
    · rename_i h3
      refine List.pairwise_cons.2 ⟨fun z hz => ?_, sorted_putS h2⟩
      rcases mem_putS.1 hz with e | e
      · rw [e]; exact h3
      · exact h1 z e
    · split
      · exact h
      · rename_i h3 h4
        have h5 : cmpS w x < 0 := by rw [cmpS_swap x w]; omega
        refine List.pairwise_cons.2 ⟨fun z hz => ?_, h⟩
        rcases List.mem_cons.1 hz with e | e
        · rw [e]; exact h5
        · exact cmpS_trans h5 (h1 z e)
def canonS (xs : List Tx) : List Tx := xs.foldl putS []
theorem foldl_put (xs : List Tx) : ∀ acc : List Tx, SortedS acc → SortedS (xs.foldl putS acc) ∧ ∀ z, z ∈ xs.foldl putS acc ↔ z ∈ acc ∨ z ∈ xs := by
  induction xs with
  | nil => intro acc h; exact ⟨h, by simp⟩
  | cons x xs ih =>
    intro acc h
    obtain ⟨h1, h2⟩ := ih (putS acc x) (sorted_putS h)
    refine ⟨h1, fun z => ?_⟩
    rw [List.foldl_cons, h2, mem_putS, List.mem_cons]
    constructor
    · rintro ((h | h) | h) <;> simp [h]
    · rintro (h | h | h) <;> simp [h]
theorem canon_sorted (xs : List Tx) : SortedS (canonS xs) := (foldl_put xs [] List.Pairwise.nil).1
theorem mem_canon {xs : List Tx} {z : Tx} : z ∈ canonS xs ↔ z ∈ xs := by
  have := (foldl_put xs [] List.Pairwise.nil).2 z
  simpa [canonS] using this
theorem canon_of {xs ys : List Tx} (h : SortedS ys) (hm : ∀ z, z ∈ ys ↔ z ∈ xs) : ys = canonS xs :=
  sorted_unique h (canon_sorted xs) fun z => by rw [hm, mem_canon]
theorem canon_same {xs : List Tx} (h : SortedS xs) : canonS xs = xs := (canon_of h fun _ => Iff.rfl).symm
theorem canon_ext {xs ys : List Tx} (h : ∀ z, z ∈ xs ↔ z ∈ ys) : canonS xs = canonS ys :=
  canon_of (canon_sorted xs) fun z => by rw [mem_canon, h]
theorem fold_canon (xs ys : List Tx) (h : SortedS xs) : ys.foldl putS xs = canonS (xs ++ ys) := by
  obtain ⟨h1, h2⟩ := foldl_put ys xs h
  exact canon_of h1 fun z => by rw [h2, List.mem_append]
theorem sorted_filter {xs : List Tx} (p : Tx → Bool) (h : SortedS xs) : SortedS (xs.filter p) := List.Pairwise.filter p h
/-- two lists in order together -/
def mergeL : List Tx → List Tx → List Tx
  | [], ys => ys
  | xs, [] => xs
  | x :: xs, y :: ys => if cmpS x y < 0 then x :: mergeL xs (y :: ys) else if cmpS x y = 0 then x :: mergeL xs ys else y :: mergeL (x :: xs) ys
  termination_by xs ys => xs.length + ys.length
theorem mergeL_nil_left (ys : List Tx) : mergeL [] ys = ys := by rw [mergeL]
theorem mergeL_nil_right (xs : List Tx) : mergeL xs [] = xs := by cases xs <;> simp [mergeL]
theorem mergeL_cons (x y : Tx) (xs ys : List Tx) : mergeL (x :: xs) (y :: ys) = if cmpS x y < 0 then x :: mergeL xs (y :: ys) else if cmpS x y = 0 then x :: mergeL xs ys else y :: mergeL (x :: xs) ys := by
  rw [mergeL]
theorem mergeL_mem (n : Nat) : ∀ xs ys : List Tx, xs.length + ys.length ≤ n → ∀ z, z ∈ mergeL xs ys ↔ z ∈ xs ∨ z ∈ ys := by
  induction n with
  | zero =>
    intro xs ys h z
    have h1 : xs = [] := List.eq_nil_of_length_eq_zero (by omega)
    have h2 : ys = [] := List.eq_nil_of_length_eq_zero (by omega)
    subst h1 h2; simp [mergeL_nil_left]
  | succ n ih =>
    intro xs ys h z
    cases xs with
    | nil => simp [mergeL_nil_left]
    | cons x xs =>
      cases ys with
      | nil => simp [mergeL_nil_right]
      | cons y ys =>
        simp only [List.length_cons] at h
        rw [mergeL_cons]
        split
        · rw [List.mem_cons, ih xs (y :: ys) (by simp; omega)]
          simp only [List.mem_cons]
          constructor
          · rintro (h | h | h) <;> simp [h]
          · rintro ((h | h) | h) <;> simp [h]
        · split
          · rename_i h2
            have e := cmpS_zero.1 h2
            subst e
            rw [List.mem_cons, ih xs ys (by omega)]
            simp only [List.mem_cons]
            constructor
            · rintro (h | h | h) <;> simp [h]
            · rintro ((h | h) | (h | h)) <;> simp [h]
          · rw [List.mem_cons, ih (x :: xs) ys (by simp; omega)]
            simp only [List.mem_cons]
            constructor
            · rintro (h | (h | h) | h) <;> simp [h]
            · rintro ((h | h) | (h | h)) <;> simp [h]
theorem mem_mergeL {xs ys : List Tx} {z : Tx} : z ∈ mergeL xs ys ↔ z ∈ xs ∨ z ∈ ys := mergeL_mem _ xs ys (Nat.le_refl _) z
theorem mergeL_sorted (n : Nat) : ∀ xs ys : List Tx, xs.length + ys.length ≤ n → SortedS xs → SortedS ys → SortedS (mergeL xs ys) := by
  induction n with
  | zero =>
    intro xs ys h _ _
    have h1 : xs = [] := List.eq_nil_of_length_eq_zero (by omega)
    have h2 : ys = [] := List.eq_nil_of_length_eq_zero (by omega)
    subst h1 h2; rw [mergeL_nil_left]; exact List.Pairwise.nil
  | succ n ih =>
    intro xs ys h hx hy
    cases xs with
    | nil => rw [mergeL_nil_left]; exact hy
    | cons x xs =>
      cases ys with
      | nil => rw [mergeL_nil_right]; exact hx
      | cons y ys =>
        simp only [List.length_cons] at h
        obtain ⟨hx1, hx2⟩ := List.pairwise_cons.1 hx
        obtain ⟨hy1, hy2⟩ := List.pairwise_cons.1 hy
        rw [mergeL_cons]
        split
        · rename_i h3
          refine List.pairwise_cons.2 ⟨fun z hz => ?_, ih xs (y :: ys) (by simp; omega) hx2 hy⟩
          rcases mem_mergeL.1 hz with e | e
          · exact hx1 z e
          · rcases List.mem_cons.1 e with e | e
            · rw [e]; exact h3
            · exact cmpS_trans h3 (hy1 z e)
        · split
          · rename_i h2
            have e := cmpS_zero.1 h2
            subst e
            refine List.pairwise_cons.2 ⟨fun z hz => ?_, ih xs ys (by omega) hx2 hy2⟩
            rcases mem_mergeL.1 hz with e | e
            · exact hx1 z e
            · exact hy1 z e
          · rename_i h3 h4
            have h5 : cmpS y x < 0 := by rw [cmpS_swap x y]; omega
            refine List.pairwise_cons.2 ⟨fun z hz => ?_, ih (x :: xs) ys (by simp; omega) hx hy2⟩
            rcases mem_mergeL.1 hz with e | e
            · rcases List.mem_cons.1 e with e | e
              · rw [e]; exact h5
              · exact cmpS_trans h5 (hx1 z e)
            · exact hy1 z e
theorem mergeL_canon {xs ys : List Tx} (hx : SortedS xs) (hy : SortedS ys) : mergeL xs ys = canonS (xs ++ ys) :=
  canon_of (mergeL_sorted _ xs ys (Nat.le_refl _) hx hy) fun z => by rw [mem_mergeL, List.mem_append]
theorem mergeL_len (n : Nat) : ∀ xs ys : List Tx, xs.length + ys.length ≤ n → (mergeL xs ys).length ≤ xs.length + ys.length := by
  induction n with
  | zero =>
    intro xs ys h
    have h1 : xs = [] := List.eq_nil_of_length_eq_zero (by omega)
    have h2 : ys = [] := List.eq_nil_of_length_eq_zero (by omega)
    subst h1 h2; rw [mergeL_nil_left]; simp
  | succ n ih =>
    intro xs ys h
    cases xs with
    | nil => rw [mergeL_nil_left]; omega
    | cons x xs =>
      cases ys with
      | nil => rw [mergeL_nil_right]; omega
      | cons y ys =>
        simp only [List.length_cons] at h
        rw [mergeL_cons]
        split
        · have := ih xs (y :: ys) (by simp; omega); simp at this ⊢; omega
        · split
          · have := ih xs ys (by omega); simp at this ⊢; omega
          · have := ih (x :: xs) ys (by simp; omega); simp at this ⊢; omega
/-- where a word stands -/
def atN (xs : List Tx) (w : Tx) : Nat := xs.countP fun x => decide (cmpS x w < 0)
theorem atN_le (xs : List Tx) (w : Tx) : atN xs w ≤ xs.length := List.countP_le_length
/-- which lists are good -/
def adjP : List Tx → Prop
  | x :: y :: l => cmpS x y < 0 ∧ adjP (y :: l)
  | _ => True
theorem adj_sorted : ∀ {l : List Tx}, adjP l ↔ SortedS l
  | [] => by simp [adjP, SortedS]
  | [x] => by simp [adjP, SortedS]
  | x :: y :: l => by
    have ih := adj_sorted (l := y :: l)
    constructor
    · rintro ⟨h1, h2⟩
      have h3 := ih.1 h2
      refine List.pairwise_cons.2 ⟨fun z hz => ?_, h3⟩
      rcases List.mem_cons.1 hz with e | e
      · rw [e]; exact h1
      · exact cmpS_trans h1 ((List.pairwise_cons.1 h3).1 z e)
    · intro h
      obtain ⟨h1, h2⟩ := List.pairwise_cons.1 h
      exact ⟨h1 y (List.mem_cons_self ..), ih.2 h2⟩
theorem adj_iff (l : List Tx) : SortedS l ↔ ∀ i, i + 1 < l.length → cmpS (l.getD i ByteArray.empty) (l.getD (i + 1) ByteArray.empty) < 0 := by
  rw [← adj_sorted]
  induction l with
  | nil => simp [adjP]
  | cons x l ih =>
    cases l with
    | nil => simp [adjP]
    | cons y l =>
      constructor
      · rintro ⟨h1, h2⟩ i hi
        cases i with
        | zero => simpa using h1
        | succ i =>
          have := (ih.1 h2) i (by simpa using hi)
          simpa using this
      · intro h
        refine ⟨by simpa using h 0 (by simp), ih.2 fun i hi => ?_⟩
        have := h (i + 1) (by simpa using hi)
        simpa using this
instance (l : List Tx) : Decidable (SortedS l) := by unfold SortedS; infer_instance
def goodV (l : List Tx) : Int := if 60 < l.length then 3 else if ∃ t ∈ l, ¬ wordP t then 6 else if SortedS l then 0 else 7
theorem goodV_zero {l : List Tx} (h : goodV l = 0) : l.length ≤ 60 ∧ (∀ t ∈ l, wordP t) ∧ SortedS l := by
  unfold goodV at h
  split at h
  · omega
  · split at h
    · omega
    · split at h
      · rename_i h1 h2 h3
        exact ⟨by omega, fun t ht => Classical.byContradiction fun k => h2 ⟨t, ht, k⟩, h3⟩
      · omega
end Go.Proofs.Ythboiklcjpnhbaa
