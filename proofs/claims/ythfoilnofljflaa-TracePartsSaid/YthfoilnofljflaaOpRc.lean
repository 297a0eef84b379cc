/- a slice in a cell of an argument, opened -/
import Derived.Test.YthfoilnofljflaaOpS
import Derived.Test.YthfoilnofljflaaMem
namespace Go.Proofs.Ythfoilnofljflaa
open Go.ChangeShapes Go.WideShapes Go.ChangeAt Go.RowKit Go.Deep
set_option linter.unusedVariables false
set_option maxRecDepth 20000
theorem open_rows_cell {H : Type} {enc : TypeId × Value → H} {P : Program} {W : World} {t e : TypeId} {k : Nat} {c : Value} {fuel : Nat} {y : DataW H × List MemPlace}
    (ht : P.underlying t = some (.slice e)) (hc : P.cellsOf e = k) (hk : 0 < k) (good : List Value → Prop)
    (hgood : ∀ m cs y, DataW.trod enc P W 0 (fun _ => true) true m e cs = some y → good cs)
    (hf : DataW.trod enc P W 0 (fun _ => true) true fuel t [c] = some y) :
    ∃ (a : Option Addr) (n cap : Nat) (R : Nat → List Value), c = .slice a n cap ∧ (a = none → n = 0 ∧ cap = 0) ∧ n ≤ cap ∧ cap ≤ maxLen ∧ (∀ i, i < n → good (R i)) ∧
      (0 < n → ∃ b o, a = some ⟨b, o, none⟩ ∧ ∀ i, i < n → ∀ j, j < k → W.cell? ⟨b, o + i * k + j, none⟩ = (R i)[j]?) := by
  rcases open_slice ht hf with ⟨hcs, _⟩ | ⟨x, len, cap, m, n, D, Pl, hcs, _, hl, hm, hmm, _, hx⟩
  · obtain rfl : c = .slice none 0 0 := by simpa using hcs
    exact ⟨none, 0, 0, fun _ => [], rfl, fun _ => ⟨rfl, rfl⟩, Nat.le_refl _, by unfold maxLen; omega, by simp, by simp⟩
  · obtain rfl : c = .slice (some x) len cap := by simpa using hcs
    simp at hmm
    subst hmm
    rw [hc] at hx
    have hR : ∀ i, ∃ cs' : List Value, i < m → W.cells? 0 (x.add (i * k)) k = some cs' ∧ good cs' := fun i => by
      by_cases hi : i < m
      · obtain ⟨cs', h1, h2⟩ := hx i hi
        exact ⟨cs', fun _ => ⟨h1, hgood _ _ _ h2⟩⟩
      · exact ⟨[], fun h => absurd h hi⟩
    refine ⟨some x, len, m, fun i => (hR i).choose, rfl, (fun h => by cases h), hl, hm, fun i hi => ((hR i).choose_spec (by omega)).2, fun h0 => ?_⟩
    have h1 := fun i (hi : i < m) => (World.cells?_some ((hR i).choose_spec hi).1)
    obtain ⟨b, off, spot⟩ := x
    have hspot : spot = none := by
      have h2 := (h1 0 (by omega)).2.2 0 hk
      have h3 := (h1 0 (by omega)).2.1
      have h4 : ((hR 0).choose)[0]? = some (((hR 0).choose)[0]'(by omega)) := List.getElem?_eq_getElem _
      rw [h4] at h2
      simpa [Addr.add] using World.cell?_spot h2
    subst hspot
    refine ⟨b, off, rfl, fun i hi j hj => ?_⟩
    have h2 := (h1 i (by omega)).2.2 j hj
    rw [← h2, Go.WideShapes.add_plain, Go.WideShapes.add_plain]
end Go.Proofs.Ythfoilnofljflaa
