/- An argument that is a slice of bools, opened. Of whatever program. -/
import Derived.Test.YtphcmokcdaiphaaMem
import Derived.Deep.Grids
namespace Go.Proofs.Ytphcmokcdaiphaa
open Go.ChangeShapes Go.WideShapes Go.ChangeAt Go.RowKit Go.Deep
set_option linter.unusedVariables false
/-- the slice holds these bools -/
def HoldsQ (w : World) (a : Option Addr) (n : Nat) (B : Nat → Bool) : Prop :=
  0 < n → ∃ b o, a = some ⟨b, o, none⟩ ∧ ∀ i, i < n → w.cell? ⟨b, o + i, none⟩ = some (.bool (B i))
theorem HoldsQ.below {w w' : World} {a : Option Addr} {n : Nat} {B : Nat → Bool} (h : HoldsQ w a n B) (hb : Below w.heap.size w w') : HoldsQ w' a n B := fun h0 => by
  obtain ⟨b, o, ha, hc⟩ := h h0
  exact ⟨b, o, ha, fun i hi => by rw [hb.cell (p := ⟨b, o + i, none⟩) (lt_of_cell (hc i hi))]; exact hc i hi⟩
theorem open_bools_arg {H : Type} {enc : TypeId × Value → H} {P : Program} {W : World} {base : Nat} {t e : TypeId} {v : Value} {d : DataW H} {p : List MemPlace}
    (ht : P.underlying t = some (.slice e)) (he : P.underlying e = some .bool) (hc : P.cellsOf e = 1)
    (o : Value.okWide P W .any base t v) (h : DataW.Trod enc P W 0 (fun _ => true) true t v d p) :
    ∃ a n cap B, v = .slice a n cap ∧ HoldsQ W a n B ∧ n ≤ maxLen := by
  obtain ⟨a, len, cap, rfl⟩ := okWide_slice ht o
  obtain ⟨fuel, hf⟩ := h
  rcases open_bools ht he hc hf with ⟨hcs, _⟩ | ⟨x, l, c, B, hcs, _, hl, hm, _, hx⟩
  · simp [Value.cells] at hcs
    obtain ⟨rfl, rfl, rfl⟩ := hcs
    exact ⟨none, 0, 0, fun _ => true, rfl, (fun h => absurd h (by omega)), by unfold maxLen; omega⟩
  · simp [Value.cells] at hcs
    obtain ⟨rfl, rfl, rfl⟩ := hcs
    refine ⟨some x, len, cap, B, rfl, fun h0 => ?_, Nat.le_trans hl hm⟩
    obtain ⟨b, off, spot⟩ := x
    have hspot : spot = none := by simpa [Addr.add] using World.cell?_spot (hx 0 (by omega))
    subst hspot
    exact ⟨b, off, rfl, fun i hi => by rw [← Go.WideShapes.add_plain]; exact hx i (by omega)⟩
end Go.Proofs.Ytphcmokcdaiphaa
