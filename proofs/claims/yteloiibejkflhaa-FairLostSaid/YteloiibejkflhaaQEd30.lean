/- rows in memory: preliminaries -/
import Derived.Test.YteloiibejkflhaaQEd2
import Derived.Test.YteloiibejkflhaaQTx2
namespace Go.Proofs.Yteloiibejkflhaa
open Go.RowKit
set_option linter.unusedVariables false
set_option maxRecDepth 20000
theorem holdsI_lt {k : IntKind} {w : World} {a : Option Addr} {n : Nat} {zs : List Int} (h : HoldsI k w a n zs) : ∀ b o, 0 < n → a = some ⟨b, o, none⟩ → b < w.heap.size := by
  intro b o h0 ha
  obtain ⟨b2, o2, hb, hc⟩ := h.2 h0
  rw [ha] at hb
  injection hb with hb
  injection hb with hb1 hb2
  subst hb1
  have := hc 0 h0
  exact lt_of_cell this
/-- A row of distances that the call made. -/
def RetRow (w : World) (ra rb : List Int) (j : Nat) (g : Nat) (c : Nat) (w' : World) : Prop :=
  w'.ownsRow w.heap.size 3 1 (.slice (some ⟨g, 0, none⟩) (ra.length + 1) c) (ra.length + 1) (intsV (Ed.row ra rb j)) ∧ Below w.heap.size w w'
end Go.Proofs.Yteloiibejkflhaa
