/- contract of edit.Distance -/
import Derived.Test.YteloiibejkflhaaQEd30
namespace Go.Proofs.Yteloiibejkflhaa
open Go.RowKit
set_option linter.unusedVariables false
set_option maxRecDepth 20000
/-- the distance of two strings, or -1 -/
def distS (a b : ByteArray) : Int := if 0 ≤ lenS a ∧ 0 ≤ lenS b then Ed.L (intsN (runesS a)) (intsN (runesS b)) (runesS a).length (runesS b).length else -1
theorem intsN_length (P : List Nat) : (intsN P).length = P.length := by simp [intsN]
theorem intsN_at {s : ByteArray} {P Q : List Nat} {r : Nat} (h : runesS s = P ++ r :: Q) : (intsN (runesS s)).getD P.length 0 = (r : Int) := by
  rw [h]; simp [intsN, List.getD_eq_getElem?_getD]
end Go.Proofs.Yteloiibejkflhaa
