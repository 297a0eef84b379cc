/- contracts of rows: the first row of a table, and a row turned into the next one -/
import Derived.Test.YteloiibejkflhaaChecked
import Derived.Test.YteloiibejkflhaaPkA
import Derived.Test.YteloiibejkflhaaQEdM
import Derived.WalkLawsBesides
import Derived.Outline
namespace Go.Proofs.Yteloiibejkflhaa
open Go.RowKit
set_option linter.unusedVariables false
set_option maxRecDepth 20000
def intsV (zs : List Int) : List Value := zs.map (Value.int .i64)
theorem int_info : (Try.prog.info? 3).map (fun i => (i.zero, i.size, i.bytes)) = some (some (.int .i64 0), 1, 8) := by kernel_rfl
theorem intsV_set (zs : List Int) (j : Nat) (x : Int) : (intsV zs).set j (.int .i64 x) = intsV (zs.set j x) := by simp [intsV, List.map_set]
theorem intsV_at (zs : List Int) (j : Nat) (h : j < zs.length) : (intsV zs)[j]? = some (.int .i64 (zs.getD j 0)) := by simp [intsV, List.getD_eq_getElem?_getD, h]
theorem intsV_one (zs : List Int) : ∀ u ∈ intsV zs, u.oneCell' = true := ints_oneCell _ _
/-- the numbers from 0 on, the first k; 0 behind them -/
def upTo (n k : Nat) : List Int := (List.range n).map fun i => if i < k then (i : Int) else 0
theorem upTo_set (n k : Nat) (h : k < n) : (upTo n k).set k (k : Int) = upTo n (k + 1) := by
  apply List.ext_getElem
  · simp [upTo]
  · intro i h1 h2
    rw [List.getElem_set]
    simp only [upTo, List.getElem_map, List.getElem_range]
    by_cases e : k = i
    · subst e; simp
    · rw [if_neg e]
      by_cases h3 : i < k
      · simp [h3, show i < k + 1 by omega]
      · simp [h3, show ¬ i < k + 1 by omega]
theorem upTo_zero (n : Nat) : intsV (upTo n 0) = List.replicate n (.int .i64 0) := by
  apply List.ext_getElem
  · simp [intsV, upTo]
  · intro i h1 h2; simp [intsV, upTo]
theorem upTo_row (a b : List Int) : upTo (a.length + 1) (a.length + 1) = Ed.row a b 0 := by
  unfold upTo Ed.row
  refine List.map_congr_left fun i hi => ?_
  have := List.mem_range.1 hi
  rw [if_pos (by omega)]
  cases i with
  | zero => simp only [Ed.L]
  | succ i => simp only [Ed.L]; omega
theorem upTo_length (n k : Nat) : (upTo n k).length = n := by simp [upTo]
end Go.Proofs.Yteloiibejkflhaa
