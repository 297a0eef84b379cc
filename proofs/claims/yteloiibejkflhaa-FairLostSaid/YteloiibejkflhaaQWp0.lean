/- a list of texts that was answered -/
import Derived.Test.YteloiibejkflhaaPkA
namespace Go.Proofs.Yteloiibejkflhaa
open Go.RowKit
set_option linter.unusedVariables false
set_option maxRecDepth 20000
theorem str_info : (Try.prog.info? 9).map (fun i => (i.zero, i.size, i.bytes)) = some (some (.string ⟨#[]⟩), 1, 16) := by kernel_rfl
theorem getD_memT' (zs : List Tx) (j : Nat) (h : j < zs.length) : zs.getD j ByteArray.empty ∈ zs := by
  rw [List.getD_eq_getElem?_getD, List.getElem?_eq_getElem h]; simp
/-- a list of texts that was answered, the call's own -/
def RetO (w : World) (ys : List Tx) (e : Ending) (w' : World) : Prop := ∃ a c, e = .returned (.slice a ys.length c) ∧ w'.ownsRow w.heap.size 9 1 (.slice a ys.length c) ys.length (strsV ys) ∧ Below w.heap.size w w'
theorem ret_own {w w' : World} {a : Option Addr} {c n : Nat} {ys zs : List Tx} (h : ys = zs) (hn : ys.length = n) (hh : w'.ownsRow w.heap.size 9 1 (.slice a n c) n (strsV ys)) (hb : Below w.heap.size w w') (v : Value) (hv : v = .slice a n c) : RetO w zs (.returned v) w' := by
  subst h hv hn; exact ⟨a, c, rfl, hh, hb⟩
end Go.Proofs.Yteloiibejkflhaa
