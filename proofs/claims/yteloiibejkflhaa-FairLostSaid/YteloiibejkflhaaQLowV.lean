/- a number, from 0 to below n -/
import Derived.Test.YteloiibejkflhaaChecked
import Derived.Test.YteloiibejkflhaaPkA
import Derived.WalkLawsBesides
namespace Go.Proofs.Yteloiibejkflhaa
open Go.RowKit
set_option linter.unusedVariables false
set_option maxRecDepth 20000
def lowV (x n : Int) : Int := IntKind.u64.wrap x % n
theorem low_bd (x n : Int) (h : 0 < n) : 0 ≤ lowV x n ∧ lowV x n < n := ⟨Int.emod_nonneg _ (by omega), Int.emod_lt_of_pos _ h⟩
theorem u64_in (n : Int) (h : 0 ≤ n) (h2 : n < 18446744073709551616) : IntKind.u64.wrap n = n := by
  simp only [IntKind.wrap, IntKind.signed, IntKind.bits]; simp; omega
theorem u64_bdL (d : Int) : 0 ≤ IntKind.u64.wrap d ∧ IntKind.u64.wrap d < 18446744073709551616 := by
  simp only [IntKind.wrap, IntKind.signed, IntKind.bits]; simp; omega
theorem low_any (x n : Int) (h : 1 ≤ n) (h2 : n < 4611686018427387904) (w : World) :
    Calls Try.prog 9 #[.int .i64 x, .int .i64 n] w fun e w' => e = .returned (.int .i64 (lowV x n)) ∧ w = w' := by
  have hb := low_bd x n (by omega)
  have hw := u64_in n (by omega) (by omega)
  have hx := u64_bdL x
  go_enter Try.func9, Try.ntmps9
  go_wp2
  go_ret
  exact ⟨ret_int (by unfold lowV at *; rw [IntWalk.wrap64_in _ ⟨by omega, by omega⟩]), rfl⟩
end Go.Proofs.Yteloiibejkflhaa
