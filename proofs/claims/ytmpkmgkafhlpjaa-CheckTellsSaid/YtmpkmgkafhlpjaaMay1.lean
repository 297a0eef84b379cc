/- contract of rank.May -/
import Derived.Test.YtmpkmgkafhlpjaaAs1
import Derived.Deep.QuietTactic
import Derived.BigQuiet
namespace Go.Proofs.Ytmpkmgkafhlpjaa
open Go.RowKit
set_option linter.unusedVariables false
set_option maxRecDepth 20000
/-- a query that may be asked -/
def mayP (s : ByteArray) (k n : Int) : Prop := (0 ≤ k ∧ k ≤ 4) ∧ (1 ≤ n ∧ n ≤ 10) ∧ 0 ≤ lenS s ∧ lenS s ≤ 16
instance (s : ByteArray) (k n : Int) : Decidable (mayP s k n) := by unfold mayP; infer_instance
theorem may_any (s : ByteArray) (k n : Int) (w : World) (hs : s.size ≤ 9223372036854775807) :
    Calls Try.prog 24 #[.agg #[.string s, .int .i64 k, .int .i64 n]] w fun e w' => e = .returned (.bool (decide (mayP s k n))) ∧ Below w.heap.size w w' := by
  have hA := Lib.hid (fun w => asked_any s w hs)
  by_cases h1 : 0 ≤ k
  case neg =>
    rw [decide_eq_false (fun x => h1 x.1.1)]
    go_enter Try.func24, Try.ntmps24
    go_wp2_with fail
    go_ret
    exact ⟨rfl, below_one _ _⟩
  by_cases h2 : k ≤ 4
  case neg =>
    rw [decide_eq_false (fun x => h2 x.1.2)]
    go_enter Try.func24, Try.ntmps24
    go_wp2_with fail
    go_ret
    exact ⟨rfl, below_one _ _⟩
  by_cases h3 : 1 ≤ n
  case neg =>
    rw [decide_eq_false (fun x => h3 x.2.1.1)]
    go_enter Try.func24, Try.ntmps24
    go_wp2_with fail
    go_ret
    exact ⟨rfl, below_one _ _⟩
  by_cases h4 : n ≤ 10
  case neg =>
    rw [decide_eq_false (fun x => h4 x.2.1.2)]
    go_enter Try.func24, Try.ntmps24
    go_wp2_with fail
    go_ret
    exact ⟨rfl, below_one _ _⟩
  rw [show decide (mayP s k n) = decide (0 ≤ lenS s ∧ lenS s ≤ 16) by unfold mayP; simp [h1, h2, h3, h4]]
  generalize decide (0 ≤ lenS s ∧ lenS s ≤ 16) = c at *
  go_enter Try.func24, Try.ntmps24
  go_wp2_with fail
  refine (hA.out _).mono ?_
  rintro e w' ⟨rfl, hb⟩
  go_wp2_with fail
  go_ret
  exact ⟨rfl, (below_one _ _).trans (hb.mono (by simp))⟩
theorem may_lit (s : ByteArray) (k n : Int) (c : Bool) (w : World) (hs : s.size ≤ 9223372036854775807) (hc : decide (mayP s k n) = c) :
    Calls Try.prog 24 #[.agg #[.string s, .int .i64 k, .int .i64 n]] w fun e w' => e = .returned (.bool c) ∧ Below w.heap.size w w' := by subst hc; exact may_any s k n w hs
end Go.Proofs.Ytmpkmgkafhlpjaa
