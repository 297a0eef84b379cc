/- leases: of no table; how many lives were told -/
import Derived.Test.YtphcmokcdaiphaaLe
import Derived.Test.YtphcmokcdaiphaaLOp
import Derived.Test.YtphcmokcdaiphaaLowV
namespace Go.Proofs.Ytphcmokcdaiphaa
open Go.RowKit
set_option linter.unusedVariables false
theorem leaseNone_any (q : Bool) (k n t : Int) (w : World) :
    Calls Try.prog 6 #[.agg #[.bool q, .int .i64 k, .int .i64 n, .int .i64 t]] w fun e w' => e = .returned (.bool true) ∧ Below w.heap.size w w' := by
  go_enter Try.func6, Try.ntmps6
  go_wp2_with fail
  refine (hello_nil k n t _).mono ?_
  rintro e w' ⟨rfl, rfl⟩
  go_wp2_with fail
  refine (seen_nil k n t _).mono ?_
  rintro e w' ⟨rfl, rfl⟩
  go_wp2_with fail
  refine (live_nil k t _).mono ?_
  rintro e w' ⟨rfl, rfl⟩
  go_wp2_with fail
  refine (epoch_nil k _).mono ?_
  rintro e w' ⟨rfl, rfl⟩
  go_wp2_with fail
  refine (life_nil k _).mono ?_
  rintro e w' ⟨rfl, rfl⟩
  go_wp2_with fail
  refine (awake_any _).mono ?_
  rintro e w' ⟨rfl, hb⟩
  go_wp2_with fail
  go_ret
  exact ⟨rfl, (below_one w _).trans (hb.mono (below_one w _).size)⟩
theorem leaseNone_walk {H : Type} {enc : TypeId × Value → H} (W : World) (base : Nat) (v0 : Value) (d0 : DataW H) (p0 : List MemPlace)
    (h0 : DataW.Trod enc Try.prog W 0 (fun _ => true) true 33 v0 d0 p0)
    (o0 : Value.okWide Try.prog W .any base 33 v0) :
    Calls Try.prog 6 #[v0] W fun e w' => e = .returned (.bool true) ∧ RowKit.Below W.heap.size W w' := by
  obtain ⟨x, _, rfl⟩ := open_act o0 h0
  exact leaseNone_any _ _ _ _ W
theorem hello_lt {s : Lt} {k f t : Int} (h : helloArg s k f t) (hl : f < s.L (idx k)) : helloE s k f t = 0 ∧ helloN s k f t = 4 ∧ helloS s k f t = s := by
  unfold helloE helloN helloS; simp [h, hl]
theorem hello_eq {s : Lt} {k f t : Int} (h : helloArg s k f t) (hl : s.L (idx k) = f) : helloE s k f t = s.E (idx k) ∧ helloN s k f t = 0 ∧ (helloS s k f t).E = s.E ∧ (helloS s k f t).L = s.L ∧ (helloS s k f t).N = s.N ∧ (helloS s k f t).T = s.T ∧ (helloS s k f t).U = upd s.U (idx k) (max (s.U (idx k)) (t + s.T)) := by
  unfold helloE helloN helloS bumped; simp [h, hl, extended]
theorem hello_gt {s : Lt} {k f t : Int} (h : helloArg s k f t) (hl : s.L (idx k) < f) : helloE s k f t = s.E (idx k) + 1 ∧ helloN s k f t = 0 ∧ (helloS s k f t).E = upd s.E (idx k) (s.E (idx k) + 1) ∧ (helloS s k f t).L = upd s.L (idx k) f ∧ (helloS s k f t).N = s.N ∧ (helloS s k f t).T = s.T ∧ (helloS s k f t).U = upd s.U (idx k) (max (s.U (idx k)) (t + s.T)) := by
  have h2 : ¬ f < s.L (idx k) := by omega
  unfold helloE helloN helloS bumped; simp [h, hl, h2, extended, raised, upd_at]
end Go.Proofs.Ytphcmokcdaiphaa
