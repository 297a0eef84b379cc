/- FairLost: the walk over arguments -/
import Derived.Test.YteloiibejkflhaaQFairLostW
import Derived.Test.YteloiibejkflhaaPkA
import Derived.Test.YteloiibejkflhaaQOpCfg
namespace Go.Proofs.Yteloiibejkflhaa
open Go.ChangeShapes Go.WideShapes Go.ChangeAt Go.RowKit
set_option linter.unusedVariables false
set_option maxRecDepth 20000
theorem fairLost_walk {H : Type} {enc : TypeId × Value → H} (W : World) (base : Nat) (v0 v1 v2 v3 v4 v5 : Value) (d0 d1 d2 d3 d4 d5 : DataW H) (p0 p1 p2 p3 p4 p5 : List MemPlace)
    (h0 : DataW.Trod enc Try.prog W 0 (fun _ => true) true 25 v0 d0 p0) (h1 : DataW.Trod enc Try.prog W 0 (fun _ => true) true 32 v1 d1 p1) (h2 : DataW.Trod enc Try.prog W 0 (fun _ => true) true 3 v2 d2 p2) (h3 : DataW.Trod enc Try.prog W 0 (fun _ => true) true 33 v3 d3 p3) (h4 : DataW.Trod enc Try.prog W 0 (fun _ => true) true 3 v4 d4 p4) (h5 : DataW.Trod enc Try.prog W 0 (fun _ => true) true 3 v5 d5 p5)
    (o0 : Value.okWide Try.prog W .any base 25 v0) (o1 : Value.okWide Try.prog W .any base 32 v1) (o2 : Value.okWide Try.prog W .any base 3 v2) (o3 : Value.okWide Try.prog W .any base 33 v3) (o4 : Value.okWide Try.prog W .any base 3 v4) (o5 : Value.okWide Try.prog W .any base 3 v5) :
    Calls Try.prog 5 #[v0, v1, v2, v3, v4, v5] W fun e w' => e = .returned (.bool true) ∧ RowKit.Below W.heap.size W w' := by
  obtain ⟨c, rfl, ok⟩ := open_cfg o0 h0
  obtain ⟨a, n, cap, xs, rfl, hh, -, hc1, hc2⟩ := open_recs_cap o1 h1
  obtain ⟨x2, rfl, rfl, rfl, b2⟩ := open_int Try.underlying3 o2 h2
  obtain ⟨ga, gn, gc, zs, rfl, hg, -, hg1, hg2, -⟩ := open_ints_arg (k := .i64) Try.underlying33 Try.underlying3 (by kernel_rfl) o3 h3
  obtain ⟨x4, rfl, rfl, rfl, b4⟩ := open_int Try.underlying3 o4 h4
  obtain ⟨x5, rfl, rfl, rfl, b5⟩ := open_int Try.underlying3 o5 h5
  exact fairLost_any c a n cap xs x2 ga gn gc zs x4 x5 W ok hh hc1 hc2 hg (by unfold maxLen at hg2; omega)
end Go.Proofs.Yteloiibejkflhaa
