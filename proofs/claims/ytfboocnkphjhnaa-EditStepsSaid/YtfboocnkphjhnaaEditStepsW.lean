/- the law of one step, and of a like beginning and end: all its ways -/
import Derived.Test.YtfboocnkphjhnaaEs0
import Derived.Test.YtfboocnkphjhnaaEs1
import Derived.Test.YtfboocnkphjhnaaEs2A
import Derived.Test.YtfboocnkphjhnaaEs2B
import Derived.Test.YtfboocnkphjhnaaEs2C
import Derived.Test.YtfboocnkphjhnaaEs2D
import Derived.Test.YtfboocnkphjhnaaEs2E
import Derived.Test.YtfboocnkphjhnaaEs2F
namespace Go.Proofs.Ytfboocnkphjhnaa
open Go.RowKit
set_option linter.unusedVariables false
theorem editSteps_any (ra rb pa qb : List Int) (a b aa ab : Option Addr) (m n s t ca cb cp cq : Nat) (at' r do' : Int) (w : World) (ha : HoldsI .i32 w a m ra) (na : a = none → m = 0 ∧ ca = 0) (hca : m ≤ ca) (hb : HoldsI .i32 w b n rb) (nb : b = none → n = 0 ∧ cb = 0) (hp : HoldsI .i32 w aa s pa) (np : aa = none → s = 0 ∧ cp = 0) (hq : HoldsI .i32 w ab t qb) (nq : ab = none → t = 0 ∧ cq = 0) (b1 : m ≤ 9223372036854775807) (b2 : n ≤ 9223372036854775807) (b3 : s ≤ 9223372036854775807) (b4 : t ≤ 9223372036854775807) (c1 : ca ≤ 9223372036854775807) :
    Calls Try.prog 5 #[.slice a m ca, .slice b n cb, .int .i64 at', .int .i32 r, .int .i64 do', .slice aa s cp, .slice ab t cq] w fun e w' => e = .returned (.bool true) ∧ Below w.heap.size w w' := by
  have h0 := low_bd do' 3 (by omega)
  have h1 := low_bd at' ((m : Int) + 1) (by omega)
  by_cases e0 : lowV do' 3 = 0
  · exact editSteps_0 ra rb pa qb a b aa ab m n s t ca cb cp cq at' r do' w ha na hca hb nb hp np hq nq b1 b2 b3 b4 c1 e0
  by_cases e1 : lowV do' 3 = 1
  · exact editSteps_1 ra rb pa qb a b aa ab m n s t ca cb cp cq at' r do' w ha na hca hb nb hp np hq nq b1 b2 b3 b4 c1 e1
  have e2 : lowV do' 3 = 2 := by omega
  by_cases f1 : lowV at' ((m : Int) + 1) + 1 < (m : Int)
  · exact editSteps_2A ra rb pa qb a b aa ab m n s t ca cb cp cq at' r do' w ha na hca hb nb hp np hq nq b1 b2 b3 b4 c1 e2 f1
  by_cases f2 : lowV at' ((m : Int) + 1) + 1 = (m : Int)
  · by_cases f3 : ca = m
    · exact editSteps_2B ra rb pa qb a b aa ab m n s t ca cb cp cq at' r do' w ha na hca hb nb hp np hq nq b1 b2 b3 b4 c1 e2 ⟨f2, f3⟩
    · exact editSteps_2C ra rb pa qb a b aa ab m n s t ca cb cp cq at' r do' w ha na hca hb nb hp np hq nq b1 b2 b3 b4 c1 e2 ⟨f2, by omega⟩
  have f4 : lowV at' ((m : Int) + 1) = (m : Int) := by omega
  by_cases f5 : a = none
  · exact editSteps_2D ra rb pa qb a b aa ab m n s t ca cb cp cq at' r do' w ha na hca hb nb hp np hq nq b1 b2 b3 b4 c1 e2 ⟨f4, f5⟩
  by_cases f3 : ca = m
  · exact editSteps_2E ra rb pa qb a b aa ab m n s t ca cb cp cq at' r do' w ha na hca hb nb hp np hq nq b1 b2 b3 b4 c1 e2 ⟨f4, f5, f3⟩
  · exact editSteps_2F ra rb pa qb a b aa ab m n s t ca cb cp cq at' r do' w ha na hca hb nb hp np hq nq b1 b2 b3 b4 c1 e2 ⟨f4, f5, by omega⟩
open Go.ChangeShapes Go.WideShapes Go.ChangeAt in
theorem editSteps_walk {H : Type} {enc : TypeId × Value → H} (W : World) (base : Nat) (v0 v1 v2 v3 v4 v5 v6 : Value) (d0 d1 d2 d3 d4 d5 d6 : DataW H) (p0 p1 p2 p3 p4 p5 p6 : List MemPlace)
    (h0 : DataW.Trod enc Try.prog W 0 (fun _ => true) true 22 v0 d0 p0) (h1 : DataW.Trod enc Try.prog W 0 (fun _ => true) true 22 v1 d1 p1) (h2 : DataW.Trod enc Try.prog W 0 (fun _ => true) true 3 v2 d2 p2) (h3 : DataW.Trod enc Try.prog W 0 (fun _ => true) true 21 v3 d3 p3) (h4 : DataW.Trod enc Try.prog W 0 (fun _ => true) true 3 v4 d4 p4) (h5 : DataW.Trod enc Try.prog W 0 (fun _ => true) true 22 v5 d5 p5) (h6 : DataW.Trod enc Try.prog W 0 (fun _ => true) true 22 v6 d6 p6)
    (o0 : Value.okWide Try.prog W .any base 22 v0) (o1 : Value.okWide Try.prog W .any base 22 v1) (o2 : Value.okWide Try.prog W .any base 3 v2) (o3 : Value.okWide Try.prog W .any base 21 v3) (o4 : Value.okWide Try.prog W .any base 3 v4) (o5 : Value.okWide Try.prog W .any base 22 v5) (o6 : Value.okWide Try.prog W .any base 22 v6) :
    Calls Try.prog 5 #[v0, v1, v2, v3, v4, v5, v6] W fun e w' => e = .returned (.bool true) ∧ RowKit.Below W.heap.size W w' := by
  obtain ⟨a, ra, ca, rfl, ha, na, k1, k2, _⟩ := open_runes_arg o0 h0
  obtain ⟨b, rb, cb, rfl, hb, nb, k3, k4, _⟩ := open_runes_arg o1 h1
  obtain ⟨x2, rfl, rfl, rfl, b2⟩ := open_int Try.underlying3 o2 h2
  obtain ⟨x3, rfl, rfl, rfl, b3⟩ := open_int Try.underlying21 o3 h3
  obtain ⟨x4, rfl, rfl, rfl, b4⟩ := open_int Try.underlying3 o4 h4
  obtain ⟨aa, pa, cp, rfl, hp, np, k5, k6, _⟩ := open_runes_arg o5 h5
  obtain ⟨ab, qb, cq, rfl, hq, nq, k7, k8, _⟩ := open_runes_arg o6 h6
  exact editSteps_any ra rb pa qb a b aa ab _ _ _ _ ca cb cp cq x2 x3 x4 W ha na k1 hb nb hp np hq nq (by unfold maxLen at k2; omega) (by unfold maxLen at k4; omega) (by unfold maxLen at k6; omega) (by unfold maxLen at k8; omega) (by unfold maxLen at k2; omega)
end Go.Proofs.Ytfboocnkphjhnaa
