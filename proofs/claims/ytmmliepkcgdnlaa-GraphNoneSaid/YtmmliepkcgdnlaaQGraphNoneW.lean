/- graph: of no graph -/
import Derived.Test.YtmmliepkcgdnlaaPkB
namespace Go.Proofs.Ytmmliepkcgdnlaa
open Go.RowKit
set_option linter.unusedVariables false
set_option maxRecDepth 20000
theorem gFrom_nil (s : Tx) (most : Int) (w : World) : Calls Try.prog 28 #[.pointer none, .string s, .int .i64 most] w fun e w' => e = .returned (.slice none 0 0) ∧ Below w.heap.size w w' := by
  have CH := Lib.hid (fun w => gHas_nil 0 w)
  go_enter Try.func28, Try.ntmps28
  go_wp2_with fail
  refine (CH.out _).mono ?_
  rintro e w1 ⟨rfl, rfl⟩
  go_wp2_with fail
  go_ret
  exact ⟨rfl, (below_one _ _).trans (((below_one _ _).mono (by simp)).trans ((below_one _ _).mono (by simp; omega)))⟩
theorem gWords_nil (w : World) : Calls Try.prog 32 #[.pointer none] w fun e w' => e = .returned (.slice none 0 0) ∧ Below w.heap.size w w' := by
  have CH := Lib.hid (gFrom_nil ⟨#[]⟩ 60 w)
  go_enter Try.func32, Try.ntmps32
  go_wp2_with fail
  refine CH.out.mono ?_
  rintro e w1 ⟨rfl, hb⟩
  go_wp2_with fail
  go_ret
  exact ⟨rfl, hb⟩
set_option maxHeartbeats 1600000 in
theorem graphNone_any (n r : Int) (s : Tx) (w : World) (hs : s.size ≤ 9223372036854775807) : Calls Try.prog 7 #[.int .i64 n, .int .i32 r, .string s] w fun e w' => e = .returned (.bool true) ∧ Below w.heap.size w w' := by
  by_cases h100 : 100 < s.size
  · have d1 : decide (100 < s.size) = true := decide_eq_true h100
    go_enter Try.func7, Try.ntmps7
    go_wp2_with fail
    refine (awakeG_any _).mono ?_
    rintro e w' ⟨rfl, hb⟩
    go_wp2_with fail
    go_ret
    exact ⟨rfl, hb⟩
  · have d1 : decide (100 < s.size) = false := decide_eq_false h100
    go_enter Try.func7, Try.ntmps7
    go_wp2_with fail
    refine (gNext_nil _ _ _).mono ?_
    rintro e w' ⟨rfl, rfl⟩
    go_wp2_with fail
    refine (gNodes_nil _).mono ?_
    rintro e w' ⟨rfl, rfl⟩
    go_wp2_with fail
    refine (gFinal_nil _ _).mono ?_
    rintro e w' ⟨rfl, rfl⟩
    go_wp2_with fail
    refine (gEdges_nil _ _).mono ?_
    rintro e w' ⟨rfl, rfl⟩
    go_wp2_with fail
    refine (gWord_nil _ _).mono ?_
    rintro e w1 ⟨rfl, hb1⟩
    go_wp2_with fail
    refine (gWords_nil _).mono ?_
    rintro e w2 ⟨rfl, hb2⟩
    go_wp2_with fail
    refine (gFrom_nil _ _ _).mono ?_
    rintro e w3 ⟨rfl, hb3⟩
    go_wp2_with fail
    refine (awakeG_any _).mono ?_
    rintro e w4 ⟨rfl, hb4⟩
    go_wp2_with fail
    go_ret
    have z1 := hb1.size; have z2 := hb2.size; have z3 := hb3.size
    exact ⟨rfl, hb1.trans (hb2.trans (hb3.trans (hb4.mono z3) |>.mono z2) |>.mono z1)⟩
open Go.ChangeShapes Go.WideShapes Go.ChangeAt in
theorem graphNone_walk {H : Type} {enc : TypeId × Value → H} (W : World) (base : Nat) (v0 v1 v2 : Value) (d0 d1 d2 : DataW H) (p0 p1 p2 : List MemPlace)
    (h0 : DataW.Trod enc Try.prog W 0 (fun _ => true) true 3 v0 d0 p0) (h1 : DataW.Trod enc Try.prog W 0 (fun _ => true) true 21 v1 d1 p1) (h2 : DataW.Trod enc Try.prog W 0 (fun _ => true) true 9 v2 d2 p2)
    (o0 : Value.okWide Try.prog W .any base 3 v0) (o1 : Value.okWide Try.prog W .any base 21 v1) (o2 : Value.okWide Try.prog W .any base 9 v2) :
    Calls Try.prog 7 #[v0, v1, v2] W fun e w' => e = .returned (.bool true) ∧ RowKit.Below W.heap.size W w' := by
  obtain ⟨x0, rfl, rfl, rfl, b0⟩ := open_int Try.underlying3 o0 h0
  obtain ⟨x1, rfl, rfl, rfl, b1⟩ := open_int Try.underlying21 o1 h1
  obtain ⟨s2, rfl, rfl, rfl, b2⟩ := Go.ChangeMaps.open_string Try.underlying9 o2 h2
  exact graphNone_any x0 x1 s2 W (by unfold maxLen at b2; omega)
end Go.Proofs.Ytmmliepkcgdnlaa
