/- the laws of lists over their arguments as they read -/
import Derived.Test.YtieenopbkkbecaaWt5
import Derived.Test.YtieenopbkkbecaaOpT
namespace Go.Proofs.Ytieenopbkkbecaa
open Go.RowKit Go.ChangeShapes Go.WideShapes Go.ChangeAt
set_option linter.unusedVariables false
theorem listThree_walk {H : Type} {enc : TypeId × Value → H} (W : World) (base : Nat) (v0 v1 v2 : Value) (d0 d1 d2 : DataW H) (p0 p1 p2 : List MemPlace)
    (h0 : DataW.Trod enc Try.prog W 0 (fun _ => true) true 22 v0 d0 p0) (h1 : DataW.Trod enc Try.prog W 0 (fun _ => true) true 22 v1 d1 p1) (h2 : DataW.Trod enc Try.prog W 0 (fun _ => true) true 22 v2 d2 p2)
    (o0 : Value.okWide Try.prog W .any base 22 v0) (o1 : Value.okWide Try.prog W .any base 22 v1) (o2 : Value.okWide Try.prog W .any base 22 v2) :
    Calls Try.prog 8 #[v0, v1, v2] W fun e w' => e = .returned (.bool true) ∧ RowKit.Below W.heap.size W w' := by
  obtain ⟨a0, n0, c0, t0, rfl, x0, y0, z0, b0, s0⟩ := open_texts_arg o0 h0
  obtain ⟨a1, n1, c1, t1, rfl, x1, y1, z1, b1, s1⟩ := open_texts_arg o1 h1
  obtain ⟨a2, n2, c2, t2, rfl, x2, y2, z2, b2, s2⟩ := open_texts_arg o2 h2
  exact listThree_any a0 n0 c0 t0 a1 n1 c1 t1 a2 n2 c2 t2 W ⟨x0, y0, z0⟩ b0 s0 ⟨x1, y1, z1⟩ b1 s1 ⟨x2, y2, z2⟩ b2 s2
theorem listParts_walk {H : Type} {enc : TypeId × Value → H} (W : World) (base : Nat) (v0 v1 v2 : Value) (d0 d1 d2 : DataW H) (p0 p1 p2 : List MemPlace)
    (h0 : DataW.Trod enc Try.prog W 0 (fun _ => true) true 22 v0 d0 p0) (h1 : DataW.Trod enc Try.prog W 0 (fun _ => true) true 22 v1 d1 p1) (h2 : DataW.Trod enc Try.prog W 0 (fun _ => true) true 9 v2 d2 p2)
    (o0 : Value.okWide Try.prog W .any base 22 v0) (o1 : Value.okWide Try.prog W .any base 22 v1) (o2 : Value.okWide Try.prog W .any base 9 v2) :
    Calls Try.prog 6 #[v0, v1, v2] W fun e w' => e = .returned (.bool true) ∧ RowKit.Below W.heap.size W w' := by
  obtain ⟨a0, n0, c0, t0, rfl, x0, y0, z0, b0, s0⟩ := open_texts_arg o0 h0
  obtain ⟨a1, n1, c1, t1, rfl, x1, y1, z1, b1, s1⟩ := open_texts_arg o1 h1
  obtain ⟨s2, rfl, rfl, rfl, b2⟩ := Go.ChangeMaps.open_string Try.underlying9 o2 h2
  exact listParts_any a0 n0 c0 t0 a1 n1 c1 t1 s2 W (by unfold maxLen at b2; omega) ⟨x0, y0, z0⟩ b0 s0 ⟨x1, y1, z1⟩ b1 s1
theorem listAt_walk {H : Type} {enc : TypeId × Value → H} (W : World) (base : Nat) (v0 v1 : Value) (d0 d1 : DataW H) (p0 p1 : List MemPlace)
    (h0 : DataW.Trod enc Try.prog W 0 (fun _ => true) true 22 v0 d0 p0) (h1 : DataW.Trod enc Try.prog W 0 (fun _ => true) true 9 v1 d1 p1)
    (o0 : Value.okWide Try.prog W .any base 22 v0) (o1 : Value.okWide Try.prog W .any base 9 v1) :
    Calls Try.prog 7 #[v0, v1] W fun e w' => e = .returned (.bool true) ∧ RowKit.Below W.heap.size W w' := by
  obtain ⟨a0, n0, c0, t0, rfl, x0, y0, z0, b0, s0⟩ := open_texts_arg o0 h0
  obtain ⟨s1, rfl, rfl, rfl, b1⟩ := Go.ChangeMaps.open_string Try.underlying9 o1 h1
  exact listAt_any a0 n0 c0 t0 s1 W (by unfold maxLen at b1; omega) ⟨x0, y0, z0⟩ b0 s0
end Go.Proofs.Ytieenopbkkbecaa
