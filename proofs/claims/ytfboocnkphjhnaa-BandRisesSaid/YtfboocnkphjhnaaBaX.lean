/- the laws of band over their arguments as they read -/
import Derived.Test.YtfboocnkphjhnaaBaW
import Derived.Test.YtfboocnkphjhnaaOpR
namespace Go.Proofs.Ytfboocnkphjhnaa
open Go.RowKit Go.ChangeShapes Go.WideShapes Go.ChangeAt
set_option linter.unusedVariables false
theorem bandThird_walk {H : Type} {enc : TypeId × Value → H} (W : World) (base : Nat) (v0 v1 v2 v3 v4 : Value) (d0 d1 d2 d3 d4 : DataW H) (p0 p1 p2 p3 p4 : List MemPlace)
    (h0 : DataW.Trod enc Try.prog W 0 (fun _ => true) true 22 v0 d0 p0) (h1 : DataW.Trod enc Try.prog W 0 (fun _ => true) true 22 v1 d1 p1) (h2 : DataW.Trod enc Try.prog W 0 (fun _ => true) true 22 v2 d2 p2)
    (h3 : DataW.Trod enc Try.prog W 0 (fun _ => true) true 3 v3 d3 p3) (h4 : DataW.Trod enc Try.prog W 0 (fun _ => true) true 3 v4 d4 p4)
    (o0 : Value.okWide Try.prog W .any base 22 v0) (o1 : Value.okWide Try.prog W .any base 22 v1) (o2 : Value.okWide Try.prog W .any base 22 v2) (o3 : Value.okWide Try.prog W .any base 3 v3) (o4 : Value.okWide Try.prog W .any base 3 v4) :
    Calls Try.prog 11 #[v0, v1, v2, v3, v4] W fun e w' => e = .returned (.bool true) ∧ RowKit.Below W.heap.size W w' := by
  obtain ⟨a, ra, ca, rfl, ha, _, k1, k2, _⟩ := open_runes_arg o0 h0
  obtain ⟨b, rb, cb, rfl, hb, _, k3, k4, _⟩ := open_runes_arg o1 h1
  obtain ⟨c, rc, cc, rfl, hc, _, k5, k6, _⟩ := open_runes_arg o2 h2
  obtain ⟨k, rfl, rfl, rfl, _⟩ := open_int Try.underlying3 o3 h3
  obtain ⟨m, rfl, rfl, rfl, _⟩ := open_int Try.underlying3 o4 h4
  exact bandThird_any ra rb rc a b c _ _ _ ca cb cc k m W ha hb hc (by unfold maxLen at k2; omega) (by unfold maxLen at k4; omega) (by unfold maxLen at k6; omega)
theorem bandWays_walk {H : Type} {enc : TypeId × Value → H} (W : World) (base : Nat) (v0 v1 v2 : Value) (d0 d1 d2 : DataW H) (p0 p1 p2 : List MemPlace)
    (h0 : DataW.Trod enc Try.prog W 0 (fun _ => true) true 22 v0 d0 p0) (h1 : DataW.Trod enc Try.prog W 0 (fun _ => true) true 22 v1 d1 p1) (h2 : DataW.Trod enc Try.prog W 0 (fun _ => true) true 3 v2 d2 p2)
    (o0 : Value.okWide Try.prog W .any base 22 v0) (o1 : Value.okWide Try.prog W .any base 22 v1) (o2 : Value.okWide Try.prog W .any base 3 v2) :
    Calls Try.prog 10 #[v0, v1, v2] W fun e w' => e = .returned (.bool true) ∧ RowKit.Below W.heap.size W w' := by
  obtain ⟨a, ra, ca, rfl, ha, _, k1, k2, _⟩ := open_runes_arg o0 h0
  obtain ⟨b, rb, cb, rfl, hb, _, k3, k4, _⟩ := open_runes_arg o1 h1
  obtain ⟨k, rfl, rfl, rfl, _⟩ := open_int Try.underlying3 o2 h2
  exact bandWays_any ra rb a b _ _ ca cb k W ha hb (by unfold maxLen at k2; omega) (by unfold maxLen at k4; omega)
theorem bandRises_walk {H : Type} {enc : TypeId × Value → H} (W : World) (base : Nat) (v0 v1 v2 v3 : Value) (d0 d1 d2 d3 : DataW H) (p0 p1 p2 p3 : List MemPlace)
    (h0 : DataW.Trod enc Try.prog W 0 (fun _ => true) true 22 v0 d0 p0) (h1 : DataW.Trod enc Try.prog W 0 (fun _ => true) true 22 v1 d1 p1) (h2 : DataW.Trod enc Try.prog W 0 (fun _ => true) true 3 v2 d2 p2) (h3 : DataW.Trod enc Try.prog W 0 (fun _ => true) true 3 v3 d3 p3)
    (o0 : Value.okWide Try.prog W .any base 22 v0) (o1 : Value.okWide Try.prog W .any base 22 v1) (o2 : Value.okWide Try.prog W .any base 3 v2) (o3 : Value.okWide Try.prog W .any base 3 v3) :
    Calls Try.prog 9 #[v0, v1, v2, v3] W fun e w' => e = .returned (.bool true) ∧ RowKit.Below W.heap.size W w' := by
  obtain ⟨a, ra, ca, rfl, ha, _, k1, k2, _⟩ := open_runes_arg o0 h0
  obtain ⟨b, rb, cb, rfl, hb, _, k3, k4, _⟩ := open_runes_arg o1 h1
  obtain ⟨k, rfl, rfl, rfl, _⟩ := open_int Try.underlying3 o2 h2
  obtain ⟨m, rfl, rfl, rfl, _⟩ := open_int Try.underlying3 o3 h3
  exact bandRises_any ra rb a b _ _ ca cb k m W ha hb (by unfold maxLen at k2; omega) (by unfold maxLen at k4; omega)
end Go.Proofs.Ytfboocnkphjhnaa
