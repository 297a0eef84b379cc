/- the laws of texts over their arguments as they read -/
import Derived.Test.YtfboocnkphjhnaaRg5
import Derived.Test.YtfboocnkphjhnaaOpR
namespace Go.Proofs.Ytfboocnkphjhnaa
open Go.RowKit Go.ChangeShapes Go.WideShapes Go.ChangeAt
open Go.ChangeMaps (open_string)
set_option linter.unusedVariables false
theorem editTexts_walk {H : Type} {enc : TypeId × Value → H} (W : World) (base : Nat) (v0 v1 : Value) (d0 d1 : DataW H) (p0 p1 : List MemPlace)
    (h0 : DataW.Trod enc Try.prog W 0 (fun _ => true) true 9 v0 d0 p0) (h1 : DataW.Trod enc Try.prog W 0 (fun _ => true) true 9 v1 d1 p1)
    (o0 : Value.okWide Try.prog W .any base 9 v0) (o1 : Value.okWide Try.prog W .any base 9 v1) :
    Calls Try.prog 4 #[v0, v1] W fun e w' => e = .returned (.bool true) ∧ RowKit.Below W.heap.size W w' := by
  obtain ⟨s, rfl, rfl, rfl, ws⟩ := open_string Try.underlying9 o0 h0
  obtain ⟨t, rfl, rfl, rfl, wt⟩ := open_string Try.underlying9 o1 h1
  exact editTexts_any s t W (by unfold maxLen at ws; omega) (by unfold maxLen at wt; omega)
theorem bandTexts_walk {H : Type} {enc : TypeId × Value → H} (W : World) (base : Nat) (v0 v1 v2 : Value) (d0 d1 d2 : DataW H) (p0 p1 p2 : List MemPlace)
    (h0 : DataW.Trod enc Try.prog W 0 (fun _ => true) true 9 v0 d0 p0) (h1 : DataW.Trod enc Try.prog W 0 (fun _ => true) true 9 v1 d1 p1) (h2 : DataW.Trod enc Try.prog W 0 (fun _ => true) true 3 v2 d2 p2)
    (o0 : Value.okWide Try.prog W .any base 9 v0) (o1 : Value.okWide Try.prog W .any base 9 v1) (o2 : Value.okWide Try.prog W .any base 3 v2) :
    Calls Try.prog 8 #[v0, v1, v2] W fun e w' => e = .returned (.bool true) ∧ RowKit.Below W.heap.size W w' := by
  obtain ⟨s, rfl, rfl, rfl, ws⟩ := open_string Try.underlying9 o0 h0
  obtain ⟨t, rfl, rfl, rfl, wt⟩ := open_string Try.underlying9 o1 h1
  obtain ⟨k, rfl, rfl, rfl, _⟩ := open_int Try.underlying3 o2 h2
  exact bandTexts_any s t k W (by unfold maxLen at ws; omega) (by unfold maxLen at wt; omega)
end Go.Proofs.Ytfboocnkphjhnaa
