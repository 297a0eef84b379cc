/- the walk of BackoffDoubles over its arguments as they read -/
import Derived.Test.YtncblednmkmjmaaBd
import Derived.Test.YtncblednmkmjmaaBo
namespace Go.Proofs.Ytncblednmkmjmaa
open Go.ChangeShapes Go.WideShapes Go.ChangeAt Go.RowKit
theorem doubles_walk {H : Type} {enc : TypeId × Value → H} (W : World) (base : Nat) (v0 v1 v2 : Value) (d0 d1 d2 : DataW H) (p0 p1 p2 : List MemPlace)
    (h0 : DataW.Trod enc Try.prog W 0 (fun _ => true) true 35 v0 d0 p0) (h1 : DataW.Trod enc Try.prog W 0 (fun _ => true) true 3 v1 d1 p1) (h2 : DataW.Trod enc Try.prog W 0 (fun _ => true) true 3 v2 d2 p2)
    (o0 : Value.okWide Try.prog W .any base 35 v0) (o1 : Value.okWide Try.prog W .any base 3 v1) (o2 : Value.okWide Try.prog W .any base 3 v2) :
    Calls Try.prog 9 #[v0, v1, v2] W fun e w' => e = .returned (.bool true) ∧ Below W.heap.size W w' := by
  obtain ⟨c0, c1, i2, i3, i4, i5, i6, i7, i8, i9, i10, i11, rfl⟩ := open_config o0 h0
  obtain ⟨t, rfl, rfl, rfl, _⟩ := open_int Try.underlying3 o1 h1
  obtain ⟨d, rfl, rfl, rfl, _⟩ := open_int Try.underlying3 o2 h2
  exact doubles_any _ _ _ _ _ _ _ _ _ _ _ _ _ _ _
end Go.Proofs.Ytncblednmkmjmaa
