/- the walk of SumTells over its argument as it reads -/
import Derived.Test.YtncblednmkmjmaaSumA
import Derived.Test.YtncblednmkmjmaaOpB
namespace Go.Proofs.Ytncblednmkmjmaa
theorem sumTells_walk {H : Type} {enc : TypeId × Value → H} (W : World) (base : Nat) (v0 : Value) (d0 : DataW H) (p0 : List MemPlace)
    (h0 : DataW.Trod enc Try.prog W 0 (fun _ => true) true 22 v0 d0 p0) (o0 : Value.okWide Try.prog W .any base 22 v0) :
    Calls Try.prog 3 #[v0] W fun e w' => e = .returned (.bool true) ∧ RowKit.Below W.heap.size W w' := by
  obtain ⟨a, n, cap, bs, rfl, hh, hnil, h1, h2⟩ := open_bytes_arg o0 h0
  exact sumTells_any a n cap bs W hh hnil (by unfold maxLen at h2; omega)
end Go.Proofs.Ytncblednmkmjmaa
