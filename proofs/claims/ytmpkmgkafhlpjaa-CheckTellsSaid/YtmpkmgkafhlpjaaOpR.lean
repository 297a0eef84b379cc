/- lists of runes as arguments, opened -/
import Derived.Test.YtmpkmgkafhlpjaaOp
import Derived.Test.YtmpkmgkafhlpjaaTx1
namespace Go.Proofs.Ytmpkmgkafhlpjaa
open Go.RowKit
set_option linter.unusedVariables false
set_option maxRecDepth 20000
theorem Try.cellsI32 : Try.prog.cellsOf 21 = 1 := by kernel_rfl
theorem open_runes_arg {H : Type} {enc : TypeId × Value → H} {W : World} {base : Nat} {v : Value} {d : DataW H} {p : List MemPlace}
    (o : Value.okWide Try.prog W .any base 52 v) (h : DataW.Trod enc Try.prog W 0 (fun _ => true) true 52 v d p) :
    ∃ a zs cap, v = .slice a zs.length cap ∧ HoldsI .i32 W a zs.length zs ∧ (a = none → zs.length = 0 ∧ cap = 0) ∧ zs.length ≤ cap ∧ cap ≤ maxLen ∧ ∀ z ∈ zs, -2147483648 ≤ z ∧ z ≤ 2147483647 := by
  obtain ⟨a, n, cap, zs, rfl, hh, hnil, h1, h2, hw⟩ := open_ints_arg Try.underlying52 Try.underlying21 Try.cellsI32 o h
  have hl := hh.len
  subst hl
  exact ⟨a, zs, cap, rfl, hh, hnil, h1, h2, fun z hz => i32_of_wf (hw z hz)⟩
end Go.Proofs.Ytmpkmgkafhlpjaa
