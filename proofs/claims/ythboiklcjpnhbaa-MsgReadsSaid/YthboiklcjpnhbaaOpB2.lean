/- An argument that is a slice of bytes, opened. -/
import Derived.Test.YthboiklcjpnhbaaChecked
import Derived.Test.YthboiklcjpnhbaaOp
import Derived.Test.YthboiklcjpnhbaaHb
namespace Go.Proofs.Ythboiklcjpnhbaa
open Go.ChangeShapes Go.WideShapes Go.ChangeAt Go.RowKit
set_option linter.unusedVariables false
set_option maxRecDepth 20000
theorem Try.cellsU8 : Try.prog.cellsOf 5 = 1 := by kernel_rfl
theorem open_bytes_arg {H : Type} {enc : TypeId × Value → H} {W : World} {base : Nat} {v : Value} {d : DataW H} {p : List MemPlace}
    (o : Value.okWide Try.prog W .any base 39 v) (h : DataW.Trod enc Try.prog W 0 (fun _ => true) true 39 v d p) :
    ∃ a n cap bs, v = .slice a n cap ∧ HoldsB W a n bs ∧ (a = none → n = 0 ∧ cap = 0) ∧ n ≤ cap ∧ cap ≤ maxLen := by
  obtain ⟨a, n, cap, zs, rfl, hh, hnil, h1, h2, hw⟩ := open_ints_arg Try.underlying39 Try.underlying5 Try.cellsU8 o h
  have hz : (zs.map Int.toNat).map (fun b : Nat => (b : Int)) = zs := by
    rw [List.map_map]
    conv => rhs; rw [← List.map_id zs]
    refine List.map_congr_left fun z hz => ?_
    have := u8_of_wf (hw z hz)
    simp; omega
  refine ⟨a, n, cap, zs.map Int.toNat, rfl, ⟨by rw [hz]; exact hh, fun b hb => ?_⟩, hnil, h1, h2⟩
  obtain ⟨z, hz, rfl⟩ := List.mem_map.1 hb
  have := u8_of_wf (hw z hz)
  omega
end Go.Proofs.Ythboiklcjpnhbaa
