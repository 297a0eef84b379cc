/- what every program answers that is one: sum -/
import Derived.Test.YtncblednmkmjmaaSm
import Derived.Lib.SlBytesConst
namespace Go.Proofs.Ytncblednmkmjmaa
open Go.RowKit
set_option linter.unusedVariables false
theorem sum_awake : Crc.sum [49, 50, 51, 52, 53, 54, 55, 56, 57] = 3421780262 := by decide +kernel
theorem sum_nil : Crc.sum [] = 0 := by decide
theorem holdsB_lit (w : World) (bs : List Nat) (e : TypeId) (fr : Nat × Nat) (h : ∀ b ∈ bs, b < 256) : HoldsB (w.alloc (.cells (bs.map fun b : Nat => Value.int .u8 (b : Int)).toArray e fr)) (some ⟨w.heap.size, 0, none⟩) bs.length bs := by
  refine ⟨⟨by simp, fun _ => ⟨_, _, rfl, fun i hi => ?_⟩⟩, h⟩
  rw [World.cell?_alloc_mark, getD_map_cast, Nat.zero_add]
  simp [List.getD_eq_getElem?_getD, hi]
theorem holdsB_nil (w : World) (a : Option Addr) : HoldsB w a 0 [] := ⟨⟨rfl, fun h => absurd h (by decide)⟩, by simp⟩
set_option maxHeartbeats 400000 in
theorem awake_any (w : World) : Calls Try.prog 10 #[] w fun e w' => e = .returned (.bool true) ∧ Below w.heap.size w w' := by
  have kc := fun (w : World) (C : Array Value) (n c : Nat) => Lib.run_convert_bytes_const (P := Try.prog) w 22 5 C n c Try.underlying22 Try.underlying5
  go_enter Try.func10, Try.ntmps10
  go_wp2_with fail
  refine (of_any _ 9 9 [49, 50, 51, 52, 53, 54, 55, 56, 57] _ (holdsB_lit w [49, 50, 51, 52, 53, 54, 55, 56, 57] 5 (9, 10) (by decide)) (by decide)).mono ?_
  rintro e w' ⟨rfl, rfl⟩
  rw [sum_awake]
  go_wp2_with fail
  refine (of_any _ 0 0 [] _ (holdsB_nil _ _) (by decide)).mono ?_
  rintro e w' ⟨rfl, rfl⟩
  rw [sum_nil]
  go_wp2_with fail
  go_ret
  exact ⟨rfl, below_one _ _⟩
end Go.Proofs.Ytncblednmkmjmaa
