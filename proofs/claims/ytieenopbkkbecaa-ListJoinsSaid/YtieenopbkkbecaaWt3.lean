/- awake of the laws of lists -/
import Derived.Test.YtieenopbkkbecaaWt2
namespace Go.Proofs.Ytieenopbkkbecaa
open Go.RowKit
set_option linter.unusedVariables false
set_option maxHeartbeats 1000000 in
theorem awakeL_any (w : World) : Calls Try.prog 10 #[] w fun e w' => e = .returned (.bool true) ∧ Below w.heap.size w w' := by
  go_enter Try.func10, Try.ntmps10
  go_wp2_with fail
  have L1 := Lib.hid (show HoldsT (w.alloc (.cells #[.string { data := #[97] }, .string { data := #[99] }] 9)) (some ⟨w.heap.size, 0, none⟩) 2 [tA, tC] from holdsT_lit w [tA, tC] 9 (0, 0))
  have A1 := Lib.hid (below_one w (.cells #[.string { data := #[97] }, .string { data := #[99] }] 9))
  generalize w.alloc (.cells #[.string { data := #[97] }, .string { data := #[99] }] 9) = w1 at *
  refine (at_lit _ 2 2 [tA, tC] tB false 1 w1 L1.out (by omega) lit_sorted_ac lit_in lit_at).mono ?_
  rintro e w2 ⟨rfl, rfl⟩
  go_wp2_with fail
  have L2 := Lib.hid (show HoldsT (w1.alloc (.cells #[.string { data := #[98] }, .string { data := #[97] }] 9)) (some ⟨w1.heap.size, 0, none⟩) 2 [tB, tA] from holdsT_lit w1 [tB, tA] 9 (0, 0))
  have A2 := Lib.hid (below_one w1 (.cells #[.string { data := #[98] }, .string { data := #[97] }] 9))
  generalize w1.alloc (.cells #[.string { data := #[98] }, .string { data := #[97] }] 9) = w2 at *
  refine (good_lit _ 2 2 [tB, tA] 7 w2 L2.out (by omega) (by decide) lit_good).mono ?_
  rintro e w3 ⟨rfl, hb3⟩
  have B2 := Lib.hid (A1.out.trans (A2.out.mono A1.out.size))
  have B3 := Lib.hid (B2.out.trans (hb3.mono B2.out.size))
  clear hb3 A1 A2 B2 L1 L2
  go_wp2_with fail
  have L3 := Lib.hid (show HoldsT (w3.alloc (.cells #[.string { data := #[98] }, .string { data := #[] }, .string { data := #[97] }, .string { data := #[98] }] 9)) (some ⟨w3.heap.size, 0, none⟩) 4 [tB, tE, tA, tB] from holdsT_lit w3 [tB, tE, tA, tB] 9 (0, 0))
  have A3 := Lib.hid (below_one w3 (.cells #[.string { data := #[98] }, .string { data := #[] }, .string { data := #[97] }, .string { data := #[98] }] 9))
  generalize w3.alloc (.cells #[.string { data := #[98] }, .string { data := #[] }, .string { data := #[97] }, .string { data := #[98] }] 9) = w4 at *
  refine (sorted_lst _ 4 4 [tB, tE, tA, tB] [tA, tB] 2 w4 ⟨L3.out, some_none _, by omega⟩ (by omega) (by decide) lit_canon rfl).mono ?_
  rintro e w5 ⟨a3, c3, rfl, o3, hb5⟩
  have B4 := Lib.hid (B3.out.trans (A3.out.mono B3.out.size))
  have B5 := Lib.hid (B4.out.trans (hb5.mono B4.out.size))
  have H3 := Lib.hid (HoldsT.own o3)
  clear hb5 o3 B3 B4 A3 L3
  go_wp2_with fail
  have L4 := Lib.hid (show HoldsT (w5.alloc (.cells #[.string { data := #[97] }, .string { data := #[98] }] 9)) (some ⟨w5.heap.size, 0, none⟩) 2 [tA, tB] from holdsT_lit w5 [tA, tB] 9 (0, 0))
  have A4 := Lib.hid (below_one w5 (.cells #[.string { data := #[97] }, .string { data := #[98] }] 9))
  generalize w5.alloc (.cells #[.string { data := #[97] }, .string { data := #[98] }] 9) = w6 at *
  refine (sameTexts_yes a3 _ 2 c3 2 [tA, tB] w6 (H3.out.below A4.out) L4.out (by omega)).mono ?_
  rintro e w7 ⟨rfl, hb7⟩
  have B6 := Lib.hid (B5.out.trans (A4.out.mono B5.out.size))
  have B7 := Lib.hid (B6.out.trans (hb7.mono B6.out.size))
  clear hb7 B5 B6
  go_wp2_with fail
  go_ret
  exact ⟨rfl, B7.out⟩
end Go.Proofs.Ytieenopbkkbecaa
