/- awake of the laws of cuts -/
import Derived.Test.YteloiibejkflhaaQKp7
namespace Go.Proofs.Yteloiibejkflhaa
open Go.RowKit
set_option linter.unusedVariables false
set_option maxRecDepth 20000
abbrev tM : Tx := { data := #[109] }
abbrev tE0 : Tx := { data := #[] }
abbrev tZ : Tx := { data := #[122] }
abbrev tAA : Tx := { data := #[97, 97] }
abbrev tMMM : Tx := { data := #[109, 109, 109] }
def pairL : List KV := [(2, tE0), (3, tM)]
theorem cmpS_dataK (a b : Tx) : cmpS a b = cmpL a.data.toList b.data.toList := by unfold cmpS; rw [ByteArray.toList_eq, ByteArray.toList_eq]
theorem lzZ : lenS tZ = 1 := by decide
theorem lzAA : lenS tAA = 2 := by decide
theorem lzMMM : lenS tMMM = 3 := by decide
theorem lzM : lenS tM = 1 := by decide
theorem lzE : lenS tE0 = 0 := by decide
theorem caa : cmpS tAA tE0 = 1 := by rw [cmpS_dataK]; decide
theorem cmm : cmpS tMMM tM = 1 := by rw [cmpS_dataK]; decide
theorem of_z : ofZ pairL tZ = 0 := by
  have hw : wordP tZ := by decide
  simp [ofZ, hw, ofN, pairL, keyOf, List.findIdx_cons, ordK, lzZ]
theorem of_aa : ofZ pairL tAA = 1 := by
  have hw : wordP tAA := by decide
  simp [ofZ, hw, ofN, pairL, keyOf, List.findIdx_cons, ordK, lzAA, caa]
theorem of_mmm : ofZ pairL tMMM = 2 := by
  have hw : wordP tMMM := by decide
  simp [ofZ, hw, ofN, pairL, keyOf, List.findIdx_cons, ordK, lzMMM, cmm]
theorem may_pair : ∀ k ∈ pairL, mayK k := by
  intro k hk
  simp [pairL] at hk
  rcases hk with rfl | rfl <;> simp [mayK, lzE, lzM]
theorem lo_pair : loK pairL 1 = 2 := by simp [loK, pairL]
theorem hi_pair : hiK pairL 1 = 3 := by
  have h : tM ≠ ByteArray.empty := by intro h; have := congrArg ByteArray.size h; exact absurd this (by decide)
  unfold hiK
  rw [if_pos (show 1 < pairL.length by decide), if_neg (show ¬ (pairL.getD 1 k0).2 = ByteArray.empty from h)]
  rfl
theorem least_pair : leastK pairL 1 6 = 3 := by unfold leastK; rw [lo_pair, hi_pair]; decide
end Go.Proofs.Yteloiibejkflhaa
