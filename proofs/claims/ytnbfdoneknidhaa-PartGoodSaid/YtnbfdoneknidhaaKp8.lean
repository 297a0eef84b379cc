/- awake of the laws of cuts -/
import Derived.Test.YtnbfdoneknidhaaKp7
namespace Go.Proofs.Ytnbfdoneknidhaa
open Go.RowKit
set_option linter.unusedVariables false
abbrev tM : Tx := { data := #[109] }
abbrev tE0 : Tx := { data := #[] }
abbrev tZ : Tx := { data := #[122] }
abbrev tAA : Tx := { data := #[97, 97] }
abbrev tMMM : Tx := { data := #[109, 109, 109] }
def pairL : List KV := [(2, tE0), (3, tM)]
theorem pair_any (w : World) : Calls Try.prog 30 #[] w fun e w' => e = .returned (.slice (some ⟨w.heap.size, 0, none⟩) 2 2) ∧ HoldsK w' (some ⟨w.heap.size, 0, none⟩) 2 pairL ∧ Below w.heap.size w w' := by
  have L1 := Lib.hid (show HoldsK (w.alloc (.cells #[.int .i64 2, .string { data := #[] }, .int .i64 3, .string { data := #[109] }] 24)) (some ⟨w.heap.size, 0, none⟩) 2 pairL from by
    refine ⟨rfl, fun _ => ⟨w.heap.size, 0, rfl, fun i hi => ?_⟩⟩
    have hc : i = 0 ∨ i = 1 := by omega
    rcases hc with rfl | rfl <;> simp [pairL])
  have A1 := Lib.hid (below_one w (.cells #[.int .i64 2, .string { data := #[] }, .int .i64 3, .string { data := #[109] }] 24))
  go_enter Try.func30, Try.ntmps30
  go_wp2_with fail
  go_ret
  exact ⟨rfl, L1.out, A1.out⟩
theorem cmpS_dataK (a b : Tx) : cmpS a b = cmpL a.data.toList b.data.toList := by unfold cmpS; rw [ByteArray.toList_eq, ByteArray.toList_eq]
theorem lzZ : lenS tZ = 1 := by decide
theorem lzAA : lenS tAA = 2 := by decide
theorem lzMMM : lenS tMMM = 3 := by decide
theorem lzM : lenS tM = 1 := by decide
theorem lzE : lenS tE0 = 0 := by decide
theorem caa : cmpS tAA tE0 = 1 := by rw [cmpS_dataK]; decide
theorem cmm : cmpS tMMM tM = 1 := by rw [cmpS_dataK]; decide
theorem of_z : ofZ pairL tZ = 0 := by
  have hw : wordP tZ := by decide
  simp [ofZ, hw, ofN, pairL, keyOf, List.findIdx_cons, ordK, lzZ]
theorem of_aa : ofZ pairL tAA = 1 := by
  have hw : wordP tAA := by decide
  simp [ofZ, hw, ofN, pairL, keyOf, List.findIdx_cons, ordK, lzAA, caa]
theorem of_mmm : ofZ pairL tMMM = 2 := by
  have hw : wordP tMMM := by decide
  simp [ofZ, hw, ofN, pairL, keyOf, List.findIdx_cons, ordK, lzMMM, cmm]
theorem may_pair : ∀ k ∈ pairL, mayK k := by
  intro k hk
  simp [pairL] at hk
  rcases hk with rfl | rfl <;> simp [mayK, lzE, lzM]
theorem lo_pair : loK pairL 1 = 2 := by simp [loK, pairL]
theorem hi_pair : hiK pairL 1 = 3 := by
  have h : tM ≠ ByteArray.empty := by intro h; have := congrArg ByteArray.size h; exact absurd this (by decide)
  unfold hiK
  rw [if_pos (show 1 < pairL.length by decide), if_neg (show ¬ (pairL.getD 1 k0).2 = ByteArray.empty from h)]
  rfl
theorem least_pair : leastK pairL 1 6 = 3 := by unfold leastK; rw [lo_pair, hi_pair]; decide
set_option maxHeartbeats 1000000 in
theorem awakeP_any (w : World) : Calls Try.prog 9 #[] w fun e w' => e = .returned (.bool true) ∧ Below w.heap.size w w' := by
  have B0 := Lib.hid (Below.refl w.heap.size w)
  go_enter Try.func9, Try.ntmps9
  go_wp2_with fail
  refine (pair_any _).mono ?_
  rintro e w1 ⟨rfl, h1, hb1⟩
  have B1 := Lib.hid (B0.out.trans (hb1.mono B0.out.size)); have H1 := Lib.hid h1
  clear hb1 B0 h1
  go_wp2_with fail
  refine (lens_lit _ 2 2 pairL 1 2 3 w1 H1.out (by omega) may_pair (by omega) lo_pair hi_pair).mono ?_
  rintro e w2 ⟨rfl, rfl⟩
  go_wp2_with fail
  refine (pair_any _).mono ?_
  rintro e w3 ⟨rfl, h3, hb3⟩
  have B3 := Lib.hid (B1.out.trans (hb3.mono B1.out.size)); have H3 := Lib.hid h3
  clear hb3 B1 h3
  go_wp2_with fail
  refine (pof_lit _ 2 2 pairL tZ 0 w3 H3.out (by omega) (by decide) of_z).mono ?_
  rintro e w4 ⟨rfl, hb4⟩
  have B4 := Lib.hid (B3.out.trans (hb4.mono B3.out.size))
  clear hb4 B3
  go_wp2_with fail
  refine (pair_any _).mono ?_
  rintro e w5 ⟨rfl, h5, hb5⟩
  have B5 := Lib.hid (B4.out.trans (hb5.mono B4.out.size)); have H5 := Lib.hid h5
  clear hb5 B4 h5
  go_wp2_with fail
  refine (pof_lit _ 2 2 pairL tAA 1 w5 H5.out (by omega) (by decide) of_aa).mono ?_
  rintro e w6 ⟨rfl, hb6⟩
  have B6 := Lib.hid (B5.out.trans (hb6.mono B5.out.size))
  clear hb6 B5
  go_wp2_with fail
  refine (pair_any _).mono ?_
  rintro e w7 ⟨rfl, h7, hb7⟩
  have B7 := Lib.hid (B6.out.trans (hb7.mono B6.out.size)); have H7 := Lib.hid h7
  clear hb7 B6 h7
  go_wp2_with fail
  refine (pof_lit _ 2 2 pairL tMMM 2 w7 H7.out (by omega) (by decide) of_mmm).mono ?_
  rintro e w8 ⟨rfl, hb8⟩
  have B8 := Lib.hid (B7.out.trans (hb8.mono B7.out.size))
  clear hb8 B7
  go_wp2_with fail
  refine (pair_any _).mono ?_
  rintro e w9 ⟨rfl, h9, hb9⟩
  have B9 := Lib.hid (B8.out.trans (hb9.mono B8.out.size)); have H9 := Lib.hid h9
  clear hb9 B8 h9
  go_wp2_with fail
  refine (least_lit _ 2 2 pairL 1 6 3 w9 H9.out (by omega) may_pair (by omega) (by omega) least_pair).mono ?_
  rintro e w10 ⟨rfl, rfl⟩
  go_wp2_with fail
  go_ret
  exact ⟨rfl, B9.out⟩
end Go.Proofs.Ytnbfdoneknidhaa
