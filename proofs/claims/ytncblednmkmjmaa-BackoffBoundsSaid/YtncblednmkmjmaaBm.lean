/- backoff's laws, more -/
import Derived.Test.YtncblednmkmjmaaBx
import Derived.Deep.RegionWith
import Derived.Deep.DeepCutAuto
import Derived.BigRegion
namespace Go.Proofs.Ytncblednmkmjmaa
open Go.RowKit

set_option maxHeartbeats 4000000 in
theorem bounds_any (c0 c1 c2 c3 c4 c5 c6 c7 c11 : Value) (f c j t d : Int) (w : World) :
    Calls Try.prog 8 #[.agg #[c0, c1, c2, c3, c4, c5, c6, c7, .int .i64 f, .int .i64 c, .int .i64 j, c11], .int .i64 t, .int .i64 d] w fun e w' => e = .returned (.bool true) ∧ Below w.heap.size w w' := by
  go_enter Try.func8, Try.ntmps8
  go_wp2_with fail
  refine (wait_any _ _ _ _ _ _ _ _ _ _ _ _ _ _ _).mono ?_
  rintro e w1 ⟨rfl, hb⟩
  have B0 : Box12 w w.heap.size c0 c1 c2 c3 c4 c5 c6 c7 (.int .i64 f) (.int .i64 c) (.int .i64 j) c11 (w.alloc (.cells #[c0, c1, c2, c3, c4, c5, c6, c7, .int .i64 f, .int .i64 c, .int .i64 j, c11] 35)) :=
    ⟨below_one _ _, by simp, by simp, by simp, by simp, by simp, by simp, by simp, by simp, by simp, by simp, by simp, by simp, by simp⟩
  obtain ⟨hc, hf⟩ := bcell hb
  have h0 := wait_bd f c j t d
  go_wp2_with fail
  refine (most_any _ _ _ _ _ _ _ _ _ _ _ _ _).mono ?_
  rintro e w2 ⟨rfl, hb2⟩
  have hz : w.heap.size < w1.heap.size := by have := hb.size; simp at this; omega
  have hc2 : ∀ o, w2.cell? ⟨w.heap.size, o, none⟩ = w1.cell? ⟨w.heap.size, o, none⟩ := fun o => hb2.cell (p := ⟨_, o, none⟩) hz
  have hf2 : ∀ o, w2.frozen? ⟨w.heap.size, o, none⟩ = w1.frozen? ⟨w.heap.size, o, none⟩ := fun o => hb2.frozen (p := ⟨_, o, none⟩) hz
  have B2 := Lib.hid (box_carry (box_carry B0 hb) hb2)
  clear B0
  have e8 : w2.cell? ⟨w.heap.size, 8, none⟩ = some (.int .i64 f) := by rw [hc2, hc _ _ (by simp)]; simp
  have e9 : w2.cell? ⟨w.heap.size, 9, none⟩ = some (.int .i64 c) := by rw [hc2, hc _ _ (by simp)]; simp
  have e10 : w2.cell? ⟨w.heap.size, 10, none⟩ = some (.int .i64 j) := by rw [hc2, hc _ _ (by simp)]; simp
  have g8 : w2.frozen? ⟨w.heap.size, 8, none⟩ = false := by rw [hf2, hf _ _ (by simp)]; simp
  have g9 : w2.frozen? ⟨w.heap.size, 9, none⟩ = false := by rw [hf2, hf _ _ (by simp)]; simp
  have g10 : w2.frozen? ⟨w.heap.size, 10, none⟩ = false := by rw [hf2, hf _ _ (by simp)]; simp
  clear hc2 hf2 hc hf hb2 hb hz
  go_upto_region 4 with fail
  go_cut [22, 23, 24, 25, 26, 27, 28, 29, 30, 31, 32, 33, 34, 35] (fun _ _ _ _ _ _ _ _ _ _ _ _ _ _ wx => wx = (((w2.drew.setCell ⟨w.heap.size, 8, none⟩ (.int .i64 (1 + lowV f 10))).setCell ⟨w.heap.size, 9, none⟩ (.int .i64 (10 + lowV c 41))).setCell ⟨w.heap.size, 10, none⟩ (.int .i64 (lowV j 11))))
  case first =>
    have b1 := low_bd f 10 (by omega)
    have b2 := low_bd c 41 (by omega)
    have b3 := low_bd j 11 (by omega)
    clear h0 B2
    go_region_with (go_at_call 16; refine (low_any _ _ (by omega) (by omega) _).mono ?_; rintro e w' ⟨rfl, rfl⟩)
    all_goals (go_wp2_with fail; go_meet; rw [IntWalk.i64_in (1 + lowV f 10) (by omega), IntWalk.i64_in (10 + lowV c 41) (by omega)]; rfl)
  case rest =>
    have B3 := box_sets B2.out (.int .i64 (1 + lowV f 10)) (.int .i64 (10 + lowV c 41)) (.int .i64 (lowV j 11))
    rw [← hcut] at B3
    clear hcut B2 e8 e9 e10 g8 g9 g10
    have b1 := low_bd f 10 (by omega)
    have b2 := low_bd c 41 (by omega)
    have b3 := low_bd j 11 (by omega)
    have b4 := low_bd t 7 (by omega)
    obtain ⟨f', hf'⟩ : ∃ x, 1 + lowV f 10 = x := ⟨_, rfl⟩
    obtain ⟨c', hc'⟩ : ∃ x, 10 + lowV c 41 = x := ⟨_, rfl⟩
    obtain ⟨j', hj'⟩ : ∃ x, lowV j 11 = x := ⟨_, rfl⟩
    obtain ⟨t', ht'⟩ : ∃ x, lowV t 7 = x := ⟨_, rfl⟩
    have HT := Lib.hid ht'
    have WF := wait_facts f' c' j' t' d (by omega) (by omega) (by omega) (by omega) (by omega) (by omega) (by omega) (by omega)
    have q1 : j' ≤ 10 := by omega
    have q2 : 0 ≤ j' := by omega
    have q3 : c' ≤ 50 := by omega
    have q4 : 10 ≤ c' := by omega
    rw [hf', hc', hj'] at B3
    clear hf' hc' hj' ht' b1 b2 b3 b4 h0
    go_wp2_with fail
    refine (low_any _ _ (by omega) (by omega) _).mono ?_
    rintro e w' ⟨rfl, rfl⟩
    rw [HT.out]
    obtain ⟨A, hA⟩ : ∃ x, waitV f' c' j' t' d = x := ⟨_, rfl⟩
    obtain ⟨B, hB⟩ : ∃ x, waitV f' c' j' (tryAfter t') d = x := ⟨_, rfl⟩
    obtain ⟨T, hT⟩ : ∃ x, tryAfter t' = x := ⟨_, rfl⟩
    rw [hA, hB, hT] at WF
    have HA := Lib.hid hA; have HB := Lib.hid hB; have HT2 := Lib.hid hT
    clear hA hB hT
    obtain ⟨w1', w2', w3', w4', w5'⟩ := WF
    go_wp2_with fail
    go_region_held3 (Box12 w w.heap.size c0 c1 c2 c3 c4 c5 c6 c7 (.int .i64 f') (.int .i64 c') (.int .i64 j') c11)
      (first | assumption | exact ⟨B3.1.drew, B3.2⟩ | exact box_carry (by assumption) (by assumption))
      (first
        | (go_at_call 17; refine (wait_any _ _ _ _ _ _ _ _ _ _ _ _ _ _ _).mono ?_; rintro e w' ⟨rfl, hb⟩)
        | (go_at_call 19; refine (try_any _ _).mono ?_; rintro e w' ⟨rfl, rfl⟩))
    clear B3
    rename_i B4
    obtain ⟨hb4, hl4, -, -, -, -, -, -, -, -, k8, k9, k10, -⟩ := B4
    rw [HA.out, HB.out]
    have X1 : f' ≤ A := w1'
    go_wp2_with fail
    refine (try_any _ _).mono ?_
    rintro e w' ⟨rfl, rfl⟩
    rw [HT2.out]
    go_wp2_with fail
    refine (try_any _ _).mono ?_
    rintro e w' ⟨rfl, rfl⟩
    rw [HT2.out]
    go_wp2_with fail
    refine (awake_any _).mono ?_
    rintro e w' ⟨rfl, hb5⟩
    go_wp2_with fail
    go_ret
    exact ⟨rfl, hb4.trans (hb5.mono (by omega))⟩
end Go.Proofs.Ytncblednmkmjmaa
