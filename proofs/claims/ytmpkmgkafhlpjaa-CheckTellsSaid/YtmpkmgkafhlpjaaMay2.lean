/- contract of the document's May -/
import Derived.Test.YtmpkmgkafhlpjaaAs2
import Derived.Test.YtmpkmgkafhlpjaaMay1
namespace Go.Proofs.Ytmpkmgkafhlpjaa
open Go.RowKit
set_option linter.unusedVariables false
set_option maxRecDepth 20000
theorem rmay_any (s : ByteArray) (k n : Int) (w : World) (hs : s.size ≤ 1048576) :
    Calls Try.prog 26 #[.agg #[.string s, .int .i64 k, .int .i64 n]] w fun e w' => e = .returned (.bool (decide (mayP s k n))) ∧ Below w.heap.size w w' := by
  have hA := Lib.hid (fun w => rasked_any s w hs)
  by_cases h0 : 0 ≤ lenS s ∧ lenS s ≤ 16
  case neg =>
    rw [decide_eq_false (fun x => h0 x.2.2)]
    have h0' := decide_eq_false h0
    simp only [h0'] at hA
    clear h0'
    clear h0
    go_enter Try.func26, Try.ntmps26
    go_wp2_with fail
    refine (hA.out _).mono ?_
    rintro e w' ⟨rfl, hb⟩
    go_wp2_with fail
    go_ret
    exact ⟨rfl, (below_one _ _).trans (hb.mono (by simp))⟩
  rw [show decide (mayP s k n) = decide ((0 ≤ k ∧ k ≤ 4) ∧ (1 ≤ n ∧ n ≤ 10)) by unfold mayP; simp [h0]]
  have h0' := decide_eq_true h0
  simp only [h0'] at hA
  clear h0' h0
  by_cases h1 : 0 ≤ k
  case neg =>
    rw [decide_eq_false (fun x => h1 x.1.1)]
    go_enter Try.func26, Try.ntmps26
    go_wp2_with fail
    refine (hA.out _).mono ?_
    rintro e w' ⟨rfl, hb⟩
    obtain ⟨hc, hf⟩ := bcell hb
    go_wp2_with fail
    go_ret
    exact ⟨rfl, (below_one _ _).trans (hb.mono (by simp))⟩
  by_cases h2 : k ≤ 4
  case neg =>
    rw [decide_eq_false (fun x => h2 x.1.2)]
    go_enter Try.func26, Try.ntmps26
    go_wp2_with fail
    refine (hA.out _).mono ?_
    rintro e w' ⟨rfl, hb⟩
    obtain ⟨hc, hf⟩ := bcell hb
    go_wp2_with fail
    go_ret
    exact ⟨rfl, (below_one _ _).trans (hb.mono (by simp))⟩
  by_cases h3 : 1 ≤ n
  case neg =>
    rw [decide_eq_false (fun x => h3 x.2.1)]
    go_enter Try.func26, Try.ntmps26
    go_wp2_with fail
    refine (hA.out _).mono ?_
    rintro e w' ⟨rfl, hb⟩
    obtain ⟨hc, hf⟩ := bcell hb
    go_wp2_with fail
    go_ret
    exact ⟨rfl, (below_one _ _).trans (hb.mono (by simp))⟩
  rw [show decide ((0 ≤ k ∧ k ≤ 4) ∧ (1 ≤ n ∧ n ≤ 10)) = decide (n ≤ 10) by simp [h1, h2, h3]]
  go_enter Try.func26, Try.ntmps26
  go_wp2_with fail
  refine (hA.out _).mono ?_
  rintro e w' ⟨rfl, hb⟩
  obtain ⟨hc, hf⟩ := bcell hb
  go_wp2_with fail
  go_ret
  exact ⟨rfl, (below_one _ _).trans (hb.mono (by simp))⟩
end Go.Proofs.Ytmpkmgkafhlpjaa
