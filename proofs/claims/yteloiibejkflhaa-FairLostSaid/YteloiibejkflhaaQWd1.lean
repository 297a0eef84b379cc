/- contract of text.Word -/
import Derived.Test.YteloiibejkflhaaQTx1
namespace Go.Proofs.Yteloiibejkflhaa
open Go.RowKit
set_option linter.unusedVariables false
set_option maxRecDepth 20000
theorem word_any (s : ByteArray) (w : World) (hs : s.size ≤ 9223372036854775807) :
    Calls Try.prog 26 #[.string s] w fun e w' => e = .returned (.bool (decide (1 ≤ lenS s ∧ lenS s ≤ 12))) ∧ Below w.heap.size w w' := by
  have h1 := Lib.hid (len_any s w hs)
  obtain ⟨n, hn⟩ : ∃ n, lenS s = n := ⟨_, rfl⟩
  rw [hn] at h1 ⊢
  clear hn
  have hc : n < 1 ∨ (1 ≤ n ∧ n ≤ 12) ∨ (1 ≤ n ∧ 12 < n) := by omega
  rcases hc with h | ⟨h, h2⟩ | ⟨h, h2⟩
  · rw [decide_eq_false (by omega)]
    go_enter Try.func26, Try.ntmps26
    go_wp2_with fail
    refine h1.out.mono ?_
    rintro e w' ⟨rfl, hb⟩
    go_wp2_with fail
    go_ret
    exact ⟨rfl, hb⟩
  · rw [decide_eq_true (by omega)]
    have x1 : decide (n ≤ 12) = true := by simpa using h2
    go_enter Try.func26, Try.ntmps26
    go_wp2_with fail
    refine h1.out.mono ?_
    rintro e w' ⟨rfl, hb⟩
    go_wp2_with fail
    go_ret
    exact ⟨ret_bool (by simp [*]), hb⟩
  · rw [decide_eq_false (by omega)]
    have x1 : decide (n ≤ 12) = false := by simpa using h2
    go_enter Try.func26, Try.ntmps26
    go_wp2_with fail
    refine h1.out.mono ?_
    rintro e w' ⟨rfl, hb⟩
    go_wp2_with fail
    go_ret
    exact ⟨ret_bool (by simp [*]), hb⟩
end Go.Proofs.Yteloiibejkflhaa
