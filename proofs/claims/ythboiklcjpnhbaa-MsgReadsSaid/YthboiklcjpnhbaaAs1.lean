/- contract of text.Asked -/
import Derived.Test.YthboiklcjpnhbaaTx1
namespace Go.Proofs.Ythboiklcjpnhbaa
open Go.RowKit
set_option linter.unusedVariables false
set_option maxRecDepth 20000
theorem asked_any (s : ByteArray) (w : World) (hs : s.size ≤ 9223372036854775807) :
    Calls Try.prog 58 #[.string s] w fun e w' => e = .returned (.bool (decide (0 ≤ lenS s ∧ lenS s ≤ 16))) ∧ Below w.heap.size w w' := by
  have h1 := Lib.hid (len_any s w hs)
  obtain ⟨n, hn⟩ : ∃ n, lenS s = n := ⟨_, rfl⟩
  rw [hn] at h1 ⊢
  clear hn
  have hc : n < 0 ∨ (0 ≤ n ∧ n ≤ 16) ∨ (0 ≤ n ∧ 16 < n) := by omega
  rcases hc with h | ⟨h, h2⟩ | ⟨h, h2⟩
  · rw [decide_eq_false (by omega)]
    go_enter Try.func58, Try.ntmps58
    go_wp2_with fail
    refine h1.out.mono ?_
    rintro e w' ⟨rfl, hb⟩
    go_wp2_with fail
    go_ret
    exact ⟨rfl, hb⟩
  · rw [decide_eq_true (by omega)]
    have x1 : decide (n ≤ 16) = true := by simpa using h2
    go_enter Try.func58, Try.ntmps58
    go_wp2_with fail
    refine h1.out.mono ?_
    rintro e w' ⟨rfl, hb⟩
    go_wp2_with fail
    go_ret
    exact ⟨ret_bool (by simp [*]), hb⟩
  · rw [decide_eq_false (by omega)]
    have x1 : decide (n ≤ 16) = false := by simpa using h2
    go_enter Try.func58, Try.ntmps58
    go_wp2_with fail
    refine h1.out.mono ?_
    rintro e w' ⟨rfl, hb⟩
    go_wp2_with fail
    go_ret
    exact ⟨ret_bool (by simp [*]), hb⟩
theorem asked_lit (s : ByteArray) (c : Bool) (w : World) (hs : s.size ≤ 9223372036854775807) (hc : decide (0 ≤ lenS s ∧ lenS s ≤ 16) = c) :
    Calls Try.prog 58 #[.string s] w fun e w' => e = .returned (.bool c) ∧ Below w.heap.size w w' := by subst hc; exact asked_any s w hs
end Go.Proofs.Ythboiklcjpnhbaa
