/- contract of the document's Word -/
import Derived.Test.YthboiklcjpnhbaaRl0
namespace Go.Proofs.Ythboiklcjpnhbaa
open Go.RowKit
set_option linter.unusedVariables false
set_option maxRecDepth 20000
theorem rword_any (s : ByteArray) (w : World) (hs : s.size ≤ 1048576) :
    Calls Try.prog 92 #[.string s] w fun e w' => e = .returned (.bool (decide (1 ≤ lenS s ∧ lenS s ≤ 12))) ∧ Below w.heap.size w w' := by
  have h1 := Lib.hid (fun w => rlen_any s w hs)
  obtain ⟨n, hn⟩ : ∃ n, lenS s = n := ⟨_, rfl⟩
  rw [hn]
  simp only [hn] at h1
  clear hn
  by_cases h : 1 ≤ n
  · rw [show decide (1 ≤ n ∧ n ≤ 12) = decide (n ≤ 12) by simp [h]]
    go_enter Try.func92, Try.ntmps92
    go_wp2_with fail
    refine (h1.out _).mono ?_
    rintro e w1 ⟨rfl, hb⟩
    go_wp2_with fail
    refine (h1.out _).mono ?_
    rintro e w2 ⟨rfl, hb2⟩
    go_wp2_with fail
    go_ret
    exact ⟨rfl, hb.trans (hb2.mono hb.size)⟩
  · rw [show decide (1 ≤ n ∧ n ≤ 12) = false by simp [h]]
    go_enter Try.func92, Try.ntmps92
    go_wp2_with fail
    refine (h1.out _).mono ?_
    rintro e w1 ⟨rfl, hb⟩
    go_wp2_with fail
    go_ret
    exact ⟨rfl, hb⟩
end Go.Proofs.Ythboiklcjpnhbaa
