/- contract of the document's Len -/
import Derived.Test.YthboiklcjpnhbaaRg4
namespace Go.Proofs.Ythboiklcjpnhbaa
open Go.RowKit
set_option linter.unusedVariables false
set_option maxRecDepth 20000
set_option maxHeartbeats 800000 in
theorem rlen_any (s : ByteArray) (w : World) (hs : s.size ≤ 1048576) :
    Calls Try.prog 91 #[.string s] w fun e w' => e = .returned (.int .i64 (lenS s)) ∧ Below w.heap.size w w' := by
  have hr := Lib.hid (r1runes_any s w hs)
  by_cases hg : 0 ≤ lenS s
  · have hL := (lenS_pos hg).2
    have HL := Lib.hid hL; have HG := Lib.hid hg
    clear hg hL
    obtain ⟨n, hn⟩ : ∃ n, (runesS s).length = n := ⟨_, rfl⟩
    have hle := runesS_le s
    unfold RunesP at hr
    rw [hn] at hr hle
    rw [hn] at HL
    clear hn
    go_enter Try.func91, Try.ntmps91
    go_wp2_with fail
    refine hr.out.mono ?_
    rintro e w1 (⟨h1, a, c, rfl, h2, h3, h4⟩ | ⟨h1, _⟩)
    rotate_left
    · exact absurd HG.out (by omega)
    have H4 := Lib.hid h4
    clear h1 h2 h3 h4
    go_wp2_with fail
    go_ret
    exact ⟨ret_int HL.out.symm, H4.out⟩
  · have hb : lenS s = -1 := by have := (lenS_bd s).1; omega
    have HB := Lib.hid hb; have HG := Lib.hid hg
    clear hg hb
    go_enter Try.func91, Try.ntmps91
    go_wp2_with fail
    refine hr.out.mono ?_
    rintro e w1 (⟨h1, _⟩ | ⟨h1, rfl, h2⟩)
    · exact absurd h1 (by have := HG.out; omega)
    clear h1
    go_wp2_with fail
    go_ret
    exact ⟨ret_int HB.out.symm, h2⟩
end Go.Proofs.Ythboiklcjpnhbaa
