/- texts of so many runes have at most four times as many bytes (split from GraphPutW) -/
import Derived.Test.YthboiklcjpnhbaaGp1
namespace Go.Proofs.Ythboiklcjpnhbaa
open Go.RowKit
set_option linter.unusedVariables false
set_option maxRecDepth 20000
theorem size_fourM : ∀ (n : Nat) (t : Tx), t.size ≤ n → 0 ≤ lenS t → (t.size : Int) ≤ 4 * lenS t
  | 0, t, h, h0 => by omega
  | n + 1, t, h, h0 => by
    by_cases hp : 0 < t.size
    · have h1 := good_first h0 hp
      have h2 := rst_size h0 hp
      have h3 := rst_len h0 hp
      have h4 : (Utf8.decode t 0).2 ≤ 4 := by
        have h5 := h1.1
        rw [decode_bytes] at h5 ⊢
        exact (decodeN_bytes _ _ _ _ _ (byteS_lt t 0) h5).2.1
      have h6 := size_fourM n (rstS t) (by omega) h3.1
      omega
    · omega
theorem size_4 (t : Tx) (h : 0 ≤ lenS t) : (t.size : Int) ≤ 4 * lenS t := size_fourM t.size t (Nat.le_refl _) h
end Go.Proofs.Ythboiklcjpnhbaa
