/- texts that are spoilt: plain lemmas -/
import Derived.Test.YtlkckdhenodhgaaTpM
namespace Go.Proofs.Ytlkckdhenodhgaa
open Go.RowKit
set_option linter.unusedVariables false
theorem decodeN_bytes (n b0 b1 b2 b3 : Nat) (h0 : b0 < 256) (hg : (Lib.decodeN n b0 b1 b2 b3).1 ≠ 65533) :
    b0 < 248 ∧ (Lib.decodeN n b0 b1 b2 b3).2 ≤ 4 ∧ (1 < (Lib.decodeN n b0 b1 b2 b3).2 → b1 < 248) ∧ (2 < (Lib.decodeN n b0 b1 b2 b3).2 → b2 < 248) ∧ (3 < (Lib.decodeN n b0 b1 b2 b3).2 → b3 < 248) := by
  unfold Lib.decodeN at *
  by_cases k0 : b0 < 128
  · rw [if_pos k0]; simp only; omega
  rw [if_neg k0] at hg ⊢
  by_cases k1 : b0 / 32 = 6 ∧ 1 < n ∧ b1 / 64 = 2
  · rw [if_pos k1]
    split <;> simp only <;> omega
  rw [if_neg k1] at hg ⊢
  by_cases k2 : b0 / 16 = 14 ∧ (1 < n ∧ b1 / 64 = 2) ∧ 2 < n ∧ b2 / 64 = 2
  · rw [if_pos k2]
    split <;> simp only <;> omega
  rw [if_neg k2] at hg ⊢
  by_cases k3 : b0 / 8 = 30 ∧ (1 < n ∧ b1 / 64 = 2) ∧ (2 < n ∧ b2 / 64 = 2) ∧ 3 < n ∧ b3 / 64 = 2
  · rw [if_pos k3]
    split <;> simp only <;> omega
  rw [if_neg k3] at hg
  exact absurd rfl hg
theorem good_bytes (t : ByteArray) : ∀ f pos, t.size ≤ pos + f → (∀ r ∈ runesN t f pos, r ≠ 65533) → ∀ i, pos ≤ i → i < t.size → byteS t i < 248 := by
  intro f
  induction f with
  | zero => intro pos h1 _ i h2 h3; omega
  | succ f ih =>
    intro pos h1 hg i h2 h3
    have hlt : pos < t.size := by omega
    rw [runesN, if_pos hlt] at hg
    have hgr := hg _ (List.mem_cons_self ..)
    have hw := decode_width t pos hlt
    by_cases h4 : pos + (Utf8.decode t pos).2 ≤ i
    · exact ih _ (by omega) (fun r hr => hg r (List.mem_cons_of_mem _ hr)) i h4 h3
    · rw [decode_bytes] at hgr h4
      obtain ⟨g0, g5, g1, g2, g3⟩ := decodeN_bytes _ _ _ _ _ (byteS_lt t pos) hgr
      have hi : i = pos ∨ i = pos + 1 ∨ i = pos + 2 ∨ i = pos + 3 := by omega
      rcases hi with rfl | rfl | rfl | rfl
      · exact g0
      · exact g1 (by omega)
      · exact g2 (by omega)
      · exact g3 (by omega)
theorem lenS_spoilt (t : ByteArray) (i : Nat) (hi : i < t.size) (hb : 248 ≤ byteS t i) : lenS t = -1 := by
  have h1 := lenS_bd t
  by_cases hg : 0 ≤ lenS t
  · have := good_bytes t t.size 0 (by omega) (lenS_pos hg).1 i (by omega) hi
    omega
  · omega
theorem lenS_cut (t : ByteArray) (h0 : 0 < t.size) (hb : 128 ≤ byteS t 0 ∧ byteS t 0 ≤ 191) : ∃ Q, runesS t = 65533 :: Q := by
  obtain ⟨g, hf, hst, _⟩ := runesN_step t t.size 0 h0 (by omega)
  have hd : (Utf8.decode t 0).1 = 65533 := by
    rw [decode_bytes]
    unfold Lib.decodeN
    rw [if_neg (by omega), if_neg (by omega), if_neg (by omega), if_neg (by omega)]
  exact ⟨_, by unfold runesS; rw [hst, hd]⟩
theorem lenS_behind (t : ByteArray) (h0 : 0 < t.size) (hb : 128 ≤ byteS t 0 ∧ byteS t 0 ≤ 191) : lenS t = -1 := by
  obtain ⟨Q, hQ⟩ := lenS_cut t h0 hb
  exact lenS_bad (P := []) (by rw [hQ]; rfl)
theorem lenS_ahead (a b : ByteArray) (hs : 0 ≤ lenS (a ++ b)) (h0 : 0 < b.size) (hb : 128 ≤ byteS b 0 ∧ byteS b 0 ≤ 191) : lenS a = -1 := by
  have h1 := lenS_bd a
  by_cases hg : 0 ≤ lenS a
  · obtain ⟨Q, hQ⟩ := lenS_cut b h0 hb
    have hj := runesS_join a b hg
    rw [hQ] at hj
    have := lenS_bad hj
    omega
  · omega
theorem extract_join (s : ByteArray) (k : Nat) (hk : k ≤ s.size) : s.extract 0 k ++ s.extract k s.size = s := by
  apply ByteArray.ext
  simp only [ByteArray.data_extract, ByteArray.data_append]
  rw [Array.extract_append_extract]
  rw [show min 0 k = 0 by omega, show max k s.size = s.size by omega]
  exact Array.extract_eq_self_of_le (Nat.le_refl _)
theorem extract_size (s : ByteArray) (k : Nat) (hk : k ≤ s.size) : (s.extract 0 k).size = k ∧ (s.extract k s.size).size = s.size - k := by
  constructor <;> simp [ByteArray.size_extract] <;> omega
end Go.Proofs.Ytlkckdhenodhgaa
