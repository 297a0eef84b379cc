/- texts one behind the other, spoilt ones: plain lemmas (TpM, TpN without the prefix) -/
import Derived.Test.YthboiklcjpnhbaaRg1

namespace Go.Proofs.Ythboiklcjpnhbaa
open Go.RowKit
set_option linter.unusedVariables false
set_option maxRecDepth 20000
theorem byteS_out (s : ByteArray) (i : Nat) (h : s.size ≤ i) : byteS s i = 0 := by
  unfold byteS
  obtain ⟨d⟩ := s
  have h' : ¬ i < d.size := Nat.not_lt.2 h
  simp [ByteArray.get!, h', getElem!_neg]
  rfl
theorem byteS_left (a b : ByteArray) (i : Nat) (h : i < a.size) : byteS (a ++ b) i = byteS a i := by
  have h2 : i < (a ++ b).size := by rw [ByteArray.size_append]; omega
  rw [← byteS_at (a ++ b) i h2, ← byteS_at a i h, ByteArray.getElem_append_left h]
theorem byteS_right (a b : ByteArray) (i : Nat) : byteS (a ++ b) (a.size + i) = byteS b i := by
  by_cases h : i < b.size
  · have h2 : a.size + i < (a ++ b).size := by rw [ByteArray.size_append]; omega
    rw [← byteS_at (a ++ b) _ h2, ← byteS_at b i h, ByteArray.getElem_append_right (by omega)]
    simp
  · rw [byteS_out _ _ (by rw [ByteArray.size_append]; omega), byteS_out _ _ (by omega)]
theorem decode_bytes (s : ByteArray) (i : Nat) : Utf8.decode s i = Lib.decodeN (s.size - i) (byteS s i) (byteS s (i + 1)) (byteS s (i + 2)) (byteS s (i + 3)) := Lib.decode_at s i
theorem decode_right (a b : ByteArray) (j : Nat) : Utf8.decode (a ++ b) (a.size + j) = Utf8.decode b j := by
  rw [decode_bytes, decode_bytes, byteS_right, Nat.add_assoc, byteS_right, Nat.add_assoc, byteS_right, Nat.add_assoc, byteS_right, ByteArray.size_append]
  congr 1; omega
theorem decodeN_more (n n' b0 b1 b2 b3 c1 c2 c3 : Nat) (hn : n ≤ n') (h1 : 1 < n → c1 = b1) (h2 : 2 < n → c2 = b2) (h3 : 3 < n → c3 = b3) (hpos : 0 < n) (hg : (Lib.decodeN n b0 b1 b2 b3).1 ≠ 65533) :
    Lib.decodeN n' b0 c1 c2 c3 = Lib.decodeN n b0 b1 b2 b3 ∧ (Lib.decodeN n b0 b1 b2 b3).2 ≤ n := by
  unfold Lib.decodeN at *
  by_cases k0 : b0 < 128
  · simp only [k0, if_true] at *; exact ⟨trivial, by omega⟩
  simp only [k0, if_false] at *
  by_cases k1 : b0 / 32 = 6 ∧ 1 < n ∧ b1 / 64 = 2
  · have e1 := h1 k1.2.1
    subst e1
    rw [if_pos k1] at hg ⊢
    rw [if_pos ⟨k1.1, by omega, k1.2.2⟩]
    refine ⟨rfl, ?_⟩
    split <;> simp only <;> omega
  rw [if_neg k1] at hg ⊢
  by_cases k2 : b0 / 16 = 14 ∧ (1 < n ∧ b1 / 64 = 2) ∧ 2 < n ∧ b2 / 64 = 2
  · have e1 := h1 k2.2.1.1
    have e2 := h2 k2.2.2.1
    subst e1 e2
    rw [if_pos k2] at hg ⊢
    rw [if_neg (by omega), if_pos ⟨k2.1, ⟨by omega, k2.2.1.2⟩, by omega, k2.2.2.2⟩]
    refine ⟨rfl, ?_⟩
    split <;> simp only <;> omega
  rw [if_neg k2] at hg ⊢
  by_cases k3 : b0 / 8 = 30 ∧ (1 < n ∧ b1 / 64 = 2) ∧ (2 < n ∧ b2 / 64 = 2) ∧ 3 < n ∧ b3 / 64 = 2
  · have e1 := h1 k3.2.1.1
    have e2 := h2 k3.2.2.1.1
    have e3 := h3 k3.2.2.2.1
    subst e1 e2 e3
    rw [if_pos k3] at hg ⊢
    rw [if_neg (by omega), if_neg (by omega), if_pos ⟨k3.1, ⟨by omega, k3.2.1.2⟩, ⟨by omega, k3.2.2.1.2⟩, by omega, k3.2.2.2.2⟩]
    refine ⟨rfl, ?_⟩
    split <;> simp only <;> omega
  rw [if_neg k3] at hg
  exact absurd rfl hg
theorem decode_left (a b : ByteArray) (i : Nat) (h : i < a.size) (hg : (Utf8.decode a i).1 ≠ 65533) : Utf8.decode (a ++ b) i = Utf8.decode a i ∧ i + (Utf8.decode a i).2 ≤ a.size := by
  rw [decode_bytes a i] at hg ⊢
  rw [decode_bytes (a ++ b) i, byteS_left a b i h]
  have := decodeN_more (a.size - i) ((a ++ b).size - i) (byteS a i) (byteS a (i + 1)) (byteS a (i + 2)) (byteS a (i + 3)) (byteS (a ++ b) (i + 1)) (byteS (a ++ b) (i + 2)) (byteS (a ++ b) (i + 3))
    (by rw [ByteArray.size_append]; omega) (fun _ => byteS_left a b _ (by omega)) (fun _ => byteS_left a b _ (by omega)) (fun _ => byteS_left a b _ (by omega)) (by omega) hg
  exact ⟨this.1, by omega⟩
theorem runesN_fuel (s : ByteArray) : ∀ f g pos, s.size ≤ pos + f → s.size ≤ pos + g → runesN s f pos = runesN s g pos := by
  intro f
  induction f with
  | zero => intro g pos h1 h2; rw [runesN_end s 0 pos (by omega), runesN_end s g pos (by omega)]
  | succ f ih =>
    intro g pos h1 h2
    by_cases hlt : pos < s.size
    · obtain ⟨g', rfl, hst, _⟩ := runesN_step s g pos hlt h2
      have hw := decode_width s pos hlt
      rw [hst, runesN, if_pos hlt, ih g' _ (by omega) (by omega)]
    · rw [runesN_end s _ pos hlt, runesN_end s g pos hlt]
theorem runesN_right (a b : ByteArray) : ∀ f j, runesN (a ++ b) f (a.size + j) = runesN b f j := by
  intro f
  induction f with
  | zero => intro j; rfl
  | succ f ih =>
    intro j
    rw [runesN, runesN, decode_right, ByteArray.size_append, Nat.add_assoc, ih]
    by_cases h : j < b.size
    · rw [if_pos h, if_pos (by omega)]
    · rw [if_neg h, if_neg (by omega)]
theorem runesN_join (a b : ByteArray) : ∀ f pos, a.size ≤ pos + f → pos ≤ a.size → (∀ r ∈ runesN a f pos, r ≠ 65533) → ∀ F, (a ++ b).size ≤ pos + F → runesN (a ++ b) F pos = runesN a f pos ++ runesS b := by
  intro f
  induction f with
  | zero =>
    intro pos h1 h2 _ F hF
    obtain rfl : pos = a.size := by omega
    rw [runesN_end a 0 _ (by omega), List.nil_append]
    have := runesN_right a b F 0
    rw [Nat.add_zero] at this
    rw [this]
    exact runesN_fuel b F b.size 0 (by rw [ByteArray.size_append] at hF; omega) (by omega)
  | succ f ih =>
    intro pos h1 h2 hg F hF
    by_cases hlt : pos < a.size
    · rw [runesN, if_pos hlt] at hg ⊢
      have hgr := hg _ (List.mem_cons_self ..)
      obtain ⟨e1, e2⟩ := decode_left a b pos hlt hgr
      have hw := decode_width a pos hlt
      have hlt2 : pos < (a ++ b).size := by rw [ByteArray.size_append]; omega
      obtain ⟨F', rfl, hst, hF'⟩ := runesN_step (a ++ b) F pos hlt2 hF
      rw [hst, e1]
      rw [e1] at hF'
      rw [ih _ (by omega) e2 (fun r hr => hg r (List.mem_cons_of_mem _ hr)) F' hF']
      rfl
    · obtain rfl : pos = a.size := by omega
      rw [runesN_end a _ _ (by omega), List.nil_append]
      have := runesN_right a b F 0
      rw [Nat.add_zero] at this
      rw [this]
      exact runesN_fuel b F b.size 0 (by rw [ByteArray.size_append] at hF; omega) (by omega)
theorem runesS_join (a b : ByteArray) (hg : 0 ≤ lenS a) : runesS (a ++ b) = runesS a ++ runesS b :=
  runesN_join a b a.size 0 (by omega) (by omega) (lenS_pos hg).1 _ (by omega)
theorem lenS_join (a b : ByteArray) (ha : 0 ≤ lenS a) (hb : 0 ≤ lenS b) : lenS (a ++ b) = lenS a + lenS b := by
  have h1 := lenS_pos ha
  have h2 := lenS_pos hb
  have h3 := runesS_join a b ha
  rw [lenS_good (s := a ++ b) (by intro r hr; rw [h3] at hr; rcases List.mem_append.1 hr with h | h; exact h1.1 r h; exact h2.1 r h), h3, List.length_append, h1.2, h2.2]
  omega
theorem runes_none (a : ByteArray) (h : runesS a = []) : a.size = 0 := by
  rcases Nat.eq_zero_or_pos a.size with h0 | h0
  · exact h0
  · obtain ⟨g, hf, hst, _⟩ := runesN_step a a.size 0 h0 (by omega)
    unfold runesS at h
    rw [hst] at h
    cases h
theorem extract_left (a b : ByteArray) : (a ++ b).extract 0 a.size = a := by
  apply ByteArray.ext
  simp only [ByteArray.data_extract, ByteArray.data_append]
  rw [show a.size = a.data.size from rfl, Array.extract_append_left]
  simp
theorem empty_of (a : ByteArray) (h : a.size = 0) : a = { data := #[] } := by
  apply ByteArray.ext
  exact Array.eq_empty_of_size_eq_zero h
theorem decodeN_bytes (n b0 b1 b2 b3 : Nat) (h0 : b0 < 256) (hg : (Lib.decodeN n b0 b1 b2 b3).1 ≠ 65533) :
    b0 < 248 ∧ (Lib.decodeN n b0 b1 b2 b3).2 ≤ 4 ∧ (1 < (Lib.decodeN n b0 b1 b2 b3).2 → b1 < 248) ∧ (2 < (Lib.decodeN n b0 b1 b2 b3).2 → b2 < 248) ∧ (3 < (Lib.decodeN n b0 b1 b2 b3).2 → b3 < 248) := by
  unfold Lib.decodeN at *
  by_cases k0 : b0 < 128
  · rw [if_pos k0]; simp only; omega
  rw [if_neg k0] at hg ⊢
  by_cases k1 : b0 / 32 = 6 ∧ 1 < n ∧ b1 / 64 = 2
  · rw [if_pos k1]
    split <;> simp only <;> omega
  rw [if_neg k1] at hg ⊢
  by_cases k2 : b0 / 16 = 14 ∧ (1 < n ∧ b1 / 64 = 2) ∧ 2 < n ∧ b2 / 64 = 2
  · rw [if_pos k2]
    split <;> simp only <;> omega
  rw [if_neg k2] at hg ⊢
  by_cases k3 : b0 / 8 = 30 ∧ (1 < n ∧ b1 / 64 = 2) ∧ (2 < n ∧ b2 / 64 = 2) ∧ 3 < n ∧ b3 / 64 = 2
  · rw [if_pos k3]
    split <;> simp only <;> omega
  rw [if_neg k3] at hg
  exact absurd rfl hg
theorem good_bytes (t : ByteArray) : ∀ f pos, t.size ≤ pos + f → (∀ r ∈ runesN t f pos, r ≠ 65533) → ∀ i, pos ≤ i → i < t.size → byteS t i < 248 := by
  intro f
  induction f with
  | zero => intro pos h1 _ i h2 h3; omega
  | succ f ih =>
    intro pos h1 hg i h2 h3
    have hlt : pos < t.size := by omega
    rw [runesN, if_pos hlt] at hg
    have hgr := hg _ (List.mem_cons_self ..)
    have hw := decode_width t pos hlt
    by_cases h4 : pos + (Utf8.decode t pos).2 ≤ i
    · exact ih _ (by omega) (fun r hr => hg r (List.mem_cons_of_mem _ hr)) i h4 h3
    · rw [decode_bytes] at hgr h4
      obtain ⟨g0, g5, g1, g2, g3⟩ := decodeN_bytes _ _ _ _ _ (byteS_lt t pos) hgr
      have hi : i = pos ∨ i = pos + 1 ∨ i = pos + 2 ∨ i = pos + 3 := by omega
      rcases hi with rfl | rfl | rfl | rfl
      · exact g0
      · exact g1 (by omega)
      · exact g2 (by omega)
      · exact g3 (by omega)
theorem lenS_spoilt (t : ByteArray) (i : Nat) (hi : i < t.size) (hb : 248 ≤ byteS t i) : lenS t = -1 := by
  have h1 := lenS_bd t
  by_cases hg : 0 ≤ lenS t
  · have := good_bytes t t.size 0 (by omega) (lenS_pos hg).1 i (by omega) hi
    omega
  · omega
theorem lenS_cut (t : ByteArray) (h0 : 0 < t.size) (hb : 128 ≤ byteS t 0 ∧ byteS t 0 ≤ 191) : ∃ Q, runesS t = 65533 :: Q := by
  obtain ⟨g, hf, hst, _⟩ := runesN_step t t.size 0 h0 (by omega)
  have hd : (Utf8.decode t 0).1 = 65533 := by
    rw [decode_bytes]
    unfold Lib.decodeN
    rw [if_neg (by omega), if_neg (by omega), if_neg (by omega), if_neg (by omega)]
  exact ⟨_, by unfold runesS; rw [hst, hd]⟩
theorem lenS_behind (t : ByteArray) (h0 : 0 < t.size) (hb : 128 ≤ byteS t 0 ∧ byteS t 0 ≤ 191) : lenS t = -1 := by
  obtain ⟨Q, hQ⟩ := lenS_cut t h0 hb
  exact lenS_bad (P := []) (by rw [hQ]; rfl)
theorem lenS_ahead (a b : ByteArray) (hs : 0 ≤ lenS (a ++ b)) (h0 : 0 < b.size) (hb : 128 ≤ byteS b 0 ∧ byteS b 0 ≤ 191) : lenS a = -1 := by
  have h1 := lenS_bd a
  by_cases hg : 0 ≤ lenS a
  · obtain ⟨Q, hQ⟩ := lenS_cut b h0 hb
    have hj := runesS_join a b hg
    rw [hQ] at hj
    have := lenS_bad hj
    omega
  · omega
theorem extract_join (s : ByteArray) (k : Nat) (hk : k ≤ s.size) : s.extract 0 k ++ s.extract k s.size = s := by
  apply ByteArray.ext
  simp only [ByteArray.data_extract, ByteArray.data_append]
  rw [Array.extract_append_extract]
  rw [show min 0 k = 0 by omega, show max k s.size = s.size by omega]
  exact Array.extract_eq_self_of_le (Nat.le_refl _)
theorem extract_size (s : ByteArray) (k : Nat) (hk : k ≤ s.size) : (s.extract 0 k).size = k ∧ (s.extract k s.size).size = s.size - k := by
  constructor <;> simp [ByteArray.size_extract] <;> omega
end Go.Proofs.Ythboiklcjpnhbaa
