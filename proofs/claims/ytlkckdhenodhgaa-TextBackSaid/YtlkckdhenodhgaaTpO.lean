/- texts are in order by bytes as they are by runes: plain lemmas -/
import Derived.Test.YtlkckdhenodhgaaTpM
namespace Go.Proofs.Ytlkckdhenodhgaa
open Go.RowKit
set_option linter.unusedVariables false
/-- what a rune's bytes are -/
def Enc (r w b0 b1 b2 b3 : Nat) : Prop :=
  (w = 1 ∧ b0 = r ∧ r < 128) ∨ (w = 2 ∧ b0 = 192 + r / 64 ∧ b1 = 128 + r % 64 ∧ 128 ≤ r ∧ r < 2048) ∨
  (w = 3 ∧ b0 = 224 + r / 4096 ∧ b1 = 128 + r / 64 % 64 ∧ b2 = 128 + r % 64 ∧ 2048 ≤ r ∧ r < 65536) ∨
  (w = 4 ∧ b0 = 240 + r / 262144 ∧ b1 = 128 + r / 4096 % 64 ∧ b2 = 128 + r / 64 % 64 ∧ b3 = 128 + r % 64 ∧ 65536 ≤ r ∧ r ≤ 1114111)
theorem enc_two {b2 b3 : Nat} (x y : Nat) (hx : x < 32) (hy : y < 64) (h : 128 ≤ x * 64 + y) : Enc (x * 64 + y) 2 (192 + x) (128 + y) b2 b3 :=
  Or.inr (Or.inl ⟨rfl, by omega, by omega, h, by omega⟩)
theorem enc_three {b3 : Nat} (x y z : Nat) (hx : x < 16) (hy : y < 64) (hz : z < 64) (h : 2048 ≤ x * 4096 + y * 64 + z) : Enc (x * 4096 + y * 64 + z) 3 (224 + x) (128 + y) (128 + z) b3 :=
  Or.inr (Or.inr (Or.inl ⟨rfl, by omega, by omega, by omega, h, by omega⟩))
theorem enc_four (x y z t : Nat) (hx : x < 8) (hy : y < 64) (hz : z < 64) (ht : t < 64) (h : 65536 ≤ x * 262144 + y * 4096 + z * 64 + t) (h2 : x * 262144 + y * 4096 + z * 64 + t ≤ 1114111) : Enc (x * 262144 + y * 4096 + z * 64 + t) 4 (240 + x) (128 + y) (128 + z) (128 + t) :=
  Or.inr (Or.inr (Or.inr ⟨rfl, by omega, by omega, by omega, by omega, h, h2⟩))
theorem decodeN_enc (n b0 b1 b2 b3 : Nat) (h0 : b0 < 256) (hg : (Lib.decodeN n b0 b1 b2 b3).1 ≠ 65533) :
    Enc (Lib.decodeN n b0 b1 b2 b3).1 (Lib.decodeN n b0 b1 b2 b3).2 b0 b1 b2 b3 := by
  unfold Lib.decodeN at *
  by_cases k0 : b0 < 128
  · rw [if_pos k0]; exact Or.inl ⟨rfl, rfl, k0⟩
  rw [if_neg k0] at hg ⊢
  by_cases k1 : b0 / 32 = 6 ∧ 1 < n ∧ b1 / 64 = 2
  · rw [if_pos k1] at hg ⊢
    by_cases h : b0 % 32 * 64 + b1 % 64 ≥ 128
    · rw [if_pos h]
      have e := enc_two (b2 := b2) (b3 := b3) (b0 % 32) (b1 % 64) (by omega) (by omega) h
      rw [show 192 + b0 % 32 = b0 by omega, show 128 + b1 % 64 = b1 by omega] at e
      exact e
    · rw [if_neg h] at hg; exact absurd rfl hg
  rw [if_neg k1] at hg ⊢
  by_cases k2 : b0 / 16 = 14 ∧ (1 < n ∧ b1 / 64 = 2) ∧ 2 < n ∧ b2 / 64 = 2
  · rw [if_pos k2] at hg ⊢
    by_cases h : b0 % 16 * 4096 + b1 % 64 * 64 + b2 % 64 ≥ 2048 ∧ (b0 % 16 * 4096 + b1 % 64 * 64 + b2 % 64 < 55296 ∨ (57344 ≤ b0 % 16 * 4096 + b1 % 64 * 64 + b2 % 64 ∧ b0 % 16 * 4096 + b1 % 64 * 64 + b2 % 64 ≤ 1114111))
    · rw [if_pos h]
      have e := enc_three (b3 := b3) (b0 % 16) (b1 % 64) (b2 % 64) (by omega) (by omega) (by omega) h.1
      rw [show 224 + b0 % 16 = b0 by omega, show 128 + b1 % 64 = b1 by omega, show 128 + b2 % 64 = b2 by omega] at e
      exact e
    · rw [if_neg h] at hg; exact absurd rfl hg
  rw [if_neg k2] at hg ⊢
  by_cases k3 : b0 / 8 = 30 ∧ (1 < n ∧ b1 / 64 = 2) ∧ (2 < n ∧ b2 / 64 = 2) ∧ 3 < n ∧ b3 / 64 = 2
  · rw [if_pos k3] at hg ⊢
    by_cases h : b0 % 8 * 262144 + b1 % 64 * 4096 + b2 % 64 * 64 + b3 % 64 ≥ 65536 ∧ (b0 % 8 * 262144 + b1 % 64 * 4096 + b2 % 64 * 64 + b3 % 64 < 55296 ∨ (57344 ≤ b0 % 8 * 262144 + b1 % 64 * 4096 + b2 % 64 * 64 + b3 % 64 ∧ b0 % 8 * 262144 + b1 % 64 * 4096 + b2 % 64 * 64 + b3 % 64 ≤ 1114111))
    · rw [if_pos h]
      have e := enc_four (b0 % 8) (b1 % 64) (b2 % 64) (b3 % 64) (by omega) (by omega) (by omega) (by omega) h.1 (by omega)
      rw [show 240 + b0 % 8 = b0 by omega, show 128 + b1 % 64 = b1 by omega, show 128 + b2 % 64 = b2 by omega, show 128 + b3 % 64 = b3 by omega] at e
      exact e
    · rw [if_neg h] at hg; exact absurd rfl hg
  rw [if_neg k3] at hg
  exact absurd rfl hg
theorem enc_eq {r w v b0 b1 b2 b3 c0 c1 c2 c3 : Nat} (h : Enc r w b0 b1 b2 b3) (k : Enc r v c0 c1 c2 c3) : w = v ∧ b0 = c0 ∧ (1 < w → b1 = c1) ∧ (2 < w → b2 = c2) ∧ (3 < w → b3 = c3) := by
  unfold Enc at *; omega
def Ahead (w v b0 b1 b2 b3 c0 c1 c2 c3 : Nat) : Prop :=
  b0 < c0 ∨ (b0 = c0 ∧ 1 < w ∧ 1 < v ∧ (b1 < c1 ∨ (b1 = c1 ∧ 2 < w ∧ 2 < v ∧ (b2 < c2 ∨ (b2 = c2 ∧ 3 < w ∧ 3 < v ∧ b3 < c3)))))
theorem enc_lt {r s w v b0 b1 b2 b3 c0 c1 c2 c3 : Nat} (h : Enc r w b0 b1 b2 b3) (k : Enc s v c0 c1 c2 c3) (hl : r < s) : Ahead w v b0 b1 b2 b3 c0 c1 c2 c3 := by
  unfold Enc at h k
  unfold Ahead
  rcases h with h | h | h | h <;> rcases k with k | k | k | k <;> omega
/-- which list of runes is ahead -/
def lexN : List Nat → List Nat → Int
  | [], [] => 0
  | [], _ :: _ => -1
  | _ :: _, [] => 1
  | r :: x, s :: y => if r < s then -1 else if s < r then 1 else lexN x y
theorem cmp_step (a b : ByteArray) (p q : Nat) (hp : p < a.size) (hq : q < b.size) :
    cmpL (a.toList.drop p) (b.toList.drop q) = if byteS a p < byteS b q then -1 else if byteS b q < byteS a p then 1 else cmpL (a.toList.drop (p + 1)) (b.toList.drop (q + 1)) := by
  obtain ⟨c, hc1, hc2⟩ := drop_at a p hp
  obtain ⟨d, hd1, hd2⟩ := drop_at b q hq
  rw [hc1, hd1, cmpL_cons, hc2, hd2]
theorem cmp_ahead (a b : ByteArray) (p q w v : Nat) (hw : p + w ≤ a.size) (hv : q + v ≤ b.size) (h1 : 1 ≤ w) (h2 : 1 ≤ v) (h : Ahead w v (byteS a p) (byteS a (p + 1)) (byteS a (p + 2)) (byteS a (p + 3)) (byteS b q) (byteS b (q + 1)) (byteS b (q + 2)) (byteS b (q + 3))) :
    cmpL (a.toList.drop p) (b.toList.drop q) = -1 := by
  rw [cmp_step a b p q (by omega) (by omega)]
  rcases h with h | ⟨e0, w1, v1, h⟩
  · rw [if_pos h]
  rw [if_neg (by omega), if_neg (by omega), cmp_step a b (p + 1) (q + 1) (by omega) (by omega)]
  rcases h with h | ⟨e1, w2, v2, h⟩
  · rw [if_pos h]
  rw [if_neg (by omega), if_neg (by omega), cmp_step a b (p + 1 + 1) (q + 1 + 1) (by omega) (by omega)]
  simp only [Nat.add_assoc, Nat.reduceAdd]
  rcases h with h | ⟨e2, w3, v3, h⟩
  · rw [if_pos h]
  rw [if_neg (by omega), if_neg (by omega), cmp_step a b (p + 3) (q + 3) (by omega) (by omega), if_pos h]
theorem cmp_skip (a b : ByteArray) : ∀ w p q, p + w ≤ a.size → q + w ≤ b.size → (∀ t, t < w → byteS a (p + t) = byteS b (q + t)) → cmpL (a.toList.drop p) (b.toList.drop q) = cmpL (a.toList.drop (p + w)) (b.toList.drop (q + w)) := by
  intro w
  induction w with
  | zero => intro p q _ _ _; rfl
  | succ w ih =>
    intro p q h1 h2 h
    have h0 := h 0 (by omega)
    simp only [Nat.add_zero] at h0
    rw [cmp_step a b p q (by omega) (by omega), if_neg (by omega), if_neg (by omega), ih (p + 1) (q + 1) (by omega) (by omega) (fun t ht => by have := h (t + 1) (by omega); rw [show p + 1 + t = p + (t + 1) by omega, show q + 1 + t = q + (t + 1) by omega]; exact this)]
    rw [show p + 1 + w = p + (w + 1) by omega, show q + 1 + w = q + (w + 1) by omega]
theorem decode_fits (a : ByteArray) (i : Nat) (h : i < a.size) (hg : (Utf8.decode a i).1 ≠ 65533) : i + (Utf8.decode a i).2 ≤ a.size := (decode_left a a i h hg).2
theorem cmp_runes (a b : ByteArray) : ∀ f p g q, a.size ≤ p + f → b.size ≤ q + g → (∀ r ∈ runesN a f p, r ≠ 65533) → (∀ r ∈ runesN b g q, r ≠ 65533) → cmpL (a.toList.drop p) (b.toList.drop q) = lexN (runesN a f p) (runesN b g q) := by
  intro f
  induction f with
  | zero =>
    intro p g q h1 h2 _ _
    rw [drop_end a p (by omega)]
    by_cases hq : q < b.size
    · obtain ⟨g', rfl, hst, _⟩ := runesN_step b g q hq h2
      obtain ⟨d, hd1, _⟩ := drop_at b q hq
      rw [hst, hd1]; simp [runesN, lexN, cmpL, Op.bytesLess]
    · rw [runesN_end b g q hq, drop_end b q (by omega)]; rfl
  | succ f ih =>
    intro p g q h1 h2 ha hb
    by_cases hp : p < a.size
    · rw [runesN, if_pos hp] at ha ⊢
      have hga := ha _ (List.mem_cons_self ..)
      have hwa := decode_width a p hp
      have hfa := decode_fits a p hp hga
      by_cases hq : q < b.size
      · obtain ⟨g', rfl, hst, hg'⟩ := runesN_step b g q hq h2
        rw [hst] at hb ⊢
        have hgb := hb _ (List.mem_cons_self ..)
        have hwb := decode_width b q hq
        have hfb := decode_fits b q hq hgb
        have ea : Enc (Utf8.decode a p).1 (Utf8.decode a p).2 (byteS a p) (byteS a (p + 1)) (byteS a (p + 2)) (byteS a (p + 3)) := by
          rw [decode_bytes] at hga ⊢; exact decodeN_enc _ _ _ _ _ (byteS_lt _ _) hga
        have eb : Enc (Utf8.decode b q).1 (Utf8.decode b q).2 (byteS b q) (byteS b (q + 1)) (byteS b (q + 2)) (byteS b (q + 3)) := by
          rw [decode_bytes] at hgb ⊢; exact decodeN_enc _ _ _ _ _ (byteS_lt _ _) hgb
        rw [lexN]
        rcases Nat.lt_trichotomy (Utf8.decode a p).1 (Utf8.decode b q).1 with h | h | h
        · rw [if_pos h]
          exact cmp_ahead a b p q _ _ hfa hfb hwa hwb (enc_lt ea eb h)
        · rw [if_neg (by omega), if_neg (by omega)]
          rw [← h] at eb
          obtain ⟨hw, e0, e1, e2, e3⟩ := enc_eq ea eb
          have hb4 : (Utf8.decode a p).2 ≤ 4 := by unfold Enc at ea; omega
          rw [cmp_skip a b (Utf8.decode a p).2 p q hfa (by omega) (fun t ht => by
            have ht2 : t = 0 ∨ t = 1 ∨ t = 2 ∨ t = 3 := by omega
            rcases ht2 with rfl | rfl | rfl | rfl
            · exact e0
            · exact e1 ht
            · exact e2 ht
            · exact e3 ht)]
          have := ih (p + (Utf8.decode a p).2) g' (q + (Utf8.decode b q).2) (by omega) hg' (fun r hr => ha r (List.mem_cons_of_mem _ hr)) (fun r hr => hb r (List.mem_cons_of_mem _ hr))
          rw [← this, hw]
        · rw [if_neg (by omega), if_pos h, cmpL_swap]
          rw [cmp_ahead b a q p _ _ hfb hfa hwb hwa (enc_lt eb ea h)]
          rfl
      · rw [runesN_end b g q hq, drop_end b q (by omega)]
        obtain ⟨d, hd1, _⟩ := drop_at a p hp
        rw [hd1]; simp [lexN, cmpL, Op.bytesLess]
    · rw [runesN_end a _ p hp, drop_end a p (by omega)]
      by_cases hq : q < b.size
      · obtain ⟨g', rfl, hst, _⟩ := runesN_step b g q hq h2
        obtain ⟨d, hd1, _⟩ := drop_at b q hq
        rw [hst, hd1]; simp [lexN, cmpL, Op.bytesLess]
      · rw [runesN_end b g q hq, drop_end b q (by omega)]; rfl
theorem cmpS_runes (a b : ByteArray) (ha : 0 ≤ lenS a) (hb : 0 ≤ lenS b) : cmpS a b = lexN (runesS a) (runesS b) :=
  cmp_runes a b a.size 0 b.size 0 (by omega) (by omega) (lenS_pos ha).1 (lenS_pos hb).1
theorem lexN_drop : ∀ (j : Nat) (x y : List Nat), j ≤ x.length → j ≤ y.length → (∀ t, t < j → x.getD t 0 = y.getD t 0) → lexN x y = lexN (x.drop j) (y.drop j)
  | 0, _, _, _, _, _ => rfl
  | j + 1, r :: x, s :: y, h1, h2, h => by
    have h0 := h 0 (by omega)
    simp at h0
    subst h0
    rw [lexN, if_neg (Nat.lt_irrefl _), if_neg (Nat.lt_irrefl _)]
    exact lexN_drop j x y (by simpa using h1) (by simpa using h2) (fun t ht => by have := h (t + 1) (by omega); simpa using this)
end Go.Proofs.Ytlkckdhenodhgaa
