/- well made texts are made of their runes: plain lemmas -/
import Derived.Test.YtlkckdhenodhgaaTm2
import Derived.Test.YtlkckdhenodhgaaTpO
import Derived.Test.YtlkckdhenodhgaaRg4
namespace Go.Proofs.Ytlkckdhenodhgaa
open Go.RowKit
set_option linter.unusedVariables false
theorem decodeN_good (n b0 b1 b2 b3 : Nat) (hg : (Lib.decodeN n b0 b1 b2 b3).1 ≠ 65533) (h0 : b0 < 256) :
    ((Lib.decodeN n b0 b1 b2 b3).1 < 55296 ∨ 57343 < (Lib.decodeN n b0 b1 b2 b3).1) ∧ (Lib.decodeN n b0 b1 b2 b3).1 ≤ 1114111 := by
  unfold Lib.decodeN at *
  by_cases k0 : b0 < 128
  · rw [if_pos k0]; exact ⟨Or.inl (show b0 < 55296 by omega), (show b0 ≤ 1114111 by omega)⟩
  rw [if_neg k0] at hg ⊢
  by_cases k1 : b0 / 32 = 6 ∧ 1 < n ∧ b1 / 64 = 2
  · rw [if_pos k1] at hg ⊢
    by_cases h : b0 % 32 * 64 + b1 % 64 ≥ 128
    · rw [if_pos h]; exact ⟨Or.inl (show b0 % 32 * 64 + b1 % 64 < 55296 by omega), (show b0 % 32 * 64 + b1 % 64 ≤ 1114111 by omega)⟩
    · rw [if_neg h] at hg; exact absurd rfl hg
  rw [if_neg k1] at hg ⊢
  by_cases k2 : b0 / 16 = 14 ∧ (1 < n ∧ b1 / 64 = 2) ∧ 2 < n ∧ b2 / 64 = 2
  · rw [if_pos k2] at hg ⊢
    by_cases h : b0 % 16 * 4096 + b1 % 64 * 64 + b2 % 64 ≥ 2048 ∧ (b0 % 16 * 4096 + b1 % 64 * 64 + b2 % 64 < 55296 ∨ (57344 ≤ b0 % 16 * 4096 + b1 % 64 * 64 + b2 % 64 ∧ b0 % 16 * 4096 + b1 % 64 * 64 + b2 % 64 ≤ 1114111))
    · rw [if_pos h]
      refine ⟨?_, show b0 % 16 * 4096 + b1 % 64 * 64 + b2 % 64 ≤ 1114111 by omega⟩
      show b0 % 16 * 4096 + b1 % 64 * 64 + b2 % 64 < 55296 ∨ 57343 < b0 % 16 * 4096 + b1 % 64 * 64 + b2 % 64
      omega
    · rw [if_neg h] at hg; exact absurd rfl hg
  rw [if_neg k2] at hg ⊢
  by_cases k3 : b0 / 8 = 30 ∧ (1 < n ∧ b1 / 64 = 2) ∧ (2 < n ∧ b2 / 64 = 2) ∧ 3 < n ∧ b3 / 64 = 2
  · rw [if_pos k3] at hg ⊢
    by_cases h : b0 % 8 * 262144 + b1 % 64 * 4096 + b2 % 64 * 64 + b3 % 64 ≥ 65536 ∧ (b0 % 8 * 262144 + b1 % 64 * 4096 + b2 % 64 * 64 + b3 % 64 < 55296 ∨ (57344 ≤ b0 % 8 * 262144 + b1 % 64 * 4096 + b2 % 64 * 64 + b3 % 64 ∧ b0 % 8 * 262144 + b1 % 64 * 4096 + b2 % 64 * 64 + b3 % 64 ≤ 1114111))
    · rw [if_pos h]
      refine ⟨?_, show b0 % 8 * 262144 + b1 % 64 * 4096 + b2 % 64 * 64 + b3 % 64 ≤ 1114111 by omega⟩
      show b0 % 8 * 262144 + b1 % 64 * 4096 + b2 % 64 * 64 + b3 % 64 < 55296 ∨ 57343 < b0 % 8 * 262144 + b1 % 64 * 4096 + b2 % 64 * 64 + b3 % 64
      omega
    · rw [if_neg h] at hg; exact absurd rfl hg
  rw [if_neg k3] at hg
  exact absurd rfl hg
theorem decodeN_of_enc (n r w b0 b1 b2 b3 : Nat) (h : Enc r w b0 b1 b2 b3) (hw : w ≤ n) (hs : r < 55296 ∨ 57343 < r) : Lib.decodeN n b0 b1 b2 b3 = (r, w) := by
  unfold Lib.decodeN
  rcases h with ⟨rfl, rfl, h⟩ | ⟨rfl, h0, h1, h2, h3⟩ | ⟨rfl, h0, h1, h2, h3, h4⟩ | ⟨rfl, h0, h1, h2, h3, h4, h5⟩
  · rw [if_pos h]
  · rw [if_neg (by omega), if_pos (by omega)]
    have e : b0 % 32 * 64 + b1 % 64 = r := by omega
    simp only [e]
    rw [if_pos (by omega)]
  · rw [if_neg (by omega), if_neg (by omega), if_pos (by omega)]
    have e : b0 % 16 * 4096 + b1 % 64 * 64 + b2 % 64 = r := by omega
    simp only [e]
    rw [if_pos (by omega)]
  · rw [if_neg (by omega), if_neg (by omega), if_neg (by omega), if_pos (by omega)]
    have e : b0 % 8 * 262144 + b1 % 64 * 4096 + b2 % 64 * 64 + b3 % 64 = r := by omega
    simp only [e]
    rw [if_pos (by omega)]
theorem encode_list (r w b0 b1 b2 b3 : Nat) (h : Enc r w b0 b1 b2 b3) (hs : r < 55296 ∨ 57343 < r) : Lib.encodeRune (r : Int) = ([b0, b1, b2, b3].take w).map UInt8.ofNat := by
  unfold Lib.encodeRune
  rcases h with ⟨rfl, rfl, h⟩ | ⟨rfl, h0, h1, h2, h3⟩ | ⟨rfl, h0, h1, h2, h3, h4⟩ | ⟨rfl, h0, h1, h2, h3, h4, h5⟩
  · rw [Lib.encodeRuneZ_one (by omega) (by omega)]; rfl
  · rw [Lib.encodeRuneZ_two (by omega) (by omega)]
    have e0 : (192 + (r : Int) / 64).toNat = b0 := by omega
    have e1 : (128 + (r : Int) % 64).toNat = b1 := by omega
    simp only [List.map, e0, e1, List.take]
  · rw [Lib.encodeRuneZ_three (by omega)]
    have e0 : (224 + (r : Int) / 4096).toNat = b0 := by omega
    have e1 : (128 + (r : Int) / 64 % 64).toNat = b1 := by omega
    have e2 : (128 + (r : Int) % 64).toNat = b2 := by omega
    simp only [List.map, e0, e1, e2, List.take]
  · rw [Lib.encodeRuneZ_four (by omega) (by omega)]
    have e0 : (240 + (r : Int) / 262144).toNat = b0 := by omega
    have e1 : (128 + (r : Int) / 4096 % 64).toNat = b1 := by omega
    have e2 : (128 + (r : Int) / 64 % 64).toNat = b2 := by omega
    have e3 : (128 + (r : Int) % 64).toNat = b3 := by omega
    simp only [List.map, e0, e1, e2, e3, List.take]
theorem drop_byte (s : ByteArray) (j : Nat) (h : j < s.size) : s.toList.drop j = UInt8.ofNat (byteS s j) :: s.toList.drop (j + 1) := by
  obtain ⟨c, h1, h2⟩ := drop_at s j h
  rw [h1, ← h2, UInt8.ofNat_toNat]
theorem bytes_list (s : ByteArray) (pos w : Nat) (h : pos + w ≤ s.size) (h1 : 1 ≤ w) (h4 : w ≤ 4) :
    (s.toList.drop pos).take w = ([byteS s pos, byteS s (pos + 1), byteS s (pos + 2), byteS s (pos + 3)].take w).map UInt8.ofNat := by
  have hw : w = 1 ∨ w = 2 ∨ w = 3 ∨ w = 4 := by omega
  rcases hw with rfl | rfl | rfl | rfl
  · rw [drop_byte s pos (by omega)]; rfl
  · rw [drop_byte s pos (by omega), drop_byte s (pos + 1) (by omega)]; rfl
  · rw [drop_byte s pos (by omega), drop_byte s (pos + 1) (by omega), drop_byte s (pos + 1 + 1) (by omega)]; rfl
  · rw [drop_byte s pos (by omega), drop_byte s (pos + 1) (by omega), drop_byte s (pos + 1 + 1) (by omega), drop_byte s (pos + 1 + 1 + 1) (by omega)]; rfl
theorem enc_width {r w b0 b1 b2 b3 : Nat} (h : Enc r w b0 b1 b2 b3) : 1 ≤ w ∧ w ≤ 4 ∧ r ≤ 1114111 := by unfold Enc at h; omega
/-- a rune read well: its bytes -/
theorem read_well (s : ByteArray) (pos : Nat) (h : pos < s.size) (hg : (Utf8.decode s pos).1 ≠ 65533) :
    Enc (Utf8.decode s pos).1 (Utf8.decode s pos).2 (byteS s pos) (byteS s (pos + 1)) (byteS s (pos + 2)) (byteS s (pos + 3)) ∧ ((Utf8.decode s pos).1 < 55296 ∨ 57343 < (Utf8.decode s pos).1) := by
  rw [decode_bytes] at hg ⊢
  exact ⟨decodeN_enc _ _ _ _ _ (byteS_lt _ _) hg, (decodeN_good _ _ _ _ _ hg (byteS_lt _ _)).1⟩
theorem goodP_nat {r : Nat} (h : r ≠ 65533) (h1 : r < 55296 ∨ 57343 < r) (h2 : r ≤ 1114111) : goodP (r : Int) := by unfold goodP; omega
theorem runesN_good (s : ByteArray) : ∀ f pos, (∀ r ∈ runesN s f pos, r ≠ 65533) → ∀ r ∈ runesN s f pos, goodP (r : Int) := by
  intro f
  induction f with
  | zero => intro pos _ r hr; simp [runesN] at hr
  | succ f ih =>
    intro pos h r hr
    by_cases hp : pos < s.size
    · rw [runesN, if_pos hp] at h hr
      have hg := h _ (List.mem_cons_self ..)
      obtain ⟨e, e2⟩ := read_well s pos hp hg
      rcases List.mem_cons.1 hr with rfl | hr
      · exact goodP_nat hg e2 (enc_width e).2.2
      · exact ih _ (fun q hq => h q (List.mem_cons_of_mem _ hq)) r hr
    · rw [runesN, if_neg hp] at hr; simp at hr
theorem runesS_allG {s : ByteArray} (h : 0 ≤ lenS s) : allG (intsN (runesS s)) := by
  intro z hz
  obtain ⟨r, hr, rfl⟩ := List.mem_map.1 hz
  exact runesN_good s s.size 0 (lenS_pos h).1 r hr
theorem intsN_snoc (P : List Nat) (r : Nat) : intsN (P ++ [r]) = intsN P ++ [(r : Int)] := by simp [intsN]
/-- so many runes from the start on: their bytes -/
theorem front (s : ByteArray) (h : 0 ≤ lenS s) : ∀ k, k ≤ (runesS s).length → ∃ P f, runesS s = P ++ runesN s f (posN s k) ∧ P.length = k ∧ s.size ≤ posN s k + f ∧ posN s k ≤ s.size ∧ s.toList.take (posN s k) = encL (intsN P) := by
  intro k
  induction k with
  | zero => intro _; exact ⟨[], s.size, rfl, rfl, by omega, Nat.zero_le _, by simp [posN, encL, intsN]⟩
  | succ k ih =>
    intro hk
    obtain ⟨P, f, hP, hl, hf, hps, ht⟩ := ih (by omega)
    have hp : posN s k < s.size := by
      rcases Nat.lt_or_ge (posN s k) s.size with hp | hp
      · exact hp
      · rw [runesN_end s f _ (by omega), List.append_nil] at hP; rw [hP] at hk; omega
    obtain ⟨g, rfl, hst, hg⟩ := runesN_step s f _ hp hf
    have hgood := (lenS_pos h).1
    have hr := hgood (Utf8.decode s (posN s k)).1 (by rw [hP, hst]; simp)
    obtain ⟨e, e2⟩ := read_well s _ hp hr
    have hfit := decode_fits s _ hp hr
    have hw := enc_width e
    rw [posN_step s k hp]
    refine ⟨P ++ [(Utf8.decode s (posN s k)).1], g, by rw [hP, hst]; simp, by simp [hl], hg, hfit, ?_⟩
    rw [List.take_add, ht, bytes_list s _ _ hfit hw.1 hw.2.1, intsN_snoc, encL_snoc, encode_list _ _ _ _ _ _ e e2]
theorem take_all (s : ByteArray) (p : Nat) (h : s.size ≤ p) : s.toList.take p = s.toList := by
  apply List.take_of_length_le
  rw [ByteArray.toList_eq, Array.length_toList]; exact h
theorem encB_of {s : ByteArray} {zs : List Int} (q : Nat) (h : s.toList.take q = encL zs) : s.extract 0 q = encB zs := by
  apply ByteArray.ext
  apply Array.toList_inj.1
  rw [ByteArray.toList_eq] at h
  simp [encB, ByteArray.data_extract, ← h]
theorem posN_len (s : ByteArray) (h : 0 ≤ lenS s) : s.size ≤ posN s (runesS s).length := by
  have := posN_all s s.size 0 0 rfl (by omega)
  rw [Nat.zero_add] at this
  exact this
/-- a well made text is its runes' -/
theorem encB_runes (s : ByteArray) (h : 0 ≤ lenS s) : encB (intsN (runesS s)) = s := by
  obtain ⟨P, f, hP, hl, hf, hps, ht⟩ := front s h (runesS s).length (Nat.le_refl _)
  have hb := posN_len s h
  rw [runesN_end s f _ (by omega), List.append_nil] at hP
  rw [hP, ← encB_of _ ht, extract_all s _ (by rw [← hl, ← hP] ; rw [← hP] at hl; exact hb)]
theorem textZ_runes (s : ByteArray) (h : 0 ≤ lenS s) : textZ (intsN (runesS s)) = s := by
  rw [(textZ_good (runesS_allG h)).1, encB_runes s h]
/-- the text of some runes has these -/
theorem runes_one (r : Nat) (h : goodP (r : Int)) : runesS (encS (r : Int)) = [r] ∧ 0 ≤ lenS (encS (r : Int)) := by
  obtain ⟨g0, g1, g2, g3⟩ := h
  obtain ⟨w, b0, b1, b2, b3, e⟩ : ∃ w b0 b1 b2 b3, Enc r w b0 b1 b2 b3 := by
    by_cases h1 : r < 128
    · exact ⟨1, r, 0, 0, 0, Or.inl ⟨rfl, rfl, h1⟩⟩
    by_cases h2 : r < 2048
    · exact ⟨2, _, _, 0, 0, Or.inr (Or.inl ⟨rfl, rfl, rfl, by omega, h2⟩)⟩
    by_cases h3 : r < 65536
    · exact ⟨3, _, _, _, 0, Or.inr (Or.inr (Or.inl ⟨rfl, rfl, rfl, rfl, by omega, h3⟩))⟩
    · exact ⟨4, _, _, _, _, Or.inr (Or.inr (Or.inr ⟨rfl, rfl, rfl, rfl, rfl, by omega, by omega⟩))⟩
  have hw := enc_width e
  have hs : r < 55296 ∨ 57343 < r := by omega
  have hb : b0 < 256 ∧ (2 ≤ w → b1 < 256) ∧ (3 ≤ w → b2 < 256) ∧ (4 ≤ w → b3 < 256) := by unfold Enc at e; omega
  have hl := encode_list r w b0 b1 b2 b3 e hs
  have hsz : (encS (r : Int)).size = w := by
    show (Lib.encodeRune (r : Int)).toArray.size = w
    rw [hl]; simp; omega
  have hbt : ∀ i, i < w → byteS (encS (r : Int)) i = [b0, b1, b2, b3].getD i 0 := by
    intro i hi
    have hi4 : i = 0 ∨ i = 1 ∨ i = 2 ∨ i = 3 := by omega
    rw [← byteS_at _ i (by omega)]
    have hx : (encS (r : Int))[i]'(by omega) = UInt8.ofNat ([b0, b1, b2, b3].getD i 0) := by
      show (Lib.encodeRune (r : Int)).toArray[i]'(by have := hsz; exact (by simpa [encS, ByteArray.size] using (show i < (encS (r : Int)).size by omega))) = _
      simp only [List.getElem_toArray, hl, List.getElem_map, List.getElem_take]
      rcases hi4 with rfl | rfl | rfl | rfl <;> rfl
    rw [hx, UInt8.toNat_ofNat']
    rcases hi4 with rfl | rfl | rfl | rfl <;> simp <;> omega
  have hd : Utf8.decode (encS (r : Int)) 0 = (r, w) := by
    rw [decode_bytes]
    apply decodeN_of_enc _ _ _ _ _ _ _ _ (by omega) hs
    have t0 := hbt 0 (by omega)
    simp only [List.getD_cons_zero] at t0
    unfold Enc at e ⊢
    simp only [Nat.zero_add]
    rw [t0]
    rcases e with e | e | e | e
    · exact Or.inl e
    · have t1 := hbt 1 (by omega)
      simp at t1
      rw [t1]; exact Or.inr (Or.inl e)
    · have t1 := hbt 1 (by omega)
      have t2 := hbt 2 (by omega)
      simp at t1 t2
      rw [t1, t2]; exact Or.inr (Or.inr (Or.inl e))
    · have t1 := hbt 1 (by omega)
      have t2 := hbt 2 (by omega)
      have t3 := hbt 3 (by omega)
      simp at t1 t2 t3
      rw [t1, t2, t3]; exact Or.inr (Or.inr (Or.inr e))
  have hr : runesS (encS (r : Int)) = [r] := by
    show runesN _ _ 0 = _
    obtain ⟨g, hg, hst, _⟩ := runesN_step (encS (r : Int)) (encS (r : Int)).size 0 (by omega) (by omega)
    rw [hst, hd, runesN_end _ _ _ (by simp only; omega)]
  refine ⟨hr, ?_⟩
  rw [lenS_good (by rw [hr]; intro q hq; simp at hq; rw [hq]; omega), hr]
  simp
theorem runes_made : ∀ P : List Nat, allG (intsN P) → runesS (encB (intsN P)) = P
  | [], _ => rfl
  | r :: P, h => by
    have h1 := runes_one r (h _ (by simp [intsN]))
    have h2 := runes_made P (fun z hz => h z (by simp only [intsN, List.map_cons]; exact List.mem_cons_of_mem _ hz))
    have e : encB (intsN (r :: P)) = encS (r : Int) ++ encB (intsN P) := by
      apply ByteArray.ext
      simp [encB, encS, encL, intsN]
    rw [e, runesS_join _ _ h1.2, h1.1, h2]; rfl
theorem made_len (P : List Nat) (h : allG (intsN P)) : lenS (encB (intsN P)) = P.length := by
  have h1 := runes_made P h
  rw [lenS_good (by rw [h1]; intro q hq e; have := h (q : Int) (by simp only [intsN]; exact List.mem_map.2 ⟨q, hq, rfl⟩); unfold goodP at this; omega), h1]
/-- so many runes of a well made text -/
theorem prefix_made (s : ByteArray) (h : 0 ≤ lenS s) (n : Nat) (h1 : 1 ≤ n) : prefixS s n = encB (intsN ((runesS s).take n)) := by
  by_cases hn : n ≤ (runesS s).length
  · obtain ⟨P, f, hP, hl, hf, hps, ht⟩ := front s h n hn
    unfold prefixS
    rw [if_neg (by omega), Int.toNat_natCast, encB_of _ ht]
    congr 2
    have h2 : (runesS s).take n = P := by rw [hP, ← hl]; simp
    exact h2.symm
  · have hL := (lenS_pos h).2
    rw [prefix_past s h n (by omega) (by omega), List.take_of_length_le (by omega), encB_runes s h]
end Go.Proofs.Ytlkckdhenodhgaa
