/- The runes that a range over a string yields: plain lemmas. -/
import Derived.Laws.RangeAny
import Derived.Lib.DecodeN
import Derived.WalkKit
namespace Go.Proofs.Ythboiklcjpnhbaa
/-- the runes from a place on, at most so many -/
def runesN (s : ByteArray) : Nat → Nat → List Nat
  | 0, _ => []
  | f + 1, pos => if pos < s.size then (Utf8.decode s pos).1 :: runesN s f (pos + (Utf8.decode s pos).2) else []
/-- the runes of a text, U+FFFD where there is none -/
def runesS (s : ByteArray) : List Nat := runesN s s.size 0
theorem runesN_end (s : ByteArray) (f pos : Nat) (h : ¬ pos < s.size) : runesN s f pos = [] := by
  cases f with
  | zero => rfl
  | succ f => rw [runesN, if_neg h]
theorem decode_width (s : ByteArray) (pos : Nat) (h : pos < s.size) : 1 ≤ (Utf8.decode s pos).2 := by
  by_cases ha : (s[pos]'h).toNat < 128
  · rw [decode_ascii s pos h ha]; exact Nat.le_refl _
  · exact (decode_high s pos h (by omega)).2
theorem runesN_step (s : ByteArray) (f pos : Nat) (h : pos < s.size) (hf : s.size ≤ pos + f) : ∃ g, f = g + 1 ∧ runesN s f pos = (Utf8.decode s pos).1 :: runesN s g (pos + (Utf8.decode s pos).2) ∧ s.size ≤ pos + (Utf8.decode s pos).2 + g := by
  cases f with
  | zero => omega
  | succ g => exact ⟨g, rfl, by rw [runesN, if_pos h], by have := decode_width s pos h; omega⟩
theorem runesN_le (s : ByteArray) (f : Nat) : ∀ pos, (runesN s f pos).length ≤ f := by
  induction f with
  | zero => intro pos; exact Nat.le_refl _
  | succ f ih =>
    intro pos
    rw [runesN]
    split
    · rw [List.length_cons]; have := ih (pos + (Utf8.decode s pos).2); omega
    · exact Nat.zero_le _
theorem runesS_le (s : ByteArray) : (runesS s).length ≤ s.size := runesN_le s s.size 0
theorem runesN_lt (s : ByteArray) (f : Nat) : ∀ pos, ∀ r ∈ runesN s f pos, r ≤ 2147483647 := by
  induction f with
  | zero => intro pos r h; simp [runesN] at h
  | succ f ih =>
    intro pos r h
    rw [runesN] at h
    split at h
    · rcases List.mem_cons.1 h with rfl | h
      · exact decode_le s pos
      · exact ih _ r h
    · simp at h
/-- -1 if one of them is none -/
def lenS (s : ByteArray) : Int := if 65533 ∈ runesS s then -1 else ((runesS s).length : Int)
theorem lenS_bad {s : ByteArray} {P Q : List Nat} (h : runesS s = P ++ 65533 :: Q) : lenS s = -1 := by
  unfold lenS; rw [if_pos (by rw [h]; simp)]
theorem lenS_good {s : ByteArray} (h : ∀ r ∈ runesS s, r ≠ 65533) : lenS s = ((runesS s).length : Int) := by
  unfold lenS; rw [if_neg (fun h' => h _ h' rfl)]
theorem lenS_bd (s : ByteArray) : -1 ≤ lenS s ∧ lenS s ≤ s.size := by
  unfold lenS
  have := runesS_le s
  split <;> omega
theorem lenS_pos {s : ByteArray} (h : 0 ≤ lenS s) : (∀ r ∈ runesS s, r ≠ 65533) ∧ lenS s = ((runesS s).length : Int) := by
  by_cases hm : 65533 ∈ runesS s
  · unfold lenS at h; rw [if_pos hm] at h; omega
  · have hg : ∀ r ∈ runesS s, r ≠ 65533 := fun r hr e => hm (e ▸ hr)
    exact ⟨hg, lenS_good hg⟩
end Go.Proofs.Ythboiklcjpnhbaa
