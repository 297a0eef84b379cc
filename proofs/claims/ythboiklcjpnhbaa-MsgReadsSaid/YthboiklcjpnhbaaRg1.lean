/- contracts of the document's reading of runes: more, one, Good -/
import Derived.Test.YthboiklcjpnhbaaTxV
import Derived.Lib.DecodeN
namespace Go.Proofs.Ythboiklcjpnhbaa
open Go.RowKit
set_option linter.unusedVariables false
set_option maxRecDepth 20000
def byteS (s : ByteArray) (i : Nat) : Nat := (s.get! i).toNat
theorem byteS_lt (s : ByteArray) (i : Nat) : byteS s i < 256 := UInt8.toNat_lt _
theorem byteS_at (s : ByteArray) (i : Nat) (h : i < s.size) : (s[i]'h).toNat = byteS s i := by
  unfold byteS
  obtain ⟨d⟩ := s
  have h' : i < d.size := h
  simp [ByteArray.get!, h', getElem!_pos]
  rfl
def moreP (s : ByteArray) (i : Nat) : Prop := i < s.size ∧ 128 ≤ byteS s i ∧ byteS s i ≤ 191
instance (s : ByteArray) (i : Nat) : Decidable (moreP s i) := by unfold moreP; infer_instance
def moreV (s : ByteArray) (i : Nat) : Int := if moreP s i then (byteS s i : Int) - 128 else 0
theorem more_any (s : ByteArray) (i : Nat) (w : World) (hs : s.size ≤ 1048576) (hi : i ≤ 1048580) :
    Calls Try.prog 112 #[.string s, .int .i64 i] w fun e w' => e = .returned (.tuple #[.int .i32 (moreV s i), .bool (decide (moreP s i))]) ∧ w = w' := by
  have hb := byteS_lt s i
  by_cases hP : moreP s i
  · unfold moreV
    rw [if_pos hP, decide_eq_true hP]
    obtain ⟨h1, h2, h3⟩ := hP
    have hx := byteS_at s i h1
    obtain ⟨x, hx2⟩ : ∃ x, byteS s i = x := ⟨_, rfl⟩
    rw [hx2] at hx h2 h3 hb ⊢
    clear hx2
    go_enter Try.func112, Try.ntmps112
    go_wp2
    go_ret2
    exact ⟨rfl, rfl⟩
  · unfold moreV
    rw [if_neg hP, decide_eq_false hP]
    by_cases h1 : i < s.size
    · have h2 : byteS s i < 128 ∨ (128 ≤ byteS s i ∧ 191 < byteS s i) := by unfold moreP at hP; omega
      have hx := byteS_at s i h1
      obtain ⟨x, hx2⟩ : ∃ x, byteS s i = x := ⟨_, rfl⟩
      rw [hx2] at hx h2 hb
      clear hx2 hP
      rcases h2 with h2 | ⟨h2, h3⟩
      all_goals
        go_enter Try.func112, Try.ntmps112
        go_wp2
        go_ret2
        exact ⟨rfl, rfl⟩
    · clear hP
      go_enter Try.func112, Try.ntmps112
      go_wp2
      go_ret2
      exact ⟨rfl, rfl⟩
def goodP (r : Int) : Prop := 0 ≤ r ∧ r ≤ 1114111 ∧ (r < 55296 ∨ 57343 < r) ∧ r ≠ 65533
instance (r : Int) : Decidable (goodP r) := by unfold goodP; infer_instance
theorem good_any (r : Int) (w : World) : Calls Try.prog 109 #[.int .i32 r] w fun e w' => e = .returned (.bool (decide (goodP r))) ∧ w = w' := by
  have hc : r < 0 ∨ (0 ≤ r ∧ 1114111 < r) ∨ (0 ≤ r ∧ r ≤ 1114111 ∧ 55296 ≤ r ∧ r ≤ 57343) ∨ (0 ≤ r ∧ r ≤ 1114111 ∧ r < 55296) ∨ (0 ≤ r ∧ r ≤ 1114111 ∧ 55296 ≤ r ∧ 57343 < r) := by omega
  rcases hc with h | ⟨h, h2⟩ | ⟨h, h2, h3, h4⟩ | ⟨h, h2, h3⟩ | ⟨h, h2, h3, h4⟩
  · rw [decide_eq_false (by unfold goodP; omega)]
    go_enter Try.func109, Try.ntmps109
    go_wp2
    go_ret
    exact ⟨rfl, rfl⟩
  · rw [decide_eq_false (by unfold goodP; omega)]
    go_enter Try.func109, Try.ntmps109
    go_wp2
    go_ret
    exact ⟨rfl, rfl⟩
  · rw [decide_eq_false (by unfold goodP; omega)]
    go_enter Try.func109, Try.ntmps109
    go_wp2
    go_ret
    exact ⟨rfl, rfl⟩
  · rw [show decide (goodP r) = (r != 65533) by rw [Bool.eq_iff_iff]; simp only [decide_eq_true_eq, bne_iff_ne]; unfold goodP; omega]
    go_enter Try.func109, Try.ntmps109
    go_wp2
    go_ret
    exact ⟨rfl, rfl⟩
  · rw [show decide (goodP r) = (r != 65533) by rw [Bool.eq_iff_iff]; simp only [decide_eq_true_eq, bne_iff_ne]; unfold goodP; omega]
    go_enter Try.func109, Try.ntmps109
    go_wp2
    go_ret
    exact ⟨rfl, rfl⟩
end Go.Proofs.Ythboiklcjpnhbaa
