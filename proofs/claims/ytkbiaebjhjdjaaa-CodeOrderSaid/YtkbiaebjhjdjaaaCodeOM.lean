/- Numbers of one size are in order as their bytes are: plain lemmas. -/
import Derived.Test.YtkbiaebjhjdjaaaCd6
import Derived.Sort.Walk0
namespace Go.Proofs.Ytkbiaebjhjdjaaa
open Go.RowKit
set_option linter.unusedVariables false
theorem ofNat_lt {a b : Nat} (ha : a < 256) (hb : b < 256) : (UInt8.ofNat a < UInt8.ofNat b) ↔ a < b := by
  rw [UInt8.lt_iff_toNat_lt, UInt8.toNat_ofNat_of_lt' ha, UInt8.toNat_ofNat_of_lt' hb]
theorem ofNat_eq {a b : Nat} (ha : a < 256) (hb : b < 256) : (UInt8.ofNat a = UInt8.ofNat b) ↔ a = b := by
  rw [← UInt8.toNat_inj, UInt8.toNat_ofNat_of_lt' ha, UInt8.toNat_ofNat_of_lt' hb]
theorem digit_lt (p a b r q : Nat) (hr : r < p) (hq : q < p) : (r + p * a < q + p * b) ↔ (a < b ∨ (a = b ∧ r < q)) := by
  rcases Nat.lt_trichotomy a b with h | h | h
  · have := Nat.mul_le_mul_left p (show a + 1 ≤ b by omega)
    rw [Nat.mul_add, Nat.mul_one] at this
    constructor
    · intro _; exact Or.inl h
    · intro _; omega
  · subst h
    constructor
    · intro h; exact Or.inr ⟨rfl, by omega⟩
    · rintro (h | ⟨_, h⟩) <;> omega
  · have := Nat.mul_le_mul_left p (show b + 1 ≤ a by omega)
    rw [Nat.mul_add, Nat.mul_one] at this
    constructor
    · intro _; omega
    · rintro (h' | ⟨h', _⟩) <;> omega
def u8s (bs : List Nat) : List UInt8 := bs.map UInt8.ofNat
theorem strN_toList (bs : List Nat) : (strN bs).toList = u8s bs := by
  rw [Lib.toList_data, strN, strOfNums_data, List.map_map]; rfl
theorem less_bytes (u v z : Nat) : Op.bytesLess (u8s (Cod.bytesOf u z)) (u8s (Cod.bytesOf v z)) = decide (u % 256 ^ z < v % 256 ^ z) := by
  induction z with
  | zero => simp [Cod.bytesOf, u8s, Op.bytesLess, Nat.mod_one]
  | succ s ih =>
    have h1 : ∀ w : Nat, w % 256 ^ (s + 1) = w % 256 ^ s + 256 ^ s * (w / 256 ^ s % 256) := fun w => Nat.mod_pow_succ
    have hp : 0 < 256 ^ s := Nat.pos_of_ne_zero (by simp)
    have hm : ∀ w : Nat, w / 256 ^ s % 256 < 256 := fun w => Nat.mod_lt _ (by decide)
    show (decide (UInt8.ofNat (u / 256 ^ s % 256) < UInt8.ofNat (v / 256 ^ s % 256)) || (UInt8.ofNat (u / 256 ^ s % 256) == UInt8.ofNat (v / 256 ^ s % 256) && Op.bytesLess (u8s (Cod.bytesOf u s)) (u8s (Cod.bytesOf v s)))) = _
    rw [ih, h1 u, h1 v, Bool.eq_iff_iff]
    simp only [Bool.or_eq_true, decide_eq_true_eq, Bool.and_eq_true, beq_iff_eq]
    rw [digit_lt _ _ _ _ _ (Nat.mod_lt _ hp) (Nat.mod_lt _ hp), ofNat_lt (hm u) (hm v), ofNat_eq (hm u) (hm v)]
theorem eq_bytes (u v z : Nat) (hu : u < 256 ^ z) (hv : v < 256 ^ z) : (u8s (Cod.bytesOf u z) == u8s (Cod.bytesOf v z)) = decide (u = v) := by
  rw [Bool.eq_iff_iff, beq_iff_eq, decide_eq_true_eq]
  constructor
  · intro h
    have h2 : ∀ w, (u8s (Cod.bytesOf w z)).map UInt8.toNat = Cod.bytesOf w z := by
      intro w
      rw [u8s, List.map_map]
      conv => rhs; rw [← List.map_id (Cod.bytesOf w z)]
      refine List.map_congr_left fun b hb => ?_
      exact UInt8.toNat_ofNat_of_lt' (Cod.bytesOf_lt w z b hb)
    have h3 := congrArg (List.map UInt8.toNat) h
    rw [h2, h2] at h3
    have h4 := congrArg Cod.numOf h3
    rw [Cod.numOf_bytesOf, Cod.numOf_bytesOf, Nat.mod_eq_of_lt hu, Nat.mod_eq_of_lt hv] at h4
    exact h4
  · rintro rfl; rfl
end Go.Proofs.Ytkbiaebjhjdjaaa
