/- The arithmetic of a checksum, on natural numbers: no program is looked at. -/
import Derived.WalkKit
namespace Go.Proofs.Ythboiklcjpnhbaa
namespace Crc
def poly : Nat := 3988292384
/-- one bit is shifted out -/
def st (r : Nat) : Nat := if r % 2 = 1 then r / 2 ^^^ poly else r / 2
def stN : Nat → Nat → Nat
  | 0, r => r
  | k + 1, r => st (stN k r)
def byteStep (r b : Nat) : Nat := stN 8 (r ^^^ b)
def reg (r : Nat) (bs : List Nat) : Nat := bs.foldl byteStep r
def add (c : Nat) (bs : List Nat) : Nat := 4294967295 - reg (4294967295 - c) bs
def sum (bs : List Nat) : Nat := add 0 bs

theorem poly_lt : poly < 4294967296 := by decide
theorem xor_lt32 {a b : Nat} (ha : a < 4294967296) (hb : b < 4294967296) : a ^^^ b < 4294967296 := Nat.xor_lt_two_pow (n := 32) ha hb
theorem st_lt {r : Nat} (h : r < 4294967296) : st r < 4294967296 := by
  unfold st; split
  · exact xor_lt32 (by omega) poly_lt
  · omega
theorem stN_lt {r : Nat} (h : r < 4294967296) (k : Nat) : stN k r < 4294967296 := by
  induction k with
  | zero => exact h
  | succ k ih => exact st_lt ih
theorem byteStep_lt {r b : Nat} (h : r < 4294967296) (hb : b < 256) : byteStep r b < 4294967296 := stN_lt (xor_lt32 h (by omega)) 8
theorem reg_lt (bs : List Nat) (hb : ∀ b ∈ bs, b < 256) : ∀ r, r < 4294967296 → reg r bs < 4294967296 := by
  induction bs with
  | nil => intro r h; exact h
  | cons b bs ih => intro r h; exact ih (fun x hx => hb x (by simp [hx])) _ (byteStep_lt h (hb b (by simp)))
theorem reg_append (r : Nat) (a b : List Nat) : reg r (a ++ b) = reg (reg r a) b := by simp [reg, List.foldl_append]
theorem add_lt (c : Nat) (bs : List Nat) : add c bs < 4294967296 := by unfold add; omega
theorem add_append (c : Nat) (a b : List Nat) (hc : c < 4294967296) (ha : ∀ x ∈ a, x < 256) : add (add c a) b = add c (a ++ b) := by
  have h := reg_lt a ha (4294967295 - c) (by omega)
  unfold add
  rw [reg_append, show 4294967295 - (4294967295 - reg (4294967295 - c) a) = reg (4294967295 - c) a by omega]
theorem sum_append (a b : List Nat) (ha : ∀ x ∈ a, x < 256) : add (sum a) b = sum (a ++ b) := add_append 0 a b (by decide) ha

theorem xor_half (a b : Nat) : (a ^^^ b) / 2 = a / 2 ^^^ b / 2 := by
  have := @Nat.shiftRight_xor_distrib 1 a b
  simpa [Nat.shiftRight_eq_div_pow] using this
theorem xor_par (a b : Nat) : (a ^^^ b) % 2 = (a % 2 + b % 2) % 2 := by
  have := @Nat.xor_mod_two_pow a b 1
  rw [show 2 ^ 1 = 2 from rfl] at this
  rw [this]
  rcases Nat.mod_two_eq_zero_or_one a with h | h <;> rcases Nat.mod_two_eq_zero_or_one b with h' | h' <;> rw [h, h'] <;> decide
/-- the other way: bit by bit, the byte's bit beside the register's -/
def rst (c bit : Nat) : Nat := if c % 2 ≠ bit then c / 2 ^^^ poly else c / 2
def rstN (c b : Nat) : Nat → Nat
  | 0 => c
  | k + 1 => rst (rstN c b k) (b / 2 ^ k % 2)
theorem rstN_eq (c b k : Nat) : rstN c b k = stN k (c ^^^ b) ^^^ (b / 2 ^ k) := by
  induction k with
  | zero => simp only [rstN, stN, Nat.pow_zero, Nat.div_one]; rw [Nat.xor_assoc, Nat.xor_self, Nat.xor_zero]
  | succ k ih =>
    simp only [rstN, stN]
    rw [ih]
    generalize stN k (c ^^^ b) = R
    have hp : b / 2 ^ (k + 1) = b / 2 ^ k / 2 := by rw [Nat.pow_succ, Nat.div_div_eq_div_mul]
    rw [hp]
    generalize b / 2 ^ k = B
    unfold rst st
    rw [xor_par, xor_half]
    rcases Nat.mod_two_eq_zero_or_one R with h | h <;> rcases Nat.mod_two_eq_zero_or_one B with h' | h' <;> rw [h, h'] <;> simp
    · rw [Nat.xor_assoc, Nat.xor_assoc, Nat.xor_comm (B / 2)]
    · rw [Nat.xor_assoc, Nat.xor_assoc, Nat.xor_comm (B / 2)]
theorem rstN_8 (c b : Nat) (hb : b < 256) : rstN c b 8 = byteStep c b := by
  rw [rstN_eq, show b / 2 ^ 8 = 0 by rw [Nat.div_eq_of_lt]; omega, Nat.xor_zero]; rfl
theorem rstN_lt {c : Nat} (h : c < 4294967296) {b : Nat} (hb : b < 256) (k : Nat) : rstN c b k < 4294967296 := by
  rw [rstN_eq]
  exact xor_lt32 (stN_lt (xor_lt32 h (by omega)) k) (Nat.lt_of_le_of_lt (Nat.div_le_self _ _) (by omega))

/-! up to four bytes that lie together are other ones -/
theorem st_xor (a b : Nat) : st (a ^^^ b) = st a ^^^ st b := by
  unfold st
  rw [xor_par, xor_half]
  rcases Nat.mod_two_eq_zero_or_one a with h | h <;> rcases Nat.mod_two_eq_zero_or_one b with h' | h' <;> rw [h, h'] <;> simp
  · rw [Nat.xor_assoc]
  · rw [Nat.xor_assoc, Nat.xor_assoc, Nat.xor_comm (b / 2)]
  · rw [← Nat.xor_assoc, Nat.xor_assoc (a / 2), Nat.xor_comm poly, ← Nat.xor_assoc (a / 2), Nat.xor_assoc (a / 2 ^^^ b / 2), Nat.xor_self, Nat.xor_zero]
theorem stN_xor (k a b : Nat) : stN k (a ^^^ b) = stN k a ^^^ stN k b := by
  induction k with
  | zero => rfl
  | succ k ih => simp only [stN]; rw [ih, st_xor]
theorem stN_add (j k r : Nat) : stN (j + k) r = stN k (stN j r) := by
  induction k with
  | zero => rfl
  | succ k ih => show st (stN (j + k) r) = st (stN k (stN j r)); rw [ih]
/-- nothing but 0 is shifted to 0 -/
theorem st_zero {r : Nat} (h : r < 4294967296) (h0 : st r = 0) : r = 0 := by
  unfold st at h0
  split at h0
  · have h1 : r / 2 = poly := by
      have h2 : (r / 2 ^^^ poly) ^^^ poly = 0 ^^^ poly := by rw [h0]
      rwa [Nat.xor_assoc, Nat.xor_self, Nat.xor_zero, Nat.zero_xor] at h2
    unfold poly at h1; omega
  · omega
theorem stN_zero (k : Nat) : ∀ {r : Nat}, r < 4294967296 → stN k r = 0 → r = 0 := by
  induction k with
  | zero => intro r _ h; exact h
  | succ k ih => intro r hr h; exact ih hr (st_zero (stN_lt hr k) h)
theorem eq_of_xor {a b : Nat} (h : a ^^^ b = 0) : a = b := by
  have h2 : (a ^^^ b) ^^^ b = 0 ^^^ b := by rw [h]
  rwa [Nat.xor_assoc, Nat.xor_self, Nat.xor_zero, Nat.zero_xor] at h2
theorem stN_inj {k a b : Nat} (ha : a < 4294967296) (hb : b < 4294967296) (h : stN k a = stN k b) : a = b :=
  eq_of_xor (stN_zero k (xor_lt32 ha hb) (by rw [stN_xor, h, Nat.xor_self]))
theorem byteStep_inj {a b c : Nat} (ha : a < 4294967296) (hb : b < 4294967296) (hc : c < 256) (h : byteStep a c = byteStep b c) : a = b := by
  have h1 := stN_inj (xor_lt32 ha (by omega)) (xor_lt32 hb (by omega)) h
  have h2 : (a ^^^ c) ^^^ c = (b ^^^ c) ^^^ c := by rw [h1]
  rwa [Nat.xor_assoc, Nat.xor_self, Nat.xor_zero, Nat.xor_assoc, Nat.xor_self, Nat.xor_zero] at h2
theorem reg_inj (bs : List Nat) (hb : ∀ b ∈ bs, b < 256) : ∀ {a c : Nat}, a < 4294967296 → c < 4294967296 → reg a bs = reg c bs → a = c := by
  induction bs with
  | nil => intro a c _ _ h; exact h
  | cons b bs ih =>
    intro a c ha hc h
    have hb1 := hb b (by simp)
    exact byteStep_inj ha hc hb1 (ih (fun x hx => hb x (by simp [hx])) (byteStep_lt ha hb1) (byteStep_lt hc hb1) h)
/-- shifting a number that ends in eight 0 bits only moves it -/
theorem st_even (r : Nat) : st (2 * r) = r := by
  unfold st; rw [if_neg (by omega)]; omega
theorem stN_pow (k r : Nat) : stN k (2 ^ k * r) = r := by
  induction k generalizing r with
  | zero => simp [stN]
  | succ k ih =>
    show st (stN k (2 ^ (k + 1) * r)) = r
    rw [show 2 ^ (k + 1) * r = 2 ^ k * (2 * r) by rw [Nat.pow_succ, Nat.mul_assoc], ih, st_even]
/-- four bytes' step is 32 shifts of the register, the bytes laid upon it -/
theorem reg4 (r b0 b1 b2 b3 : Nat) : reg r [b0, b1, b2, b3] = stN 32 (r ^^^ b0 ^^^ (2 ^ 8 * b1) ^^^ (2 ^ 16 * b2) ^^^ (2 ^ 24 * b3)) := by
  show stN 8 (stN 8 (stN 8 (stN 8 (r ^^^ b0) ^^^ b1) ^^^ b2) ^^^ b3) = _
  rw [show stN 8 (r ^^^ b0) ^^^ b1 = stN 8 (r ^^^ b0 ^^^ 2 ^ 8 * b1) by rw [stN_xor 8 (r ^^^ b0), stN_pow]]
  rw [← stN_add, show stN (8 + 8) (r ^^^ b0 ^^^ 2 ^ 8 * b1) ^^^ b2 = stN 16 (r ^^^ b0 ^^^ 2 ^ 8 * b1 ^^^ 2 ^ 16 * b2) by rw [stN_xor 16 (r ^^^ b0 ^^^ 2 ^ 8 * b1), stN_pow]]
  rw [← stN_add, show stN (16 + 8) (r ^^^ b0 ^^^ 2 ^ 8 * b1 ^^^ 2 ^ 16 * b2) ^^^ b3 = stN 24 (r ^^^ b0 ^^^ 2 ^ 8 * b1 ^^^ 2 ^ 16 * b2 ^^^ 2 ^ 24 * b3) by rw [stN_xor 24 (r ^^^ b0 ^^^ 2 ^ 8 * b1 ^^^ 2 ^ 16 * b2), stN_pow]]
  rw [← stN_add]
end Crc
end Go.Proofs.Ythboiklcjpnhbaa
