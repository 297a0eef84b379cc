/- Of bytes of which up to four that lie together are other ones the checksum is another: the arithmetic. -/
import Derived.Test.YtncblednmkmjmaaCrc
namespace Go.Proofs.Ytncblednmkmjmaa
namespace Crc
theorem four_bytes (t : Nat) (h : t < 4294967296) : (t / 2 ^ 0 % 256) ^^^ (2 ^ 8 * (t / 2 ^ 8 % 256)) ^^^ (2 ^ 16 * (t / 2 ^ 16 % 256)) ^^^ (2 ^ 24 * (t / 2 ^ 24 % 256)) = t := by
  apply Nat.eq_of_testBit_eq
  intro j
  rw [show (256 : Nat) = 2 ^ 8 from rfl]
  simp only [Nat.testBit_xor, Nat.testBit_two_pow_mul, Nat.testBit_mod_two_pow, Nat.testBit_div_two_pow]
  rcases Nat.lt_or_ge j 8 with h1 | h1
  · simp [h1, show ¬ 8 ≤ j by omega, show ¬ 16 ≤ j by omega, show ¬ 24 ≤ j by omega]
  rcases Nat.lt_or_ge j 16 with h2 | h2
  · simp [show ¬ j < 8 by omega, h1, show ¬ 16 ≤ j by omega, show ¬ 24 ≤ j by omega, show j - 8 < 8 by omega]
  rcases Nat.lt_or_ge j 24 with h3 | h3
  · simp [show ¬ j < 8 by omega, h1, h2, show ¬ 24 ≤ j by omega, show ¬ j - 8 < 8 by omega, show j - 16 < 8 by omega]
  rcases Nat.lt_or_ge j 32 with h4 | h4
  · simp [show ¬ j < 8 by omega, h1, h2, h3, show ¬ j - 8 < 8 by omega, show ¬ j - 16 < 8 by omega, show j - 24 < 8 by omega]
  · have : t.testBit j = false := Nat.testBit_lt_two_pow (Nat.lt_of_lt_of_le h (Nat.pow_le_pow_right (n := 2) (by decide) h4))
    simp [show ¬ j < 8 by omega, show ¬ j - 8 < 8 by omega, show ¬ j - 16 < 8 by omega, show ¬ j - 24 < 8 by omega, this]
theorem mul_xor (k a b : Nat) : 2 ^ k * (a ^^^ b) = 2 ^ k * a ^^^ 2 ^ k * b := by
  have := @Nat.shiftLeft_xor_distrib k a b
  simpa [Nat.shiftLeft_eq, Nat.mul_comm] using this
theorem xor_swap (R b0 b1 b2 b3 t0 t1 t2 t3 : Nat) : R ^^^ (b0 ^^^ t0) ^^^ (b1 ^^^ t1) ^^^ (b2 ^^^ t2) ^^^ (b3 ^^^ t3) = (R ^^^ b0 ^^^ b1 ^^^ b2 ^^^ b3) ^^^ (t0 ^^^ t1 ^^^ t2 ^^^ t3) := by
  apply Nat.eq_of_testBit_eq
  intro j
  simp only [Nat.testBit_xor]
  generalize R.testBit j = r; generalize b0.testBit j = x0; generalize b1.testBit j = x1; generalize b2.testBit j = x2; generalize b3.testBit j = x3
  generalize t0.testBit j = y0; generalize t1.testBit j = y1; generalize t2.testBit j = y2; generalize t3.testBit j = y3
  cases r <;> cases x0 <;> cases x1 <;> cases x2 <;> cases x3 <;> cases y0 <;> cases y1 <;> cases y2 <;> cases y3 <;> rfl
theorem xor_self_zero {a t : Nat} (h : a ^^^ t = a) : t = 0 := by
  have h2 : a ^^^ (a ^^^ t) = a ^^^ a := by rw [h]
  rwa [← Nat.xor_assoc, Nat.xor_self, Nat.zero_xor] at h2
theorem word_lt {R b0 b1 b2 b3 : Nat} (hR : R < 4294967296) (h0 : b0 < 256) (h1 : b1 < 256) (h2 : b2 < 256) (h3 : b3 < 256) : R ^^^ b0 ^^^ (2 ^ 8 * b1) ^^^ (2 ^ 16 * b2) ^^^ (2 ^ 24 * b3) < 4294967296 :=
  xor_lt32 (xor_lt32 (xor_lt32 (xor_lt32 hR (by omega)) (by omega)) (by omega)) (by omega)
theorem reg4_ne {R b0 b1 b2 b3 t : Nat} (hR : R < 4294967296) (h0 : b0 < 256) (h1 : b1 < 256) (h2 : b2 < 256) (h3 : b3 < 256) (ht : t < 4294967296) (hz : t ≠ 0) :
    reg R [b0 ^^^ (t / 2 ^ 0 % 256), b1 ^^^ (t / 2 ^ 8 % 256), b2 ^^^ (t / 2 ^ 16 % 256), b3 ^^^ (t / 2 ^ 24 % 256)] ≠ reg R [b0, b1, b2, b3] := by
  intro e
  rw [reg4, reg4] at e
  have hx : ∀ {a b : Nat}, a < 256 → b < 256 → a ^^^ b < 256 := fun {a b} ha hb => Nat.xor_lt_two_pow (n := 8) ha hb
  have hm : ∀ x : Nat, x % 256 < 256 := fun x => Nat.mod_lt _ (by decide)
  have e2 := stN_inj (word_lt hR (hx h0 (hm _)) (hx h1 (hm _)) (hx h2 (hm _)) (hx h3 (hm _))) (word_lt hR h0 h1 h2 h3) e
  rw [mul_xor, mul_xor, mul_xor, xor_swap, four_bytes t ht] at e2
  exact hz (xor_self_zero e2)
theorem sum_ne {P S : List Nat} {b0 b1 b2 b3 t : Nat} (hP : ∀ b ∈ P, b < 256) (hS : ∀ b ∈ S, b < 256) (h0 : b0 < 256) (h1 : b1 < 256) (h2 : b2 < 256) (h3 : b3 < 256) (ht : t < 4294967296) (hz : t ≠ 0) :
    sum (P ++ [b0 ^^^ (t / 2 ^ 0 % 256), b1 ^^^ (t / 2 ^ 8 % 256), b2 ^^^ (t / 2 ^ 16 % 256), b3 ^^^ (t / 2 ^ 24 % 256)] ++ S) ≠ sum (P ++ [b0, b1, b2, b3] ++ S) := by
  intro e
  have hx : ∀ {a b : Nat}, a < 256 → b < 256 → a ^^^ b < 256 := fun {a b} ha hb => Nat.xor_lt_two_pow (n := 8) ha hb
  have hm : ∀ x : Nat, x % 256 < 256 := fun x => Nat.mod_lt _ (by decide)
  have hR := reg_lt P hP (4294967295 - 0) (by decide)
  unfold sum add at e
  rw [reg_append, reg_append, reg_append, reg_append] at e
  have hA : reg (reg (4294967295 - 0) P) [b0 ^^^ (t / 2 ^ 0 % 256), b1 ^^^ (t / 2 ^ 8 % 256), b2 ^^^ (t / 2 ^ 16 % 256), b3 ^^^ (t / 2 ^ 24 % 256)] < 4294967296 :=
    reg_lt _ (by intro b hb; simp only [List.mem_cons, List.not_mem_nil, or_false] at hb; rcases hb with rfl | rfl | rfl | rfl <;> exact hx (by assumption) (hm _)) _ hR
  have hB : reg (reg (4294967295 - 0) P) [b0, b1, b2, b3] < 4294967296 := reg_lt _ (by intro b hb; simp only [List.mem_cons, List.not_mem_nil, or_false] at hb; rcases hb with rfl | rfl | rfl | rfl <;> assumption) _ hR
  have hA2 := reg_lt S hS _ hA
  have hB2 := reg_lt S hS _ hB
  exact reg4_ne hR h0 h1 h2 h3 ht hz (reg_inj S hS hA hB (by omega))

/-- the first i of four bytes from k on turned -/
def turn (bs : List Nat) (k t : Nat) : Nat → List Nat
  | 0 => bs
  | i + 1 => (turn bs k t i).set (k + i) ((turn bs k t i).getD (k + i) 0 ^^^ (t / 2 ^ (8 * i) % 256))
theorem turn_length (bs : List Nat) (k t i : Nat) : (turn bs k t i).length = bs.length := by
  induction i with
  | zero => rfl
  | succ i ih => simp [turn, ih]
theorem turn_lt (bs : List Nat) (k t i : Nat) (h : ∀ b ∈ bs, b < 256) : ∀ b ∈ turn bs k t i, b < 256 := by
  induction i with
  | zero => exact h
  | succ i ih =>
    intro b hb
    simp only [turn] at hb
    rcases List.mem_or_eq_of_mem_set hb with hb | rfl
    · exact ih b hb
    · refine Nat.xor_lt_two_pow (n := 8) ?_ (Nat.mod_lt _ (by decide))
      rw [List.getD_eq_getElem?_getD]
      cases e : (turn bs k t i)[k + i]? with
      | none => simp
      | some x => exact ih x (List.mem_of_getElem? e)
theorem split4 (bs : List Nat) (k : Nat) (h : k + 4 ≤ bs.length) : ∃ P b0 b1 b2 b3 S, bs = P ++ [b0, b1, b2, b3] ++ S ∧ P.length = k := by
  refine ⟨bs.take k, bs[k], bs[k + 1], bs[k + 2], bs[k + 3], bs.drop (k + 4), ?_, by simp; omega⟩
  have e : bs = bs.take k ++ bs.drop k := (List.take_append_drop k bs).symm
  have d0 := List.drop_eq_getElem_cons (l := bs) (i := k) (by omega)
  have d1 := List.drop_eq_getElem_cons (l := bs) (i := k + 1) (by omega)
  have d2 := List.drop_eq_getElem_cons (l := bs) (i := k + 2) (by omega)
  have d3 := List.drop_eq_getElem_cons (l := bs) (i := k + 3) (by omega)
  rw [d1, d2, d3] at d0
  conv => lhs; rw [e, d0]
  simp
theorem turn_split (P S : List Nat) (b0 b1 b2 b3 t : Nat) : turn (P ++ [b0, b1, b2, b3] ++ S) P.length t 4 = P ++ [b0 ^^^ (t / 2 ^ 0 % 256), b1 ^^^ (t / 2 ^ 8 % 256), b2 ^^^ (t / 2 ^ 16 % 256), b3 ^^^ (t / 2 ^ 24 % 256)] ++ S := by
  simp [turn, List.getD_eq_getElem?_getD]
theorem turn_ne (bs : List Nat) (k t : Nat) (hb : ∀ b ∈ bs, b < 256) (hk : k + 4 ≤ bs.length) (ht : t < 4294967296) (hz : t ≠ 0) : sum (turn bs k t 4) ≠ sum bs := by
  obtain ⟨P, b0, b1, b2, b3, S, rfl, rfl⟩ := split4 bs k hk
  rw [turn_split]
  exact sum_ne (fun b h => hb b (by simp [h])) (fun b h => hb b (by simp [h])) (hb b0 (by simp)) (hb b1 (by simp)) (hb b2 (by simp)) (hb b3 (by simp)) ht hz
end Crc
end Go.Proofs.Ytncblednmkmjmaa
