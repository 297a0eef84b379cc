/- The arithmetic of numbers laid as bytes: no program is looked at. -/
import Derived.WalkKit
import Derived.Laws.BitsAllLaws
namespace Go.Proofs.Ythboiklcjpnhbaa
namespace Cod
/-- the size lowest bytes of v, the most significant one first -/
def bytesOf (v : Nat) : Nat → List Nat
  | 0 => []
  | s + 1 => v / 256 ^ s % 256 :: bytesOf v s
theorem bytesOf_length (v s : Nat) : (bytesOf v s).length = s := by induction s with | zero => rfl | succ s ih => simp [bytesOf, ih]
theorem bytesOf_lt (v s : Nat) : ∀ b ∈ bytesOf v s, b < 256 := by
  induction s with
  | zero => simp [bytesOf]
  | succ s ih => intro b hb; simp only [bytesOf, List.mem_cons] at hb; rcases hb with rfl | hb; exact Nat.mod_lt _ (by decide); exact ih b hb
theorem bytesOf_take (v s k : Nat) (h : k < s) : (bytesOf v s).take (k + 1) = (bytesOf v s).take k ++ [v / 256 ^ (s - 1 - k) % 256] := by
  induction s generalizing k with
  | zero => omega
  | succ s ih =>
    cases k with
    | zero => simp [bytesOf]
    | succ k =>
      simp only [bytesOf, List.take_succ_cons, List.cons_append]
      rw [ih k (by omega), show s + 1 - 1 - (k + 1) = s - 1 - k by omega]
/-- the number of bytes -/
def numOf (bs : List Nat) : Nat := bs.foldl (fun v b => v * 256 + b) 0
theorem numOf_snoc (bs : List Nat) (b : Nat) : numOf (bs ++ [b]) = numOf bs * 256 + b := by simp [numOf]
theorem numOf_lt (bs : List Nat) (h : ∀ b ∈ bs, b < 256) : numOf bs < 256 ^ bs.length := by
  have key : ∀ (bs : List Nat) (a : Nat), (∀ b ∈ bs, b < 256) → bs.foldl (fun v b => v * 256 + b) a + 1 ≤ (a + 1) * 256 ^ bs.length := by
    intro bs
    induction bs with
    | nil => intro a _; simp
    | cons b bs ih =>
      intro a hb
      have h1 := ih (a * 256 + b) fun x hx => hb x (by simp [hx])
      have h2 := hb b (by simp)
      rw [List.foldl_cons, List.length_cons, Nat.pow_succ]
      refine Nat.le_trans h1 ?_
      rw [Nat.mul_comm (256 ^ bs.length) 256, ← Nat.mul_assoc]
      exact Nat.mul_le_mul_right _ (by omega)
  have := key bs 0 h
  simp only [Nat.zero_add, Nat.one_mul] at this
  exact this
theorem numOf_bytesOf (v s : Nat) : numOf (bytesOf v s) = v % 256 ^ s := by
  have key : ∀ (s a : Nat), (bytesOf v s).foldl (fun v b => v * 256 + b) a = a * 256 ^ s + v % 256 ^ s := by
    intro s
    induction s with
    | zero => intro a; simp [bytesOf, Nat.mod_one]
    | succ s ih =>
      intro a
      simp only [bytesOf, List.foldl_cons]
      rw [ih]
      have h1 : v % 256 ^ (s + 1) = v % 256 ^ s + 256 ^ s * (v / 256 ^ s % 256) := Nat.mod_pow_succ
      rw [h1, Nat.pow_succ]
      generalize v / 256 ^ s % 256 = q
      generalize v % 256 ^ s = r
      generalize 256 ^ s = p
      rw [Nat.add_mul, Nat.mul_assoc, Nat.mul_comm 256 p, Nat.mul_comm q p]
      omega
  have := key s 0
  simpa [numOf] using this
end Cod
end Go.Proofs.Ythboiklcjpnhbaa
