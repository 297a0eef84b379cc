/- contracts of backoff -/
import Derived.Test.YtncblednmkmjmaaChecked
import Derived.WalkKit
import Derived.WalkLawsBesides
import Derived.Outline
import Derived.Lib.Hide
import Derived.Deep.QuietTactic
import Derived.BigQuiet
import Derived.Lib.SmallJoins
namespace Go.Proofs.Ytncblednmkmjmaa
open Go.RowKit

theorem ret_int {k : IntKind} {a b : Int} (h : a = b) : Ending.returned (.int k a) = .returned (.int k b) := by rw [h]
theorem ret_bool {a b : Bool} (h : a = b) : Ending.returned (.bool a) = .returned (.bool b) := by rw [h]

/-- from 0 to most -/
def clip (n m : Int) : Int := min (max n 0) m
theorem clip_bd (n m : Int) (h : 0 ≤ m) : 0 ≤ clip n m ∧ clip n m ≤ m := by unfold clip; omega

theorem clamp_any (n m : Int) (w : World) :
    Calls Try.prog 27 #[.int .i64 n, .int .i64 m] w fun e w' => e = .returned (.int .i64 (clip n m)) ∧ w = w' := by
  go_enter Try.func27, Try.ntmps27
  go_wp2
  all_goals (go_ret; exact ⟨ret_int (by unfold clip; omega), rfl⟩)
theorem ticks_any (n : Int) (w : World) :
    Calls Try.prog 26 #[.int .i64 n] w fun e w' => e = .returned (.int .i64 (clip n 1000)) ∧ w = w' := by
  go_enter Try.func26, Try.ntmps26
  go_wp2_with (go_at_call 27; refine (clamp_any _ _ _).mono ?_; rintro e w' ⟨rfl, rfl⟩)
  go_ret
  exact ⟨rfl, rfl⟩
theorem rclip_any (n m : Int) (w : World) :
    Calls Try.prog 28 #[.int .i64 n, .int .i64 m] w fun e w' => e = .returned (.int .i64 (clip n m)) ∧ w = w' := by
  go_enter Try.func28, Try.ntmps28
  go_wp2
  all_goals (go_ret; exact ⟨ret_int (by unfold clip; omega), rfl⟩)
def tryAfter (n : Int) : Int := min (clip n 6 + 1) 6
theorem try_any (n : Int) (w : World) :
    Calls Try.prog 19 #[.int .i64 n] w fun e w' => e = .returned (.int .i64 (tryAfter n)) ∧ w = w' := by
  have hb := clip_bd n 6 (by decide)
  go_enter Try.func19, Try.ntmps19
  go_wp2_with (go_at_call 27; refine (clamp_any _ _ _).mono ?_; rintro e w' ⟨rfl, rfl⟩)
  all_goals (go_ret; exact ⟨ret_int (by unfold tryAfter; omega), rfl⟩)
theorem rtry_any (n : Int) (w : World) :
    Calls Try.prog 20 #[.int .i64 n] w fun e w' => e = .returned (.int .i64 (tryAfter n)) ∧ w = w' := by
  have hb := clip_bd n 6 (by decide)
  go_enter Try.func20, Try.ntmps20
  go_wp2_with (go_at_call 28; refine (rclip_any _ _ _).mono ?_; rintro e w' ⟨rfl, rfl⟩)
  all_goals (go_ret; exact ⟨ret_int (by unfold tryAfter; omega), rfl⟩)

/-- the first so many of a wait's doublings -/
def dbl (f : Int) : Nat → Int
  | 0 => f
  | k + 1 => dbl f k * 2
theorem dbl_bd (f : Int) (h0 : 0 ≤ f) (h1 : f ≤ 1000) (k : Nat) (hk : k ≤ 6) : 0 ≤ dbl f k ∧ dbl f k ≤ 64000 := by
  match k, hk with
  | 0, _ => simp [dbl]; omega
  | 1, _ => simp [dbl]; omega
  | 2, _ => simp [dbl]; omega
  | 3, _ => simp [dbl]; omega
  | 4, _ => simp [dbl]; omega
  | 5, _ => simp [dbl]; omega
  | 6, _ => simp [dbl]; omega

theorem u64_bd (d : Int) : 0 ≤ IntKind.u64.wrap d ∧ IntKind.u64.wrap d < 18446744073709551616 := by
  simp only [IntKind.wrap, IntKind.signed, IntKind.bits]; simp; omega
theorem tmod_of (a m : Int) (h : 0 ≤ a) : a.tmod m = a % m := Int.tmod_eq_emod_of_nonneg h
theorem wait_sum (x a m : Int) (hx : 0 ≤ x) (hx2 : x ≤ 1000) (ha : 0 ≤ a) (hm : 1 ≤ m) (hm2 : m ≤ 1001) : wrap64 (x + wrap64 (a.tmod m)) = x + a % m := by
  rw [tmod_of a m ha]
  have h1 := Int.emod_nonneg a (show m ≠ 0 by omega)
  have h2 := Int.emod_lt_of_pos a (show 0 < m by omega)
  rw [IntWalk.wrap64_in (a % m) ⟨by omega, by omega⟩, IntWalk.wrap64_in _ ⟨by omega, by omega⟩]
/-- how long a try waits -/
def waitV (f c j t d : Int) : Int := min (dbl (clip f 1000) (clip t 6).toNat) (clip c 1000) + (IntKind.u64.wrap d) % (clip j 1000 + 1)
set_option maxHeartbeats 400000 in
theorem wait_any (c0 c1 c2 c3 c4 c5 c6 c7 c11 : Value) (f c j t d : Int) (w : World) :
    Calls Try.prog 17 #[.agg #[c0, c1, c2, c3, c4, c5, c6, c7, .int .i64 f, .int .i64 c, .int .i64 j, c11], .int .i64 t, .int .i64 d] w fun e w' => e = .returned (.int .i64 (waitV f c j t d)) ∧ Below w.heap.size w w' := by
  have hb := clip_bd t 6 (by decide)
  have hf := clip_bd f 1000 (by decide)
  have hj := clip_bd j 1000 (by decide)
  have hc := clip_bd c 1000 (by decide)
  go_enter Try.func17, Try.ntmps17
  go_wp2_with (first | (go_at_call 27; refine (clamp_any _ _ _).mono ?_; rintro e w' ⟨rfl, rfl⟩) | (go_at_call 26; refine (ticks_any _ _).mono ?_; rintro e w' ⟨rfl, rfl⟩))
  go_loop [7, 14] (fun v i => ∃ k : Nat, (k : Int) ≤ clip t 6 ∧ i = .int .i64 k ∧ v = .int .i64 (dbl (clip f 1000) k)) (fun _ i => 10 - (intOf i).toNat)
  case atStart => exact ⟨0, by omega, rfl, rfl⟩
  case round =>
    obtain ⟨k, hk, rfl, rfl⟩ := hrel
    have hd := dbl_bd (clip f 1000) hf.1 hf.2 k (by omega)
    by_cases hlt : (k : Int) < clip t 6
    · go_wp2
      go_round
      case rel => exact ⟨k + 1, by omega, by go_num, rfl⟩
      case measure => simp [intOf]; omega
    · have hkt : k = (clip t 6).toNat := by omega
      have HK := Lib.hid hkt
      clear hkt
      go_wp2_with (first | (go_at_call 27; refine (clamp_any _ _ _).mono ?_; rintro e w' ⟨rfl, rfl⟩) | (go_at_call 26; refine (ticks_any _ _).mono ?_; rintro e w' ⟨rfl, rfl⟩))
      all_goals
        go_ret
        refine ⟨ret_int ?_, (Below.refl _ _).alloc (Nat.le_refl _) _⟩
        unfold waitV
        rw [wait_sum _ _ _ (by omega) (by omega) (u64_bd d).1 (by omega) (by omega), ← HK.out]
        congr 1; omega
set_option maxHeartbeats 400000 in
theorem rwait_any (c0 c1 c2 c3 c4 c5 c6 c7 c11 : Value) (f c j t d : Int) (w : World) :
    Calls Try.prog 18 #[.agg #[c0, c1, c2, c3, c4, c5, c6, c7, .int .i64 f, .int .i64 c, .int .i64 j, c11], .int .i64 t, .int .i64 d] w fun e w' => e = .returned (.int .i64 (waitV f c j t d)) ∧ Below w.heap.size w w' := by
  have hb := clip_bd t 6 (by decide)
  have hf := clip_bd f 1000 (by decide)
  have hj := clip_bd j 1000 (by decide)
  have hc := clip_bd c 1000 (by decide)
  go_enter Try.func18, Try.ntmps18
  go_wp2_with (first | (go_at_call 28; refine (rclip_any _ _ _).mono ?_; rintro e w' ⟨rfl, rfl⟩))
  go_loop [7, 8] (fun v i => ∃ k : Nat, (k : Int) ≤ clip t 6 ∧ i = .int .i64 k ∧ v = .int .i64 (dbl (clip f 1000) k)) (fun _ i => 10 - (intOf i).toNat)
  case atStart => exact ⟨0, by omega, rfl, rfl⟩
  case round =>
    obtain ⟨k, hk, rfl, rfl⟩ := hrel
    have hd := dbl_bd (clip f 1000) hf.1 hf.2 k (by omega)
    by_cases hlt : (k : Int) < clip t 6
    · go_wp2_with (first | (go_at_call 28; refine (rclip_any _ _ _).mono ?_; rintro e w' ⟨rfl, rfl⟩))
      go_round
      case rel => exact ⟨k + 1, by omega, by go_num, by simp only [dbl, Int.mul_comm]⟩
      case measure => simp [intOf]; omega
    · have hkt : k = (clip t 6).toNat := by omega
      have HK := Lib.hid hkt
      clear hkt
      go_wp2_with (first | (go_at_call 28; refine (rclip_any _ _ _).mono ?_; rintro e w' ⟨rfl, rfl⟩))
      go_quiet ((go_at_call 28; exact Calls.quiet_of_same ((rclip_any _ _ _).mono (fun _ _ h => ⟨h.1, h.2.symm⟩))))
      go_wp2
      all_goals
        go_ret
        refine ⟨ret_int ?_, Joins.below_le (((Below.refl _ _).alloc (Nat.le_refl _) _).trans (Joins.below_draws _ _ _)) (Nat.le_refl _)⟩
        unfold waitV
        rw [wait_sum _ _ _ (by omega) (by omega) (u64_bd d).1 (by omega) (by omega), ← HK.out]
        congr 1; omega
end Go.Proofs.Ytncblednmkmjmaa
