/- contracts of part.Lens, Least, Slice -/
import Derived.Test.YtnbfdoneknidhaaKp4
namespace Go.Proofs.Ytnbfdoneknidhaa
open Go.RowKit
set_option linter.unusedVariables false
theorem not_empty {x : Tx} (h : x ≠ ByteArray.empty) : x.toList.isEmpty = false := by
  rw [List.isEmpty_eq_false_iff]
  intro h2
  exact h (toList_inj (h2.trans (by rw [ByteArray.toList_eq]; rfl)))
def loK (ks : List KV) (s : Nat) : Int := if 0 < s then (ks.getD (s - 1) k0).1 else 1
def hiK (ks : List KV) (s : Nat) : Int := if s < ks.length then (if (ks.getD s k0).2 = ByteArray.empty then (ks.getD s k0).1 - 1 else (ks.getD s k0).1) else 12
theorem lens_any (a : Option Addr) (n cap : Nat) (ks : List KV) (s : Nat) (w : World) (hh : HoldsK w a n ks) (hn : n ≤ 1048576) (hm : ∀ k ∈ ks, mayK k) (hs : s ≤ n) :
    Calls Try.prog 20 #[.slice a n cap, .int .i64 s] w fun e w' => e = .returned (.tuple #[.int .i64 (loK ks s), .int .i64 (hiK ks s)]) ∧ w = w' := by
  have hl := hh.len
  have g0 : decide (((s : Nat) : Int) < 0) = false := by rw [decide_eq_false_iff_not]; omega
  have g1 : decide (((s : Nat) : Int) > (n : Int)) = false := by rw [decide_eq_false_iff_not]; omega
  obtain ⟨lo, hlo⟩ : ∃ lo, loK ks s = lo := ⟨_, rfl⟩
  obtain ⟨hi, hhi⟩ : ∃ hi, hiK ks s = hi := ⟨_, rfl⟩
  rw [hlo, hhi]
  have key : ∀ i, i < n → 1 ≤ (ks.getD i k0).1 ∧ (ks.getD i k0).1 ≤ 12 := fun i hi => by
    have := hm _ (getD_memK ks i (by omega)); unfold mayK at this; exact ⟨this.1, this.2.1⟩
  rcases Nat.eq_zero_or_pos s with h0 | h0
  · subst h0
    have hlo1 : lo = 1 := by rw [← hlo]; rfl
    subst hlo1
    by_cases hlt : 0 < n
    · obtain ⟨b, o, rfl, hc⟩ := hh.at hlt
      obtain ⟨e1, e2⟩ := hc 0 hlt
      have hk := key 0 hlt
      unfold hiK at hhi
      rw [if_pos (by omega)] at hhi
      obtain ⟨x, hx⟩ : ∃ x, ks.getD 0 k0 = x := ⟨_, rfl⟩
      rw [hx] at e1 e2 hhi hk
      obtain ⟨x1, x2⟩ := x
      simp only [Nat.zero_mul, Nat.add_zero] at e1 e2 hhi hk
      clear hx hc key hm hlo
      by_cases ht : x2 = ByteArray.empty
      · subst ht
        have hq : ((ByteArray.empty).toList == ({ data := #[] } : ByteArray).toList) = true := str_same _
        rw [if_pos rfl] at hhi
        have hw2 : IntKind.i64.wrap (x1 - 1) = hi := by rw [IntWalk.i64_in _ (by omega)]; exact hhi
        go_enter Try.func20, Try.ntmps20
        go_wp2_with fail
        go_ret2
        exact ⟨by first | rfl | (rw [← hhi]), rfl⟩
      · have hq := not_empty ht
        rw [if_neg ht] at hhi
        subst hhi
        go_enter Try.func20, Try.ntmps20
        go_wp2_with fail
        go_ret2
        exact ⟨rfl, rfl⟩
    · obtain rfl : n = 0 := by omega
      have hhi1 : hi = 12 := by rw [← hhi]; unfold hiK; rw [if_neg (by omega)]
      subst hhi1
      clear hhi hlo
      go_enter Try.func20, Try.ntmps20
      go_wp2_with fail
      go_ret2
      exact ⟨rfl, rfl⟩
  · obtain ⟨b, o, rfl, hc⟩ := hh.at (by omega)
    obtain ⟨q, hq⟩ : ∃ q, q = s - 1 := ⟨_, rfl⟩
    obtain ⟨e1, e2⟩ := hc q (by omega)
    unfold loK at hlo
    rw [if_pos h0, ← hq] at hlo
    rw [hlo] at e1
    have hr : IntKind.i64.wrap ((s : Int) - 1) = (q : Int) := by rw [IntWalk.i64_in _ (by omega)]; omega
    have g3 : (0 : Int) ≤ (q : Int) := by omega
    have g4 : (q : Int) < (n : Int) := by omega
    have g5 : decide (((s : Nat) : Int) > 0) = true := by rw [decide_eq_true_iff]; omega
    by_cases hlt : s < n
    · obtain ⟨e3, e4⟩ := hc s hlt
      have hk := key s hlt
      unfold hiK at hhi
      rw [if_pos (by omega)] at hhi
      obtain ⟨x, hx⟩ : ∃ x, ks.getD s k0 = x := ⟨_, rfl⟩
      rw [hx] at e3 e4 hhi hk
      obtain ⟨x1, x2⟩ := x
      simp only at e3 e4 hhi hk
      have g6 : decide (((s : Nat) : Int) < (n : Int)) = true := by rw [decide_eq_true_iff]; omega
      have g7 : (0 : Int) ≤ (s : Int) := by omega
      have g8 : (s : Int) < (n : Int) := by omega
      clear hx hc key hm hlo hq e2
      by_cases ht : x2 = ByteArray.empty
      · subst ht
        have hqq : ((ByteArray.empty).toList == ({ data := #[] } : ByteArray).toList) = true := str_same _
        rw [if_pos rfl] at hhi
        have hw2 : IntKind.i64.wrap (x1 - 1) = hi := by rw [IntWalk.i64_in _ (by omega)]; exact hhi
        go_enter Try.func20, Try.ntmps20
        go_wp2_with fail
        go_ret2
        exact ⟨by first | rfl | (rw [← hhi]), rfl⟩
      · have hqq := not_empty ht
        rw [if_neg ht] at hhi
        subst hhi
        go_enter Try.func20, Try.ntmps20
        go_wp2_with fail
        go_ret2
        exact ⟨rfl, rfl⟩
    · have g6 : decide (((s : Nat) : Int) < (n : Int)) = false := by rw [decide_eq_false_iff_not]; omega
      have hhi1 : hi = 12 := by rw [← hhi]; unfold hiK; rw [if_neg (by omega)]
      subst hhi1
      clear hhi hlo key hm hc hq e2
      go_enter Try.func20, Try.ntmps20
      go_wp2_with fail
      go_ret2
      exact ⟨rfl, rfl⟩
theorem lens_lit (a : Option Addr) (n cap : Nat) (ks : List KV) (s : Nat) (lo hi : Int) (w : World) (hh : HoldsK w a n ks) (hn : n ≤ 1048576) (hm : ∀ k ∈ ks, mayK k) (hs : s ≤ n) (h1 : loK ks s = lo) (h2 : hiK ks s = hi) :
    Calls Try.prog 20 #[.slice a n cap, .int .i64 s] w fun e w' => e = .returned (.tuple #[.int .i64 lo, .int .i64 hi]) ∧ w = w' := by subst h1 h2; exact lens_any a n cap ks s w hh hn hm hs
theorem lo_bd {ks : List KV} (hm : ∀ k ∈ ks, mayK k) {s : Nat} (hs : s ≤ ks.length) : 1 ≤ loK ks s ∧ loK ks s ≤ 12 := by
  unfold loK
  split
  · have := hm _ (getD_memK ks (s - 1) (by omega)); unfold mayK at this; exact ⟨this.1, this.2.1⟩
  · omega
theorem hi_bd {ks : List KV} (hm : ∀ k ∈ ks, mayK k) {s : Nat} (hs : s ≤ ks.length) : 0 ≤ hiK ks s ∧ hiK ks s ≤ 12 := by
  unfold hiK
  split
  · have := hm _ (getD_memK ks s (by omega)); unfold mayK at this
    split <;> omega
  · omega
def leastK (ks : List KV) (s : Nat) (n : Int) : Int := if hiK ks s < loK ks s then -1 else max (max (loK ks s - n) (n - hiK ks s)) 0
theorem least_any (a : Option Addr) (n cap : Nat) (ks : List KV) (s : Nat) (m : Int) (w : World) (hh : HoldsK w a n ks) (hn : n ≤ 1048576) (hm : ∀ k ∈ ks, mayK k) (hs : s ≤ n) (hm2 : -1 ≤ m ∧ m ≤ 1000) :
    Calls Try.prog 27 #[.slice a n cap, .int .i64 s, .int .i64 m] w fun e w' => e = .returned (.int .i64 (leastK ks s m)) ∧ w = w' := by
  have hl := hh.len
  have b1 := lo_bd hm (s := s) (by omega)
  have b2 := hi_bd hm (s := s) (by omega)
  have HL := Lib.hid (lens_any a n cap ks s w hh hn hm hs)
  unfold leastK
  obtain ⟨lo, hlo⟩ : ∃ lo, loK ks s = lo := ⟨_, rfl⟩
  obtain ⟨hi, hhi⟩ : ∃ hi, hiK ks s = hi := ⟨_, rfl⟩
  rw [hlo, hhi] at HL ⊢
  rw [hlo] at b1; rw [hhi] at b2
  clear hlo hhi hh hm
  by_cases hc : hi < lo
  · rw [if_pos hc]
    have g1 : decide (lo > hi) = true := decide_eq_true hc
    go_enter Try.func27, Try.ntmps27
    go_wp2_with fail
    refine HL.out.mono ?_
    rintro e w' ⟨rfl, rfl⟩
    go_wp2_with fail
    go_ret
    exact ⟨rfl, rfl⟩
  · rw [if_neg hc]
    have g1 : decide (lo > hi) = false := decide_eq_false hc
    have w1 : IntKind.i64.wrap (lo - m) = lo - m := IntWalk.i64_in _ (by omega)
    have w2 : IntKind.i64.wrap (m - hi) = m - hi := IntWalk.i64_in _ (by omega)
    go_enter Try.func27, Try.ntmps27
    go_wp2_with fail
    refine HL.out.mono ?_
    rintro e w' ⟨rfl, rfl⟩
    go_wp2_with fail
    all_goals
      go_ret
      exact ⟨ret_int (by first | omega | (split at * <;> omega)), rfl⟩
theorem least_lit (a : Option Addr) (n cap : Nat) (ks : List KV) (s : Nat) (m v : Int) (w : World) (hh : HoldsK w a n ks) (hn : n ≤ 1048576) (hm : ∀ k ∈ ks, mayK k) (hs : s ≤ n) (hm2 : -1 ≤ m ∧ m ≤ 1000) (hv : leastK ks s m = v) :
    Calls Try.prog 27 #[.slice a n cap, .int .i64 s, .int .i64 m] w fun e w' => e = .returned (.int .i64 v) ∧ w = w' := by subst hv; exact least_any a n cap ks s m w hh hn hm hs hm2
end Go.Proofs.Ytnbfdoneknidhaa
