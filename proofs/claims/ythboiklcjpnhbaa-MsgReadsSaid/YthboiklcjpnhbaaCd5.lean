/- contracts of code: numbers read -/
import Derived.Test.YthboiklcjpnhbaaCd1
namespace Go.Proofs.Ythboiklcjpnhbaa
open Go.RowKit
set_option linter.unusedVariables false
set_option maxRecDepth 20000
/-- the number in s bytes from k on -/
def numN (bs : List Nat) (k s : Nat) : Nat := Cod.numOf ((bs.drop k).take s)
theorem numN_snoc (bs : List Nat) (k s : Nat) (h : k + s < bs.length) : numN bs k (s + 1) = numN bs k s * 256 + bs.getD (k + s) 0 := by
  unfold numN
  rw [take_succ_getD _ 0 s (by simp; omega), Cod.numOf_snoc]
  congr 1
  simp [List.getD_eq_getElem?_getD]
theorem numN_lt (bs : List Nat) (k s : Nat) (hb : ∀ b ∈ bs, b < 256) (hk : k + s ≤ bs.length) : numN bs k s < 256 ^ s := by
  have := Cod.numOf_lt ((bs.drop k).take s) fun x hx => hb x (List.mem_of_mem_drop (List.mem_of_mem_take hx))
  rw [List.length_take, List.length_drop, Nat.min_eq_left (by omega)] at this
  exact this
theorem pow256 (s : Nat) (h : s ≤ 7) : 256 ^ s ≤ 72057594037927936 := Nat.pow_le_pow_right (n := 256) (by decide) h
theorem or_byte (v x : Nat) (hv : v < 72057594037927936) (hx : x < 256) : bits BinOp.or IntKind.u64 ((v : Int) * 256) (x : Int) = ((v * 256 + x : Nat) : Int) := by
  have := u64_or_nat (v * 256) x (by omega) (by omega)
  rw [nat_join 8 (v * 256) x (by omega) (by omega)] at this
  rw [show (v : Int) * 256 = ((v * 256 : Nat) : Int) by omega]
  exact this
set_option maxHeartbeats 800000 in
theorem num_yes (a : Option Addr) (n cap : Nat) (bs : List Nat) (k s : Nat) (w : World) (h : HoldsB w a n bs) (hn : n ≤ 9223372036854775807) (h1 : 1 ≤ s) (h8 : s ≤ 8) (hk : k + s ≤ n) :
    Calls Try.prog 45 #[.slice a n cap, .int .i64 k, .int .i64 s] w fun e w' => e = .returned (.tuple #[.int .i64 (wrap64 (numN bs k s : Nat)), .bool true]) ∧ w = w' := by
  obtain ⟨b, o, rfl, hcell⟩ := h.at (by omega)
  have HC := Lib.hid hcell; have HL := Lib.hid h.len; have HB := Lib.hid h.2
  clear hcell h
  go_enter Try.func45, Try.ntmps45
  go_wp2
  go_loop [8, 29] (fun x i => ∃ j : Nat, j ≤ s ∧ i = .int .i64 j ∧ x = .int .u64 (numN bs k j : Nat)) (fun _ i => s - (intOf i).toNat)
  case atStart => exact ⟨0, by omega, rfl, rfl⟩
  case round =>
    obtain ⟨j, hj, rfl, rfl⟩ := hrel
    by_cases hlt : j < s
    · have hx := getD_lt HB.out (k + j)
      have e1 := HC.out (k + j) (by omega)
      have hs := numN_snoc bs k j (by rw [HL.out]; omega)
      have hv := numN_lt bs k j HB.out (by rw [HL.out]; omega)
      have hp := pow256 j (by omega)
      have HS := Lib.hid hs
      obtain ⟨x, hxx⟩ : ∃ x, bs.getD (k + j) 0 = x := ⟨_, rfl⟩
      obtain ⟨v, hvv⟩ : ∃ v, numN bs k j = v := ⟨_, rfl⟩
      rw [hxx] at hx e1 HS
      rw [hvv] at hv HS ⊢
      have hv2 : v < 72057594037927936 := by omega
      clear hxx hvv hs hv hp
      go_wp2
      go_round
      case rel => exact ⟨j + 1, by omega, by go_num, by rw [HS.out, or_byte v x hv2 hx]⟩
      case measure => simp [intOf]; omega
    · obtain rfl : j = s := by omega
      go_wp2
      go_ret2
      exact ⟨rfl, rfl⟩
theorem num_no (a : Option Addr) (n cap : Nat) (k s : Int) (w : World) (hn : n ≤ 9223372036854775807) (hk : k ≤ 9223372036854775807) (hno : ¬ (1 ≤ s ∧ s ≤ 8 ∧ 0 ≤ k ∧ k + s ≤ n)) :
    Calls Try.prog 45 #[.slice a n cap, .int .i64 k, .int .i64 s] w fun e w' => e = .returned (.tuple #[.int .i64 0, .bool false]) ∧ w = w' := by
  by_cases g1 : s < 1
  · go_enter Try.func45, Try.ntmps45
    go_wp2
    go_ret2
    exact ⟨rfl, rfl⟩
  by_cases g2 : 8 < s
  · go_enter Try.func45, Try.ntmps45
    go_wp2
    go_ret2
    exact ⟨rfl, rfl⟩
  have d1 : decide (s < 1) = false := by rw [decide_eq_false_iff_not]; omega
  have d2 : decide (8 < s) = false := by rw [decide_eq_false_iff_not]; omega
  by_cases g3 : k < 0
  · go_enter Try.func45, Try.ntmps45
    go_wp2
    go_ret2
    exact ⟨rfl, rfl⟩
  have d3 : decide (k < 0) = false := by rw [decide_eq_false_iff_not]; omega
  have g4 : (n : Int) - s < k := by omega
  go_enter Try.func45, Try.ntmps45
  go_wp2
  go_ret2
  exact ⟨rfl, rfl⟩

set_option maxHeartbeats 800000 in
theorem rnum_yes (a : Option Addr) (n cap : Nat) (bs : List Nat) (k s : Nat) (w : World) (h : HoldsB w a n bs) (hn : n ≤ 9223372036854775807) (h1 : 1 ≤ s) (h8 : s ≤ 8) (hk : k + s ≤ n) :
    Calls Try.prog 49 #[.slice a n cap, .int .i64 k, .int .i64 s] w fun e w' => e = .returned (.tuple #[.int .i64 (wrap64 (numN bs k s : Nat)), .bool true]) ∧ w = w' := by
  obtain ⟨b, o, rfl, hcell⟩ := h.at (by omega)
  have HC := Lib.hid hcell; have HL := Lib.hid h.len; have HB := Lib.hid h.2
  clear hcell h
  go_enter Try.func49, Try.ntmps49
  go_wp2
  go_loop [8, 9] (fun x i => ∃ j : Nat, j ≤ s ∧ i = .int .i64 j ∧ x = .int .u64 (numN bs k j : Nat)) (fun _ i => s - (intOf i).toNat)
  case atStart => exact ⟨0, by omega, rfl, rfl⟩
  case round =>
    obtain ⟨j, hj, rfl, rfl⟩ := hrel
    by_cases hlt : j < s
    · have hx := getD_lt HB.out (k + j)
      have e1 := HC.out (k + j) (by omega)
      have hs := numN_snoc bs k j (by rw [HL.out]; omega)
      have hv := numN_lt bs k j HB.out (by rw [HL.out]; omega)
      have hp := pow256 j (by omega)
      have HS := Lib.hid hs
      obtain ⟨x, hxx⟩ : ∃ x, bs.getD (k + j) 0 = x := ⟨_, rfl⟩
      obtain ⟨v, hvv⟩ : ∃ v, numN bs k j = v := ⟨_, rfl⟩
      rw [hxx] at hx e1 HS
      rw [hvv] at hv HS ⊢
      have hv2 : v < 72057594037927936 := by omega
      clear hxx hvv hs hv hp
      go_wp2
      go_round
      case rel => exact ⟨j + 1, by omega, by go_num, by rw [HS.out, or_byte v x hv2 hx]⟩
      case measure => simp [intOf]; omega
    · obtain rfl : j = s := by omega
      go_wp2
      go_ret2
      exact ⟨rfl, rfl⟩
theorem rnum_no (a : Option Addr) (n cap : Nat) (k s : Int) (w : World) (hn : n ≤ 9223372036854775807) (hno : ¬ (1 ≤ s ∧ s ≤ 8 ∧ 0 ≤ k ∧ k + s ≤ n)) :
    Calls Try.prog 49 #[.slice a n cap, .int .i64 k, .int .i64 s] w fun e w' => e = .returned (.tuple #[.int .i64 0, .bool false]) ∧ w = w' := by
  by_cases g1 : s < 1
  · go_enter Try.func49, Try.ntmps49
    go_wp2
    go_ret2
    exact ⟨rfl, rfl⟩
  by_cases g2 : 8 < s
  · go_enter Try.func49, Try.ntmps49
    go_wp2
    go_ret2
    exact ⟨rfl, rfl⟩
  have d1 : decide (s < 1) = false := by rw [decide_eq_false_iff_not]; omega
  have d2 : decide (8 < s) = false := by rw [decide_eq_false_iff_not]; omega
  by_cases g3 : k < 0
  · go_enter Try.func49, Try.ntmps49
    go_wp2
    go_ret2
    exact ⟨rfl, rfl⟩
  have d3 : decide (k < 0) = false := by rw [decide_eq_false_iff_not]; omega
  by_cases g4 : (n : Int) < k
  · go_enter Try.func49, Try.ntmps49
    go_wp2
    go_ret2
    exact ⟨rfl, rfl⟩
  have d4 : decide ((n : Int) < k) = false := by rw [decide_eq_false_iff_not]; omega
  have g5 : (n : Int) - k < s := by omega
  go_enter Try.func49, Try.ntmps49
  go_wp2
  go_ret2
  exact ⟨rfl, rfl⟩
end Go.Proofs.Ythboiklcjpnhbaa
