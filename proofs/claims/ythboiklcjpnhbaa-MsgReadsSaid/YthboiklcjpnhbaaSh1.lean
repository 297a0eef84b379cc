/- sum's contracts, beside Hb: what each function computes, of any bytes -/
import Derived.Test.YthboiklcjpnhbaaChecked
import Derived.Test.YthboiklcjpnhbaaHb
import Derived.Test.YthboiklcjpnhbaaCrc
import Derived.WalkLawsBesides
import Derived.Outline
import Derived.Laws.BitsAllLaws
import Derived.Laws.DeepBits32
namespace Go.Proofs.Ythboiklcjpnhbaa
open Go.RowKit
set_option linter.unusedVariables false
set_option maxRecDepth 20000
theorem and_one (n : Nat) (h : n < 4294967296) : bits BinOp.and IntKind.u32 (n : Int) 1 = ((n % 2 : Nat) : Int) := by
  have := u32_and_nat n 1 h (by decide)
  rw [nat_mask1] at this
  exact this
theorem xor_poly (n : Nat) (h : n < 4294967296) : bits BinOp.xor IntKind.u32 ((n : Int) / 2) 3988292384 = ((n / 2 ^^^ Crc.poly : Nat) : Int) := by
  have := u32_xor_nat (n / 2) 3988292384 (by omega) (by decide)
  rw [show (n : Int) / 2 = ((n / 2 : Nat) : Int) by omega]
  exact this

set_option maxHeartbeats 400000 in
theorem sumShift_any (r : Nat) (h1 : r < 4294967296) (w : World) :
    Calls Try.prog 103 #[.int .u32 r] w fun e w' => e = .returned (.int .u32 (Crc.stN 8 r)) ∧ w = w' := by
  go_enter Try.func103, Try.ntmps103
  go_wp2
  go_loop [0, 3, 4] (fun x _ i => ∃ k : Nat, k ≤ 8 ∧ i = .int .i64 k ∧ x = .int .u32 (Crc.stN k r)) (fun _ _ i => 8 - (intOf i).toNat)
  case atStart => exact ⟨0, by omega, rfl, rfl⟩
  case round =>
    obtain ⟨k, hk, rfl, rfl⟩ := hrel
    by_cases hlt : k < 8
    · have hy := Crc.stN_lt h1 k
      have hs : Crc.stN (k + 1) r = Crc.st (Crc.stN k r) := rfl
      have HS := Lib.hid hs
      clear hs
      obtain ⟨y, hyy⟩ : ∃ y, Crc.stN k r = y := ⟨_, rfl⟩
      rw [hyy] at hy HS ⊢
      clear hyy
      rcases Nat.mod_two_eq_zero_or_one y with h | h
      · have ht : (bits BinOp.and IntKind.u32 (y : Int) 1 == 1) = false := by rw [and_one y hy, h]; rfl
        go_wp2
        go_round
        case rel => exact ⟨k + 1, by omega, by go_num, by rw [HS.out, Crc.st, if_neg (by omega)]; go_num⟩
        case measure => simp [intOf]; omega
      · have ht : (bits BinOp.and IntKind.u32 (y : Int) 1 == 1) = true := by rw [and_one y hy, h]; rfl
        go_wp2
        go_round
        case rel => exact ⟨k + 1, by omega, by go_num, by rw [HS.out, Crc.st, if_pos h, xor_poly y hy]⟩
        case measure => simp [intOf]; omega
    · obtain rfl : k = 8 := by omega
      go_wp2
      go_ret
      exact ⟨rfl, rfl⟩
theorem nat_flip (c : Nat) (h : c < 4294967296) : 4294967295 ^^^ c = 4294967295 - c := by
  apply Nat.eq_of_testBit_eq
  intro i
  rw [Nat.testBit_xor, show 4294967295 - c = 2 ^ 32 - (c + 1) by omega, Nat.testBit_two_pow_sub_succ (by omega), show 4294967295 = 2 ^ 32 - 1 by decide, Nat.testBit_two_pow_sub_one]
  by_cases hi : i < 32
  · simp [hi]
  · have : c.testBit i = false := Nat.testBit_lt_two_pow (Nat.lt_of_lt_of_le h (Nat.pow_le_pow_right (n := 2) (by decide) (show 32 ≤ i by omega)))
    simp [hi, this]
theorem flip_u32 (c : Nat) (h : c < 4294967296) : bits BinOp.xor IntKind.u32 IntKind.u32.max (c : Int) = ((4294967295 - c : Nat) : Int) := by
  have := u32_xor_nat 4294967295 c (by decide) h
  rw [nat_flip c h] at this
  exact this
theorem xor_byte (r b : Nat) (h : r < 4294967296) (hb : b < 256) : bits BinOp.xor IntKind.u32 (r : Int) (b : Int) = ((r ^^^ b : Nat) : Int) := u32_xor_nat r b h (by omega)

set_option maxHeartbeats 400000 in
theorem sumAdd_any (c : Nat) (hc : c < 4294967296) (a : Option Addr) (n cap : Nat) (bs : List Nat) (w : World) (h : HoldsB w a n bs) (hn : n ≤ 4611686018427387904) :
    Calls Try.prog 94 #[.int .u32 c, .slice a n cap] w fun e w' => e = .returned (.int .u32 (Crc.add c bs)) ∧ w = w' := by
  have hl := h.len
  have hb := h.2
  have hfl := flip_u32 c hc
  rcases Nat.eq_zero_or_pos n with h0 | h0
  · subst h0
    obtain rfl := List.eq_nil_of_length_eq_zero hl
    clear h hl hb hn
    go_enter Try.func94, Try.ntmps94
    go_wp2
    go_loop [5, 12] (fun x i => i = .int .i64 0 ∧ x = .int .u32 ((4294967295 - c : Nat) : Int)) (fun _ _ => 0)
    case atStart => exact ⟨rfl, rfl⟩
    case round =>
      obtain ⟨rfl, rfl⟩ := hrel
      have hf2 := flip_u32 (4294967295 - c) (by omega)
      go_wp2
      go_ret
      exact ⟨ret_int (by first | exact hf2 | rfl), rfl⟩
  · obtain ⟨b, o, rfl, hcell⟩ := h.at h0
    have HC := Lib.hid hcell; have HL := Lib.hid hl; have HB := Lib.hid hb
    clear hcell hl hb h
    go_enter Try.func94, Try.ntmps94
    go_wp2
    go_loop [5, 12] (fun x i => ∃ k : Nat, k ≤ n ∧ i = .int .i64 k ∧ x = .int .u32 (Crc.reg (4294967295 - c) (bs.take k) : Nat)) (fun _ i => n - (intOf i).toNat)
    case atStart => exact ⟨0, by omega, rfl, rfl⟩
    case round =>
      obtain ⟨k, hk, rfl, rfl⟩ := hrel
      clear hfl
      have hr := Crc.reg_lt (bs.take k) (fun x hx => HB.out x (List.mem_of_mem_take hx)) (4294967295 - c) (by omega)
      by_cases hlt : k < n
      · have e1 := HC.out k hlt
        have hx := getD_lt HB.out k
        have hts := take_succ_getD bs 0 k (by rw [HL.out]; exact hlt)
        have hs : Crc.reg (4294967295 - c) (bs.take (k + 1)) = Crc.stN 8 (Crc.reg (4294967295 - c) (bs.take k) ^^^ bs.getD k 0) := by rw [hts, Crc.reg_append]; rfl
        have HS := Lib.hid hs
        clear hs hts
        obtain ⟨x, hx1⟩ : ∃ x, bs.getD k 0 = x := ⟨_, rfl⟩
        obtain ⟨r, hr1⟩ : ∃ r, Crc.reg (4294967295 - c) (bs.take k) = r := ⟨_, rfl⟩
        rw [hx1] at e1 hx HS
        rw [hr1] at hr HS ⊢
        clear hx1 hr1
        have hxb := xor_byte r x hr hx
        have hlt2 := Crc.xor_lt32 hr (show x < 4294967296 by omega)
        go_wp2_with (go_at_call 103; refine (sumShift_any _ hlt2 _).mono ?_; rintro e w' ⟨rfl, rfl⟩)
        go_round
        case rel => exact ⟨k + 1, by omega, by go_num, by rw [HS.out]⟩
        case measure => simp [intOf]; omega
      · have hkn : k = n := by omega
        have HK := Lib.hid hkn
        have hf2 := flip_u32 _ hr
        have HF := Lib.hid hf2
        clear hkn hf2
        go_wp2
        go_ret
        exact ⟨ret_int (by rw [HF.out, List.take_of_length_le (by rw [HL.out, HK.out]; exact Nat.le_refl _)]; rfl), rfl⟩
theorem sumOf_any (a : Option Addr) (n cap : Nat) (bs : List Nat) (w : World) (h : HoldsB w a n bs) (hn : n ≤ 4611686018427387904) :
    Calls Try.prog 73 #[.slice a n cap] w fun e w' => e = .returned (.int .u32 (Crc.sum bs)) ∧ w = w' := by
  go_enter Try.func73, Try.ntmps73
  go_wp2_with fail
  refine (sumAdd_any 0 (by decide) a n cap bs _ h hn).mono ?_
  rintro e w' ⟨rfl, rfl⟩
  go_wp2_with fail
  go_ret
  exact ⟨rfl, rfl⟩
end Go.Proofs.Ythboiklcjpnhbaa
