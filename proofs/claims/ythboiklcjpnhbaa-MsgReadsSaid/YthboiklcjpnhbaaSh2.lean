/- contract of the reference's sum -/
import Derived.Test.YthboiklcjpnhbaaSh1
namespace Go.Proofs.Ythboiklcjpnhbaa
open Go.RowKit
set_option linter.unusedVariables false
set_option maxRecDepth 20000

theorem bit_of (x j : Nat) : ((x : Int) / 2 ^ j).tmod 2 = ((x / 2 ^ j % 2 : Nat) : Int) := by
  rw [Int.tmod_eq_emod_of_nonneg (Int.ediv_nonneg (by omega) (Int.pow_nonneg (by decide)))]
  norm_cast
theorem rst_yes (y x j : Nat) (h : y % 2 ≠ x / 2 ^ j % 2) : (((y : Int) % 2 != ((x : Int) / 2 ^ j).tmod 2)) = true := by
  rw [bit_of, bne_iff_ne]; omega
theorem rst_no (y x j : Nat) (h : y % 2 = x / 2 ^ j % 2) : (((y : Int) % 2 != ((x : Int) / 2 ^ j).tmod 2)) = false := by
  rw [bit_of, bne_eq_false_iff_eq]; omega
theorem flip_sub (r : Nat) (h : r < 4294967296) : (4294967295 : Int) - (r : Int) = ((4294967295 - r : Nat) : Int) := by omega

set_option maxHeartbeats 800000 in
theorem rsumOf_any (a : Option Addr) (n cap : Nat) (bs : List Nat) (w : World) (h : HoldsB w a n bs) (hn : n ≤ 4611686018427387904) :
    Calls Try.prog 69 #[.slice a n cap] w fun e w' => e = .returned (.int .u32 (Crc.sum bs)) ∧ w = w' := by
  have hl := h.len
  have hb := h.2
  rcases Nat.eq_zero_or_pos n with h0 | h0
  · subst h0
    obtain rfl := List.eq_nil_of_length_eq_zero hl
    clear h hl hb hn
    go_enter Try.func69, Try.ntmps69
    go_wp2
    go_loop [3, 4] (fun x i => i = .int .i64 0 ∧ x = .int .u32 4294967295) (fun _ _ => 0)
    case atStart => exact ⟨rfl, rfl⟩
    case round =>
      obtain ⟨rfl, rfl⟩ := hrel
      go_wp2
      go_ret
      exact ⟨rfl, rfl⟩
  · obtain ⟨b, o, rfl, hcell⟩ := h.at h0
    have HC := Lib.hid hcell; have HL := Lib.hid hl; have HB := Lib.hid hb
    clear hcell hl hb h
    go_enter Try.func69, Try.ntmps69
    go_wp2
    go_loop [3, 4] (fun x i => ∃ k : Nat, k ≤ n ∧ i = .int .i64 k ∧ x = .int .u32 (Crc.reg 4294967295 (bs.take k) : Nat)) (fun _ i => n - (intOf i).toNat)
    case atStart => exact ⟨0, by omega, rfl, rfl⟩
    case round =>
      obtain ⟨k, hk, rfl, rfl⟩ := hrel
      have hr := Crc.reg_lt (bs.take k) (fun x hx => HB.out x (List.mem_of_mem_take hx)) 4294967295 (by omega)
      by_cases hlt : k < n
      · have e1 := HC.out k hlt
        have hx := getD_lt HB.out k
        have hts := take_succ_getD bs 0 k (by rw [HL.out]; exact hlt)
        have hs : Crc.reg 4294967295 (bs.take (k + 1)) = Crc.rstN (Crc.reg 4294967295 (bs.take k)) (bs.getD k 0) 8 := by rw [hts, Crc.reg_append, Crc.rstN_8 _ _ hx]; rfl
        have HS := Lib.hid hs
        clear hs hts
        obtain ⟨x, hx1⟩ : ∃ x, bs.getD k 0 = x := ⟨_, rfl⟩
        obtain ⟨r, hr1⟩ : ∃ r, Crc.reg 4294967295 (bs.take k) = r := ⟨_, rfl⟩
        rw [hx1] at e1 hx HS
        rw [hr1] at hr HS ⊢
        clear hx1 hr1
        go_wp2
        go_loop [3, 5, 6] (fun c i _ => ∃ j : Nat, j ≤ 8 ∧ i = .int .i64 j ∧ c = .int .u32 (Crc.rstN r x j : Nat)) (fun _ i _ => 8 - (intOf i).toNat)
        case atStart => exact ⟨0, by omega, rfl, rfl⟩
        case round =>
          obtain ⟨j, hj, rfl, rfl⟩ := hrel
          have hy := Crc.rstN_lt hr hx j
          have hs : Crc.rstN r x (j + 1) = Crc.rst (Crc.rstN r x j) (x / 2 ^ j % 2) := rfl
          have HS2 := Lib.hid hs
          clear hs
          obtain ⟨y, hyy⟩ : ∃ y, Crc.rstN r x j = y := ⟨_, rfl⟩
          rw [hyy] at hy HS2 ⊢
          have HYY := Lib.hid hyy
          clear hyy
          by_cases hl8 : j < 8
          · by_cases hb : y % 2 = x / 2 ^ j % 2
            · have ht := rst_no y x j hb
              have HB2 := Lib.hid hb
              clear hb
              go_wp2
              go_round
              case rel => exact ⟨j + 1, by omega, by go_num, by rw [HS2.out, Crc.rst, if_neg (fun h => h HB2.out)]; go_num⟩
              case measure => simp [intOf]; omega
            · have ht := rst_yes y x j hb
              have HB2 := Lib.hid hb
              clear hb
              go_wp2
              go_round
              case rel => exact ⟨j + 1, by omega, by go_num, by rw [HS2.out, Crc.rst, if_pos HB2.out, xor_poly y hy]⟩
              case measure => simp [intOf]; omega
          · obtain rfl : j = 8 := by omega
            go_wp2
            go_round
            case rel => exact ⟨k + 1, by omega, by go_num, by rw [HS.out, HYY.out]⟩
            case measure => simp [intOf]; omega
      · have hkn : k = n := by omega
        have HK := Lib.hid hkn
        clear hkn
        go_wp2
        go_ret
        exact ⟨ret_int (by rw [flip_sub _ hr, List.take_of_length_le (by rw [HL.out, HK.out]; exact Nat.le_refl _)]; rfl), rfl⟩
end Go.Proofs.Ythboiklcjpnhbaa
