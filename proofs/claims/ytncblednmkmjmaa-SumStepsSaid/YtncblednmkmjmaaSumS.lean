/- the laws that a sum is told byte by byte, and in two parts -/
import Derived.Test.YtncblednmkmjmaaSa
import Derived.Test.YtncblednmkmjmaaOpB
import Derived.WalkSpells
namespace Go.Proofs.Ytncblednmkmjmaa
open Go.RowKit
set_option linter.unusedVariables false
theorem sum_step (bs : List Nat) (k : Nat) (hb : ∀ b ∈ bs, b < 256) : Crc.add (Crc.sum (bs.take k)) ((bs.take (k + 1)).drop k) = Crc.sum (bs.take (k + 1)) := by
  rw [Crc.sum_append _ _ (fun x hx => hb x (List.mem_of_mem_take hx))]
  congr 1
  have h : bs.take k = (bs.take (k + 1)).take k := by rw [List.take_take]; congr 1; omega
  rw [h, List.take_append_drop]
set_option maxHeartbeats 800000 in
theorem sumSteps_any (a : Option Addr) (n cap : Nat) (bs : List Nat) (w : World) (h : HoldsB w a n bs) (hnil : a = none → n = 0 ∧ cap = 0) (hc : n ≤ cap) (hn : cap ≤ 9223372036854775807) :
    Calls Try.prog 6 #[.slice a n cap] w fun e w' => e = .returned (.bool true) ∧ Below w.heap.size w w' := by
  have hl := h.len
  have hb := h.2
  by_cases hbig : n ≤ 300
  · rcases Nat.eq_zero_or_pos n with h0 | h0
    · subst h0
      obtain rfl := List.eq_nil_of_length_eq_zero hl
      have H := Lib.hid h
      clear h hl hb hn hnil
      go_enter Try.func6, Try.ntmps6
      go_wp2
      go_loop [3, 4] (fun c i => i = .int .i64 0 ∧ c = .int .u32 0) (fun _ _ => 0)
      case atStart => exact ⟨rfl, rfl⟩
      case round =>
        obtain ⟨rfl, rfl⟩ := hrel
        go_wp2_with fail
        refine (of_any _ 0 _ [] _ H.out (by omega)).mono ?_
        rintro e w' ⟨rfl, rfl⟩
        rw [sum_nil]
        go_wp2_with fail
        refine (awake_any _).mono ?_
        rintro e w' ⟨rfl, hb3⟩
        go_wp2_with fail
        go_ret
        exact ⟨rfl, hb3⟩
    · obtain ⟨b, o, rfl, hcell⟩ := h.at h0
      have H := Lib.hid h; have HL := Lib.hid hl; have HB := Lib.hid hb
      clear h hl hb hnil hcell
      go_enter Try.func6, Try.ntmps6
      go_wp2
      go_loop [3, 4] (fun c i => ∃ k : Nat, k ≤ n ∧ i = .int .i64 k ∧ c = .int .u32 (Crc.sum (bs.take k) : Nat)) (fun _ i => n - (intOf i).toNat)
      case atStart => exact ⟨0, by omega, rfl, by rw [List.take_zero, sum_nil]; rfl⟩
      case round =>
        obtain ⟨k, hk, rfl, rfl⟩ := hrel
        by_cases hlt : k < n
        · have hp := H.out.part k (k + 1) (by omega) (by omega)
          have hf := H.out.front (k + 1) (by omega)
          have HP := Lib.hid hp; have HF := Lib.hid hf
          have HS := Lib.hid (sum_step bs k HB.out)
          have hcl := Crc.add_lt 0 (bs.take k)
          have HC := Lib.hid hcl
          clear hp hf hcl
          go_wp2_with fail
          refine (add_any (Crc.sum (bs.take k)) HC.out _ _ _ _ _ (HP.out _ (by omega)) (by omega)).mono ?_
          rintro e w' ⟨rfl, rfl⟩
          rw [HS.out]
          go_wp2_with fail
          refine (of_any _ _ _ _ _ HF.out (by omega)).mono ?_
          rintro e w' ⟨rfl, rfl⟩
          go_wp2_with fail
          go_round
          case rel => exact ⟨k + 1, by omega, by go_num, rfl⟩
          case measure => simp [intOf]; omega
        · have hkn : k = n := by omega
          have hs : Crc.sum (bs.take k) = Crc.sum bs := by rw [List.take_of_length_le (by rw [HL.out, hkn]; exact Nat.le_refl _)]
          rw [hs]
          clear hs
          clear hkn
          go_wp2_with fail
          refine (of_any _ n _ bs _ H.out (by omega)).mono ?_
          rintro e w' ⟨rfl, rfl⟩
          go_wp2_with fail
          refine (awake_any _).mono ?_
          rintro e w' ⟨rfl, hb3⟩
          go_wp2_with fail
          go_ret
          exact ⟨rfl, hb3⟩
  · clear h hl hb hnil
    go_enter Try.func6, Try.ntmps6
    go_wp2_with fail
    refine (awake_any _).mono ?_
    rintro e w' ⟨rfl, hb3⟩
    go_wp2_with fail
    go_ret
    exact ⟨rfl, hb3⟩
theorem sumSteps_walk {H : Type} {enc : TypeId × Value → H} (W : World) (base : Nat) (v0 : Value) (d0 : DataW H) (p0 : List MemPlace)
    (h0 : DataW.Trod enc Try.prog W 0 (fun _ => true) true 22 v0 d0 p0) (o0 : Value.okWide Try.prog W .any base 22 v0) :
    Calls Try.prog 6 #[v0] W fun e w' => e = .returned (.bool true) ∧ RowKit.Below W.heap.size W w' := by
  obtain ⟨a, n, cap, bs, rfl, hh, hnil, h1, h2⟩ := open_bytes_arg o0 h0
  exact sumSteps_any a n cap bs W hh hnil h1 (by unfold maxLen at h2; omega)
end Go.Proofs.Ytncblednmkmjmaa
