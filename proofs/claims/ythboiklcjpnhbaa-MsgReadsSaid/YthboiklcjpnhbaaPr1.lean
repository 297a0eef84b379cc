/- pack: the document's reader, and Opened -/
import Derived.Test.YthboiklcjpnhbaaPk2
import Derived.Test.YthboiklcjpnhbaaSh2
namespace Go.Proofs.Ythboiklcjpnhbaa
open Go.RowKit
set_option linter.unusedVariables false
set_option maxRecDepth 20000
def numQ (bs : List Nat) (n at_ s : Nat) : Nat := if at_ + s ≤ n then numN bs at_ s else 0
def atQ (n at_ s : Nat) : Nat := if at_ + s ≤ n then at_ + s else at_
theorem atQ_le {n at_ s : Nat} (h : at_ ≤ n) : atQ n at_ s ≤ n := by
  unfold atQ
  split <;> omega
theorem numQ_lt (bs : List Nat) (n at_ s : Nat) (hb : ∀ b ∈ bs, b < 256) (hl : bs.length = n) : numQ bs n at_ s < 256 ^ s := by
  unfold numQ
  split
  · exact numN_lt bs at_ s hb (by omega)
  · exact Nat.pow_pos (by decide)
theorem rOpened_any (a : Option Addr) (n cap : Nat) (bs : List Nat) (w : World) (h : HoldsB w a n bs) (hn : n ≤ 1048576) (hc : n ≤ cap) :
    Calls Try.prog 50 #[.slice a n cap] w fun e w' => e = .returned (.bool (openB bs)) ∧ w = w' := by
  have hl := h.len
  by_cases h4 : 4 ≤ n
  · obtain ⟨k, hk⟩ : ∃ k, n - 4 = k := ⟨_, rfl⟩
    have e1 : (n : Int) - 4 = (k : Int) := by omega
    have CN := Lib.hid (rnum_yes a n cap bs k 4 w h (by omega) (by omega) (by omega) (by omega))
    have CS := Lib.hid (show Calls Try.prog 69 #[.slice a k cap] w fun e w' => e = .returned (.int .u32 (Crc.sum (bs.take k))) ∧ w = w' from by
      obtain ⟨q, o, rfl, -⟩ := h.at (by omega)
      exact rsumOf_any (some ⟨q, o, none⟩) k cap (bs.take k) w (h.front k (by omega)) (by omega))
    obtain ⟨x, hx⟩ : ∃ x, numN bs k 4 = x := ⟨_, rfl⟩
    have hx4 : x < 4294967296 := by rw [← hx]; exact num4_lt bs k h.2 (by omega)
    obtain ⟨c, hcc⟩ : ∃ c, Crc.sum (bs.take k) = c := ⟨_, rfl⟩
    have hc4 : c < 4294967296 := by rw [← hcc]; exact sum_lt9 _
    rw [hx, wrap_small x (by omega), show ((4 : Nat) : Int) = 4 from rfl] at CN
    rw [hcc] at CS
    have OP : openB bs = ((x : Int) == (c : Int)) := by
      unfold openB
      rw [hl, hk, hx, hcc, decide_eq_true h4, Bool.true_and]
      by_cases h : x = c <;> simp [h]
      omega
    rw [OP]
    have d4 : decide ((n : Int) < 4) = false := decide_eq_false (by omega)
    have n1 : (0 : Int) ≤ (k : Int) := by omega
    have n2 : (k : Int) ≤ (cap : Int) := by omega
    have n3 : k ≤ cap := by omega
    clear hk hx hcc h hl OP h4
    go_enter Try.func50, Try.ntmps50
    go_wp2_with fail
    with_reducible refine CN.out.mono ?_
    rintro e w' ⟨rfl, rfl⟩
    go_wp2_with fail
    with_reducible refine CS.out.mono ?_
    rintro e w' ⟨rfl, rfl⟩
    go_wp2_with fail
    go_ret
    exact ⟨rfl, rfl⟩
  · have OT : openB bs = false := by unfold openB; rw [hl, decide_eq_false h4, Bool.false_and]
    rw [OT]
    have d4 : decide ((n : Int) < 4) = true := decide_eq_true (by omega)
    clear h hl h4 OT
    go_enter Try.func50, Try.ntmps50
    go_wp2_with fail
    go_ret
    exact ⟨rfl, rfl⟩
end Go.Proofs.Ythboiklcjpnhbaa
