/- pack: bytes alike, bytes that begin with others -/
import Derived.Test.YthboiklcjpnhbaaCd6
import Derived.Test.YthboiklcjpnhbaaPk0
import Derived.Test.YthboiklcjpnhbaaCp1
namespace Go.Proofs.Ythboiklcjpnhbaa
open Go.RowKit
set_option linter.unusedVariables false
set_option maxRecDepth 20000
theorem strN_inj {x y : List Nat} (hx : ∀ b ∈ x, b < 256) (hy : ∀ b ∈ y, b < 256) : strN x = strN y ↔ x = y := by
  refine ⟨fun h => ?_, fun h => by rw [h]⟩
  have key : ∀ l : List Nat, (∀ b ∈ l, b < 256) → ((strN l).data.toList.map UInt8.toNat) = l := fun l hl => by
    unfold strN
    rw [strOfNums_data, List.map_map, List.map_map]
    refine (List.map_congr_left fun b hb => ?_).trans (List.map_id l)
    have := hl b hb
    simp
    omega
  rw [← key x hx, ← key y hy, h]
theorem bEqual_any (a1 a2 : Option Addr) (n1 c1 n2 c2 : Nat) (x y : List Nat) (w : World) (h1 : HoldsB w a1 n1 x) (h2 : HoldsB w a2 n2 y) :
    Calls Try.prog 48 #[.slice a1 n1 c1, .slice a2 n2 c2] w fun e w' => e = .returned (.bool (decide (x = y))) ∧ w = w' := by
  have r1 := run_conv_bytes w 39 5 9 Try.underlying39 Try.underlying5 Try.underlying9 a1 n1 c1 x h1
  have r2 := run_conv_bytes w 39 5 9 Try.underlying39 Try.underlying5 Try.underlying9 a2 n2 c2 y h2
  have E := Lib.hid (strN_inj h1.2 h2.2)
  clear h1 h2
  by_cases he : x = y
  · subst he
    rw [decide_eq_true rfl]
    have e1 : ((strN x).toList == (strN x).toList) = true := by simp
    go_enter Try.func48, Try.ntmps48
    go_wp2_with fail
    go_ret
    exact ⟨rfl, rfl⟩
  · rw [decide_eq_false he]
    have e1 : ((strN x).toList == (strN y).toList) = false := by
      rw [beq_eq_false_iff_ne]; exact fun h => he (E.out.1 (toList_inj h))
    clear he
    go_enter Try.func48, Try.ntmps48
    go_wp2_with fail
    go_ret
    exact ⟨rfl, rfl⟩
end Go.Proofs.Ythboiklcjpnhbaa
