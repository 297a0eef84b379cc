/- whether a lent copy is as it was, its spare room too (KeptRunes) -/
import Derived.Test.YtlkckdhenodhgaaChecked
import Derived.Test.YtlkckdhenodhgaaMemV
import Derived.Test.YtlkckdhenodhgaaSameRunes
import Derived.WalkLawsBesides
import Derived.WalkSpells
import Derived.Outline
namespace Go.Proofs.Ytlkckdhenodhgaa
open Go.RowKit
set_option linter.unusedVariables false

set_option maxHeartbeats 400000 in
theorem keptRunes_any (B : Nat) (e : TypeId) (n : Nat) (z1 : List Int) (a : Option Addr) (n2 cap : Nat) (z2 : List Int) (w : World) (h1 : z1.length = n) (hR : Roomy w B e (.int .i32 (-7)) n (z1.map (Value.int .i32)) 3) (h2 : HoldsI .i32 w a n2 z2) (hn : n ≤ 1048576) (hn2 : n2 ≤ 1048576) :
    Calls Try.prog 26 #[.slice (some ⟨B, 0, none⟩) n (n + 3), .slice a n2 cap] w fun e w' => e = .returned (.bool (decide (z1 = z2))) ∧ ∃ m, w' = w.drewN m := by
  have HR := Lib.hid hR; have H2 := Lib.hid h2; have H1 := Lib.hid h1
  clear hR h2 h1
  have hs : HoldsI .i32 w (some ⟨B, 0, none⟩) n z1 := ⟨H1.out, fun _ => ⟨B, 0, rfl, fun i hi => by
    rw [Nat.zero_add, HR.out.cell i hi, getD_map_int .i32 z1 i (by rw [H1.out]; exact hi)]⟩⟩
  have HS := Lib.hid hs
  clear hs
  go_enter Try.func26, Try.ntmps26
  go_wp2
  go_loop [6] (fun i => ∃ k : Nat, k ≤ 3 ∧ i = .int .i64 k) (fun i => 3 - (intOf i).toNat)
  case atStart => exact ⟨0, by omega, rfl⟩
  case round =>
    obtain ⟨k, hk, rfl⟩ := hrel
    by_cases hlt : k < 3
    · have hv := HR.out.room k hlt
      go_wp2
      go_round
      case rel => exact ⟨k + 1, by omega, by go_num⟩
      case measure => simp [intOf]; omega
    · obtain rfl : k = 3 := by omega
      go_wp2_with fail
      refine (sameRunes_any _ _ _ _ _ _ z1 z2 _ HS.out H2.out (by omega) (by omega)).mono ?_
      rintro e w' ⟨rfl, m, rfl⟩
      go_wp2_with fail
      go_ret
      exact ⟨rfl, m, rfl⟩
end Go.Proofs.Ytlkckdhenodhgaa
