/- slots: are texts longer than is gone through? -/
import Derived.Test.YtfmeppfhckahnaaSl5
import Derived.Test.YtfmeppfhckahnaaSl4
namespace Go.Proofs.Ytfmeppfhckahnaa
open Go.RowKit
set_option linter.unusedVariables false
def greatSA (xs : Nat → SAct) (n : Nat) : Prop := 100 < n ∨ ∃ i, i < n ∧ 100 < (xs i).t.size
theorem great_any (a : Option Addr) (n cap : Nat) (xs : Nat → SAct) (w : World) (hh : HoldsSA w a n xs) (hn : n ≤ 9223372036854775807) (hx : ∀ i, i < n → SActOk (xs i)) (g : Bool) (hg : g = true ↔ greatSA xs n) :
    Calls Try.prog 7 #[.slice a n cap] w fun e w' => e = .returned (.bool g) ∧ w = w' := by
  have HG := Lib.hid hg; have HX := Lib.hid hx
  clear hg hx
  by_cases h1 : 100 < n
  · have hgt : g = true := HG.out.2 (Or.inl h1)
    subst hgt
    have h2 : ¬ n ≤ 100 := by omega
    go_enter Try.func7, Try.ntmps7
    go_wp2_with fail
    go_loop [3] (fun c => c = .int .i64 0) (fun _ => 0)
    case atStart => exact rfl
    case round =>
      subst hrel
      go_wp2_with fail
      go_ret
      exact ⟨ret_bool (by simp <;> omega), rfl⟩
  have h2 : n ≤ 100 := by omega
  go_enter Try.func7, Try.ntmps7
  go_wp2_with fail
  go_loop [3] (fun c => ∃ i : Nat, i ≤ n ∧ c = .int .i64 i ∧ ∀ j, j < i → (xs j).t.size ≤ 100) (fun c => n - (intOf c).toNat)
  case atStart => exact ⟨0, by omega, rfl, by omega⟩
  case round =>
    obtain ⟨i, hi, rfl, hall⟩ := hrel
    have HA := Lib.hid hall
    clear hall
    by_cases hin : i < n
    · obtain ⟨b, o, rfl, hc⟩ := hh (by omega)
      have hc2 := (hc i hin).2.2.1
      have hz := (HX.out i hin).2
      have HC := Lib.hid hc
      clear hc
      by_cases hs : 100 < (xs i).t.size
      · have hgt : g = true := HG.out.2 (Or.inr ⟨i, hin, hs⟩)
        subst hgt
        go_wp2_with fail
        go_ret
        exact ⟨rfl, rfl⟩
      · go_wp2_with fail
        go_round
        case rel => exact ⟨i + 1, by omega, by go_num, fun j hj => by
          by_cases e : j = i
          · subst e; omega
          · exact HA.out j (by omega)⟩
        case measure => simp [intOf]; omega
    · have hgf : g = false := by
        cases hg : g with
        | false => rfl
        | true =>
          rcases HG.out.1 hg with x | ⟨j, hj, x⟩
          · exact absurd x h1
          · have := HA.out j (by omega); omega
      subst hgf
      go_wp2_with fail
      go_ret
      exact ⟨ret_bool (by simp <;> omega), rfl⟩
end Go.Proofs.Ytfmeppfhckahnaa
