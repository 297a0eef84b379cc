/- contracts of the document's Runes and Rows -/
import Derived.Test.YtmpkmgkafhlpjaaRf1
namespace Go.Proofs.Ytmpkmgkafhlpjaa
open Go.RowKit
set_option linter.unusedVariables false
set_option maxRecDepth 20000
theorem rruns_any (ra rb : List Int) (a b : Option Addr) (la lb ca cb : Nat) (w : World) (ha : HoldsI .i32 w a la ra) (hb : HoldsI .i32 w b lb rb) (hla : la ≤ 1048576) (hlb : lb ≤ 1048576) :
    Calls Try.prog 45 #[.slice a la ca, .slice b lb cb] w fun e w' => e = .returned (.int .i64 (Ed.L ra rb la lb)) ∧ Below w.heap.size w w' := by
  have HT := Lib.hid (table_any ra rb a b la lb ca cb w ha hb hla hlb)
  obtain ⟨n, hn⟩ : ∃ n, la + 1 = n := ⟨_, rfl⟩
  obtain ⟨m, hm⟩ : ∃ n, lb + 1 = n := ⟨_, rfl⟩
  rw [hn, hm] at HT
  have h1 : (la : Int) < (n : Int) := by omega
  have h2 : (lb : Int) < (m : Int) := by omega
  have h3 : (0 : Int) ≤ (la : Int) := by omega
  have h4 : (0 : Int) ≤ (lb : Int) := by omega
  have h5 : la < n := by omega
  have h6 : lb < m := by omega
  clear ha hb hn hm
  go_enter Try.func45, Try.ntmps45
  go_wp2_with fail
  refine HT.out.mono ?_
  rintro e w1 ⟨t, c, rfl, ⟨T, rfl, hrows⟩, hb1⟩
  obtain ⟨g, cg, hg, hx⟩ := hrows la h5
  have hl := hx lb h6
  have B1 := Lib.hid hb1
  obtain ⟨D, hD⟩ : ∃ D, Ed.L ra rb la lb = D := ⟨_, rfl⟩
  rw [hD] at hl
  have HD := Lib.hid hD
  clear hrows hx hb1 hD
  go_wp2_with fail
  go_ret
  exact ⟨by rw [HD.out]; rfl, B1.out⟩
end Go.Proofs.Ytmpkmgkafhlpjaa
