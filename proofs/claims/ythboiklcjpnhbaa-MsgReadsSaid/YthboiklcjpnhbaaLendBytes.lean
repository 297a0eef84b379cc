/- a copy of a slice with three marked cells of room behind it (LendBytes), and whether such a copy is as it was (KeptBytes) -/
import Derived.Test.YthboiklcjpnhbaaChecked
import Derived.Test.YthboiklcjpnhbaaMemV
import Derived.WalkLawsBesides
import Derived.WalkSpells
import Derived.Outline
namespace Go.Proofs.Ythboiklcjpnhbaa
open Go.RowKit
set_option linter.unusedVariables false
set_option maxRecDepth 20000

theorem lendBytes_info : (Try.prog.info? 5).map (fun i => (i.zero, i.size, i.bytes)) = some (some (.int .u8 0), 1, 1) := by kernel_rfl
set_option maxHeartbeats 400000 in
theorem lendBytes_any (a : Option Addr) (n cap : Nat) (xs : List Value) (w : World) (h : HoldsV w a n xs) (hnil : a = none → n = 0 ∧ cap = 0) (hn : n ≤ 1048576) (h1 : ∀ u ∈ xs, u.oneCell' = true) :
    Calls Try.prog 24 #[.slice a n cap] w fun e w' => e = .returned (.slice (some ⟨w.heap.size, 0, none⟩) n (n + 3)) ∧ Below w.heap.size w w' ∧ Roomy w' w.heap.size 5 (.int .u8 119) n xs 3 := by
  obtain ⟨i0, hi, hz0, hz1, hz2⟩ := info_parts lendBytes_info
  obtain ⟨hl, hc⟩ := h
  have HC := Lib.hid hc; have HL := Lib.hid hl; have H1 := Lib.hid h1; have HN := Lib.hid hnil
  clear hc hl h1 hnil
  go_enter Try.func24, Try.ntmps24
  have HV : HoldsV w a n xs := ⟨HL.out, HC.out⟩
  replace HV := Lib.hid HV
  go_wp2_with (first | (at_make; refine wpList_make_own _ rfl _ _ 39 rfl w.heap.size 5 i0 (.int .u8 0) 1 Try.underlying39 hi hz0 hz1 _ _ _ (n + 3) rfl rfl (by omega) (by rw [hz2]; omega) (by unfold maxLen; omega) (Nat.le_refl _) ?_; intro w0 hown0 hgrow0) | (at_builtin; refine wpList_append_fits_any _ rfl (.tmp 10) (.tmp 11) 39 rfl w.heap.size 5 i0 1 Try.underlying39 hi hz1 w.heap.size 0 (n + 3) _ rfl hown0 a n cap xs rfl (by simpa using HL.out) HN.out (HV.out.cells hgrow0) H1.out (by omega) ?_; intro w1 hown1 hgrow1; simp only [Nat.zero_add, List.nil_append] at hown1))
  have hb0 : Below w.heap.size w w0 := below_grown hgrow0 (by intro k hk; cases hk)
  have hb1 : Below w.heap.size w w1 := hb0.grown hgrow1 hb0.size (by intro k hk; cases hk; exact Nat.le_refl _)
  have hr1 : Roomy w1 w.heap.size 5 (.int .u8 119) n xs 0 := roomy_of_own HL.out hown1
  have HB1 := Lib.hid hb1; have HR1 := Lib.hid hr1
  clear hb0 hb1 hr1 hown0 hown1 hgrow0 hgrow1
  go_loopw [5] (fun i wr => ∃ k : Nat, k ≤ 3 ∧ i = .int .i64 k ∧ Hid (Roomy wr w.heap.size 5 (.int .u8 119) n xs k) ∧ Hid (Below w.heap.size w wr)) (fun i _ => 3 - (intOf i).toNat)
  case atStart => exact ⟨0, by omega, rfl, HR1, HB1⟩
  case round =>
    obtain ⟨k, hk, rfl, hR, hB⟩ := hrel
    by_cases hlt : k < 3
    · obtain ⟨v, hv⟩ := hR.out.there (n + k) (by omega)
      have hf := hR.out.free (n + k)
      go_wp2
      go_roundw
      case rel => exact ⟨k + 1, by omega, by go_num, hR.out.put hlt, hB.out.setCell (Nat.le_refl _) _⟩
      case measure => simp [intOf]; omega
    · obtain rfl : k = 3 := by omega
      go_wp2
      go_ret
      exact ⟨rfl, hB.out, hR.out⟩
end Go.Proofs.Ythboiklcjpnhbaa
