/- two slices of one kind of numbers held against each other -/
import Derived.Test.YthfoilnofljflaaChecked
import Derived.Test.YthfoilnofljflaaMem
import Derived.WalkLawsBesides
import Derived.Outline
import Derived.Deep.QuietTactic
import Derived.BigQuiet
namespace Go.Proofs.Ythfoilnofljflaa
open Go.RowKit
set_option linter.unusedVariables false
set_option maxRecDepth 20000

set_option maxHeartbeats 400000 in
theorem sameInts_any (a1 a2 : Option Addr) (n1 c1 n2 c2 : Nat) (z1 z2 : List Int) (w : World) (h1 : HoldsI .i64 w a1 n1 z1) (h2 : HoldsI .i64 w a2 n2 z2) (hl1 : n1 ≤ 4611686018427387904) (hl2 : n2 ≤ 4611686018427387904) :
    Calls Try.prog 8 #[.slice a1 n1 c1, .slice a2 n2 c2] w fun e w' => e = .returned (.bool (decide (z1 = z2))) ∧ ∃ m, w' = w.drewN m := by
  obtain ⟨g1, g1'⟩ := h1
  obtain ⟨g2, g2'⟩ := h2
  by_cases hn : n1 = n2
  · subst hn
    rcases Nat.eq_zero_or_pos n1 with h0 | h0
    · subst h0
      clear g1' g2'
      obtain rfl := List.eq_nil_of_length_eq_zero g1
      obtain rfl := List.eq_nil_of_length_eq_zero g2
      go_enter Try.func8, Try.ntmps8
      go_wp2
      go_loop [5] (fun i => i = .int .i64 0) (fun _ => 0)
      case atStart => rfl
      case round =>
        obtain rfl := hrel
        go_wp2
        go_ret
        exact ⟨rfl, 0, rfl⟩
    · obtain ⟨b1, o1, rfl, k1⟩ := g1' h0
      obtain ⟨b2, o2, rfl, k2⟩ := g2' h0
      clear g1' g2'
      have G1 := Lib.hid g1; have G2 := Lib.hid g2; have K1 := Lib.hid k1; have K2 := Lib.hid k2
      clear g1 g2 k1 k2
      go_enter Try.func8, Try.ntmps8
      go_wp2
      go_loopw [5] (fun i wr => ∃ k m : Nat, k ≤ n1 ∧ i = .int .i64 k ∧ z1.take k = z2.take k ∧ wr = w.drewN m) (fun i _ => n1 - (intOf i).toNat)
      case atStart => exact ⟨0, 0, by omega, rfl, rfl, rfl⟩
      case round =>
        obtain ⟨k, m, hk, rfl, he, rfl⟩ := hrel
        have HE := Lib.hid he
        clear he
        by_cases hlt : k < n1
        · have e1 := K1.out k hlt
          have e2 := K2.out k hlt
          obtain ⟨x, hx⟩ : ∃ x, z1.getD k 0 = x := ⟨_, rfl⟩
          obtain ⟨y, hy⟩ : ∃ y, z2.getD k 0 = y := ⟨_, rfl⟩
          rw [hx] at e1; rw [hy] at e2
          have HX := Lib.hid hx; have HY := Lib.hid hy
          clear hx hy
          by_cases hxy : x = y
          · subst hxy
            go_wp2
            go_quiet (fail)
            go_wp2
            go_roundw
            case rel => exact ⟨k + 1, _, by omega, by go_num, by rw [take_succ_getD z1 0 k (by rw [G1.out]; exact hlt), take_succ_getD z2 0 k (by rw [G2.out]; exact hlt), HE.out, HX.out, HY.out], rfl⟩
            case measure => simp [intOf]; omega
          · have hb : (x != y) = true := by simpa using hxy
            go_wp2
            go_quiet (fail)
            go_wp2
            go_ret
            exact ⟨ret_bool (by symm; rw [decide_eq_false_iff_not]; exact take_ne_of_getD 0 k (by rw [HX.out, HY.out]; exact hxy)), _, World.drewN_drewN _ _ _⟩
        · have hkn : k = n1 := by omega
          have HK := Lib.hid hkn
          clear hkn
          go_wp2
          go_ret
          exact ⟨ret_bool (by symm; rw [decide_eq_true_iff]; exact take_eq_all (n := k) HE.out (by rw [G1.out, HK.out]) (by rw [G2.out, HK.out])), _, rfl⟩
  · have hb : ((n1 : Int) != (n2 : Int)) = true := by simp; omega
    clear g1' g2'
    have HN := Lib.hid hn; have G1 := Lib.hid g1; have G2 := Lib.hid g2
    clear hn g1 g2
    go_enter Try.func8, Try.ntmps8
    go_wp2
    go_ret
    exact ⟨ret_bool (by symm; rw [decide_eq_false_iff_not]; intro e; exact HN.out (by rw [← G1.out, ← G2.out, e])), 0, rfl⟩
end Go.Proofs.Ythfoilnofljflaa
