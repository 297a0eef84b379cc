/- the laws of band without the document's answer -/
import Derived.Test.YtfboocnkphjhnaaBa3
namespace Go.Proofs.Ytfboocnkphjhnaa
open Go.RowKit
set_option linter.unusedVariables false
theorem WithinP.yes {a b : Option Addr} {la lb ca cb : Nat} {D k : Int} {w : World} (h : WithinP a b la lb ca cb D w) (hk : D ≤ k) :
    Calls Try.prog 26 #[.slice a la ca, .slice b lb cb, .int .i64 k] w fun e w' => e = .returned (.tuple #[.int .i64 D, .bool true]) ∧ Below w.heap.size w w' := by
  have := h k; unfold withinD at this; rw [if_pos hk, decide_eq_true hk] at this; exact this
theorem WithinP.no {a b : Option Addr} {la lb ca cb : Nat} {D k : Int} {w : World} (h : WithinP a b la lb ca cb D w) (hk : k < D) :
    Calls Try.prog 26 #[.slice a la ca, .slice b lb cb, .int .i64 k] w fun e w' => e = .returned (.tuple #[.int .i64 0, .bool false]) ∧ Below w.heap.size w w' := by
  have hn : ¬ D ≤ k := by omega
  have := h k; unfold withinD at this; rw [if_neg hn, decide_eq_false hn] at this; exact this
set_option maxHeartbeats 3200000 in
theorem bandThird_any (ra rb rc : List Int) (a b c : Option Addr) (la lb lc ca cb cc : Nat) (k m : Int) (w : World) (ha : HoldsI .i32 w a la ra) (hb : HoldsI .i32 w b lb rb) (hc : HoldsI .i32 w c lc rc)
    (h1 : la ≤ 9223372036854775807) (h2 : lb ≤ 9223372036854775807) (h3 : lc ≤ 9223372036854775807) :
    Calls Try.prog 11 #[.slice a la ca, .slice b lb cb, .slice c lc cc, .int .i64 k, .int .i64 m] w fun e w' => e = .returned (.bool true) ∧ Below w.heap.size w w' := by
  by_cases hlong : 20 < la ∨ 20 < lb ∨ 20 < lc
  · have h4 : 20 < la ∨ (la ≤ 20 ∧ 20 < lb) ∨ (la ≤ 20 ∧ lb ≤ 20 ∧ 20 < lc) := by omega
    clear hlong ha hb hc
    rcases h4 with h4 | ⟨h4, h5⟩ | ⟨h4, h5, h6⟩
    all_goals
      go_enter Try.func11, Try.ntmps11
      go_wp2_with fail
      refine (bawake_any _).mono ?_
      rintro e w' ⟨rfl, hb⟩
      go_wp2_with fail
      go_ret
      exact ⟨rfl, hb⟩
  have hla : la ≤ 20 := by omega
  have hlb : lb ≤ 20 := by omega
  have hlc : lc ≤ 20 := by omega
  have W1 := Lib.hid (fun W (h : Below w.heap.size w W) => within_any ra rb a b la lb ca cb W (ha.below h) (hb.below h) (by omega) (by omega))
  have W2 := Lib.hid (fun W (h : Below w.heap.size w W) => within_any rb rc b c lb lc cb cc W (hb.below h) (hc.below h) (by omega) (by omega))
  have W3 := Lib.hid (fun W (h : Below w.heap.size w W) => within_any ra rc a c la lc ca cc W (ha.below h) (hc.below h) (by omega) (by omega))
  have htri := Ed.L_tri ra rb rc (la + lb + lc) la lb lc (Nat.le_refl _)
  have d1 := Ed.L_bd ra rb la lb
  have d2 := Ed.L_bd rb rc lb lc
  obtain ⟨D1, hD1⟩ : ∃ D, Ed.L ra rb la lb = D := ⟨_, rfl⟩
  obtain ⟨D2, hD2⟩ : ∃ D, Ed.L rb rc lb lc = D := ⟨_, rfl⟩
  obtain ⟨D3, hD3⟩ : ∃ D, Ed.L ra rc la lc = D := ⟨_, rfl⟩
  simp only [hD1, hD2, hD3] at W1 W2 W3 htri d1 d2
  clear hD1 hD2 hD3 ha hb hc hlong
  obtain ⟨x, hx⟩ : ∃ x, IntKind.u64.wrap k = x := ⟨_, rfl⟩
  obtain ⟨y, hy⟩ : ∃ x, IntKind.u64.wrap m = x := ⟨_, rfl⟩
  have bx : 0 ≤ x ∧ x < 18446744073709551616 := by rw [← hx]; simp only [IntKind.wrap, IntKind.signed, IntKind.bits]; simp; omega
  have by' : 0 ≤ y ∧ y < 18446744073709551616 := by rw [← hy]; simp only [IntKind.wrap, IntKind.signed, IntKind.bits]; simp; omega
  obtain ⟨K, hK⟩ : ∃ K, x % 10 = K := ⟨_, rfl⟩
  obtain ⟨M, hM⟩ : ∃ K, y % 10 = K := ⟨_, rfl⟩
  have hKb : 0 ≤ K ∧ K ≤ 9 := by omega
  have hMb : 0 ≤ M ∧ M ≤ 9 := by omega
  have q1 : IntKind.i64.wrap K = K := IntWalk.i64_in _ (by omega)
  have q2 : IntKind.i64.wrap M = M := IntWalk.i64_in _ (by omega)
  have q3 : IntKind.i64.wrap (K + M) = K + M := IntWalk.i64_in _ (by omega)
  have q4 : IntKind.i64.wrap (D1 + D2) = D1 + D2 := IntWalk.i64_in _ (by omega)
  by_cases hk1 : D1 ≤ K
  · by_cases hk2 : D2 ≤ M
    · have hk3 : D3 ≤ K + M := by omega
      go_enter Try.func11, Try.ntmps11
      go_wp2_with fail
      refine ((W1.out _ (Below.refl _ _)).yes hk1).mono ?_
      rintro e w1 ⟨rfl, hb1⟩
      have B1 := Lib.hid hb1
      clear hb1
      go_wp2_with fail
      refine ((W2.out _ B1.out).yes hk2).mono ?_
      rintro e w2 ⟨rfl, hb2⟩
      have B2 := Lib.hid (B1.out.trans (hb2.mono B1.out.size))
      clear hb2
      go_wp2_with fail
      refine ((W3.out _ B2.out).yes hk3).mono ?_
      rintro e w3 ⟨rfl, hb3⟩
      have B3 := Lib.hid (B2.out.trans (hb3.mono B2.out.size))
      clear hb3
      go_wp2_with fail
      refine (bawake_any _).mono ?_
      rintro e w4 ⟨rfl, hb4⟩
      have B4 := Lib.hid (B3.out.trans (hb4.mono B3.out.size))
      clear hb4
      go_wp2_with fail
      go_ret
      exact ⟨rfl, B4.out⟩
    · have hk3 : M < D2 := by omega
      go_enter Try.func11, Try.ntmps11
      go_wp2_with fail
      refine ((W1.out _ (Below.refl _ _)).yes hk1).mono ?_
      rintro e w1 ⟨rfl, hb1⟩
      have B1 := Lib.hid hb1
      clear hb1
      go_wp2_with fail
      refine ((W2.out _ B1.out).no hk3).mono ?_
      rintro e w2 ⟨rfl, hb2⟩
      have B2 := Lib.hid (B1.out.trans (hb2.mono B1.out.size))
      clear hb2
      go_wp2_with fail
      refine (bawake_any _).mono ?_
      rintro e w4 ⟨rfl, hb4⟩
      have B4 := Lib.hid (B2.out.trans (hb4.mono B2.out.size))
      clear hb4
      go_wp2_with fail
      go_ret
      exact ⟨rfl, B4.out⟩
  · have hk3 : K < D1 := by omega
    go_enter Try.func11, Try.ntmps11
    go_wp2_with fail
    refine ((W1.out _ (Below.refl _ _)).no hk3).mono ?_
    rintro e w1 ⟨rfl, hb1⟩
    have B1 := Lib.hid hb1
    clear hb1
    go_wp2_with fail
    refine (W2.out _ B1.out _).mono ?_
    rintro e w2 ⟨rfl, hb2⟩
    have B2 := Lib.hid (B1.out.trans (hb2.mono B1.out.size))
    clear hb2
    go_wp2_with fail
    refine (bawake_any _).mono ?_
    rintro e w4 ⟨rfl, hb4⟩
    have B4 := Lib.hid (B2.out.trans (hb4.mono B2.out.size))
    clear hb4
    go_wp2_with fail
    go_ret
    exact ⟨rfl, B4.out⟩
set_option maxHeartbeats 3200000 in
theorem bandWays_any (ra rb : List Int) (a b : Option Addr) (la lb ca cb : Nat) (k : Int) (w : World) (ha : HoldsI .i32 w a la ra) (hb : HoldsI .i32 w b lb rb)
    (h1 : la ≤ 9223372036854775807) (h2 : lb ≤ 9223372036854775807) :
    Calls Try.prog 10 #[.slice a la ca, .slice b lb cb, .int .i64 k] w fun e w' => e = .returned (.bool true) ∧ Below w.heap.size w w' := by
  by_cases hlong : 30 < la ∨ 30 < lb
  · have h4 : 30 < la ∨ (la ≤ 30 ∧ 30 < lb) := by omega
    clear hlong ha hb
    rcases h4 with h4 | ⟨h4, h5⟩
    all_goals
      go_enter Try.func10, Try.ntmps10
      go_wp2_with fail
      refine (bawake_any _).mono ?_
      rintro e w' ⟨rfl, hb⟩
      go_wp2_with fail
      go_ret
      exact ⟨rfl, hb⟩
  have hla : la ≤ 30 := by omega
  have hlb : lb ≤ 30 := by omega
  have W1 := Lib.hid (fun W (h : Below w.heap.size w W) => within_any ra rb a b la lb ca cb W (ha.below h) (hb.below h) (by omega) (by omega))
  have W2 := Lib.hid (fun W (h : Below w.heap.size w W) => within_any rb ra b a lb la cb ca W (hb.below h) (ha.below h) (by omega) (by omega))
  have W3 := Lib.hid (fun W (h : Below w.heap.size w W) => within_any ra ra a a la la ca ca W (ha.below h) (ha.below h) (by omega) (by omega))
  have hsym := Ed.L_sym rb ra lb la
  have hself := Ed.L_same ra la
  have d1 := Ed.L_bd ra rb la lb
  have d2 := Ed.L_low ra rb la lb
  obtain ⟨D, hD⟩ : ∃ D, Ed.L ra rb la lb = D := ⟨_, rfl⟩
  simp only [hsym, hself, hD] at W1 W2 W3 d1 d2
  clear hD hsym hself ha hb hlong
  have q1 : IntKind.i64.wrap ((la : Int) - lb) = (la : Int) - lb := IntWalk.i64_in _ (by omega)
  have q2 : IntKind.i64.wrap ((lb : Int) - la) = (lb : Int) - la := IntWalk.i64_in _ (by omega)
  have x1 : (D == D) = true := by simp
  have huv : la < lb ∨ la = lb ∨ lb < la := by omega
  by_cases hk : D ≤ k
  · have hk2 := hk
    rcases huv with h | h | h
    all_goals
      (try subst h)
      go_enter Try.func10, Try.ntmps10
      go_wp2_with fail
      refine ((W1.out _ (Below.refl _ _)).yes hk2).mono ?_
      rintro e w1 ⟨rfl, hb1⟩
      have B1 := Lib.hid hb1
      clear hb1
      go_wp2_with fail
      refine ((W2.out _ B1.out).yes hk2).mono ?_
      rintro e w2 ⟨rfl, hb2⟩
      have B2 := Lib.hid (B1.out.trans (hb2.mono B1.out.size))
      clear hb2
      go_wp2_with fail
      refine ((W3.out _ B2.out).no (by omega)).mono ?_
      rintro e w3 ⟨rfl, hb3⟩
      have B3 := Lib.hid (B2.out.trans (hb3.mono B2.out.size))
      clear hb3
      go_wp2_with fail
      refine ((W3.out _ B3.out).yes (by omega)).mono ?_
      rintro e w4 ⟨rfl, hb4⟩
      have B4 := Lib.hid (B3.out.trans (hb4.mono B3.out.size))
      clear hb4
      go_wp2_with fail
      refine (bawake_any _).mono ?_
      rintro e w5 ⟨rfl, hb5⟩
      have B5 := Lib.hid (B4.out.trans (hb5.mono B4.out.size))
      clear hb5
      go_wp2_with fail
      go_ret
      exact ⟨rfl, B5.out⟩
  · have hk2 : k < D := by omega
    rcases huv with h | h | h
    all_goals
      (try subst h)
      go_enter Try.func10, Try.ntmps10
      go_wp2_with fail
      refine ((W1.out _ (Below.refl _ _)).no hk2).mono ?_
      rintro e w1 ⟨rfl, hb1⟩
      have B1 := Lib.hid hb1
      clear hb1
      go_wp2_with fail
      refine ((W2.out _ B1.out).no hk2).mono ?_
      rintro e w2 ⟨rfl, hb2⟩
      have B2 := Lib.hid (B1.out.trans (hb2.mono B1.out.size))
      clear hb2
      go_wp2_with fail
      refine ((W3.out _ B2.out).no (by omega)).mono ?_
      rintro e w3 ⟨rfl, hb3⟩
      have B3 := Lib.hid (B2.out.trans (hb3.mono B2.out.size))
      clear hb3
      go_wp2_with fail
      refine ((W3.out _ B3.out).yes (by omega)).mono ?_
      rintro e w4 ⟨rfl, hb4⟩
      have B4 := Lib.hid (B3.out.trans (hb4.mono B3.out.size))
      clear hb4
      go_wp2_with fail
      refine (bawake_any _).mono ?_
      rintro e w5 ⟨rfl, hb5⟩
      have B5 := Lib.hid (B4.out.trans (hb5.mono B4.out.size))
      clear hb5
      go_wp2_with fail
      go_ret
      exact ⟨rfl, B5.out⟩
set_option maxHeartbeats 3200000 in
theorem bandRises_any (ra rb : List Int) (a b : Option Addr) (la lb ca cb : Nat) (k m : Int) (w : World) (ha : HoldsI .i32 w a la ra) (hb : HoldsI .i32 w b lb rb)
    (h1 : la ≤ 9223372036854775807) (h2 : lb ≤ 9223372036854775807) :
    Calls Try.prog 9 #[.slice a la ca, .slice b lb cb, .int .i64 k, .int .i64 m] w fun e w' => e = .returned (.bool true) ∧ Below w.heap.size w w' := by
  by_cases hlong : 30 < la ∨ 30 < lb ∨ k < 0 ∨ 100 < k ∨ m < 0 ∨ 100 < m
  · have h4 : 30 < la ∨ (la ≤ 30 ∧ 30 < lb) ∨ (la ≤ 30 ∧ lb ≤ 30 ∧ k < 0) ∨ (la ≤ 30 ∧ lb ≤ 30 ∧ 0 ≤ k ∧ 100 < k) ∨ (la ≤ 30 ∧ lb ≤ 30 ∧ 0 ≤ k ∧ k ≤ 100 ∧ m < 0) ∨ (la ≤ 30 ∧ lb ≤ 30 ∧ 0 ≤ k ∧ k ≤ 100 ∧ 0 ≤ m ∧ 100 < m) := by omega
    clear hlong ha hb
    rcases h4 with h4 | ⟨h4, h5⟩ | ⟨h4, h5, h6⟩ | ⟨h4, h5, h6, h7⟩ | ⟨h4, h5, h6, h7, h8⟩ | ⟨h4, h5, h6, h7, h8, h9⟩
    all_goals
      go_enter Try.func9, Try.ntmps9
      go_wp2_with fail
      refine (bawake_any _).mono ?_
      rintro e w' ⟨rfl, hb⟩
      go_wp2_with fail
      go_ret
      exact ⟨rfl, hb⟩
  have hla : la ≤ 30 := by omega
  have hlb : lb ≤ 30 := by omega
  have hk0 : 0 ≤ k := by omega
  have hk1 : k ≤ 100 := by omega
  have hm0 : 0 ≤ m := by omega
  have hm1 : m ≤ 100 := by omega
  have W1 := Lib.hid (fun W (h : Below w.heap.size w W) => within_any ra rb a b la lb ca cb W (ha.below h) (hb.below h) (by omega) (by omega))
  have d1 := Ed.L_bd ra rb la lb
  obtain ⟨D, hD⟩ : ∃ D, Ed.L ra rb la lb = D := ⟨_, rfl⟩
  simp only [hD] at W1 d1
  clear hD ha hb hlong
  have hD60 : D ≤ 60 := by omega
  have q1 : IntKind.i64.wrap (k + m) = k + m := IntWalk.i64_in _ (by omega)
  have q2 : IntKind.i64.wrap (D - 1) = D - 1 := IntWalk.i64_in _ (by omega)
  have x1 : (D != D) = false := by simp
  by_cases hk : D ≤ k
  · have hkm : D ≤ k + m := by omega
    go_enter Try.func9, Try.ntmps9
    go_wp2_with fail
    refine ((W1.out _ (Below.refl _ _)).yes hk).mono ?_
    rintro e w1 ⟨rfl, hb1⟩
    have B1 := Lib.hid hb1
    clear hb1
    go_wp2_with fail
    refine ((W1.out _ B1.out).yes hkm).mono ?_
    rintro e w2 ⟨rfl, hb2⟩
    have B2 := Lib.hid (B1.out.trans (hb2.mono B1.out.size))
    clear hb2
    go_wp2_with fail
    refine ((W1.out _ B2.out).yes hD60).mono ?_
    rintro e w3 ⟨rfl, hb3⟩
    have B3 := Lib.hid (B2.out.trans (hb3.mono B2.out.size))
    clear hb3
    go_wp2_with fail
    refine ((W1.out _ B3.out).yes (by omega)).mono ?_
    rintro e w4 ⟨rfl, hb4⟩
    have B4 := Lib.hid (B3.out.trans (hb4.mono B3.out.size))
    clear hb4
    go_wp2_with fail
    refine ((W1.out _ B4.out).no (by omega)).mono ?_
    rintro e w5 ⟨rfl, hb5⟩
    have B5 := Lib.hid (B4.out.trans (hb5.mono B4.out.size))
    clear hb5
    go_wp2_with fail
    refine (bawake_any _).mono ?_
    rintro e w6 ⟨rfl, hb6⟩
    have B6 := Lib.hid (B5.out.trans (hb6.mono B5.out.size))
    clear hb6
    go_wp2_with fail
    go_ret
    exact ⟨rfl, B6.out⟩
  · have hk2 : k < D := by omega
    go_enter Try.func9, Try.ntmps9
    go_wp2_with fail
    refine ((W1.out _ (Below.refl _ _)).no hk2).mono ?_
    rintro e w1 ⟨rfl, hb1⟩
    have B1 := Lib.hid hb1
    clear hb1
    go_wp2_with fail
    refine (W1.out _ B1.out _).mono ?_
    rintro e w2 ⟨rfl, hb2⟩
    have B2 := Lib.hid (B1.out.trans (hb2.mono B1.out.size))
    clear hb2
    go_wp2_with fail
    refine ((W1.out _ B2.out).yes hD60).mono ?_
    rintro e w3 ⟨rfl, hb3⟩
    have B3 := Lib.hid (B2.out.trans (hb3.mono B2.out.size))
    clear hb3
    go_wp2_with fail
    refine ((W1.out _ B3.out).yes (by omega)).mono ?_
    rintro e w4 ⟨rfl, hb4⟩
    have B4 := Lib.hid (B3.out.trans (hb4.mono B3.out.size))
    clear hb4
    go_wp2_with fail
    refine ((W1.out _ B4.out).no (by omega)).mono ?_
    rintro e w5 ⟨rfl, hb5⟩
    have B5 := Lib.hid (B4.out.trans (hb5.mono B4.out.size))
    clear hb5
    go_wp2_with fail
    refine (bawake_any _).mono ?_
    rintro e w6 ⟨rfl, hb6⟩
    have B6 := Lib.hid (B5.out.trans (hb6.mono B5.out.size))
    clear hb6
    go_wp2_with fail
    go_ret
    exact ⟨rfl, B6.out⟩
end Go.Proofs.Ytfboocnkphjhnaa
