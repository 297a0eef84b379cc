/- the law of texts one behind the other -/
import Derived.Test.YtlkckdhenodhgaaTpM
import Derived.Test.YtlkckdhenodhgaaTp3
namespace Go.Proofs.Ytlkckdhenodhgaa
open Go.RowKit
set_option linter.unusedVariables false
theorem list_beq_self (x : List UInt8) : (x == x) = true := by simp
set_option maxHeartbeats 3200000 in
theorem textJoins_any (a b : ByteArray) (w : World) (h1 : a.size ≤ 9223372036854775807) (h2 : b.size ≤ 9223372036854775807) :
    Calls Try.prog 9 #[.string a, .string b] w fun e w' => e = .returned (.bool true) ∧ Below w.heap.size w w' := by
  by_cases hlong : 100 < a.size ∨ 100 < b.size
  · have h4 : 100 < a.size ∨ (a.size ≤ 100 ∧ 100 < b.size) := by omega
    clear hlong
    rcases h4 with h4 | ⟨h4, h5⟩
    all_goals
      go_enter Try.func9, Try.ntmps9
      go_wp2_with fail
      refine (awake_any _).mono ?_
      rintro e w' ⟨rfl, hb⟩
      go_wp2_with fail
      go_ret
      exact ⟨rfl, hb⟩
  have hla : a.size ≤ 100 := by omega
  have hlb : b.size ≤ 100 := by omega
  have hsz : (a ++ b).size ≤ 200 := by rw [ByteArray.size_append]; omega
  have LA := Lib.hid (fun w => len_any a w (by omega))
  have LB := Lib.hid (fun w => len_any b w (by omega))
  have ba := lenS_bd a; have bb := lenS_bd b
  by_cases hga : 0 ≤ lenS a
  case neg =>
    obtain ⟨n, hn⟩ : ∃ n, lenS a = n := ⟨_, rfl⟩
    simp only [hn] at LA hga
    clear hn hlong LB bb ba
    go_enter Try.func9, Try.ntmps9
    go_wp2_with fail
    refine (LA.out _).mono ?_
    rintro e w1 ⟨rfl, hb1⟩
    have B1 := Lib.hid hb1
    clear hb1
    go_wp2_with fail
    refine (awake_any _).mono ?_
    rintro e w3 ⟨rfl, hb3⟩
    have B3 := Lib.hid (B1.out.trans (hb3.mono B1.out.size))
    clear hb3
    go_wp2_with fail
    go_ret
    exact ⟨rfl, B3.out⟩
  by_cases hgb : 0 ≤ lenS b
  case neg =>
    obtain ⟨n, hn⟩ : ∃ n, lenS a = n := ⟨_, rfl⟩
    obtain ⟨m, hm⟩ : ∃ n, lenS b = n := ⟨_, rfl⟩
    simp only [hn] at LA hga
    simp only [hm] at LB hgb
    clear hn hm hlong bb ba
    go_enter Try.func9, Try.ntmps9
    go_wp2_with fail
    refine (LA.out _).mono ?_
    rintro e w1 ⟨rfl, hb1⟩
    have B1 := Lib.hid hb1
    clear hb1
    go_wp2_with fail
    refine (LB.out _).mono ?_
    rintro e w2 ⟨rfl, hb2⟩
    have B2 := Lib.hid (B1.out.trans (hb2.mono B1.out.size))
    clear hb2
    go_wp2_with fail
    refine (awake_any _).mono ?_
    rintro e w3 ⟨rfl, hb3⟩
    have B3 := Lib.hid (B2.out.trans (hb3.mono B2.out.size))
    clear hb3
    go_wp2_with fail
    go_ret
    exact ⟨rfl, B3.out⟩
  have hj := lenS_join a b hga hgb
  have LJ := Lib.hid (fun w => len_any (a ++ b) w (by omega))
  have WJ := Lib.hid (fun w => word_any (a ++ b) w (by omega))
  have AJ := Lib.hid (fun w => asked_any (a ++ b) w (by omega))
  have P1 := Lib.hid (fun w => prefix_lit (a ++ b) a (lenS a) w (by omega) (prefix_join a b hga hgb))
  have P2 := Lib.hid (fun w => prefix_lit (a ++ b) (a ++ b) (lenS a + lenS b + 1) w (by omega) (prefix_past (a ++ b) (by omega) _ (by omega) (by omega)))
  rw [hj] at LJ WJ AJ
  obtain ⟨n, hn⟩ : ∃ n, lenS a = n := ⟨_, rfl⟩
  obtain ⟨m, hm⟩ : ∃ n, lenS b = n := ⟨_, rfl⟩
  simp only [hn, hm] at LA LB LJ WJ AJ P1 P2 hga hgb ba bb
  clear hn hm hj hlong
  have e1 : IntKind.i64.wrap (n + m) = n + m := IntWalk.i64_in _ (by omega)
  have e2 : IntKind.i64.wrap (n + m + 1) = n + m + 1 := IntWalk.i64_in _ (by omega)
  have q1 := list_beq_self a.toList
  have q2 := list_beq_self (a ++ b).toList
  have q3 : (n + m == n + m) = true := by simp
  have hcase : n + m = 0 ∨ (1 ≤ n + m ∧ n + m ≤ 12) ∨ (1 ≤ n + m ∧ 12 < n + m ∧ n + m ≤ 16) ∨ (1 ≤ n + m ∧ 12 < n + m ∧ 16 < n + m) := by omega
  have WC := Lib.hid (show decide (1 ≤ n + m ∧ n + m ≤ 12) = (decide (1 ≤ n + m) && decide (n + m ≤ 12)) by simp)
  have AC := Lib.hid (show decide (0 ≤ n + m ∧ n + m ≤ 16) = decide (n + m ≤ 16) by apply decide_eq_decide.2; omega)
  rw [WC.out] at WJ; rw [AC.out] at AJ
  clear WC AC
  obtain ⟨t, ht⟩ : ∃ t, n + m = t := ⟨_, rfl⟩
  rw [ht] at LJ WJ AJ e1 e2 q3 hcase P2
  go_enter Try.func9, Try.ntmps9
  go_wp2_with fail
  refine (LA.out _).mono ?_
  rintro e w1 ⟨rfl, hb1⟩
  have B1 := Lib.hid hb1
  clear hb1
  go_wp2_with fail
  refine (LB.out _).mono ?_
  rintro e w2 ⟨rfl, hb2⟩
  have B2 := Lib.hid (B1.out.trans (hb2.mono B1.out.size))
  clear hb2
  go_wp2_with fail
  refine (LA.out _).mono ?_
  rintro e w3 ⟨rfl, hb3⟩
  have B3 := Lib.hid (B2.out.trans (hb3.mono B2.out.size))
  clear hb3
  go_wp2_with fail
  refine (LB.out _).mono ?_
  rintro e w4 ⟨rfl, hb4⟩
  have B4 := Lib.hid (B3.out.trans (hb4.mono B3.out.size))
  clear hb4
  go_wp2_with fail
  refine (LJ.out _).mono ?_
  rintro e w5 ⟨rfl, hb5⟩
  have B5 := Lib.hid (B4.out.trans (hb5.mono B4.out.size))
  clear hb5
  go_wp2_with fail
  refine (P1.out _).mono ?_
  rintro e w6 ⟨rfl, hb6⟩
  have B6 := Lib.hid (B5.out.trans (hb6.mono B5.out.size))
  clear hb6
  go_wp2_with fail
  refine (P2.out _).mono ?_
  rintro e w7 ⟨rfl, hb7⟩
  have B7 := Lib.hid (B6.out.trans (hb7.mono B6.out.size))
  clear hb7
  go_wp2_with fail
  refine (WJ.out _).mono ?_
  rintro e w8 ⟨rfl, hb8⟩
  have B8 := Lib.hid (B7.out.trans (hb8.mono B7.out.size))
  clear hb8
  rcases hcase with c1 | ⟨c1, c2⟩ | ⟨c1, c2, c3⟩ | ⟨c1, c2, c3⟩
  · have f1 : decide (1 ≤ t) = false := by simp; omega
    have f2 : decide (t ≥ 1) = false := by simp; omega
    have f3 : decide (t ≤ 16) = true := by simp; omega
    rw [f1]
    rw [f3] at AJ
    go_wp2_with fail
    refine (AJ.out _).mono ?_
    rintro e w9 ⟨rfl, hb9⟩
    have B9 := Lib.hid (B8.out.trans (hb9.mono B8.out.size))
    clear hb9
    go_wp2_with fail
    refine (awake_any _).mono ?_
    rintro e w10 ⟨rfl, hb10⟩
    have B10 := Lib.hid (B9.out.trans (hb10.mono B9.out.size))
    clear hb10
    go_wp2_with fail
    go_ret
    exact ⟨rfl, B10.out⟩
  · have f1 : decide (1 ≤ t) = true := by simp; omega
    have f2 : decide (t ≥ 1) = true := by simp; omega
    have f3 : decide (t ≤ 16) = true := by simp; omega
    have f4 : decide (t ≤ 12) = true := by simp; omega
    rw [f1, f4]
    rw [f3] at AJ
    go_wp2_with fail
    refine (AJ.out _).mono ?_
    rintro e w9 ⟨rfl, hb9⟩
    have B9 := Lib.hid (B8.out.trans (hb9.mono B8.out.size))
    clear hb9
    go_wp2_with fail
    refine (awake_any _).mono ?_
    rintro e w10 ⟨rfl, hb10⟩
    have B10 := Lib.hid (B9.out.trans (hb10.mono B9.out.size))
    clear hb10
    go_wp2_with fail
    go_ret
    exact ⟨rfl, B10.out⟩
  · have f1 : decide (1 ≤ t) = true := by simp; omega
    have f2 : decide (t ≥ 1) = true := by simp; omega
    have f3 : decide (t ≤ 16) = true := by simp; omega
    have f4 : decide (t ≤ 12) = false := by simp; omega
    rw [f1, f4]
    rw [f3] at AJ
    go_wp2_with fail
    refine (AJ.out _).mono ?_
    rintro e w9 ⟨rfl, hb9⟩
    have B9 := Lib.hid (B8.out.trans (hb9.mono B8.out.size))
    clear hb9
    go_wp2_with fail
    refine (awake_any _).mono ?_
    rintro e w10 ⟨rfl, hb10⟩
    have B10 := Lib.hid (B9.out.trans (hb10.mono B9.out.size))
    clear hb10
    go_wp2_with fail
    go_ret
    exact ⟨rfl, B10.out⟩
  · have f1 : decide (1 ≤ t) = true := by simp; omega
    have f2 : decide (t ≥ 1) = true := by simp; omega
    have f3 : decide (t ≤ 16) = false := by simp; omega
    have f4 : decide (t ≤ 12) = false := by simp; omega
    rw [f1, f4]
    rw [f3] at AJ
    go_wp2_with fail
    refine (AJ.out _).mono ?_
    rintro e w9 ⟨rfl, hb9⟩
    have B9 := Lib.hid (B8.out.trans (hb9.mono B8.out.size))
    clear hb9
    go_wp2_with fail
    refine (awake_any _).mono ?_
    rintro e w10 ⟨rfl, hb10⟩
    have B10 := Lib.hid (B9.out.trans (hb10.mono B9.out.size))
    clear hb10
    go_wp2_with fail
    go_ret
    exact ⟨rfl, B10.out⟩
open Go.ChangeShapes Go.WideShapes Go.ChangeAt in
open Go.ChangeMaps (open_string) in
theorem textJoins_walk {H : Type} {enc : TypeId × Value → H} (W : World) (base : Nat) (v0 v1 : Value) (d0 d1 : DataW H) (p0 p1 : List MemPlace)
    (h0 : DataW.Trod enc Try.prog W 0 (fun _ => true) true 9 v0 d0 p0) (h1 : DataW.Trod enc Try.prog W 0 (fun _ => true) true 9 v1 d1 p1)
    (o0 : Value.okWide Try.prog W .any base 9 v0) (o1 : Value.okWide Try.prog W .any base 9 v1) :
    Calls Try.prog 9 #[v0, v1] W fun e w' => e = .returned (.bool true) ∧ RowKit.Below W.heap.size W w' := by
  obtain ⟨s, rfl, rfl, rfl, ws⟩ := open_string Try.underlying9 o0 h0
  obtain ⟨t, rfl, rfl, rfl, wt⟩ := open_string Try.underlying9 o1 h1
  exact textJoins_any s t W (by unfold maxLen at ws; omega) (by unfold maxLen at wt; omega)
end Go.Proofs.Ytlkckdhenodhgaa
