/- leases: the document's Seen and Hello -/
import Derived.Test.YtphcmokcdaiphaaLs
import Derived.Deep.RegionHeld3
import Derived.Deep.DeepCutAuto
import Derived.BigRegion
namespace Go.Proofs.Ytphcmokcdaiphaa
open Go.RowKit
set_option linter.unusedVariables false
set_option maxHeartbeats 3200000 in
theorem rseen_any {s : Lt} (b : Nat) (k e t : Int) (w : World) (h : RTab w b s) (hg : Good s) :
    Calls Try.prog 14 #[.pointer (some ⟨b, 0, none⟩), .int .i64 k, .int .i64 e, .int .i64 t] w fun r w' => r = .returned (.bool (decide (seenOk s k e t))) ∧ RThen b w (seenS s k e t) w' := by
  have H := Lib.hid h
  by_cases hk : worker s k
  case neg =>
    have hno : ¬ seenOk s k e t := fun x => hk x.1
    rw [decide_eq_false hno]; unfold seenS; rw [if_neg hno]
    have K := Lib.hid hk
    clear h hk hno hg
    go_enter Try.func14, Try.ntmps14
    go_wp2_with fail
    refine (is_no b k _ H.out K.out).mono ?_
    rintro e w' ⟨rfl, rfl⟩
    go_wp2_with fail
    go_ret
    exact ⟨rfl, H.out, But.refl _ _⟩
  have hT := hg.t
  obtain ⟨i, rfl, hi⟩ := worker_nat hg hk
  have hu := hg.u i
  obtain ⟨c1, c2, c3⟩ := h.at hi
  have ct := h.ct
  have fr := h.fr ((i + 1) * 3 + 2)
  have K := Lib.hid hk
  have q1 : (0 : Int) ≤ ((i + 1 : Nat) : Int) := by omega
  have q2 : ((i + 1 : Nat) : Int) < 6 := by omega
  have hdec : seenOk s ((i + 1 : Nat) : Int) e t ↔ (s.E i ≠ 0 ∧ s.E i = e ∧ 0 ≤ t ∧ t ≤ 1099511627776) := by
    unfold seenOk timed; rw [idx_nat]; exact ⟨fun x => ⟨x.2.2.1, x.2.2.2, x.2.1⟩, fun x => ⟨hk, x.2.2, x.1, x.2.1⟩⟩
  by_cases hyes : s.E i ≠ 0 ∧ s.E i = e ∧ 0 ≤ t ∧ t ≤ 1099511627776
  · have hy2 := hdec.2 hyes
    rw [decide_eq_true hy2]; unfold seenS; rw [if_pos hy2, idx_nat]
    obtain ⟨z1, z2, z3, z4⟩ := hyes
    have hadd : IntKind.i64.wrap (t + s.T) = t + s.T := IntWalk.i64_in _ (by omega)
    have x1 : (s.E i == 0) = false := by simpa using z1
    have x2 : (s.E i != e) = false := by simpa using z2
    clear hy2 hdec h hk hg c2 z1 z2
    have hset := Lib.hid (fun v => H.out.setU i v hi)
    generalize hn : i + 1 = n at *
    have HN := Lib.hid hn
    clear hn
    have hmax : s.U i < t + s.T ∨ t + s.T ≤ s.U i := by omega
    rcases hmax with hmax | hmax
    · have hm : max (s.U i) (t + s.T) = t + s.T := by omega
      have HM := Lib.hid hm
      clear hm
      go_enter Try.func14, Try.ntmps14
      go_wp2_with fail
      refine (is_yes b _ _ H.out K.out).mono ?_
      rintro e w' ⟨rfl, rfl⟩
      go_upto_region 3 with fail
      go_region
      go_wp2_with fail
      go_ret
      have hx := hset.out (t + s.T)
      exact ⟨rfl, by unfold extended; rw [HM.out]; exact hx.below (Below.refl _ _).drew, (But.setCell _ _ _ _).trans (But.of_below b (Below.refl _ _).drew)⟩
    · have hm : max (s.U i) (t + s.T) = s.U i := by omega
      have HM := Lib.hid hm
      clear hm
      go_enter Try.func14, Try.ntmps14
      go_wp2_with fail
      refine (is_yes b _ _ H.out K.out).mono ?_
      rintro e w' ⟨rfl, rfl⟩
      go_upto_region 3 with fail
      go_region
      go_wp2_with fail
      go_ret
      have hx := hset.out (s.U i)
      exact ⟨rfl, by unfold extended; rw [HM.out]; exact hx.below (Below.refl _ _).drew, (But.setCell _ _ _ _).trans (But.of_below b (Below.refl _ _).drew)⟩
  · have hno : ¬ seenOk s ((i + 1 : Nat) : Int) e t := fun x => hyes (hdec.1 x)
    rw [decide_eq_false hno]; unfold seenS; rw [if_neg hno]
    have hz : s.E i = 0 ∨ (s.E i ≠ 0 ∧ s.E i ≠ e) ∨ (s.E i ≠ 0 ∧ s.E i = e ∧ t < 0) ∨ (s.E i ≠ 0 ∧ s.E i = e ∧ 0 ≤ t ∧ 1099511627776 < t) := by omega
    clear hno hdec h hk hg c2 hyes
    generalize i + 1 = n at *
    rcases hz with z1 | ⟨z1, z2⟩ | ⟨z1, z2, z3⟩ | ⟨z1, z2, z3, z4⟩
    · have x1 : (s.E i == 0) = true := by simpa using z1
      clear z1
      go_enter Try.func14, Try.ntmps14
      go_wp2_with fail
      refine (is_yes b _ _ H.out K.out).mono ?_
      rintro e w' ⟨rfl, rfl⟩
      go_wp2_with fail
      go_ret
      exact ⟨rfl, H.out, But.refl _ _⟩
    · have x1 : (s.E i == 0) = false := by simpa using z1
      have x2 : (s.E i != e) = true := by simpa using z2
      clear z1 z2
      go_enter Try.func14, Try.ntmps14
      go_wp2_with fail
      refine (is_yes b _ _ H.out K.out).mono ?_
      rintro e w' ⟨rfl, rfl⟩
      go_wp2_with fail
      go_ret
      exact ⟨rfl, H.out, But.refl _ _⟩
    · have x1 : (s.E i == 0) = false := by simpa using z1
      have x2 : (s.E i != e) = false := by simpa using z2
      clear z1 z2
      go_enter Try.func14, Try.ntmps14
      go_wp2_with fail
      refine (is_yes b _ _ H.out K.out).mono ?_
      rintro e w' ⟨rfl, rfl⟩
      go_wp2_with fail
      go_ret
      exact ⟨rfl, H.out, But.refl _ _⟩
    · have x1 : (s.E i == 0) = false := by simpa using z1
      have x2 : (s.E i != e) = false := by simpa using z2
      clear z1 z2
      go_enter Try.func14, Try.ntmps14
      go_wp2_with fail
      refine (is_yes b _ _ H.out K.out).mono ?_
      rintro e w' ⟨rfl, rfl⟩
      go_wp2_with fail
      go_ret
      exact ⟨rfl, H.out, But.refl _ _⟩
theorem rhello_bad {s : Lt} (b : Nat) (k f t : Int) (w : World) (h : RTab w b s) (ha : ¬ helloArg s k f t) :
    Calls Try.prog 16 #[.pointer (some ⟨b, 0, none⟩), .int .i64 k, .int .i64 f, .int .i64 t] w fun r w' => r = .returned (.tuple #[.int .i64 0, .int .i64 2]) ∧ w = w' := by
  have H := Lib.hid h
  by_cases hk : worker s k
  case neg =>
    have K := Lib.hid hk
    clear h hk ha
    go_enter Try.func16, Try.ntmps16
    go_wp2_with fail
    refine (is_no b k _ H.out K.out).mono ?_
    rintro e w' ⟨rfl, rfl⟩
    go_wp2_with fail
    go_ret2
    exact ⟨rfl, rfl⟩
  have hz : f < 1 ∨ (1 ≤ f ∧ 2147483647 < f) ∨ (1 ≤ f ∧ f ≤ 2147483647 ∧ t < 0) ∨ (1 ≤ f ∧ f ≤ 2147483647 ∧ 0 ≤ t ∧ 1099511627776 < t) := by
    have h1 : ¬ (lived f ∧ timed t) := fun x => ha ⟨hk, x⟩
    unfold lived timed at h1; omega
  have K := Lib.hid hk
  clear h hk ha
  rcases hz with z1 | ⟨z1, z2⟩ | ⟨z1, z2, z3⟩ | ⟨z1, z2, z3, z4⟩
  all_goals
    go_enter Try.func16, Try.ntmps16
    go_wp2_with fail
    refine (is_yes b k _ H.out K.out).mono ?_
    rintro e w' ⟨rfl, rfl⟩
    go_wp2_with fail
    go_ret2
    exact ⟨rfl, rfl⟩
end Go.Proofs.Ytphcmokcdaiphaa
