/- contracts of the document's Later -/
import Derived.Test.YtmpkmgkafhlpjaaCk3
namespace Go.Proofs.Ytmpkmgkafhlpjaa
open Go.RowKit
set_option linter.unusedVariables false
set_option maxRecDepth 20000
set_option maxRecDepth 100000 in
set_option maxHeartbeats 6400000 in
theorem rlater_any (i1 : Int) (q1 : Tx) (k1 m1 : Int) (a : Option Addr) (n ca : Nat) (xs : List KV) (d1 l1 : Bool) (i2 : Int) (q2 : Tx) (k2 m2 : Int) (b : Option Addr) (m cb : Nat) (ys : List KV) (d2 l2 f : Bool) (w : World) (h1 : HoldsK w a n xs) (h2 : HoldsK w b m ys) (hn : n ≤ 1048576) (hm : m ≤ 1048576) (hf : laterB i1 q1 k1 m1 xs d1 l1 i2 q2 k2 m2 ys d2 l2 = f) :
    Calls Try.prog 15 #[.agg #[.int .i64 i1, .string q1, .int .i64 k1, .int .i64 m1, .slice a n ca, .bool d1, .bool l1], .agg #[.int .i64 i2, .string q2, .int .i64 k2, .int .i64 m2, .slice b m cb, .bool d2, .bool l2]] w fun e w' => e = .returned (.bool f) ∧ Below w.heap.size w w' := by
  have L1 := Lib.hid h1.len; have L2 := Lib.hid h2.len
  have B0 := Lib.hid (below_one w (.cells #[.int .i64 i1, .string q1, .int .i64 k1, .int .i64 m1, .slice a n ca, .bool d1, .bool l1] 27))
  have HB := Lib.hid (box7_new w (.int .i64 i1) (.string q1) (.int .i64 k1) (.int .i64 m1) (.slice a n ca) (.bool d1) (.bool l1) 27)
  have H1 := Lib.hid (h1.below B0.out); have H2 := Lib.hid (h2.below B0.out)
  obtain ⟨g, hg⟩ : ∃ g, bgB xs ys = g := ⟨_, rfl⟩
  have HG := Lib.hid hg; have HF := Lib.hid hf
  clear h1 h2 hg hf
  go_enter Try.func15, Try.ntmps15
  go_upto_region 1 with fail
  have hr : (w.alloc (.cells #[.int .i64 i1, .string q1, .int .i64 k1, .int .i64 m1, .slice a n ca, .bool d1, .bool l1] 27)).heap.size = w.heap.size + 1 := by simp
  generalize w.alloc (.cells #[.int .i64 i1, .string q1, .int .i64 k1, .int .i64 m1, .slice a n ca, .bool d1, .bool l1] 27) = w1 at *
  have hb1 := below_one w1 (.cells #[.int .i64 i2, .string q2, .int .i64 k2, .int .i64 m2, .slice b m cb, .bool d2, .bool l2] 27)
  have B1 := Lib.hid (B0.out.trans (hb1.mono B0.out.size))
  have HA1 := Lib.hid (box7_carry HB.out hb1)
  have HC1 := Lib.hid (box7_new w1 (.int .i64 i2) (.string q2) (.int .i64 k2) (.int .i64 m2) (.slice b m cb) (.bool d2) (.bool l2) 27)
  have K1 := Lib.hid (H1.out.below hb1); have K2 := Lib.hid (H2.out.below hb1)
  clear hb1 HB B0 H1 H2
  generalize w1.alloc (.cells #[.int .i64 i2, .string q2, .int .i64 k2, .int .i64 m2, .slice b m cb, .bool d2, .bool l2] 27) = w2 at *
  rw [hr] at HC1
  obtain ⟨r, hr2⟩ : ∃ r, w.heap.size + 1 = r := ⟨_, rfl⟩
  rw [hr2] at HC1
  simp only [hr2]
  clear hr hr2
  obtain ⟨-, e0, e1, e2, e3, e4, e5, e6⟩ := HA1.out
  obtain ⟨-, f0, f1, f2, f3, f4, f5, f6⟩ := HC1.out
  by_cases hc : i1 = i2
  case neg =>
    obtain rfl : f = false := by rw [← HF.out]; simp [laterB, hc]
    have x1 : (i1 != i2) = true := by simpa using hc
    clear hc
    go_wp2_with fail
    go_ret
    exact ⟨rfl, B1.out⟩
  subst hc
  have x1 : (i1 != i1) = false := by simp
  by_cases hc : q1 = q2
  case neg =>
    obtain rfl : f = false := by rw [← HF.out]; simp [laterB, hc]
    have y1 := str_other hc
    clear hc
    go_wp2_with fail
    go_ret
    exact ⟨rfl, B1.out⟩
  subst hc
  have y1 := str_same q1
  by_cases hc : k1 = k2
  case neg =>
    obtain rfl : f = false := by rw [← HF.out]; simp [laterB, hc]
    have y2 : (k1 == k2) = false := by simpa using hc
    clear hc
    go_wp2_with fail
    go_ret
    exact ⟨rfl, B1.out⟩
  subst hc
  have y2 : (k1 == k1) = true := by simp
  by_cases hc : m1 = m2
  case neg =>
    obtain rfl : f = false := by rw [← HF.out]; simp [laterB, hc]
    have y3 : (m1 == m2) = false := by simpa using hc
    clear hc
    go_wp2_with fail
    go_ret
    exact ⟨rfl, B1.out⟩
  subst hc
  have y3 : (m1 == m1) = true := by simp
  have HG2 := Lib.hid (show laterB i1 q1 k1 m1 xs d1 l1 i1 q1 k1 m1 ys d2 l2 = (g && ((!d1 && !l1) || (decide (n = m) && (d1 == d2) && (l1 == l2)))) from by simp [laterB, HG.out, L1.out, L2.out])
  have HF2 := Lib.hid (HG2.out.symm.trans HF.out)
  clear HF HG2
  go_wp2_with fail
  refine (rbegins_any a n ca xs b m cb ys g _ K1.out K2.out (by omega) (by omega) HG.out).mono ?_
  rintro e w3 ⟨rfl, hb⟩
  have B3 := Lib.hid (B1.out.trans (hb.mono B1.out.size))
  have HA3 := Lib.hid (box7_carry HA1.out hb)
  have HC3 := Lib.hid (box7_carry HC1.out hb)
  clear hb HA1 HC1 e0 e1 e2 e3 e4 e5 e6 f0 f1 f2 f3 f4 f5 f6 HG
  obtain ⟨-, e0, e1, e2, e3, e4, e5, e6⟩ := HA3.out
  obtain ⟨-, f0, f1, f2, f3, f4, f5, f6⟩ := HC3.out
  cases g with
  | false =>
    obtain rfl : false = f := HF2.out
    go_wp2_with fail
    go_ret
    exact ⟨rfl, B3.out⟩
  | true =>
    by_cases hnm : n = m
    · subst hnm
      have x2 : ((n : Int) == (n : Int)) = true := by simp
      have h3 := HF2.out
      clear HF2
      cases d1 <;> cases l1 <;> cases d2 <;> cases l2 <;> (simp at h3; subst h3)
      all_goals
        go_wp2_with fail
        go_ret
        exact ⟨rfl, B3.out⟩
    · have x2 : ((n : Int) == (m : Int)) = false := by simp; omega
      have h3 := HF2.out
      rw [decide_eq_false hnm] at h3
      clear HF2 hnm
      cases d1 <;> cases l1 <;> cases d2 <;> cases l2 <;> (simp at h3; subst h3)
      all_goals
        go_wp2_with fail
        go_ret
        exact ⟨rfl, B3.out⟩
end Go.Proofs.Ytmpkmgkafhlpjaa
