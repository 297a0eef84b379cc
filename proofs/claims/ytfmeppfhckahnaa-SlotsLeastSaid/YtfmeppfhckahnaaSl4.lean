/- slots: awake; of none -/
import Derived.Test.YtfmeppfhckahnaaSl3
import Derived.Test.YtfmeppfhckahnaaSlOp
namespace Go.Proofs.Ytfmeppfhckahnaa
open Go.RowKit
set_option linter.unusedVariables false
theorem submit_lit {s s' : Sl} {v m i : Int} (b bo ba j : Nat) (ok : Bool) (t : ByteArray) (k n : Int) (w : World) (h : SlAt w b bo ba s) (hg : SlGood s) (hj : FirstFree s j) (hlast : s.last < 4611686018427387904) (ht : t.size ≤ 9223372036854775807)
    (hok : decide (mayP t k n) = ok) (h1 : subV ok s j = v) (h2 : subN ok s j = m) (h3 : subI ok s j = i) (h4 : subS ok s j = s') :
    Calls Try.prog 14 #[.pointer (some ⟨b, 0, none⟩), .agg #[.string t, .int .i64 k, .int .i64 n]] w fun e w' => e = .returned (.tuple #[.int .i64 v, .int .i64 m, .int .i64 i]) ∧ SlAt w' b bo ba s' ∧ Turn (slF b bo ba) w w' := by
  subst hok h1 h2 h3 h4; exact submit_any b bo ba j t k n w h hg hj hlast ht
theorem lenS_a : lenS ⟨#[97]⟩ = 1 := by decide
theorem lenS_nil : lenS ⟨#[]⟩ = 0 := by decide
/-- a query in memory -/
structure QAt (w : World) (q o : Nat) (t : ByteArray) (k n : Int) : Prop where
  q0 : w.cell? ⟨q, o, none⟩ = some (.string t)
  q1 : w.cell? ⟨q, o + 1, none⟩ = some (.int .i64 k)
  q2 : w.cell? ⟨q, o + 2, none⟩ = some (.int .i64 n)
theorem QAt.turn {w w' : World} {q o : Nat} {t : ByteArray} {k n : Int} {F : Nat → Prop} (h : QAt w q o t k n) (T : Turn F w w') (hF : ¬ F q) : QAt w' q o t k n := by
  have hl := lt_of_cell h.q0
  exact ⟨by rw [T.cell hl hF]; exact h.q0, by rw [T.cell hl hF]; exact h.q1, by rw [T.cell hl hF]; exact h.q2⟩
theorem awake_any (w : World) :
    Calls Try.prog 8 #[] w fun e w' => e = .returned (.bool true) ∧ Below w.heap.size w w' := by
  have g0 := Lib.hid (newSl_good (n := 1) (by omega) (by omega))
  obtain ⟨s1, hs1⟩ : ∃ s1, gaveS (newSl 1) 0 = s1 := ⟨_, rfl⟩
  have g1 := Lib.hid (hs1 ▸ gaveS_good g0.out (j := 0) (by simp [newSl]))
  have f0 := Lib.hid (show FirstFree (newSl 1) 0 from ⟨by simp [newSl], by omega, fun _ => rfl⟩)
  have n1 : s1.n = 1 := hs1 ▸ rfl
  have l1 : s1.last = 1 := hs1 ▸ rfl
  have L1 : s1.L 0 = 1 := hs1 ▸ rfl
  have f1 := Lib.hid (show FirstFree s1 1 from (by
    refine ⟨by omega, fun i hi => ?_, by omega⟩
    obtain rfl : i = 0 := by omega
    rw [L1]; omega))
  have okA := Lib.hid (decide_eq_true (show mayP ⟨#[97]⟩ 1 1 by unfold mayP; rw [lenS_a]; omega))
  have okB := Lib.hid (decide_eq_false (show ¬ mayP ⟨#[]⟩ 0 0 by unfold mayP; omega))
  have a1 := Lib.hid (show subV true (newSl 1) 0 = 3 by simp [subV, newSl])
  have a2 := Lib.hid (show subN true (newSl 1) 0 = 1 by simp [subN, newSl])
  have a3 := Lib.hid (show subI true (newSl 1) 0 = 0 by simp [subI])
  have a4 := Lib.hid (show subS true (newSl 1) 0 = s1 by rw [← hs1]; simp [subS, newSl])
  have b1 := Lib.hid (show subV true s1 1 = 2 by simp [subV, n1])
  have b2 := Lib.hid (show subN true s1 1 = 0 by simp [subN, n1])
  have b3 := Lib.hid (show subI true s1 1 = 0 by simp [subI, n1])
  have b4 := Lib.hid (show subS true s1 1 = s1 by simp [subS, n1])
  have d1 := Lib.hid (show subV false s1 1 = 1 by simp [subV])
  have d2 := Lib.hid (show subN false s1 1 = 0 by simp [subN])
  have d3 := Lib.hid (show subI false s1 1 = 0 by simp [subI])
  have d4 := Lib.hid (show subS false s1 1 = s1 by simp [subS])
  have so := Lib.hid (show SlotOf s1 1 (some 0) from ⟨by omega, L1, by omega⟩)
  have e5 := Lib.hid (show (freeS s1 (some 0)).last = 1 from l1)
  have hlast : s1.last < 4611686018427387904 := by omega
  have h0last : (newSl 1).last < 4611686018427387904 := by simp [newSl]
  have HS := Lib.hid hs1
  clear hs1 n1 l1 L1
  have sz : (⟨#[97]⟩ : ByteArray).size ≤ 9223372036854775807 := by decide
  have sz0 : (⟨#[]⟩ : ByteArray).size ≤ 9223372036854775807 := by decide
  go_enter Try.func8, Try.ntmps8
  go_wp2_with fail
  refine (slNew_good 1 _ (by omega)).mono ?_
  rintro e w1 ⟨b, bo, ba, rfl, t1, k1, u1⟩
  have T1 := Lib.hid t1; have K1 := Lib.hid k1; have U1 := Lib.hid u1
  clear t1 k1 u1
  go_wp2_with fail
  obtain ⟨w2, hw2⟩ : ∃ w2, w2 = w1.alloc (.cells #[.string ⟨#[97]⟩, .int .i64 1, .int .i64 1] 34) := ⟨_, rfl⟩
  have q2 : QAt w2 w1.heap.size 0 ⟨#[97]⟩ 1 1 := hw2 ▸ ⟨by rw [cell_alloc rfl]; rfl, by rw [cell_alloc rfl]; rfl, by rw [cell_alloc rfl]; rfl⟩
  have B2 := Lib.hid (show Below w1.heap.size w1 w2 from hw2 ▸ below_one w1 _)
  rw [← hw2]
  clear hw2
  have T2 := Lib.hid (T1.out.below B2.out)
  have nF : ¬ slF b bo ba w1.heap.size := by
    have := T1.out.lt; unfold slF; omega
  have NF := Lib.hid nF
  refine (submit_lit b bo ba 0 true _ 1 1 _ T2.out g0.out f0.out h0last sz okA.out a1.out a2.out a3.out a4.out).mono ?_
  rintro e w3 ⟨rfl, t3, u3⟩
  have q3 := q2.turn u3 nF
  have T3 := Lib.hid t3; have U3 := Lib.hid u3
  have Q3 := Lib.hid q3
  obtain ⟨x0, x1, x2⟩ := q3
  clear t3 u3 q2 nF
  go_wp2_with fail
  refine (submit_lit b bo ba 1 true _ 1 1 _ T3.out g1.out f1.out hlast sz okA.out b1.out b2.out b3.out b4.out).mono ?_
  rintro e w4 ⟨rfl, t4, u4⟩
  have T4 := Lib.hid t4; have U4 := Lib.hid u4
  clear t4 u4 x0 x1 x2
  go_wp2_with fail
  refine (submit_lit b bo ba 1 false ⟨#[]⟩ 0 0 _ T4.out g1.out f1.out hlast sz0 okB.out d1.out d2.out d3.out d4.out).mono ?_
  rintro e w5 ⟨rfl, t5, u5⟩
  have T5 := Lib.hid t5; have U5 := Lib.hid u5
  clear t5 u5
  go_wp2_with fail
  refine (free_any b bo ba 1 (some 0) _ T5.out g1.out (by decide) so.out).mono ?_
  rintro e w6 ⟨rfl, t6, u6⟩
  have T6 := Lib.hid t6; have U6 := Lib.hid u6
  clear t6 u6
  have la := last_any b bo ba w6 T6.out
  rw [e5.out] at la
  have LA := Lib.hid la
  clear la
  go_wp2_with fail
  refine LA.out.mono ?_
  rintro e w7 ⟨rfl, rfl⟩
  go_wp2_with fail
  go_ret
  have S1 := U1.out.size
  have S2 := B2.out.size
  have R := ((U3.out.trans U4.out).trans U5.out).trans U6.out
  exact ⟨rfl, (U1.out.trans (B2.out.mono S1)).trans (R.below K1.out (by omega))⟩
theorem slotsNone_any (x : SAct) (hx : SActOk x) (w : World) :
    Calls Try.prog 5 #[.agg #[.bool x.f, .int .i64 x.id, .string x.t, .int .i64 x.k, .int .i64 x.n]] w fun e w' => e = .returned (.bool true) ∧ Below w.heap.size w w' := by
  have hq : x.t.size ≤ 100 ∨ 100 < x.t.size := by omega
  have HX := Lib.hid hx
  clear hx
  rcases hq with hq | hq
  case inr =>
    go_enter Try.func5, Try.ntmps5
    go_wp2_with fail
    refine (awake_any _).mono ?_
    rintro e w' ⟨rfl, hb⟩
    go_wp2_with fail
    go_ret
    exact ⟨rfl, (below_one _ _).trans (hb.mono (by simp))⟩
  go_enter Try.func5, Try.ntmps5
  go_wp2_with fail
  refine (submit_none _ _ _ _).mono ?_
  rintro e w1 ⟨rfl, hb⟩
  have hB := Lib.hid ((below_one w (.cells #[.bool x.f, .int .i64 x.id, .string x.t, .int .i64 x.k, .int .i64 x.n] 36)).trans (hb.mono (by simp)))
  obtain ⟨hc, hf⟩ := bcell hb
  clear hb
  go_wp2_with fail
  refine (of_none _ _).mono ?_
  rintro e w2 ⟨rfl, rfl⟩
  go_wp2_with fail
  refine (at_none _ _).mono ?_
  rintro e w2 ⟨rfl, rfl⟩
  go_wp2_with fail
  refine (free_none _ _).mono ?_
  rintro e w2 ⟨rfl, rfl⟩
  go_wp2_with fail
  refine (count_none _).mono ?_
  rintro e w2 ⟨rfl, rfl⟩
  go_wp2_with fail
  refine (last_none _).mono ?_
  rintro e w2 ⟨rfl, rfl⟩
  go_wp2_with fail
  refine (awake_any _).mono ?_
  rintro e w3 ⟨rfl, hb⟩
  go_wp2_with fail
  go_ret
  exact ⟨rfl, hB.out.trans (hb.mono hB.out.size)⟩
theorem slotsNone_walk {H : Type} {enc : TypeId × Value → H} (W : World) (base : Nat) (v0 : Value) (d0 : DataW H) (p0 : List MemPlace)
    (h0 : DataW.Trod enc Try.prog W 0 (fun _ => true) true 36 v0 d0 p0)
    (o0 : Value.okWide Try.prog W .any base 36 v0) :
    Calls Try.prog 5 #[v0] W fun e w' => e = .returned (.bool true) ∧ RowKit.Below W.heap.size W w' := by
  obtain ⟨x, hx, rfl⟩ := open_sact o0 h0
  exact slotsNone_any x hx W
end Go.Proofs.Ytfmeppfhckahnaa
