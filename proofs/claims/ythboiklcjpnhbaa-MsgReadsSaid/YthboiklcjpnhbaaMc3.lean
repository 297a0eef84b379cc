/- msg: great; one of the five -/
import Derived.Test.YthboiklcjpnhbaaMc2
namespace Go.Proofs.Ythboiklcjpnhbaa
open Go.RowKit
set_option linter.unusedVariables false
set_option maxRecDepth 20000
theorem long_iff (n : Nat) (h : n ≤ 9223372036854775807) : decide (100 < (n : Int)) = decide (100 < n) := by congr 1; exact propext (by omega)
def greatQ (x : AskP) (y : RepP) : Bool := decide (100 < x.text.size) || (decide (100 < x.aw.size) || greatKB y.items)
abbrev agAsk (x : AskP) : Value := .agg #[.int .i64 x.slot, .int .i64 x.query, .int .i64 x.shard, .int .i64 x.seq, .int .i64 x.epoch, .string x.text, .int .i64 x.k, .int .i64 x.batch, .bool x.first, .int .i64 x.ad, .string x.aw]
abbrev agReply (x : RepP) : Value := .agg #[.int .i64 x.slot, .int .i64 x.query, .int .i64 x.shard, .int .i64 x.seq, .int .i64 x.worker, .int .i64 x.epoch, .slice x.ia x.n x.ic, .bool x.fin]
theorem great15_any (x : AskP) (y : RepP) (w : World) (h1 : x.text.size ≤ 9223372036854775807) (h2 : x.aw.size ≤ 9223372036854775807) (hh : HoldsK w y.ia y.n y.items) (hn : y.n ≤ 9223372036854775807) (hx : ∀ k ∈ y.items, k.2.size ≤ 9223372036854775807) :
    Calls Try.prog 10 #[agAsk x, agReply y] w fun e w' => e = .returned (.bool (greatQ x y)) ∧ Below w.heap.size w w' := by
  obtain ⟨z0, z1, z2, z3, z4, zt, z6, z7, z8, z9, zw⟩ := x
  obtain ⟨y0, y1, y2, y3, y4, y5, ia, n, ic, ks, yf⟩ := y
  simp only at h1 h2 hh hn hx
  have hG : greatQ ⟨z0, z1, z2, z3, z4, zt, z6, z7, z8, z9, zw⟩ ⟨y0, y1, y2, y3, y4, y5, ia, n, ic, ks, yf⟩ = (decide (100 < zt.size) || (decide (100 < zw.size) || greatKB ks)) := rfl
  rw [hG]
  have GK := Lib.hid (greatK_any ia n ic ks ((w.alloc (.cells #[.int .i64 z0, .int .i64 z1, .int .i64 z2, .int .i64 z3, .int .i64 z4, .string zt, .int .i64 z6, .int .i64 z7, .bool z8, .int .i64 z9, .string zw] 29)).alloc (.cells #[.int .i64 y0, .int .i64 y1, .int .i64 y2, .int .i64 y3, .int .i64 y4, .int .i64 y5, .slice ia n ic, .bool yf] 32)) ((hh.below (below_one w _)).below (below_one _ _)) hn hx)
  have BX := Lib.hid (show Below w.heap.size w ((w.alloc (.cells #[.int .i64 z0, .int .i64 z1, .int .i64 z2, .int .i64 z3, .int .i64 z4, .string zt, .int .i64 z6, .int .i64 z7, .bool z8, .int .i64 z9, .string zw] 29)).alloc (.cells #[.int .i64 y0, .int .i64 y1, .int .i64 y2, .int .i64 y3, .int .i64 y4, .int .i64 y5, .slice ia n ic, .bool yf] 32)) from by
    repeat' (first | exact Below.refl _ _ | refine Below.alloc ?_ (by simp <;> omega) _))
  clear hh hx hG
  by_cases c1 : 100 < zt.size
  · rw [decide_eq_true c1, Bool.true_or]
    go_enter Try.func10, Try.ntmps10
    go_wp2_with fail
    go_ret
    exact ⟨rfl, BX.out⟩
  rw [decide_eq_false c1, Bool.false_or]
  by_cases c2 : 100 < zw.size
  · rw [decide_eq_true c2, Bool.true_or]
    go_enter Try.func10, Try.ntmps10
    go_wp2_with fail
    go_ret
    exact ⟨rfl, BX.out⟩
  rw [decide_eq_false c2, Bool.false_or]
  go_enter Try.func10, Try.ntmps10
  go_wp2_with fail
  with_reducible refine GK.out.mono ?_
  rintro e w1 ⟨rfl, rfl⟩
  cases hg : greatKB ks
  · go_wp2_with fail
    go_ret
    exact ⟨ret_bool (by rw [hg]; simp; omega), BX.out⟩
  · go_wp2_with fail
    go_ret
    exact ⟨by rw [hg]; rfl, BX.out⟩
/-- one of the five, or the number -/
def oneM (k : Int) (h1 h2 g1 g2 g3 : Int) (x : AskP) (y : RepP) (s1 s2 : Int) : MsgV :=
  if lowV k 6 = 0 then .hello h1 h2 else if lowV k 6 = 1 then .grant g1 g2 g3 else if lowV k 6 = 2 then .ask x else if lowV k 6 = 3 then .reply y else if lowV k 6 = 4 then .stop s1 s2 else .num k
theorem one15_any (k h1 h2 g1 g2 g3 : Int) (x : AskP) (y : RepP) (s1 s2 : Int) (w : World) :
    Calls Try.prog 13 #[.int .i64 k, .agg #[.int .i64 h1, .int .i64 h2], .agg #[.int .i64 g1, .int .i64 g2, .int .i64 g3], agAsk x, agReply y, .agg #[.int .i64 s1, .int .i64 s2]] w fun e w' => e = .returned (valM (oneM k h1 h2 g1 g2 g3 x y s1 s2)) ∧ Below w.heap.size w w' := by
  have hb := low_bd k 6 (by omega)
  have CL := Lib.hid (low_any k 6 (by omega) (by omega))
  obtain ⟨z, hz⟩ : ∃ z, oneM k h1 h2 g1 g2 g3 x y s1 s2 = z := ⟨_, rfl⟩
  have HZ := Lib.hid hz
  rw [hz]
  unfold oneM at hz
  obtain ⟨d, hd⟩ : ∃ d, lowV k 6 = d := ⟨_, rfl⟩
  rw [hd] at hz CL hb
  obtain ⟨z0, z1, z2, z3, z4, zt, z6, z7, z8, z9, zw⟩ := x
  obtain ⟨y0, y1, y2, y3, y4, y5, ia, n, ic, ks, yf⟩ := y
  have BX := Lib.hid (show Below w.heap.size w (((((w.alloc (.cells #[.int .i64 h1, .int .i64 h2] 23)).alloc (.cells #[.int .i64 g1, .int .i64 g2, .int .i64 g3] 25)).alloc (.cells #[.int .i64 z0, .int .i64 z1, .int .i64 z2, .int .i64 z3, .int .i64 z4, .string zt, .int .i64 z6, .int .i64 z7, .bool z8, .int .i64 z9, .string zw] 29)).alloc (.cells #[.int .i64 y0, .int .i64 y1, .int .i64 y2, .int .i64 y3, .int .i64 y4, .int .i64 y5, .slice ia n ic, .bool yf] 32)).alloc (.cells #[.int .i64 s1, .int .i64 s2] 34)) from by
    repeat' (first | exact Below.refl _ _ | refine Below.alloc ?_ (by simp <;> omega) _))
  clear hd HZ
  have hc : d = 0 ∨ d = 1 ∨ d = 2 ∨ d = 3 ∨ d = 4 ∨ d = 5 := by omega
  clear hb
  rcases hc with rfl | rfl | rfl | rfl | rfl | rfl
  all_goals
    simp only [reduceIte, Int.reduceEq] at hz
    subst hz
    go_enter Try.func13, Try.ntmps13
    go_wp2_with fail
    with_reducible refine (CL.out _).mono ?_
    rintro e w1 ⟨rfl, rfl⟩
    go_wp2_with fail
    go_ret
    exact ⟨rfl, BX.out⟩
end Go.Proofs.Ythboiklcjpnhbaa
