/- msg: what every program answers that is one; great; one of the five -/
import Derived.Test.YthboiklcjpnhbaaMc1
import Derived.Test.YthboiklcjpnhbaaGk
import Derived.Test.YthboiklcjpnhbaaCd7
import Derived.Test.YthboiklcjpnhbaaLowV
namespace Go.Proofs.Ythboiklcjpnhbaa
open Go.RowKit
set_option linter.unusedVariables false
set_option maxRecDepth 20000
theorem take_own (a b : List Nat) (n : Nat) (h : a.length = n) : (a ++ b).take n = a := by subst h; simp
theorem hello_same {a b : Int} {M' : MsgV} (h : SameM (.hello a b) M') : M' = .hello a b := by
  cases M' <;> first | exact h.elim | skip
  obtain ⟨rfl, rfl⟩ := h; rfl
theorem awake15_any (w : World) : Calls Try.prog 11 #[] w fun e w' => e = .returned (.bool true) ∧ Below w.heap.size w w' := by
  obtain ⟨F, hF⟩ : ∃ F, frameM (.hello 2 1) = F := ⟨_, rfl⟩
  have FL : F.length = 15 := by rw [← hF, frameM_len]; rfl
  have F11 : F.take 11 = [0, 15, 1, 0, 0, 0, 2, 0, 0, 0, 1] := by
    rw [← hF]
    refine (take_own _ _ 11 rfl).trans ?_
    decide
  have CE := Lib.hid (show Calls Try.prog 14 #[.iface 23 (.agg #[.int .i64 2, .int .i64 1])] w (EncP w F 15) from
    (encode_all (.hello 2 1) w trivial trivial).mono (by
      rintro e w' (⟨-, h⟩ | ⟨h, -⟩)
      · rw [hF, FL] at h; exact h
      · exact absurd h (by decide)))
  have DI := Lib.hid (fun (w1 : World) a c (h : HoldsB w1 a 15 F) (hc : 15 ≤ c) => show Calls Try.prog 25 #[.slice a 15 c] w1 (fun e w' => e = .returned (.tuple #[.iface 23 (.agg #[.int .i64 2, .int .i64 1]), .int .i64 0]) ∧ Below w1.heap.size w1 w') from
    (decode_back (.hello 2 1) a 15 c w1 (by rw [hF]; exact h) hc (by decide) (by intro x h; cases h)).mono (by
      rintro e w' ⟨M', rfl, hs, -, -, hb⟩
      obtain rfl := hello_same hs
      exact ⟨rfl, hb⟩))
  have CK := Lib.hid (fun w1 => show Calls Try.prog 21 #[.iface 23 (.agg #[.int .i64 2, .int .i64 1])] w1 (fun e w' => e = .returned (.int .i64 1) ∧ w1 = w') from kind_all (.hello 2 1) w1)
  have CN := Lib.hid (fun w1 => show Calls Try.prog 21 #[.iface 3 (.int .i64 7)] w1 (fun e w' => e = .returned (.int .i64 0) ∧ w1 = w') from kind_all (.num 7) w1)
  have F1 := Lib.hid F11
  clear hF FL F11
  go_enter Try.func11, Try.ntmps11
  go_wp2_with fail
  with_reducible refine CE.out.mono ?_
  rintro e w1 ⟨a1, c1, rfl, o1, hh, hb, -⟩
  obtain ⟨q, cp, e1⟩ := Joins.ownsRow_form o1 (by omega)
  have hc := (owns_none o1).2
  simp only [Value.slice.injEq] at e1
  obtain ⟨e1, -, -⟩ := e1
  subst e1
  have HA := Lib.hid hh
  have HB := Lib.hid hb
  clear o1 hh hb CE
  go_wp2_with fail
  with_reducible refine (sameB_any _ _ 11 _ 11 _ _ [0, 15, 1, 0, 0, 0, 2, 0, 0, 0, 1] _ (F1.out ▸ (HA.out.front 11 (by omega)).alloc _) (holdsB_lit w1 [0, 15, 1, 0, 0, 0, 2, 0, 0, 0, 1] 5 (0, 0) (by decide)) (by decide) (by decide)).mono ?_
  rintro e w2 ⟨rfl, m, rfl⟩
  rw [decide_eq_true rfl]
  have B2 := Lib.hid (show Below w.heap.size w ((w1.alloc (.cells #[.int .u8 0, .int .u8 15, .int .u8 1, .int .u8 0, .int .u8 0, .int .u8 0, .int .u8 2, .int .u8 0, .int .u8 0, .int .u8 0, .int .u8 1] 5)).drewN m) from
    (HB.out.alloc (HB.out.size) _).trans ((below_drewN _ m).mono (by have := HB.out.size; simp; omega)))
  have H2 := Lib.hid (((HA.out.alloc (.cells #[.int .u8 0, .int .u8 15, .int .u8 1, .int .u8 0, .int .u8 0, .int .u8 0, .int .u8 2, .int .u8 0, .int .u8 0, .int .u8 0, .int .u8 1] 5)).drewN m))
  generalize ((w1.alloc (.cells #[.int .u8 0, .int .u8 15, .int .u8 1, .int .u8 0, .int .u8 0, .int .u8 0, .int .u8 2, .int .u8 0, .int .u8 0, .int .u8 0, .int .u8 1] 5)).drewN m) = w2 at B2 H2 ⊢
  clear HA HB F1
  go_wp2_with fail
  with_reducible refine (DI.out _ _ _ H2.out hc).mono ?_
  rintro e w3 ⟨rfl, hb3⟩
  have B3 := Lib.hid (B2.out.trans (hb3.mono B2.out.size))
  clear hb3 DI H2 B2
  go_wp2_with fail
  with_reducible refine (sameHelloM 2 1 _).mono ?_
  rintro e w4 ⟨rfl, hb4⟩
  have B4 := Lib.hid (B3.out.trans (hb4.mono B3.out.size))
  clear hb4 B3
  go_wp2_with fail
  with_reducible refine (CK.out _).mono ?_
  rintro e w5 ⟨rfl, rfl⟩
  go_wp2_with fail
  with_reducible refine (CN.out _).mono ?_
  rintro e w5 ⟨rfl, rfl⟩
  go_wp2_with fail
  go_ret
  exact ⟨rfl, B4.out⟩
end Go.Proofs.Ythboiklcjpnhbaa
