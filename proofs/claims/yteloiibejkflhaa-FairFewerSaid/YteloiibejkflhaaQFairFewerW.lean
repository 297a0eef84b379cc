/- FairFewer (by gen/fafewer.py) -/
import Derived.Test.YteloiibejkflhaaQFa10
import Derived.Test.YteloiibejkflhaaQFb3
import Derived.Test.YteloiibejkflhaaQFb4
import Derived.Test.YteloiibejkflhaaQLowV
import Derived.Test.YteloiibejkflhaaQOpCfg
namespace Go.Proofs.Yteloiibejkflhaa
open Go.RowKit
set_option linter.unusedVariables false
set_option maxRecDepth 20000
theorem fairF_parts {c : Cfg} {zs : List Int} {xs : List RecP} {f b N : Nat} (h : fairF c zs xs f b N = true) : (1 ≤ N ∧ N ≤ 10000) ∧ goodB c zs = true ∧ (∀ i, i < N → winsB c (canonZ zs) xs f b i = true) ∧ ∀ i, i < N - 1 → arrB (canonZ zs) xs (f + i * b) b = true := by
  unfold fairF at h
  simp only [Bool.and_eq_true, decide_eq_true_eq, List.all_eq_true, List.mem_range] at h
  exact ⟨by omega, h.2.1, h.2.2.1, h.2.2.2⟩
theorem fairF_less {c : Cfg} {zs : List Int} {xs : List RecP} {f b N m : Nat} (h : fairF c zs xs f b N = true) (h1 : 1 ≤ m) (h2 : m ≤ N) : fairF c zs xs f b m = true := by
  obtain ⟨a1, a2, a3, a4⟩ := fairF_parts h
  unfold fairF
  simp only [Bool.and_eq_true, decide_eq_true_eq, List.all_eq_true, List.mem_range]
  exact ⟨by omega, a2, fun i hi => a3 i (by omega), fun i hi => a4 i (by omega)⟩
theorem fairF_win {c : Cfg} {zs : List Int} {xs : List RecP} {f b N i : Nat} (h : fairF c zs xs f b N = true) (hi : i < N) : windowB c zs xs ((f + i * b : Nat) : Int) (b : Int) = true := by
  obtain ⟨a1, a2, a3, a4⟩ := fairF_parts h
  have := a3 i hi
  unfold winsB at this
  unfold windowB
  rw [a2, this]
  rfl
theorem fairF_long {c : Cfg} {zs : List Int} {xs : List RecP} {f b N : Nat} (h : fairF c zs xs f b N = true) : f + N * b ≤ xs.length := by
  obtain ⟨a1, a2, a3, a4⟩ := fairF_parts h
  have := winsB_in (a3 (N - 1) (by omega))
  have e : N * b = (N - 1) * b + b := by rw [← Nat.succ_mul, show (N - 1).succ = N by omega]
  omega
theorem fairF_no (c : Cfg) (zs : List Int) (xs : List RecP) (f b : Nat) : fairF c zs xs f b 0 = false := by
  unfold fairF
  simp
set_option maxHeartbeats 12800000 in
set_option maxRecDepth 100000 in
theorem fairFewer_any (c : Cfg) (a : Option Addr) (n cap : Nat) (xs : List RecP) (fr b0 n0 : Int) (ga : Option Addr) (gn gc : Nat) (zs : List Int) (w : World) (h : CfgOk w c) (hh : HoldsRc w a n xs) (hcap : n ≤ cap) (hmx : cap ≤ maxLen) (hg : HoldsI .i64 w ga gn zs) (hgx : gn ≤ 9223372036854775807) :
    Calls Try.prog 4 #[.agg #[.slice c.wa c.wn c.wc, .slice c.ka c.kn c.kc, .int .i64 c.W, .int .i64 c.C, .int .i64 c.S, .int .i64 c.B, .int .i64 c.L, .int .i64 c.H, .int .i64 c.F, .int .i64 c.P, .int .i64 c.J, .int .i64 c.N], .slice a n cap, .int .i64 fr, .int .i64 b0, .int .i64 n0, .slice ga gn gc] w fun e w' => e = .returned (.bool true) ∧ Below w.heap.size w w' := by
  have BX := Lib.hid (below_one w (.cells #[.slice c.wa c.wn c.wc, .slice c.ka c.kn c.kc, .int .i64 c.W, .int .i64 c.C, .int .i64 c.S, .int .i64 c.B, .int .i64 c.L, .int .i64 c.H, .int .i64 c.F, .int .i64 c.P, .int .i64 c.J, .int .i64 c.N] 25))
  have IN := Lib.hid (cfgIn_new w c w.heap.size 25 (0, 0) rfl)
  obtain ⟨w1, hw1⟩ : ∃ w1, w.alloc (.cells #[.slice c.wa c.wn c.wc, .slice c.ka c.kn c.kc, .int .i64 c.W, .int .i64 c.C, .int .i64 c.S, .int .i64 c.B, .int .i64 c.L, .int .i64 c.H, .int .i64 c.F, .int .i64 c.P, .int .i64 c.J, .int .i64 c.N] 25) = w1 := ⟨_, rfl⟩
  obtain ⟨p, hp⟩ : ∃ p, w.heap.size = p := ⟨_, rfl⟩
  rw [hw1] at BX
  rw [hw1, hp] at IN
  have II := Lib.hid (fun (w' : World) (hb : Below w1.heap.size w1 w') => IN.out.below hb)
  unfold CfgIn at II
  have OK := Lib.hid (h.below BX.out)
  have HR := Lib.hid (hh.below BX.out)
  have HG := Lib.hid (hg.below BX.out)
  have HLN := Lib.hid hh.len
  have CG := Lib.hid (great27_any c a n cap xs ga gn gc w1 OK.out HR.out (by unfold maxLen at hmx; omega) hgx)
  unfold Great27 at CG
  have HCAP := Lib.hid hcap
  have HP0 := Lib.hid hp
  obtain ⟨i0, i1, i2, i3, i4, i5, i6, i7, i8, i9, i10, i11⟩ := II.out _ (Below.refl _ _)
  clear h hh hg hcap hmx hgx
  go_enter Try.func4, Try.ntmps4
  go_upto_region 1 with fail
  try rw [hw1]
  try rw [hp]
  clear hw1 hp
  go_wp2_with fail
  refine CG.out.mono ?_
  rintro e w2 ⟨z, rfl, hb2, hsm⟩
  have B2 := Lib.hid hb2
  clear CG i0 i1 i2 i3 i4 i5 i6 i7 i8 i9 i10 i11 hb2
  cases z
  case true =>
    go_wp2_with (first | (go_at_call 8; refine (awake27_any _).mono ?_; rintro e wH ⟨rfl, hbH⟩) | fail)
    go_ret
    exact ⟨rfl, BX.out.trans ((B2.out.trans (hbH.mono B2.out.size)).mono BX.out.size)⟩
  obtain ⟨hn3, hg3, hx3⟩ := hsm rfl
  have HX := Lib.hid (show ∀ x ∈ xs, x.sn ≤ 1000 ∧ x.ln ≤ 1000 from fun x hx => by have := hx3 x hx; omega)
  clear hsm hx3
  have l1 := low_bd n0 20 (by omega)
  have l2 := low_bd b0 30 (by omega)
  have l3 := low_bd fr 50 (by omega)
  have CL1 := Lib.hid (fun w' => low_any n0 20 (by omega) (by omega) w')
  have CL2 := Lib.hid (fun w' => low_any b0 30 (by omega) (by omega) w')
  have CL3 := Lib.hid (fun w' => low_any fr 50 (by omega) (by omega) w')
  obtain ⟨x1, hx1⟩ : ∃ x : Nat, lowV n0 20 = (x : Int) := ⟨(lowV n0 20).toNat, by omega⟩
  obtain ⟨x2, hx2⟩ : ∃ x : Nat, lowV b0 30 = (x : Int) := ⟨(lowV b0 30).toNat, by omega⟩
  obtain ⟨f, hf⟩ : ∃ x : Nat, lowV fr 50 = (x : Int) := ⟨(lowV fr 50).toNat, by omega⟩
  rw [hx1] at CL1 l1
  rw [hx2] at CL2 l2
  rw [hf] at CL3 l3
  obtain ⟨N, hN⟩ : ∃ N : Nat, 1 + x1 = N := ⟨_, rfl⟩
  obtain ⟨b, hb⟩ : ∃ b : Nat, 1 + x2 = b := ⟨_, rfl⟩
  have e1 : IntKind.i64.wrap (1 + (x1 : Int)) = (N : Int) := by rw [IntKind.wrap_i64]; omega
  have e2 : IntKind.i64.wrap (1 + (x2 : Int)) = (b : Int) := by rw [IntKind.wrap_i64]; omega
  have hN1 : 1 ≤ N ∧ N ≤ 20 := by omega
  have hb1 : 1 ≤ b ∧ b ≤ 30 := by omega
  have hf1 : f < 50 := by omega
  have CF := Lib.hid (fun (m : Nat) (z : Bool) (hz : fairF c zs xs f b m = z) (w' : World) (hb' : Below w1.heap.size w1 w') => ffair_any c a n cap xs f b m ga gn gc zs z w' (OK.out.below hb') (HR.out.below hb') (by omega) HCAP.out HX.out (HG.out.below hb') (by omega) (by omega) hz)
  obtain ⟨zf, hzf⟩ : ∃ z, fairF c zs xs f b N = z := ⟨_, rfl⟩
  have HZF := Lib.hid hzf
  have CFN := Lib.hid (CF.out N zf hzf w2 B2.out)
  obtain ⟨i0, i1, i2, i3, i4, i5, i6, i7, i8, i9, i10, i11⟩ := II.out _ B2.out
  clear l1 l2 l3 hx1 hx2 hf hN hb hzf
  go_wp2_with (first | (go_at_call 9; (with_reducible refine (CL1.out _).mono ?_); rintro e w' ⟨rfl, rfl⟩) | (go_at_call 9; (with_reducible refine (CL2.out _).mono ?_); rintro e w' ⟨rfl, rfl⟩) | (go_at_call 9; (with_reducible refine (CL3.out _).mono ?_); rintro e w' ⟨rfl, rfl⟩) | fail)
  refine CFN.out.mono ?_
  rintro e w3 ⟨rfl, hb3⟩
  have B3 := Lib.hid (B2.out.trans (hb3.mono B2.out.size))
  clear CFN i0 i1 i2 i3 i4 i5 i6 i7 i8 i9 i10 i11 hb3 e1 e2 CL1 CL2 CL3
  cases zf
  · go_wp2_with (first | (go_at_call 8; refine (awake27_any _).mono ?_; rintro e wH ⟨rfl, hbH⟩) | fail)
    go_ret
    exact ⟨rfl, BX.out.trans ((B3.out.trans (hbH.mono B3.out.size)).mono BX.out.size)⟩
  have CWN := Lib.hid (fun (i : Nat) (hi : i < N) (w' : World) (hb' : Below w1.heap.size w1 w') => fwindow_any c a n cap xs ((f + i * b : Nat) : Int) (b : Int) ga gn gc zs true w' (OK.out.below hb') (HR.out.below hb') (by omega) HCAP.out HX.out (HG.out.below hb') (by
    have : i * b ≤ 20 * 30 := Nat.mul_le_mul (by omega) hb1.2
    unfold wfZ; simp [Lit.wf, IntKind.min, IntKind.max, IntKind.signed, IntKind.bits]; omega) (by unfold wfZ; simp [Lit.wf, IntKind.min, IntKind.max, IntKind.signed, IntKind.bits]; omega) (fairF_win HZF.out hi))
  go_wp2_with fail
  go_loopw [13] (fun iv wr => ∃ (j : Nat), j ≤ N ∧ iv = .int .i64 j ∧ Hid (Below w1.heap.size w1 wr)) (fun iv _ => N - (intOf iv).toNat)
  case atStart => exact ⟨0, by omega, rfl, B3⟩
  case round =>
    obtain ⟨j, hj, rfl, hB⟩ := hrel
    by_cases hlt : j < N
    · obtain ⟨i0, i1, i2, i3, i4, i5, i6, i7, i8, i9, i10, i11⟩ := II.out _ hB.out
      have CWj := Lib.hid (CWN.out j hlt wr hB.out)
      have hjb : j * b ≤ 20 * 30 := Nat.mul_le_mul (by omega) hb1.2
      obtain ⟨X, hX⟩ : ∃ X, j * b = X := ⟨_, rfl⟩
      have e1 : IntKind.i64.wrap ((j : Int) * (b : Int)) = (X : Int) := by rw [← Int.natCast_mul, hX, IntKind.wrap_i64]; omega
      have e2 : IntKind.i64.wrap ((f : Int) + (X : Int)) = ((f + X : Nat) : Int) := by rw [IntKind.wrap_i64]; omega
      rw [hX] at CWj
      obtain ⟨Y, hY⟩ : ∃ Y : Int, ((f + X : Nat) : Int) = Y := ⟨_, rfl⟩
      rw [hY] at CWj e2
      clear hjb hX hY
      by_cases hj0 : j = 0
      · have d1 : decide ((j : Int) > 0) = false := decide_eq_false (by omega)
        have d1' : decide (0 < j) = false := decide_eq_false (by omega)
        clear hj0
        go_wp2_with (first | (go_at_call 15; refine CWj.out.mono ?_; rintro e w5 ⟨rfl, hb5⟩) | fail)
        have B5 := Lib.hid (hB.out.trans (hb5.mono hB.out.size))
        go_roundw
        case rel => exact ⟨j + 1, by omega, by go_num, B5⟩
        case measure => simp [intOf]; omega
      · have d1 : decide ((j : Int) > 0) = true := decide_eq_true (by omega)
        have d1' : decide (0 < j) = true := decide_eq_true (by omega)
        have CFj := Lib.hid (CF.out j true (fairF_less HZF.out (by omega) (by omega)))
        go_wp2_with (first | (go_at_call 15; refine CWj.out.mono ?_; rintro e w5 ⟨rfl, hb5⟩; have hb6 := hB.out.trans (hb5.mono hB.out.size); obtain ⟨j0, j1, j2, j3, j4, j5, j6, j7, j8, j9, j10, j11⟩ := II.out _ hb6) | (go_at_call 14; refine (CFj.out _ hb6).mono ?_; rintro e w7 ⟨rfl, hb7⟩) | fail)
        have B7 := Lib.hid (hb6.trans (hb7.mono hb6.size))
        go_roundw
        case rel => exact ⟨j + 1, by omega, by go_num, B7⟩
        case measure => simp [intOf]; omega
    · obtain rfl : N = j := by omega
      have hlo := fairF_long HZF.out
      rw [HLN.out] at hlo
      have hNb : N * b ≤ 20 * 30 := Nat.mul_le_mul hN1.2 hb1.2
      obtain ⟨X, hX⟩ : ∃ X, N * b = X := ⟨_, rfl⟩
      rw [hX] at hlo hNb
      have e1 : IntKind.i64.wrap ((N : Int) * (b : Int)) = (X : Int) := by rw [← Int.natCast_mul, hX, IntKind.wrap_i64]; omega
      have e2 : IntKind.i64.wrap ((f : Int) + (X : Int)) = (f : Int) + (X : Int) := by rw [IntKind.wrap_i64]; omega
      have d1 : decide ((n : Int) ≥ (f : Int) + (X : Int)) = true := decide_eq_true (by omega)
      have CF0 := Lib.hid (CF.out 0 false (fairF_no c zs xs f b) wr hB.out)
      obtain ⟨i0, i1, i2, i3, i4, i5, i6, i7, i8, i9, i10, i11⟩ := II.out _ hB.out
      clear hX hNb
      go_wp2_with (first | (go_at_call 14; refine CF0.out.mono ?_; rintro e w7 ⟨rfl, hb7⟩) | (go_at_call 8; refine (awake27_any _).mono ?_; rintro e wH ⟨rfl, hbH⟩) | fail)
      go_ret
      have hb8 := hB.out.trans (hb7.mono hB.out.size)
      exact ⟨rfl, BX.out.trans ((hb8.trans (hbH.mono hb8.size)).mono BX.out.size)⟩
open Go.ChangeShapes Go.WideShapes Go.ChangeAt in
theorem fairFewer_walk {H : Type} {enc : TypeId × Value → H} (W : World) (base : Nat) (v0 v1 v2 v3 v4 v5 : Value) (d0 d1 d2 d3 d4 d5 : DataW H) (p0 p1 p2 p3 p4 p5 : List MemPlace)
    (h0 : DataW.Trod enc Try.prog W 0 (fun _ => true) true 25 v0 d0 p0) (h1 : DataW.Trod enc Try.prog W 0 (fun _ => true) true 32 v1 d1 p1) (h2 : DataW.Trod enc Try.prog W 0 (fun _ => true) true 3 v2 d2 p2) (h3 : DataW.Trod enc Try.prog W 0 (fun _ => true) true 3 v3 d3 p3) (h4 : DataW.Trod enc Try.prog W 0 (fun _ => true) true 3 v4 d4 p4) (h5 : DataW.Trod enc Try.prog W 0 (fun _ => true) true 33 v5 d5 p5)
    (o0 : Value.okWide Try.prog W .any base 25 v0) (o1 : Value.okWide Try.prog W .any base 32 v1) (o2 : Value.okWide Try.prog W .any base 3 v2) (o3 : Value.okWide Try.prog W .any base 3 v3) (o4 : Value.okWide Try.prog W .any base 3 v4) (o5 : Value.okWide Try.prog W .any base 33 v5) :
    Calls Try.prog 4 #[v0, v1, v2, v3, v4, v5] W fun e w' => e = .returned (.bool true) ∧ RowKit.Below W.heap.size W w' := by
  obtain ⟨c, rfl, ok⟩ := open_cfg o0 h0
  obtain ⟨a, n, cap, xs, rfl, hh, -, hc1, hc2⟩ := open_recs_cap o1 h1
  obtain ⟨x2, rfl, rfl, rfl, b2⟩ := open_int Try.underlying3 o2 h2
  obtain ⟨x3, rfl, rfl, rfl, b3⟩ := open_int Try.underlying3 o3 h3
  obtain ⟨x4, rfl, rfl, rfl, b4⟩ := open_int Try.underlying3 o4 h4
  obtain ⟨ga, gn, gc, zs, rfl, hg, -, hg1, hg2, -⟩ := open_ints_arg (k := .i64) Try.underlying33 Try.underlying3 (by kernel_rfl) o5 h5
  exact fairFewer_any c a n cap xs x2 x3 x4 ga gn gc zs W ok hh hc1 hc2 hg (by unfold maxLen at hg2; omega)
end Go.Proofs.Yteloiibejkflhaa
