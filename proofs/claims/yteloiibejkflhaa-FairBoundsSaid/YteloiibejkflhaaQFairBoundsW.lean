/- FairBounds (by gen/fabounds.py) -/
import Derived.Test.YteloiibejkflhaaQFa10
import Derived.Test.YteloiibejkflhaaQLowV
import Derived.Test.YteloiibejkflhaaQOpCfg
namespace Go.Proofs.Yteloiibejkflhaa
open Go.RowKit
set_option linter.unusedVariables false
set_option maxRecDepth 20000
theorem boundV_at {c : Cfg} (hm : c.may = true) (n : Int) (h1 : 1 ≤ n) (h2 : n ≤ 10) : boundV c n = 4 + (n + 1) * eachV c := by
  unfold boundV
  rw [hm, decide_eq_true ⟨h1, h2⟩]
  rfl
theorem boundV_no {c : Cfg} (n : Int) (h : ¬ (1 ≤ n ∧ n ≤ 10)) : boundV c n = 0 := by
  unfold boundV
  rw [decide_eq_false h, Bool.and_false]
  rfl
set_option maxHeartbeats 12800000 in
set_option maxRecDepth 100000 in
theorem fairBounds_any (c : Cfg) (n : Int) (w : World) (h : CfgOk w c) :
    Calls Try.prog 3 #[.agg #[.slice c.wa c.wn c.wc, .slice c.ka c.kn c.kc, .int .i64 c.W, .int .i64 c.C, .int .i64 c.S, .int .i64 c.B, .int .i64 c.L, .int .i64 c.H, .int .i64 c.F, .int .i64 c.P, .int .i64 c.J, .int .i64 c.N], .int .i64 n] w fun e w' => e = .returned (.bool true) ∧ Below w.heap.size w w' := by
  have BX := Lib.hid (below_one w (.cells #[.slice c.wa c.wn c.wc, .slice c.ka c.kn c.kc, .int .i64 c.W, .int .i64 c.C, .int .i64 c.S, .int .i64 c.B, .int .i64 c.L, .int .i64 c.H, .int .i64 c.F, .int .i64 c.P, .int .i64 c.J, .int .i64 c.N] 25))
  have IN := Lib.hid (cfgIn_new w c w.heap.size 25 (0, 0) rfl)
  obtain ⟨w1, hw1⟩ : ∃ w1, w.alloc (.cells #[.slice c.wa c.wn c.wc, .slice c.ka c.kn c.kc, .int .i64 c.W, .int .i64 c.C, .int .i64 c.S, .int .i64 c.B, .int .i64 c.L, .int .i64 c.H, .int .i64 c.F, .int .i64 c.P, .int .i64 c.J, .int .i64 c.N] 25) = w1 := ⟨_, rfl⟩
  obtain ⟨p, hp⟩ : ∃ p, w.heap.size = p := ⟨_, rfl⟩
  rw [hw1] at BX
  rw [hw1, hp] at IN
  have OK := Lib.hid (h.below BX.out)
  have II := Lib.hid (fun (w' : World) (hb : Below w1.heap.size w1 w') => IN.out.below hb)
  unfold CfgIn at II
  obtain ⟨m, hm⟩ : ∃ m, c.may = m := ⟨_, rfl⟩
  have HM0 := Lib.hid hm
  have hkn : m = true → c.kn ≤ 5 := fun e => may_kn (e ▸ hm) h
  have HKN := Lib.hid hkn
  have CG := Lib.hid (greatC_any c w1 OK.out)
  have CM := Lib.hid (fun (w' : World) (hb : Below w1.heap.size w1 w') => may_cfg c m w' (OK.out.below hb) hm)
  have HP0 := Lib.hid hp
  obtain ⟨i0, i1, i2, i3, i4, i5, i6, i7, i8, i9, i10, i11⟩ := II.out _ (Below.refl _ _)
  clear h hm hkn
  go_enter Try.func3, Try.ntmps3
  go_upto_region 1 with fail
  try rw [hw1]
  try rw [hp]
  clear hw1 hp
  go_wp2_with fail
  refine CG.out.mono ?_
  rintro e w2 ⟨z, rfl, hb2⟩
  have B2 := Lib.hid hb2
  clear CG i0 i1 i2 i3 i4 i5 i6 i7 i8 i9 i10 i11
  cases z
  case true =>
    clear hb2
    go_wp2_with (first | (go_at_call 8; refine (awake27_any _).mono ?_; rintro e wH ⟨rfl, hbH⟩) | fail)
    go_ret
    exact ⟨rfl, BX.out.trans ((B2.out.trans (hbH.mono B2.out.size)).mono BX.out.size)⟩
  obtain ⟨i0, i1, i2, i3, i4, i5, i6, i7, i8, i9, i10, i11⟩ := II.out _ hb2
  clear hb2
  go_wp2_with fail
  refine (CM.out _ B2.out).mono ?_
  rintro e w3 ⟨rfl, hb3⟩
  have B3 := Lib.hid (B2.out.trans (hb3.mono B2.out.size))
  clear CM i0 i1 i2 i3 i4 i5 i6 i7 i8 i9 i10 i11 hb3
  cases m
  · go_wp2_with (first | (go_at_call 8; refine (awake27_any _).mono ?_; rintro e wH ⟨rfl, hbH⟩) | fail)
    go_ret
    exact ⟨rfl, BX.out.trans ((B3.out.trans (hbH.mono B3.out.size)).mono BX.out.size)⟩
  have hkn := HKN.out rfl
  have hlo := low_bd n 9 (by omega)
  have CLW := Lib.hid (low_any n 9 (by omega) (by omega) w3)
  obtain ⟨l, hl⟩ : ∃ l, lowV n 9 = l := ⟨_, rfl⟩
  rw [hl] at hlo CLW
  obtain ⟨u, hu⟩ : ∃ u, 1 + l = u := ⟨_, rfl⟩
  have e0 : IntKind.i64.wrap (1 + l) = u := by rw [← hu]; exact IntWalk.i64_in _ (by omega)
  obtain ⟨p1, p2, p3⟩ := each_bd c HM0.out hkn
  have hbm := most8_bd c.P c.J
  have HEE := Lib.hid (show eachV c = c.C * (most8 c.P c.J + 2) + c.S * ((c.kn + 1 : Nat) : Int) + 6 from rfl)
  have b1 := boundV_at HM0.out u (by omega) (by omega)
  have b2 := boundV_at HM0.out (u + 1) (by omega) (by omega)
  have CMo := Lib.hid (fun (w' : World) => most8_any (.slice c.wa c.wn c.wc) (.slice c.ka c.kn c.kc) (.int .i64 c.W) (.int .i64 c.C) (.int .i64 c.S) (.int .i64 c.B) (.int .i64 c.L) (.int .i64 c.H) (.int .i64 c.F) (.int .i64 c.N) c.P c.J w')
  have CS := Lib.hid (fun (w' : World) (hb : Below w1.heap.size w1 w') => shards_any c w' (OK.out.below hb) HM0.out)
  have CB1 := Lib.hid (fun (w' : World) (hb : Below w1.heap.size w1 w') => fbound_any c u w' (OK.out.below hb))
  have CB2 := Lib.hid (fun (w' : World) (hb : Below w1.heap.size w1 w') => fbound_any c (u + 1) w' (OK.out.below hb))
  have CB3 := Lib.hid (fun (w' : World) (hb : Below w1.heap.size w1 w') => fbound_any c 0 w' (OK.out.below hb))
  have CB4 := Lib.hid (fun (w' : World) (hb : Below w1.heap.size w1 w') => fbound_any c 11 w' (OK.out.below hb))
  rw [boundV_no 0 (by omega)] at CB3
  rw [boundV_no 11 (by omega)] at CB4
  obtain ⟨M, hM⟩ : ∃ M, most8 c.P c.J = M := ⟨_, rfl⟩
  rw [hM] at CMo p1 hbm HEE
  obtain ⟨E, hE⟩ : ∃ E, eachV c = E := ⟨_, rfl⟩
  rw [hE] at p3 HEE b1 b2
  have q1 : 0 ≤ (u + 1) * E ∧ (u + 1) * E ≤ 10 * 6036 := prod_bd (u + 1) E 10 6036 (by omega) p3.1 (by omega) p3.2
  have q2 : (u + 1 + 1) * E = (u + 1) * E + E := by rw [Int.add_mul (u + 1) 1 E, Int.one_mul]
  rw [q2] at b2
  obtain ⟨X, hX⟩ : ∃ X, (u + 1) * E = X := ⟨_, rfl⟩
  rw [hX] at b1 b2 q1
  rw [b1] at CB1
  rw [b2] at CB2
  obtain ⟨V1, hV1⟩ : ∃ V1, 4 + X = V1 := ⟨_, rfl⟩
  obtain ⟨V2, hV2⟩ : ∃ V2, 4 + (X + E) = V2 := ⟨_, rfl⟩
  rw [hV1] at CB1
  rw [hV2] at CB2
  have e1 : IntKind.i64.wrap (M + 2) = M + 2 := IntWalk.i64_in _ (by omega)
  have e2 : IntKind.i64.wrap (c.C * (M + 2)) = c.C * (M + 2) := IntWalk.i64_in _ (by omega)
  have e3 : IntKind.i64.wrap (c.S * ((c.kn + 1 : Nat) : Int)) = c.S * ((c.kn + 1 : Nat) : Int) := IntWalk.i64_in _ (by omega)
  have e4 : IntKind.i64.wrap (c.C * (M + 2) + c.S * ((c.kn + 1 : Nat) : Int)) = c.C * (M + 2) + c.S * ((c.kn + 1 : Nat) : Int) := IntWalk.i64_in _ (by omega)
  have e5 : IntKind.i64.wrap (c.C * (M + 2) + c.S * ((c.kn + 1 : Nat) : Int) + 6) = E := by rw [HEE.out]; exact IntWalk.i64_in _ (by omega)
  have e6 : IntKind.i64.wrap (u + 1) = u + 1 := IntWalk.i64_in _ (by omega)
  have e7 : IntKind.i64.wrap ((u + 1) * E) = X := by rw [hX]; exact IntWalk.i64_in _ (by omega)
  have e8 : IntKind.i64.wrap (4 + X) = V1 := by rw [← hV1]; exact IntWalk.i64_in _ (by omega)
  have e9 : IntKind.i64.wrap (V2 - V1) = E := by rw [← hV2, ← hV1, show 4 + (X + E) - (4 + X) = E by omega]; exact IntWalk.i64_in _ (by omega)
  have SB := Lib.hid (show Below w1.heap.size w1 w3 ∧ w3.cell? ⟨p, 0, none⟩ = some (.slice c.wa c.wn c.wc) ∧ w3.cell? ⟨p, 1, none⟩ = some (.slice c.ka c.kn c.kc) ∧ w3.cell? ⟨p, 2, none⟩ = some (.int .i64 c.W) ∧ w3.cell? ⟨p, 3, none⟩ = some (.int .i64 c.C) ∧ w3.cell? ⟨p, 4, none⟩ = some (.int .i64 c.S) ∧ w3.cell? ⟨p, 5, none⟩ = some (.int .i64 c.B) ∧ w3.cell? ⟨p, 6, none⟩ = some (.int .i64 c.L) ∧ w3.cell? ⟨p, 7, none⟩ = some (.int .i64 c.H) ∧ w3.cell? ⟨p, 8, none⟩ = some (.int .i64 c.F) ∧ w3.cell? ⟨p, 9, none⟩ = some (.int .i64 c.P) ∧ w3.cell? ⟨p, 10, none⟩ = some (.int .i64 c.J) ∧ w3.cell? ⟨p, 11, none⟩ = some (.int .i64 c.N) from ⟨B3.out, II.out _ B3.out⟩)
  clear p1 p2 p3 hbm hM hE q1 q2 hX hV1 hV2 b1 b2 hu hl hlo hkn
  obtain ⟨N, hN⟩ : ∃ N : Int, ((c.kn + 1 : Nat) : Int) = N := ⟨_, rfl⟩
  rw [hN] at e3 e4 e5 CS
  clear hN
  go_wp2_with (first | (go_at_call 9; refine CLW.out.mono ?_; rintro e w' ⟨rfl, rfl⟩) | fail)
  go_region_held3 (fun w' => Below w1.heap.size w1 w' ∧ w'.cell? ⟨p, 0, none⟩ = some (.slice c.wa c.wn c.wc) ∧ w'.cell? ⟨p, 1, none⟩ = some (.slice c.ka c.kn c.kc) ∧ w'.cell? ⟨p, 2, none⟩ = some (.int .i64 c.W) ∧ w'.cell? ⟨p, 3, none⟩ = some (.int .i64 c.C) ∧ w'.cell? ⟨p, 4, none⟩ = some (.int .i64 c.S) ∧ w'.cell? ⟨p, 5, none⟩ = some (.int .i64 c.B) ∧ w'.cell? ⟨p, 6, none⟩ = some (.int .i64 c.L) ∧ w'.cell? ⟨p, 7, none⟩ = some (.int .i64 c.H) ∧ w'.cell? ⟨p, 8, none⟩ = some (.int .i64 c.F) ∧ w'.cell? ⟨p, 9, none⟩ = some (.int .i64 c.P) ∧ w'.cell? ⟨p, 10, none⟩ = some (.int .i64 c.J) ∧ w'.cell? ⟨p, 11, none⟩ = some (.int .i64 c.N))
    (first | assumption | exact ⟨SB.out.1.drew, SB.out.2⟩ | exact s12_carry (by assumption) (by assumption))
    (first
      | (go_at_call 10; (with_reducible refine (CB1.out _ (And.left (by assumption))).mono ?_); rintro e w' ⟨rfl, hba⟩)
      | (go_at_call 10; (with_reducible refine (CB2.out _ (And.left (by assumption))).mono ?_); rintro e w' ⟨rfl, hbb⟩)
      | fail)
  all_goals
    have hS : Below w1.heap.size w1 w' ∧ w'.cell? ⟨p, 0, none⟩ = some (.slice c.wa c.wn c.wc) ∧ w'.cell? ⟨p, 1, none⟩ = some (.slice c.ka c.kn c.kc) ∧ w'.cell? ⟨p, 2, none⟩ = some (.int .i64 c.W) ∧ w'.cell? ⟨p, 3, none⟩ = some (.int .i64 c.C) ∧ w'.cell? ⟨p, 4, none⟩ = some (.int .i64 c.S) ∧ w'.cell? ⟨p, 5, none⟩ = some (.int .i64 c.B) ∧ w'.cell? ⟨p, 6, none⟩ = some (.int .i64 c.L) ∧ w'.cell? ⟨p, 7, none⟩ = some (.int .i64 c.H) ∧ w'.cell? ⟨p, 8, none⟩ = some (.int .i64 c.F) ∧ w'.cell? ⟨p, 9, none⟩ = some (.int .i64 c.P) ∧ w'.cell? ⟨p, 10, none⟩ = some (.int .i64 c.J) ∧ w'.cell? ⟨p, 11, none⟩ = some (.int .i64 c.N) := by assumption
    have SC := Lib.hid hS
    clear hS CB1 CB2 SB hba hbb
    generalize w' = w4 at *
    go_wp2_with fail
    go_region_held3 (fun w' => Below w1.heap.size w1 w' ∧ w'.cell? ⟨p, 0, none⟩ = some (.slice c.wa c.wn c.wc) ∧ w'.cell? ⟨p, 1, none⟩ = some (.slice c.ka c.kn c.kc) ∧ w'.cell? ⟨p, 2, none⟩ = some (.int .i64 c.W) ∧ w'.cell? ⟨p, 3, none⟩ = some (.int .i64 c.C) ∧ w'.cell? ⟨p, 4, none⟩ = some (.int .i64 c.S) ∧ w'.cell? ⟨p, 5, none⟩ = some (.int .i64 c.B) ∧ w'.cell? ⟨p, 6, none⟩ = some (.int .i64 c.L) ∧ w'.cell? ⟨p, 7, none⟩ = some (.int .i64 c.H) ∧ w'.cell? ⟨p, 8, none⟩ = some (.int .i64 c.F) ∧ w'.cell? ⟨p, 9, none⟩ = some (.int .i64 c.P) ∧ w'.cell? ⟨p, 10, none⟩ = some (.int .i64 c.J) ∧ w'.cell? ⟨p, 11, none⟩ = some (.int .i64 c.N))
      (first | assumption | exact ⟨SC.out.1.drew, SC.out.2⟩ | exact s12_carry (by assumption) (by assumption))
      (first
        | (go_at_call 11; (with_reducible refine (CMo.out _).mono ?_); rintro e w' ⟨rfl, hbm⟩)
        | (go_at_call 12; (with_reducible refine (CS.out _ (And.left (by assumption))).mono ?_); rintro e w' ⟨rfl, hbs⟩)
        | fail)
    all_goals
      have hS : Below w1.heap.size w1 w' ∧ w'.cell? ⟨p, 0, none⟩ = some (.slice c.wa c.wn c.wc) ∧ w'.cell? ⟨p, 1, none⟩ = some (.slice c.ka c.kn c.kc) ∧ w'.cell? ⟨p, 2, none⟩ = some (.int .i64 c.W) ∧ w'.cell? ⟨p, 3, none⟩ = some (.int .i64 c.C) ∧ w'.cell? ⟨p, 4, none⟩ = some (.int .i64 c.S) ∧ w'.cell? ⟨p, 5, none⟩ = some (.int .i64 c.B) ∧ w'.cell? ⟨p, 6, none⟩ = some (.int .i64 c.L) ∧ w'.cell? ⟨p, 7, none⟩ = some (.int .i64 c.H) ∧ w'.cell? ⟨p, 8, none⟩ = some (.int .i64 c.F) ∧ w'.cell? ⟨p, 9, none⟩ = some (.int .i64 c.P) ∧ w'.cell? ⟨p, 10, none⟩ = some (.int .i64 c.J) ∧ w'.cell? ⟨p, 11, none⟩ = some (.int .i64 c.N) := by assumption
      have hbE := hS.1
      have HBE := Lib.hid hS.1
      obtain ⟨-, i0, i1, i2, i3, i4, i5, i6, i7, i8, i9, i10, i11⟩ := hS
      go_wp2_with (first
        | (go_at_call 10; (with_reducible refine (CB3.out _ HBE.out).mono ?_); rintro e wF ⟨rfl, hbF0⟩; have hbF := HBE.out.trans (hbF0.mono HBE.out.size); obtain ⟨j0, j1, j2, j3, j4, j5, j6, j7, j8, j9, j10, j11⟩ := II.out _ hbF)
        | (go_at_call 10; (with_reducible refine (CB4.out _ hbF).mono ?_); rintro e wG ⟨rfl, hbG0⟩; have hbG := hbF.trans (hbG0.mono hbF.size))
        | (go_at_call 8; refine (awake27_any _).mono ?_; rintro e wH ⟨rfl, hbH⟩) | fail)
      go_ret
      exact ⟨rfl, BX.out.trans ((hbG.trans (hbH.mono hbG.size)).mono BX.out.size)⟩
open Go.ChangeShapes Go.WideShapes Go.ChangeAt in
theorem fairBounds_walk {H : Type} {enc : TypeId × Value → H} (W : World) (base : Nat) (v0 v1 : Value) (d0 d1 : DataW H) (p0 p1 : List MemPlace)
    (h0 : DataW.Trod enc Try.prog W 0 (fun _ => true) true 25 v0 d0 p0) (h1 : DataW.Trod enc Try.prog W 0 (fun _ => true) true 3 v1 d1 p1)
    (o0 : Value.okWide Try.prog W .any base 25 v0) (o1 : Value.okWide Try.prog W .any base 3 v1) :
    Calls Try.prog 3 #[v0, v1] W fun e w' => e = .returned (.bool true) ∧ RowKit.Below W.heap.size W w' := by
  obtain ⟨c, rfl, ok⟩ := open_cfg o0 h0
  obtain ⟨x1, rfl, rfl, rfl, b1⟩ := open_int Try.underlying3 o1 h1
  exact fairBounds_any c x1 W ok
end Go.Proofs.Yteloiibejkflhaa
