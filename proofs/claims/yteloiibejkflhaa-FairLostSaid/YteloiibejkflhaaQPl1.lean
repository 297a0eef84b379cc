/- place: a configuration by value; May -/
import Derived.Test.YteloiibejkflhaaQKp6
import Derived.Test.YteloiibejkflhaaQKp7
import Derived.Test.YteloiibejkflhaaQWa2
import Derived.Test.YteloiibejkflhaaPkA
namespace Go.Proofs.Yteloiibejkflhaa
open Go.RowKit
set_option linter.unusedVariables false
set_option maxRecDepth 20000
/-- a configuration, and where its words and cuts lie -/
structure Cfg where
  wa : Option Addr
  wn : Nat
  wc : Nat
  ka : Option Addr
  kn : Nat
  kc : Nat
  W : Int
  C : Int
  S : Int
  B : Int
  L : Int
  H : Int
  F : Int
  P : Int
  J : Int
  N : Int
  ws : List Tx
  ks : List KV
def CfgOk (w : World) (c : Cfg) : Prop := HoldsT w c.wa c.wn c.ws ∧ (c.wa = none → c.wn = 0 ∧ c.wc = 0) ∧ c.wn ≤ c.wc ∧ c.wn ≤ 9223372036854775807 ∧ (∀ t ∈ c.ws, t.size ≤ 9223372036854775807) ∧ HoldsK w c.ka c.kn c.ks ∧ c.kn ≤ 9223372036854775807 ∧ ∀ k ∈ c.ks, KeyOk k
theorem CfgOk.below {w w' : World} {c : Cfg} (h : CfgOk w c) (hb : Below w.heap.size w w') : CfgOk w' c := ⟨h.1.below hb, h.2.1, h.2.2.1, h.2.2.2.1, h.2.2.2.2.1, h.2.2.2.2.2.1.below hb, h.2.2.2.2.2.2⟩
def CfgIn (w : World) (p : Nat) (c : Cfg) : Prop := w.cell? ⟨p, 0, none⟩ = some (.slice c.wa c.wn c.wc) ∧ w.cell? ⟨p, 1, none⟩ = some (.slice c.ka c.kn c.kc) ∧ w.cell? ⟨p, 2, none⟩ = some (.int .i64 c.W) ∧ w.cell? ⟨p, 3, none⟩ = some (.int .i64 c.C) ∧ w.cell? ⟨p, 4, none⟩ = some (.int .i64 c.S) ∧ w.cell? ⟨p, 5, none⟩ = some (.int .i64 c.B) ∧ w.cell? ⟨p, 6, none⟩ = some (.int .i64 c.L) ∧ w.cell? ⟨p, 7, none⟩ = some (.int .i64 c.H) ∧ w.cell? ⟨p, 8, none⟩ = some (.int .i64 c.F) ∧ w.cell? ⟨p, 9, none⟩ = some (.int .i64 c.P) ∧ w.cell? ⟨p, 10, none⟩ = some (.int .i64 c.J) ∧ w.cell? ⟨p, 11, none⟩ = some (.int .i64 c.N)
theorem CfgIn.of {w w' : World} {p : Nat} {c : Cfg} (h : CfgIn w p c) (e : ∀ i, w'.cell? ⟨p, i, none⟩ = w.cell? ⟨p, i, none⟩) : CfgIn w' p c := by
  unfold CfgIn at *
  rw [e, e, e, e, e, e, e, e, e, e, e, e]; exact h
theorem CfgIn.below {w w' : World} {p : Nat} {c : Cfg} (h : CfgIn w p c) (hb : Below w.heap.size w w') : CfgIn w' p c := h.of fun i => hb.cell (p := ⟨p, i, none⟩) (lt_of_cell h.1)
theorem cfgIn_new (w : World) (c : Cfg) (p : Nat) (e : TypeId) (fr : Nat × Nat) (hp : p = w.heap.size) : CfgIn (w.alloc (.cells #[.slice c.wa c.wn c.wc, .slice c.ka c.kn c.kc, .int .i64 c.W, .int .i64 c.C, .int .i64 c.S, .int .i64 c.B, .int .i64 c.L, .int .i64 c.H, .int .i64 c.F, .int .i64 c.P, .int .i64 c.J, .int .i64 c.N] e fr)) p c := by
  subst hp
  unfold CfgIn
  refine ⟨?_, ?_, ?_, ?_, ?_, ?_, ?_, ?_, ?_, ?_, ?_, ?_⟩ <;> (rw [World.cell?_alloc_mark]; rfl)
theorem pin_lit (n lo hi : Int) (c : Bool) (w : World) (h : decide (lo ≤ n ∧ n ≤ hi) = c) :
    Calls Try.prog 19 #[.int .i64 n, .int .i64 lo, .int .i64 hi] w fun e w' => e = .returned (.bool c) ∧ w = w' := by
  subst h
  go_enter Try.func19, Try.ntmps19
  go_wp2
  all_goals (go_ret; exact ⟨ret_bool (by simp; try omega), rfl⟩)
/-- may it be? -/
def Cfg.may (c : Cfg) : Bool := decide (goodV c.ws = 0) && (decide (goodK c.ks = 0) && (decide (1 ≤ c.W ∧ c.W ≤ 5) && (decide (1 ≤ c.C ∧ c.C ≤ min 3 c.W) && (decide (1 ≤ c.S ∧ c.S ≤ 4) && (decide (1 ≤ c.B ∧ c.B ≤ 5) && (decide (1 ≤ c.L ∧ c.L ≤ 1000) && (decide (1 ≤ c.H ∧ c.H ≤ 1000) && (decide (1 ≤ c.F ∧ c.F ≤ 10) && (decide (c.F ≤ c.P ∧ c.P ≤ 50) && (decide (0 ≤ c.J ∧ c.J ≤ 10) && (decide (8 ≤ c.N ∧ c.N ≤ 64))))))))))))
set_option maxHeartbeats 6400000 in
set_option maxRecDepth 100000 in
theorem may_cfg (c : Cfg) (z : Bool) (w : World) (h : CfgOk w c) (hz : c.may = z) :
    Calls Try.prog 7 #[.agg #[.slice c.wa c.wn c.wc, .slice c.ka c.kn c.kc, .int .i64 c.W, .int .i64 c.C, .int .i64 c.S, .int .i64 c.B, .int .i64 c.L, .int .i64 c.H, .int .i64 c.F, .int .i64 c.P, .int .i64 c.J, .int .i64 c.N]] w fun e w' => e = .returned (.bool z) ∧ Below w.heap.size w w' := by
  obtain ⟨v1, hv1⟩ : ∃ v, goodV c.ws = v := ⟨_, rfl⟩
  obtain ⟨v2, hv2⟩ : ∃ v, goodK c.ks = v := ⟨_, rfl⟩
  unfold Cfg.may at hz
  rw [hv1, hv2] at hz
  obtain ⟨z0, h0⟩ : ∃ z, decide (v1 = 0) = z := ⟨_, rfl⟩
  obtain ⟨z1, h1⟩ : ∃ z, decide (v2 = 0) = z := ⟨_, rfl⟩
  obtain ⟨z2, h2⟩ : ∃ z, decide (1 ≤ c.W ∧ c.W ≤ 5) = z := ⟨_, rfl⟩
  obtain ⟨z3, h3⟩ : ∃ z, decide (1 ≤ c.C ∧ c.C ≤ min 3 c.W) = z := ⟨_, rfl⟩
  obtain ⟨z4, h4⟩ : ∃ z, decide (1 ≤ c.S ∧ c.S ≤ 4) = z := ⟨_, rfl⟩
  obtain ⟨z5, h5⟩ : ∃ z, decide (1 ≤ c.B ∧ c.B ≤ 5) = z := ⟨_, rfl⟩
  obtain ⟨z6, h6⟩ : ∃ z, decide (1 ≤ c.L ∧ c.L ≤ 1000) = z := ⟨_, rfl⟩
  obtain ⟨z7, h7⟩ : ∃ z, decide (1 ≤ c.H ∧ c.H ≤ 1000) = z := ⟨_, rfl⟩
  obtain ⟨z8, h8⟩ : ∃ z, decide (1 ≤ c.F ∧ c.F ≤ 10) = z := ⟨_, rfl⟩
  obtain ⟨z9, h9⟩ : ∃ z, decide (c.F ≤ c.P ∧ c.P ≤ 50) = z := ⟨_, rfl⟩
  obtain ⟨z10, h10⟩ : ∃ z, decide (0 ≤ c.J ∧ c.J ≤ 10) = z := ⟨_, rfl⟩
  obtain ⟨z11, h11⟩ : ∃ z, decide (8 ≤ c.N ∧ c.N ≤ 64) = z := ⟨_, rfl⟩
  rw [h0, h1, h2, h3, h4, h5, h6, h7, h8, h9, h10, h11] at hz
  have HZ := Lib.hid hz
  have V1 := Lib.hid hv1; have V2 := Lib.hid hv2
  have H2 := Lib.hid h2
  have H3 := Lib.hid h3
  have H4 := Lib.hid h4
  have H5 := Lib.hid h5
  have H6 := Lib.hid h6
  have H7 := Lib.hid h7
  have H8 := Lib.hid h8
  have H9 := Lib.hid h9
  have H10 := Lib.hid h10
  have H11 := Lib.hid h11
  have e0 : (v1 == 0) = z0 := by rw [← h0]; rfl
  have e1 : (v2 == 0) = z1 := by rw [← h1]; rfl
  have OK := Lib.hid (h.below (below_one w (.cells #[.slice c.wa c.wn c.wc, .slice c.ka c.kn c.kc, .int .i64 c.W, .int .i64 c.C, .int .i64 c.S, .int .i64 c.B, .int .i64 c.L, .int .i64 c.H, .int .i64 c.F, .int .i64 c.P, .int .i64 c.J, .int .i64 c.N] 25)))
  have BX := Lib.hid (below_one w (.cells #[.slice c.wa c.wn c.wc, .slice c.ka c.kn c.kc, .int .i64 c.W, .int .i64 c.C, .int .i64 c.S, .int .i64 c.B, .int .i64 c.L, .int .i64 c.H, .int .i64 c.F, .int .i64 c.P, .int .i64 c.J, .int .i64 c.N] 25))
  have IN := Lib.hid (cfgIn_new w c w.heap.size 25 (0, 0) rfl)
  clear hz hv1 hv2 h0 h1 h2 h3 h4 h5 h6 h7 h8 h9 h10 h11 h
  go_enter Try.func7, Try.ntmps7
  go_wp2_with fail
  refine (good_any' c.wa c.wn c.wc c.ws _ OK.out.1 OK.out.2.2.2.1 OK.out.2.2.2.2.1).mono ?_
  rw [V1.out]
  rintro e w2 ⟨rfl, hb2⟩
  have I2 := Lib.hid (IN.out.below hb2)
  have OK2 := Lib.hid (OK.out.below hb2)
  have B2 := Lib.hid (BX.out.trans (hb2.mono BX.out.size))
  clear hb2
  have hI := I2.out
  unfold CfgIn at hI
  obtain ⟨i0, i1, i2, i3, i4, i5, i6, i7, i8, i9, i10, i11⟩ := hI
  cases z0
  · go_wp2_with fail
    go_ret
    exact ⟨by rw [← HZ.out]; rfl, B2.out⟩
  go_wp2_with fail
  refine (pgood_any c.ka c.kn c.kc c.ks _ OK2.out.2.2.2.2.2.1 OK2.out.2.2.2.2.2.2.1 OK2.out.2.2.2.2.2.2.2).mono ?_
  rw [V2.out]
  rintro e w3 ⟨rfl, hb3⟩
  have I3 := Lib.hid (I2.out.below hb3)
  have BZ := Lib.hid (B2.out.trans (hb3.mono B2.out.size))
  clear hb3 i0 i1 i2 i3 i4 i5 i6 i7 i8 i9 i10 i11
  have hI := I3.out
  unfold CfgIn at hI
  obtain ⟨i0, i1, i2, i3, i4, i5, i6, i7, i8, i9, i10, i11⟩ := hI
  cases z1
  · go_wp2_with fail
    go_ret
    exact ⟨by rw [← HZ.out]; rfl, BZ.out⟩
  go_wp2_with fail
  refine (pin_lit c.W 1 5 z2 _ H2.out).mono ?_
  rintro e w' ⟨rfl, rfl⟩
  cases z2
  · go_wp2_with fail
    go_ret
    exact ⟨by rw [← HZ.out]; rfl, BZ.out⟩
  go_wp2_with fail
  refine (pin_lit c.C 1 (min 3 c.W) z3 _ H3.out).mono ?_
  rintro e w' ⟨rfl, rfl⟩
  cases z3
  · go_wp2_with fail
    go_ret
    exact ⟨by rw [← HZ.out]; rfl, BZ.out⟩
  go_wp2_with fail
  refine (pin_lit c.S 1 4 z4 _ H4.out).mono ?_
  rintro e w' ⟨rfl, rfl⟩
  cases z4
  · go_wp2_with fail
    go_ret
    exact ⟨by rw [← HZ.out]; rfl, BZ.out⟩
  go_wp2_with fail
  refine (pin_lit c.B 1 5 z5 _ H5.out).mono ?_
  rintro e w' ⟨rfl, rfl⟩
  cases z5
  · go_wp2_with fail
    go_ret
    exact ⟨by rw [← HZ.out]; rfl, BZ.out⟩
  go_wp2_with fail
  refine (pin_lit c.L 1 1000 z6 _ H6.out).mono ?_
  rintro e w' ⟨rfl, rfl⟩
  cases z6
  · go_wp2_with fail
    go_ret
    exact ⟨by rw [← HZ.out]; rfl, BZ.out⟩
  go_wp2_with fail
  refine (pin_lit c.H 1 1000 z7 _ H7.out).mono ?_
  rintro e w' ⟨rfl, rfl⟩
  cases z7
  · go_wp2_with fail
    go_ret
    exact ⟨by rw [← HZ.out]; rfl, BZ.out⟩
  go_wp2_with fail
  refine (pin_lit c.F 1 10 z8 _ H8.out).mono ?_
  rintro e w' ⟨rfl, rfl⟩
  cases z8
  · go_wp2_with fail
    go_ret
    exact ⟨by rw [← HZ.out]; rfl, BZ.out⟩
  go_wp2_with fail
  refine (pin_lit c.P c.F 50 z9 _ H9.out).mono ?_
  rintro e w' ⟨rfl, rfl⟩
  cases z9
  · go_wp2_with fail
    go_ret
    exact ⟨by rw [← HZ.out]; rfl, BZ.out⟩
  go_wp2_with fail
  refine (pin_lit c.J 0 10 z10 _ H10.out).mono ?_
  rintro e w' ⟨rfl, rfl⟩
  cases z10
  · go_wp2_with fail
    go_ret
    exact ⟨by rw [← HZ.out]; rfl, BZ.out⟩
  go_wp2_with fail
  refine (pin_lit c.N 8 64 z11 _ H11.out).mono ?_
  rintro e w' ⟨rfl, rfl⟩
  cases z11
  · go_wp2_with fail
    go_ret
    exact ⟨by rw [← HZ.out]; rfl, BZ.out⟩
  go_wp2_with fail
  go_ret
  exact ⟨by rw [← HZ.out]; rfl, BZ.out⟩
end Go.Proofs.Yteloiibejkflhaa
