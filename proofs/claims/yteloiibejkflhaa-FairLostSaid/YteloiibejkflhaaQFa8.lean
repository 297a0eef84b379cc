/- fair: Bound (by gen/fa8.py) -/
import Derived.Test.YteloiibejkflhaaQFa7
import Derived.IntWalk
import Derived.Deep.QuietTactic
namespace Go.Proofs.Yteloiibejkflhaa
open Go.RowKit
set_option linter.unusedVariables false
set_option maxRecDepth 20000
theorem ret_int8 {k : IntKind} {a b : Int} (h : a = b) : Ending.returned (.int k a) = .returned (.int k b) := by rw [h]
/-- from 0 to most -/
def clip8 (n m : Int) : Int := min (max n 0) m
theorem clip8_bd (n m : Int) (h : 0 ≤ m) : 0 ≤ clip8 n m ∧ clip8 n m ≤ m := by unfold clip8; omega
theorem clamp8_any (n m : Int) (w : World) :
    Calls Try.prog 32 #[.int .i64 n, .int .i64 m] w fun e w' => e = .returned (.int .i64 (clip8 n m)) ∧ w = w' := by
  go_enter Try.func32, Try.ntmps32
  go_wp2
  all_goals (go_ret; exact ⟨ret_int8 (by unfold clip8; omega), rfl⟩)
theorem ticks8_any (n : Int) (w : World) :
    Calls Try.prog 22 #[.int .i64 n] w fun e w' => e = .returned (.int .i64 (clip8 n 1000)) ∧ w = w' := by
  go_enter Try.func22, Try.ntmps22
  go_wp2_with (go_at_call 32; refine (clamp8_any _ _ _).mono ?_; rintro e w' ⟨rfl, rfl⟩)
  go_ret
  exact ⟨rfl, rfl⟩
def most8 (c j : Int) : Int := clip8 c 1000 + clip8 j 1000
theorem most8_bd (c j : Int) : 0 ≤ most8 c j ∧ most8 c j ≤ 2000 := by
  have := clip8_bd c 1000 (by decide); have := clip8_bd j 1000 (by decide); unfold most8; omega
set_option maxHeartbeats 1600000 in
theorem most8_any (c0 c1 c2 c3 c4 c5 c6 c7 c8 c11 : Value) (c j : Int) (w : World) :
    Calls Try.prog 11 #[.agg #[c0, c1, c2, c3, c4, c5, c6, c7, c8, .int .i64 c, .int .i64 j, c11]] w fun e w' => e = .returned (.int .i64 (most8 c j)) ∧ Below w.heap.size w w' := by
  have hj := clip8_bd j 1000 (by decide)
  have hc := clip8_bd c 1000 (by decide)
  go_enter Try.func11, Try.ntmps11
  go_wp2
  go_quiet ((go_at_call 22; exact Calls.quiet_of_same ((ticks8_any _ _).mono (fun _ _ h => ⟨h.1, h.2.symm⟩))))
  go_wp2
  go_ret
  exact ⟨rfl, Joins.below_le (((Below.refl _ _).alloc (Nat.le_refl _) _).trans (Joins.below_draws _ _ _)) (Nat.le_refl _)⟩
def eachV (c : Cfg) : Int := c.C * (most8 c.P c.J + 2) + c.S * ((c.kn + 1 : Nat) : Int) + 6
def boundV (c : Cfg) (n : Int) : Int := if c.may && decide (1 ≤ n ∧ n ≤ 10) then 4 + (n + 1) * eachV c else 0
theorem prod_bd (a b x y : Int) (ha : 0 ≤ a) (hb : 0 ≤ b) (hx : a ≤ x) (hy : b ≤ y) : 0 ≤ a * b ∧ a * b ≤ x * y :=
  ⟨Int.mul_nonneg ha hb, Int.mul_le_mul hx hy hb (Int.le_trans ha hx)⟩
theorem each_bd (c : Cfg) (hm : c.may = true) (hk : c.kn ≤ 5) : (0 ≤ c.C * (most8 c.P c.J + 2) ∧ c.C * (most8 c.P c.J + 2) ≤ 6006) ∧ (0 ≤ c.S * ((c.kn + 1 : Nat) : Int) ∧ c.S * ((c.kn + 1 : Nat) : Int) ≤ 24) ∧ 0 ≤ eachV c ∧ eachV c ≤ 6036 := by
  obtain ⟨-, -, h1, h2, h3, -⟩ := may_parts hm
  have hb := most8_bd c.P c.J
  have p1 := prod_bd c.C (most8 c.P c.J + 2) 3 2002 (by omega) (by omega) (by omega) (by omega)
  have p2 := prod_bd c.S ((c.kn + 1 : Nat) : Int) 4 6 (by omega) (by omega) (by omega) (by omega)
  refine ⟨⟨p1.1, p1.2⟩, ⟨p2.1, p2.2⟩, ?_⟩
  unfold eachV
  omega
theorem s12_carry {w0 w w' : World} {p : Nat} {c : Cfg} (h : Below w0.heap.size w0 w ∧ w.cell? ⟨p, 0, none⟩ = some (.slice c.wa c.wn c.wc) ∧ w.cell? ⟨p, 1, none⟩ = some (.slice c.ka c.kn c.kc) ∧ w.cell? ⟨p, 2, none⟩ = some (.int .i64 c.W) ∧ w.cell? ⟨p, 3, none⟩ = some (.int .i64 c.C) ∧ w.cell? ⟨p, 4, none⟩ = some (.int .i64 c.S) ∧ w.cell? ⟨p, 5, none⟩ = some (.int .i64 c.B) ∧ w.cell? ⟨p, 6, none⟩ = some (.int .i64 c.L) ∧ w.cell? ⟨p, 7, none⟩ = some (.int .i64 c.H) ∧ w.cell? ⟨p, 8, none⟩ = some (.int .i64 c.F) ∧ w.cell? ⟨p, 9, none⟩ = some (.int .i64 c.P) ∧ w.cell? ⟨p, 10, none⟩ = some (.int .i64 c.J) ∧ w.cell? ⟨p, 11, none⟩ = some (.int .i64 c.N)) (hb : Below w.heap.size w w') : Below w0.heap.size w0 w' ∧ w'.cell? ⟨p, 0, none⟩ = some (.slice c.wa c.wn c.wc) ∧ w'.cell? ⟨p, 1, none⟩ = some (.slice c.ka c.kn c.kc) ∧ w'.cell? ⟨p, 2, none⟩ = some (.int .i64 c.W) ∧ w'.cell? ⟨p, 3, none⟩ = some (.int .i64 c.C) ∧ w'.cell? ⟨p, 4, none⟩ = some (.int .i64 c.S) ∧ w'.cell? ⟨p, 5, none⟩ = some (.int .i64 c.B) ∧ w'.cell? ⟨p, 6, none⟩ = some (.int .i64 c.L) ∧ w'.cell? ⟨p, 7, none⟩ = some (.int .i64 c.H) ∧ w'.cell? ⟨p, 8, none⟩ = some (.int .i64 c.F) ∧ w'.cell? ⟨p, 9, none⟩ = some (.int .i64 c.P) ∧ w'.cell? ⟨p, 10, none⟩ = some (.int .i64 c.J) ∧ w'.cell? ⟨p, 11, none⟩ = some (.int .i64 c.N) := by
  obtain ⟨h0, i0, i1, i2, i3, i4, i5, i6, i7, i8, i9, i10, i11⟩ := h
  exact ⟨h0.trans (hb.mono h0.size), (hb.cell (p := ⟨p, 0, none⟩) (lt_of_cell i0)).trans i0, (hb.cell (p := ⟨p, 1, none⟩) (lt_of_cell i1)).trans i1, (hb.cell (p := ⟨p, 2, none⟩) (lt_of_cell i2)).trans i2, (hb.cell (p := ⟨p, 3, none⟩) (lt_of_cell i3)).trans i3, (hb.cell (p := ⟨p, 4, none⟩) (lt_of_cell i4)).trans i4, (hb.cell (p := ⟨p, 5, none⟩) (lt_of_cell i5)).trans i5, (hb.cell (p := ⟨p, 6, none⟩) (lt_of_cell i6)).trans i6, (hb.cell (p := ⟨p, 7, none⟩) (lt_of_cell i7)).trans i7, (hb.cell (p := ⟨p, 8, none⟩) (lt_of_cell i8)).trans i8, (hb.cell (p := ⟨p, 9, none⟩) (lt_of_cell i9)).trans i9, (hb.cell (p := ⟨p, 10, none⟩) (lt_of_cell i10)).trans i10, (hb.cell (p := ⟨p, 11, none⟩) (lt_of_cell i11)).trans i11⟩
set_option maxHeartbeats 6400000 in
set_option maxRecDepth 100000 in
theorem fbound_any (c : Cfg) (n : Int) (w : World) (h : CfgOk w c) :
    Calls Try.prog 10 #[.agg #[.slice c.wa c.wn c.wc, .slice c.ka c.kn c.kc, .int .i64 c.W, .int .i64 c.C, .int .i64 c.S, .int .i64 c.B, .int .i64 c.L, .int .i64 c.H, .int .i64 c.F, .int .i64 c.P, .int .i64 c.J, .int .i64 c.N], .int .i64 n] w fun e w' => e = .returned (.int .i64 (boundV c n)) ∧ Below w.heap.size w w' := by
  have BX := Lib.hid (below_one w (.cells #[.slice c.wa c.wn c.wc, .slice c.ka c.kn c.kc, .int .i64 c.W, .int .i64 c.C, .int .i64 c.S, .int .i64 c.B, .int .i64 c.L, .int .i64 c.H, .int .i64 c.F, .int .i64 c.P, .int .i64 c.J, .int .i64 c.N] 25))
  have IN := Lib.hid (cfgIn_new w c w.heap.size 25 (0, 0) rfl)
  obtain ⟨w1, hw1⟩ : ∃ w1, w.alloc (.cells #[.slice c.wa c.wn c.wc, .slice c.ka c.kn c.kc, .int .i64 c.W, .int .i64 c.C, .int .i64 c.S, .int .i64 c.B, .int .i64 c.L, .int .i64 c.H, .int .i64 c.F, .int .i64 c.P, .int .i64 c.J, .int .i64 c.N] 25) = w1 := ⟨_, rfl⟩
  obtain ⟨p, hp⟩ : ∃ p, w.heap.size = p := ⟨_, rfl⟩
  rw [hw1] at BX
  rw [hw1, hp] at IN
  have OK := Lib.hid (h.below BX.out)
  obtain ⟨m, hm⟩ : ∃ m, c.may = m := ⟨_, rfl⟩
  obtain ⟨V, hV⟩ : ∃ V, boundV c n = V := ⟨_, rfl⟩
  rw [hV]
  unfold boundV at hV
  rw [hm] at hV
  have HV := Lib.hid hV
  have CM := Lib.hid (may_cfg c m w1 OK.out hm)
  have II := Lib.hid (fun (w' : World) (hb : Below w1.heap.size w1 w') => IN.out.below hb)
  unfold CfgIn at II
  obtain ⟨i0, i1, i2, i3, i4, i5, i6, i7, i8, i9, i10, i11⟩ := II.out _ (Below.refl _ _)
  have HM0 := Lib.hid hm
  have hkn : m = true → c.kn ≤ 5 := fun e => may_kn (e ▸ hm) h
  have HKN := Lib.hid hkn
  clear h hm hV hkn
  go_enter Try.func10, Try.ntmps10
  go_upto_region 1 with fail
  try rw [hw1]
  try rw [hp]
  clear hw1 hp
  go_wp2_with fail
  refine CM.out.mono ?_
  rintro e w2 ⟨rfl, hb2⟩
  have B2 := Lib.hid hb2
  clear CM i0 i1 i2 i3 i4 i5 i6 i7 i8 i9 i10 i11
  cases m
  · clear hb2
    go_wp2_with fail
    go_ret
    exact ⟨by rw [← HV.out]; rfl, BX.out.trans (B2.out.mono BX.out.size)⟩
  have hkn := HKN.out rfl
  by_cases hn : 1 ≤ n ∧ n ≤ 10
  · have CI := Lib.hid (pin_lit n 1 10 true w2 (decide_eq_true hn))
    have HV2 := Lib.hid (show 4 + (n + 1) * eachV c = V from by rw [← HV.out, decide_eq_true hn]; rfl)
    have SB := Lib.hid (show Below w1.heap.size w1 w2 ∧ w2.cell? ⟨p, 0, none⟩ = some (.slice c.wa c.wn c.wc) ∧ w2.cell? ⟨p, 1, none⟩ = some (.slice c.ka c.kn c.kc) ∧ w2.cell? ⟨p, 2, none⟩ = some (.int .i64 c.W) ∧ w2.cell? ⟨p, 3, none⟩ = some (.int .i64 c.C) ∧ w2.cell? ⟨p, 4, none⟩ = some (.int .i64 c.S) ∧ w2.cell? ⟨p, 5, none⟩ = some (.int .i64 c.B) ∧ w2.cell? ⟨p, 6, none⟩ = some (.int .i64 c.L) ∧ w2.cell? ⟨p, 7, none⟩ = some (.int .i64 c.H) ∧ w2.cell? ⟨p, 8, none⟩ = some (.int .i64 c.F) ∧ w2.cell? ⟨p, 9, none⟩ = some (.int .i64 c.P) ∧ w2.cell? ⟨p, 10, none⟩ = some (.int .i64 c.J) ∧ w2.cell? ⟨p, 11, none⟩ = some (.int .i64 c.N) from ⟨B2.out, II.out _ hb2⟩)
    have CMo := Lib.hid (fun (w' : World) => most8_any (.slice c.wa c.wn c.wc) (.slice c.ka c.kn c.kc) (.int .i64 c.W) (.int .i64 c.C) (.int .i64 c.S) (.int .i64 c.B) (.int .i64 c.L) (.int .i64 c.H) (.int .i64 c.F) (.int .i64 c.N) c.P c.J w')
    have CS := Lib.hid (fun (w' : World) (hb : Below w1.heap.size w1 w') => shards_any c w' (OK.out.below hb) HM0.out)
    obtain ⟨p1, p2, p3⟩ := each_bd c HM0.out hkn
    have hbm := most8_bd c.P c.J
    have HE : eachV c = c.C * (most8 c.P c.J + 2) + c.S * ((c.kn + 1 : Nat) : Int) + 6 := rfl
    have HEE := Lib.hid HE
    clear HE HV
    obtain ⟨M, hM⟩ : ∃ M, most8 c.P c.J = M := ⟨_, rfl⟩
    rw [hM] at CMo p1 hbm HEE
    obtain ⟨E, hE⟩ : ∃ E, eachV c = E := ⟨_, rfl⟩
    rw [hE] at p3 HEE HV2
    have q1 : 0 ≤ (n + 1) * E ∧ (n + 1) * E ≤ 11 * 6036 := prod_bd (n + 1) E 11 6036 (by omega) p3.1 (by omega) p3.2
    have e1 : IntKind.i64.wrap (M + 2) = M + 2 := IntWalk.i64_in _ (by omega)
    have e2 : IntKind.i64.wrap (c.C * (M + 2)) = c.C * (M + 2) := IntWalk.i64_in _ (by omega)
    have e3 : IntKind.i64.wrap (c.S * ((c.kn + 1 : Nat) : Int)) = c.S * ((c.kn + 1 : Nat) : Int) := IntWalk.i64_in _ (by omega)
    have e4 : IntKind.i64.wrap (c.C * (M + 2) + c.S * ((c.kn + 1 : Nat) : Int)) = c.C * (M + 2) + c.S * ((c.kn + 1 : Nat) : Int) := IntWalk.i64_in _ (by omega)
    have e5 : IntKind.i64.wrap (c.C * (M + 2) + c.S * ((c.kn + 1 : Nat) : Int) + 6) = E := by rw [HEE.out]; exact IntWalk.i64_in _ (by omega)
    have e6 : IntKind.i64.wrap (n + 1) = n + 1 := IntWalk.i64_in _ (by omega)
    have e7 : IntKind.i64.wrap ((n + 1) * E) = (n + 1) * E := IntWalk.i64_in _ (by omega)
    have e8 : IntKind.i64.wrap (4 + (n + 1) * E) = V := by rw [← HV2.out]; exact IntWalk.i64_in _ (by omega)
    clear p1 p2 p3 hbm hM hE q1 hn hb2
    obtain ⟨N, hN⟩ : ∃ N : Int, ((c.kn + 1 : Nat) : Int) = N := ⟨_, rfl⟩
    rw [hN] at e3 e4 e5 CS
    go_wp2_with (first | (go_at_call 19; refine CI.out.mono ?_; rintro e w' ⟨rfl, rfl⟩) | fail)
    go_region_held3 (fun w' => Below w1.heap.size w1 w' ∧ w'.cell? ⟨p, 0, none⟩ = some (.slice c.wa c.wn c.wc) ∧ w'.cell? ⟨p, 1, none⟩ = some (.slice c.ka c.kn c.kc) ∧ w'.cell? ⟨p, 2, none⟩ = some (.int .i64 c.W) ∧ w'.cell? ⟨p, 3, none⟩ = some (.int .i64 c.C) ∧ w'.cell? ⟨p, 4, none⟩ = some (.int .i64 c.S) ∧ w'.cell? ⟨p, 5, none⟩ = some (.int .i64 c.B) ∧ w'.cell? ⟨p, 6, none⟩ = some (.int .i64 c.L) ∧ w'.cell? ⟨p, 7, none⟩ = some (.int .i64 c.H) ∧ w'.cell? ⟨p, 8, none⟩ = some (.int .i64 c.F) ∧ w'.cell? ⟨p, 9, none⟩ = some (.int .i64 c.P) ∧ w'.cell? ⟨p, 10, none⟩ = some (.int .i64 c.J) ∧ w'.cell? ⟨p, 11, none⟩ = some (.int .i64 c.N))
      (first | assumption | exact ⟨SB.out.1.drew, SB.out.2⟩ | exact s12_carry (by assumption) (by assumption))
      (first
        | (go_at_call 11; (with_reducible refine (CMo.out _).mono ?_); rintro e w' ⟨rfl, hbm⟩)
        | (go_at_call 12; (with_reducible refine (CS.out _ (And.left (by assumption))).mono ?_); rintro e w' ⟨rfl, hbs⟩)
        | fail)
    all_goals
      have hS : Below w1.heap.size w1 w' ∧ w'.cell? ⟨p, 0, none⟩ = some (.slice c.wa c.wn c.wc) ∧ w'.cell? ⟨p, 1, none⟩ = some (.slice c.ka c.kn c.kc) ∧ w'.cell? ⟨p, 2, none⟩ = some (.int .i64 c.W) ∧ w'.cell? ⟨p, 3, none⟩ = some (.int .i64 c.C) ∧ w'.cell? ⟨p, 4, none⟩ = some (.int .i64 c.S) ∧ w'.cell? ⟨p, 5, none⟩ = some (.int .i64 c.B) ∧ w'.cell? ⟨p, 6, none⟩ = some (.int .i64 c.L) ∧ w'.cell? ⟨p, 7, none⟩ = some (.int .i64 c.H) ∧ w'.cell? ⟨p, 8, none⟩ = some (.int .i64 c.F) ∧ w'.cell? ⟨p, 9, none⟩ = some (.int .i64 c.P) ∧ w'.cell? ⟨p, 10, none⟩ = some (.int .i64 c.J) ∧ w'.cell? ⟨p, 11, none⟩ = some (.int .i64 c.N) := by assumption
      have HS1 := Lib.hid hS.1
      go_wp2_with fail
      go_ret
      exact ⟨rfl, BX.out.trans (HS1.out.mono BX.out.size)⟩
  · have CI := Lib.hid (pin_lit n 1 10 false w2 (decide_eq_false hn))
    have HV2 := Lib.hid (show 0 = V from by rw [← HV.out, decide_eq_false hn]; rfl)
    clear hn hb2 HV
    go_wp2_with (first | (go_at_call 19; refine CI.out.mono ?_; rintro e w' ⟨rfl, rfl⟩) | fail)
    go_ret
    exact ⟨by rw [← HV2.out]; rfl, BX.out.trans (B2.out.mono BX.out.size)⟩
end Go.Proofs.Yteloiibejkflhaa
