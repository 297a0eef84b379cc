/- the law of cuts that are good -/
import Derived.Test.YtnbfdoneknidhaaKr1
import Derived.Test.YtnbfdoneknidhaaKd1
import Derived.Test.YtnbfdoneknidhaaPairKeys
import Derived.Test.YtnbfdoneknidhaaOpT
import Derived.Deep.RegionHeld3
namespace Go.Proofs.Ytnbfdoneknidhaa
open Go.RowKit
set_option linter.unusedVariables false
theorem numK_any (v : Int) (w : World) : Calls Try.prog 11 #[.int .i64 v] w fun e w' => e = .returned (.int .i64 v) ∧ w = w' := by
  go_enter Try.func11, Try.ntmps11
  go_wp2
  go_ret
  exact ⟨rfl, rfl⟩
theorem rgoodK_lit (a : Option Addr) (n cap : Nat) (ks : List KV) (v : Int) (w : World) (hh : HoldsK w a n ks) (hn : n ≤ 9223372036854775807) (hk : ∀ k ∈ ks, k.2.size ≤ 1048576) (hv : goodK ks = v) :
    Calls Try.prog 13 #[.slice a n cap] w fun e w' => e = .returned (.int .i64 v) ∧ Below w.heap.size w w' := by subst hv; exact rgoodK_any a n cap ks w hh hn hk
theorem Box4.below {w0 w w' : World} {p q : Nat} {v0 v1 v2 v3 : Value} (h : Box4 w0 p q v0 v1 v2 v3 w) (hb : Below w.heap.size w w') : Box4 w0 p q v0 v1 v2 v3 w' := box4_carry h hb
set_option maxHeartbeats 3200000 in
theorem partGood_any (a : Option Addr) (na ca : Nat) (ks : List KV) (x1 : Int) (x2 : Tx) (y1 : Int) (y2 : Tx) (w : World) (ha : HoldsK w a na ks) (hnil : a = none → na = 0 ∧ ca = 0) (biga : na ≤ 9223372036854775807) (sk : ∀ k ∈ ks, KeyOk k) (sx : x2.size ≤ 9223372036854775807) (sy : y2.size ≤ 9223372036854775807) :
    Calls Try.prog 3 #[.slice a na ca, .agg #[.int .i64 x1, .string x2], .agg #[.int .i64 y1, .string y2]] w fun e w' => e = .returned (.bool true) ∧ Below w.heap.size w w' := by
  have HX := Lib.hid ha; have SK := Lib.hid sk; have NIL := Lib.hid hnil
  have lks := ha.len
  clear ha sk hnil
  by_cases q0 : greatK ks = true
  case pos =>
    have GK := Lib.hid q0
    have B0 := Lib.hid (Below.refl w.heap.size w)
    obtain ⟨q, hq⟩ : ∃ q, w.heap.size + 1 = q := ⟨_, rfl⟩
    have e0 : ((w.alloc (.cells #[.int .i64 x1, .string x2] 24)).alloc (.cells #[.int .i64 y1, .string y2] 24)).cell? ⟨w.heap.size, 0, none⟩ = some (.int .i64 x1) := by simp
    have e1 : ((w.alloc (.cells #[.int .i64 x1, .string x2] 24)).alloc (.cells #[.int .i64 y1, .string y2] 24)).cell? ⟨w.heap.size, 1, none⟩ = some (.string x2) := by simp
    have e2 : ((w.alloc (.cells #[.int .i64 x1, .string x2] 24)).alloc (.cells #[.int .i64 y1, .string y2] 24)).cell? ⟨w.heap.size + 1, 0, none⟩ = some (.int .i64 y1) := by simp
    have e3 : ((w.alloc (.cells #[.int .i64 x1, .string x2] 24)).alloc (.cells #[.int .i64 y1, .string y2] 24)).cell? ⟨w.heap.size + 1, 1, none⟩ = some (.string y2) := by simp
    have hb1 : Below w.heap.size w ((w.alloc (.cells #[.int .i64 x1, .string x2] 24)).alloc (.cells #[.int .i64 y1, .string y2] 24)) := (Below.refl w.heap.size w).alloc (Nat.le_refl _) _ |>.alloc (by simp) _
    go_enter Try.func3, Try.ntmps3
    go_wp2_with fail
    generalize ((w.alloc (.cells #[.int .i64 x1, .string x2] 24)).alloc (.cells #[.int .i64 y1, .string y2] 24)) = w1 at *
    rw [hq] at e2 e3
    have HB := Lib.hid (show Box4 w1 w.heap.size q (.int .i64 x1) (.string x2) (.int .i64 y1) (.string y2) w1 from ⟨Below.refl _ _, e0, e1, e2, e3⟩)
    clear e0 e1 e2 e3 hq
    replace HX := Lib.hid (HX.out.below hb1)
    have B1 := Lib.hid (B0.out.trans (hb1.mono B0.out.size))
    clear hb1 B0
    go_wp2_with fail
    refine (great12_any a na ca ks _ _ HX.out (by omega) SK.out GK.out).mono ?_
    rintro e w2 ⟨rfl, hb2⟩
    replace HX := Lib.hid (HX.out.below hb2)
    replace HB := Lib.hid (HB.out.below hb2)
    have B2 := Lib.hid (B1.out.trans (hb2.mono B1.out.size))
    clear hb2 B1
    have e0 := HB.out.2.1; have e1 := HB.out.2.2.1; have e2 := HB.out.2.2.2.1; have e3 := HB.out.2.2.2.2
    go_wp2_with fail
    refine (awakeP_any _).mono ?_
    rintro e w3 ⟨rfl, hb3⟩
    replace HX := Lib.hid (HX.out.below hb3)
    replace HB := Lib.hid (HB.out.below hb3)
    have B3 := Lib.hid (B2.out.trans (hb3.mono B2.out.size))
    clear hb3 B2
    go_wp2_with fail
    go_ret
    exact ⟨rfl, B3.out⟩
  have GK := Lib.hid ((Bool.not_eq_true _).mp q0)
  have NK := (greatK_no_iff.1 GK.out).1
  have QK := Lib.hid (fun (k : KV) (hk : k ∈ ks) => show k.2.size ≤ 1048576 by have := (greatK_no_iff.1 GK.out).2 k hk; omega)
  by_cases q1 : 100 < x2.size
  case pos =>
    have B0 := Lib.hid (Below.refl w.heap.size w)
    obtain ⟨q, hq⟩ : ∃ q, w.heap.size + 1 = q := ⟨_, rfl⟩
    have e0 : ((w.alloc (.cells #[.int .i64 x1, .string x2] 24)).alloc (.cells #[.int .i64 y1, .string y2] 24)).cell? ⟨w.heap.size, 0, none⟩ = some (.int .i64 x1) := by simp
    have e1 : ((w.alloc (.cells #[.int .i64 x1, .string x2] 24)).alloc (.cells #[.int .i64 y1, .string y2] 24)).cell? ⟨w.heap.size, 1, none⟩ = some (.string x2) := by simp
    have e2 : ((w.alloc (.cells #[.int .i64 x1, .string x2] 24)).alloc (.cells #[.int .i64 y1, .string y2] 24)).cell? ⟨w.heap.size + 1, 0, none⟩ = some (.int .i64 y1) := by simp
    have e3 : ((w.alloc (.cells #[.int .i64 x1, .string x2] 24)).alloc (.cells #[.int .i64 y1, .string y2] 24)).cell? ⟨w.heap.size + 1, 1, none⟩ = some (.string y2) := by simp
    have hb1 : Below w.heap.size w ((w.alloc (.cells #[.int .i64 x1, .string x2] 24)).alloc (.cells #[.int .i64 y1, .string y2] 24)) := (Below.refl w.heap.size w).alloc (Nat.le_refl _) _ |>.alloc (by simp) _
    go_enter Try.func3, Try.ntmps3
    go_wp2_with fail
    generalize ((w.alloc (.cells #[.int .i64 x1, .string x2] 24)).alloc (.cells #[.int .i64 y1, .string y2] 24)) = w1 at *
    rw [hq] at e2 e3
    have HB := Lib.hid (show Box4 w1 w.heap.size q (.int .i64 x1) (.string x2) (.int .i64 y1) (.string y2) w1 from ⟨Below.refl _ _, e0, e1, e2, e3⟩)
    clear e0 e1 e2 e3 hq
    replace HX := Lib.hid (HX.out.below hb1)
    have B1 := Lib.hid (B0.out.trans (hb1.mono B0.out.size))
    clear hb1 B0
    go_wp2_with fail
    refine (great12_any a na ca ks _ _ HX.out (by omega) SK.out GK.out).mono ?_
    rintro e w2 ⟨rfl, hb2⟩
    replace HX := Lib.hid (HX.out.below hb2)
    replace HB := Lib.hid (HB.out.below hb2)
    have B2 := Lib.hid (B1.out.trans (hb2.mono B1.out.size))
    clear hb2 B1
    have e0 := HB.out.2.1; have e1 := HB.out.2.2.1; have e2 := HB.out.2.2.2.1; have e3 := HB.out.2.2.2.2
    go_wp2_with fail
    refine (awakeP_any _).mono ?_
    rintro e w3 ⟨rfl, hb3⟩
    replace HX := Lib.hid (HX.out.below hb3)
    replace HB := Lib.hid (HB.out.below hb3)
    have B3 := Lib.hid (B2.out.trans (hb3.mono B2.out.size))
    clear hb3 B2
    go_wp2_with fail
    go_ret
    exact ⟨rfl, B3.out⟩
  have x100 : x2.size ≤ 100 := by omega
  by_cases q2 : 100 < y2.size
  case pos =>
    have B0 := Lib.hid (Below.refl w.heap.size w)
    obtain ⟨q, hq⟩ : ∃ q, w.heap.size + 1 = q := ⟨_, rfl⟩
    have e0 : ((w.alloc (.cells #[.int .i64 x1, .string x2] 24)).alloc (.cells #[.int .i64 y1, .string y2] 24)).cell? ⟨w.heap.size, 0, none⟩ = some (.int .i64 x1) := by simp
    have e1 : ((w.alloc (.cells #[.int .i64 x1, .string x2] 24)).alloc (.cells #[.int .i64 y1, .string y2] 24)).cell? ⟨w.heap.size, 1, none⟩ = some (.string x2) := by simp
    have e2 : ((w.alloc (.cells #[.int .i64 x1, .string x2] 24)).alloc (.cells #[.int .i64 y1, .string y2] 24)).cell? ⟨w.heap.size + 1, 0, none⟩ = some (.int .i64 y1) := by simp
    have e3 : ((w.alloc (.cells #[.int .i64 x1, .string x2] 24)).alloc (.cells #[.int .i64 y1, .string y2] 24)).cell? ⟨w.heap.size + 1, 1, none⟩ = some (.string y2) := by simp
    have hb1 : Below w.heap.size w ((w.alloc (.cells #[.int .i64 x1, .string x2] 24)).alloc (.cells #[.int .i64 y1, .string y2] 24)) := (Below.refl w.heap.size w).alloc (Nat.le_refl _) _ |>.alloc (by simp) _
    go_enter Try.func3, Try.ntmps3
    go_wp2_with fail
    generalize ((w.alloc (.cells #[.int .i64 x1, .string x2] 24)).alloc (.cells #[.int .i64 y1, .string y2] 24)) = w1 at *
    rw [hq] at e2 e3
    have HB := Lib.hid (show Box4 w1 w.heap.size q (.int .i64 x1) (.string x2) (.int .i64 y1) (.string y2) w1 from ⟨Below.refl _ _, e0, e1, e2, e3⟩)
    clear e0 e1 e2 e3 hq
    replace HX := Lib.hid (HX.out.below hb1)
    have B1 := Lib.hid (B0.out.trans (hb1.mono B0.out.size))
    clear hb1 B0
    go_wp2_with fail
    refine (great12_any a na ca ks _ _ HX.out (by omega) SK.out GK.out).mono ?_
    rintro e w2 ⟨rfl, hb2⟩
    replace HX := Lib.hid (HX.out.below hb2)
    replace HB := Lib.hid (HB.out.below hb2)
    have B2 := Lib.hid (B1.out.trans (hb2.mono B1.out.size))
    clear hb2 B1
    have e0 := HB.out.2.1; have e1 := HB.out.2.2.1; have e2 := HB.out.2.2.2.1; have e3 := HB.out.2.2.2.2
    go_wp2_with fail
    refine (awakeP_any _).mono ?_
    rintro e w3 ⟨rfl, hb3⟩
    replace HX := Lib.hid (HX.out.below hb3)
    replace HB := Lib.hid (HB.out.below hb3)
    have B3 := Lib.hid (B2.out.trans (hb3.mono B2.out.size))
    clear hb3 B2
    go_wp2_with fail
    go_ret
    exact ⟨rfl, B3.out⟩
  have y100 : y2.size ≤ 100 := by omega
  have B0 := Lib.hid (Below.refl w.heap.size w)
  obtain ⟨V, dv⟩ : ∃ v, goodK ks = v := ⟨_, rfl⟩
  have DV := Lib.hid dv
  have vv : (V == V) = true := by simp
  obtain ⟨c, hc⟩ : ∃ c, lessK (x1, x2) (y1, y2) = c := ⟨_, rfl⟩
  have CL1 := Lib.hid (fun w => pless_lit (x1, x2) (y1, y2) c hc w)
  have CL2 := Lib.hid (fun w => rless_lit (x1, x2) (y1, y2) c hc w (by simp only; omega) (by simp only; omega))
  unfold keyV at CL1 CL2
  simp only at CL1 CL2
  have cc : (c == c) = true := by simp
  have gx : decide (100 < (x2.size : Int)) = false := by rw [decide_eq_false_iff_not]; omega
  have gy : decide (100 < (y2.size : Int)) = false := by rw [decide_eq_false_iff_not]; omega
  clear dv hc
  obtain ⟨q, hq⟩ : ∃ q, w.heap.size + 1 = q := ⟨_, rfl⟩
  have e0 : ((w.alloc (.cells #[.int .i64 x1, .string x2] 24)).alloc (.cells #[.int .i64 y1, .string y2] 24)).cell? ⟨w.heap.size, 0, none⟩ = some (.int .i64 x1) := by simp
  have e1 : ((w.alloc (.cells #[.int .i64 x1, .string x2] 24)).alloc (.cells #[.int .i64 y1, .string y2] 24)).cell? ⟨w.heap.size, 1, none⟩ = some (.string x2) := by simp
  have e2 : ((w.alloc (.cells #[.int .i64 x1, .string x2] 24)).alloc (.cells #[.int .i64 y1, .string y2] 24)).cell? ⟨w.heap.size + 1, 0, none⟩ = some (.int .i64 y1) := by simp
  have e3 : ((w.alloc (.cells #[.int .i64 x1, .string x2] 24)).alloc (.cells #[.int .i64 y1, .string y2] 24)).cell? ⟨w.heap.size + 1, 1, none⟩ = some (.string y2) := by simp
  have hb1 : Below w.heap.size w ((w.alloc (.cells #[.int .i64 x1, .string x2] 24)).alloc (.cells #[.int .i64 y1, .string y2] 24)) := (Below.refl w.heap.size w).alloc (Nat.le_refl _) _ |>.alloc (by simp) _
  go_enter Try.func3, Try.ntmps3
  go_wp2_with fail
  generalize ((w.alloc (.cells #[.int .i64 x1, .string x2] 24)).alloc (.cells #[.int .i64 y1, .string y2] 24)) = w1 at *
  rw [hq] at e2 e3
  have HB := Lib.hid (show Box4 w1 w.heap.size q (.int .i64 x1) (.string x2) (.int .i64 y1) (.string y2) w1 from ⟨Below.refl _ _, e0, e1, e2, e3⟩)
  clear e0 e1 e2 e3 hq
  replace HX := Lib.hid (HX.out.below hb1)
  have B1 := Lib.hid (B0.out.trans (hb1.mono B0.out.size))
  clear hb1 B0
  go_wp2_with fail
  refine (great12_any a na ca ks _ _ HX.out (by omega) SK.out GK.out).mono ?_
  rintro e w2 ⟨rfl, hb2⟩
  replace HX := Lib.hid (HX.out.below hb2)
  replace HB := Lib.hid (HB.out.below hb2)
  have B2 := Lib.hid (B1.out.trans (hb2.mono B1.out.size))
  clear hb2 B1
  have e0 := HB.out.2.1; have e1 := HB.out.2.2.1; have e2 := HB.out.2.2.2.1; have e3 := HB.out.2.2.2.2
  go_wp2_with fail
  refine (lendKeys_any a na ca ks _ HX.out NIL.out (by omega)).mono ?_
  rintro e w3 ⟨rfl, hb3, o3⟩
  have RR := Lib.hid o3
  replace HX := Lib.hid (HX.out.below hb3)
  replace HB := Lib.hid (HB.out.below hb3)
  have B3 := Lib.hid (B2.out.trans (hb3.mono B2.out.size))
  clear hb3 B2
  have IN := Lib.hid (RR.out.holds lks)
  obtain ⟨-, e0, e1, e2, e3⟩ := HB.out
  have T := Lib.hid (show Box4 w3 w.heap.size q (.int .i64 x1) (.string x2) (.int .i64 y1) (.string y2) w3 from ⟨Below.refl _ _, e0, e1, e2, e3⟩)
  clear e0 e1 e2 e3 o3
  go_upto_region 4 with fail
  go_region_held3 (fun w' => Below w3.heap.size w3 w' ∧ w'.cell? ⟨w.heap.size, 0, none⟩ = some (.int .i64 x1) ∧ w'.cell? ⟨w.heap.size, 1, none⟩ = some (.string x2) ∧ w'.cell? ⟨q, 0, none⟩ = some (.int .i64 y1) ∧ w'.cell? ⟨q, 1, none⟩ = some (.string y2))
    (first | assumption | exact box4_carry T.out (below_drewN w3 _) | exact box4_carry T.out (Below.refl _ _).drew | exact box4_carry (by assumption) (by assumption))
    (first
      | (go_at_call 12; refine (pgood_lit _ na (na + 3) ks V _ (IN.out.below (And.left (by assumption))) (by omega) SK.out DV.out).mono ?_; rintro e w' ⟨rfl, hb⟩)
      | (go_at_call 11; refine (numK_any V _).mono ?_; rintro e w' ⟨rfl, rfl⟩)
      | (go_at_call 13; refine (rgoodK_lit a na ca ks V _ (HX.out.below (And.left (by assumption))) (by omega) QK.out DV.out).mono ?_; rintro e w' ⟨rfl, hb⟩)
      | (go_at_call 14; refine (keptKeys_yes _ _ na ks a ca _ lks (RR.out.below (And.left (by assumption))) (HX.out.below (And.left (by assumption))) (by omega)).mono ?_; rintro e w' ⟨rfl, hb⟩)
      | (go_at_call 15; refine (CL1.out _).mono ?_; rintro e w' ⟨rfl, hb⟩)
      | (go_at_call 16; refine (CL2.out _).mono ?_; rintro e w' ⟨rfl, hb⟩)
      | (go_at_call 9; refine (awakeP_any _).mono ?_; rintro e w' ⟨rfl, hb⟩))
  rename_i T5
  obtain ⟨hb5, -⟩ := T5
  go_wp2_with fail
  go_ret
  exact ⟨rfl, B3.out.trans (hb5.mono B3.out.size)⟩
open Go.ChangeShapes Go.WideShapes Go.ChangeAt in
theorem partGood_walk {H : Type} {enc : TypeId × Value → H} (W : World) (base : Nat) (v0 v1 v2 : Value) (d0 d1 d2 : DataW H) (p0 p1 p2 : List MemPlace)
    (h0 : DataW.Trod enc Try.prog W 0 (fun _ => true) true 22 v0 d0 p0) (h1 : DataW.Trod enc Try.prog W 0 (fun _ => true) true 24 v1 d1 p1) (h2 : DataW.Trod enc Try.prog W 0 (fun _ => true) true 24 v2 d2 p2)
    (o0 : Value.okWide Try.prog W .any base 22 v0) (o1 : Value.okWide Try.prog W .any base 24 v1) (o2 : Value.okWide Try.prog W .any base 24 v2) :
    Calls Try.prog 3 #[v0, v1, v2] W fun e w' => e = .returned (.bool true) ∧ RowKit.Below W.heap.size W w' := by
  obtain ⟨a0, n0, c0, k0, rfl, x0, y0, z0, b0, s0⟩ := open_pairs_arg Try.underlying22 Try.underlying24 (by kernel_rfl) rfl rfl ⟨rfl, rfl⟩ ⟨rfl, rfl⟩ o0 h0
  obtain ⟨k1, s1, rfl⟩ := open_pair Try.underlying24 (by kernel_rfl) rfl rfl ⟨rfl, rfl⟩ ⟨rfl, rfl⟩ o1 h1
  obtain ⟨k2, s2, rfl⟩ := open_pair Try.underlying24 (by kernel_rfl) rfl rfl ⟨rfl, rfl⟩ ⟨rfl, rfl⟩ o2 h2
  exact partGood_any a0 n0 c0 k0 k1.1 k1.2 k2.1 k2.2 W x0 y0 b0 s0 s1.2 s2.2
end Go.Proofs.Ytnbfdoneknidhaa
