/- the laws of cuts: a greater key -/
import Derived.Test.YtnbfdoneknidhaaKp8
namespace Go.Proofs.Ytnbfdoneknidhaa
open Go.RowKit
set_option linter.unusedVariables false
theorem findIdx_mono {α : Type} (p q : α → Bool) (h : ∀ x, q x = true → p x = true) : ∀ xs : List α, xs.findIdx p ≤ xs.findIdx q
  | [] => by simp
  | x :: xs => by
    rw [List.findIdx_cons, List.findIdx_cons]
    cases hq : q x with
    | true => simp [h x hq]
    | false =>
      cases hp : p x with
      | true => simp
      | false => simpa using findIdx_mono p q h xs
theorem ofN_mono (ks : List KV) {x y : KV} (h : ordK x y < 0) : ofN ks x ≤ ofN ks y :=
  findIdx_mono _ _ (fun c hc => by rw [decide_eq_true_iff] at *; exact ordK_trans h hc) ks
theorem ofZ_word {ks : List KV} {t : Tx} (h : wordP t) : ofZ ks t = ofN ks (keyOf t) := if_pos h
theorem lenl_any (t : Tx) (l : Int) (w : World) (ht : t.size ≤ 9223372036854775807) (hl : lenS t = l) :
    Calls Try.prog 22 #[.string t] w fun e w' => e = .returned (.int .i64 l) ∧ Below w.heap.size w w' := by subst hl; exact len_any t w ht
set_option maxHeartbeats 3200000 in
theorem partRises_any (a : Option Addr) (na ca : Nat) (ks : List KV) (x y : Tx) (w : World) (ha : HoldsK w a na ks) (biga : na ≤ 9223372036854775807) (sk : ∀ k ∈ ks, KeyOk k) (sx : x.size ≤ 9223372036854775807) (sy : y.size ≤ 9223372036854775807) :
    Calls Try.prog 5 #[.slice a na ca, .string x, .string y] w fun e w' => e = .returned (.bool true) ∧ Below w.heap.size w w' := by
  have HX := Lib.hid ha; have SK := Lib.hid sk
  have lks := ha.len
  clear ha sk
  by_cases q0 : greatK ks = true
  case pos =>
    have GK := Lib.hid q0
    have B0 := Lib.hid (Below.refl w.heap.size w)
    go_enter Try.func5, Try.ntmps5
    go_wp2_with fail
    refine (great12_any a na ca ks _ _ HX.out (by omega) SK.out GK.out).mono ?_
    rintro e w1 ⟨rfl, hb1⟩
    replace HX := Lib.hid (HX.out.below hb1)
    have B1 := Lib.hid (B0.out.trans (hb1.mono B0.out.size))
    clear hb1 B0
    go_wp2_with fail
    refine (awakeP_any _).mono ?_
    rintro e w2 ⟨rfl, hb2⟩
    replace HX := Lib.hid (HX.out.below hb2)
    have B2 := Lib.hid (B1.out.trans (hb2.mono B1.out.size))
    clear hb2 B1
    go_wp2_with fail
    go_ret
    exact ⟨rfl, B2.out⟩
  have GK := Lib.hid ((Bool.not_eq_true _).mp q0)
  have NK := (greatK_no_iff.1 GK.out).1
  by_cases q1 : 100 < x.size
  case pos =>
    have B0 := Lib.hid (Below.refl w.heap.size w)
    go_enter Try.func5, Try.ntmps5
    go_wp2_with fail
    refine (great12_any a na ca ks _ _ HX.out (by omega) SK.out GK.out).mono ?_
    rintro e w1 ⟨rfl, hb1⟩
    replace HX := Lib.hid (HX.out.below hb1)
    have B1 := Lib.hid (B0.out.trans (hb1.mono B0.out.size))
    clear hb1 B0
    go_wp2_with fail
    refine (awakeP_any _).mono ?_
    rintro e w2 ⟨rfl, hb2⟩
    replace HX := Lib.hid (HX.out.below hb2)
    have B2 := Lib.hid (B1.out.trans (hb2.mono B1.out.size))
    clear hb2 B1
    go_wp2_with fail
    go_ret
    exact ⟨rfl, B2.out⟩
  have x100 : x.size ≤ 100 := by omega
  by_cases q2 : 100 < y.size
  case pos =>
    have B0 := Lib.hid (Below.refl w.heap.size w)
    go_enter Try.func5, Try.ntmps5
    go_wp2_with fail
    refine (great12_any a na ca ks _ _ HX.out (by omega) SK.out GK.out).mono ?_
    rintro e w1 ⟨rfl, hb1⟩
    replace HX := Lib.hid (HX.out.below hb1)
    have B1 := Lib.hid (B0.out.trans (hb1.mono B0.out.size))
    clear hb1 B0
    go_wp2_with fail
    refine (awakeP_any _).mono ?_
    rintro e w2 ⟨rfl, hb2⟩
    replace HX := Lib.hid (HX.out.below hb2)
    have B2 := Lib.hid (B1.out.trans (hb2.mono B1.out.size))
    clear hb2 B1
    go_wp2_with fail
    go_ret
    exact ⟨rfl, B2.out⟩
  have y100 : y.size ≤ 100 := by omega
  by_cases q3 : goodK ks ≠ 0
  case pos =>
    obtain ⟨VK, hVK⟩ : ∃ v, goodK ks = v := ⟨_, rfl⟩
    have DK := Lib.hid hVK
    rw [hVK] at q3
    have z3 : (VK != 0) = true := by simpa using q3
    clear hVK
    have B0 := Lib.hid (Below.refl w.heap.size w)
    go_enter Try.func5, Try.ntmps5
    go_wp2_with fail
    refine (great12_any a na ca ks _ _ HX.out (by omega) SK.out GK.out).mono ?_
    rintro e w1 ⟨rfl, hb1⟩
    replace HX := Lib.hid (HX.out.below hb1)
    have B1 := Lib.hid (B0.out.trans (hb1.mono B0.out.size))
    clear hb1 B0
    go_wp2_with fail
    refine (pgood_lit a na ca ks VK _ HX.out (by omega) SK.out DK.out).mono ?_
    rintro e w2 ⟨rfl, hb2⟩
    replace HX := Lib.hid (HX.out.below hb2)
    have B2 := Lib.hid (B1.out.trans (hb2.mono B1.out.size))
    clear hb2 B1
    go_wp2_with fail
    refine (awakeP_any _).mono ?_
    rintro e w3 ⟨rfl, hb3⟩
    replace HX := Lib.hid (HX.out.below hb3)
    have B3 := Lib.hid (B2.out.trans (hb3.mono B2.out.size))
    clear hb3 B2
    go_wp2_with fail
    go_ret
    exact ⟨rfl, B3.out⟩
  have q3' : goodK ks = 0 := Classical.byContradiction q3
  have DK := Lib.hid q3'
  have ZK := Lib.hid (goodK_zero q3')
  by_cases q4 : ¬ wordP x
  case pos =>
    have Dx := Lib.hid (decide_eq_false q4)
    have B0 := Lib.hid (Below.refl w.heap.size w)
    go_enter Try.func5, Try.ntmps5
    go_wp2_with fail
    refine (great12_any a na ca ks _ _ HX.out (by omega) SK.out GK.out).mono ?_
    rintro e w1 ⟨rfl, hb1⟩
    replace HX := Lib.hid (HX.out.below hb1)
    have B1 := Lib.hid (B0.out.trans (hb1.mono B0.out.size))
    clear hb1 B0
    go_wp2_with fail
    refine (pgood_lit a na ca ks 0 _ HX.out (by omega) SK.out DK.out).mono ?_
    rintro e w2 ⟨rfl, hb2⟩
    replace HX := Lib.hid (HX.out.below hb2)
    have B2 := Lib.hid (B1.out.trans (hb2.mono B1.out.size))
    clear hb2 B1
    go_wp2_with fail
    refine (@word_bool' _ x false sx Dx.out).mono ?_
    rintro e w3 ⟨rfl, hb3⟩
    replace HX := Lib.hid (HX.out.below hb3)
    have B3 := Lib.hid (B2.out.trans (hb3.mono B2.out.size))
    clear hb3 B2
    go_wp2_with fail
    refine (awakeP_any _).mono ?_
    rintro e w4 ⟨rfl, hb4⟩
    replace HX := Lib.hid (HX.out.below hb4)
    have B4 := Lib.hid (B3.out.trans (hb4.mono B3.out.size))
    clear hb4 B3
    go_wp2_with fail
    go_ret
    exact ⟨rfl, B4.out⟩
  have Px := Lib.hid (Classical.not_not.1 q4)
  have Dx := Lib.hid (decide_eq_true Px.out)
  by_cases q5 : ¬ wordP y
  case pos =>
    have Dy := Lib.hid (decide_eq_false q5)
    have B0 := Lib.hid (Below.refl w.heap.size w)
    go_enter Try.func5, Try.ntmps5
    go_wp2_with fail
    refine (great12_any a na ca ks _ _ HX.out (by omega) SK.out GK.out).mono ?_
    rintro e w1 ⟨rfl, hb1⟩
    replace HX := Lib.hid (HX.out.below hb1)
    have B1 := Lib.hid (B0.out.trans (hb1.mono B0.out.size))
    clear hb1 B0
    go_wp2_with fail
    refine (pgood_lit a na ca ks 0 _ HX.out (by omega) SK.out DK.out).mono ?_
    rintro e w2 ⟨rfl, hb2⟩
    replace HX := Lib.hid (HX.out.below hb2)
    have B2 := Lib.hid (B1.out.trans (hb2.mono B1.out.size))
    clear hb2 B1
    go_wp2_with fail
    refine (@word_bool' _ x true sx Dx.out).mono ?_
    rintro e w3 ⟨rfl, hb3⟩
    replace HX := Lib.hid (HX.out.below hb3)
    have B3 := Lib.hid (B2.out.trans (hb3.mono B2.out.size))
    clear hb3 B2
    go_wp2_with fail
    refine (@word_bool' _ y false sy Dy.out).mono ?_
    rintro e w4 ⟨rfl, hb4⟩
    replace HX := Lib.hid (HX.out.below hb4)
    have B4 := Lib.hid (B3.out.trans (hb4.mono B3.out.size))
    clear hb4 B3
    go_wp2_with fail
    refine (awakeP_any _).mono ?_
    rintro e w5 ⟨rfl, hb5⟩
    replace HX := Lib.hid (HX.out.below hb5)
    have B5 := Lib.hid (B4.out.trans (hb5.mono B4.out.size))
    clear hb5 B4
    go_wp2_with fail
    go_ret
    exact ⟨rfl, B5.out⟩
  have Py := Lib.hid (Classical.not_not.1 q5)
  have Dy := Lib.hid (decide_eq_true Py.out)
  have B0 := Lib.hid (Below.refl w.heap.size w)
  obtain ⟨lx, hlx⟩ : ∃ l, lenS x = l := ⟨_, rfl⟩
  obtain ⟨ly, hly⟩ : ∃ l, lenS y = l := ⟨_, rfl⟩
  have LX := Lib.hid hlx; have LY := Lib.hid hly
  obtain ⟨cc, hcc⟩ : ∃ c, lessK (lx, x) (ly, y) = c := ⟨_, rfl⟩
  have CC := Lib.hid hcc
  obtain ⟨ox, hox⟩ : ∃ v, ofZ ks x = v := ⟨_, rfl⟩
  obtain ⟨oy, hoy⟩ : ∃ v, ofZ ks y = v := ⟨_, rfl⟩
  have OX := Lib.hid hox; have OY := Lib.hid hoy
  have nx := ofN_le ks (keyOf x); have ny := ofN_le ks (keyOf y)
  have hmono : cc = true → ofN ks (keyOf x) ≤ ofN ks (keyOf y) := fun h => ofN_mono ks (by unfold keyOf; rw [hlx, hly]; rw [h] at hcc; exact of_decide_eq_true hcc)
  rw [ofZ_word Px.out] at hox; rw [ofZ_word Py.out] at hoy
  have m1 : cc = true → ox ≤ oy := fun h => by have := hmono h; omega
  have g1 : decide (ox ≥ 0) = true := by rw [decide_eq_true_iff]; omega
  have g2 : decide (ox ≤ (na : Int)) = true := by rw [decide_eq_true_iff]; omega
  have m2 : cc = true → decide (ox ≤ oy) = true := fun h => by rw [decide_eq_true_iff]; exact m1 h
  have gx : decide (100 < (x.size : Int)) = false := by rw [decide_eq_false_iff_not]; omega
  have gy : decide (100 < (y.size : Int)) = false := by rw [decide_eq_false_iff_not]; omega
  clear hlx hly hcc hox hoy hmono m1 nx ny
  go_enter Try.func5, Try.ntmps5
  go_wp2_with fail
  refine (great12_any a na ca ks _ _ HX.out (by omega) SK.out GK.out).mono ?_
  rintro e w1 ⟨rfl, hb1⟩
  replace HX := Lib.hid (HX.out.below hb1)
  have B1 := Lib.hid (B0.out.trans (hb1.mono B0.out.size))
  clear hb1 B0
  go_wp2_with fail
  refine (pgood_lit a na ca ks 0 _ HX.out (by omega) SK.out DK.out).mono ?_
  rintro e w2 ⟨rfl, hb2⟩
  replace HX := Lib.hid (HX.out.below hb2)
  have B2 := Lib.hid (B1.out.trans (hb2.mono B1.out.size))
  clear hb2 B1
  go_wp2_with fail
  refine (@word_bool' _ x true sx Dx.out).mono ?_
  rintro e w3 ⟨rfl, hb3⟩
  replace HX := Lib.hid (HX.out.below hb3)
  have B3 := Lib.hid (B2.out.trans (hb3.mono B2.out.size))
  clear hb3 B2
  go_wp2_with fail
  refine (@word_bool' _ y true sy Dy.out).mono ?_
  rintro e w4 ⟨rfl, hb4⟩
  replace HX := Lib.hid (HX.out.below hb4)
  have B4 := Lib.hid (B3.out.trans (hb4.mono B3.out.size))
  clear hb4 B3
  go_wp2_with fail
  refine (lenl_any x lx _ sx LX.out).mono ?_
  rintro e w5 ⟨rfl, hb5⟩
  replace HX := Lib.hid (HX.out.below hb5)
  have B5 := Lib.hid (B4.out.trans (hb5.mono B4.out.size))
  clear hb5 B4
  go_wp2_with fail
  refine (lenl_any y ly _ sy LY.out).mono ?_
  rintro e w6 ⟨rfl, hb6⟩
  replace HX := Lib.hid (HX.out.below hb6)
  have B6 := Lib.hid (B5.out.trans (hb6.mono B5.out.size))
  clear hb6 B5
  go_wp2_with fail
  have hb7 : Below w6.heap.size w6 ((w6.alloc (.cells #[.int .i64 lx, .string x] 24)).alloc (.cells #[.int .i64 ly, .string y] 24)) := (below_one w6 _).trans ((below_one _ _).mono (by simp))
  generalize ((w6.alloc (.cells #[.int .i64 lx, .string x] 24)).alloc (.cells #[.int .i64 ly, .string y] 24)) = w7 at *
  replace HX := Lib.hid (HX.out.below hb7)
  have B7 := Lib.hid (B6.out.trans (hb7.mono B6.out.size))
  clear hb7 B6
  cases cc
  case false =>
    refine (pless_lit (lx, x) (ly, y) false CC.out _).mono ?_
    rintro e w8 ⟨rfl, hb8⟩
    replace HX := Lib.hid (HX.out.below hb8)
    have B8 := Lib.hid (B7.out.trans (hb8.mono B7.out.size))
    clear hb8 B7
    go_wp2_with fail
    refine (pof_lit a na ca ks x ox _ HX.out (by omega) sx OX.out).mono ?_
    rintro e w9 ⟨rfl, hb9⟩
    replace HX := Lib.hid (HX.out.below hb9)
    have B9 := Lib.hid (B8.out.trans (hb9.mono B8.out.size))
    clear hb9 B8
    go_wp2_with fail
    refine (pof_lit a na ca ks x ox _ HX.out (by omega) sx OX.out).mono ?_
    rintro e w10 ⟨rfl, hb10⟩
    replace HX := Lib.hid (HX.out.below hb10)
    have B10 := Lib.hid (B9.out.trans (hb10.mono B9.out.size))
    clear hb10 B9
    go_wp2_with fail
    refine (awakeP_any _).mono ?_
    rintro e w11 ⟨rfl, hb11⟩
    replace HX := Lib.hid (HX.out.below hb11)
    have B11 := Lib.hid (B10.out.trans (hb11.mono B10.out.size))
    clear hb11 B10
    go_wp2_with fail
    go_ret
    exact ⟨rfl, B11.out⟩
  case true =>
    refine (pless_lit (lx, x) (ly, y) true CC.out _).mono ?_
    rintro e w8 ⟨rfl, hb8⟩
    replace HX := Lib.hid (HX.out.below hb8)
    have B8 := Lib.hid (B7.out.trans (hb8.mono B7.out.size))
    clear hb8 B7
    have m3 := m2 rfl
    go_wp2_with fail
    refine (pof_lit a na ca ks x ox _ HX.out (by omega) sx OX.out).mono ?_
    rintro e w9 ⟨rfl, hb9⟩
    replace HX := Lib.hid (HX.out.below hb9)
    have B9 := Lib.hid (B8.out.trans (hb9.mono B8.out.size))
    clear hb9 B8
    go_wp2_with fail
    refine (pof_lit a na ca ks y oy _ HX.out (by omega) sy OY.out).mono ?_
    rintro e w10 ⟨rfl, hb10⟩
    replace HX := Lib.hid (HX.out.below hb10)
    have B10 := Lib.hid (B9.out.trans (hb10.mono B9.out.size))
    clear hb10 B9
    go_wp2_with fail
    refine (pof_lit a na ca ks x ox _ HX.out (by omega) sx OX.out).mono ?_
    rintro e w11 ⟨rfl, hb11⟩
    replace HX := Lib.hid (HX.out.below hb11)
    have B11 := Lib.hid (B10.out.trans (hb11.mono B10.out.size))
    clear hb11 B10
    go_wp2_with fail
    refine (pof_lit a na ca ks x ox _ HX.out (by omega) sx OX.out).mono ?_
    rintro e w12 ⟨rfl, hb12⟩
    replace HX := Lib.hid (HX.out.below hb12)
    have B12 := Lib.hid (B11.out.trans (hb12.mono B11.out.size))
    clear hb12 B11
    go_wp2_with fail
    refine (awakeP_any _).mono ?_
    rintro e w13 ⟨rfl, hb13⟩
    replace HX := Lib.hid (HX.out.below hb13)
    have B13 := Lib.hid (B12.out.trans (hb13.mono B12.out.size))
    clear hb13 B12
    go_wp2_with fail
    go_ret
    exact ⟨rfl, B13.out⟩
end Go.Proofs.Ytnbfdoneknidhaa
