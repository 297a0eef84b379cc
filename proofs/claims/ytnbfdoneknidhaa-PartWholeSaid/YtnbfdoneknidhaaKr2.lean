/- the laws of cuts: no word of a shard is nearer -/
import Derived.Test.YtnbfdoneknidhaaKr1
import Derived.Test.YtnbfdoneknidhaaAs1
import Derived.Test.YtnbfdoneknidhaaEd4
import Derived.Test.YtnbfdoneknidhaaEdA
import Derived.Test.YtnbfdoneknidhaaEdT
import Derived.Test.YtnbfdoneknidhaaOpT
namespace Go.Proofs.Ytnbfdoneknidhaa
open Go.RowKit
set_option linter.unusedVariables false
theorem ofN_below {ks : List KV} {k : KV} {i : Nat} (h : i < ofN ks k) (hi : i < ks.length) : ¬ ordK k (ks.getD i k0) < 0 := by
  have := List.not_of_lt_findIdx h
  have e : ks.getD i k0 = ks[i] := by simp [List.getD_eq_getElem?_getD, hi]
  rw [e]; simpa using this
theorem ofN_at {ks : List KV} {k : KV} (h : ofN ks k < ks.length) : ordK k (ks.getD (ofN ks k) k0) < 0 := by
  have h3 : decide (ordK k ks[ofN ks k] < 0) = true := List.findIdx_getElem (w := h)
  have e : ks.getD (ofN ks k) k0 = ks[ofN ks k] := by simp [List.getD_eq_getElem?_getD, h]
  rw [e]; exact of_decide_eq_true h3
theorem cmpS_empty (t : Tx) : ¬ cmpS t ByteArray.empty < 0 := by
  rw [cmpS_lt]
  have h : (ByteArray.empty).toList = [] := by rw [ByteArray.toList_eq]; rfl
  rw [h]
  exact List.not_lt_nil _
/-- the lengths that words of a shard have -/
theorem lens_of {ks : List KV} {t : Tx} (hw : wordP t) : loK ks (ofN ks (keyOf t)) ≤ lenS t ∧ lenS t ≤ hiK ks (ofN ks (keyOf t)) := by
  obtain ⟨s, hs⟩ : ∃ s, ofN ks (keyOf t) = s := ⟨_, rfl⟩
  have hle := ofN_le ks (keyOf t)
  have h1 := fun i => @ofN_below ks (keyOf t) i
  have h2 := @ofN_at ks (keyOf t)
  rw [hs] at hle h1 h2
  rw [hs]
  constructor
  · unfold loK
    split
    · have h3 := h1 (s - 1) (by omega) (by omega)
      rw [ordK_lt] at h3
      unfold keyOf at h3
      simp only at h3
      omega
    · exact hw.1
  · unfold hiK
    split
    · rename_i h4
      have h3 := h2 h4
      rw [ordK_lt] at h3
      unfold keyOf at h3
      simp only at h3
      split
      · rename_i h5
        rw [h5] at h3
        rcases h3 with h3 | h3
        · omega
        · exact absurd h3.2 (cmpS_empty t)
      · omega
    · exact hw.2
theorem dist_low {a b : Tx} (ha : 0 ≤ lenS a) (hb : 0 ≤ lenS b) : lenS a - lenS b ≤ distS a b ∧ lenS b - lenS a ≤ distS a b := by
  unfold distS
  rw [if_pos ⟨ha, hb⟩]
  have h := Ed.L_low (intsN (runesS a)) (intsN (runesS b)) (runesS a).length (runesS b).length
  have h1 := (lenS_pos ha).2
  have h2 := (lenS_pos hb).2
  omega
theorem least_low {ks : List KV} {t u : Tx} (hw : wordP t) (hu : 0 ≤ lenS u) : 0 ≤ leastK ks (ofN ks (keyOf t)) (lenS u) ∧ leastK ks (ofN ks (keyOf t)) (lenS u) ≤ distS t u := by
  obtain ⟨h1, h2⟩ := lens_of (ks := ks) hw
  have hwl := hw.1
  obtain ⟨h3, h4⟩ := dist_low (a := t) (b := u) (by omega) hu
  unfold leastK
  rw [if_neg (by omega)]
  have h0 : 0 ≤ distS t u := by
    unfold distS; rw [if_pos ⟨by omega, hu⟩]
    exact (Ed.L_bd _ _ _ _).1
  omega
theorem distance_lit (a b : Tx) (v : Int) (w : World) (hsa : a.size ≤ 1048576) (hsb : b.size ≤ 1048576) (hv : distS a b = v) :
    Calls Try.prog 28 #[.string a, .string b] w fun e w' => e = .returned (.int .i64 v) ∧ Below w.heap.size w w' := by subst hv; exact distance_any a b w hsa hsb
set_option maxHeartbeats 3200000 in
theorem partFar_any (a : Option Addr) (na ca : Nat) (ks : List KV) (x y : Tx) (w : World) (ha : HoldsK w a na ks) (biga : na ≤ 9223372036854775807) (sk : ∀ k ∈ ks, KeyOk k) (sx : x.size ≤ 9223372036854775807) (sy : y.size ≤ 9223372036854775807) :
    Calls Try.prog 6 #[.slice a na ca, .string x, .string y] w fun e w' => e = .returned (.bool true) ∧ Below w.heap.size w w' := by
  have HX := Lib.hid ha; have SK := Lib.hid sk
  have lks := ha.len
  clear ha sk
  by_cases q0 : greatK ks = true
  case pos =>
    have GK := Lib.hid q0
    have B0 := Lib.hid (Below.refl w.heap.size w)
    go_enter Try.func6, Try.ntmps6
    go_wp2_with fail
    refine (great12_any a na ca ks _ _ HX.out (by omega) SK.out GK.out).mono ?_
    rintro e w1 ⟨rfl, hb1⟩
    replace HX := Lib.hid (HX.out.below hb1)
    have B1 := Lib.hid (B0.out.trans (hb1.mono B0.out.size))
    clear hb1 B0
    go_wp2_with fail
    refine (awakeP_any _).mono ?_
    rintro e w2 ⟨rfl, hb2⟩
    replace HX := Lib.hid (HX.out.below hb2)
    have B2 := Lib.hid (B1.out.trans (hb2.mono B1.out.size))
    clear hb2 B1
    go_wp2_with fail
    go_ret
    exact ⟨rfl, B2.out⟩
  have GK := Lib.hid ((Bool.not_eq_true _).mp q0)
  have NK := (greatK_no_iff.1 GK.out).1
  by_cases q1 : 100 < x.size
  case pos =>
    have B0 := Lib.hid (Below.refl w.heap.size w)
    go_enter Try.func6, Try.ntmps6
    go_wp2_with fail
    refine (great12_any a na ca ks _ _ HX.out (by omega) SK.out GK.out).mono ?_
    rintro e w1 ⟨rfl, hb1⟩
    replace HX := Lib.hid (HX.out.below hb1)
    have B1 := Lib.hid (B0.out.trans (hb1.mono B0.out.size))
    clear hb1 B0
    go_wp2_with fail
    refine (awakeP_any _).mono ?_
    rintro e w2 ⟨rfl, hb2⟩
    replace HX := Lib.hid (HX.out.below hb2)
    have B2 := Lib.hid (B1.out.trans (hb2.mono B1.out.size))
    clear hb2 B1
    go_wp2_with fail
    go_ret
    exact ⟨rfl, B2.out⟩
  have x100 : x.size ≤ 100 := by omega
  by_cases q2 : 100 < y.size
  case pos =>
    have B0 := Lib.hid (Below.refl w.heap.size w)
    go_enter Try.func6, Try.ntmps6
    go_wp2_with fail
    refine (great12_any a na ca ks _ _ HX.out (by omega) SK.out GK.out).mono ?_
    rintro e w1 ⟨rfl, hb1⟩
    replace HX := Lib.hid (HX.out.below hb1)
    have B1 := Lib.hid (B0.out.trans (hb1.mono B0.out.size))
    clear hb1 B0
    go_wp2_with fail
    refine (awakeP_any _).mono ?_
    rintro e w2 ⟨rfl, hb2⟩
    replace HX := Lib.hid (HX.out.below hb2)
    have B2 := Lib.hid (B1.out.trans (hb2.mono B1.out.size))
    clear hb2 B1
    go_wp2_with fail
    go_ret
    exact ⟨rfl, B2.out⟩
  have y100 : y.size ≤ 100 := by omega
  by_cases q3 : goodK ks ≠ 0
  case pos =>
    obtain ⟨VK, hVK⟩ : ∃ v, goodK ks = v := ⟨_, rfl⟩
    have DK := Lib.hid hVK
    rw [hVK] at q3
    have z3 : (VK != 0) = true := by simpa using q3
    clear hVK
    have B0 := Lib.hid (Below.refl w.heap.size w)
    go_enter Try.func6, Try.ntmps6
    go_wp2_with fail
    refine (great12_any a na ca ks _ _ HX.out (by omega) SK.out GK.out).mono ?_
    rintro e w1 ⟨rfl, hb1⟩
    replace HX := Lib.hid (HX.out.below hb1)
    have B1 := Lib.hid (B0.out.trans (hb1.mono B0.out.size))
    clear hb1 B0
    go_wp2_with fail
    refine (pgood_lit a na ca ks VK _ HX.out (by omega) SK.out DK.out).mono ?_
    rintro e w2 ⟨rfl, hb2⟩
    replace HX := Lib.hid (HX.out.below hb2)
    have B2 := Lib.hid (B1.out.trans (hb2.mono B1.out.size))
    clear hb2 B1
    go_wp2_with fail
    refine (awakeP_any _).mono ?_
    rintro e w3 ⟨rfl, hb3⟩
    replace HX := Lib.hid (HX.out.below hb3)
    have B3 := Lib.hid (B2.out.trans (hb3.mono B2.out.size))
    clear hb3 B2
    go_wp2_with fail
    go_ret
    exact ⟨rfl, B3.out⟩
  have q3' : goodK ks = 0 := Classical.byContradiction q3
  have DK := Lib.hid q3'
  have ZK := Lib.hid (goodK_zero q3')
  by_cases q4 : ¬ wordP x
  case pos =>
    have Dx := Lib.hid (decide_eq_false q4)
    have B0 := Lib.hid (Below.refl w.heap.size w)
    go_enter Try.func6, Try.ntmps6
    go_wp2_with fail
    refine (great12_any a na ca ks _ _ HX.out (by omega) SK.out GK.out).mono ?_
    rintro e w1 ⟨rfl, hb1⟩
    replace HX := Lib.hid (HX.out.below hb1)
    have B1 := Lib.hid (B0.out.trans (hb1.mono B0.out.size))
    clear hb1 B0
    go_wp2_with fail
    refine (pgood_lit a na ca ks 0 _ HX.out (by omega) SK.out DK.out).mono ?_
    rintro e w2 ⟨rfl, hb2⟩
    replace HX := Lib.hid (HX.out.below hb2)
    have B2 := Lib.hid (B1.out.trans (hb2.mono B1.out.size))
    clear hb2 B1
    go_wp2_with fail
    refine (@word_bool' _ x false sx Dx.out).mono ?_
    rintro e w3 ⟨rfl, hb3⟩
    replace HX := Lib.hid (HX.out.below hb3)
    have B3 := Lib.hid (B2.out.trans (hb3.mono B2.out.size))
    clear hb3 B2
    go_wp2_with fail
    refine (awakeP_any _).mono ?_
    rintro e w4 ⟨rfl, hb4⟩
    replace HX := Lib.hid (HX.out.below hb4)
    have B4 := Lib.hid (B3.out.trans (hb4.mono B3.out.size))
    clear hb4 B3
    go_wp2_with fail
    go_ret
    exact ⟨rfl, B4.out⟩
  have Px := Lib.hid (Classical.not_not.1 q4)
  have Dx := Lib.hid (decide_eq_true Px.out)
  by_cases q5 : ¬ (0 ≤ lenS y ∧ lenS y ≤ 16)
  case pos =>
    have AD := Lib.hid (decide_eq_false q5)
    have B0 := Lib.hid (Below.refl w.heap.size w)
    go_enter Try.func6, Try.ntmps6
    go_wp2_with fail
    refine (great12_any a na ca ks _ _ HX.out (by omega) SK.out GK.out).mono ?_
    rintro e w1 ⟨rfl, hb1⟩
    replace HX := Lib.hid (HX.out.below hb1)
    have B1 := Lib.hid (B0.out.trans (hb1.mono B0.out.size))
    clear hb1 B0
    go_wp2_with fail
    refine (pgood_lit a na ca ks 0 _ HX.out (by omega) SK.out DK.out).mono ?_
    rintro e w2 ⟨rfl, hb2⟩
    replace HX := Lib.hid (HX.out.below hb2)
    have B2 := Lib.hid (B1.out.trans (hb2.mono B1.out.size))
    clear hb2 B1
    go_wp2_with fail
    refine (@word_bool' _ x true sx Dx.out).mono ?_
    rintro e w3 ⟨rfl, hb3⟩
    replace HX := Lib.hid (HX.out.below hb3)
    have B3 := Lib.hid (B2.out.trans (hb3.mono B2.out.size))
    clear hb3 B2
    go_wp2_with fail
    refine (asked_lit y false _ sy AD.out).mono ?_
    rintro e w4 ⟨rfl, hb4⟩
    replace HX := Lib.hid (HX.out.below hb4)
    have B4 := Lib.hid (B3.out.trans (hb4.mono B3.out.size))
    clear hb4 B3
    go_wp2_with fail
    refine (awakeP_any _).mono ?_
    rintro e w5 ⟨rfl, hb5⟩
    replace HX := Lib.hid (HX.out.below hb5)
    have B5 := Lib.hid (B4.out.trans (hb5.mono B4.out.size))
    clear hb5 B4
    go_wp2_with fail
    go_ret
    exact ⟨rfl, B5.out⟩
  have PY := Lib.hid (Classical.not_not.1 q5)
  have AD := Lib.hid (decide_eq_true PY.out)
  have B0 := Lib.hid (Below.refl w.heap.size w)
  obtain ⟨m, hm⟩ : ∃ m, ofN ks (keyOf x) = m := ⟨_, rfl⟩
  have hle := ofN_le ks (keyOf x)
  have hll := least_low (ks := ks) (u := y) Px.out PY.out.1
  have lyb := PY.out
  obtain ⟨ly, hly⟩ : ∃ l, lenS y = l := ⟨_, rfl⟩
  obtain ⟨ds, hds⟩ : ∃ l, distS x y = l := ⟨_, rfl⟩
  rw [hm, hly, hds] at hll
  rw [hm] at hle
  rw [hly] at lyb
  obtain ⟨d, hd⟩ : ∃ d, leastK ks m ly = d := ⟨_, rfl⟩
  rw [hd] at hll
  have OX : Hid (ofZ ks x = (m : Int)) := Lib.hid (by rw [ofZ_word Px.out, hm])
  have LY := Lib.hid hly; have LD := Lib.hid hd; have DS := Lib.hid hds
  have g1 : decide (d ≥ 0) = true := by rw [decide_eq_true_iff]; omega
  have g2 : decide (ds ≥ d) = true := by rw [decide_eq_true_iff]; omega
  have gx : decide (100 < (x.size : Int)) = false := by rw [decide_eq_false_iff_not]; omega
  have gy : decide (100 < (y.size : Int)) = false := by rw [decide_eq_false_iff_not]; omega
  clear hm hly hds hd hll
  go_enter Try.func6, Try.ntmps6
  go_wp2_with fail
  refine (great12_any a na ca ks _ _ HX.out (by omega) SK.out GK.out).mono ?_
  rintro e w1 ⟨rfl, hb1⟩
  replace HX := Lib.hid (HX.out.below hb1)
  have B1 := Lib.hid (B0.out.trans (hb1.mono B0.out.size))
  clear hb1 B0
  go_wp2_with fail
  refine (pgood_lit a na ca ks 0 _ HX.out (by omega) SK.out DK.out).mono ?_
  rintro e w2 ⟨rfl, hb2⟩
  replace HX := Lib.hid (HX.out.below hb2)
  have B2 := Lib.hid (B1.out.trans (hb2.mono B1.out.size))
  clear hb2 B1
  go_wp2_with fail
  refine (@word_bool' _ x true sx Dx.out).mono ?_
  rintro e w3 ⟨rfl, hb3⟩
  replace HX := Lib.hid (HX.out.below hb3)
  have B3 := Lib.hid (B2.out.trans (hb3.mono B2.out.size))
  clear hb3 B2
  go_wp2_with fail
  refine (asked_lit y true _ sy AD.out).mono ?_
  rintro e w4 ⟨rfl, hb4⟩
  replace HX := Lib.hid (HX.out.below hb4)
  have B4 := Lib.hid (B3.out.trans (hb4.mono B3.out.size))
  clear hb4 B3
  go_wp2_with fail
  refine (pof_lit a na ca ks x m _ HX.out (by omega) sx OX.out).mono ?_
  rintro e w5 ⟨rfl, hb5⟩
  replace HX := Lib.hid (HX.out.below hb5)
  have B5 := Lib.hid (B4.out.trans (hb5.mono B4.out.size))
  clear hb5 B4
  go_wp2_with fail
  refine (lenl_any y ly _ sy LY.out).mono ?_
  rintro e w6 ⟨rfl, hb6⟩
  replace HX := Lib.hid (HX.out.below hb6)
  have B6 := Lib.hid (B5.out.trans (hb6.mono B5.out.size))
  clear hb6 B5
  go_wp2_with fail
  refine (least_lit a na ca ks m ly d _ HX.out (by omega) ZK.out.2.1 (by omega) (by omega) LD.out).mono ?_
  rintro e w7 ⟨rfl, rfl⟩
  go_wp2_with fail
  refine (distance_lit x y ds _ (by omega) (by omega) DS.out).mono ?_
  rintro e w8 ⟨rfl, hb8⟩
  replace HX := Lib.hid (HX.out.below hb8)
  have B8 := Lib.hid (B6.out.trans (hb8.mono B6.out.size))
  clear hb8 B6
  go_wp2_with fail
  refine (awakeP_any _).mono ?_
  rintro e w9 ⟨rfl, hb9⟩
  replace HX := Lib.hid (HX.out.below hb9)
  have B9 := Lib.hid (B8.out.trans (hb9.mono B8.out.size))
  clear hb9 B8
  go_wp2_with fail
  go_ret
  exact ⟨rfl, B9.out⟩
open Go.ChangeShapes Go.WideShapes Go.ChangeAt in
theorem partRises_walk {H : Type} {enc : TypeId × Value → H} (W : World) (base : Nat) (v0 v1 v2 : Value) (d0 d1 d2 : DataW H) (p0 p1 p2 : List MemPlace)
    (h0 : DataW.Trod enc Try.prog W 0 (fun _ => true) true 22 v0 d0 p0) (h1 : DataW.Trod enc Try.prog W 0 (fun _ => true) true 9 v1 d1 p1) (h2 : DataW.Trod enc Try.prog W 0 (fun _ => true) true 9 v2 d2 p2)
    (o0 : Value.okWide Try.prog W .any base 22 v0) (o1 : Value.okWide Try.prog W .any base 9 v1) (o2 : Value.okWide Try.prog W .any base 9 v2) :
    Calls Try.prog 5 #[v0, v1, v2] W fun e w' => e = .returned (.bool true) ∧ RowKit.Below W.heap.size W w' := by
  obtain ⟨a0, n0, c0, k0, rfl, x0, y0, z0, b0, s0⟩ := open_pairs_arg Try.underlying22 Try.underlying24 (by kernel_rfl) rfl rfl ⟨rfl, rfl⟩ ⟨rfl, rfl⟩ o0 h0
  obtain ⟨s1, rfl, rfl, rfl, b1⟩ := Go.ChangeMaps.open_string Try.underlying9 o1 h1
  obtain ⟨s2, rfl, rfl, rfl, b2⟩ := Go.ChangeMaps.open_string Try.underlying9 o2 h2
  exact partRises_any a0 n0 c0 k0 s1 s2 W x0 b0 s0 (by unfold maxLen at b1; omega) (by unfold maxLen at b2; omega)
open Go.ChangeShapes Go.WideShapes Go.ChangeAt in
theorem partFar_walk {H : Type} {enc : TypeId × Value → H} (W : World) (base : Nat) (v0 v1 v2 : Value) (d0 d1 d2 : DataW H) (p0 p1 p2 : List MemPlace)
    (h0 : DataW.Trod enc Try.prog W 0 (fun _ => true) true 22 v0 d0 p0) (h1 : DataW.Trod enc Try.prog W 0 (fun _ => true) true 9 v1 d1 p1) (h2 : DataW.Trod enc Try.prog W 0 (fun _ => true) true 9 v2 d2 p2)
    (o0 : Value.okWide Try.prog W .any base 22 v0) (o1 : Value.okWide Try.prog W .any base 9 v1) (o2 : Value.okWide Try.prog W .any base 9 v2) :
    Calls Try.prog 6 #[v0, v1, v2] W fun e w' => e = .returned (.bool true) ∧ RowKit.Below W.heap.size W w' := by
  obtain ⟨a0, n0, c0, k0, rfl, x0, y0, z0, b0, s0⟩ := open_pairs_arg Try.underlying22 Try.underlying24 (by kernel_rfl) rfl rfl ⟨rfl, rfl⟩ ⟨rfl, rfl⟩ o0 h0
  obtain ⟨s1, rfl, rfl, rfl, b1⟩ := Go.ChangeMaps.open_string Try.underlying9 o1 h1
  obtain ⟨s2, rfl, rfl, rfl, b2⟩ := Go.ChangeMaps.open_string Try.underlying9 o2 h2
  exact partFar_any a0 n0 c0 k0 s1 s2 W x0 b0 s0 (by unfold maxLen at b1; omega) (by unfold maxLen at b2; omega)
end Go.Proofs.Ytnbfdoneknidhaa
