/- the law of runes that a text does not have -/
import Derived.Test.YtgaenkckffjcaaaPkB
import Derived.Test.YtgaenkckffjcaaaPkA
namespace Go.Proofs.Ytgaenkckffjcaaa
open Go.RowKit
set_option linter.unusedVariables false
set_option maxRecDepth 20000
theorem getD_ahead (p : List Int) (x : Int) {t : Nat} (h : t < p.length) : (p ++ [x]).getD t 0 = p.getD t 0 := by
  rw [List.getD_eq_getElem?_getD, List.getD_eq_getElem?_getD, List.getElem?_append_left h]
theorem getD_last (p : List Int) (x : Int) : (p ++ [x]).getD p.length 0 = x := by simp [List.getD_eq_getElem?_getD]
set_option maxHeartbeats 3200000 in
theorem autoOther_any (q p : List Int) (a b : Option Addr) (n m ca cb : Nat) (k0 x y : Int) (w : World) (ha : HoldsI .i32 w a n q) (hb : HoldsI .i32 w b m p) (h63 : n ≤ 9223372036854775807) (h64 : m ≤ 9223372036854775807) :
    Calls Try.prog 7 #[.slice a n ca, .slice b m cb, .int .i64 k0, .int .i32 x, .int .i32 y] w fun e w' => e = .returned (.bool true) ∧ Below w.heap.size w w' := by
  have HA := Lib.hid ha; have HB := Lib.hid hb
  clear ha hb
  by_cases h1 : 16 < n
  · clear HA HB
    go_enter Try.func7, Try.ntmps7
    go_wp2_with fail
    refine (awake_any _).mono ?_
    rintro e w' ⟨rfl, hb3⟩
    go_wp2_with fail
    go_ret
    exact ⟨rfl, hb3⟩
  by_cases h2 : 16 < m
  · clear HA HB
    go_enter Try.func7, Try.ntmps7
    go_wp2_with fail
    refine (awake_any _).mono ?_
    rintro e w' ⟨rfl, hb3⟩
    go_wp2_with fail
    go_ret
    exact ⟨rfl, hb3⟩
  have hn : n ≤ 16 := by omega
  have hm : m ≤ 16 := by omega
  go_enter Try.func7, Try.ntmps7
  go_wp2_with fail
  go_loopw [11] (fun iv wr => ∃ j : Nat, j ≤ n ∧ iv = .int .i64 j ∧ Hid (∀ t, t < j → q.getD t 0 ≠ x ∧ q.getD t 0 ≠ y) ∧ Hid (Below w.heap.size w wr)) (fun iv _ => n - (intOf iv).toNat)
  case atStart => exact ⟨0, by omega, rfl, Lib.hid (fun t ht => absurd ht (by omega)), Lib.hid (Below.refl _ _)⟩
  case round =>
    obtain ⟨j, hj, rfl, hQ, hB⟩ := hrel
    by_cases hlt : j < n
    · obtain ⟨bb, ob, rfl, hcb⟩ := (HA.out.below hB.out).at (by omega)
      have e1 := hcb j hlt
      clear hcb
      obtain ⟨r, hr⟩ : ∃ r, q.getD j 0 = r := ⟨_, rfl⟩
      rw [hr] at e1
      have HR := Lib.hid hr
      clear hr
      by_cases hx : r = x
      · have x1 : (r == x) = true := by simp [hx]
        clear hx
        go_wp2_with fail
        refine (awake_any _).mono ?_
        rintro e w' ⟨rfl, hb3⟩
        have B3 := Lib.hid (hB.out.trans (hb3.mono hB.out.size))
        go_wp2_with fail
        go_ret
        exact ⟨rfl, B3.out⟩
      by_cases hy : r = y
      · have x1 : (r == x) = false := by simp [hx]
        have x2 : (r == y) = true := by simp [hy]
        clear hx hy
        go_wp2_with fail
        refine (awake_any _).mono ?_
        rintro e w' ⟨rfl, hb3⟩
        have B3 := Lib.hid (hB.out.trans (hb3.mono hB.out.size))
        go_wp2_with fail
        go_ret
        exact ⟨rfl, B3.out⟩
      have Q2 := Lib.hid (show ∀ t, t < j + 1 → q.getD t 0 ≠ x ∧ q.getD t 0 ≠ y from fun t ht => by
        by_cases e : t < j
        · exact hQ.out t e
        · obtain rfl : t = j := by omega
          rw [HR.out]; exact ⟨hx, hy⟩)
      have x1 : (r == x) = false := by simp [hx]
      have x2 : (r == y) = false := by simp [hy]
      clear hx hy hQ
      go_wp2_with fail
      go_roundw
      case rel => exact ⟨j + 1, by omega, by go_num, Q2, hB⟩
      case measure => simp [intOf] <;> omega
    · obtain rfl : j = n := by omega
      have hk := low_bd k0 5 (by omega)
      have CW := Lib.hid (fun w => low_any k0 5 (by omega) (by omega) w)
      obtain ⟨k, hkv⟩ : ∃ k, lowV k0 5 = k := ⟨_, rfl⟩
      rw [hkv] at hk CW
      have HK := Lib.hid (show 0 ≤ k ∧ k ≤ 4 by omega)
      clear hkv hk
      obtain ⟨S, hS⟩ : ∃ S, Au.st q p k m = S := ⟨_, rfl⟩
      have hpm : p.length = m := HB.out.len
      have hqn : q.length = j := HA.out.len
      have sx : Au.st q (p ++ [x]) k m = S := by rw [← hS]; exact Au.st_pre q k (fun t ht => getD_ahead p x (by omega))
      have sy : Au.st q (p ++ [y]) k m = S := by rw [← hS]; exact Au.st_pre q k (fun t ht => getD_ahead p y (by omega))
      have gx : (p ++ [x]).getD m 0 = x := by rw [← hpm]; exact getD_last p x
      have gy : (p ++ [y]).getD m 0 = y := by rw [← hpm]; exact getD_last p y
      have sxy : Au.st q (p ++ [x]) k (m + 1) = Au.st q (p ++ [y]) k (m + 1) := Au.st_other k (fun t ht => by rw [getD_ahead p x (by omega), getD_ahead p y (by omega)]) (fun i hi => by
        have h := hQ.out i (by omega)
        rw [gx, gy]; unfold Ed.cost; rw [if_neg h.1, if_neg h.2])
      obtain ⟨T, hT⟩ : ∃ T, Au.st q (p ++ [y]) k (m + 1) = T := ⟨_, rfl⟩
      rw [hT] at sxy
      have l1 := Au.st_len (q := q) (p := p) (j := m) HK.out.1
      have l2 := Au.st_len (q := q) (p := p ++ [y]) (j := m + 1) HK.out.1
      rw [hS] at l1; rw [hT] at l2
      have L1 : S.length ≤ 9 := by have := HK.out; omega
      have L2 : T.length ≤ 9 := by have := HK.out; omega
      have CB := Lib.hid (fun w ha hb => behind_any q p a b j m ca cb S.length k S w ha hb hn hm HK.out hS rfl)
      have CX := Lib.hid (fun sa sc w ha hs => step_lit q (p ++ [x]) m k a sa j ca S.length sc T.length x S T w ha hs HK.out (by omega) gx sx sxy rfl)
      have CY := Lib.hid (fun sa sc w ha hs => step_lit q (p ++ [y]) m k a sa j ca S.length sc T.length y S T w ha hs HK.out (by omega) gy sy hT rfl)
      clear sx sy gx gy sxy hS hT l1 l2 hpm hqn hQ
      generalize S.length = ls at *
      obtain ⟨lt, hlt3⟩ : ∃ lt, T.length = lt := ⟨_, rfl⟩
      simp only [hlt3] at CX CY L2
      clear hlt3
      go_wp2_with fail
      refine (CW.out _).mono ?_
      rintro e w1 ⟨rfl, rfl⟩
      clear CW
      go_wp2_with fail
      refine (CB.out _ (HA.out.below hB.out) (HB.out.below hB.out)).mono ?_
      rintro e w1 ⟨sa, sc, rfl, ho, hb⟩
      have S1 := Lib.hid (HoldsP.own ho)
      have B1 := Lib.hid (hB.out.trans (hb.mono hB.out.size))
      clear ho hb CB hB
      go_wp2_with fail
      refine (CX.out sa sc _ (HA.out.below B1.out) S1.out).mono ?_
      rintro e w2 ⟨s2, c2, rfl, ho, hb⟩
      have T2 := Lib.hid (HoldsP.own ho)
      have S2 := Lib.hid (S1.out.below hb)
      have B2 := Lib.hid (B1.out.trans (hb.mono B1.out.size))
      clear ho hb CX S1 B1
      go_wp2_with fail
      refine (CY.out sa sc _ (HA.out.below B2.out) S2.out).mono ?_
      rintro e w3 ⟨s3, c3, rfl, ho, hb⟩
      have T3 := Lib.hid (HoldsP.own ho)
      have U3 := Lib.hid (T2.out.below hb)
      have B3 := Lib.hid (B2.out.trans (hb.mono B2.out.size))
      clear ho hb CY S2 B2 T2
      go_wp2_with fail
      refine (samePoses_yes s2 s3 lt c2 c3 T _ U3.out T3.out (by omega)).mono ?_
      rintro e w4 ⟨rfl, hb⟩
      have B4 := Lib.hid (B3.out.trans (hb.mono B3.out.size))
      clear hb T3 U3 B3
      go_wp2_with fail
      refine (awake_any _).mono ?_
      rintro e w5 ⟨rfl, hb⟩
      have B5 := Lib.hid (B4.out.trans (hb.mono B4.out.size))
      clear hb
      go_wp2_with fail
      go_ret
      exact ⟨rfl, B5.out⟩
open Go.ChangeShapes Go.WideShapes Go.ChangeAt in
theorem autoOther_walk {H : Type} {enc : TypeId × Value → H} (W : World) (base : Nat) (v0 v1 v2 v3 v4 : Value) (d0 d1 d2 d3 d4 : DataW H) (p0 p1 p2 p3 p4 : List MemPlace)
    (h0 : DataW.Trod enc Try.prog W 0 (fun _ => true) true 22 v0 d0 p0) (h1 : DataW.Trod enc Try.prog W 0 (fun _ => true) true 22 v1 d1 p1) (h2 : DataW.Trod enc Try.prog W 0 (fun _ => true) true 3 v2 d2 p2) (h3 : DataW.Trod enc Try.prog W 0 (fun _ => true) true 21 v3 d3 p3) (h4 : DataW.Trod enc Try.prog W 0 (fun _ => true) true 21 v4 d4 p4)
    (o0 : Value.okWide Try.prog W .any base 22 v0) (o1 : Value.okWide Try.prog W .any base 22 v1) (o2 : Value.okWide Try.prog W .any base 3 v2) (o3 : Value.okWide Try.prog W .any base 21 v3) (o4 : Value.okWide Try.prog W .any base 21 v4) :
    Calls Try.prog 7 #[v0, v1, v2, v3, v4] W fun e w' => e = .returned (.bool true) ∧ RowKit.Below W.heap.size W w' := by
  obtain ⟨a, ra, ca, rfl, ha, _, _, k1, _⟩ := open_runes_arg o0 h0
  obtain ⟨b, rb, cb, rfl, hb, _, _, k2, _⟩ := open_runes_arg o1 h1
  obtain ⟨x2, rfl, rfl, rfl, b2⟩ := open_int Try.underlying3 o2 h2
  obtain ⟨x3, rfl, rfl, rfl, b3⟩ := open_int Try.underlying21 o3 h3
  obtain ⟨x4, rfl, rfl, rfl, b4⟩ := open_int Try.underlying21 o4 h4
  exact autoOther_any ra rb a b _ _ ca cb x2 x3 x4 W ha hb (by unfold maxLen at k1; omega) (by unfold maxLen at k2; omega)
end Go.Proofs.Ytgaenkckffjcaaa
