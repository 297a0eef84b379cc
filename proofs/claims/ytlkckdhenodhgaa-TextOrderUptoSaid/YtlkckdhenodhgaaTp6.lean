/- the law of the order of texts -/
import Derived.Test.YtlkckdhenodhgaaTpO
import Derived.Test.YtlkckdhenodhgaaTp3
namespace Go.Proofs.Ytlkckdhenodhgaa
open Go.RowKit
set_option linter.unusedVariables false
theorem lexN_at (X Y : List Nat) (j : Nat) (h1 : j < X.length) (h2 : j < Y.length) (h : ∀ t, t < j → X.getD t 0 = Y.getD t 0) :
    (X.getD j 0 < Y.getD j 0 → lexN X Y = -1) ∧ (Y.getD j 0 < X.getD j 0 → lexN X Y = 1) := by
  rw [lexN_drop j X Y (by omega) (by omega) h, List.drop_eq_getElem_cons h1, List.drop_eq_getElem_cons h2, lexN]
  have e1 : X.getD j 0 = X[j] := by simp [List.getD_eq_getElem?_getD, h1]
  have e2 : Y.getD j 0 = Y[j] := by simp [List.getD_eq_getElem?_getD, h2]
  rw [e1, e2]
  exact ⟨fun h => by rw [if_pos h], fun h => by rw [if_neg (by omega), if_pos h]⟩
theorem lexN_end (X Y : List Nat) (j : Nat) (h1 : j ≤ X.length) (h2 : j ≤ Y.length) (h : ∀ t, t < j → X.getD t 0 = Y.getD t 0) (he : j = X.length ∨ j = Y.length) :
    (X.length = Y.length → lexN X Y = 0) ∧ (X.length < Y.length → lexN X Y = -1) ∧ (Y.length < X.length → lexN X Y = 1) := by
  rw [lexN_drop j X Y h1 h2 h]
  refine ⟨fun e => ?_, fun e => ?_, fun e => ?_⟩
  · rw [List.drop_eq_nil_of_le (by omega), List.drop_eq_nil_of_le (by omega)]; rfl
  · rw [List.drop_eq_nil_of_le (by omega), List.drop_eq_getElem_cons (by omega)]; rfl
  · rw [show Y.drop j = [] from List.drop_eq_nil_of_le (by omega), show X.drop j = X[j]'(by omega) :: X.drop (j + 1) from List.drop_eq_getElem_cons (by omega)]; rfl
theorem intsN_get (X : List Nat) (j : Nat) (h : j < X.length) : (intsN X).getD j 0 = ((X.getD j 0 : Nat) : Int) := by
  simp [intsN, List.getD_eq_getElem?_getD, h]
def OrdP (X Y : List Nat) (j : Nat) (v V : Int) : Prop := (v = 0 ∧ j ≤ X.length ∧ j ≤ Y.length ∧ ∀ t, t < j → X.getD t 0 = Y.getD t 0) ∨ (v ≠ 0 ∧ v = V)
set_option maxRecDepth 100000 in
set_option maxHeartbeats 6400000 in
theorem textOrder_any (a b : ByteArray) (w : World) (h1 : a.size ≤ 1048576) (h2 : b.size ≤ 1048576) :
    Calls Try.prog 7 #[.string a, .string b] w fun e w' => e = .returned (.bool true) ∧ Below w.heap.size w w' := by
  by_cases hga : 0 ≤ lenS a
  case neg =>
    have hA := Lib.hid (runes_bad a w h1 (by omega))
    clear hga
    by_cases hgb : 0 ≤ lenS b
    · have hB := Lib.hid (fun w => runes_good b w h2 hgb)
      clear hgb
      by_cases hl : 100 < a.size
      · go_enter Try.func7, Try.ntmps7
        go_wp2_with fail
        refine hA.out.mono ?_
        rintro e w1 ⟨rfl, hb1⟩
        have B1 := Lib.hid hb1
        clear hb1
        go_wp2_with fail
        refine (hB.out _).mono ?_
        rintro e w2 ⟨a2, c2, rfl, hr2⟩
        have B2 := Lib.hid (B1.out.trans (hr2.2.1.mono B1.out.size))
        clear hr2
        go_wp2_with fail
        refine (awake_any _).mono ?_
        rintro e w3 ⟨rfl, hb3⟩
        have B3 := Lib.hid (B2.out.trans (hb3.mono B2.out.size))
        clear hb3
        go_wp2_with fail
        go_ret
        exact ⟨rfl, B3.out⟩
      · by_cases hl2 : 100 < b.size
        all_goals
          go_enter Try.func7, Try.ntmps7
          go_wp2_with fail
          refine hA.out.mono ?_
          rintro e w1 ⟨rfl, hb1⟩
          have B1 := Lib.hid hb1
          clear hb1
          go_wp2_with fail
          refine (hB.out _).mono ?_
          rintro e w2 ⟨a2, c2, rfl, hr2⟩
          have B2 := Lib.hid (B1.out.trans (hr2.2.1.mono B1.out.size))
          clear hr2
          go_wp2_with fail
          refine (awake_any _).mono ?_
          rintro e w3 ⟨rfl, hb3⟩
          have B3 := Lib.hid (B2.out.trans (hb3.mono B2.out.size))
          clear hb3
          go_wp2_with fail
          go_ret
          exact ⟨rfl, B3.out⟩
    · have hB := Lib.hid (fun w => runes_bad b w h2 (by omega))
      clear hgb
      by_cases hl : 100 < a.size
      · go_enter Try.func7, Try.ntmps7
        go_wp2_with fail
        refine hA.out.mono ?_
        rintro e w1 ⟨rfl, hb1⟩
        have B1 := Lib.hid hb1
        clear hb1
        go_wp2_with fail
        refine (hB.out _).mono ?_
        rintro e w2 ⟨rfl, hr2⟩
        have B2 := Lib.hid (B1.out.trans (hr2.mono B1.out.size))
        clear hr2
        go_wp2_with fail
        refine (awake_any _).mono ?_
        rintro e w3 ⟨rfl, hb3⟩
        have B3 := Lib.hid (B2.out.trans (hb3.mono B2.out.size))
        clear hb3
        go_wp2_with fail
        go_ret
        exact ⟨rfl, B3.out⟩
      · by_cases hl2 : 100 < b.size
        all_goals
          go_enter Try.func7, Try.ntmps7
          go_wp2_with fail
          refine hA.out.mono ?_
          rintro e w1 ⟨rfl, hb1⟩
          have B1 := Lib.hid hb1
          clear hb1
          go_wp2_with fail
          refine (hB.out _).mono ?_
          rintro e w2 ⟨rfl, hr2⟩
          have B2 := Lib.hid (B1.out.trans (hr2.mono B1.out.size))
          clear hr2
          go_wp2_with fail
          refine (awake_any _).mono ?_
          rintro e w3 ⟨rfl, hb3⟩
          have B3 := Lib.hid (B2.out.trans (hb3.mono B2.out.size))
          clear hb3
          go_wp2_with fail
          go_ret
          exact ⟨rfl, B3.out⟩
  have hA := Lib.hid (runes_good a w h1 hga)
  by_cases hgb : 0 ≤ lenS b
  case neg =>
    have hB := Lib.hid (fun w => runes_bad b w h2 (by omega))
    clear hgb hga
    have hcase : 100 < a.size ∨ (a.size ≤ 100 ∧ 100 < b.size) ∨ (a.size ≤ 100 ∧ b.size ≤ 100) := by omega
    rcases hcase with h | ⟨h, h'⟩ | ⟨h, h'⟩
    all_goals
      go_enter Try.func7, Try.ntmps7
      go_wp2_with fail
      refine hA.out.mono ?_
      rintro e w1 ⟨a1, c1, rfl, hr1⟩
      have B1 := Lib.hid hr1.2.1
      clear hr1
      go_wp2_with fail
      refine (hB.out _).mono ?_
      rintro e w2 ⟨rfl, hr2⟩
      have B2 := Lib.hid (B1.out.trans (hr2.mono B1.out.size))
      clear hr2
      go_wp2_with fail
      refine (awake_any _).mono ?_
      rintro e w3 ⟨rfl, hb3⟩
      have B3 := Lib.hid (B2.out.trans (hb3.mono B2.out.size))
      clear hb3
      go_wp2_with fail
      go_ret
      exact ⟨rfl, B3.out⟩
  have hB := Lib.hid (fun w => runes_good b w h2 hgb)
  have hC := Lib.hid (fun w => compare_any a b w)
  rw [cmpS_runes a b hga hgb] at hC
  have lea := runesS_le a; have leb := runesS_le b
  obtain ⟨X, hX⟩ : ∃ X, runesS a = X := ⟨_, rfl⟩
  obtain ⟨Y, hY⟩ : ∃ X, runesS b = X := ⟨_, rfl⟩
  simp only [hX] at hA hC lea; simp only [hY] at hB hC leb
  clear hX hY hga hgb
  obtain ⟨m, hm⟩ : ∃ m, X.length = m := ⟨_, rfl⟩
  obtain ⟨n, hn⟩ : ∃ m, Y.length = m := ⟨_, rfl⟩
  rw [hm] at lea; rw [hn] at leb
  have hA2 : Hid (Calls Try.prog 11 #[.string a] w fun e w' => ∃ a c, e = .returned (.tuple #[.slice a m c, .bool true]) ∧ HoldsI .i32 w' a m (intsN X) ∧ Below w.heap.size w w') := by
    refine Lib.hid (hA.out.mono ?_)
    rintro e w' ⟨a, c, rfl, hr⟩
    have := hr.holds
    have hl : (intsN X).length = m := by simp [intsN, hm]
    rw [hl] at this
    exact ⟨a, c, by rw [hm], this, hr.2.1⟩
  have hB2 : Hid (∀ w, Calls Try.prog 11 #[.string b] w fun e w' => ∃ a c, e = .returned (.tuple #[.slice a n c, .bool true]) ∧ HoldsI .i32 w' a n (intsN Y) ∧ Below w.heap.size w w') := by
    refine Lib.hid (fun w => (hB.out w).mono ?_)
    rintro e w' ⟨a, c, rfl, hr⟩
    have := hr.holds
    have hl : (intsN Y).length = n := by simp [intsN, hn]
    rw [hl] at this
    exact ⟨a, c, by rw [hn], this, hr.2.1⟩
  clear hA hB
  have HM := Lib.hid hm; have HN := Lib.hid hn
  clear hm hn
  have hcase : 100 < a.size ∨ (a.size ≤ 100 ∧ 100 < b.size) ∨ (a.size ≤ 100 ∧ b.size ≤ 100) := by omega
  rcases hcase with h | ⟨h, h'⟩ | ⟨h, h'⟩
  case inl =>
    go_enter Try.func7, Try.ntmps7
    go_wp2_with fail
    refine hA2.out.mono ?_
    rintro e w1 ⟨a1, c1, rfl, hr1, hb1⟩
    have B1 := Lib.hid hb1
    clear hr1 hb1
    go_wp2_with fail
    refine (hB2.out _).mono ?_
    rintro e w2 ⟨a2, c2, rfl, hr2, hb2⟩
    have B2 := Lib.hid (B1.out.trans (hb2.mono B1.out.size))
    clear hr2 hb2
    go_wp2_with fail
    refine (awake_any _).mono ?_
    rintro e w3 ⟨rfl, hb3⟩
    have B3 := Lib.hid (B2.out.trans (hb3.mono B2.out.size))
    clear hb3
    go_wp2_with fail
    go_ret
    exact ⟨rfl, B3.out⟩
  case inr.inl =>
    go_enter Try.func7, Try.ntmps7
    go_wp2_with fail
    refine hA2.out.mono ?_
    rintro e w1 ⟨a1, c1, rfl, hr1, hb1⟩
    have B1 := Lib.hid hb1
    clear hr1 hb1
    go_wp2_with fail
    refine (hB2.out _).mono ?_
    rintro e w2 ⟨a2, c2, rfl, hr2, hb2⟩
    have B2 := Lib.hid (B1.out.trans (hb2.mono B1.out.size))
    clear hr2 hb2
    go_wp2_with fail
    refine (awake_any _).mono ?_
    rintro e w3 ⟨rfl, hb3⟩
    have B3 := Lib.hid (B2.out.trans (hb3.mono B2.out.size))
    clear hb3
    go_wp2_with fail
    go_ret
    exact ⟨rfl, B3.out⟩
  case inr.inr =>
    obtain ⟨V, hV⟩ : ∃ V, lexN X Y = V := ⟨_, rfl⟩
    rw [hV] at hC
    have HV := Lib.hid hV
    clear hV
    go_enter Try.func7, Try.ntmps7
    go_wp2_with fail
    refine hA2.out.mono ?_
    rintro e w1 ⟨a1, c1, rfl, hr1, hb1⟩
    have B1 := Lib.hid hb1; have H1 := Lib.hid hr1
    clear hr1 hb1
    go_wp2_with fail
    refine (hB2.out _).mono ?_
    rintro e w2 ⟨a2, c2, rfl, hr2, hb2⟩
    have B2 := Lib.hid (B1.out.trans (hb2.mono B1.out.size)); have H2 := Lib.hid hr2; have H1b := Lib.hid (H1.out.below hb2)
    clear hr2 hb2
    go_wp2_with fail
    go_loopw [9, 10] (fun vv iv wr => ∃ (j : Nat) (v : Int), iv = .int .i64 j ∧ vv = .int .i64 v ∧ j ≤ 200 ∧ Hid (OrdP X Y j v V) ∧ Hid (Below w2.heap.size w2 wr)) (fun _ iv _ => 300 - (intOf iv).toNat)
    case atStart => exact ⟨0, 0, rfl, rfl, by omega, Lib.hid (Or.inl ⟨rfl, by omega, by omega, fun t h => by omega⟩), Lib.hid (Below.refl _ _)⟩
    case round =>
      obtain ⟨j, v, rfl, rfl, hj, hP, hBw⟩ := hrel
      rcases hP.out with ⟨hv, p1, p2, p3⟩ | ⟨hv, hvV⟩
      · subst hv
        rw [HM.out] at p1; rw [HN.out] at p2
        have P3 := Lib.hid p3
        clear p3 hP
        by_cases hjm : j < m
        · by_cases hjn : j < n
          · obtain ⟨ab, ao, rfl, hac⟩ := (H1b.out.below hBw.out).2 (by omega)
            obtain ⟨bb, bo, rfl, hbc⟩ := (H2.out.below hBw.out).2 (by omega)
            have e1 := hac j hjm
            have e2 := hbc j hjn
            rw [intsN_get X j (by have := HM.out; omega)] at e1
            rw [intsN_get Y j (by have := HN.out; omega)] at e2
            obtain ⟨l1, l2⟩ := lexN_at X Y j (by have := HM.out; omega) (by have := HN.out; omega) P3.out
            rw [HV.out] at l1 l2
            obtain ⟨x, hx⟩ : ∃ x, X.getD j 0 = x := ⟨_, rfl⟩
            obtain ⟨y, hy⟩ : ∃ x, Y.getD j 0 = x := ⟨_, rfl⟩
            rw [hx] at e1 l1 l2; rw [hy] at e2 l1 l2
            have g1 : (j : Int) < (m : Int) := by omega
            have g2 : (j : Int) < (n : Int) := by omega
            have g3 : (0 : Int) ≤ (j : Int) := by omega
            have HX := Lib.hid hx; have HY := Lib.hid hy
            have L1 := Lib.hid l1; have L2 := Lib.hid l2
            have HBn := Lib.hid (fun nn => hBw.out.trans ((below_drewN wr nn).mono hBw.out.size))
            clear hac hbc l1 l2 hx hy hBw
            rcases Nat.lt_trichotomy x y with hlt | heq | hlt
            · have x1 : decide ((x : Int) < (y : Int)) = true := by simp; omega
              have hV1 := Lib.hid (L1.out hlt)
              go_upto_region 9 with fail
              go_quiet (fail)
              go_wp2_with fail
              go_roundw
              case rel => exact ⟨j + 1, -1, by go_num, rfl, by omega, Lib.hid (Or.inr ⟨by omega, hV1.out.symm⟩), Lib.hid (HBn.out _)⟩
              case measure => simp [intOf]; omega
            · subst heq
              have x1 : decide ((x : Int) < (x : Int)) = false := by simp
              have x2 : decide ((x : Int) > (x : Int)) = false := by simp
              go_upto_region 9 with fail
              go_quiet (fail)
              go_upto_region 11 with fail
              go_quiet (fail)
              go_wp2_with fail
              go_roundw
              case rel =>
                refine ⟨j + 1, 0, by go_num, rfl, by omega, Lib.hid (Or.inl ⟨rfl, by have := HM.out; omega, by have := HN.out; omega, fun t ht => ?_⟩), Lib.hid (by first | exact HBn.out _ | exact (HBn.out _).trans ((below_drewN _ _).mono (HBn.out _).size))⟩
                by_cases e : t = j
                · subst e; rw [HX.out, HY.out]
                · exact P3.out t (by omega)
              case measure => simp [intOf]; omega
            · have x1 : decide ((x : Int) < (y : Int)) = false := by simp; omega
              have x2 : decide ((x : Int) > (y : Int)) = true := by simp; omega
              have hV1 := Lib.hid (L2.out hlt)
              go_upto_region 9 with fail
              go_quiet (fail)
              go_upto_region 11 with fail
              go_quiet (fail)
              go_wp2_with fail
              go_roundw
              case rel => exact ⟨j + 1, 1, by go_num, rfl, by omega, Lib.hid (Or.inr ⟨by omega, hV1.out.symm⟩), Lib.hid (by first | exact HBn.out _ | exact (HBn.out _).trans ((below_drewN _ _).mono (HBn.out _).size))⟩
              case measure => simp [intOf]; omega
          · have hend := lexN_end X Y j (by have := HM.out; omega) (by have := HN.out; omega) P3.out (by have := HN.out; omega)
            have FB := Lib.hid (B2.out.trans (hBw.out.mono B2.out.size))
            rw [HM.out, HN.out, HV.out] at hend
            rcases Nat.lt_trichotomy m n with hmn | hmn | hmn
            · obtain rfl : V = -1 := hend.2.1 hmn
              have z1 : ((m : Int) != (n : Int)) = true := by simp; omega
              clear hend
              go_wp2_with fail
              refine (hC.out _).mono ?_
              rintro e w' ⟨rfl, rfl⟩
              go_wp2_with fail
              refine (awake_any _).mono ?_
              rintro e w3 ⟨rfl, hb3⟩
              go_wp2_with fail
              go_ret
              exact ⟨rfl, FB.out.trans (hb3.mono FB.out.size)⟩
            · obtain rfl : V = 0 := hend.1 hmn
              have z1 : ((m : Int) != (n : Int)) = false := by simp; omega
              clear hend
              go_wp2_with fail
              refine (hC.out _).mono ?_
              rintro e w' ⟨rfl, rfl⟩
              go_wp2_with fail
              refine (awake_any _).mono ?_
              rintro e w3 ⟨rfl, hb3⟩
              go_wp2_with fail
              go_ret
              exact ⟨rfl, FB.out.trans (hb3.mono FB.out.size)⟩
            · obtain rfl : V = 1 := hend.2.2 hmn
              have z1 : ((m : Int) != (n : Int)) = true := by simp; omega
              have z2 : ¬ (m : Int) < (n : Int) := by omega
              clear hend
              go_wp2_with fail
              refine (hC.out _).mono ?_
              rintro e w' ⟨rfl, rfl⟩
              go_wp2_with fail
              refine (awake_any _).mono ?_
              rintro e w3 ⟨rfl, hb3⟩
              go_wp2_with fail
              go_ret
              exact ⟨rfl, FB.out.trans (hb3.mono FB.out.size)⟩
        · have hend := lexN_end X Y j (by have := HM.out; omega) (by have := HN.out; omega) P3.out (by have := HM.out; omega)
          have FB := Lib.hid (B2.out.trans (hBw.out.mono B2.out.size))
          rw [HM.out, HN.out, HV.out] at hend
          rcases Nat.lt_trichotomy m n with hmn | hmn | hmn
          · obtain rfl : V = -1 := hend.2.1 hmn
            have z1 : ((m : Int) != (n : Int)) = true := by simp; omega
            clear hend
            go_wp2_with fail
            refine (hC.out _).mono ?_
            rintro e w' ⟨rfl, rfl⟩
            go_wp2_with fail
            refine (awake_any _).mono ?_
            rintro e w3 ⟨rfl, hb3⟩
            go_wp2_with fail
            go_ret
            exact ⟨rfl, FB.out.trans (hb3.mono FB.out.size)⟩
          · obtain rfl : V = 0 := hend.1 hmn
            have z1 : ((m : Int) != (n : Int)) = false := by simp; omega
            clear hend
            go_wp2_with fail
            refine (hC.out _).mono ?_
            rintro e w' ⟨rfl, rfl⟩
            go_wp2_with fail
            refine (awake_any _).mono ?_
            rintro e w3 ⟨rfl, hb3⟩
            go_wp2_with fail
            go_ret
            exact ⟨rfl, FB.out.trans (hb3.mono FB.out.size)⟩
          · obtain rfl : V = 1 := hend.2.2 hmn
            have z1 : ((m : Int) != (n : Int)) = true := by simp; omega
            have z2 : ¬ (m : Int) < (n : Int) := by omega
            clear hend
            go_wp2_with fail
            refine (hC.out _).mono ?_
            rintro e w' ⟨rfl, rfl⟩
            go_wp2_with fail
            refine (awake_any _).mono ?_
            rintro e w3 ⟨rfl, hb3⟩
            go_wp2_with fail
            go_ret
            exact ⟨rfl, FB.out.trans (hb3.mono FB.out.size)⟩
      · subst hvV
        have y1 : (v == 0) = false := by simpa using hv
        have y2 : (v == v) = true := by simp
        have FB := Lib.hid (B2.out.trans (hBw.out.mono B2.out.size))
        clear hP hv
        by_cases hjm : j < m
        · by_cases hjn : j < n
          · go_wp2_with fail
            refine (hC.out _).mono ?_
            rintro e w' ⟨rfl, rfl⟩
            go_wp2_with fail
            refine (awake_any _).mono ?_
            rintro e w3 ⟨rfl, hb3⟩
            go_wp2_with fail
            go_ret
            exact ⟨rfl, FB.out.trans (hb3.mono FB.out.size)⟩
          · go_wp2_with fail
            refine (hC.out _).mono ?_
            rintro e w' ⟨rfl, rfl⟩
            go_wp2_with fail
            refine (awake_any _).mono ?_
            rintro e w3 ⟨rfl, hb3⟩
            go_wp2_with fail
            go_ret
            exact ⟨rfl, FB.out.trans (hb3.mono FB.out.size)⟩
        · go_wp2_with fail
          refine (hC.out _).mono ?_
          rintro e w' ⟨rfl, rfl⟩
          go_wp2_with fail
          refine (awake_any _).mono ?_
          rintro e w3 ⟨rfl, hb3⟩
          go_wp2_with fail
          go_ret
          exact ⟨rfl, FB.out.trans (hb3.mono FB.out.size)⟩
end Go.Proofs.Ytlkckdhenodhgaa
