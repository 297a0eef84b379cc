/- RankParts: the near words of two lists together are those of both -/
import Derived.Test.YtioegheehodndaaPkD
namespace Go.Proofs.Ytioegheehodndaa
open Go.RowKit
set_option linter.unusedVariables false
set_option maxRecDepth 20000
theorem box3q_re {w0 w1 w : World} {p : Nat} {v0 v1 v2 : Value} (h : Box3q w0 p v0 v1 v2 w) : Box3q w p v0 v1 v2 w := ⟨Below.refl _ _, h.2⟩
theorem box3q_app {w0 w w' : World} {base p : Nat} {v0 v1 v2 : Value} (h : Box3q w0 p v0 v1 v2 w) (hb : Below base w w') (h1 : w0.heap.size ≤ base) (h2 : p < base) : Box3q w0 p v0 v1 v2 w' :=
  ⟨h.1.trans (hb.mono h1), by rw [hb.cell (p := ⟨p, 0, none⟩) h2]; exact h.2.1, by rw [hb.cell (p := ⟨p, 1, none⟩) h2]; exact h.2.2.1, by rw [hb.cell (p := ⟨p, 2, none⟩) h2]; exact h.2.2.2⟩
set_option maxRecDepth 100000 in
set_option maxHeartbeats 6400000 in
theorem rankParts_law (a : Option Addr) (na ca : Nat) (xs : List Tx) (b : Option Addr) (nb cb : Nat) (ys : List Tx) (s : Tx) (k m : Int) (w : World) (ha : Lst w a na ca xs) (biga : na ≤ 9223372036854775807) (sa : ∀ t ∈ xs, t.size ≤ 9223372036854775807) (hb : Lst w b nb cb ys) (bigb : nb ≤ 9223372036854775807) (sb : ∀ t ∈ ys, t.size ≤ 9223372036854775807) (hx : s.size ≤ 9223372036854775807) :
    Calls Try.prog 8 #[.slice a na ca, .slice b nb cb, .agg #[.string s, .int .i64 k, .int .i64 m]] w fun e w' => e = .returned (.bool true) ∧ Below w.heap.size w w' := by
  obtain ⟨i0, hi, hz0, hz1, hz2⟩ := info_parts item_info
  have lxs := ha.1.len
  have lys := hb.1.len
  have B0 := Lib.hid (below_one w (.cells #[.string s, .int .i64 k, .int .i64 m] 24))
  have HX := Lib.hid (ha.below B0.out)
  have HY := Lib.hid (hb.below B0.out)
  have HQ := Lib.hid (show Box3q (w.alloc (.cells #[.string s, .int .i64 k, .int .i64 m] 24)) w.heap.size (.string s) (.int .i64 k) (.int .i64 m) (w.alloc (.cells #[.string s, .int .i64 k, .int .i64 m] 24)) from ⟨Below.refl _ _, by rw [cell_alloc rfl]; rfl, by rw [cell_alloc rfl]; rfl, by rw [cell_alloc rfl]; rfl⟩)
  obtain ⟨gx, hgx⟩ : ∃ g, greatB xs = g := ⟨_, rfl⟩
  obtain ⟨gy, hgy⟩ : ∃ g, greatB ys = g := ⟨_, rfl⟩
  obtain ⟨vx, hvx⟩ : ∃ g, goodV xs = g := ⟨_, rfl⟩
  obtain ⟨vy, hvy⟩ : ∃ g, goodV ys = g := ⟨_, rfl⟩
  obtain ⟨c, hc⟩ : ∃ c, decide (mayP s k m) = c := ⟨_, rfl⟩
  have GX := Lib.hid (fun w (h : HoldsT w a na xs) => great_lit a na ca xs gx w h biga sa hgx)
  have GY := Lib.hid (fun w (h : HoldsT w b nb ys) => great_lit b nb cb ys gy w h bigb sb hgy)
  have VX := Lib.hid (fun w (h : HoldsT w a na xs) => good_lit a na ca xs vx w h biga sa hvx)
  have VY := Lib.hid (fun w (h : HoldsT w b nb ys) => good_lit b nb cb ys vy w h bigb sb hvy)
  have CM := Lib.hid (fun w => may_lit s k m c w hx hc)
  have EGX := Lib.hid hgx; have EGY := Lib.hid hgy; have EVX := Lib.hid hvx; have EVY := Lib.hid hvy; have EC := Lib.hid hc
  clear ha hb sa sb hgx hgy hvx hvy hc
  go_enter Try.func8, Try.ntmps8
  go_wp2_with fail
  generalize w.alloc (.cells #[.string s, .int .i64 k, .int .i64 m] 24) = w1 at *
  refine (GX.out _ HX.out.1).mono ?_
  rintro e w3 ⟨rfl, hb1⟩
  replace HX := Lib.hid (HX.out.below hb1)
  replace HY := Lib.hid (HY.out.below hb1)
  replace HQ := Lib.hid (box3q_carry HQ.out hb1)
  have B1 := Lib.hid (B0.out.trans (hb1.mono B0.out.size))
  clear hb1 B0
  cases gx with
  | true =>
    go_wp2_with fail
    refine (awake_any _).mono ?_
    rintro e w99 ⟨rfl, hb99⟩
    go_wp2_with fail
    go_ret
    exact ⟨rfl, B1.out.trans (hb99.mono B1.out.size)⟩
  | false =>
    go_wp2_with fail
    refine (GY.out _ HY.out.1).mono ?_
    rintro e w4 ⟨rfl, hb2⟩
    replace HX := Lib.hid (HX.out.below hb2)
    replace HY := Lib.hid (HY.out.below hb2)
    replace HQ := Lib.hid (box3q_carry HQ.out hb2)
    have B2 := Lib.hid (B1.out.trans (hb2.mono B1.out.size))
    clear hb2 B1
    cases gy with
    | true =>
      obtain ⟨-, e0, e1, e2⟩ := HQ.out
      go_wp2_with fail
      refine (awake_any _).mono ?_
      rintro e w99 ⟨rfl, hb99⟩
      go_wp2_with fail
      go_ret
      exact ⟨rfl, B2.out.trans (hb99.mono B2.out.size)⟩
    | false =>
      obtain ⟨-, e0, e1, e2⟩ := HQ.out
      by_cases h100 : 100 < s.size
      · have h101 := h100
        go_wp2_with fail
        refine (awake_any _).mono ?_
        rintro e w99 ⟨rfl, hb99⟩
        go_wp2_with fail
        go_ret
        exact ⟨rfl, B2.out.trans (hb99.mono B2.out.size)⟩
      have h101 : s.size ≤ 100 := by omega
      clear h100
      go_wp2_with fail
      refine (VX.out _ HX.out.1).mono ?_
      rintro e w5 ⟨rfl, hb3⟩
      replace HX := Lib.hid (HX.out.below hb3)
      replace HY := Lib.hid (HY.out.below hb3)
      replace HQ := Lib.hid (box3q_carry HQ.out hb3)
      have B3 := Lib.hid (B2.out.trans (hb3.mono B2.out.size))
      clear hb3 B2
      clear e0 e1 e2
      obtain ⟨-, e0, e1, e2⟩ := HQ.out
      by_cases hvx : vx = 0
      case neg =>
        have x1 : (vx != 0) = true := by simpa using hvx
        clear hvx
        go_wp2_with fail
        refine (awake_any _).mono ?_
        rintro e w99 ⟨rfl, hb99⟩
        go_wp2_with fail
        go_ret
        exact ⟨rfl, B3.out.trans (hb99.mono B3.out.size)⟩
      subst hvx
      go_wp2_with fail
      refine (VY.out _ HY.out.1).mono ?_
      rintro e w6 ⟨rfl, hb4⟩
      replace HX := Lib.hid (HX.out.below hb4)
      replace HY := Lib.hid (HY.out.below hb4)
      replace HQ := Lib.hid (box3q_carry HQ.out hb4)
      have B4 := Lib.hid (B3.out.trans (hb4.mono B3.out.size))
      clear hb4 B3
      clear e0 e1 e2
      obtain ⟨-, e0, e1, e2⟩ := HQ.out
      by_cases hvy : vy = 0
      case neg =>
        have x1 : (vy != 0) = true := by simpa using hvy
        clear hvy
        go_wp2_with fail
        refine (awake_any _).mono ?_
        rintro e w99 ⟨rfl, hb99⟩
        go_wp2_with fail
        go_ret
        exact ⟨rfl, B4.out.trans (hb99.mono B4.out.size)⟩
      subst hvy
      go_wp2_with fail
      refine (CM.out _).mono ?_
      rintro e w7 ⟨rfl, hb5⟩
      replace HX := Lib.hid (HX.out.below hb5)
      replace HY := Lib.hid (HY.out.below hb5)
      replace HQ := Lib.hid (box3q_carry HQ.out hb5)
      have B5 := Lib.hid (B4.out.trans (hb5.mono B4.out.size))
      clear hb5 B4
      clear e0 e1 e2
      obtain ⟨-, e0, e1, e2⟩ := HQ.out
      cases c with
      | false =>
        go_wp2_with fail
        refine (awake_any _).mono ?_
        rintro e w99 ⟨rfl, hb99⟩
        go_wp2_with fail
        go_ret
        exact ⟨rfl, B5.out.trans (hb99.mono B5.out.size)⟩
      | true =>
        obtain ⟨_, hsx⟩ := great_no_iff.1 EGX.out
        obtain ⟨_, hsy⟩ := great_no_iff.1 EGY.out
        obtain ⟨hnx, _, SX⟩ := goodV_zero EVX.out
        obtain ⟨hny, _, SY⟩ := goodV_zero EVY.out
        have hmay : mayP s k m := of_decide_eq_true EC.out
        have QX := Lib.hid (show ∀ t ∈ xs, t.size ≤ 1048576 from fun t ht => by have := hsx t ht; omega)
        have QW := Lib.hid (show ∀ t ∈ lessOf ys xs, t.size ≤ 1048576 from fun t ht => by have := hsy t (List.mem_filter.1 ht).1; omega)
        have QM := Lib.hid (show ∀ t ∈ mergeL xs ys, t.size ≤ 1048576 from fun t ht => by rcases mem_mergeL.1 ht with h | h; have := hsx t h; omega; have := hsy t h; omega)
        have pW : (lessOf ys xs).length ≤ 60 := Nat.le_trans (lessOf_len _ _) (by omega)
        have pM := (merge_perm SX SY).length_eq
        rw [List.length_append] at pM
        have pA := allK_len xs s k
        have pC := allK_len (lessOf ys xs) s k
        have pS := all_parts SX SY s k
        have pT := prefix_at (top_parts SX SY s k m hmay)
        have qA := tops_len xs s k m
        have qC := tops_len (lessOf ys xs) s k m
        have qM := tops_len (mergeL xs ys) s k m
        have pL : (allK xs s k).length + (allK (lessOf ys xs) s k).length = (allK (mergeL xs ys) s k).length := by rw [← pS, sortK_length, List.length_append]
        rw [sortK_length, List.length_append] at pT
        obtain ⟨Ws, hWs⟩ : ∃ z, lessOf ys xs = z := ⟨_, rfl⟩
        obtain ⟨Ms, hMs⟩ : ∃ z, mergeL xs ys = z := ⟨_, rfl⟩
        rw [hWs] at pW pM pC pS pT qC pL QW
        rw [hMs] at pM pS pT qM pL QM
        obtain ⟨a1, ha1⟩ : ∃ z, allK xs s k = z := ⟨_, rfl⟩
        obtain ⟨a2, ha2⟩ : ∃ z, allK Ws s k = z := ⟨_, rfl⟩
        obtain ⟨a3, ha3⟩ : ∃ z, allK Ms s k = z := ⟨_, rfl⟩
        obtain ⟨t1, ht1⟩ : ∃ z, topK xs s k m = z := ⟨_, rfl⟩
        obtain ⟨t2, ht2⟩ : ∃ z, topK Ws s k m = z := ⟨_, rfl⟩
        obtain ⟨t3, ht3⟩ : ∃ z, topK Ms s k m = z := ⟨_, rfl⟩
        rw [ha1, ha2, ha3] at pL pS
        rw [ha1] at pA
        rw [ha2] at pC
        rw [ht1] at qA
        rw [ht2] at qC
        rw [ht3] at qM
        rw [ht1, ht2, ht3] at pT
        obtain ⟨Na1, na1⟩ : ∃ z, a1.length = z := ⟨_, rfl⟩
        obtain ⟨Na2, na2⟩ : ∃ z, a2.length = z := ⟨_, rfl⟩
        obtain ⟨Na3, na3⟩ : ∃ z, a3.length = z := ⟨_, rfl⟩
        obtain ⟨Nt1, nt1⟩ : ∃ z, t1.length = z := ⟨_, rfl⟩
        obtain ⟨Nt2, nt2⟩ : ∃ z, t2.length = z := ⟨_, rfl⟩
        obtain ⟨Nt3, nt3⟩ : ∃ z, t3.length = z := ⟨_, rfl⟩
        obtain ⟨NWs, nWs⟩ : ∃ z, Ws.length = z := ⟨_, rfl⟩
        obtain ⟨NMs, nMs⟩ : ∃ z, Ms.length = z := ⟨_, rfl⟩
        rw [na1, na2, na3] at pL
        rw [na1] at pA
        rw [na2] at pC
        rw [nt1, nt2, nt3] at pT
        rw [nt1] at qA
        rw [nt2] at qC
        rw [nt3] at qM
        rw [nWs] at pW pM pC qC
        rw [nMs] at pM qM
        obtain ⟨NT, hNT⟩ : ∃ z, Nt1 + Nt2 = z := ⟨_, rfl⟩
        rw [hNT] at pT
        obtain ⟨pT1, pT2⟩ := pT
        have E_hWs := Lib.hid hWs
        have E_hMs := Lib.hid hMs
        have E_ha1 := Lib.hid ha1
        have E_ha2 := Lib.hid ha2
        have E_ha3 := Lib.hid ha3
        have E_ht1 := Lib.hid ht1
        have E_ht2 := Lib.hid ht2
        have E_ht3 := Lib.hid ht3
        have E_na1 := Lib.hid na1
        have E_na2 := Lib.hid na2
        have E_na3 := Lib.hid na3
        have E_nt1 := Lib.hid nt1
        have E_nt2 := Lib.hid nt2
        have E_nt3 := Lib.hid nt3
        have E_nWs := Lib.hid nWs
        have E_nMs := Lib.hid nMs
        have E_pS := Lib.hid pS
        have E_pL := Lib.hid pL
        have E_hNT := Lib.hid hNT
        have E_pT2 := Lib.hid pT2
        have E_SX := Lib.hid SX
        have E_SY := Lib.hid SY
        have E_lxs := Lib.hid lxs
        have E_lys := Lib.hid lys
        have nx60 : na ≤ 60 := by omega
        have ny60 : nb ≤ 60 := by omega
        have nW60 : NWs ≤ 60 := by omega
        have nM120 : NMs ≤ 120 := by omega
        have b1 : Na1 ≤ 60 := by omega
        have b2 : Na2 ≤ 60 := by omega
        have b3 : Na3 ≤ 120 := by omega
        have b4 : Nt1 ≤ 60 := by omega
        have b5 : Nt2 ≤ 60 := by omega
        have b6 : Nt3 ≤ 120 := by omega
        have b7 : NT ≤ 120 := by omega
        clear hWs hMs ha1 ha2 ha3 ht1 ht2 ht3 na1 na2 na3 nt1 nt2 nt3 nWs nMs pS pL hNT pT2 SX SY lxs lys pA pC qA qC qM pW pM hsx hsy hnx hny hmay
        go_wp2_with fail
        refine (without_lst b nb cb ys a na ca xs Ws NWs _ HY.out HX.out (by omega) (by omega) E_SX.out E_hWs.out E_nWs.out).mono ?_
        rintro e w8 ⟨a8, c8, rfl, o8, hb6⟩
        replace HX := Lib.hid (HX.out.below hb6)
        replace HY := Lib.hid (HY.out.below hb6)
        replace HQ := Lib.hid (box3q_carry HQ.out hb6)
        have B6 := Lib.hid (B5.out.trans (hb6.mono B5.out.size))
        clear hb6 B5
        have HW := Lib.hid (Lst.own o8)
        clear o8 e0 e1 e2
        have T := Lib.hid (box3q_re (w1 := w8) HQ.out)
        go_upto_region 4 with fail
        go_region_held3 (fun w' => Below w8.heap.size w8 w' ∧ w'.cell? ⟨w.heap.size, 0, none⟩ = some (.string s) ∧ w'.cell? ⟨w.heap.size, 1, none⟩ = some (.int .i64 k) ∧ w'.cell? ⟨w.heap.size, 2, none⟩ = some (.int .i64 m))
          (first | assumption | exact box3q_carry T.out (Below.refl _ _).drew | exact box3q_carry (by assumption) (by assumption))
          (first
            | (go_at_call 35; (with_reducible refine (merge_lst a na ca xs b nb cb ys Ms NMs _ (HX.out.below (And.left (by assumption))) (HY.out.below (And.left (by assumption))) (by omega) (by omega) E_hMs.out E_nMs.out).mono ?_); rintro e w' ⟨a9, c9, rfl, o9, hb⟩)
            | (go_at_call 15; (with_reducible refine (all_lit a9 NMs c9 Na3 Ms s k a3 _ (HoldsT.own (by assumption)) (by omega) QM.out (by omega) E_ha3.out E_na3.out).mono ?_); rintro e w' ⟨a10, c10, rfl, o10, hb10⟩))
        rename_i T5
        have hbT := T5.1
        clear T T5
        generalize w' = w9 at *
        have H8 := Lib.hid (HoldsK.own o10)
        clear o9 hb o10 hb10
        replace HX := Lib.hid (HX.out.below hbT)
        replace HY := Lib.hid (HY.out.below hbT)
        replace HQ := Lib.hid (box3q_carry HQ.out hbT)
        replace HW := Lib.hid (HW.out.below hbT)
        have B7 := Lib.hid (B6.out.trans (hbT.mono B6.out.size))
        clear hbT B6
        have HXT := Lib.hid HX.out.1
        have HWT := Lib.hid HW.out.1
        have T := Lib.hid (box3q_re (w1 := w9) HQ.out)
        have HLT := Lib.hid (lt_of_cell HQ.out.2.1)
        go_upto_region 5 with fail
        go_region_held3 (fun w' => Below w9.heap.size w9 w' ∧ w'.cell? ⟨w.heap.size, 0, none⟩ = some (.string s) ∧ w'.cell? ⟨w.heap.size, 1, none⟩ = some (.int .i64 k) ∧ w'.cell? ⟨w.heap.size, 2, none⟩ = some (.int .i64 m))
          (first | assumption | exact box3q_carry T.out (Below.refl _ _).drew | exact box3q_carry (by assumption) (by assumption) | exact box3q_app (by assumption) (by assumption) (Nat.le_refl _) HLT.out)
          (first
            | (go_at_call 15; (with_reducible refine (all_lit a na ca Na1 xs s k a1 _ (HXT.out.below (And.left (by assumption))) (by omega) QX.out (by omega) E_ha1.out E_na1.out).mono ?_); rintro e w' ⟨a11, c11, rfl, o11, hb11⟩)
            | (go_at_call 15; (with_reducible refine (all_lit a8 NWs c8 Na2 Ws s k a2 _ (HWT.out.below (And.left (by assumption))) (by omega) QW.out (by omega) E_ha2.out E_na2.out).mono ?_); rintro e w' ⟨a12, c12, rfl, o12, hb12⟩)
            | (refine wp_append_n (.tmp 56) (.tmp 62) 28 rfl _ 37 i0 (.agg #[.int .i64 0, .string ⟨#[]⟩]) 2 24 Try.underlying28 hi hz0 hz1 hz2 rfl (by decide) (.slice a11 Na1 c11) Na1 (keysV a1) rfl (owns_below o11 hb12) _ Na2 c12 (keysV a2) rfl (owns_none o12).1 (by rw [keysV_len, E_na2.out]) (HoldsK.cellsAny (HoldsK.own o12) ⟨rfl, rfl, rfl, Nat.le_refl _, fun _ _ _ => rfl⟩) (keysV_one _) Na3 E_pL.out (by unfold maxLen; omega) (by omega) (Nat.le_trans hb11.size hb12.size) ?_; intro a13 c13 w13 o13 hb13)
            | (go_at_call 25; (with_reducible refine (rankSort_lit a13 Na3 c13 (a1 ++ a2) a3 _ (HoldsK.own (e := 37) (by rw [keysV_app]; exact o13)) (owns_none o13).1 (by omega) E_pS.out).mono ?_); rintro e w' ⟨a14, c14, rfl, o14, hb14⟩))
        rename_i T5
        have hbT := T5.1
        clear T T5 HLT
        generalize w' = w10 at *
        have H9 := Lib.hid (HoldsK.own o14)
        clear o11 hb11 o12 hb12 o13 hb13 o14 hb14
        replace HX := Lib.hid (HX.out.below hbT)
        replace HY := Lib.hid (HY.out.below hbT)
        replace HQ := Lib.hid (box3q_carry HQ.out hbT)
        replace HW := Lib.hid (HW.out.below hbT)
        replace H8 := Lib.hid (H8.out.below hbT)
        replace HXT := Lib.hid (HXT.out.below hbT)
        replace HWT := Lib.hid (HWT.out.below hbT)
        have B8 := Lib.hid (B7.out.trans (hbT.mono B7.out.size))
        clear hbT B7
        have T := Lib.hid (box3q_re (w1 := w10) HQ.out)
        have HLT := Lib.hid (lt_of_cell HQ.out.2.1)
        go_upto_region 6 with fail
        go_region_held3 (fun w' => Below w10.heap.size w10 w' ∧ w'.cell? ⟨w.heap.size, 0, none⟩ = some (.string s) ∧ w'.cell? ⟨w.heap.size, 1, none⟩ = some (.int .i64 k) ∧ w'.cell? ⟨w.heap.size, 2, none⟩ = some (.int .i64 m))
          (first | assumption | exact box3q_carry T.out (Below.refl _ _).drew | exact box3q_carry (by assumption) (by assumption) | exact box3q_app (by assumption) (by assumption) (Nat.le_refl _) HLT.out)
          (first
            | (go_at_call 14; (with_reducible refine (top_lit a na ca Nt1 xs s k m t1 _ (HXT.out.below (And.left (by assumption))) (by omega) QX.out (by omega) E_ht1.out E_nt1.out).mono ?_); rintro e w' ⟨a15, c15, rfl, o15, hb15⟩)
            | (go_at_call 14; (with_reducible refine (top_lit a8 NWs c8 Nt2 Ws s k m t2 _ (HWT.out.below (And.left (by assumption))) (by omega) QW.out (by omega) E_ht2.out E_nt2.out).mono ?_); rintro e w' ⟨a16, c16, rfl, o16, hb16⟩)
            | (refine wp_append_n (.tmp 67) (.tmp 70) 28 rfl _ 37 i0 (.agg #[.int .i64 0, .string ⟨#[]⟩]) 2 24 Try.underlying28 hi hz0 hz1 hz2 rfl (by decide) (.slice a15 Nt1 c15) Nt1 (keysV t1) rfl (owns_below o15 hb16) _ Nt2 c16 (keysV t2) rfl (owns_none o16).1 (by rw [keysV_len, E_nt2.out]) (HoldsK.cellsAny (HoldsK.own o16) ⟨rfl, rfl, rfl, Nat.le_refl _, fun _ _ _ => rfl⟩) (keysV_one _) NT E_hNT.out (by unfold maxLen; omega) (by omega) (Nat.le_trans hb15.size hb16.size) ?_; intro a17 c17 w17 o17 hb17)
            | (go_at_call 25; (with_reducible refine (rankSort_lit a17 NT c17 (t1 ++ t2) (sortK (t1 ++ t2)) _ (HoldsK.own (e := 37) (by rw [keysV_app]; exact o17)) (owns_none o17).1 (by omega) rfl).mono ?_); rintro e w' ⟨a18, c18, rfl, o18, hb18⟩))
        rename_i T5
        have hbT := T5.1
        clear T T5 HLT
        generalize w' = w11 at *
        have H10 := Lib.hid (show HoldsK w11 a18 Nt3 t3 from by have := HoldsK.own (owns_take o18 Nt3 (by omega)); rwa [E_pT2.out] at this)
        have hc18 : Nt3 ≤ c18 := Nat.le_trans pT1 (owns_none o18).2
        clear o15 hb15 o16 hb16 o17 hb17 o18 hb18
        replace HX := Lib.hid (HX.out.below hbT)
        replace HY := Lib.hid (HY.out.below hbT)
        replace HQ := Lib.hid (box3q_carry HQ.out hbT)
        replace HW := Lib.hid (HW.out.below hbT)
        replace H8 := Lib.hid (H8.out.below hbT)
        replace HXT := Lib.hid (HXT.out.below hbT)
        replace HWT := Lib.hid (HWT.out.below hbT)
        replace H9 := Lib.hid (H9.out.below hbT)
        have B9 := Lib.hid (B8.out.trans (hbT.mono B8.out.size))
        clear hbT B8
        have T := Lib.hid (box3q_re (w1 := w11) HQ.out)
        go_upto_region 7 with fail
        go_region_held3 (fun w' => Below w11.heap.size w11 w' ∧ w'.cell? ⟨w.heap.size, 0, none⟩ = some (.string s) ∧ w'.cell? ⟨w.heap.size, 1, none⟩ = some (.int .i64 k) ∧ w'.cell? ⟨w.heap.size, 2, none⟩ = some (.int .i64 m))
          (first | assumption | exact box3q_carry T.out (Below.refl _ _).drew | exact box3q_carry (by assumption) (by assumption))
          (first
            | (go_at_call 35; (with_reducible refine (merge_lst a na ca xs b nb cb ys Ms NMs _ (HX.out.below (And.left (by assumption))) (HY.out.below (And.left (by assumption))) (by omega) (by omega) E_hMs.out E_nMs.out).mono ?_); rintro e w' ⟨a19, c19, rfl, o19, hb19⟩)
            | (go_at_call 14; (with_reducible refine (top_lit a19 NMs c19 Nt3 Ms s k m t3 _ (HoldsT.own (by assumption)) (by omega) QM.out (by omega) E_ht3.out E_nt3.out).mono ?_); rintro e w' ⟨a20, c20, rfl, o20, hb20⟩))
        rename_i T5
        have hbT := T5.1
        clear T T5
        generalize w' = w12 at *
        have H11 := Lib.hid (HoldsK.own o20)
        clear o19 hb19 o20 hb20
        replace HX := Lib.hid (HX.out.below hbT)
        replace HY := Lib.hid (HY.out.below hbT)
        replace HQ := Lib.hid (box3q_carry HQ.out hbT)
        replace HW := Lib.hid (HW.out.below hbT)
        replace H8 := Lib.hid (H8.out.below hbT)
        replace HXT := Lib.hid (HXT.out.below hbT)
        replace HWT := Lib.hid (HWT.out.below hbT)
        replace H9 := Lib.hid (H9.out.below hbT)
        replace H10 := Lib.hid (H10.out.below hbT)
        have B10 := Lib.hid (B9.out.trans (hbT.mono B9.out.size))
        clear hbT B9
        have hd1 : decide (Nt3 ≤ NT) = true := by simpa using pT1
        go_wp2_with fail
        refine (sameItems_yes a10 a14 Na3 _ _ a3 _ H8.out H9.out (by omega)).mono ?_
        rintro e w13 ⟨rfl, hb20⟩
        replace H10 := Lib.hid (H10.out.below hb20)
        replace H11 := Lib.hid (H11.out.below hb20)
        have B11 := Lib.hid (B10.out.trans (hb20.mono B10.out.size))
        clear hb20 B10
        go_wp2_with fail
        refine (sameItems_yes a20 a18 Nt3 _ _ t3 _ H11.out H10.out (by omega)).mono ?_
        rintro e w14 ⟨rfl, hb21⟩
        have B12 := Lib.hid (B11.out.trans (hb21.mono B11.out.size))
        clear hb21 B11
        go_wp2_with fail
        refine (awake_any _).mono ?_
        rintro e w99 ⟨rfl, hb99⟩
        go_wp2_with fail
        go_ret
        exact ⟨rfl, B12.out.trans (hb99.mono B12.out.size)⟩
open Go.ChangeShapes Go.WideShapes Go.ChangeAt in
theorem rankParts_walk {H : Type} {enc : TypeId × Value → H} (W : World) (base : Nat) (v0 v1 v2 : Value) (d0 d1 d2 : DataW H) (p0 p1 p2 : List MemPlace)
    (h0 : DataW.Trod enc Try.prog W 0 (fun _ => true) true 22 v0 d0 p0) (h1 : DataW.Trod enc Try.prog W 0 (fun _ => true) true 22 v1 d1 p1) (h2 : DataW.Trod enc Try.prog W 0 (fun _ => true) true 24 v2 d2 p2)
    (o0 : Value.okWide Try.prog W .any base 22 v0) (o1 : Value.okWide Try.prog W .any base 22 v1) (o2 : Value.okWide Try.prog W .any base 24 v2) :
    Calls Try.prog 8 #[v0, v1, v2] W fun e w' => e = .returned (.bool true) ∧ RowKit.Below W.heap.size W w' := by
  obtain ⟨a0, n0, c0, k0, rfl, x0, y0, z0, b0, s0⟩ := open_texts_arg o0 h0
  obtain ⟨a1, n1, c1, k1, rfl, x1, y1, z1, b1, s1⟩ := open_texts_arg o1 h1
  obtain ⟨t, k, n, ht, _, _, rfl⟩ := query_arg o2 h2
  exact rankParts_law a0 n0 c0 k0 a1 n1 c1 k1 t k n W ⟨x0, y0, z0⟩ b0 s0 ⟨x1, y1, z1⟩ b1 s1 ht
end Go.Proofs.Ytioegheehodndaa
