/- a greater bound tells the same; what is dead stays dead -/
import Derived.Test.YtgaenkckffjcaaaPkB
import Derived.Test.YtgaenkckffjcaaaPkA
namespace Go.Proofs.Ytgaenkckffjcaaa
open Go.RowKit
set_option linter.unusedVariables false
set_option maxRecDepth 20000
namespace Au
theorem app_left (p more : List Int) (j : Nat) (h : j < p.length) : (p ++ more).getD j 0 = p.getD j 0 := by
  simp [List.getD_eq_getElem?_getD, List.getElem?_append_left h]
theorem app_right (p more : List Int) (m i : Nat) (h : p.length = m) : (p ++ more).getD (m + i) 0 = more.getD i 0 := by
  subst h
  simp [List.getD_eq_getElem?_getD, List.getElem?_append_right]
theorem st_stay {q p : List Int} {k : Int} {j : Nat} (hk : 0 ≤ k) (h : st q p k j = []) (i : Nat) : st q p k (j + i) = [] := by
  induction i with
  | zero => exact h
  | succ i ih => exact st_dead hk ih
end Au
theorem onec_carry {w1 w w' : World} {b o : Nat} {v : Value} (h : Below w1.heap.size w1 w ∧ w.cell? ⟨b, o, none⟩ = some v) (hb : Below w.heap.size w w') : Below w1.heap.size w1 w' ∧ w'.cell? ⟨b, o, none⟩ = some v :=
  ⟨h.1.trans (hb.mono h.1.size), (hb.cell (lt_of_cell h.2)).trans h.2⟩
set_option maxHeartbeats 3200000 in
set_option maxRecDepth 100000 in
theorem autoRises_any (q p more : List Int) (a b c0 : Option Addr) (n m u ca cb cc : Nat) (k0 : Int) (w : World) (ha : HoldsI .i32 w a n q) (hb : HoldsI .i32 w b m p) (hc : HoldsI .i32 w c0 u more) (h63 : n ≤ 9223372036854775807) (h64 : m ≤ 9223372036854775807) (h65 : u ≤ 9223372036854775807) :
    Calls Try.prog 5 #[.slice a n ca, .slice b m cb, .slice c0 u cc, .int .i64 k0] w fun e w' => e = .returned (.bool true) ∧ Below w.heap.size w w' := by
  have CL := Lib.hid (fun w => long_any n ca m cb a b w h63 h64)
  by_cases hlong : 16 < n ∨ 16 < m
  · have E := Lib.hid (decide_eq_true hlong)
    clear hlong ha hb hc h63 h64
    go_enter Try.func5, Try.ntmps5
    go_wp2_with fail
    refine (CL.out _).mono ?_
    rintro e w' ⟨rfl, rfl⟩
    rw [E.out]
    go_wp2_with fail
    refine (awake_any _).mono ?_
    rintro e w' ⟨rfl, hb3⟩
    go_wp2_with fail
    go_ret
    exact ⟨rfl, hb3⟩
  · have E := Lib.hid (decide_eq_false hlong)
    by_cases hu : 16 < u
    · have d1 : decide ((u : Int) > 16) = true := by simp; omega
      have d2 : decide (16 < u) = true := by simp; omega
      clear hlong ha hb hc h63 h64
      go_enter Try.func5, Try.ntmps5
      go_wp2_with fail
      refine (CL.out _).mono ?_
      rintro e w' ⟨rfl, rfl⟩
      rw [E.out]
      go_wp2_with fail
      refine (awake_any _).mono ?_
      rintro e w' ⟨rfl, hb3⟩
      go_wp2_with fail
      go_ret
      exact ⟨rfl, hb3⟩
    · have d1 : decide ((u : Int) > 16) = false := by simp; omega
      have d2 : decide (16 < u) = false := by simp; omega
      have hn : n ≤ 16 := by omega
      have hm : m ≤ 16 := by omega
      have HA := Lib.hid ha; have HB := Lib.hid hb; have HC := Lib.hid hc
      have hk := low_bd k0 4 (by omega)
      have CW := Lib.hid (fun w => low_any k0 4 (by omega) (by omega) w)
      obtain ⟨k, hkv⟩ : ∃ k, lowV k0 4 = k := ⟨_, rfl⟩
      rw [hkv] at hk CW
      obtain ⟨hk0, hk4⟩ := hk
      obtain ⟨P, hP⟩ : ∃ P, p ++ more = P := ⟨_, rfl⟩
      have PL := Lib.hid (fun j (hj : j < m) => show P.getD j 0 = p.getD j 0 from hP ▸ Au.app_left p more j (by rw [hb.len]; exact hj))
      have PR := Lib.hid (fun i => show P.getD (m + i) 0 = more.getD i 0 from hP ▸ Au.app_right p more m i hb.len)
      clear hlong ha hb hc h63 h64 hkv hP
      have HK := Lib.hid (show 0 ≤ k ∧ k ≤ 4 by omega)
      have HK1 := Lib.hid (show 0 ≤ k + 1 ∧ k + 1 ≤ 4 by omega)
      have zk : IntKind.i64.wrap (k + 1) = k + 1 := IntWalk.i64_in _ (by omega)
      go_enter Try.func5, Try.ntmps5
      go_wp2_with fail
      refine (CL.out _).mono ?_
      rintro e w' ⟨rfl, rfl⟩
      rw [E.out]
      clear CL E
      go_wp2_with fail
      refine (CW.out _).mono ?_
      rintro e w' ⟨rfl, rfl⟩
      clear CW
      go_wp2_with fail
      refine (start_yes a n ca k _ HK.out).mono ?_
      rintro e w1 ⟨sa, sc, rfl, ho, hb⟩
      have S1 := Lib.hid (show HoldsP w1 sa 1 (Au.st q P k 0) from by rw [Au.st_zero q P HK.out.1]; exact HoldsP.own ho)
      have B1 := Lib.hid hb
      clear ho hb
      go_wp2_with fail
      refine (start_yes a n ca (k + 1) _ HK1.out).mono ?_
      rintro e w2 ⟨ta, tc, rfl, ho, hb⟩
      have T2 := Lib.hid (show HoldsP w2 ta 1 (Au.st q P (k + 1) 0) from by rw [Au.st_zero q P HK1.out.1]; exact HoldsP.own ho)
      have S2 := Lib.hid (S1.out.below hb)
      have B2 := Lib.hid (B1.out.trans (hb.mono B1.out.size))
      clear ho hb S1 B1
      go_wp2_with fail
      go_loopw [9, 10, 11] (fun sv tv iv wr => ∃ (j : Nat) (sa ta : Option Addr) (L M sc tc : Nat), j ≤ m ∧ iv = .int .i64 j ∧ sv = .slice sa L sc ∧ tv = .slice ta M tc ∧ Hid (HoldsP wr sa L (Au.st q P k j)) ∧ Hid (HoldsP wr ta M (Au.st q P (k + 1) j)) ∧ Hid (Below w.heap.size w wr)) (fun _ _ iv _ => m - (intOf iv).toNat)
      case atStart => exact ⟨0, sa, ta, 1, 1, sc, tc, by omega, rfl, rfl, rfl, S2, T2, B2⟩
      case round =>
        obtain ⟨j, sa, ta, L, M, sc, tc, hj, rfl, rfl, rfl, hS, hT, hB⟩ := hrel
        by_cases hlt : j < m
        · obtain ⟨bb, ob, rfl, hcb⟩ := (HB.out.below hB.out).at (by omega)
          have e1 := hcb j hlt
          clear hcb
          obtain ⟨r, hr⟩ : ∃ r, p.getD j 0 = r := ⟨_, rfl⟩
          rw [hr] at e1
          have HR := Lib.hid (show P.getD j 0 = r by rw [PL.out j hlt, hr])
          obtain ⟨S', hS'⟩ : ∃ S', Au.st q P k (j + 1) = S' := ⟨_, rfl⟩
          obtain ⟨T', hT'⟩ : ∃ T', Au.st q P (k + 1) (j + 1) = T' := ⟨_, rfl⟩
          obtain ⟨L2, hL2⟩ : ∃ L2, S'.length = L2 := ⟨_, rfl⟩
          obtain ⟨M2, hM2⟩ : ∃ M2, T'.length = M2 := ⟨_, rfl⟩
          have hdd : M2 = 0 → L2 = 0 := fun h0 => by
            have h1 : T' = [] := List.length_eq_zero_iff.1 (by rw [hM2]; exact h0)
            rw [← hL2, ← hS', Au.st_less HK.out.1 (by rw [hT']; exact h1)]; rfl
          have CS := Lib.hid (fun w' (h : Below wr.heap.size wr w') => step_lit q P j k a sa n ca L sc L2 r _ S' w' ((HA.out.below hB.out).below h) (hS.out.below h) HK.out (by omega) HR.out rfl hS' hL2)
          have CT := Lib.hid (fun w' (h : Below wr.heap.size wr w') => step_lit q P j (k + 1) a ta n ca M tc M2 r _ T' w' ((HA.out.below hB.out).below h) (hT.out.below h) HK1.out (by omega) HR.out rfl hT' hM2)
          have HS' := Lib.hid hS'; have HT' := Lib.hid hT'
          have hl9 : L2 ≤ 9 := by have := Au.st_len (q := q) (p := P) (j := j + 1) HK.out.1; rw [hS', hL2] at this; omega
          have hm9 : M2 ≤ 9 := by have := Au.st_len (q := q) (p := P) (j := j + 1) HK1.out.1; rw [hT', hM2] at this; omega
          obtain ⟨f, hf⟩ : ∃ f, decide (L2 = 0) = f := ⟨_, rfl⟩
          obtain ⟨f2, hf2⟩ : ∃ f, decide (M2 = 0) = f := ⟨_, rfl⟩
          have CD := Lib.hid (fun a c w => dead_any a L2 c f w (by omega) hf)
          have CD2 := Lib.hid (fun a c w => dead_any a M2 c f2 w (by omega) hf2)
          have hff : f2 = true → f = true := by subst hf hf2; simpa using hdd
          have HB0 := Lib.hid hB.out
          have o1 := e1
          clear hr hS' hT' hL2 hM2 hdd hf hf2 hS hT hB
          go_upto_region 8 with fail
          go_cut [9, 10] from 36 to 65 (fun x y wc => ∃ (sa3 : Option Addr) (sc3 : Nat) (ta3 : Option Addr) (tc3 : Nat), x = .slice sa3 L2 sc3 ∧ y = .slice ta3 M2 tc3 ∧ Hid (HoldsP wc sa3 L2 S') ∧ Hid (HoldsP wc ta3 M2 T') ∧ Hid (Below w.heap.size w wc))
          case first =>
            have hS0 : Below wr.heap.size wr wr.drew ∧ wr.drew.cell? ⟨bb, ob + j, none⟩ = some (.int .i32 r) := ⟨(Below.refl _ _).drew, e1⟩
            go_region_held3 (fun w' => Below wr.heap.size wr w' ∧ w'.cell? ⟨bb, ob + j, none⟩ = some (.int .i32 r))
              (first | assumption | exact onec_carry (by assumption) (by assumption))
              (first | (go_at_call 15; ((with_reducible refine (CS.out _ (And.left (by assumption))).mono ?_); rintro e w' ⟨sa3, sc3, rfl, ho, hb⟩)) | (go_at_call 15; ((with_reducible refine (CT.out _ (And.left (by assumption))).mono ?_); rintro e w' ⟨sa3, sc3, rfl, ho, hb⟩)))
            all_goals (go_wp2_with fail; go_meet)
            all_goals refine ⟨_, _, _, _, rfl, rfl, ?_, ?_, Lib.hid (HB0.out.trans (Below.mono (And.left (by assumption)) HB0.out.size))⟩
            all_goals (first | exact Lib.hid (HoldsP.own (by assumption)) | exact Lib.hid ((HoldsP.own (by assumption)).below (by assumption)))
          case rest =>
            obtain ⟨sa3, sc3, ta3, tc3, rfl, rfl, S3, T3, B3⟩ := hcut
            clear CS CT HB0 o1
            rw [← HS'.out] at S3
            rw [← HT'.out] at T3
            cases f
            · obtain rfl : f2 = false := by
                cases f2
                · rfl
                · exact absurd (hff rfl) (by decide)
              clear hff
              go_wp2_with fail
              refine (CD.out _ _ _).mono ?_
              rintro e w4 ⟨rfl, rfl⟩
              go_wp2_with fail
              refine (CD2.out _ _ _).mono ?_
              rintro e w4 ⟨rfl, rfl⟩
              go_wp2_with fail
              go_roundw
              case rel => exact ⟨j + 1, sa3, ta3, L2, M2, sc3, tc3, by omega, by go_num, rfl, rfl, S3, T3, B3⟩
              case measure => simp [intOf] <;> omega
            · clear hff
              go_wp2_with fail
              refine (CD.out _ _ _).mono ?_
              rintro e w4 ⟨rfl, rfl⟩
              go_wp2_with fail
              go_roundw
              case rel => exact ⟨j + 1, sa3, ta3, L2, M2, sc3, tc3, by omega, by go_num, rfl, rfl, S3, T3, B3⟩
              case measure => simp [intOf] <;> omega
        · obtain rfl : j = m := by omega
          have BD := Lib.hid (Ed.L_bd q P n j)
          obtain ⟨D, hD⟩ : ∃ D, Ed.L q P n j = D := ⟨_, rfl⟩
          rw [hD] at BD
          have hw := Au.st_whole (q := q) (p := P) HK.out.1 j
          rw [HA.out.len, hD] at hw
          have hw1 := Au.st_whole (q := q) (p := P) HK1.out.1 j
          rw [HA.out.len, hD] at hw1
          have LL : L ≤ 9 := by have := Au.st_len (q := q) (p := P) (j := j) HK.out.1; rw [hS.out.len] at this; omega
          have LM : M ≤ 9 := by have := Au.st_len (q := q) (p := P) (j := j) HK1.out.1; rw [hT.out.len] at this; omega
          have CX := Lib.hid (fun w h => dist_any a n ca sa L sc (Au.st q P k j) k _ w h (by rw [← HA.out.len]; exact Au.st_ok HK.out.1) HK.out (by omega) (by omega) hw)
          have CY := Lib.hid (fun w h => dist_any a n ca ta M tc (Au.st q P (k + 1) j) (k + 1) _ w h (by rw [← HA.out.len]; exact Au.st_ok HK1.out.1) HK1.out (by omega) (by omega) hw1)
          obtain ⟨f, hf⟩ : ∃ f, decide (L = 0) = f := ⟨_, rfl⟩
          have CD := Lib.hid (fun w => dead_any sa L sc f w (by omega) hf)
          have HF := Lib.hid (show f = true → Au.st q P k j = [] from fun h => List.length_eq_zero_iff.1 (by rw [hS.out.len]; subst hf; simpa using h))
          have b0 := BD.out
          clear hD hw hw1 hf hlt
          go_wp2_with fail
          refine (CX.out _ hS.out).mono ?_
          rintro e w3 ⟨rfl, hb⟩
          have S3 := Lib.hid (hS.out.below hb)
          have T3 := Lib.hid (hT.out.below hb)
          have B3 := Lib.hid (hB.out.trans (hb.mono hB.out.size))
          clear hb hS hT hB CX
          obtain ⟨x, hx⟩ : ∃ x, Au.telB (min D (k + 1)) k = x := ⟨_, rfl⟩
          obtain ⟨o, ho⟩ : ∃ x, Au.telO (min D (k + 1)) k = x := ⟨_, rfl⟩
          obtain ⟨y, hy⟩ : ∃ x, Au.telB (min D (k + 1 + 1)) (k + 1) = x := ⟨_, rfl⟩
          obtain ⟨o2, ho2⟩ : ∃ x, Au.telO (min D (k + 1 + 1)) (k + 1) = x := ⟨_, rfl⟩
          have CY2 := CY.out
          rw [hy, ho2] at CY2
          rw [hx, ho]
          have HY := Lib.hid CY2
          have HH := Lib.hid (And.intro hx (And.intro ho (And.intro hy ho2)))
          clear CY CY2 hx ho hy ho2
          go_wp2_with fail
          refine (HY.out _ T3.out).mono ?_
          rintro e w4 ⟨rfl, hb⟩
          have S4 := Lib.hid (S3.out.below hb)
          have B4 := Lib.hid (B3.out.trans (hb.mono B3.out.size))
          clear hb S3 T3 B3 HY
          have hz : (o = true ∧ o2 = true ∧ x = y) ∨ (o = false ∧ o2 = true ∧ y = k + 1) ∨ (o = false ∧ o2 = false) := by
            obtain ⟨rfl, rfl, rfl, rfl⟩ := HH.out
            by_cases h1 : D ≤ k
            · left
              rw [show min D (k + 1) = D by omega, show min D (k + 1 + 1) = D by omega, Au.telO_yes h1, Au.telO_yes (by omega), Au.telB_yes h1, Au.telB_yes (by omega)]
              exact ⟨rfl, rfl, rfl⟩
            · by_cases h2 : D ≤ k + 1
              · right; left
                rw [show min D (k + 1) = k + 1 by omega, show min D (k + 1 + 1) = D by omega, Au.telO_no (by omega), Au.telO_yes (by omega), Au.telB_yes (by omega)]
                exact ⟨rfl, rfl, by omega⟩
              · right; right
                rw [show min D (k + 1) = k + 1 by omega, show min D (k + 1 + 1) = k + 1 + 1 by omega, Au.telO_no (by omega), Au.telO_no (by omega)]
                exact ⟨rfl, rfl⟩
          clear HH
          have zz : (k + 1 != k + 1) = false := by simp
          have zx : (x != x) = false := by simp
          rcases hz with ⟨rfl, rfl, rfl⟩ | ⟨rfl, rfl, rfl⟩ | ⟨rfl, rfl⟩
          all_goals
            go_wp2_with fail
            refine (CD.out _).mono ?_
            rintro e w5 ⟨rfl, rfl⟩
            go_wp2_with fail
            go_loopw [9, 17] (fun sv iv wr => ∃ (i : Nat) (sa : Option Addr) (L sc : Nat), i ≤ u ∧ iv = .int .i64 i ∧ sv = .slice sa L sc ∧ Hid (HoldsP wr sa L (Au.st q P k (j + i))) ∧ Hid (Below w.heap.size w wr)) (fun _ iv _ => u - (intOf iv).toNat)
            case atStart => exact ⟨0, sa, L, sc, by omega, rfl, rfl, S4, B4⟩
            case round =>
              obtain ⟨i, sa, L, sc, hi, rfl, rfl, hS, hB⟩ := hrel
              by_cases hlt : i < u
              · obtain ⟨bb, ob, rfl, hcb⟩ := (HC.out.below hB.out).at (by omega)
                have e1 := hcb i hlt
                clear hcb
                obtain ⟨r, hr⟩ : ∃ r, more.getD i 0 = r := ⟨_, rfl⟩
                rw [hr] at e1
                have HR := Lib.hid (show P.getD (j + i) 0 = r by rw [PR.out i, hr])
                obtain ⟨S', hS'⟩ : ∃ S', Au.st q P k (j + i + 1) = S' := ⟨_, rfl⟩
                obtain ⟨L2, hL2⟩ : ∃ L2, S'.length = L2 := ⟨_, rfl⟩
                have CS := Lib.hid (fun w' (h : Below wr.heap.size wr w') => step_lit q P (j + i) k a sa n ca L sc L2 r _ S' w' ((HA.out.below hB.out).below h) (hS.out.below h) HK.out (by omega) HR.out rfl hS' hL2)
                have HS' := Lib.hid hS'
                have hl9 : L2 ≤ 9 := by have := Au.st_len (q := q) (p := P) (j := j + i + 1) HK.out.1; rw [hS', hL2] at this; omega
                obtain ⟨g, hg⟩ : ∃ f, decide (L2 = 0) = f := ⟨_, rfl⟩
                have CG := Lib.hid (fun a c w => dead_any a L2 c g w (by omega) hg)
                have hfg : f = true → g = true := fun h => by
                  have h1 := Au.st_stay HK.out.1 (HF.out h) (i + 1)
                  rw [← Nat.add_assoc, hS'] at h1
                  subst hg; rw [← hL2, h1]; rfl
                clear hr hS' hL2 hg
                go_wp2_with fail
                refine (CS.out _ (Below.refl _ _)).mono ?_
                rintro e w6 ⟨sa3, sc3, rfl, ho, hb⟩
                have S6 := Lib.hid (HoldsP.own ho)
                have B6 := Lib.hid (hB.out.trans (hb.mono hB.out.size))
                clear ho hb hS hB CS
                rw [← HS'.out, Nat.add_assoc] at S6
                cases f
                · clear hfg
                  go_wp2_with fail
                  go_roundw
                  case rel => exact ⟨i + 1, sa3, L2, sc3, by omega, by go_num, rfl, S6, B6⟩
                  case measure => simp [intOf] <;> omega
                · obtain rfl : g = true := hfg rfl
                  clear hfg
                  go_wp2_with fail
                  refine (CG.out _ _ _).mono ?_
                  rintro e w7 ⟨rfl, rfl⟩
                  go_wp2_with fail
                  go_roundw
                  case rel => exact ⟨i + 1, sa3, L2, sc3, by omega, by go_num, rfl, S6, B6⟩
                  case measure => simp [intOf] <;> omega
              · obtain rfl : i = u := by omega
                have BE := Lib.hid hB.out
                clear hB hS
                go_wp2_with fail
                refine (awake_any _).mono ?_
                rintro e w8 ⟨rfl, hb⟩
                have B8 := Lib.hid (BE.out.trans (hb.mono BE.out.size))
                clear hb
                go_wp2_with fail
                go_ret
                exact ⟨rfl, B8.out⟩
open Go.ChangeShapes Go.WideShapes Go.ChangeAt in
theorem autoRises_walk {H : Type} {enc : TypeId × Value → H} (W : World) (base : Nat) (v0 v1 v2 v3 : Value) (d0 d1 d2 d3 : DataW H) (p0 p1 p2 p3 : List MemPlace)
    (h0 : DataW.Trod enc Try.prog W 0 (fun _ => true) true 22 v0 d0 p0) (h1 : DataW.Trod enc Try.prog W 0 (fun _ => true) true 22 v1 d1 p1) (h2 : DataW.Trod enc Try.prog W 0 (fun _ => true) true 22 v2 d2 p2) (h3 : DataW.Trod enc Try.prog W 0 (fun _ => true) true 3 v3 d3 p3)
    (o0 : Value.okWide Try.prog W .any base 22 v0) (o1 : Value.okWide Try.prog W .any base 22 v1) (o2 : Value.okWide Try.prog W .any base 22 v2) (o3 : Value.okWide Try.prog W .any base 3 v3) :
    Calls Try.prog 5 #[v0, v1, v2, v3] W fun e w' => e = .returned (.bool true) ∧ RowKit.Below W.heap.size W w' := by
  obtain ⟨a, ra, ca, rfl, ha, _, _, k1, _⟩ := open_runes_arg o0 h0
  obtain ⟨b, rb, cb, rfl, hb, _, _, k2, _⟩ := open_runes_arg o1 h1
  obtain ⟨c, rc, cc, rfl, hc, _, _, k3, _⟩ := open_runes_arg o2 h2
  obtain ⟨x2, rfl, rfl, rfl, b2⟩ := open_int Try.underlying3 o3 h3
  exact autoRises_any ra rb rc a b c _ _ _ ca cb cc x2 W ha hb hc (by unfold maxLen at k1; omega) (by unfold maxLen at k2; omega) (by unfold maxLen at k3; omega)
end Go.Proofs.Ytgaenkckffjcaaa
