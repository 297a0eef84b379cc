/- RankAgain: put in order again items stay; from the other end they come to the same order -/
import Derived.Test.YtioegheehodndaaQRankSortsW
import Derived.Deep.CutRange
namespace Go.Proofs.Ytioegheehodndaa
open Go.RowKit
set_option linter.unusedVariables false
set_option maxRecDepth 20000
def cntK (x : KV) (l : List KV) : Nat := l.countP fun y => decide (y = x)
theorem eqI {a b : Int} (h : a = b) : Value.int .i64 a = .int .i64 b := by rw [h]
def Box4a (w0 : World) (p q r s : Addr) (v0 v1 v2 v3 : Value) (w : World) : Prop := Below w0.heap.size w0 w ∧ w.cell? p = some v0 ∧ w.cell? q = some v1 ∧ w.cell? r = some v2 ∧ w.cell? s = some v3
theorem box4a_carry {w0 w w' : World} {b o o1 o2 o3 : Nat} {v0 v1 v2 v3 : Value} (h : Box4a w0 ⟨b, o, none⟩ ⟨b, o1, none⟩ ⟨b, o2, none⟩ ⟨b, o3, none⟩ v0 v1 v2 v3 w) (hb : Below w.heap.size w w') : Box4a w0 ⟨b, o, none⟩ ⟨b, o1, none⟩ ⟨b, o2, none⟩ ⟨b, o3, none⟩ v0 v1 v2 v3 w' :=
  ⟨h.1.trans (hb.mono h.1.size), by rw [hb.cell (p := ⟨b, o, none⟩) (lt_of_cell h.2.1)]; exact h.2.1, by rw [hb.cell (p := ⟨b, o1, none⟩) (lt_of_cell h.2.1)]; exact h.2.2.1, by rw [hb.cell (p := ⟨b, o2, none⟩) (lt_of_cell h.2.1)]; exact h.2.2.2.1, by rw [hb.cell (p := ⟨b, o3, none⟩) (lt_of_cell h.2.1)]; exact h.2.2.2.2⟩
theorem cntK_snoc (x y : KV) (l : List KV) : cntK x (l ++ [y]) = cntK x l + if y = x then 1 else 0 := by
  unfold cntK
  rw [List.countP_append]
  by_cases h : y = x <;> simp [h]
theorem cntK_le (x : KV) (l : List KV) : cntK x l ≤ l.length := List.countP_le_length
theorem cntK_perm (x : KV) {l m : List KV} (h : l.Perm m) : cntK x l = cntK x m := h.countP_eq _
theorem sortK_at {l : List KV} {i j : Nat} (hij : i < j) (hj : j < l.length) : ¬ ordK ((sortK l).getD j k0) ((sortK l).getD i k0) < 0 := by
  have hs := sortK_sorted l
  have hl := sortK_length l
  have h := List.pairwise_iff_getElem.1 hs i j (by omega) (by omega) hij
  unfold leK at h
  simpa [List.getD_eq_getElem?_getD, show i < (sortK l).length by omega, show j < (sortK l).length by omega] using h
set_option maxRecDepth 100000 in
set_option maxHeartbeats 6400000 in
theorem rankAgain_any (a : Option Addr) (n ca : Nat) (ks : List KV) (w : World) (hh : HoldsK w a n ks) (hnil : a = none → n = 0 ∧ ca = 0) (hn : n ≤ 9223372036854775807) (hs : ∀ k ∈ ks, k.2.size ≤ 9223372036854775807) :
    Calls Try.prog 10 #[.slice a n ca] w fun e w' => e = .returned (.bool true) ∧ Below w.heap.size w w' := by
  obtain ⟨i0, hi, hz0, hz1, hz2⟩ := info_parts item_info
  have lks := hh.len
  have GK := Lib.hid (greatK_any a n ca ks w hh hn hs)
  have HX := Lib.hid hh
  obtain ⟨g, hg⟩ : ∃ g, greatKB ks = g := ⟨_, rfl⟩
  rw [hg] at GK
  clear hh hs
  cases g with
  | true =>
    clear hg
    go_enter Try.func10, Try.ntmps10
    go_wp2_with fail
    refine GK.out.mono ?_
    rintro e w' ⟨rfl, rfl⟩
    go_wp2_with fail
    refine (awake_any _).mono ?_
    rintro e w9 ⟨rfl, hb9⟩
    go_wp2_with fail
    go_ret
    exact ⟨rfl, hb9⟩
  | false =>
    obtain ⟨h80, hsm⟩ := greatK_no_iff.1 hg
    have SM := Lib.hid hsm
    clear hg hsm
    obtain ⟨ys, hys⟩ : ∃ ys, sortK ks = ys := ⟨_, rfl⟩
    have YS := Lib.hid hys
    have YL := Lib.hid (show ys.length = n by rw [← hys, sortK_length, lks])
    have YY := Lib.hid (show sortK ys = ys by rw [← hys]; exact sortK_same (sortK_sorted ks))
    have YR := Lib.hid (show sortK ks.reverse = ys by rw [← hys]; exact sortK_congr (List.reverse_perm ks))
    have YA := Lib.hid (show ∀ i, 0 < i → i < n → lessK (ys.getD i k0) (ys.getD (i - 1) k0) = false from fun i h1 h2 => by
      rw [← hys]; exact decide_eq_false (sortK_at (by omega) (by omega)))
    have YP := Lib.hid (show ∀ x, cntK x ks = cntK x ys from fun x => by rw [← hys]; exact (cntK_perm x (sortK_perm ks)).symm)
    have NIL := Lib.hid hnil
    have LKS := Lib.hid lks
    have hn80 : n ≤ 80 := by omega
    clear hys hnil lks
    go_enter Try.func10, Try.ntmps10
    go_wp2_with fail
    refine GK.out.mono ?_
    rintro e w' ⟨rfl, rfl⟩
    go_wp2_with fail
    refine (rankSort_lit _ n ca ks ys _ HX.out NIL.out (by omega) YS.out).mono ?_
    rintro e w4 ⟨a4, c4, rfl, hown4, hb4⟩
    have HX4 := Lib.hid (HX.out.below hb4)
    have B4 := Lib.hid hb4
    have HA := Lib.hid (HoldsK.own hown4)
    have HAn := Lib.hid (owns_none hown4).1
    clear hown4 hb4
    go_wp2_with fail
    go_loopw [4, 5] (fun ov iv wr => ∃ (j : Nat) (P : List KV) (av : Option Addr) (cv : Nat), j ≤ n ∧ iv = .int .i64 ((n : Int) - 1 - j) ∧ ov = .slice av j cv ∧ Hid (P = (ks.drop (n - j)).reverse) ∧ Hid (wr.ownsRow w4.heap.size 37 2 (.slice av j cv) j (keysV P)) ∧ Hid (Below w4.heap.size w4 wr)) (fun _ iv _ => (intOf iv + 1).toNat)
    case atStart => exact ⟨0, [], none, 0, by omega, by simp, rfl, Lib.hid (by rw [List.drop_of_length_le (by have := LKS.out; omega)]; rfl), Lib.hid (World.ownsRow_nil _ _ _ _), Lib.hid (Below.refl _ _)⟩
    case round =>
      obtain ⟨j, P, av, cv, hj, rfl, rfl, hP, hO, hB⟩ := hrel
      by_cases hlt : j < n
      · obtain ⟨q, hq⟩ : ∃ q : Nat, n - 1 - j = q := ⟨_, rfl⟩
        have hqi : (n : Int) - 1 - (j : Int) = (q : Int) := by omega
        have hqn : q < n := by omega
        obtain ⟨bb, o, rfl, hc⟩ := (HX4.out.below hB.out).at (by omega)
        obtain ⟨c0, c1⟩ := hc q hqn
        have hsn : P ++ [ks.getD q k0] = (ks.drop (n - (j + 1))).reverse := by
          rw [hP.out, show n - (j + 1) = q by omega, drop_getD ks q (by have := LKS.out; omega), List.reverse_cons, show n - j = q + 1 by omega]
        obtain ⟨y, hy⟩ : ∃ y, ks.getD q k0 = y := ⟨_, rfl⟩
        rw [hy] at c0 c1 hsn
        have HS := Lib.hid hsn
        obtain ⟨y1, y2⟩ := y
        simp only at c0 c1
        have hqm : (n : Int) - 1 - ((j : Int) + 1) = (q : Int) - 1 := by omega
        have HQ := Lib.hid hqm
        have hsz := hB.out.size
        rw [hqi]
        clear hc hy hsn hq hqi hqm
        go_wp2_with (at_builtin; refine wpList_append_any rfl (.tmp 21) (.tmp 26) 28 rfl w4.heap.size 37 i0 _ 2 24 Try.underlying28 hi hz0 hz1 hz2 rfl (by decide) _ j _ rfl (hO.out.alloc _) _ 1 1 [.int .i64 y1, .string y2] rfl (some_none _) rfl (two_new _ _ _ _ _) (two_one _ _) (by unfold maxLen; omega) (by omega) (by simp; omega) ?_; intro a3 c3 w3 hown3 hb3 hnil3)
        rw [show keysV P ++ [.int .i64 y1, .string y2] = keysV (P ++ [(y1, y2)]) from (keysV_snoc P (y1, y2)).symm] at hown3
        have O3 := Lib.hid hown3
        have B3 := Lib.hid ((hB.out.alloc hB.out.size _).trans hb3)
        clear hown3 hb3 hnil3
        go_roundw
        case rel => exact ⟨j + 1, P ++ [(y1, y2)], a3, c3, by omega, by have := HQ.out; simp <;> omega, rfl, HS, O3, B3⟩
        case measure => simp [intOf] <;> omega
      · obtain rfl : j = n := by omega
        have hPr : P = ks.reverse := by rw [hP.out, Nat.sub_self]; rfl
        have HAr := Lib.hid (HA.out.below hB.out)
        have HBk := Lib.hid (HoldsK.own hO.out)
        have HBn := Lib.hid (owns_none hO.out).1
        have HXr := Lib.hid (HX4.out.below hB.out)
        have Br := Lib.hid (B4.out.trans (hB.out.mono B4.out.size))
        rw [hPr] at HBk
        have hm1 : (j : Int) - 1 - (j : Int) = -1 := by omega
        rw [hm1]
        clear hP hO hB hPr hm1 HA HX HX4 B4
        go_upto_region 9 with fail
        go_wp2_with fail
        refine (rankSort_lit _ j c4 ys ys _ HAr.out HAn.out (by omega) YY.out).mono ?_
        rintro e w5 ⟨a5, c5, rfl, hown5, hb5⟩
        have B5 := Lib.hid (Br.out.trans (hb5.mono Br.out.size))
        have HA5 := Lib.hid (HAr.out.below hb5)
        have HB5 := Lib.hid (HBk.out.below hb5)
        have HX5 := Lib.hid (HXr.out.below hb5)
        have O5 := Lib.hid (HoldsK.own hown5)
        clear hown5 hb5
        go_wp2_with fail
        refine (sameItems_yes _ _ j _ _ ys _ O5.out HA5.out (by omega)).mono ?_
        rintro e w6 ⟨rfl, hb6⟩
        have B6 := Lib.hid (B5.out.trans (hb6.mono B5.out.size))
        have HA6 := Lib.hid (HA5.out.below hb6)
        have HB6 := Lib.hid (HB5.out.below hb6)
        have HX6 := Lib.hid (HX5.out.below hb6)
        clear hb6
        go_wp2_with fail
        refine (rankSort_lit _ j _ ks.reverse ys _ HB6.out HBn.out (by omega) YR.out).mono ?_
        rintro e w7 ⟨a7, c7, rfl, hown7, hb7⟩
        have B7 := Lib.hid (B6.out.trans (hb7.mono B6.out.size))
        have HA7 := Lib.hid (HA6.out.below hb7)
        have HX7 := Lib.hid (HX6.out.below hb7)
        have O7 := Lib.hid (HoldsK.own hown7)
        clear hown7 hb7
        go_wp2_with fail
        refine (sameItems_yes _ _ j _ _ ys _ O7.out HA7.out (by omega)).mono ?_
        rintro e w8 ⟨rfl, hb8⟩
        have B8 := Lib.hid (B7.out.trans (hb8.mono B7.out.size))
        have HA8 := Lib.hid (HA7.out.below hb8)
        have HX8 := Lib.hid (HX7.out.below hb8)
        clear hb8 HA7 HX7 O7 B7 HB6 HA6 HX6 B6 O5 HB5 HA5 HX5 B5 HAr HBk HXr Br
        go_wp2_with fail
        go_loopw [6] (fun iv wr => ∃ (i : Nat), i ≤ j ∧ iv = .int .i64 i ∧ Hid (Below w8.heap.size w8 wr)) (fun iv _ => j - (intOf iv).toNat)
        case atStart => exact ⟨0, by omega, rfl, Lib.hid (Below.refl _ _)⟩
        case round =>
          obtain ⟨i, hij, rfl, hB⟩ := hrel
          by_cases hil : i < j
          · obtain ⟨x, hx⟩ : ∃ x, ks.getD i k0 = x := ⟨_, rfl⟩
            have XI := Lib.hid hx
            have YPx := Lib.hid (YP.out x)
            generalize wr = wo at *
            go_wp2_with fail
            go_loopw [7, 8] (fun nv kv wr2 => ∃ (k : Nat), k ≤ j ∧ kv = .int .i64 k ∧ nv = .int .i64 ((cntK x (ks.take k) : Int) - (cntK x (ys.take k) : Int)) ∧ Hid (Below wo.heap.size wo wr2)) (fun _ kv _ => j - (intOf kv).toNat)
            case atStart => exact ⟨0, by omega, rfl, by simp [cntK], Lib.hid (Below.refl _ _)⟩
            case round =>
              obtain ⟨k, hk, rfl, rfl, hB2⟩ := hrel
              have Bk := Lib.hid (hB.out.trans (hB2.out.mono hB.out.size))
              have q1 := cntK_le x (ks.take k)
              have q2 := cntK_le x (ys.take k)
              have q3 : (ks.take k).length ≤ k := List.length_take_le _ _
              have q4 : (ys.take k).length ≤ k := List.length_take_le _ _
              by_cases hkj : k < j
              · obtain ⟨ab, ao, rfl, hc⟩ := (HX8.out.below Bk.out).at (by omega)
                obtain ⟨a0, a1⟩ := hc k hkj
                obtain ⟨b0, b1⟩ := hc i hil
                obtain ⟨bb, bo, rfl, hd⟩ := (HA8.out.below Bk.out).at (by omega)
                obtain ⟨d0, d1⟩ := hd k hkj
                have s1 := cntK_snoc x (ks.getD k k0) (ks.take k)
                have s2 := cntK_snoc x (ys.getD k k0) (ys.take k)
                rw [← take_succ_getD ks k0 k (by have := LKS.out; omega)] at s1
                rw [← take_succ_getD ys k0 k (by have := YL.out; omega)] at s2
                rw [XI.out] at b0 b1
                obtain ⟨y, hy⟩ : ∃ y, ks.getD k k0 = y := ⟨_, rfl⟩
                obtain ⟨z, hz⟩ : ∃ z, ys.getD k k0 = z := ⟨_, rfl⟩
                rw [hy] at a0 a1 s1
                rw [hz] at d0 d1 s2
                obtain ⟨c1, hc1⟩ : ∃ c, cntK x (ks.take k) = c := ⟨_, rfl⟩
                obtain ⟨c2, hc2⟩ : ∃ c, cntK x (ys.take k) = c := ⟨_, rfl⟩
                rw [hc1] at s1 q1
                rw [hc2] at s2 q2
                rw [hc1, hc2]
                have S1 := Lib.hid s1; have S2 := Lib.hid s2
                have hm1 : c1 ≤ k := by omega
                have hm2 : c2 ≤ k := by omega
                clear hc hd hy hz hc1 hc2 s1 s2 q1 q2 q3 q4
                obtain ⟨x1, x2⟩ := x
                obtain ⟨y1, y2⟩ := y
                obtain ⟨z1, z2⟩ := z
                simp only at a0 a1 b0 b1 d0 d1
                obtain ⟨f1, hf1⟩ : ∃ b, decide ((y1, y2) = (x1, x2)) = b := ⟨_, rfl⟩
                obtain ⟨f2, hf2⟩ : ∃ b, decide ((z1, z2) = (x1, x2)) = b := ⟨_, rfl⟩
                have N1 := Lib.hid (show cntK (x1, x2) (ks.take (k + 1)) = c1 + f1.toNat from by rw [S1.out, ← hf1]; by_cases e : (y1, y2) = (x1, x2) <;> simp [e])
                have N2 := Lib.hid (show cntK (x1, x2) (ys.take (k + 1)) = c2 + f2.toNat from by rw [S2.out, ← hf2]; by_cases e : (z1, z2) = (x1, x2) <;> simp [e])
                have F1 := Lib.hid hf1; have F2 := Lib.hid hf2
                clear hf1 hf2 S1 S2 XI YPx
                go_upto_region 18 with fail
                go_cut [67] from 59 to 66 (fun v wc => v = .bool f1 ∧ Hid (Below wr.heap.size wr wc))
                case first =>
                  by_cases e1 : y1 = x1
                  · by_cases e2 : y2 = x2
                    · subst e1 e2
                      have g1 : (y1 == y1) = true := by simp
                      have g2 := str_same y2
                      go_quiet (fail)
                      go_wp2_with fail
                      go_meet
                      exact ⟨by rw [← F1.out]; simp, Lib.hid (below_drewN _ _)⟩
                    · subst e1
                      have g1 : (y1 == y1) = true := by simp
                      have g2 := str_other e2
                      go_quiet (fail)
                      go_wp2_with fail
                      go_meet
                      exact ⟨by rw [← F1.out]; simp [e2], Lib.hid (below_drewN _ _)⟩
                  · have g1 : (y1 == x1) = false := by simpa using e1
                    go_quiet (fail)
                    go_wp2_with fail
                    go_meet
                    exact ⟨by rw [← F1.out]; simp [e1], Lib.hid (below_drewN _ _)⟩
                case rest =>
                  obtain ⟨rfl, hB3⟩ := hcut
                  have d0' : wc.cell? ⟨bb, bo + k * 2, none⟩ = some (.int .i64 z1) := (hB3.out.cell (p := ⟨bb, bo + k * 2, none⟩) (lt_of_cell d0)).trans d0
                  have d1' : wc.cell? ⟨bb, bo + k * 2 + 1, none⟩ = some (.string z2) := (hB3.out.cell (p := ⟨bb, bo + k * 2 + 1, none⟩) (lt_of_cell d0)).trans d1
                  have b0' : wc.cell? ⟨ab, ao + i * 2, none⟩ = some (.int .i64 x1) := (hB3.out.cell (p := ⟨ab, ao + i * 2, none⟩) (lt_of_cell b0)).trans b0
                  have b1' : wc.cell? ⟨ab, ao + i * 2 + 1, none⟩ = some (.string x2) := (hB3.out.cell (p := ⟨ab, ao + i * 2 + 1, none⟩) (lt_of_cell b0)).trans b1
                  clear a0 a1 b0 b1 d0 d1
                  cases f1
                  all_goals
                    simp only [Bool.toNat_true, Bool.toNat_false] at N1
                    go_upto_region 20 with fail
                    go_cut [78] from 70 to 77 (fun v wd => v = .bool f2 ∧ Hid (Below wc.heap.size wc wd))
                    case first =>
                      by_cases e1 : z1 = x1
                      · by_cases e2 : z2 = x2
                        · subst e1 e2
                          have g1 : (z1 == z1) = true := by simp
                          have g2 := str_same z2
                          go_quiet (fail)
                          go_wp2_with fail
                          go_meet
                          exact ⟨by rw [← F2.out]; simp, Lib.hid (below_drewN _ _)⟩
                        · subst e1
                          have g1 : (z1 == z1) = true := by simp
                          have g2 := str_other e2
                          go_quiet (fail)
                          go_wp2_with fail
                          go_meet
                          exact ⟨by rw [← F2.out]; simp [e2], Lib.hid (below_drewN _ _)⟩
                      · have g1 : (z1 == x1) = false := by simpa using e1
                        go_quiet (fail)
                        go_wp2_with fail
                        go_meet
                        exact ⟨by rw [← F2.out]; simp [e1], Lib.hid (below_drewN _ _)⟩
                    case rest =>
                      obtain ⟨rfl, hB4⟩ := hcut
                      clear d0' d1' b0' b1'
                      cases f2
                      all_goals
                        simp only [Bool.toNat_true, Bool.toNat_false] at N2
                        go_wp2_with fail
                        go_roundw
                        case rel => exact ⟨k + 1, by omega, by go_num, by rw [N1.out, N2.out]; exact eqI (by omega), Lib.hid ((hB2.out.trans (hB3.out.mono hB2.out.size)).trans (hB4.out.mono (Nat.le_trans hB2.out.size hB3.out.size)))⟩
                        case measure => simp [intOf]; omega
              · obtain rfl : k = j := by omega
                have hz0 : (cntK x (ks.take k) : Int) - (cntK x (ys.take k) : Int) = 0 := by
                  rw [List.take_of_length_le (by have := LKS.out; omega), List.take_of_length_le (by have := YL.out; omega), YPx.out]; omega
                rw [hz0]
                clear hz0 q1 q2 q3 q4
                have z0 : ((0 : Int) != 0) = false := rfl
                by_cases hi0 : i = 0
                · subst hi0
                  have g0 : decide ((0 : Int) > 0) = false := by decide
                  go_upto_region 22 with fail
                  go_quiet (fail)
                  go_wp2_with fail
                  go_roundw
                  case rel => exact ⟨0 + 1, by omega, by go_num, Lib.hid ((hB.out.trans (hB2.out.mono hB.out.size)).trans ((below_drewN _ _).mono (Nat.le_trans hB.out.size hB2.out.size)))⟩
                  case measure => simp [intOf]; omega
                · have g0 : 0 < i := by omega
                  have LE := Lib.hid (YA.out i (by omega) hil)
                  obtain ⟨p, hp⟩ : ∃ p : Nat, i - 1 = p := ⟨_, rfl⟩
                  obtain ⟨bb, bo, rfl, hd⟩ := (HA8.out.below Bk.out).at (by omega)
                  obtain ⟨d0, d1⟩ := hd i hil
                  obtain ⟨f0, f1⟩ := hd p (by omega)
                  rw [hp] at LE
                  obtain ⟨y, hy⟩ : ∃ y, ys.getD i k0 = y := ⟨_, rfl⟩
                  obtain ⟨z, hz⟩ : ∃ z, ys.getD p k0 = z := ⟨_, rfl⟩
                  rw [hy] at d0 d1 LE
                  rw [hz] at f0 f1 LE
                  have LL := Lib.hid (fun w => iless_lit y z false w LE.out)
                  obtain ⟨y1, y2⟩ := y
                  obtain ⟨z1, z2⟩ := z
                  unfold keyV at LL
                  simp only at d0 d1 f0 f1 LL
                  have x1 : (0 : Int) ≤ (i : Int) := by omega
                  have x2 : (i : Int) < (k : Int) := by omega
                  have x3 : (0 : Int) ≤ (p : Int) := by omega
                  have x4 : (p : Int) < (k : Int) := by omega
                  have hpi : p < k := by omega
                  have T := Lib.hid (show Box4a wr ⟨bb, bo + i * 2, none⟩ ⟨bb, bo + i * 2 + 1, none⟩ ⟨bb, bo + p * 2, none⟩ ⟨bb, bo + p * 2 + 1, none⟩ (.int .i64 y1) (.string y2) (.int .i64 z1) (.string z2) wr from ⟨Below.refl _ _, d0, d1, f0, f1⟩)
                  have hw1 : IntKind.i64.wrap ((i : Int) - 1) = (p : Int) := by rw [IntWalk.i64_in _ (by omega)]; omega
                  have HP := Lib.hid hp
                  clear d0 d1 f0 f1 hd hy hz XI YPx hi0 hp
                  go_upto_region 22 with fail
                  go_region_held3 (fun w' => Below wr.heap.size wr w' ∧ w'.cell? ⟨bb, bo + i * 2, none⟩ = some (.int .i64 y1) ∧ w'.cell? ⟨bb, bo + i * 2 + 1, none⟩ = some (.string y2) ∧ w'.cell? ⟨bb, bo + p * 2, none⟩ = some (.int .i64 z1) ∧ w'.cell? ⟨bb, bo + p * 2 + 1, none⟩ = some (.string z2))
                    (first | assumption | exact box4a_carry T.out (Below.refl _ _).drew | exact box4a_carry (by assumption) (by assumption))
                    (first | (go_at_call 28; (with_reducible refine (LL.out _).mono ?_); rintro e w' ⟨rfl, hb⟩))
                  rename_i T5
                  obtain ⟨hb5, -⟩ := T5
                  clear hw1
                  go_wp2_with fail
                  go_roundw
                  case rel => exact ⟨i + 1, by omega, by go_num, Lib.hid ((hB.out.trans (hB2.out.mono hB.out.size)).trans (hb5.mono (Nat.le_trans hB.out.size hB2.out.size)))⟩
                  case measure => simp [intOf]; omega
          · obtain rfl : i = j := by omega
            go_wp2_with fail
            refine (awake_any _).mono ?_
            rintro e w9 ⟨rfl, hb9⟩
            have B9 := Lib.hid (B8.out.trans (hB.out.mono B8.out.size))
            have B10 := Lib.hid (B9.out.trans (hb9.mono B9.out.size))
            clear hb9
            go_wp2_with fail
            go_ret
            exact ⟨rfl, B10.out⟩
open Go.ChangeShapes Go.WideShapes Go.ChangeAt in
theorem rankAgain_walk {H : Type} {enc : TypeId × Value → H} (W : World) (base : Nat) (v0 : Value) (d0 : DataW H) (p0 : List MemPlace)
    (h0 : DataW.Trod enc Try.prog W 0 (fun _ => true) true 28 v0 d0 p0)
    (o0 : Value.okWide Try.prog W .any base 28 v0) :
    Calls Try.prog 10 #[v0] W fun e w' => e = .returned (.bool true) ∧ RowKit.Below W.heap.size W w' := by
  obtain ⟨a0, n0, c0, k0, rfl, x0, y0, z0, b0, s0⟩ := open_pairs_arg Try.underlying28 Try.underlying37 (by kernel_rfl) rfl rfl ⟨rfl, rfl⟩ ⟨rfl, rfl⟩ o0 h0
  exact rankAgain_any a0 n0 c0 k0 W x0 y0 b0 (fun k hk => (s0 k hk).2)
end Go.Proofs.Ytioegheehodndaa
