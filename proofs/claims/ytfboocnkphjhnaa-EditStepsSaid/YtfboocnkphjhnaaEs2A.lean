import Derived.Test.YtfboocnkphjhnaaEsH
namespace Go.Proofs.Ytfboocnkphjhnaa
open Go.RowKit
set_option linter.unusedVariables false
set_option maxHeartbeats 6400000 in
theorem editSteps_2A (ra rb pa qb : List Int) (a b aa ab : Option Addr) (m n s t ca cb cp cq : Nat) (at' r do' : Int) (w : World) (ha : HoldsI .i32 w a m ra) (na : a = none → m = 0 ∧ ca = 0) (hca : m ≤ ca) (hb : HoldsI .i32 w b n rb) (nb : b = none → n = 0 ∧ cb = 0) (hp : HoldsI .i32 w aa s pa) (np : aa = none → s = 0 ∧ cp = 0) (hq : HoldsI .i32 w ab t qb) (nq : ab = none → t = 0 ∧ cq = 0) (b1 : m ≤ 9223372036854775807) (b2 : n ≤ 9223372036854775807) (b3 : s ≤ 9223372036854775807) (b4 : t ≤ 9223372036854775807) (c1 : ca ≤ 9223372036854775807) (hv0 : lowV do' 3 = 2) (hsub : lowV at' ((m : Int) + 1) + 1 < (m : Int)) :
    Calls Try.prog 5 #[.slice a m ca, .slice b n cb, .int .i64 at', .int .i32 r, .int .i64 do', .slice aa s cp, .slice ab t cq] w fun e w' => e = .returned (.bool true) ∧ Below w.heap.size w w' := by
  have la := ha.1; have lb := hb.1; have lp := hp.1; have lq := hq.1
  have HA := Lib.hid ha; have HB := Lib.hid hb; have HP := Lib.hid hp; have HQ := Lib.hid hq; have NA := Lib.hid na; have NB := Lib.hid nb; have NP := Lib.hid np; have NQ := Lib.hid nq
  clear ha hb hp hq na nb np nq
  by_cases hlong : 20 < m ∨ 20 < n ∨ 5 < s ∨ 5 < t
  · have hc : 20 < m ∨ (m ≤ 20 ∧ 20 < n) ∨ (m ≤ 20 ∧ n ≤ 20 ∧ 5 < s) ∨ (m ≤ 20 ∧ n ≤ 20 ∧ s ≤ 5 ∧ 5 < t) := by omega
    clear hlong
    rcases hc with h | ⟨h, h2⟩ | ⟨h, h2, h3⟩ | ⟨h, h2, h3, h4⟩
    all_goals
      go_enter Try.func5, Try.ntmps5
      go_wp2_with fail
      refine (awake_any _).mono ?_
      rintro e w' ⟨rfl, hb⟩
      go_wp2_with fail
      go_ret
      exact ⟨rfl, hb⟩
  have hm : m ≤ 20 := by omega
  have hn : n ≤ 20 := by omega
  have hs : s ≤ 5 := by omega
  have ht : t ≤ 5 := by omega
  clear hlong b1 b2 b3 b4
  obtain ⟨D, hD⟩ : ∃ D, Ed.D ra rb = D := ⟨_, rfl⟩
  have hDb : 0 ≤ D ∧ D ≤ 40 := by rw [← hD]; have := Ed.L_bd ra rb ra.length rb.length; unfold Ed.D; omega
  have HD := Lib.hid hD
  have hlow := low_bd at' ((m : Int) + 1) (by omega)
  obtain ⟨k, hk⟩ : ∃ k : Nat, lowV at' ((m : Int) + 1) = (k : Int) := ⟨(lowV at' ((m : Int) + 1)).toNat, by omega⟩
  rw [hk] at hlow
  rw [hk] at hsub
  have HSUB := Lib.hid hsub
  clear hsub
  have hkm : k ≤ m := by omega
  have LOW := Lib.hid (fun w => low_any at' ((m : Int) + 1) (by omega) (by omega) w)
  rw [hk] at LOW
  have hdo := low_bd do' 3 (by omega)
  have LOD := Lib.hid (fun w => low_any do' 3 (by omega) (by omega) w)
  obtain ⟨v, hv⟩ : ∃ v, lowV do' 3 = v := ⟨_, rfl⟩
  rw [hv] at hdo LOD
  rw [hv] at hv0
  subst hv0
  have hr0 : Ed.L ra rb m n = D := by rw [← la, ← lb]; exact hD
  have hrun := Lib.hid (eruns_lit ra rb m n a b ca cb w la lb HA.out HB.out (by omega) (by omega))
  rw [hr0] at hrun
  clear hr0 hD hk hv hlow
  obtain ⟨i0, hi, hz0, hz1, hz2⟩ := info_parts i32_info
  have hw0 : IntKind.i64.wrap ((m : Int) + 1) = (m : Int) + 1 := IntWalk.i64_in _ (by omega)
  go_enter Try.func5, Try.ntmps5
  go_wp2_with fail
  refine hrun.out.mono ?_
  rintro e w1 ⟨rfl, hb1⟩
  have B1 := Lib.hid hb1; have s1 := hb1.size
  clear hb1 hrun
  go_wp2_with fail
  refine (LOW.out _).mono ?_
  rintro e w2 ⟨rfl, rfl⟩
  go_wp2_with fail
  refine (LOD.out _).mono ?_
  rintro e w3 ⟨rfl, rfl⟩
  clear LOW LOD
  go_upto_block 0 with fail
  go_cut [17] from 50 to 94 (fun xv wx => ∃ (ax : Option Addr) (mx cx : Nat) (X : List Int), xv = .slice ax mx cx ∧ mx ≤ 41 ∧ Hid (HoldsI .i32 wx ax mx X) ∧ Hid (Ed.D X rb ≤ D + 1 ∧ D ≤ Ed.D X rb + 1) ∧ Hid (Below w.heap.size w wx))
  case first =>
    have HA1 := Lib.hid (HA.out.below B1.out)
    have g0 : (0 : Int) ≤ (k : Int) := by omega
    have g1 : (k : Int) ≤ (m : Int) := by omega
    have g2 : (k : Int) ≤ (ca : Int) := by omega
    have g3 : (m : Int) ≤ (ca : Int) := by omega
    have g4 : k ≤ ca := by omega
    have hw1 : IntKind.i64.wrap ((k : Int) + 1) = (k : Int) + 1 := IntWalk.i64_in _ (by omega)
    clear hw0 hdo
    ·
      by_cases hkl : k < m
      ·
        obtain ⟨bb, oo, rfl, hcell⟩ := HA1.out.2 (by omega)
        clear hcell
        by_cases hpm : k + 1 < m
        ·
          obtain ⟨p, hp⟩ : ∃ p : Nat, k + 1 = p := ⟨_, rfl⟩
          replace hw1 : IntKind.i64.wrap ((k : Int) + 1) = (p : Int) := by rw [hw1]; omega
          have hmin : min (p : Int) (m : Int) = (p : Int) := by omega
          have hlt : (p : Int) < (m : Int) := by omega
          have hn1 : ¬ (m : Int) < (p : Int) := by omega
          have hn2 : ¬ (p : Int) > (m : Int) := by omega
          have g5 : (0 : Int) ≤ (p : Int) := by omega
          have g6 : (p : Int) ≤ (m : Int) := by omega
          have g7 : (p : Int) ≤ (ca : Int) := by omega
          have f1 : ¬ ca = p := by omega
          have f2 : ¬ ca ≤ p := by omega
          have f3 : p < ca := by omega
          have HP1 := Lib.hid hp; clear hp
          go_upto_region 7 with fail
          go_region_held3 (fun w' => Below w1.heap.size w1 w')
            (first | assumption | exact Below.trans (by assumption) (Below.mono hb9 (by first | exact Below.size (by assumption) | simp)) | exact Below.trans (by assumption) (Below.mono hb7 (by first | exact Below.size (by assumption) | simp)) | exact Below.trans (by assumption) (Below.mono hb5 (by first | exact Below.size (by assumption) | simp)) | exact Below.trans (by assumption) (Below.mono (below_one _ _) (Below.size (by assumption))) | exact (Below.refl _ _).drew)
            (first
              | (refine wp_append_first (.tmp 50) (.tmp 53) 22 rfl 21 i0 (.int .i32 0) 1 4 Try.underlying22 hi hz0 hz1 hz2 rfl (by decide) rfl _ k _ (runesV (ra.take k)) rfl (by first | exact some_none _ | exact fun _ => ⟨by omega, by omega⟩) (by rw [runesV_len]; simp <;> omega) (ints_cells (HA1.out.take k (by omega)) (by assumption)) (runesV_one _) (by unfold maxLen; omega) (by omega) ?_; intro a5 c5 w5 hown5 hb5)
              | (refine wp_append_opt (.tmp 54) (.tmp 56) 22 rfl _ 21 i0 (.int .i32 0) 1 4 Try.underlying22 hi hz0 hz1 hz2 rfl (by decide) (.slice a5 k c5) k _ rfl hown5 _ 1 1 [.int .i32 r] rfl (some_none _) rfl (by first | exact one_kept hb5 | exact one_kept ((Below.refl _ _).drew.trans hb5)) (one_int _ _) (by unfold maxLen; omega) (by omega) (by first | exact hb5.size | exact Nat.le_trans hb5.size (below_one _ _).size) ?_; intro a7 c7 w7 hown7 hb7)
              | (refine wp_append_opt (.tmp 54) (.tmp 56) 22 rfl _ 21 i0 (.int .i32 0) 1 4 Try.underlying22 hi hz0 hz1 hz2 rfl (by decide) (.slice a5 k c5) k _ rfl (owns_below hown5 (below_one _ _)) _ 1 1 [.int .i32 r] rfl (some_none _) rfl (one_new _ _ _ _) (one_int _ _) (by unfold maxLen; omega) (by omega) (by first | exact hb5.size | exact Nat.le_trans hb5.size (below_one _ _).size) ?_; intro a7 c7 w7 hown7 hb7)
              | (refine wp_append_opt (.tmp 57) (.tmp 64) 22 rfl _ 21 i0 (.int .i32 0) 1 4 Try.underlying22 hi hz0 hz1 hz2 rfl (by decide) (.slice a7 (k + 1) c7) (k + 1) _ rfl hown7 _ (m - p) _ (runesV (ra.drop p)) rfl (some_none _) (by rw [runesV_len]; simp <;> omega) (ints_cells (HA1.out.dropR p (by omega)) (by assumption)) (runesV_one _) (by unfold maxLen; omega) (by omega) (by first | exact Nat.le_trans hb5.size hb7.size | exact Nat.le_trans (Nat.le_trans hb5.size (below_one _ _).size) hb7.size) ?_; intro a9 c9 w9 hown9 hb9))
          all_goals
            have T9 : Below w1.heap.size w1 w9 := by assumption
            have hst := step_of ra rb [r] k p (by have := HP1.out; omega) (by have := HP1.out; omega) (by simp)
            rw [HD.out] at hst
            have e9 : (runesV (ra.take k) ++ [.int .i32 r]) ++ runesV (ra.drop p) = runesV (ra.take k ++ [r] ++ ra.drop p) := by rw [runesV_app, runesV_app]; simp [runesV]
            rw [e9] at hown9
            have hh := own_ints hown9
            go_wp2_with fail
            go_meet
            exact ⟨a9, k + 1 + (m - p), c9, _, rfl, by omega, Lib.hid hh, Lib.hid hst, Lib.hid (B1.out.trans (T9.mono s1))⟩
        ·
          replace hw1 : IntKind.i64.wrap ((k : Int) + 1) = (m : Int) := by rw [hw1]; omega
          have hp1 : k + 1 = m := by omega
          have HP1 := Lib.hid hp1; clear hp1 hpm
          by_cases hce : ca = m
          ·
            obtain rfl := hce
            exfalso; have hz := HSUB.out; first | omega | (have hp1 := HP1.out; omega) | (obtain ⟨h1, h2⟩ := hz; cases h2; done) | (obtain ⟨_, h2, _⟩ := hz; exact h2 rfl)
          ·
            have f1 : ¬ ca = m := hce
            have f2 : ¬ ca ≤ m := by omega
            have f3 : m < ca := by omega
            exfalso; have hz := HSUB.out; first | omega | (have hp1 := HP1.out; omega) | (obtain ⟨h1, h2⟩ := hz; cases h2; done) | (obtain ⟨_, h2, _⟩ := hz; exact h2 rfl)
      ·
        obtain rfl : k = m := by omega
        cases a with
        | none =>
          obtain ⟨rfl, rfl⟩ := NA.out rfl
          exfalso; have hz := HSUB.out; first | omega | (have hp1 := HP1.out; omega) | (obtain ⟨h1, h2⟩ := hz; cases h2; done) | (obtain ⟨_, h2, _⟩ := hz; exact h2 rfl)
        | some ad =>
          obtain ⟨bb, oo, pp⟩ := ad
          obtain ⟨q, hq⟩ : ∃ q : Nat, k + 1 = q := ⟨_, rfl⟩
          replace hw1 : IntKind.i64.wrap ((k : Int) + 1) = (q : Int) := by rw [hw1]; omega
          have hmin : min (q : Int) (k : Int) = (k : Int) := by omega
          have hlt : ¬ (q : Int) < (k : Int) := by omega
          have hlt2 : (k : Int) < (q : Int) := by omega
          clear hq
          by_cases hce : ca = k
          ·
            obtain rfl := hce
            exfalso; have hz := HSUB.out; first | omega | (have hp1 := HP1.out; omega) | (obtain ⟨h1, h2⟩ := hz; cases h2; done) | (obtain ⟨_, h2, _⟩ := hz; exact h2 rfl)
          ·
            have f1 : ¬ ca ≤ k := by omega
            have f3 : k < ca := by omega
            exfalso; have hz := HSUB.out; first | omega | (have hp1 := HP1.out; omega) | (obtain ⟨h1, h2⟩ := hz; cases h2; done) | (obtain ⟨_, h2, _⟩ := hz; exact h2 rfl)
  case rest =>
    obtain ⟨ax, mx, cx, X, rfl, hmx, HX, HS, BX⟩ := hcut
    have lx := HX.out.1
    obtain ⟨e', he⟩ : ∃ e', Ed.D X rb = e' := ⟨_, rfl⟩
    have hst := HS.out
    rw [he] at hst
    have he1 : e' ≤ D + 1 := hst.1
    have he2 : D ≤ e' + 1 := hst.2
    have heb : 0 ≤ e' := by rw [← he]; have := Ed.L_bd X rb X.length rb.length; unfold Ed.D; omega
    have he0 : Ed.L X rb mx n = e' := by rw [← lx, ← lb]; exact he
    have hrun2 := Lib.hid (eruns_lit X rb mx n ax b cx cb _ lx lb HX.out (HB.out.below BX.out) (by omega) (by omega))
    rw [he0] at hrun2
    have hw2 : IntKind.i64.wrap (D + 1) = D + 1 := IntWalk.i64_in _ (by omega)
    have hw3 : IntKind.i64.wrap (e' + 1) = e' + 1 := IntWalk.i64_in _ (by omega)
    clear hst he he0 HS hw0
    go_wp2_with fail
    refine hrun2.out.mono ?_
    rintro e w4 ⟨rfl, hb4⟩
    have B4 := Lib.hid (BX.out.trans (hb4.mono BX.out.size))
    clear hb4 hrun2
    go_wp2_with (first
      | (at_builtin; refine wpList_append_any rfl (.const (.slice none 0 0)) (.tmp 98) 22 rfl w.heap.size 21 i0 (.int .i32 0) 1 4 Try.underlying22 hi hz0 hz1 hz2 rfl (by decide) _ 0 _ rfl (World.ownsRow_nil _ _ _ _) _ s _ (runesV pa) rfl NP.out (by rw [runesV_len]; omega) (ints_cells HP.out B4.out) (runesV_one _) (by unfold maxLen; omega) (by omega) B4.out.size ?_; intro a5 c5 w5 hown5 hb5 hnil5; rw [Nat.zero_add s] at hown5 ⊢; rw [List.nil_append] at hown5; have B5 := Lib.hid (B4.out.trans hb5))
      | (at_builtin; refine wpList_append_any rfl (.tmp 99) (.tmp 100) 22 rfl w.heap.size 21 i0 (.int .i32 0) 1 4 Try.underlying22 hi hz0 hz1 hz2 rfl (by decide) (.slice a5 s c5) s _ rfl hown5 _ m _ (runesV ra) rfl NA.out (by rw [runesV_len]; omega) (ints_cells HA.out B5.out) (runesV_one _) (by unfold maxLen; omega) (by omega) B5.out.size ?_; intro a6 c6 w6 hown6 hb6 hnil6; have B6 := Lib.hid (B5.out.trans hb6))
      | (at_builtin; refine wpList_append_any rfl (.tmp 101) (.tmp 102) 22 rfl w.heap.size 21 i0 (.int .i32 0) 1 4 Try.underlying22 hi hz0 hz1 hz2 rfl (by decide) (.slice a6 (s + m) c6) (s + m) _ rfl hown6 _ t _ (runesV qb) rfl NQ.out (by rw [runesV_len]; omega) (ints_cells HQ.out B6.out) (runesV_one _) (by unfold maxLen; omega) (by omega) B6.out.size ?_; intro a7 c7 w7 hown7 hb7 hnil7; have B7 := Lib.hid (B6.out.trans hb7); have O7 := Lib.hid hown7; clear hown5 hown6 hown7 hb5 hb6 hb7 hnil5 hnil6 hnil7)
      | (at_builtin; refine wpList_append_any rfl (.const (.slice none 0 0)) (.tmp 104) 22 rfl w7.heap.size 21 i0 (.int .i32 0) 1 4 Try.underlying22 hi hz0 hz1 hz2 rfl (by decide) _ 0 _ rfl (World.ownsRow_nil _ _ _ _) _ s _ (runesV pa) rfl NP.out (by rw [runesV_len]; omega) (ints_cells HP.out B7.out) (runesV_one _) (by unfold maxLen; omega) (by omega) (Nat.le_refl _) ?_; intro a8 c8 w8 hown8 hb8 hnil8; rw [Nat.zero_add s] at hown8 ⊢; rw [List.nil_append] at hown8; have B8 := Lib.hid (B7.out.trans (hb8.mono B7.out.size)); have C8 := Lib.hid hb8)
      | (at_builtin; refine wpList_append_any rfl (.tmp 105) (.tmp 106) 22 rfl w7.heap.size 21 i0 (.int .i32 0) 1 4 Try.underlying22 hi hz0 hz1 hz2 rfl (by decide) (.slice a8 s c8) s _ rfl hown8 _ n _ (runesV rb) rfl NB.out (by rw [runesV_len]; omega) (ints_cells HB.out B8.out) (runesV_one _) (by unfold maxLen; omega) (by omega) C8.out.size ?_; intro a9 c9 w9 hown9 hb9 hnil9; have B9 := Lib.hid (B8.out.trans (hb9.mono B7.out.size)); have C9 := Lib.hid (C8.out.trans hb9))
      | (at_builtin; refine wpList_append_any rfl (.tmp 107) (.tmp 108) 22 rfl w7.heap.size 21 i0 (.int .i32 0) 1 4 Try.underlying22 hi hz0 hz1 hz2 rfl (by decide) (.slice a9 (s + n) c9) (s + n) _ rfl hown9 _ t _ (runesV qb) rfl NQ.out (by rw [runesV_len]; omega) (ints_cells HQ.out B9.out) (runesV_one _) (by unfold maxLen; omega) (by omega) C9.out.size ?_; intro a10 c10 w10 hown10 hb10 hnil10; have B10 := Lib.hid (B9.out.trans (hb10.mono B7.out.size)); have C10 := Lib.hid (C9.out.trans hb10); have O10 := Lib.hid hown10; clear hown8 hown9 hown10 hb8 hb9 hb10 hnil8 hnil9 hnil10))
    have h7 := O7.out
    rw [← runesV_app, ← runesV_app] at h7
    have HI7 := (own_ints h7).below C10.out
    have h10 := O10.out
    rw [← runesV_app, ← runesV_app] at h10
    have HI10 := own_ints h10
    have hrun3 := Lib.hid (eruns_lit (pa ++ ra ++ qb) (pa ++ rb ++ qb) (s + m + t) (s + n + t) a7 a10 c7 c10 w10 HI7.1 HI10.1 HI7 HI10 (by omega) (by omega))
    have hd3 : Ed.L (pa ++ ra ++ qb) (pa ++ rb ++ qb) (s + m + t) (s + n + t) = D := by
      rw [← HI7.1, ← HI10.1]; exact (Ed.D_about pa ra rb qb).trans HD.out
    rw [hd3] at hrun3
    clear hd3 h7 h10 HI7 HI10
    refine hrun3.out.mono ?_
    rintro e w11 ⟨rfl, hb11⟩
    have B11 := Lib.hid (B10.out.trans (hb11.mono B10.out.size))
    clear hb11 hrun3
    go_wp2_with fail
    refine (awake_any _).mono ?_
    rintro e w12 ⟨rfl, hb12⟩
    have B12 := Lib.hid (B11.out.trans (hb12.mono B11.out.size))
    clear hb12
    go_wp2_with fail
    go_ret
    exact ⟨rfl, B12.out⟩
end Go.Proofs.Ytfboocnkphjhnaa
