/- the law of a cut less -/
import Derived.Test.YtnbfdoneknidhaaKr1
import Derived.Test.YtnbfdoneknidhaaKf1
import Derived.Test.YtnbfdoneknidhaaOpT
import Derived.Deep.RegionHeld3
namespace Go.Proofs.Ytnbfdoneknidhaa
open Go.RowKit
set_option linter.unusedVariables false
theorem u64_inP (n : Int) (h : 0 ≤ n) (h2 : n < 18446744073709551616) : IntKind.u64.wrap n = n := by
  simp only [IntKind.wrap, IntKind.signed, IntKind.bits]; simp; omega
theorem u64_bdP (d : Int) : 0 ≤ IntKind.u64.wrap d ∧ IntKind.u64.wrap d < 18446744073709551616 := by
  simp only [IntKind.wrap, IntKind.signed, IntKind.bits]; simp; omega
def OneK (w0 : World) (b p : Nat) (x : KV) (w : World) : Prop := Below w0.heap.size w0 w ∧ w.cell? ⟨b, p, none⟩ = some (.int .i64 x.1) ∧ w.cell? ⟨b, p + 1, none⟩ = some (.string x.2)
theorem oneK_carry {w0 w w' : World} {b p : Nat} {x : KV} (h : OneK w0 b p x w) (hb : Below w.heap.size w w') : OneK w0 b p x w' := by
  have hlt := lt_of_cell h.2.1
  exact ⟨h.1.trans (hb.mono h.1.size), by rw [hb.cell (p := ⟨b, p, none⟩) hlt]; exact h.2.1, by rw [hb.cell (p := ⟨b, p + 1, none⟩) hlt]; exact h.2.2⟩
set_option maxHeartbeats 3200000 in
theorem partFiner_any (a : Option Addr) (na ca : Nat) (ks : List KV) (q : Int) (x : Tx) (w : World) (ha : HoldsK w a na ks) (biga : na ≤ 9223372036854775807) (hcap : na ≤ ca) (sk : ∀ k ∈ ks, KeyOk k) (sx : x.size ≤ 9223372036854775807) :
    Calls Try.prog 7 #[.slice a na ca, .int .i64 q, .string x] w fun e w' => e = .returned (.bool true) ∧ Below w.heap.size w w' := by
  have HX := Lib.hid ha; have SK := Lib.hid sk
  have lks := ha.len
  clear ha sk
  by_cases q0 : na = 0
  case pos =>
    have B0 := Lib.hid (Below.refl w.heap.size w)
    go_enter Try.func7, Try.ntmps7
    go_wp2_with fail
    refine (awakeP_any _).mono ?_
    rintro e w1 ⟨rfl, hb1⟩
    replace HX := Lib.hid (HX.out.below hb1)
    have B1 := Lib.hid (B0.out.trans (hb1.mono B0.out.size))
    clear hb1 B0
    go_wp2_with fail
    go_ret
    exact ⟨rfl, B1.out⟩
  have na1 : 1 ≤ na := by omega
  by_cases q1 : goodK ks ≠ 0
  case pos =>
    obtain ⟨VK, hVK⟩ : ∃ v, goodK ks = v := ⟨_, rfl⟩
    have DK := Lib.hid hVK
    rw [hVK] at q1
    have z1 : (VK != 0) = true := by simpa using q1
    clear hVK
    have B0 := Lib.hid (Below.refl w.heap.size w)
    go_enter Try.func7, Try.ntmps7
    go_wp2_with fail
    refine (pgood_lit _ na ca ks VK _ HX.out (by omega) SK.out DK.out).mono ?_
    rintro e w1 ⟨rfl, hb1⟩
    replace HX := Lib.hid (HX.out.below hb1)
    have B1 := Lib.hid (B0.out.trans (hb1.mono B0.out.size))
    clear hb1 B0
    go_wp2_with fail
    refine (awakeP_any _).mono ?_
    rintro e w2 ⟨rfl, hb2⟩
    replace HX := Lib.hid (HX.out.below hb2)
    have B2 := Lib.hid (B1.out.trans (hb2.mono B1.out.size))
    clear hb2 B1
    go_wp2_with fail
    go_ret
    exact ⟨rfl, B2.out⟩
  have q1' : goodK ks = 0 := Classical.byContradiction q1
  have DK := Lib.hid q1'
  have ZK := Lib.hid (goodK_zero q1')
  by_cases q2 : 100 < x.size
  case pos =>
    have B0 := Lib.hid (Below.refl w.heap.size w)
    go_enter Try.func7, Try.ntmps7
    go_wp2_with fail
    refine (pgood_lit _ na ca ks 0 _ HX.out (by omega) SK.out DK.out).mono ?_
    rintro e w1 ⟨rfl, hb1⟩
    replace HX := Lib.hid (HX.out.below hb1)
    have B1 := Lib.hid (B0.out.trans (hb1.mono B0.out.size))
    clear hb1 B0
    go_wp2_with fail
    refine (awakeP_any _).mono ?_
    rintro e w2 ⟨rfl, hb2⟩
    replace HX := Lib.hid (HX.out.below hb2)
    have B2 := Lib.hid (B1.out.trans (hb2.mono B1.out.size))
    clear hb2 B1
    go_wp2_with fail
    go_ret
    exact ⟨rfl, B2.out⟩
  have x100 : x.size ≤ 100 := by omega
  by_cases q3 : ¬ wordP x
  case pos =>
    have Dx := Lib.hid (decide_eq_false q3)
    have B0 := Lib.hid (Below.refl w.heap.size w)
    go_enter Try.func7, Try.ntmps7
    go_wp2_with fail
    refine (pgood_lit _ na ca ks 0 _ HX.out (by omega) SK.out DK.out).mono ?_
    rintro e w1 ⟨rfl, hb1⟩
    replace HX := Lib.hid (HX.out.below hb1)
    have B1 := Lib.hid (B0.out.trans (hb1.mono B0.out.size))
    clear hb1 B0
    go_wp2_with fail
    refine (@word_bool' _ x false sx Dx.out).mono ?_
    rintro e w2 ⟨rfl, hb2⟩
    replace HX := Lib.hid (HX.out.below hb2)
    have B2 := Lib.hid (B1.out.trans (hb2.mono B1.out.size))
    clear hb2 B1
    go_wp2_with fail
    refine (awakeP_any _).mono ?_
    rintro e w3 ⟨rfl, hb3⟩
    replace HX := Lib.hid (HX.out.below hb3)
    have B3 := Lib.hid (B2.out.trans (hb3.mono B2.out.size))
    clear hb3 B2
    go_wp2_with fail
    go_ret
    exact ⟨rfl, B3.out⟩
  have Px := Lib.hid (Classical.not_not.1 q3)
  have Dx := Lib.hid (decide_eq_true Px.out)
  have B0 := Lib.hid (Below.refl w.heap.size w)
  obtain ⟨b, o, rfl, hcell⟩ := HX.out.at (by omega)
  obtain ⟨u, hu⟩ : ∃ u, IntKind.u64.wrap q = u := ⟨_, rfl⟩
  have ub := u64_bdP q
  rw [hu] at ub
  have hna : IntKind.u64.wrap (na : Int) = (na : Int) := u64_inP _ (by omega) (by omega)
  obtain ⟨k, hk⟩ : ∃ k : Nat, u % (na : Int) = (k : Int) := ⟨(u % (na : Int)).toNat, by have := Int.emod_nonneg u (show (na : Int) ≠ 0 by omega); omega⟩
  have hkn : k < na := by have := Int.emod_lt_of_pos u (show (0 : Int) < (na : Int) by omega); omega
  have hkw : IntKind.i64.wrap (k : Int) = (k : Int) := IntWalk.i64_in _ (by omega)
  have gx : decide (100 < (x.size : Int)) = false := by rw [decide_eq_false_iff_not]; omega
  have gn : ((na : Int) == 0) = false := by rw [beq_eq_false_iff_ne]; omega
  have g1 : (0 : Int) ≤ (k : Int) := by omega
  have g2 : (k : Int) < (na : Int) := by omega
  have x1 := ZK.out.1
  go_enter Try.func7, Try.ntmps7
  go_wp2_with fail
  refine (pgood_lit _ na ca ks 0 _ HX.out (by omega) SK.out DK.out).mono ?_
  rintro e w1 ⟨rfl, hb1⟩
  replace HX := Lib.hid (HX.out.below hb1)
  have B1 := Lib.hid (B0.out.trans (hb1.mono B0.out.size))
  clear hb1 B0
  go_wp2_with fail
  refine (@word_bool' _ x true sx Dx.out).mono ?_
  rintro e w2 ⟨rfl, hb2⟩
  replace HX := Lib.hid (HX.out.below hb2)
  have B2 := Lib.hid (B1.out.trans (hb2.mono B1.out.size))
  clear hb2 B1
  go_upto_region 4 with fail
  obtain ⟨i0, hi, hz0, hz1, hz2⟩ := info_parts key_info
  have S0 : Below w2.heap.size w2 w2.drew := (Below.refl _ _).drew
  obtain ⟨p, hp0⟩ : ∃ p, k + 1 = p := ⟨_, rfl⟩
  have hw1 : IntKind.i64.wrap ((k : Int) + 1) = (p : Int) := by rw [IntWalk.i64_in _ (by omega)]; omega
  have g3 : (0 : Int) ≤ (p : Int) := by omega
  have g4 : (p : Int) ≤ (na : Int) := by omega
  have g5 : (na : Int) ≤ (ca : Int) := by omega
  have g6 : (p : Int) ≤ (ca : Int) := by omega
  have g7 : (k : Int) ≤ (ca : Int) := by omega
  have g8 : p ≤ na := by omega
  have g9 : p ≤ ca := by omega
  have g10 : k ≤ ca := by omega
  clear hk hu ub hna hkw hcell
  have hce : ca = p ∨ (¬ ca = p ∧ ¬ ca ≤ p ∧ p < ca ∧ ¬ ca - p = 0) := by omega
  rcases hce with hce | ⟨hce, hce2, hce3, hce4⟩
  ·
    obtain rfl : na = p := by omega
    obtain rfl : ca = na := hce
    have hnil : ks.drop ca = [] := List.drop_of_length_le (by omega)
    go_region_held3 (fun w' => Below w2.heap.size w2 w')
      (first | assumption | exact Below.trans (by assumption) hb5 | exact Below.trans (by assumption) hb3 | exact (Below.refl _ _).drew)
      (first
         | (refine wp_append_any (Operand.const (.slice none 0 0)) (.tmp 38) 22 rfl w2.heap.size 24 i0 _ 2 24 Try.underlying22 hi hz0 hz1 hz2 rfl (by decide) _ 0 [] rfl (World.ownsRow_nil _ _ _ _) _ k _ (keysV (ks.take k)) rfl (by rw [keysV_len]; simp; omega) ((HX.out.below (by assumption)).take k (by omega)).cells (keysV_one _) (by unfold maxLen; omega) (by omega) (Below.size (by assumption)) ?_; intro a3 c3 w3 hown3 hb3)
         | (refine wp_append_any (.tmp 39) (.tmp 43) 22 rfl w2.heap.size 24 i0 _ 2 24 Try.underlying22 hi hz0 hz1 hz2 rfl (by decide) _ (0 + k) _ rfl hown3 _ 0 _ [] rfl rfl (by intro j u h; simp at h) (by simp) (by unfold maxLen; omega) (by omega) (Below.size (by assumption)) ?_; intro a5 c5 w5 hown5 hb5))
    rename_i T5
    obtain ⟨L, hL⟩ : ∃ L, ks.take k ++ ks.drop ca = L := ⟨_, rfl⟩
    have hown6 : w5.ownsRow w2.heap.size 24 2 (.slice a5 k c5) k (keysV L) := by have h := hown5; rw [← hL, hnil]; simpa using h
    have LH := Lib.hid (HoldsK.own hown6)
    have H5 := Lib.hid (HX.out.below T5)
    have B5 := Lib.hid (B2.out.trans (T5.mono B2.out.size))
    clear hown5 hown6 hb5 hown3 hb3 S0
    have hgl : Hid (goodK L = 0) := Lib.hid (by rw [← hL, ← hp0]; exact good_less DK.out k)
    have hcnt := ofN_less (k := keyOf x) ZK.out.2.2 k (by omega)
    rw [hp0, hL] at hcnt
    have hkl : Hid (∀ c ∈ L, KeyOk c) := Lib.hid (fun c hc => by rw [← hL] at hc; rcases List.mem_append.1 hc with h | h; exact SK.out c (List.mem_of_mem_take h); exact SK.out c (List.mem_of_mem_drop h))
    obtain ⟨cK, hck⟩ : ∃ c, ks.getD k k0 = c := ⟨_, rfl⟩
    rw [hck] at hcnt
    obtain ⟨f, hf⟩ : ∃ f, ofN ks (keyOf x) = f := ⟨_, rfl⟩
    obtain ⟨f2, hf2⟩ : ∃ f, ofN L (keyOf x) = f := ⟨_, rfl⟩
    rw [hf, hf2] at hcnt
    have fle := ofN_le ks (keyOf x); rw [hf] at fle
    have OX : Hid (ofZ ks x = (f : Int)) := Lib.hid (by rw [ofZ_word Px.out, hf])
    have OL : Hid (ofZ L x = (f2 : Int)) := Lib.hid (by rw [ofZ_word Px.out, hf2])
    obtain ⟨lx, hlx⟩ : ∃ l, lenS x = l := ⟨_, rfl⟩
    have LX := Lib.hid hlx
    unfold keyOf at hcnt
    rw [hlx] at hcnt
    have HCK := Lib.hid hck
    have g20 : decide ((x.size : Int) > 100) = false := by rw [decide_eq_false_iff_not]; omega
    clear hL hck hf hf2 hlx
    have hlen : k ≤ 5 := by have h := LH.out.len; have h2 := (goodK_zero hgl.out).1; omega
    by_cases hless : ordK (lx, x) cK < 0
    ·
      rw [if_pos hless] at hcnt
      have CL := Lib.hid (fun w => pless_lit (lx, x) cK true (decide_eq_true hless) w)
      unfold keyV at CL
      simp only at CL
      obtain rfl : f2 = f := by omega
      have FLE : f2 ≤ ks.length := by omega
      clear hcnt fle
      have g21 : ((f2 : Int) == (f2 : Int)) = true := by simp
      go_wp2_with fail
      refine (pof_lit _ ca _ ks x f2 w5 H5.out (by omega) sx OX.out).mono ?_
      rintro e w6 ⟨rfl, hb6⟩
      have B6 := Lib.hid (B5.out.trans (hb6.mono B5.out.size)); have H6 := Lib.hid (H5.out.below hb6); have LH6 := Lib.hid (LH.out.below hb6)
      clear hb6 B5 H5 LH
      obtain ⟨b', o', hbo, hcell⟩ := H6.out.at (by omega)
      cases hbo
      obtain ⟨e1, e2⟩ := hcell k (by omega)
      rw [HCK.out] at e1 e2
      have T := Lib.hid (show OneK w6 b (o + k * 2) cK w6 from ⟨Below.refl _ _, e1, e2⟩)
      clear e1 e2 hcell
      go_upto_region 6 with fail
      go_region_held3 (fun w' => Below w6.heap.size w6 w' ∧ w'.cell? ⟨b, o + k * 2, none⟩ = some (.int .i64 cK.1) ∧ w'.cell? ⟨b, o + k * 2 + 1, none⟩ = some (.string cK.2))
        (first | assumption | exact oneK_carry T.out (below_drewN w6 _) | exact oneK_carry T.out (Below.refl _ _).drew | exact oneK_carry (by assumption) (by assumption))
        (first
           | (go_at_call 22; refine (lenl_any x lx _ sx LX.out).mono ?_; rintro e w' ⟨rfl, hb⟩)
           | (go_at_call 15; refine (CL.out _).mono ?_; rintro e w' ⟨rfl, hb⟩))
      rename_i T7
      obtain ⟨hb7, -⟩ := T7
      have B7 := Lib.hid (B6.out.trans (hb7.mono B6.out.size)); have LH7 := Lib.hid (LH6.out.below hb7)
      clear T hb7 B6 H6 LH6
      go_wp2_with fail
      refine (pgood_lit a5 k c5 L 0 _ LH7.out (by omega) hkl.out hgl.out).mono ?_
      rintro e w8 ⟨rfl, hb8⟩
      have B8 := Lib.hid (B7.out.trans (hb8.mono B7.out.size)); have LH8 := Lib.hid (LH7.out.below hb8)
      clear hb8 B7 LH7
      go_wp2_with fail
      refine (pof_lit a5 k c5 L x f2 _ LH8.out (by omega) sx OL.out).mono ?_
      rintro e w9 ⟨rfl, hb9⟩
      have B9 := Lib.hid (B8.out.trans (hb9.mono B8.out.size))
      clear hb9 B8 LH8
      go_wp2_with fail
      refine (awakeP_any _).mono ?_
      rintro e w10 ⟨rfl, hb10⟩
      go_wp2_with fail
      go_ret
      exact ⟨rfl, B9.out.trans (hb10.mono B9.out.size)⟩
    ·
      rw [if_neg hless] at hcnt
      have CL := Lib.hid (fun w => pless_lit (lx, x) cK false (decide_eq_false hless) w)
      unfold keyV at CL
      simp only at CL
      have hw9 : IntKind.i64.wrap ((f : Int) - 1) = (f2 : Int) := by rw [IntWalk.i64_in _ (by omega)]; omega
      have FLE : f2 ≤ ks.length := by omega
      clear hcnt fle
      have g21 : ((f2 : Int) == (f2 : Int)) = true := by simp
      go_wp2_with fail
      refine (pof_lit _ ca _ ks x f w5 H5.out (by omega) sx OX.out).mono ?_
      rintro e w6 ⟨rfl, hb6⟩
      have B6 := Lib.hid (B5.out.trans (hb6.mono B5.out.size)); have H6 := Lib.hid (H5.out.below hb6); have LH6 := Lib.hid (LH.out.below hb6)
      clear hb6 B5 H5 LH
      obtain ⟨b', o', hbo, hcell⟩ := H6.out.at (by omega)
      cases hbo
      obtain ⟨e1, e2⟩ := hcell k (by omega)
      rw [HCK.out] at e1 e2
      have T := Lib.hid (show OneK w6 b (o + k * 2) cK w6 from ⟨Below.refl _ _, e1, e2⟩)
      clear e1 e2 hcell
      go_upto_region 6 with fail
      go_region_held3 (fun w' => Below w6.heap.size w6 w' ∧ w'.cell? ⟨b, o + k * 2, none⟩ = some (.int .i64 cK.1) ∧ w'.cell? ⟨b, o + k * 2 + 1, none⟩ = some (.string cK.2))
        (first | assumption | exact oneK_carry T.out (below_drewN w6 _) | exact oneK_carry T.out (Below.refl _ _).drew | exact oneK_carry (by assumption) (by assumption))
        (first
           | (go_at_call 22; refine (lenl_any x lx _ sx LX.out).mono ?_; rintro e w' ⟨rfl, hb⟩)
           | (go_at_call 15; refine (CL.out _).mono ?_; rintro e w' ⟨rfl, hb⟩))
      rename_i T7
      obtain ⟨hb7, -⟩ := T7
      have B7 := Lib.hid (B6.out.trans (hb7.mono B6.out.size)); have LH7 := Lib.hid (LH6.out.below hb7)
      clear T hb7 B6 H6 LH6
      go_wp2_with fail
      refine (pgood_lit a5 k c5 L 0 _ LH7.out (by omega) hkl.out hgl.out).mono ?_
      rintro e w8 ⟨rfl, hb8⟩
      have B8 := Lib.hid (B7.out.trans (hb8.mono B7.out.size)); have LH8 := Lib.hid (LH7.out.below hb8)
      clear hb8 B7 LH7
      go_wp2_with fail
      refine (pof_lit a5 k c5 L x f2 _ LH8.out (by omega) sx OL.out).mono ?_
      rintro e w9 ⟨rfl, hb9⟩
      have B9 := Lib.hid (B8.out.trans (hb9.mono B8.out.size))
      clear hb9 B8 LH8
      go_wp2_with fail
      refine (awakeP_any _).mono ?_
      rintro e w10 ⟨rfl, hb10⟩
      go_wp2_with fail
      go_ret
      exact ⟨rfl, B9.out.trans (hb10.mono B9.out.size)⟩
  ·
    go_region_held3 (fun w' => Below w2.heap.size w2 w')
      (first | assumption | exact Below.trans (by assumption) hb5 | exact Below.trans (by assumption) hb3 | exact (Below.refl _ _).drew)
      (first
         | (refine wp_append_any (Operand.const (.slice none 0 0)) (.tmp 38) 22 rfl w2.heap.size 24 i0 _ 2 24 Try.underlying22 hi hz0 hz1 hz2 rfl (by decide) _ 0 [] rfl (World.ownsRow_nil _ _ _ _) _ k _ (keysV (ks.take k)) rfl (by rw [keysV_len]; simp; omega) ((HX.out.below (by assumption)).take k (by omega)).cells (keysV_one _) (by unfold maxLen; omega) (by omega) (Below.size (by assumption)) ?_; intro a3 c3 w3 hown3 hb3)
         | (refine wp_append_any (.tmp 39) (.tmp 43) 22 rfl w2.heap.size 24 i0 _ 2 24 Try.underlying22 hi hz0 hz1 hz2 rfl (by decide) _ (0 + k) _ rfl hown3 _ (na - p) _ (keysV (ks.drop p)) rfl (by rw [keysV_len]; simp; omega) ((HX.out.below (by assumption)).drop p (by omega)).cells (keysV_one _) (by unfold maxLen; omega) (by omega) (Below.size (by assumption)) ?_; intro a5 c5 w5 hown5 hb5))
    rename_i T5
    obtain ⟨L, hL⟩ : ∃ L, ks.take k ++ ks.drop p = L := ⟨_, rfl⟩
    have hown6 : w5.ownsRow w2.heap.size 24 2 (.slice a5 (k + (na - p)) c5) (k + (na - p)) (keysV L) := by have h := hown5; rw [← hL, keysV_app]; simpa using h
    have LH := Lib.hid (HoldsK.own hown6)
    have H5 := Lib.hid (HX.out.below T5)
    have B5 := Lib.hid (B2.out.trans (T5.mono B2.out.size))
    clear hown5 hown6 hb5 hown3 hb3 S0
    have hgl : Hid (goodK L = 0) := Lib.hid (by rw [← hL, ← hp0]; exact good_less DK.out k)
    have hcnt := ofN_less (k := keyOf x) ZK.out.2.2 k (by omega)
    rw [hp0, hL] at hcnt
    have hkl : Hid (∀ c ∈ L, KeyOk c) := Lib.hid (fun c hc => by rw [← hL] at hc; rcases List.mem_append.1 hc with h | h; exact SK.out c (List.mem_of_mem_take h); exact SK.out c (List.mem_of_mem_drop h))
    obtain ⟨cK, hck⟩ : ∃ c, ks.getD k k0 = c := ⟨_, rfl⟩
    rw [hck] at hcnt
    obtain ⟨f, hf⟩ : ∃ f, ofN ks (keyOf x) = f := ⟨_, rfl⟩
    obtain ⟨f2, hf2⟩ : ∃ f, ofN L (keyOf x) = f := ⟨_, rfl⟩
    rw [hf, hf2] at hcnt
    have fle := ofN_le ks (keyOf x); rw [hf] at fle
    have OX : Hid (ofZ ks x = (f : Int)) := Lib.hid (by rw [ofZ_word Px.out, hf])
    have OL : Hid (ofZ L x = (f2 : Int)) := Lib.hid (by rw [ofZ_word Px.out, hf2])
    obtain ⟨lx, hlx⟩ : ∃ l, lenS x = l := ⟨_, rfl⟩
    have LX := Lib.hid hlx
    unfold keyOf at hcnt
    rw [hlx] at hcnt
    have HCK := Lib.hid hck
    have g20 : decide ((x.size : Int) > 100) = false := by rw [decide_eq_false_iff_not]; omega
    clear hL hck hf hf2 hlx
    have hlen : (k + (na - p)) ≤ 5 := by have h := LH.out.len; have h2 := (goodK_zero hgl.out).1; omega
    by_cases hless : ordK (lx, x) cK < 0
    ·
      rw [if_pos hless] at hcnt
      have CL := Lib.hid (fun w => pless_lit (lx, x) cK true (decide_eq_true hless) w)
      unfold keyV at CL
      simp only at CL
      obtain rfl : f2 = f := by omega
      have FLE : f2 ≤ ks.length := by omega
      clear hcnt fle
      have g21 : ((f2 : Int) == (f2 : Int)) = true := by simp
      go_wp2_with fail
      refine (pof_lit _ na _ ks x f2 w5 H5.out (by omega) sx OX.out).mono ?_
      rintro e w6 ⟨rfl, hb6⟩
      have B6 := Lib.hid (B5.out.trans (hb6.mono B5.out.size)); have H6 := Lib.hid (H5.out.below hb6); have LH6 := Lib.hid (LH.out.below hb6)
      clear hb6 B5 H5 LH
      obtain ⟨b', o', hbo, hcell⟩ := H6.out.at (by omega)
      cases hbo
      obtain ⟨e1, e2⟩ := hcell k (by omega)
      rw [HCK.out] at e1 e2
      have T := Lib.hid (show OneK w6 b (o + k * 2) cK w6 from ⟨Below.refl _ _, e1, e2⟩)
      clear e1 e2 hcell
      go_upto_region 6 with fail
      go_region_held3 (fun w' => Below w6.heap.size w6 w' ∧ w'.cell? ⟨b, o + k * 2, none⟩ = some (.int .i64 cK.1) ∧ w'.cell? ⟨b, o + k * 2 + 1, none⟩ = some (.string cK.2))
        (first | assumption | exact oneK_carry T.out (below_drewN w6 _) | exact oneK_carry T.out (Below.refl _ _).drew | exact oneK_carry (by assumption) (by assumption))
        (first
           | (go_at_call 22; refine (lenl_any x lx _ sx LX.out).mono ?_; rintro e w' ⟨rfl, hb⟩)
           | (go_at_call 15; refine (CL.out _).mono ?_; rintro e w' ⟨rfl, hb⟩))
      rename_i T7
      obtain ⟨hb7, -⟩ := T7
      have B7 := Lib.hid (B6.out.trans (hb7.mono B6.out.size)); have LH7 := Lib.hid (LH6.out.below hb7)
      clear T hb7 B6 H6 LH6
      go_wp2_with fail
      refine (pgood_lit a5 (k + (na - p)) c5 L 0 _ LH7.out (by omega) hkl.out hgl.out).mono ?_
      rintro e w8 ⟨rfl, hb8⟩
      have B8 := Lib.hid (B7.out.trans (hb8.mono B7.out.size)); have LH8 := Lib.hid (LH7.out.below hb8)
      clear hb8 B7 LH7
      go_wp2_with fail
      refine (pof_lit a5 (k + (na - p)) c5 L x f2 _ LH8.out (by omega) sx OL.out).mono ?_
      rintro e w9 ⟨rfl, hb9⟩
      have B9 := Lib.hid (B8.out.trans (hb9.mono B8.out.size))
      clear hb9 B8 LH8
      go_wp2_with fail
      refine (awakeP_any _).mono ?_
      rintro e w10 ⟨rfl, hb10⟩
      go_wp2_with fail
      go_ret
      exact ⟨rfl, B9.out.trans (hb10.mono B9.out.size)⟩
    ·
      rw [if_neg hless] at hcnt
      have CL := Lib.hid (fun w => pless_lit (lx, x) cK false (decide_eq_false hless) w)
      unfold keyV at CL
      simp only at CL
      have hw9 : IntKind.i64.wrap ((f : Int) - 1) = (f2 : Int) := by rw [IntWalk.i64_in _ (by omega)]; omega
      have FLE : f2 ≤ ks.length := by omega
      clear hcnt fle
      have g21 : ((f2 : Int) == (f2 : Int)) = true := by simp
      go_wp2_with fail
      refine (pof_lit _ na _ ks x f w5 H5.out (by omega) sx OX.out).mono ?_
      rintro e w6 ⟨rfl, hb6⟩
      have B6 := Lib.hid (B5.out.trans (hb6.mono B5.out.size)); have H6 := Lib.hid (H5.out.below hb6); have LH6 := Lib.hid (LH.out.below hb6)
      clear hb6 B5 H5 LH
      obtain ⟨b', o', hbo, hcell⟩ := H6.out.at (by omega)
      cases hbo
      obtain ⟨e1, e2⟩ := hcell k (by omega)
      rw [HCK.out] at e1 e2
      have T := Lib.hid (show OneK w6 b (o + k * 2) cK w6 from ⟨Below.refl _ _, e1, e2⟩)
      clear e1 e2 hcell
      go_upto_region 6 with fail
      go_region_held3 (fun w' => Below w6.heap.size w6 w' ∧ w'.cell? ⟨b, o + k * 2, none⟩ = some (.int .i64 cK.1) ∧ w'.cell? ⟨b, o + k * 2 + 1, none⟩ = some (.string cK.2))
        (first | assumption | exact oneK_carry T.out (below_drewN w6 _) | exact oneK_carry T.out (Below.refl _ _).drew | exact oneK_carry (by assumption) (by assumption))
        (first
           | (go_at_call 22; refine (lenl_any x lx _ sx LX.out).mono ?_; rintro e w' ⟨rfl, hb⟩)
           | (go_at_call 15; refine (CL.out _).mono ?_; rintro e w' ⟨rfl, hb⟩))
      rename_i T7
      obtain ⟨hb7, -⟩ := T7
      have B7 := Lib.hid (B6.out.trans (hb7.mono B6.out.size)); have LH7 := Lib.hid (LH6.out.below hb7)
      clear T hb7 B6 H6 LH6
      go_wp2_with fail
      refine (pgood_lit a5 (k + (na - p)) c5 L 0 _ LH7.out (by omega) hkl.out hgl.out).mono ?_
      rintro e w8 ⟨rfl, hb8⟩
      have B8 := Lib.hid (B7.out.trans (hb8.mono B7.out.size)); have LH8 := Lib.hid (LH7.out.below hb8)
      clear hb8 B7 LH7
      go_wp2_with fail
      refine (pof_lit a5 (k + (na - p)) c5 L x f2 _ LH8.out (by omega) sx OL.out).mono ?_
      rintro e w9 ⟨rfl, hb9⟩
      have B9 := Lib.hid (B8.out.trans (hb9.mono B8.out.size))
      clear hb9 B8 LH8
      go_wp2_with fail
      refine (awakeP_any _).mono ?_
      rintro e w10 ⟨rfl, hb10⟩
      go_wp2_with fail
      go_ret
      exact ⟨rfl, B9.out.trans (hb10.mono B9.out.size)⟩
open Go.ChangeShapes Go.WideShapes Go.ChangeAt in
theorem partFiner_walk {H : Type} {enc : TypeId × Value → H} (W : World) (base : Nat) (v0 v1 v2 : Value) (d0 d1 d2 : DataW H) (p0 p1 p2 : List MemPlace)
    (h0 : DataW.Trod enc Try.prog W 0 (fun _ => true) true 22 v0 d0 p0) (h1 : DataW.Trod enc Try.prog W 0 (fun _ => true) true 3 v1 d1 p1) (h2 : DataW.Trod enc Try.prog W 0 (fun _ => true) true 9 v2 d2 p2)
    (o0 : Value.okWide Try.prog W .any base 22 v0) (o1 : Value.okWide Try.prog W .any base 3 v1) (o2 : Value.okWide Try.prog W .any base 9 v2) :
    Calls Try.prog 7 #[v0, v1, v2] W fun e w' => e = .returned (.bool true) ∧ RowKit.Below W.heap.size W w' := by
  obtain ⟨a0, n0, c0, k0, rfl, x0, y0, z0, b0, s0⟩ := open_pairs_arg Try.underlying22 Try.underlying24 (by kernel_rfl) rfl rfl ⟨rfl, rfl⟩ ⟨rfl, rfl⟩ o0 h0
  obtain ⟨x1, rfl, rfl, rfl, b1⟩ := open_int Try.underlying3 o1 h1
  obtain ⟨s2, rfl, rfl, rfl, b2⟩ := Go.ChangeMaps.open_string Try.underlying9 o2 h2
  exact partFiner_any a0 n0 c0 k0 x1 s2 W x0 b0 z0 s0 (by unfold maxLen at b2; omega)
end Go.Proofs.Ytnbfdoneknidhaa
