/- backoff's law on doubling -/
import Derived.Test.YtncblednmkmjmaaBx
import Derived.Deep.RegionWith
import Derived.Deep.DeepCutAuto
import Derived.BigRegion
namespace Go.Proofs.Ytncblednmkmjmaa
open Go.RowKit

theorem dbl_max (f : Int) (h : 0 ≤ f) (h2 : f ≤ 10) (k : Nat) (hk : k ≤ 6) : dbl f k ≤ 640 := by
  match k, hk with
  | 0, _ => simp [dbl]; omega
  | 1, _ => simp [dbl]; omega
  | 2, _ => simp [dbl]; omega
  | 3, _ => simp [dbl]; omega
  | 4, _ => simp [dbl]; omega
  | 5, _ => simp [dbl]; omega
  | 6, _ => simp [dbl]; omega
theorem doubles_facts (f c j t d : Int) (hf : 1 ≤ f) (hf2 : f ≤ 10) (hc : 10 ≤ c) (hc2 : c ≤ 50) (hj : 0 ≤ j) (hj2 : j ≤ 10) (ht : 0 ≤ t) (ht2 : t ≤ 6) (hd : 0 ≤ d) (hd2 : d < 1073741824) :
    waitV f c j t 0 = min (dbl f t.toNat) c ∧ waitV f c j t d = waitV f c j t 0 + d % (j + 1) ∧ waitV f c j 6 0 = waitV f c j 100 0 ∧ 0 ≤ d % (j + 1) ∧ d % (j + 1) ≤ 10 := by
  have h1 := Int.emod_nonneg d (show j + 1 ≠ 0 by omega)
  have h2 := Int.emod_lt_of_pos d (show 0 < j + 1 by omega)
  unfold waitV
  rw [clip_in f 1000 (by omega) (by omega), clip_in c 1000 (by omega) (by omega), clip_in j 1000 (by omega) (by omega), clip_in t 6 ht ht2, u64_in 0 (by omega) (by omega), u64_in d (by omega) (by omega)]
  refine ⟨by simp, by simp, rfl, h1, by omega⟩
set_option maxHeartbeats 8000000 in
theorem doubles_any (c0 c1 c2 c3 c4 c5 c6 c7 c11 : Value) (f c j t d : Int) (w : World) :
    Calls Try.prog 9 #[.agg #[c0, c1, c2, c3, c4, c5, c6, c7, .int .i64 f, .int .i64 c, .int .i64 j, c11], .int .i64 t, .int .i64 d] w fun e w' => e = .returned (.bool true) ∧ Below w.heap.size w w' := by
  go_enter Try.func9, Try.ntmps9
  go_upto_region 1 with fail
  have B2 : Box12 w w.heap.size c0 c1 c2 c3 c4 c5 c6 c7 (.int .i64 f) (.int .i64 c) (.int .i64 j) c11 (w.alloc (.cells #[c0, c1, c2, c3, c4, c5, c6, c7, .int .i64 f, .int .i64 c, .int .i64 j, c11] 35)) :=
    ⟨below_one _ _, by simp, by simp, by simp, by simp, by simp, by simp, by simp, by simp, by simp, by simp, by simp, by simp, by simp⟩
  have e8 : (w.alloc (.cells #[c0, c1, c2, c3, c4, c5, c6, c7, .int .i64 f, .int .i64 c, .int .i64 j, c11] 35)).cell? ⟨w.heap.size, 8, none⟩ = some (.int .i64 f) := by simp
  have e9 : (w.alloc (.cells #[c0, c1, c2, c3, c4, c5, c6, c7, .int .i64 f, .int .i64 c, .int .i64 j, c11] 35)).cell? ⟨w.heap.size, 9, none⟩ = some (.int .i64 c) := by simp
  have e10 : (w.alloc (.cells #[c0, c1, c2, c3, c4, c5, c6, c7, .int .i64 f, .int .i64 c, .int .i64 j, c11] 35)).cell? ⟨w.heap.size, 10, none⟩ = some (.int .i64 j) := by simp
  have g8 : (w.alloc (.cells #[c0, c1, c2, c3, c4, c5, c6, c7, .int .i64 f, .int .i64 c, .int .i64 j, c11] 35)).frozen? ⟨w.heap.size, 8, none⟩ = false := by simp
  have g9 : (w.alloc (.cells #[c0, c1, c2, c3, c4, c5, c6, c7, .int .i64 f, .int .i64 c, .int .i64 j, c11] 35)).frozen? ⟨w.heap.size, 9, none⟩ = false := by simp
  have g10 : (w.alloc (.cells #[c0, c1, c2, c3, c4, c5, c6, c7, .int .i64 f, .int .i64 c, .int .i64 j, c11] 35)).frozen? ⟨w.heap.size, 10, none⟩ = false := by simp
  generalize w.alloc (.cells #[c0, c1, c2, c3, c4, c5, c6, c7, .int .i64 f, .int .i64 c, .int .i64 j, c11] 35) = w2 at B2 e8 e9 e10 g8 g9 g10 ⊢
  replace B2 := Lib.hid B2
  go_cut [10, 11, 12, 13, 14, 15, 16, 17, 18, 19, 20, 21, 22, 23] (fun _ _ _ _ _ _ _ _ _ _ _ _ _ _ wx => wx = (((w2.drew.setCell ⟨w.heap.size, 8, none⟩ (.int .i64 (1 + lowV f 10))).setCell ⟨w.heap.size, 9, none⟩ (.int .i64 (10 + lowV c 41))).setCell ⟨w.heap.size, 10, none⟩ (.int .i64 (lowV j 11))))
  case first =>
    have b1 := low_bd f 10 (by omega)
    have b2 := low_bd c 41 (by omega)
    have b3 := low_bd j 11 (by omega)
    clear B2
    go_region_with (go_at_call 16; refine (low_any _ _ (by omega) (by omega) _).mono ?_; rintro e w' ⟨rfl, rfl⟩)
    all_goals (go_wp2_with fail; go_meet; rw [IntWalk.i64_in (1 + lowV f 10) (by omega), IntWalk.i64_in (10 + lowV c 41) (by omega)]; rfl)
  case rest =>
    have B3 := box_sets B2.out (.int .i64 (1 + lowV f 10)) (.int .i64 (10 + lowV c 41)) (.int .i64 (lowV j 11))
    rw [← hcut] at B3
    clear hcut B2 e8 e9 e10 g8 g9 g10
    have b1 := low_bd f 10 (by omega)
    have b2 := low_bd c 41 (by omega)
    have b3 := low_bd j 11 (by omega)
    have b4 := low_bd t 7 (by omega)
    have b5 := low_bd d 1073741824 (by omega)
    obtain ⟨f', hf'⟩ : ∃ x, 1 + lowV f 10 = x := ⟨_, rfl⟩
    obtain ⟨c', hc'⟩ : ∃ x, 10 + lowV c 41 = x := ⟨_, rfl⟩
    obtain ⟨j', hj'⟩ : ∃ x, lowV j 11 = x := ⟨_, rfl⟩
    obtain ⟨t', ht'⟩ : ∃ x, lowV t 7 = x := ⟨_, rfl⟩
    obtain ⟨d', hd'⟩ : ∃ x, lowV d 1073741824 = x := ⟨_, rfl⟩
    have HT := Lib.hid ht'
    have HD := Lib.hid hd'
    obtain ⟨m1, m2, m3, m4, m5⟩ := doubles_facts f' c' j' t' d' (by omega) (by omega) (by omega) (by omega) (by omega) (by omega) (by omega) (by omega) (by omega) (by omega)
    have q1 : j' ≤ 10 := by omega
    have q2 : 0 ≤ j' := by omega
    have q3 : c' ≤ 50 := by omega
    have q4 : 10 ≤ c' := by omega
    have q5 : 1 ≤ f' := by omega
    have q6 : f' ≤ 10 := by omega
    have q7 : 0 ≤ t' := by omega
    have q8 : t' ≤ 6 := by omega
    have q9 : 0 ≤ d' := by omega
    have q10 : d' < 1073741824 := by omega
    rw [hf', hc', hj'] at B3
    clear hf' hc' hj' ht' hd' b1 b2 b3 b4 b5
    have M1 := Lib.hid m1; have M2 := Lib.hid m2; have M3 := Lib.hid m3
    clear m1 m2 m3
    obtain ⟨A, hA⟩ : ∃ x, waitV f' c' j' t' 0 = x := ⟨_, rfl⟩
    have HA := Lib.hid hA
    clear hA
    go_wp2_with fail
    refine (low_any _ _ (by omega) (by omega) _).mono ?_
    rintro e w' ⟨rfl, rfl⟩
    rw [HT.out]
    go_wp2_with fail
    refine (low_any _ _ (by omega) (by omega) _).mono ?_
    rintro e w' ⟨rfl, rfl⟩
    rw [HD.out]
    obtain ⟨hb3, hl3, s0, s1, s2, s3, s4, s5, s6, s7, s8, s9, s10, s11⟩ := B3
    go_wp2_with fail
    go_loop [7, 8] (fun v i => ∃ k : Nat, (k : Int) ≤ t' ∧ i = .int .i64 k ∧ v = .int .i64 (dbl f' k)) (fun _ i => 10 - (intOf i).toNat)
    case atStart => exact ⟨0, by omega, rfl, rfl⟩
    case round =>
      obtain ⟨k, hk, rfl, rfl⟩ := hrel
      have hd := dbl_bd f' (by omega) (by omega) k (by omega)
      by_cases hlt : (k : Int) < t'
      · go_wp2
        go_round
        case rel => exact ⟨k + 1, by omega, by go_num, by simp only [dbl]; congr 1; omega⟩
        case measure => simp [intOf]; omega
      · have hkt : k = t'.toNat := by omega
        have HK := Lib.hid hkt
        clear hkt
        go_wp2_with fail
        refine (wait_any _ _ _ _ _ _ _ _ _ _ _ _ _ _ _).mono ?_
        rintro e w4 ⟨rfl, hb4⟩
        rw [HA.out]
        obtain ⟨N, hN⟩ : ∃ x, dbl f' k = x := ⟨_, rfl⟩
        rw [hN] at hd ⊢
        have hAN : A = min N c' := by rw [← HA.out, M1.out, ← hN, HK.out]
        have B4 := box_carry ⟨hb3, hl3, s0, s1, s2, s3, s4, s5, s6, s7, s8, s9, s10, s11⟩ hb4
        clear s0 s1 s2 s3 s4 s5 s6 s7 s8 s9 s10 s11 hb3 hl3 hb4 hN
        have z2 : waitV f' c' j' t' d' = A + d' % (j' + 1) := by rw [M2.out, HA.out]
        have z3 := M3.out
        clear M1 M2 M3 HA HK HT HD
        have r0 : 0 ≤ A ∧ A ≤ 50 ∨ True := .inr trivial
        have hA50 : 0 ≤ A ∧ A ≤ 50 := by omega
        have r1 : IntKind.i64.wrap (j' + 1) = j' + 1 := IntWalk.i64_in _ (by omega)
        have r2 : d'.tmod (j' + 1) = d' % (j' + 1) := Int.tmod_eq_emod_of_nonneg q9
        have r3 : IntKind.i64.wrap (d' % (j' + 1)) = d' % (j' + 1) := IntWalk.i64_in _ (by omega)
        have r4 : IntKind.i64.wrap (A + d' % (j' + 1)) = A + d' % (j' + 1) := IntWalk.i64_in _ (by omega)
        have r5 : (j' + 1 == 0) = false := by rw [beq_eq_false_iff_ne]; omega
        have r6 : ¬ (j' + 1 = 0) := by omega
        clear r0 q1 q2 q3 q4 q5 q6 q7 q8 q9 q10 m4 m5 hA50 hd hlt hk
        by_cases hcN : c' < N
        · obtain rfl : A = c' := by omega
          clear hAN
          go_wp2_with fail
          go_region_held3 (Box12 w w.heap.size c0 c1 c2 c3 c4 c5 c6 c7 (.int .i64 f') (.int .i64 A) (.int .i64 j') c11)
            (first | assumption | exact ⟨B4.1.drew, B4.2⟩ | exact box_carry (by assumption) (by assumption))
            (first
              | (go_at_call 17; refine (wait_any _ _ _ _ _ _ _ _ _ _ _ _ _ _ _).mono ?_; rintro e w' ⟨rfl, hb⟩)
              | (go_at_call 23; refine (awake_any _).mono ?_; rintro e w' ⟨rfl, hb⟩))
          go_wp2
          go_ret
          exact ⟨rfl, And.left (by assumption)⟩
        · have hif : (if c' < N then c' else N) = N := if_neg hcN
          obtain rfl : A = N := by omega
          clear hAN
          go_wp2_with fail
          go_region_held3 (Box12 w w.heap.size c0 c1 c2 c3 c4 c5 c6 c7 (.int .i64 f') (.int .i64 c') (.int .i64 j') c11)
            (first | assumption | exact ⟨B4.1.drew, B4.2⟩ | exact box_carry (by assumption) (by assumption))
            (first
              | (go_at_call 17; refine (wait_any _ _ _ _ _ _ _ _ _ _ _ _ _ _ _).mono ?_; rintro e w' ⟨rfl, hb⟩)
              | (go_at_call 23; refine (awake_any _).mono ?_; rintro e w' ⟨rfl, hb⟩))
          go_wp2
          go_ret
          exact ⟨rfl, And.left (by assumption)⟩
end Go.Proofs.Ytncblednmkmjmaa
