/- leases: the walk of LeaseLives -/
import Derived.Test.YtphcmokcdaiphaaLq
namespace Go.Proofs.Ytphcmokcdaiphaa
open Go.RowKit
set_option linter.unusedVariables false
set_option maxHeartbeats 3200000 in
theorem leaseLives_any (term look : Int) (zs : List Int) (a a2 : Option Addr) (ca n2 ca2 : Nat) (Q : Nat → Bool) (w : World) (hh : HoldsI .i64 w a zs.length zs) (hl63 : zs.length ≤ 9223372036854775807) (hq : HoldsQ w a2 n2 Q) (hl64 : n2 ≤ 9223372036854775807) :
    Calls Try.prog 5 #[.int .i64 term, .slice a zs.length ca, .slice a2 n2 ca2, .int .i64 look] w fun e w' => e = .returned (.bool true) ∧ Below w.heap.size w w' := by
  obtain ⟨m, hm⟩ : ∃ m, zs.length = m := ⟨_, rfl⟩
  rw [hm] at hh hl63 ⊢
  have HH := Lib.hid hh
  have HQ := Lib.hid hq
  clear hh hm hq
  by_cases hlong : 30 < m ∨ 30 < n2
  · have h1 : 30 < m ∨ (m ≤ 30 ∧ 30 < n2) := by omega
    clear hlong
    rcases h1 with h1 | ⟨h1, h2⟩
    · go_enter Try.func5, Try.ntmps5
      go_wp2_with fail
      refine (awake_any _).mono ?_
      rintro e w' ⟨rfl, hb⟩
      go_wp2_with fail
      go_ret
      exact ⟨rfl, hb⟩
    · go_enter Try.func5, Try.ntmps5
      go_wp2_with fail
      refine (awake_any _).mono ?_
      rintro e w' ⟨rfl, hb⟩
      go_wp2_with fail
      go_ret
      exact ⟨rfl, hb⟩
  have hm60 : m ≤ 30 := by omega
  have hn60 : n2 ≤ 30 := by omega
  clear hlong
  have hlow := low_bd term 20 (by omega)
  obtain ⟨T, hT⟩ : ∃ T, 1 + lowV term 20 = T := ⟨_, rfl⟩
  have hTw : IntKind.i64.wrap (1 + lowV term 20) = T := by rw [IntWalk.i64_in _ (by omega)]; exact hT
  have hT2 : 1 ≤ T ∧ T ≤ 20 := by omega
  have HN := Lib.hid (show (1 ≤ (1 : Int) ∧ (1 : Int) ≤ 5) ∧ 1 ≤ T ∧ T ≤ 1000 by omega)
  clear hT hlow
  go_enter Try.func5, Try.ntmps5
  go_wp2_with fail
  refine (low_any term 20 (by omega) (by omega) _).mono ?_
  rintro e w' ⟨rfl, rfl⟩
  go_wp2_with fail
  refine (new_good 1 T _ HN.out).mono ?_
  rintro e w0 ⟨rfl, hw0⟩
  have T0 := Lib.hid (hw0 ▸ new_is_tab w 1 T _)
  have L0 := Lib.hid (show Below w.heap.size w w0 from hw0 ▸ below_one w _)
  obtain ⟨f1, s0, f2, f3, f4, f5⟩ := newLives w w0 w.heap.size T hT2 T0.out L0.out
  have F1 := Lib.hid f1; have F2 := Lib.hid f2; have F3 := Lib.hid f3; have F4 := Lib.hid f4; have F5 := Lib.hid f5
  clear hw0 f1 f2 f3 f4 f5
  go_wp2_with fail
  refine (live_lit _ 1 0 _ T0.out (new_is_good HN.out) F1.out).mono ?_
  rintro e w1 ⟨rfl, hb1⟩
  have T1 := Lib.hid (T0.out.below hb1)
  have L1 := Lib.hid (L0.out.trans (hb1.mono L0.out.size))
  clear hb1
  go_wp2_with fail
  refine (hello_lit _ 1 1 0 _ T1.out (new_is_good HN.out) F2.out F3.out F4.out).mono ?_
  rintro e w2 ⟨rfl, hT3⟩
  have V0 := Lib.hid (F5.out w1 w2 hT3 (Nat.le_refl _) L1.out)
  clear hT3 F2 F3 F4 F5 F1 T1 L1 T0 L0
  go_wp2_with fail
  obtain ⟨b, hb⟩ : ∃ b, w.heap.size = b := ⟨_, rfl⟩
  have HB := Lib.hid (Nat.le_of_eq hb)
  rw [hb] at V0
  simp only [hb]
  clear hb
  go_loopw [11, 12] (fun y i wr => ∃ (j : Nat) (now : Int) (s : Lt), j ≤ m ∧ i = .int .i64 j ∧ y = .int .i64 now ∧ 0 ≤ now ∧ now ≤ 15 * j ∧ Hid (Liv w b s T now wr)) (fun _ i _ => m - (intOf i).toNat)
  case atStart => exact ⟨0, 0, _, by omega, rfl, rfl, by omega, by omega, V0⟩
  case round =>
    obtain ⟨j, now, s, hj, rfl, rfl, hn0, hn1, hL⟩ := hrel
    by_cases hlt : j < m
    · obtain ⟨ab, ao, rfl, hcell⟩ := (HH.out.below (w' := wr) hL.out.bel).2 (by omega)
      have hc := hcell j hlt
      clear hcell
      obtain ⟨x, hx⟩ : ∃ x, zs.getD j 0 = x := ⟨_, rfl⟩
      rw [hx] at hc
      clear hx
      have hlow := low_bd x 15 (by omega)
      obtain ⟨t, ht⟩ : ∃ t, now + lowV x 15 = t := ⟨_, rfl⟩
      have htw : IntKind.i64.wrap (now + lowV x 15) = t := by rw [IntWalk.i64_in _ (by omega)]; exact ht
      have ht2 : now ≤ t := by omega
      have ht3 : t ≤ 15 * (j + 1) := by omega
      clear ht hlow
      by_cases hs : j < n2
      · obtain ⟨qb, qo, rfl, hqc⟩ := (HQ.out.below (w' := wr) hL.out.bel) (by omega)
        have hc2 := hqc j hs
        clear hqc
        cases hQ : Q j
        · rw [hQ] at hc2
          obtain ⟨s', e1, e2, e3, e4⟩ := hL.out.hello ht2 (by omega)
          have E4 := Lib.hid e4; have E1 := Lib.hid e1; have E2 := Lib.hid e2; have E3 := Lib.hid e3
          clear e1 e2 e3 e4 hQ
          go_wp2_with fail
          refine (low_any x 15 (by omega) (by omega) _).mono ?_
          rintro e w' ⟨rfl, rfl⟩
          go_wp2_with fail
          refine (hello_lit b 1 1 t _ hL.out.tab hL.out.g E1.out E2.out E3.out).mono ?_
          rintro e w' ⟨rfl, hT3⟩
          have V1 := Lib.hid (E4.out w' hT3 HB.out)
          clear hT3
          go_wp2_with fail
          go_roundw
          case rel => exact ⟨j + 1, t, s', by omega, by go_num, rfl, by omega, by omega, V1⟩
          case measure => simp [intOf]; omega
        · rw [hQ] at hc2
          obtain ⟨s', e1, e2, e4⟩ := hL.out.seen ht2 (by omega)
          have E4 := Lib.hid e4; have E1 := Lib.hid e1; have E2 := Lib.hid e2
          clear e1 e2 e4 hQ
          go_wp2_with fail
          refine (low_any x 15 (by omega) (by omega) _).mono ?_
          rintro e w' ⟨rfl, rfl⟩
          go_wp2_with fail
          refine (seen_lit b 1 1 t _ hL.out.tab hL.out.g E1.out E2.out).mono ?_
          rintro e w' ⟨rfl, hT3⟩
          have V1 := Lib.hid (E4.out w' hT3 HB.out)
          clear hT3
          obtain ⟨e5, e6, e7⟩ := V1.out.other (t := t)
          have E5 := Lib.hid e5; have E6 := Lib.hid e6; have E7 := Lib.hid e7
          clear e5 e6 e7
          go_wp2_with fail
          refine (seen_lit b 1 2 t _ V1.out.tab V1.out.g E5.out E6.out).mono ?_
          rintro e w' ⟨rfl, hT3⟩
          have V2 := Lib.hid (E7.out w' hT3 HB.out)
          clear hT3
          go_wp2_with fail
          go_roundw
          case rel => exact ⟨j + 1, t, s', by omega, by go_num, rfl, by omega, by omega, V2⟩
          case measure => simp [intOf]; omega
      · obtain ⟨s', e1, e2, e3, e4⟩ := hL.out.hello ht2 (by omega)
        have E4 := Lib.hid e4; have E1 := Lib.hid e1; have E2 := Lib.hid e2; have E3 := Lib.hid e3
        clear e1 e2 e3 e4
        go_wp2_with fail
        refine (low_any x 15 (by omega) (by omega) _).mono ?_
        rintro e w' ⟨rfl, rfl⟩
        go_wp2_with fail
        refine (hello_lit b 1 1 t _ hL.out.tab hL.out.g E1.out E2.out E3.out).mono ?_
        rintro e w' ⟨rfl, hT3⟩
        have V1 := Lib.hid (E4.out w' hT3 HB.out)
        clear hT3
        go_wp2_with fail
        go_roundw
        case rel => exact ⟨j + 1, t, s', by omega, by go_num, rfl, by omega, by omega, V1⟩
        case measure => simp [intOf]; omega
    · have hlow := low_bd look 60 (by omega)
      obtain ⟨k, hk⟩ : ∃ k, lowV look 60 = k := ⟨_, rfl⟩
      have hl := low_any look 60 (by omega) (by omega) wr
      rw [hk] at hl hlow
      have HL := Lib.hid hl
      have hnw : IntKind.i64.wrap (now + k) = now + k := IntWalk.i64_in _ (by omega)
      have LV := Lib.hid (hL.out.live (look := k))
      have EP := Lib.hid hL.out.epoch
      obtain ⟨z, hz⟩ : ∃ z, decide (k ≤ T) = z := ⟨_, rfl⟩
      have z1 : (z == z) = true := by simp
      rw [hz] at LV
      clear hl hk
      go_wp2_with fail
      refine HL.out.mono ?_
      rintro e w' ⟨rfl, rfl⟩
      go_wp2_with fail
      refine (live_lit b 1 _ _ hL.out.tab hL.out.g LV.out).mono ?_
      rintro e w2 ⟨rfl, hb2⟩
      have T2 := Lib.hid (hL.out.tab.below hb2)
      have B2 := Lib.hid (hL.out.bel.trans (hb2.mono hL.out.bel.size))
      clear hb2
      go_wp2_with fail
      refine (epoch_any b 1 _ T2.out hL.out.g).mono ?_
      rintro e w' ⟨rfl, rfl⟩
      rw [EP.out]
      go_wp2_with fail
      refine (awake_any _).mono ?_
      rintro e w' ⟨rfl, hb⟩
      go_wp2_with fail
      go_ret
      exact ⟨rfl, B2.out.trans (hb.mono B2.out.size)⟩
open Go.ChangeShapes Go.WideShapes Go.ChangeAt in
theorem leaseLives_walk {H : Type} {enc : TypeId × Value → H} (W : World) (base : Nat) (v0 v1 v2 v3 : Value) (d0 d1 d2 d3 : DataW H) (p0 p1 p2 p3 : List MemPlace)
    (h0 : DataW.Trod enc Try.prog W 0 (fun _ => true) true 3 v0 d0 p0) (h1 : DataW.Trod enc Try.prog W 0 (fun _ => true) true 49 v1 d1 p1) (h2 : DataW.Trod enc Try.prog W 0 (fun _ => true) true 50 v2 d2 p2) (h3 : DataW.Trod enc Try.prog W 0 (fun _ => true) true 3 v3 d3 p3)
    (o0 : Value.okWide Try.prog W .any base 3 v0) (o1 : Value.okWide Try.prog W .any base 49 v1) (o2 : Value.okWide Try.prog W .any base 50 v2) (o3 : Value.okWide Try.prog W .any base 3 v3) :
    Calls Try.prog 5 #[v0, v1, v2, v3] W fun e w' => e = .returned (.bool true) ∧ RowKit.Below W.heap.size W w' := by
  obtain ⟨t, rfl, rfl, rfl, _⟩ := open_int Try.underlying3 o0 h0
  obtain ⟨a, n, cap, zs, rfl, hh, hnil, k1, k2, hw⟩ := open_ints_arg Try.underlying49 Try.underlying3 cells_int o1 h1
  obtain ⟨a2, n2, cap2, B, rfl, hq, k3⟩ := open_bools_arg Try.underlying50 Try.underlying4 cells_bool o2 h2
  obtain ⟨k, rfl, rfl, rfl, _⟩ := open_int Try.underlying3 o3 h3
  have hl := hh.len
  subst hl
  exact leaseLives_any t k zs a a2 cap n2 cap2 B W hh (by unfold maxLen at k2; omega) hq (by unfold maxLen at k3; omega)
end Go.Proofs.Ytphcmokcdaiphaa
