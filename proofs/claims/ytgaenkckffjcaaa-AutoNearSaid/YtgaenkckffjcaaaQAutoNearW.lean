/- the law of how near a text is behind its runes -/
import Derived.Test.YtgaenkckffjcaaaPkA
namespace Go.Proofs.Ytgaenkckffjcaaa
open Go.RowKit
set_option linter.unusedVariables false
set_option maxRecDepth 20000
theorem Au.st_whole {q p : List Int} {k : Int} (hk : 0 ≤ k) (j : Nat) : Au.dmin (Au.st q p k j) q.length k = min (Ed.L q p q.length j) (k + 1) :=
  Au.dmin_whole (Au.cap_lip q p k j _) (fun i _ => (Au.cap_bd q p k hk j i).2)
set_option maxHeartbeats 3200000 in
theorem autoNear_any (q p : List Int) (a b : Option Addr) (n m ca cb : Nat) (k0 : Int) (w : World) (ha : HoldsI .i32 w a n q) (hb : HoldsI .i32 w b m p) (h63 : n ≤ 9223372036854775807) (h64 : m ≤ 9223372036854775807) :
    Calls Try.prog 4 #[.slice a n ca, .slice b m cb, .int .i64 k0] w fun e w' => e = .returned (.bool true) ∧ Below w.heap.size w w' := by
  have CL := Lib.hid (fun w => long_any n ca m cb a b w h63 h64)
  by_cases hlong : 16 < n ∨ 16 < m
  · have E := Lib.hid (decide_eq_true hlong)
    clear hlong ha hb h63 h64
    go_enter Try.func4, Try.ntmps4
    go_wp2_with fail
    refine (CL.out _).mono ?_
    rintro e w' ⟨rfl, rfl⟩
    rw [E.out]
    go_wp2_with fail
    refine (awake_any _).mono ?_
    rintro e w' ⟨rfl, hb3⟩
    go_wp2_with fail
    go_ret
    exact ⟨rfl, hb3⟩
  · have E := Lib.hid (decide_eq_false hlong)
    have hn : n ≤ 16 := by omega
    have hm : m ≤ 16 := by omega
    have HA := Lib.hid ha; have HB := Lib.hid hb
    have hk := low_bd k0 5 (by omega)
    have CW := Lib.hid (fun w => low_any k0 5 (by omega) (by omega) w)
    obtain ⟨k, hkv⟩ : ∃ k, lowV k0 5 = k := ⟨_, rfl⟩
    rw [hkv] at hk CW
    obtain ⟨hk0, hk4⟩ := hk
    clear hlong ha hb h63 h64 hkv
    have HK := Lib.hid (show 0 ≤ k ∧ k ≤ 4 by omega)
    go_enter Try.func4, Try.ntmps4
    go_wp2_with fail
    refine (CL.out _).mono ?_
    rintro e w' ⟨rfl, rfl⟩
    rw [E.out]
    clear CL E
    go_wp2_with fail
    refine (CW.out _).mono ?_
    rintro e w' ⟨rfl, rfl⟩
    clear CW
    go_wp2_with fail
    refine (start_yes a n ca k _ HK.out).mono ?_
    rintro e w1 ⟨sa, sc, rfl, ho, hb⟩
    have S1 := Lib.hid (show HoldsP w1 sa 1 (Au.st q p k 0) from by rw [Au.st_zero q p HK.out.1]; exact HoldsP.own ho)
    have B1 := Lib.hid hb
    clear ho hb
    go_wp2_with fail
    go_loopw [7, 8] (fun sv iv wr => ∃ (j : Nat) (sa : Option Addr) (L sc : Nat), j ≤ m ∧ iv = .int .i64 j ∧ sv = .slice sa L sc ∧ Hid (HoldsP wr sa L (Au.st q p k j)) ∧ Hid (Below w.heap.size w wr)) (fun _ iv _ => m - (intOf iv).toNat)
    case atStart => exact ⟨0, sa, 1, sc, by omega, rfl, rfl, S1, B1⟩
    case round =>
      obtain ⟨j, sa, L, sc, hj, rfl, rfl, hS, hB⟩ := hrel
      have hL9 : (L : Int) ≤ 2 * k + 1 := by have := Au.st_len (q := q) (p := p) (j := j) HK.out.1; rw [hS.out.len] at this; exact this
      by_cases hlt : j < m
      · obtain ⟨bb, ob, rfl, hcb⟩ := (HB.out.below hB.out).at (by omega)
        have e1 := hcb j hlt
        clear hcb
        obtain ⟨r, hr⟩ : ∃ r, p.getD j 0 = r := ⟨_, rfl⟩
        rw [hr] at e1
        have HR := Lib.hid hr
        obtain ⟨L2, hL2⟩ : ∃ L2, (Au.st q p k (j + 1)).length = L2 := ⟨_, rfl⟩
        have HL2 := Lib.hid hL2
        have hL29 : (L2 : Int) ≤ 2 * k + 1 := by have := Au.st_len (q := q) (p := p) (j := j + 1) HK.out.1; rw [hL2] at this; exact this
        have hdd : L = 0 → L2 = 0 := fun h0 => by
          have h1 : Au.st q p k j = [] := List.length_eq_zero_iff.1 (by rw [hS.out.len]; exact h0)
          rw [← hL2, Au.st_dead HK.out.1 h1]; rfl
        obtain ⟨f, hf⟩ : ∃ f, decide (L = 0) = f := ⟨_, rfl⟩
        obtain ⟨f2, hf2⟩ : ∃ f, decide (L2 = 0) = f := ⟨_, rfl⟩
        have CD := Lib.hid (fun w => dead_any sa L sc f w (by omega) hf)
        have CD2 := Lib.hid (fun a c w => dead_any a L2 c f2 w (by omega) hf2)
        have z1 : IntKind.i64.wrap (2 * k) = 2 * k := IntWalk.i64_in _ (by omega)
        have z2 : IntKind.i64.wrap (2 * k + 1) = 2 * k + 1 := IntWalk.i64_in _ (by omega)
        have z3 : decide ((L2 : Int) > 2 * k + 1) = false := by simp; omega
        have z4 : ((L2 : Int) == 0) = f2 := by rw [← hf2]; by_cases e : L2 = 0 <;> simp [e]
        have z5 : (f2 != f2) = false := by simp
        have hff : f = true → f2 = true := by subst hf hf2; simpa using hdd
        clear hr hL2 hdd hf hf2 hL9 hL29
        go_wp2_with fail
        refine (CD.out _).mono ?_
        rintro e w2 ⟨rfl, rfl⟩
        go_wp2_with fail
        refine (step_any q p j k a sa n ca L sc L2 r _ (HA.out.below hB.out) hS.out HK.out (by omega) HR.out HL2.out).mono ?_
        rintro e w3 ⟨sa3, sc3, rfl, ho, hb⟩
        have S3 := Lib.hid (HoldsP.own ho)
        have B3 := Lib.hid (hB.out.trans (hb.mono hB.out.size))
        clear ho hb hS hB
        cases f
        · clear hff
          go_wp2_with fail
          refine (CD2.out _ _ _).mono ?_
          rintro e w4 ⟨rfl, rfl⟩
          go_wp2_with fail
          go_roundw
          case rel => exact ⟨j + 1, sa3, L2, sc3, by omega, by go_num, rfl, S3, B3⟩
          case measure => simp [intOf] <;> omega
        · obtain rfl : f2 = true := hff rfl
          clear hff
          go_wp2_with fail
          refine (CD2.out _ _ _).mono ?_
          rintro e w4 ⟨rfl, rfl⟩
          go_wp2_with fail
          refine (CD2.out _ _ _).mono ?_
          rintro e w4 ⟨rfl, rfl⟩
          go_wp2_with fail
          go_roundw
          case rel => exact ⟨j + 1, sa3, L2, sc3, by omega, by go_num, rfl, S3, B3⟩
          case measure => simp [intOf] <;> omega
      · obtain rfl : j = m := by omega
        have BD := Lib.hid (Ed.L_bd q p n j)
        obtain ⟨D, hD⟩ : ∃ D, Ed.L q p n j = D := ⟨_, rfl⟩
        rw [hD] at BD
        have CR := Lib.hid (fun w ha hb => rruns_any q p a b n j ca cb w ha hb (by omega) (by omega))
        have hw := Au.st_whole (q := q) (p := p) HK.out.1 j
        rw [HA.out.len, hD] at hw
        have CX := Lib.hid (fun w h => dist_any a n ca sa L sc (Au.st q p k j) k _ w h (by rw [← HA.out.len]; exact Au.st_ok HK.out.1) HK.out (by omega) (by omega) hw)
        simp only [hD] at CR
        clear hw hD
        have b0 := BD.out
        go_wp2_with fail
        refine (CR.out _ (HA.out.below hB.out) (HB.out.below hB.out)).mono ?_
        rintro e w3 ⟨rfl, hb⟩
        have S3 := Lib.hid (hS.out.below hb)
        have B3 := Lib.hid (hB.out.trans (hb.mono hB.out.size))
        clear hb hS hB CR
        go_wp2_with fail
        refine (CX.out _ S3.out).mono ?_
        rintro e w4 ⟨rfl, hb⟩
        have B4 := Lib.hid (B3.out.trans (hb.mono B3.out.size))
        clear hb S3 B3 CX
        by_cases hDk : D ≤ k
        · have em : min D (k + 1) = D := by omega
          rw [em, Au.telB_yes hDk, Au.telO_yes hDk]
          have z1 : decide (D > k) = false := by simp; omega
          have z2 : (D == D) = true := by simp
          clear em hDk
          go_wp2_with fail
          refine (awake_any _).mono ?_
          rintro e w5 ⟨rfl, hb⟩
          have B5 := Lib.hid (B4.out.trans (hb.mono B4.out.size))
          clear hb
          go_wp2_with fail
          go_ret
          exact ⟨rfl, B5.out⟩
        · have em : min D (k + 1) = k + 1 := by omega
          rw [em, Au.telB_no (by omega), Au.telO_no (by omega)]
          have z1 : decide (D > k) = true := by simp; omega
          clear em hDk
          go_wp2_with fail
          refine (awake_any _).mono ?_
          rintro e w5 ⟨rfl, hb⟩
          have B5 := Lib.hid (B4.out.trans (hb.mono B4.out.size))
          clear hb
          go_wp2_with fail
          go_ret
          exact ⟨rfl, B5.out⟩
open Go.ChangeShapes Go.WideShapes Go.ChangeAt in
theorem autoNear_walk {H : Type} {enc : TypeId × Value → H} (W : World) (base : Nat) (v0 v1 v2 : Value) (d0 d1 d2 : DataW H) (p0 p1 p2 : List MemPlace)
    (h0 : DataW.Trod enc Try.prog W 0 (fun _ => true) true 22 v0 d0 p0) (h1 : DataW.Trod enc Try.prog W 0 (fun _ => true) true 22 v1 d1 p1) (h2 : DataW.Trod enc Try.prog W 0 (fun _ => true) true 3 v2 d2 p2)
    (o0 : Value.okWide Try.prog W .any base 22 v0) (o1 : Value.okWide Try.prog W .any base 22 v1) (o2 : Value.okWide Try.prog W .any base 3 v2) :
    Calls Try.prog 4 #[v0, v1, v2] W fun e w' => e = .returned (.bool true) ∧ RowKit.Below W.heap.size W w' := by
  obtain ⟨a, ra, ca, rfl, ha, _, _, k1, _⟩ := open_runes_arg o0 h0
  obtain ⟨b, rb, cb, rfl, hb, _, _, k2, _⟩ := open_runes_arg o1 h1
  obtain ⟨x2, rfl, rfl, rfl, b2⟩ := open_int Try.underlying3 o2 h2
  exact autoNear_any ra rb a b _ _ ca cb x2 W ha hb (by unfold maxLen at k1; omega) (by unfold maxLen at k2; omega)
end Go.Proofs.Ytgaenkckffjcaaa
