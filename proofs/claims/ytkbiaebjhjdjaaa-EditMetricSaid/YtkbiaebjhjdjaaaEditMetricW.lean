/- the law that edit distances are a metric -/
import Derived.Test.YtkbiaebjhjdjaaaEdT
import Derived.Test.YtkbiaebjhjdjaaaSameRunes
import Derived.Test.YtkbiaebjhjdjaaaEditApartW
namespace Go.Proofs.Ytkbiaebjhjdjaaa
open Go.RowKit
set_option linter.unusedVariables false
set_option maxHeartbeats 3200000 in
theorem editMetric_any (ra rb rc : List Int) (a b c : Option Addr) (ca cb cc : Nat) (w : World) (ha : HoldsI .i32 w a ra.length ra) (hb : HoldsI .i32 w b rb.length rb) (hc : HoldsI .i32 w c rc.length rc) (h63 : ra.length ≤ 9223372036854775807) (h64 : rb.length ≤ 9223372036854775807) (h65 : rc.length ≤ 9223372036854775807) :
    Calls Try.prog 10 #[.slice a ra.length ca, .slice b rb.length cb, .slice c rc.length cc] w fun e w' => e = .returned (.bool true) ∧ Below w.heap.size w w' := by
  by_cases hlong : 30 < ra.length ∨ 30 < rb.length
  · have hd := long_any ra.length ca rb.length cb a b w h63 h64
    rw [decide_eq_true hlong] at hd
    have HD := Lib.hid hd
    clear hd hlong ha hb hc h63 h64
    obtain ⟨m, hm⟩ : ∃ m, ra.length = m := ⟨_, rfl⟩
    obtain ⟨n, hn⟩ : ∃ n, rb.length = n := ⟨_, rfl⟩
    obtain ⟨q, hq⟩ : ∃ q, rc.length = q := ⟨_, rfl⟩
    rw [hm, hn] at HD; rw [hm, hn, hq]; rw [hq] at h65
    clear hm hn hq
    go_enter Try.func10, Try.ntmps10
    go_wp2_with fail
    refine HD.out.mono ?_
    rintro e w' ⟨rfl, rfl⟩
    go_wp2_with fail
    refine (awake_any _).mono ?_
    rintro e w' ⟨rfl, hb3⟩
    go_wp2_with fail
    go_ret
    exact ⟨rfl, hb3⟩
  · have hd := long_any ra.length ca rb.length cb a b w h63 h64
    rw [decide_eq_false hlong] at hd
    have hla : ra.length ≤ 30 := by omega
    have hlb : rb.length ≤ 30 := by omega
    by_cases hlc : 30 < rc.length
    · obtain ⟨m, hm⟩ : ∃ m, ra.length = m := ⟨_, rfl⟩
      obtain ⟨n, hn⟩ : ∃ n, rb.length = n := ⟨_, rfl⟩
      obtain ⟨q, hq⟩ : ∃ q, rc.length = q := ⟨_, rfl⟩
      rw [hm, hn] at hd; rw [hm, hn, hq]; rw [hq] at h65 hlc
      have HD := Lib.hid hd
      have e1 : decide ((q : Int) > 30) = true := by simp; omega
      clear hd hm hn hq ha hb hc hlong hla hlb h63 h64
      go_enter Try.func10, Try.ntmps10
      go_wp2_with fail
      refine HD.out.mono ?_
      rintro e w' ⟨rfl, rfl⟩
      go_wp2_with fail
      refine (awake_any _).mono ?_
      rintro e w' ⟨rfl, hb3⟩
      go_wp2_with fail
      go_ret
      exact ⟨rfl, hb3⟩
    · have hlc : rc.length ≤ 30 := by omega
      have hab := fun W (h : Below w.heap.size w W) => eruns_any ra rb a b ca cb W (ha.below h) (hb.below h) (by omega) (by omega)
      have hbc := fun W (h : Below w.heap.size w W) => eruns_any rb rc b c cb cc W (hb.below h) (hc.below h) (by omega) (by omega)
      have hac := fun W (h : Below w.heap.size w W) => eruns_any ra rc a c ca cc W (ha.below h) (hc.below h) (by omega) (by omega)
      have hba := fun W (h : Below w.heap.size w W) => eruns_any rb ra b a cb ca W (hb.below h) (ha.below h) (by omega) (by omega)
      have hsm := fun W (h : Below w.heap.size w W) => sameRunes_any a b ra.length ca rb.length cb ra rb W (ha.below h) (hb.below h) (by omega) (by omega)
      simp only [Ed.L_sym rb ra] at hba
      have ht := Ed.L_tri ra rb rc _ ra.length rb.length rc.length (Nat.le_refl _)
      have hz := Ed.L_zero_iff ra rb
      have hlow := Ed.L_low ra rb ra.length rb.length
      have hup := Ed.L_up ra rb ra.length rb.length
      have hb1 := Ed.L_bd ra rb ra.length rb.length
      have hb2 := Ed.L_bd rb rc rb.length rc.length
      have hb3 := Ed.L_bd ra rc ra.length rc.length
      have hlen : ra = rb → ra.length = rb.length := fun h => by rw [h]
      obtain ⟨x, hx⟩ : ∃ x, Ed.L ra rb ra.length rb.length = x := ⟨_, rfl⟩
      obtain ⟨y, hy⟩ : ∃ y, Ed.L rb rc rb.length rc.length = y := ⟨_, rfl⟩
      obtain ⟨z, hz2⟩ : ∃ z, Ed.L ra rc ra.length rc.length = z := ⟨_, rfl⟩
      simp only [hx, hy, hz2] at hab hbc hac hba ht hz hlow hup hb1 hb2 hb3
      clear hx hy hz2
      obtain ⟨m, hm⟩ : ∃ m, ra.length = m := ⟨_, rfl⟩
      obtain ⟨n, hn⟩ : ∃ n, rb.length = n := ⟨_, rfl⟩
      obtain ⟨q, hq⟩ : ∃ q, rc.length = q := ⟨_, rfl⟩
      simp only [hm, hn, hq] at hab hbc hac hba hsm hd ht hlow hup hb1 hb2 hb3 hla hlb hlc hlen ⊢
      have HAB := Lib.hid hab; have HBC := Lib.hid hbc; have HAC := Lib.hid hac; have HBA := Lib.hid hba; have HD := Lib.hid hd
      have e1 : decide ((q : Int) > 30) = false := by simp; omega
      have hcase : (m < n ∧ x ≠ 0 ∧ decide (ra = rb) = false ∧ x ≤ n ∧ (n : Int) - m ≤ x) ∨ (¬ m < n ∧ x ≠ 0 ∧ decide (ra = rb) = false ∧ x ≤ m ∧ (m : Int) - n ≤ x) ∨ (¬ m < n ∧ x = 0 ∧ decide (ra = rb) = true ∧ x ≤ m ∧ (m : Int) - n ≤ x) := by
        by_cases h : ra = rb
        · have := hlen h; have := hz.2 h
          exact Or.inr (Or.inr ⟨by omega, by omega, decide_eq_true h, by omega, by omega⟩)
        · have h0 : x ≠ 0 := fun e => h (hz.1 e)
          by_cases h2 : m < n
          · exact Or.inl ⟨h2, h0, decide_eq_false h, by omega, by omega⟩
          · exact Or.inr (Or.inl ⟨h2, h0, decide_eq_false h, by omega, by omega⟩)
      clear hab hbc hac hba hd hz hlow hup hlen ha hb hc hlong h63 h64 h65 hm hn hq
      rcases hcase with ⟨k1, k2, k3, k4, k5⟩ | ⟨k1, k2, k3, k4, k5⟩ | ⟨k1, k2, k3, k4, k5⟩
      all_goals (
        rw [k3] at hsm
        have HSM := Lib.hid hsm
        clear k3 hsm
        first
          | (have k6 : (x == 0) = false := by simpa using k2)
          | (have k6 : (x == 0) = true := by simpa using k2)
        go_enter Try.func10, Try.ntmps10
        go_wp2_with fail
        refine HD.out.mono ?_
        rintro e w' ⟨rfl, rfl⟩
        go_wp2_with fail
        refine (HAB.out _ (Below.refl _ _)).mono ?_
        rintro e w1 ⟨rfl, hb1⟩
        have B1 := Lib.hid hb1
        clear hb1
        go_wp2_with fail
        refine (HBC.out _ B1.out).mono ?_
        rintro e w2 ⟨rfl, hb1⟩
        have B2 := Lib.hid (B1.out.trans (hb1.mono B1.out.size))
        clear hb1
        go_wp2_with fail
        refine (HAC.out _ B2.out).mono ?_
        rintro e w3 ⟨rfl, hb1⟩
        have B3 := Lib.hid (B2.out.trans (hb1.mono B2.out.size))
        clear hb1
        go_wp2_with fail
        refine (HSM.out _ B3.out).mono ?_
        rintro e w4 ⟨rfl, mm, rfl⟩
        have B4 := Lib.hid (B3.out.trans ((below_drewN w3 mm).mono B3.out.size))
        go_wp2_with fail
        refine (HBA.out _ B4.out).mono ?_
        rintro e w5 ⟨rfl, hb1⟩
        have B5 := Lib.hid (B4.out.trans (hb1.mono B4.out.size))
        clear hb1
        go_wp2_with fail
        refine (awake_any _).mono ?_
        rintro e w6 ⟨rfl, hb6⟩
        go_wp2_with fail
        go_ret
        exact ⟨rfl, B5.out.trans (hb6.mono B5.out.size)⟩)
open Go.ChangeShapes Go.WideShapes Go.ChangeAt in
theorem editMetric_walk {H : Type} {enc : TypeId × Value → H} (W : World) (base : Nat) (v0 v1 v2 : Value) (d0 d1 d2 : DataW H) (p0 p1 p2 : List MemPlace)
    (h0 : DataW.Trod enc Try.prog W 0 (fun _ => true) true 39 v0 d0 p0) (h1 : DataW.Trod enc Try.prog W 0 (fun _ => true) true 39 v1 d1 p1) (h2 : DataW.Trod enc Try.prog W 0 (fun _ => true) true 39 v2 d2 p2)
    (o0 : Value.okWide Try.prog W .any base 39 v0) (o1 : Value.okWide Try.prog W .any base 39 v1) (o2 : Value.okWide Try.prog W .any base 39 v2) :
    Calls Try.prog 10 #[v0, v1, v2] W fun e w' => e = .returned (.bool true) ∧ RowKit.Below W.heap.size W w' := by
  obtain ⟨a, ra, ca, rfl, ha, _, k1, k2, _⟩ := open_runes_arg o0 h0
  obtain ⟨b, rb, cb, rfl, hb, _, k3, k4, _⟩ := open_runes_arg o1 h1
  obtain ⟨c, rc, cc, rfl, hc, _, k5, k6, _⟩ := open_runes_arg o2 h2
  exact editMetric_any ra rb rc a b c ca cb cc W ha hb hc (by unfold maxLen at k2; omega) (by unfold maxLen at k4; omega) (by unfold maxLen at k6; omega)
end Go.Proofs.Ytkbiaebjhjdjaaa
