/- the laws of lists: where a word stands; what is made of any texts -/
import Derived.Test.YtieenopbkkbecaaWt4
import Derived.Deep.RegionWith
namespace Go.Proofs.Ytieenopbkkbecaa
open Go.RowKit
set_option linter.unusedVariables false
theorem at_pos {xs : List Tx} {t : Tx} (hs : SortedS xs) {i : Nat} (hi : i < xs.length) : cmpS (xs.getD i ByteArray.empty) t < 0 ↔ i < atN xs t := by
  have key : ∀ (xs : List Tx), SortedS xs → ∀ i, i < xs.length → (cmpS (xs.getD i ByteArray.empty) t < 0 ↔ i < atN xs t) := by
    intro xs
    induction xs with
    | nil => intro _ i hi; simp at hi
    | cons x xs ih =>
      intro hs i hi
      obtain ⟨h1, h2⟩ := List.pairwise_cons.1 hs
      have hc : atN (x :: xs) t = atN xs t + (if cmpS x t < 0 then 1 else 0) := by
        unfold atN; rw [List.countP_cons]; simp
      rw [hc]
      cases i with
      | zero =>
        rw [getD_cons_zero]
        by_cases h : cmpS x t < 0
        · simp [h]
        · rw [if_neg h]
          have h0 : atN xs t = 0 := by
            unfold atN; rw [List.countP_eq_zero]
            intro y hy
            have h3 := h1 y hy
            simp only [decide_eq_true_eq]
            intro h4; exact h (cmpS_trans h3 h4)
          constructor
          · intro h5; exact absurd h5 h
          · intro h5; omega
      | succ i =>
        rw [getD_cons_succ, ih h2 i (by simpa using hi)]
        by_cases h : cmpS x t < 0
        · rw [if_pos h]; omega
        · rw [if_neg h]
          have h0 : atN xs t = 0 := by
            unfold atN; rw [List.countP_eq_zero]
            intro y hy
            have h3 := h1 y hy
            simp only [decide_eq_true_eq]
            intro h4; exact h (cmpS_trans h3 h4)
          omega
  exact key xs hs i hi
theorem at_val {xs : List Tx} {t : Tx} (hs : SortedS xs) (h : t ∈ xs) : atN xs t < xs.length ∧ xs.getD (atN xs t) ByteArray.empty = t := by
  obtain ⟨k, hk, e⟩ := List.getElem_of_mem h
  have e2 : xs.getD k ByteArray.empty = t := by rw [getD_at hk, e]
  have h1 : ¬ k < atN xs t := by rw [← at_pos hs hk, e2]; exact cmpS_irrefl t
  have h2 : atN xs t = k := by
    apply Classical.byContradiction
    intro hne
    have h3 : atN xs t < k := by omega
    have h4 := sorted_at hs h3 hk
    rw [e2] at h4
    have h5 := (at_pos hs (show atN xs t < xs.length by omega)).1 h4
    omega
  rw [h2]; exact ⟨hk, e2⟩
set_option maxHeartbeats 3200000 in
theorem listAt_any (a : Option Addr) (na ca : Nat) (xs : List Tx) (s : Tx) (w : World) (hs : s.size ≤ 9223372036854775807) (ha : Lst w a na ca xs) (biga : na ≤ 9223372036854775807) (sa : ∀ t ∈ xs, t.size ≤ 9223372036854775807) :
    Calls Try.prog 7 #[.slice a na ca, .string s] w fun e w' => e = .returned (.bool true) ∧ Below w.heap.size w w' := by
  have HX := Lib.hid ha; have Sxs := Lib.hid sa
  have lxs := ha.1.len
  clear ha sa
  by_cases q0 : greatB xs = true
  case pos =>
    have Gxs := Lib.hid q0
    have B0 := Lib.hid (Below.refl w.heap.size w)
    go_enter Try.func7, Try.ntmps7
    go_wp2_with fail
    refine (great_lit a na ca xs _ _ HX.out.1 (by omega) Sxs.out Gxs.out).mono ?_
    rintro e w1 ⟨rfl, hb1⟩
    replace HX := Lib.hid (HX.out.below hb1)
    have B1 := Lib.hid (B0.out.trans (hb1.mono B0.out.size))
    clear hb1 B0
    go_wp2_with fail
    refine (awakeL_any _).mono ?_
    rintro e w2 ⟨rfl, hb2⟩
    replace HX := Lib.hid (HX.out.below hb2)
    have B2 := Lib.hid (B1.out.trans (hb2.mono B1.out.size))
    clear hb2 B1
    go_wp2_with fail
    go_ret
    exact ⟨rfl, B2.out⟩
  have Gxs := Lib.hid ((Bool.not_eq_true _).mp q0)
  have Nxs := (great_no_iff.1 Gxs.out).1
  by_cases q1 : 100 < s.size
  case pos =>
    have B0 := Lib.hid (Below.refl w.heap.size w)
    go_enter Try.func7, Try.ntmps7
    go_wp2_with fail
    refine (great_lit a na ca xs _ _ HX.out.1 (by omega) Sxs.out Gxs.out).mono ?_
    rintro e w1 ⟨rfl, hb1⟩
    replace HX := Lib.hid (HX.out.below hb1)
    have B1 := Lib.hid (B0.out.trans (hb1.mono B0.out.size))
    clear hb1 B0
    go_wp2_with fail
    refine (awakeL_any _).mono ?_
    rintro e w2 ⟨rfl, hb2⟩
    replace HX := Lib.hid (HX.out.below hb2)
    have B2 := Lib.hid (B1.out.trans (hb2.mono B1.out.size))
    clear hb2 B1
    go_wp2_with fail
    go_ret
    exact ⟨rfl, B2.out⟩
  have hs100 : s.size ≤ 100 := by omega
  by_cases q2 : goodV xs ≠ 0
  case pos =>
    obtain ⟨Vxs, hVxs⟩ : ∃ v, goodV xs = v := ⟨_, rfl⟩
    have Dxs := Lib.hid hVxs
    rw [hVxs] at q2
    have z2 : (Vxs != 0) = true := by simpa using q2
    clear hVxs
    have B0 := Lib.hid (Below.refl w.heap.size w)
    go_enter Try.func7, Try.ntmps7
    go_wp2_with fail
    refine (great_lit a na ca xs _ _ HX.out.1 (by omega) Sxs.out Gxs.out).mono ?_
    rintro e w1 ⟨rfl, hb1⟩
    replace HX := Lib.hid (HX.out.below hb1)
    have B1 := Lib.hid (B0.out.trans (hb1.mono B0.out.size))
    clear hb1 B0
    go_wp2_with fail
    refine (good_lit a na ca xs Vxs _ HX.out.1 (by omega) Sxs.out Dxs.out).mono ?_
    rintro e w2 ⟨rfl, hb2⟩
    replace HX := Lib.hid (HX.out.below hb2)
    have B2 := Lib.hid (B1.out.trans (hb2.mono B1.out.size))
    clear hb2 B1
    go_wp2_with fail
    refine (awakeL_any _).mono ?_
    rintro e w3 ⟨rfl, hb3⟩
    replace HX := Lib.hid (HX.out.below hb3)
    have B3 := Lib.hid (B2.out.trans (hb3.mono B2.out.size))
    clear hb3 B2
    go_wp2_with fail
    go_ret
    exact ⟨rfl, B3.out⟩
  have q2' : goodV xs = 0 := Classical.byContradiction q2
  have Dxs := Lib.hid q2'
  have z2 := Lib.hid (goodV_zero q2')
  have B0 := Lib.hid (Below.refl w.heap.size w)
  have Oxs := Lib.hid z2.out.2.2
  have hp : atN xs s ≤ xs.length := atN_le xs s
  obtain ⟨p, p1⟩ : ∃ p, atN xs s = p := ⟨_, rfl⟩
  rw [p1] at hp
  have hd1 : decide (((p : Nat) : Int) < 0) = false := by rw [decide_eq_false_iff_not]; omega
  have hd2 : decide (na < p) = false := by rw [decide_eq_false_iff_not]; omega
  have hd3 : decide (((na : Nat) : Int) < ((p : Nat) : Int)) = false := by rw [decide_eq_false_iff_not]; omega
  have P1 := Lib.hid p1
  obtain ⟨bx, f1⟩ : ∃ b, decide (s ∈ xs) = b := ⟨_, rfl⟩
  have F1 := Lib.hid f1
  clear p1 f1
  have x1 := z2.out.1
  go_enter Try.func7, Try.ntmps7
  go_wp2_with fail
  refine (great_lit a na ca xs _ _ HX.out.1 (by omega) Sxs.out Gxs.out).mono ?_
  rintro e w1 ⟨rfl, hb1⟩
  replace HX := Lib.hid (HX.out.below hb1)
  have B1 := Lib.hid (B0.out.trans (hb1.mono B0.out.size))
  clear hb1 B0
  go_wp2_with fail
  refine (good_lit a na ca xs 0 _ HX.out.1 (by omega) Sxs.out Dxs.out).mono ?_
  rintro e w2 ⟨rfl, hb2⟩
  replace HX := Lib.hid (HX.out.below hb2)
  have B2 := Lib.hid (B1.out.trans (hb2.mono B1.out.size))
  clear hb2 B1
  go_wp2_with fail
  refine (at_lit a na ca xs s bx p _ HX.out.1 (by omega) Oxs.out F1.out P1.out).mono ?_
  rintro e w3 ⟨rfl, rfl⟩
  cases bx
  case false =>
    go_wp2_with fail
    go_loop [7] (fun iv => ∃ i : Nat, i ≤ na ∧ iv = .int .i64 i) (fun iv => na - (intOf iv).toNat)
    case atStart => exact ⟨0, by omega, rfl⟩
    case round =>
      obtain ⟨i, hi, rfl⟩ := hrel
      by_cases hlt : i < na
      · obtain ⟨b1, o1, hb1, hc1⟩ := HX.out.1.at (by omega)
        obtain rfl := hb1
        have e1 := hc1 i hlt
        have hpos := at_pos (t := s) Oxs.out (show i < xs.length by omega)
        rw [P1.out] at hpos
        obtain ⟨x, hx⟩ : ∃ x, xs.getD i ByteArray.empty = x := ⟨_, rfl⟩
        have hmem := getD_memT xs i (by omega)
        rw [hx] at e1 hpos hmem
        obtain ⟨v, hv⟩ : ∃ v, cmpS x s = v := ⟨_, rfl⟩
        have hv0 : (v == 0) = false := by
          rw [beq_eq_false_iff_ne]; intro h; rw [← hv, cmpS_zero] at h
          have := of_decide_eq_false F1.out; rw [← h] at this; exact this hmem
        have HCM := Lib.hid (compare_lit x s v hv)
        rw [hv] at hpos
        clear hx hv hmem hc1
        have hcase : (v < 0 ∧ i < p ∧ (v == 0) = false) ∨ (¬ v < 0 ∧ ¬ i < p ∧ (v == 0) = false) ∨ (¬ v < 0 ∧ ¬ i < p ∧ (v == 0) = true) := by
          by_cases h : v < 0
          · exact Or.inl ⟨h, hpos.1 h, by rw [beq_eq_false_iff_ne]; omega⟩
          · by_cases h0 : v = 0
            · exact Or.inr (Or.inr ⟨h, fun k => h (hpos.2 k), by simp [h0]⟩)
            · exact Or.inr (Or.inl ⟨h, fun k => h (hpos.2 k), by simp [h0]⟩)
        rw [hv0] at hcase
        clear hpos
        rcases hcase with ⟨hv1, hv2, hv3⟩ | ⟨hv1, hv2, hv3⟩ | ⟨hv1, hv2, hv3⟩
        rotate_right 1
        · cases hv3
        all_goals
          go_wp2_with fail
          refine (HCM.out _).mono ?_
          rintro e w7 ⟨rfl, rfl⟩
          go_wp2_with fail
          go_round
          case rel => exact ⟨i + 1, by omega, by go_num⟩
          case measure => simp [intOf]; omega
      · go_wp2_with fail
        refine (awakeL_any _).mono ?_
        rintro e w9 ⟨rfl, hb9⟩
        go_wp2_with fail
        go_ret
        exact ⟨rfl, B2.out.trans (hb9.mono B2.out.size)⟩
  case true =>
    have hin : s ∈ xs := of_decide_eq_true F1.out
    have hav := at_val Oxs.out hin
    rw [P1.out, lxs] at hav
    obtain ⟨hp1, hp2⟩ := hav
    obtain ⟨b0, o0, rfl, hc0⟩ := HX.out.1.at (by omega)
    have e0 := hc0 p hp1
    rw [hp2] at e0
    clear hc0
    have g9b : (p == na) = false := by simp; omega
    have g9c : decide (p = na) = false := by simp; omega
    have g9d : p ≠ na := by omega
    have hse := str_same s
    have hse2 : (!(s.toList == s.toList)) = false := by simp
    have g9 : (((p : Nat) : Int) == (na : Int)) = false := by simp; omega
    go_wp2_with fail
    go_loop [7] (fun iv => ∃ i : Nat, i ≤ na ∧ iv = .int .i64 i) (fun iv => na - (intOf iv).toNat)
    case atStart => exact ⟨0, by omega, rfl⟩
    case round =>
      obtain ⟨i, hi, rfl⟩ := hrel
      by_cases hlt : i < na
      · obtain ⟨b1, o1, hb1, hc1⟩ := HX.out.1.at (by omega)
        cases hb1
        have e1 := hc1 i hlt
        have hpos := at_pos (t := s) Oxs.out (show i < xs.length by omega)
        rw [P1.out] at hpos
        obtain ⟨x, hx⟩ : ∃ x, xs.getD i ByteArray.empty = x := ⟨_, rfl⟩
        have hmem := getD_memT xs i (by omega)
        rw [hx] at e1 hpos hmem
        obtain ⟨v, hv⟩ : ∃ v, cmpS x s = v := ⟨_, rfl⟩
        have HCM := Lib.hid (compare_lit x s v hv)
        rw [hv] at hpos
        clear hx hv hmem hc1
        have hcase : (v < 0 ∧ i < p ∧ (v == 0) = false) ∨ (¬ v < 0 ∧ ¬ i < p ∧ (v == 0) = false) ∨ (¬ v < 0 ∧ ¬ i < p ∧ (v == 0) = true) := by
          by_cases h : v < 0
          · exact Or.inl ⟨h, hpos.1 h, by rw [beq_eq_false_iff_ne]; omega⟩
          · by_cases h0 : v = 0
            · exact Or.inr (Or.inr ⟨h, fun k => h (hpos.2 k), by simp [h0]⟩)
            · exact Or.inr (Or.inl ⟨h, fun k => h (hpos.2 k), by simp [h0]⟩)
        clear hpos
        rcases hcase with ⟨hv1, hv2, hv3⟩ | ⟨hv1, hv2, hv3⟩ | ⟨hv1, hv2, hv3⟩
        all_goals
          go_wp2_with fail
          refine (HCM.out _).mono ?_
          rintro e w7 ⟨rfl, rfl⟩
          go_wp2_with fail
          go_round
          case rel => exact ⟨i + 1, by omega, by go_num⟩
          case measure => simp [intOf]; omega
      · go_wp2_with fail
        refine (awakeL_any _).mono ?_
        rintro e w9 ⟨rfl, hb9⟩
        go_wp2_with fail
        go_ret
        exact ⟨rfl, B2.out.trans (hb9.mono B2.out.size)⟩
end Go.Proofs.Ytieenopbkkbecaa
