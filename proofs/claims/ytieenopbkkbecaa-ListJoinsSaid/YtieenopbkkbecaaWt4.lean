/- the laws of lists: three, parts -/
import Derived.Test.YtieenopbkkbecaaWt3
namespace Go.Proofs.Ytieenopbkkbecaa
open Go.RowKit
set_option linter.unusedVariables false
theorem mem_less {xs ys : List Tx} {z : Tx} : z ∈ lessOf xs ys ↔ z ∈ xs ∧ ¬ z ∈ ys := by simp [lessOf]
theorem less_sorted {xs ys : List Tx} (h : SortedS xs) : SortedS (lessOf xs ys) := sorted_filter _ h
theorem merge_sorted {xs ys : List Tx} (h : SortedS xs) (h1 : SortedS ys) : SortedS (mergeL xs ys) := mergeL_sorted _ xs ys (Nat.le_refl _) h h1
theorem merge_len {xs ys zs : List Tx} {m n : Nat} (h : mergeL xs ys = zs) (h1 : xs.length ≤ m) (h2 : ys.length ≤ n) : zs.length ≤ m + n := by
  have := mergeL_len _ xs ys (Nat.le_refl _); rw [h] at this; omega
theorem less_len {xs ys zs : List Tx} {m : Nat} (h : lessOf xs ys = zs) (h1 : xs.length ≤ m) : zs.length ≤ m := by
  have := lessOf_len xs ys; rw [h] at this; omega
theorem three_merge {xs ys zs : List Tx} (h1 : SortedS xs) (h2 : SortedS ys) (h3 : SortedS zs) : mergeL xs (mergeL zs ys) = mergeL (mergeL xs ys) zs := by
  refine sorted_unique (merge_sorted h1 (merge_sorted h3 h2)) (merge_sorted (merge_sorted h1 h2) h3) fun z => ?_
  simp only [mem_mergeL]
  constructor
  · rintro (h | h | h) <;> simp [h]
  · rintro ((h | h) | h) <;> simp [h]
theorem three_less (xs ys zs : List Tx) : lessOf xs (mergeL ys zs) = lessOf (lessOf xs ys) zs := by
  unfold lessOf
  rw [List.filter_filter]
  apply List.filter_congr
  intro t _
  by_cases h1 : t ∈ ys <;> by_cases h2 : t ∈ zs <;> simp [mem_mergeL, h1, h2]
theorem three_last {xs ys zs : List Tx} (h1 : SortedS xs) (h2 : SortedS ys) (h3 : SortedS zs) : lessOf (mergeL xs ys) zs = lessOf (mergeL (mergeL xs ys) zs) zs := by
  refine sorted_unique (less_sorted (merge_sorted h1 h2)) (less_sorted (merge_sorted (merge_sorted h1 h2) h3)) fun z => ?_
  simp only [mem_less, mem_mergeL]
  constructor
  · rintro ⟨h, k⟩; exact ⟨Or.inl h, k⟩
  · rintro ⟨h | h, k⟩
    · exact ⟨h, k⟩
    · exact absurd h k
theorem merge_comm {xs ys : List Tx} (h1 : SortedS xs) (h2 : SortedS ys) : mergeL ys xs = mergeL xs ys := by
  refine sorted_unique (merge_sorted h2 h1) (merge_sorted h1 h2) fun z => ?_
  simp only [mem_mergeL]; exact Or.comm
theorem merge_less {xs ys : List Tx} (h1 : SortedS xs) (h2 : SortedS ys) : mergeL (lessOf xs ys) ys = mergeL xs ys := by
  refine sorted_unique (merge_sorted (less_sorted h1) h2) (merge_sorted h1 h2) fun z => ?_
  simp only [mem_mergeL, mem_less]
  constructor
  · rintro (h | h); exact Or.inl h.1; exact Or.inr h
  · rintro (h | h)
    · by_cases k : z ∈ ys
      · exact Or.inr k
      · exact Or.inl ⟨h, k⟩
    · exact Or.inr h
theorem less_self (xs : List Tx) : lessOf xs xs = [] := by
  unfold lessOf; rw [List.filter_eq_nil_iff]; intro t ht; simp [ht]
set_option maxHeartbeats 3200000 in
theorem listThree_any (a : Option Addr) (na ca : Nat) (xs : List Tx) (b : Option Addr) (nb cb : Nat) (ys : List Tx) (c : Option Addr) (nc cc : Nat) (zs : List Tx) (w : World) (ha : Lst w a na ca xs) (biga : na ≤ 9223372036854775807) (sa : ∀ t ∈ xs, t.size ≤ 9223372036854775807) (hb : Lst w b nb cb ys) (bigb : nb ≤ 9223372036854775807) (sb : ∀ t ∈ ys, t.size ≤ 9223372036854775807) (hc : Lst w c nc cc zs) (bigc : nc ≤ 9223372036854775807) (sc : ∀ t ∈ zs, t.size ≤ 9223372036854775807) :
    Calls Try.prog 8 #[.slice a na ca, .slice b nb cb, .slice c nc cc] w fun e w' => e = .returned (.bool true) ∧ Below w.heap.size w w' := by
  have HX := Lib.hid ha; have Sxs := Lib.hid sa
  have lxs := ha.1.len
  clear ha sa
  have HY := Lib.hid hb; have Sys := Lib.hid sb
  have lys := hb.1.len
  clear hb sb
  have HZ := Lib.hid hc; have Szs := Lib.hid sc
  have lzs := hc.1.len
  clear hc sc
  by_cases q0 : greatB xs = true
  case pos =>
    have Gxs := Lib.hid q0
    have B0 := Lib.hid (Below.refl w.heap.size w)
    go_enter Try.func8, Try.ntmps8
    go_wp2_with fail
    refine (great_lit a na ca xs _ _ HX.out.1 (by omega) Sxs.out Gxs.out).mono ?_
    rintro e w1 ⟨rfl, hb1⟩
    replace HX := Lib.hid (HX.out.below hb1)
    replace HY := Lib.hid (HY.out.below hb1)
    replace HZ := Lib.hid (HZ.out.below hb1)
    have B1 := Lib.hid (B0.out.trans (hb1.mono B0.out.size))
    clear hb1 B0
    go_wp2_with fail
    refine (awakeL_any _).mono ?_
    rintro e w2 ⟨rfl, hb2⟩
    replace HX := Lib.hid (HX.out.below hb2)
    replace HY := Lib.hid (HY.out.below hb2)
    replace HZ := Lib.hid (HZ.out.below hb2)
    have B2 := Lib.hid (B1.out.trans (hb2.mono B1.out.size))
    clear hb2 B1
    go_wp2_with fail
    go_ret
    exact ⟨rfl, B2.out⟩
  have Gxs := Lib.hid ((Bool.not_eq_true _).mp q0)
  have Nxs := (great_no_iff.1 Gxs.out).1
  by_cases q1 : greatB ys = true
  case pos =>
    have Gys := Lib.hid q1
    have B0 := Lib.hid (Below.refl w.heap.size w)
    go_enter Try.func8, Try.ntmps8
    go_wp2_with fail
    refine (great_lit a na ca xs _ _ HX.out.1 (by omega) Sxs.out Gxs.out).mono ?_
    rintro e w1 ⟨rfl, hb1⟩
    replace HX := Lib.hid (HX.out.below hb1)
    replace HY := Lib.hid (HY.out.below hb1)
    replace HZ := Lib.hid (HZ.out.below hb1)
    have B1 := Lib.hid (B0.out.trans (hb1.mono B0.out.size))
    clear hb1 B0
    go_wp2_with fail
    refine (great_lit b nb cb ys _ _ HY.out.1 (by omega) Sys.out Gys.out).mono ?_
    rintro e w2 ⟨rfl, hb2⟩
    replace HX := Lib.hid (HX.out.below hb2)
    replace HY := Lib.hid (HY.out.below hb2)
    replace HZ := Lib.hid (HZ.out.below hb2)
    have B2 := Lib.hid (B1.out.trans (hb2.mono B1.out.size))
    clear hb2 B1
    go_wp2_with fail
    refine (awakeL_any _).mono ?_
    rintro e w3 ⟨rfl, hb3⟩
    replace HX := Lib.hid (HX.out.below hb3)
    replace HY := Lib.hid (HY.out.below hb3)
    replace HZ := Lib.hid (HZ.out.below hb3)
    have B3 := Lib.hid (B2.out.trans (hb3.mono B2.out.size))
    clear hb3 B2
    go_wp2_with fail
    go_ret
    exact ⟨rfl, B3.out⟩
  have Gys := Lib.hid ((Bool.not_eq_true _).mp q1)
  have Nys := (great_no_iff.1 Gys.out).1
  by_cases q2 : greatB zs = true
  case pos =>
    have Gzs := Lib.hid q2
    have B0 := Lib.hid (Below.refl w.heap.size w)
    go_enter Try.func8, Try.ntmps8
    go_wp2_with fail
    refine (great_lit a na ca xs _ _ HX.out.1 (by omega) Sxs.out Gxs.out).mono ?_
    rintro e w1 ⟨rfl, hb1⟩
    replace HX := Lib.hid (HX.out.below hb1)
    replace HY := Lib.hid (HY.out.below hb1)
    replace HZ := Lib.hid (HZ.out.below hb1)
    have B1 := Lib.hid (B0.out.trans (hb1.mono B0.out.size))
    clear hb1 B0
    go_wp2_with fail
    refine (great_lit b nb cb ys _ _ HY.out.1 (by omega) Sys.out Gys.out).mono ?_
    rintro e w2 ⟨rfl, hb2⟩
    replace HX := Lib.hid (HX.out.below hb2)
    replace HY := Lib.hid (HY.out.below hb2)
    replace HZ := Lib.hid (HZ.out.below hb2)
    have B2 := Lib.hid (B1.out.trans (hb2.mono B1.out.size))
    clear hb2 B1
    go_wp2_with fail
    refine (great_lit c nc cc zs _ _ HZ.out.1 (by omega) Szs.out Gzs.out).mono ?_
    rintro e w3 ⟨rfl, hb3⟩
    replace HX := Lib.hid (HX.out.below hb3)
    replace HY := Lib.hid (HY.out.below hb3)
    replace HZ := Lib.hid (HZ.out.below hb3)
    have B3 := Lib.hid (B2.out.trans (hb3.mono B2.out.size))
    clear hb3 B2
    go_wp2_with fail
    refine (awakeL_any _).mono ?_
    rintro e w4 ⟨rfl, hb4⟩
    replace HX := Lib.hid (HX.out.below hb4)
    replace HY := Lib.hid (HY.out.below hb4)
    replace HZ := Lib.hid (HZ.out.below hb4)
    have B4 := Lib.hid (B3.out.trans (hb4.mono B3.out.size))
    clear hb4 B3
    go_wp2_with fail
    go_ret
    exact ⟨rfl, B4.out⟩
  have Gzs := Lib.hid ((Bool.not_eq_true _).mp q2)
  have Nzs := (great_no_iff.1 Gzs.out).1
  by_cases q3 : goodV xs ≠ 0
  case pos =>
    obtain ⟨Vxs, hVxs⟩ : ∃ v, goodV xs = v := ⟨_, rfl⟩
    have Dxs := Lib.hid hVxs
    rw [hVxs] at q3
    have z3 : (Vxs != 0) = true := by simpa using q3
    clear hVxs
    have B0 := Lib.hid (Below.refl w.heap.size w)
    go_enter Try.func8, Try.ntmps8
    go_wp2_with fail
    refine (great_lit a na ca xs _ _ HX.out.1 (by omega) Sxs.out Gxs.out).mono ?_
    rintro e w1 ⟨rfl, hb1⟩
    replace HX := Lib.hid (HX.out.below hb1)
    replace HY := Lib.hid (HY.out.below hb1)
    replace HZ := Lib.hid (HZ.out.below hb1)
    have B1 := Lib.hid (B0.out.trans (hb1.mono B0.out.size))
    clear hb1 B0
    go_wp2_with fail
    refine (great_lit b nb cb ys _ _ HY.out.1 (by omega) Sys.out Gys.out).mono ?_
    rintro e w2 ⟨rfl, hb2⟩
    replace HX := Lib.hid (HX.out.below hb2)
    replace HY := Lib.hid (HY.out.below hb2)
    replace HZ := Lib.hid (HZ.out.below hb2)
    have B2 := Lib.hid (B1.out.trans (hb2.mono B1.out.size))
    clear hb2 B1
    go_wp2_with fail
    refine (great_lit c nc cc zs _ _ HZ.out.1 (by omega) Szs.out Gzs.out).mono ?_
    rintro e w3 ⟨rfl, hb3⟩
    replace HX := Lib.hid (HX.out.below hb3)
    replace HY := Lib.hid (HY.out.below hb3)
    replace HZ := Lib.hid (HZ.out.below hb3)
    have B3 := Lib.hid (B2.out.trans (hb3.mono B2.out.size))
    clear hb3 B2
    go_wp2_with fail
    refine (good_lit a na ca xs Vxs _ HX.out.1 (by omega) Sxs.out Dxs.out).mono ?_
    rintro e w4 ⟨rfl, hb4⟩
    replace HX := Lib.hid (HX.out.below hb4)
    replace HY := Lib.hid (HY.out.below hb4)
    replace HZ := Lib.hid (HZ.out.below hb4)
    have B4 := Lib.hid (B3.out.trans (hb4.mono B3.out.size))
    clear hb4 B3
    go_wp2_with fail
    refine (awakeL_any _).mono ?_
    rintro e w5 ⟨rfl, hb5⟩
    replace HX := Lib.hid (HX.out.below hb5)
    replace HY := Lib.hid (HY.out.below hb5)
    replace HZ := Lib.hid (HZ.out.below hb5)
    have B5 := Lib.hid (B4.out.trans (hb5.mono B4.out.size))
    clear hb5 B4
    go_wp2_with fail
    go_ret
    exact ⟨rfl, B5.out⟩
  have q3' : goodV xs = 0 := Classical.byContradiction q3
  have Dxs := Lib.hid q3'
  have z3 := Lib.hid (goodV_zero q3')
  by_cases q4 : goodV ys ≠ 0
  case pos =>
    obtain ⟨Vys, hVys⟩ : ∃ v, goodV ys = v := ⟨_, rfl⟩
    have Dys := Lib.hid hVys
    rw [hVys] at q4
    have z4 : (Vys != 0) = true := by simpa using q4
    clear hVys
    have B0 := Lib.hid (Below.refl w.heap.size w)
    go_enter Try.func8, Try.ntmps8
    go_wp2_with fail
    refine (great_lit a na ca xs _ _ HX.out.1 (by omega) Sxs.out Gxs.out).mono ?_
    rintro e w1 ⟨rfl, hb1⟩
    replace HX := Lib.hid (HX.out.below hb1)
    replace HY := Lib.hid (HY.out.below hb1)
    replace HZ := Lib.hid (HZ.out.below hb1)
    have B1 := Lib.hid (B0.out.trans (hb1.mono B0.out.size))
    clear hb1 B0
    go_wp2_with fail
    refine (great_lit b nb cb ys _ _ HY.out.1 (by omega) Sys.out Gys.out).mono ?_
    rintro e w2 ⟨rfl, hb2⟩
    replace HX := Lib.hid (HX.out.below hb2)
    replace HY := Lib.hid (HY.out.below hb2)
    replace HZ := Lib.hid (HZ.out.below hb2)
    have B2 := Lib.hid (B1.out.trans (hb2.mono B1.out.size))
    clear hb2 B1
    go_wp2_with fail
    refine (great_lit c nc cc zs _ _ HZ.out.1 (by omega) Szs.out Gzs.out).mono ?_
    rintro e w3 ⟨rfl, hb3⟩
    replace HX := Lib.hid (HX.out.below hb3)
    replace HY := Lib.hid (HY.out.below hb3)
    replace HZ := Lib.hid (HZ.out.below hb3)
    have B3 := Lib.hid (B2.out.trans (hb3.mono B2.out.size))
    clear hb3 B2
    go_wp2_with fail
    refine (good_lit a na ca xs 0 _ HX.out.1 (by omega) Sxs.out Dxs.out).mono ?_
    rintro e w4 ⟨rfl, hb4⟩
    replace HX := Lib.hid (HX.out.below hb4)
    replace HY := Lib.hid (HY.out.below hb4)
    replace HZ := Lib.hid (HZ.out.below hb4)
    have B4 := Lib.hid (B3.out.trans (hb4.mono B3.out.size))
    clear hb4 B3
    go_wp2_with fail
    refine (good_lit b nb cb ys Vys _ HY.out.1 (by omega) Sys.out Dys.out).mono ?_
    rintro e w5 ⟨rfl, hb5⟩
    replace HX := Lib.hid (HX.out.below hb5)
    replace HY := Lib.hid (HY.out.below hb5)
    replace HZ := Lib.hid (HZ.out.below hb5)
    have B5 := Lib.hid (B4.out.trans (hb5.mono B4.out.size))
    clear hb5 B4
    go_wp2_with fail
    refine (awakeL_any _).mono ?_
    rintro e w6 ⟨rfl, hb6⟩
    replace HX := Lib.hid (HX.out.below hb6)
    replace HY := Lib.hid (HY.out.below hb6)
    replace HZ := Lib.hid (HZ.out.below hb6)
    have B6 := Lib.hid (B5.out.trans (hb6.mono B5.out.size))
    clear hb6 B5
    go_wp2_with fail
    go_ret
    exact ⟨rfl, B6.out⟩
  have q4' : goodV ys = 0 := Classical.byContradiction q4
  have Dys := Lib.hid q4'
  have z4 := Lib.hid (goodV_zero q4')
  by_cases q5 : goodV zs ≠ 0
  case pos =>
    obtain ⟨Vzs, hVzs⟩ : ∃ v, goodV zs = v := ⟨_, rfl⟩
    have Dzs := Lib.hid hVzs
    rw [hVzs] at q5
    have z5 : (Vzs != 0) = true := by simpa using q5
    clear hVzs
    have B0 := Lib.hid (Below.refl w.heap.size w)
    go_enter Try.func8, Try.ntmps8
    go_wp2_with fail
    refine (great_lit a na ca xs _ _ HX.out.1 (by omega) Sxs.out Gxs.out).mono ?_
    rintro e w1 ⟨rfl, hb1⟩
    replace HX := Lib.hid (HX.out.below hb1)
    replace HY := Lib.hid (HY.out.below hb1)
    replace HZ := Lib.hid (HZ.out.below hb1)
    have B1 := Lib.hid (B0.out.trans (hb1.mono B0.out.size))
    clear hb1 B0
    go_wp2_with fail
    refine (great_lit b nb cb ys _ _ HY.out.1 (by omega) Sys.out Gys.out).mono ?_
    rintro e w2 ⟨rfl, hb2⟩
    replace HX := Lib.hid (HX.out.below hb2)
    replace HY := Lib.hid (HY.out.below hb2)
    replace HZ := Lib.hid (HZ.out.below hb2)
    have B2 := Lib.hid (B1.out.trans (hb2.mono B1.out.size))
    clear hb2 B1
    go_wp2_with fail
    refine (great_lit c nc cc zs _ _ HZ.out.1 (by omega) Szs.out Gzs.out).mono ?_
    rintro e w3 ⟨rfl, hb3⟩
    replace HX := Lib.hid (HX.out.below hb3)
    replace HY := Lib.hid (HY.out.below hb3)
    replace HZ := Lib.hid (HZ.out.below hb3)
    have B3 := Lib.hid (B2.out.trans (hb3.mono B2.out.size))
    clear hb3 B2
    go_wp2_with fail
    refine (good_lit a na ca xs 0 _ HX.out.1 (by omega) Sxs.out Dxs.out).mono ?_
    rintro e w4 ⟨rfl, hb4⟩
    replace HX := Lib.hid (HX.out.below hb4)
    replace HY := Lib.hid (HY.out.below hb4)
    replace HZ := Lib.hid (HZ.out.below hb4)
    have B4 := Lib.hid (B3.out.trans (hb4.mono B3.out.size))
    clear hb4 B3
    go_wp2_with fail
    refine (good_lit b nb cb ys 0 _ HY.out.1 (by omega) Sys.out Dys.out).mono ?_
    rintro e w5 ⟨rfl, hb5⟩
    replace HX := Lib.hid (HX.out.below hb5)
    replace HY := Lib.hid (HY.out.below hb5)
    replace HZ := Lib.hid (HZ.out.below hb5)
    have B5 := Lib.hid (B4.out.trans (hb5.mono B4.out.size))
    clear hb5 B4
    go_wp2_with fail
    refine (good_lit c nc cc zs Vzs _ HZ.out.1 (by omega) Szs.out Dzs.out).mono ?_
    rintro e w6 ⟨rfl, hb6⟩
    replace HX := Lib.hid (HX.out.below hb6)
    replace HY := Lib.hid (HY.out.below hb6)
    replace HZ := Lib.hid (HZ.out.below hb6)
    have B6 := Lib.hid (B5.out.trans (hb6.mono B5.out.size))
    clear hb6 B5
    go_wp2_with fail
    refine (awakeL_any _).mono ?_
    rintro e w7 ⟨rfl, hb7⟩
    replace HX := Lib.hid (HX.out.below hb7)
    replace HY := Lib.hid (HY.out.below hb7)
    replace HZ := Lib.hid (HZ.out.below hb7)
    have B7 := Lib.hid (B6.out.trans (hb7.mono B6.out.size))
    clear hb7 B6
    go_wp2_with fail
    go_ret
    exact ⟨rfl, B7.out⟩
  have q5' : goodV zs = 0 := Classical.byContradiction q5
  have Dzs := Lib.hid q5'
  have z5 := Lib.hid (goodV_zero q5')
  have B0 := Lib.hid (Below.refl w.heap.size w)
  have Oxs := Lib.hid z3.out.2.2; have Oys := Lib.hid z4.out.2.2; have Ozs := Lib.hid z5.out.2.2
  obtain ⟨M1, e1⟩ : ∃ M, mergeL xs ys = M := ⟨_, rfl⟩
  obtain ⟨X3, e2⟩ : ∃ M, mergeL M1 zs = M := ⟨_, rfl⟩
  obtain ⟨M2, e3⟩ : ∃ M, mergeL zs ys = M := ⟨_, rfl⟩
  have e4 : mergeL xs M2 = X3 := by rw [← e3, ← e2, ← e1]; exact three_merge Oxs.out Oys.out Ozs.out
  obtain ⟨P1, e5⟩ : ∃ M, lessOf xs ys = M := ⟨_, rfl⟩
  obtain ⟨P2, e6⟩ : ∃ M, lessOf P1 zs = M := ⟨_, rfl⟩
  obtain ⟨M3, e7⟩ : ∃ M, mergeL ys zs = M := ⟨_, rfl⟩
  have e8 : lessOf xs M3 = P2 := by rw [← e7, ← e6, ← e5]; exact three_less xs ys zs
  obtain ⟨R1, e9⟩ : ∃ M, lessOf X3 zs = M := ⟨_, rfl⟩
  have e10 : lessOf M1 zs = R1 := by rw [← e9, ← e2, ← e1]; exact three_last Oxs.out Oys.out Ozs.out
  have SM3 : Hid (SortedS M3) := Lib.hid (by rw [← e7]; exact merge_sorted Oys.out Ozs.out)
  have x1 := z3.out.1; have x2 := z4.out.1; have x3 := z5.out.1
  have y1 := merge_len e1 x1 x2; have y2 := merge_len e2 y1 x3; have y3 := merge_len e3 x3 x2; have y5 := less_len e5 x1; have y6 := less_len e6 y5; have y7 := merge_len e7 x2 x3; have y9 := less_len e9 y2
  have E1 := Lib.hid e1; have E2 := Lib.hid e2; have E3 := Lib.hid e3; have E4 := Lib.hid e4; have E5 := Lib.hid e5; have E6 := Lib.hid e6; have E7 := Lib.hid e7; have E8 := Lib.hid e8; have E9 := Lib.hid e9; have E10 := Lib.hid e10
  clear e1 e2 e3 e4 e5 e6 e7 e8 e9 e10
  go_enter Try.func8, Try.ntmps8
  go_wp2_with fail
  refine (great_lit a na ca xs _ _ HX.out.1 (by omega) Sxs.out Gxs.out).mono ?_
  rintro e w1 ⟨rfl, hb1⟩
  replace HX := Lib.hid (HX.out.below hb1)
  replace HY := Lib.hid (HY.out.below hb1)
  replace HZ := Lib.hid (HZ.out.below hb1)
  have B1 := Lib.hid (B0.out.trans (hb1.mono B0.out.size))
  clear hb1 B0
  go_wp2_with fail
  refine (great_lit b nb cb ys _ _ HY.out.1 (by omega) Sys.out Gys.out).mono ?_
  rintro e w2 ⟨rfl, hb2⟩
  replace HX := Lib.hid (HX.out.below hb2)
  replace HY := Lib.hid (HY.out.below hb2)
  replace HZ := Lib.hid (HZ.out.below hb2)
  have B2 := Lib.hid (B1.out.trans (hb2.mono B1.out.size))
  clear hb2 B1
  go_wp2_with fail
  refine (great_lit c nc cc zs _ _ HZ.out.1 (by omega) Szs.out Gzs.out).mono ?_
  rintro e w3 ⟨rfl, hb3⟩
  replace HX := Lib.hid (HX.out.below hb3)
  replace HY := Lib.hid (HY.out.below hb3)
  replace HZ := Lib.hid (HZ.out.below hb3)
  have B3 := Lib.hid (B2.out.trans (hb3.mono B2.out.size))
  clear hb3 B2
  go_wp2_with fail
  refine (good_lit a na ca xs 0 _ HX.out.1 (by omega) Sxs.out Dxs.out).mono ?_
  rintro e w4 ⟨rfl, hb4⟩
  replace HX := Lib.hid (HX.out.below hb4)
  replace HY := Lib.hid (HY.out.below hb4)
  replace HZ := Lib.hid (HZ.out.below hb4)
  have B4 := Lib.hid (B3.out.trans (hb4.mono B3.out.size))
  clear hb4 B3
  go_wp2_with fail
  refine (good_lit b nb cb ys 0 _ HY.out.1 (by omega) Sys.out Dys.out).mono ?_
  rintro e w5 ⟨rfl, hb5⟩
  replace HX := Lib.hid (HX.out.below hb5)
  replace HY := Lib.hid (HY.out.below hb5)
  replace HZ := Lib.hid (HZ.out.below hb5)
  have B5 := Lib.hid (B4.out.trans (hb5.mono B4.out.size))
  clear hb5 B4
  go_wp2_with fail
  refine (good_lit c nc cc zs 0 _ HZ.out.1 (by omega) Szs.out Dzs.out).mono ?_
  rintro e w6 ⟨rfl, hb6⟩
  replace HX := Lib.hid (HX.out.below hb6)
  replace HY := Lib.hid (HY.out.below hb6)
  replace HZ := Lib.hid (HZ.out.below hb6)
  have B6 := Lib.hid (B5.out.trans (hb6.mono B5.out.size))
  clear hb6 B5
  go_wp2_with fail
  refine (merge_lst a na ca xs b nb cb ys M1 _ _ HX.out HY.out (by omega) (by omega) E1.out rfl).mono ?_
  rintro e w7 ⟨a7, c7, rfl, o7, hb7⟩
  replace HX := Lib.hid (HX.out.below hb7)
  replace HY := Lib.hid (HY.out.below hb7)
  replace HZ := Lib.hid (HZ.out.below hb7)
  have B7 := Lib.hid (B6.out.trans (hb7.mono B6.out.size))
  clear hb7 B6
  have K1 := Lib.hid (Lst.own o7)
  clear o7
  go_wp2_with fail
  refine (merge_lst a7 M1.length c7 M1 c nc cc zs X3 _ _ K1.out HZ.out (by omega) (by omega) E2.out rfl).mono ?_
  rintro e w8 ⟨a8, c8, rfl, o8, hb8⟩
  replace HX := Lib.hid (HX.out.below hb8)
  replace HY := Lib.hid (HY.out.below hb8)
  replace HZ := Lib.hid (HZ.out.below hb8)
  replace K1 := Lib.hid (K1.out.below hb8)
  have B8 := Lib.hid (B7.out.trans (hb8.mono B7.out.size))
  clear hb8 B7
  have K2 := Lib.hid (Lst.own o8)
  clear o8
  go_wp2_with fail
  refine (merge_lst c nc cc zs b nb cb ys M2 _ _ HZ.out HY.out (by omega) (by omega) E3.out rfl).mono ?_
  rintro e w9 ⟨a9, c9, rfl, o9, hb9⟩
  replace HX := Lib.hid (HX.out.below hb9)
  replace HY := Lib.hid (HY.out.below hb9)
  replace HZ := Lib.hid (HZ.out.below hb9)
  replace K1 := Lib.hid (K1.out.below hb9)
  replace K2 := Lib.hid (K2.out.below hb9)
  have B9 := Lib.hid (B8.out.trans (hb9.mono B8.out.size))
  clear hb9 B8
  have K3 := Lib.hid (Lst.own o9)
  clear o9
  go_wp2_with fail
  refine (merge_lst a na ca xs a9 M2.length c9 M2 X3 _ _ HX.out K3.out (by omega) (by omega) E4.out rfl).mono ?_
  rintro e w10 ⟨a10, c10, rfl, o10, hb10⟩
  replace HX := Lib.hid (HX.out.below hb10)
  replace HY := Lib.hid (HY.out.below hb10)
  replace HZ := Lib.hid (HZ.out.below hb10)
  replace K1 := Lib.hid (K1.out.below hb10)
  replace K2 := Lib.hid (K2.out.below hb10)
  replace K3 := Lib.hid (K3.out.below hb10)
  have B10 := Lib.hid (B9.out.trans (hb10.mono B9.out.size))
  clear hb10 B9
  have K4 := Lib.hid (Lst.own o10)
  clear o10
  go_wp2_with fail
  refine (without_lst a na ca xs b nb cb ys P1 _ _ HX.out HY.out (by omega) (by omega) Oys.out E5.out rfl).mono ?_
  rintro e w11 ⟨a11, c11, rfl, o11, hb11⟩
  replace HX := Lib.hid (HX.out.below hb11)
  replace HY := Lib.hid (HY.out.below hb11)
  replace HZ := Lib.hid (HZ.out.below hb11)
  replace K1 := Lib.hid (K1.out.below hb11)
  replace K2 := Lib.hid (K2.out.below hb11)
  replace K3 := Lib.hid (K3.out.below hb11)
  replace K4 := Lib.hid (K4.out.below hb11)
  have B11 := Lib.hid (B10.out.trans (hb11.mono B10.out.size))
  clear hb11 B10
  have K5 := Lib.hid (Lst.own o11)
  clear o11
  go_wp2_with fail
  refine (without_lst a11 P1.length c11 P1 c nc cc zs P2 _ _ K5.out HZ.out (by omega) (by omega) Ozs.out E6.out rfl).mono ?_
  rintro e w12 ⟨a12, c12, rfl, o12, hb12⟩
  replace HX := Lib.hid (HX.out.below hb12)
  replace HY := Lib.hid (HY.out.below hb12)
  replace HZ := Lib.hid (HZ.out.below hb12)
  replace K1 := Lib.hid (K1.out.below hb12)
  replace K2 := Lib.hid (K2.out.below hb12)
  replace K3 := Lib.hid (K3.out.below hb12)
  replace K4 := Lib.hid (K4.out.below hb12)
  replace K5 := Lib.hid (K5.out.below hb12)
  have B12 := Lib.hid (B11.out.trans (hb12.mono B11.out.size))
  clear hb12 B11
  have K6 := Lib.hid (Lst.own o12)
  clear o12
  go_wp2_with fail
  refine (merge_lst b nb cb ys c nc cc zs M3 _ _ HY.out HZ.out (by omega) (by omega) E7.out rfl).mono ?_
  rintro e w13 ⟨a13, c13, rfl, o13, hb13⟩
  replace HX := Lib.hid (HX.out.below hb13)
  replace HY := Lib.hid (HY.out.below hb13)
  replace HZ := Lib.hid (HZ.out.below hb13)
  replace K1 := Lib.hid (K1.out.below hb13)
  replace K2 := Lib.hid (K2.out.below hb13)
  replace K3 := Lib.hid (K3.out.below hb13)
  replace K4 := Lib.hid (K4.out.below hb13)
  replace K5 := Lib.hid (K5.out.below hb13)
  replace K6 := Lib.hid (K6.out.below hb13)
  have B13 := Lib.hid (B12.out.trans (hb13.mono B12.out.size))
  clear hb13 B12
  have K7 := Lib.hid (Lst.own o13)
  clear o13
  go_wp2_with fail
  refine (without_lst a na ca xs a13 M3.length c13 M3 P2 _ _ HX.out K7.out (by omega) (by omega) SM3.out E8.out rfl).mono ?_
  rintro e w14 ⟨a14, c14, rfl, o14, hb14⟩
  replace HX := Lib.hid (HX.out.below hb14)
  replace HY := Lib.hid (HY.out.below hb14)
  replace HZ := Lib.hid (HZ.out.below hb14)
  replace K1 := Lib.hid (K1.out.below hb14)
  replace K2 := Lib.hid (K2.out.below hb14)
  replace K3 := Lib.hid (K3.out.below hb14)
  replace K4 := Lib.hid (K4.out.below hb14)
  replace K5 := Lib.hid (K5.out.below hb14)
  replace K6 := Lib.hid (K6.out.below hb14)
  replace K7 := Lib.hid (K7.out.below hb14)
  have B14 := Lib.hid (B13.out.trans (hb14.mono B13.out.size))
  clear hb14 B13
  have K8 := Lib.hid (Lst.own o14)
  clear o14
  go_wp2_with fail
  refine (sameTexts_yes a8 a10 X3.length c8 c10 X3 _ K2.out.1 K4.out.1 (by omega)).mono ?_
  rintro e w15 ⟨rfl, hb15⟩
  replace HX := Lib.hid (HX.out.below hb15)
  replace HY := Lib.hid (HY.out.below hb15)
  replace HZ := Lib.hid (HZ.out.below hb15)
  replace K1 := Lib.hid (K1.out.below hb15)
  replace K2 := Lib.hid (K2.out.below hb15)
  replace K3 := Lib.hid (K3.out.below hb15)
  replace K4 := Lib.hid (K4.out.below hb15)
  replace K5 := Lib.hid (K5.out.below hb15)
  replace K6 := Lib.hid (K6.out.below hb15)
  replace K7 := Lib.hid (K7.out.below hb15)
  replace K8 := Lib.hid (K8.out.below hb15)
  have B15 := Lib.hid (B14.out.trans (hb15.mono B14.out.size))
  clear hb15 B14
  go_wp2_with fail
  refine (sameTexts_yes a12 a14 P2.length c12 c14 P2 _ K6.out.1 K8.out.1 (by omega)).mono ?_
  rintro e w16 ⟨rfl, hb16⟩
  replace HX := Lib.hid (HX.out.below hb16)
  replace HY := Lib.hid (HY.out.below hb16)
  replace HZ := Lib.hid (HZ.out.below hb16)
  replace K1 := Lib.hid (K1.out.below hb16)
  replace K2 := Lib.hid (K2.out.below hb16)
  replace K3 := Lib.hid (K3.out.below hb16)
  replace K4 := Lib.hid (K4.out.below hb16)
  replace K5 := Lib.hid (K5.out.below hb16)
  replace K6 := Lib.hid (K6.out.below hb16)
  replace K7 := Lib.hid (K7.out.below hb16)
  replace K8 := Lib.hid (K8.out.below hb16)
  have B16 := Lib.hid (B15.out.trans (hb16.mono B15.out.size))
  clear hb16 B15
  go_wp2_with fail
  refine (without_lst a8 X3.length c8 X3 c nc cc zs R1 _ _ K2.out HZ.out (by omega) (by omega) Ozs.out E9.out rfl).mono ?_
  rintro e w17 ⟨a17, c17, rfl, o17, hb17⟩
  replace HX := Lib.hid (HX.out.below hb17)
  replace HY := Lib.hid (HY.out.below hb17)
  replace HZ := Lib.hid (HZ.out.below hb17)
  replace K1 := Lib.hid (K1.out.below hb17)
  replace K2 := Lib.hid (K2.out.below hb17)
  replace K3 := Lib.hid (K3.out.below hb17)
  replace K4 := Lib.hid (K4.out.below hb17)
  replace K5 := Lib.hid (K5.out.below hb17)
  replace K6 := Lib.hid (K6.out.below hb17)
  replace K7 := Lib.hid (K7.out.below hb17)
  replace K8 := Lib.hid (K8.out.below hb17)
  have B17 := Lib.hid (B16.out.trans (hb17.mono B16.out.size))
  clear hb17 B16
  have K9 := Lib.hid (Lst.own o17)
  clear o17
  go_wp2_with fail
  refine (merge_lst a na ca xs b nb cb ys M1 _ _ HX.out HY.out (by omega) (by omega) E1.out rfl).mono ?_
  rintro e w18 ⟨a18, c18, rfl, o18, hb18⟩
  replace HX := Lib.hid (HX.out.below hb18)
  replace HY := Lib.hid (HY.out.below hb18)
  replace HZ := Lib.hid (HZ.out.below hb18)
  replace K1 := Lib.hid (K1.out.below hb18)
  replace K2 := Lib.hid (K2.out.below hb18)
  replace K3 := Lib.hid (K3.out.below hb18)
  replace K4 := Lib.hid (K4.out.below hb18)
  replace K5 := Lib.hid (K5.out.below hb18)
  replace K6 := Lib.hid (K6.out.below hb18)
  replace K7 := Lib.hid (K7.out.below hb18)
  replace K8 := Lib.hid (K8.out.below hb18)
  replace K9 := Lib.hid (K9.out.below hb18)
  have B18 := Lib.hid (B17.out.trans (hb18.mono B17.out.size))
  clear hb18 B17
  have K10 := Lib.hid (Lst.own o18)
  clear o18
  go_wp2_with fail
  refine (without_lst a18 M1.length c18 M1 c nc cc zs R1 _ _ K10.out HZ.out (by omega) (by omega) Ozs.out E10.out rfl).mono ?_
  rintro e w19 ⟨a19, c19, rfl, o19, hb19⟩
  replace HX := Lib.hid (HX.out.below hb19)
  replace HY := Lib.hid (HY.out.below hb19)
  replace HZ := Lib.hid (HZ.out.below hb19)
  replace K1 := Lib.hid (K1.out.below hb19)
  replace K2 := Lib.hid (K2.out.below hb19)
  replace K3 := Lib.hid (K3.out.below hb19)
  replace K4 := Lib.hid (K4.out.below hb19)
  replace K5 := Lib.hid (K5.out.below hb19)
  replace K6 := Lib.hid (K6.out.below hb19)
  replace K7 := Lib.hid (K7.out.below hb19)
  replace K8 := Lib.hid (K8.out.below hb19)
  replace K9 := Lib.hid (K9.out.below hb19)
  replace K10 := Lib.hid (K10.out.below hb19)
  have B19 := Lib.hid (B18.out.trans (hb19.mono B18.out.size))
  clear hb19 B18
  have K11 := Lib.hid (Lst.own o19)
  clear o19
  go_wp2_with fail
  refine (sameTexts_yes a17 a19 R1.length c17 c19 R1 _ K9.out.1 K11.out.1 (by omega)).mono ?_
  rintro e w20 ⟨rfl, hb20⟩
  replace HX := Lib.hid (HX.out.below hb20)
  replace HY := Lib.hid (HY.out.below hb20)
  replace HZ := Lib.hid (HZ.out.below hb20)
  replace K1 := Lib.hid (K1.out.below hb20)
  replace K2 := Lib.hid (K2.out.below hb20)
  replace K3 := Lib.hid (K3.out.below hb20)
  replace K4 := Lib.hid (K4.out.below hb20)
  replace K5 := Lib.hid (K5.out.below hb20)
  replace K6 := Lib.hid (K6.out.below hb20)
  replace K7 := Lib.hid (K7.out.below hb20)
  replace K8 := Lib.hid (K8.out.below hb20)
  replace K9 := Lib.hid (K9.out.below hb20)
  replace K10 := Lib.hid (K10.out.below hb20)
  replace K11 := Lib.hid (K11.out.below hb20)
  have B20 := Lib.hid (B19.out.trans (hb20.mono B19.out.size))
  clear hb20 B19
  go_wp2_with fail
  refine (awakeL_any _).mono ?_
  rintro e w21 ⟨rfl, hb21⟩
  replace HX := Lib.hid (HX.out.below hb21)
  replace HY := Lib.hid (HY.out.below hb21)
  replace HZ := Lib.hid (HZ.out.below hb21)
  replace K1 := Lib.hid (K1.out.below hb21)
  replace K2 := Lib.hid (K2.out.below hb21)
  replace K3 := Lib.hid (K3.out.below hb21)
  replace K4 := Lib.hid (K4.out.below hb21)
  replace K5 := Lib.hid (K5.out.below hb21)
  replace K6 := Lib.hid (K6.out.below hb21)
  replace K7 := Lib.hid (K7.out.below hb21)
  replace K8 := Lib.hid (K8.out.below hb21)
  replace K9 := Lib.hid (K9.out.below hb21)
  replace K10 := Lib.hid (K10.out.below hb21)
  replace K11 := Lib.hid (K11.out.below hb21)
  have B21 := Lib.hid (B20.out.trans (hb21.mono B20.out.size))
  clear hb21 B20
  go_wp2_with fail
  go_ret
  exact ⟨rfl, B21.out⟩
set_option maxHeartbeats 3200000 in
theorem listParts_any (a : Option Addr) (na ca : Nat) (xs : List Tx) (b : Option Addr) (nb cb : Nat) (ys : List Tx) (s : Tx) (w : World) (hs : s.size ≤ 9223372036854775807) (ha : Lst w a na ca xs) (biga : na ≤ 9223372036854775807) (sa : ∀ t ∈ xs, t.size ≤ 9223372036854775807) (hb : Lst w b nb cb ys) (bigb : nb ≤ 9223372036854775807) (sb : ∀ t ∈ ys, t.size ≤ 9223372036854775807) :
    Calls Try.prog 6 #[.slice a na ca, .slice b nb cb, .string s] w fun e w' => e = .returned (.bool true) ∧ Below w.heap.size w w' := by
  have HX := Lib.hid ha; have Sxs := Lib.hid sa
  have lxs := ha.1.len
  clear ha sa
  have HY := Lib.hid hb; have Sys := Lib.hid sb
  have lys := hb.1.len
  clear hb sb
  by_cases q0 : greatB xs = true
  case pos =>
    have Gxs := Lib.hid q0
    have B0 := Lib.hid (Below.refl w.heap.size w)
    go_enter Try.func6, Try.ntmps6
    go_wp2_with fail
    refine (great_lit a na ca xs _ _ HX.out.1 (by omega) Sxs.out Gxs.out).mono ?_
    rintro e w1 ⟨rfl, hb1⟩
    replace HX := Lib.hid (HX.out.below hb1)
    replace HY := Lib.hid (HY.out.below hb1)
    have B1 := Lib.hid (B0.out.trans (hb1.mono B0.out.size))
    clear hb1 B0
    go_wp2_with fail
    refine (awakeL_any _).mono ?_
    rintro e w2 ⟨rfl, hb2⟩
    replace HX := Lib.hid (HX.out.below hb2)
    replace HY := Lib.hid (HY.out.below hb2)
    have B2 := Lib.hid (B1.out.trans (hb2.mono B1.out.size))
    clear hb2 B1
    go_wp2_with fail
    go_ret
    exact ⟨rfl, B2.out⟩
  have Gxs := Lib.hid ((Bool.not_eq_true _).mp q0)
  have Nxs := (great_no_iff.1 Gxs.out).1
  by_cases q1 : greatB ys = true
  case pos =>
    have Gys := Lib.hid q1
    have B0 := Lib.hid (Below.refl w.heap.size w)
    go_enter Try.func6, Try.ntmps6
    go_wp2_with fail
    refine (great_lit a na ca xs _ _ HX.out.1 (by omega) Sxs.out Gxs.out).mono ?_
    rintro e w1 ⟨rfl, hb1⟩
    replace HX := Lib.hid (HX.out.below hb1)
    replace HY := Lib.hid (HY.out.below hb1)
    have B1 := Lib.hid (B0.out.trans (hb1.mono B0.out.size))
    clear hb1 B0
    go_wp2_with fail
    refine (great_lit b nb cb ys _ _ HY.out.1 (by omega) Sys.out Gys.out).mono ?_
    rintro e w2 ⟨rfl, hb2⟩
    replace HX := Lib.hid (HX.out.below hb2)
    replace HY := Lib.hid (HY.out.below hb2)
    have B2 := Lib.hid (B1.out.trans (hb2.mono B1.out.size))
    clear hb2 B1
    go_wp2_with fail
    refine (awakeL_any _).mono ?_
    rintro e w3 ⟨rfl, hb3⟩
    replace HX := Lib.hid (HX.out.below hb3)
    replace HY := Lib.hid (HY.out.below hb3)
    have B3 := Lib.hid (B2.out.trans (hb3.mono B2.out.size))
    clear hb3 B2
    go_wp2_with fail
    go_ret
    exact ⟨rfl, B3.out⟩
  have Gys := Lib.hid ((Bool.not_eq_true _).mp q1)
  have Nys := (great_no_iff.1 Gys.out).1
  by_cases q2 : 100 < s.size
  case pos =>
    have B0 := Lib.hid (Below.refl w.heap.size w)
    go_enter Try.func6, Try.ntmps6
    go_wp2_with fail
    refine (great_lit a na ca xs _ _ HX.out.1 (by omega) Sxs.out Gxs.out).mono ?_
    rintro e w1 ⟨rfl, hb1⟩
    replace HX := Lib.hid (HX.out.below hb1)
    replace HY := Lib.hid (HY.out.below hb1)
    have B1 := Lib.hid (B0.out.trans (hb1.mono B0.out.size))
    clear hb1 B0
    go_wp2_with fail
    refine (great_lit b nb cb ys _ _ HY.out.1 (by omega) Sys.out Gys.out).mono ?_
    rintro e w2 ⟨rfl, hb2⟩
    replace HX := Lib.hid (HX.out.below hb2)
    replace HY := Lib.hid (HY.out.below hb2)
    have B2 := Lib.hid (B1.out.trans (hb2.mono B1.out.size))
    clear hb2 B1
    go_wp2_with fail
    refine (awakeL_any _).mono ?_
    rintro e w3 ⟨rfl, hb3⟩
    replace HX := Lib.hid (HX.out.below hb3)
    replace HY := Lib.hid (HY.out.below hb3)
    have B3 := Lib.hid (B2.out.trans (hb3.mono B2.out.size))
    clear hb3 B2
    go_wp2_with fail
    go_ret
    exact ⟨rfl, B3.out⟩
  have hs100 : s.size ≤ 100 := by omega
  by_cases q3 : goodV xs ≠ 0
  case pos =>
    obtain ⟨Vxs, hVxs⟩ : ∃ v, goodV xs = v := ⟨_, rfl⟩
    have Dxs := Lib.hid hVxs
    rw [hVxs] at q3
    have z3 : (Vxs != 0) = true := by simpa using q3
    clear hVxs
    have B0 := Lib.hid (Below.refl w.heap.size w)
    go_enter Try.func6, Try.ntmps6
    go_wp2_with fail
    refine (great_lit a na ca xs _ _ HX.out.1 (by omega) Sxs.out Gxs.out).mono ?_
    rintro e w1 ⟨rfl, hb1⟩
    replace HX := Lib.hid (HX.out.below hb1)
    replace HY := Lib.hid (HY.out.below hb1)
    have B1 := Lib.hid (B0.out.trans (hb1.mono B0.out.size))
    clear hb1 B0
    go_wp2_with fail
    refine (great_lit b nb cb ys _ _ HY.out.1 (by omega) Sys.out Gys.out).mono ?_
    rintro e w2 ⟨rfl, hb2⟩
    replace HX := Lib.hid (HX.out.below hb2)
    replace HY := Lib.hid (HY.out.below hb2)
    have B2 := Lib.hid (B1.out.trans (hb2.mono B1.out.size))
    clear hb2 B1
    go_wp2_with fail
    refine (good_lit a na ca xs Vxs _ HX.out.1 (by omega) Sxs.out Dxs.out).mono ?_
    rintro e w3 ⟨rfl, hb3⟩
    replace HX := Lib.hid (HX.out.below hb3)
    replace HY := Lib.hid (HY.out.below hb3)
    have B3 := Lib.hid (B2.out.trans (hb3.mono B2.out.size))
    clear hb3 B2
    go_wp2_with fail
    refine (awakeL_any _).mono ?_
    rintro e w4 ⟨rfl, hb4⟩
    replace HX := Lib.hid (HX.out.below hb4)
    replace HY := Lib.hid (HY.out.below hb4)
    have B4 := Lib.hid (B3.out.trans (hb4.mono B3.out.size))
    clear hb4 B3
    go_wp2_with fail
    go_ret
    exact ⟨rfl, B4.out⟩
  have q3' : goodV xs = 0 := Classical.byContradiction q3
  have Dxs := Lib.hid q3'
  have z3 := Lib.hid (goodV_zero q3')
  by_cases q4 : goodV ys ≠ 0
  case pos =>
    obtain ⟨Vys, hVys⟩ : ∃ v, goodV ys = v := ⟨_, rfl⟩
    have Dys := Lib.hid hVys
    rw [hVys] at q4
    have z4 : (Vys != 0) = true := by simpa using q4
    clear hVys
    have B0 := Lib.hid (Below.refl w.heap.size w)
    go_enter Try.func6, Try.ntmps6
    go_wp2_with fail
    refine (great_lit a na ca xs _ _ HX.out.1 (by omega) Sxs.out Gxs.out).mono ?_
    rintro e w1 ⟨rfl, hb1⟩
    replace HX := Lib.hid (HX.out.below hb1)
    replace HY := Lib.hid (HY.out.below hb1)
    have B1 := Lib.hid (B0.out.trans (hb1.mono B0.out.size))
    clear hb1 B0
    go_wp2_with fail
    refine (great_lit b nb cb ys _ _ HY.out.1 (by omega) Sys.out Gys.out).mono ?_
    rintro e w2 ⟨rfl, hb2⟩
    replace HX := Lib.hid (HX.out.below hb2)
    replace HY := Lib.hid (HY.out.below hb2)
    have B2 := Lib.hid (B1.out.trans (hb2.mono B1.out.size))
    clear hb2 B1
    go_wp2_with fail
    refine (good_lit a na ca xs 0 _ HX.out.1 (by omega) Sxs.out Dxs.out).mono ?_
    rintro e w3 ⟨rfl, hb3⟩
    replace HX := Lib.hid (HX.out.below hb3)
    replace HY := Lib.hid (HY.out.below hb3)
    have B3 := Lib.hid (B2.out.trans (hb3.mono B2.out.size))
    clear hb3 B2
    go_wp2_with fail
    refine (good_lit b nb cb ys Vys _ HY.out.1 (by omega) Sys.out Dys.out).mono ?_
    rintro e w4 ⟨rfl, hb4⟩
    replace HX := Lib.hid (HX.out.below hb4)
    replace HY := Lib.hid (HY.out.below hb4)
    have B4 := Lib.hid (B3.out.trans (hb4.mono B3.out.size))
    clear hb4 B3
    go_wp2_with fail
    refine (awakeL_any _).mono ?_
    rintro e w5 ⟨rfl, hb5⟩
    replace HX := Lib.hid (HX.out.below hb5)
    replace HY := Lib.hid (HY.out.below hb5)
    have B5 := Lib.hid (B4.out.trans (hb5.mono B4.out.size))
    clear hb5 B4
    go_wp2_with fail
    go_ret
    exact ⟨rfl, B5.out⟩
  have q4' : goodV ys = 0 := Classical.byContradiction q4
  have Dys := Lib.hid q4'
  have z4 := Lib.hid (goodV_zero q4')
  have B0 := Lib.hid (Below.refl w.heap.size w)
  have Oxs := Lib.hid z3.out.2.2; have Oys := Lib.hid z4.out.2.2
  obtain ⟨M1, e1⟩ : ∃ M, mergeL xs ys = M := ⟨_, rfl⟩
  have e2 : mergeL ys xs = M1 := by rw [← e1]; exact merge_comm Oxs.out Oys.out
  obtain ⟨P1, e3⟩ : ∃ M, lessOf xs ys = M := ⟨_, rfl⟩
  have e4 : mergeL P1 ys = M1 := by rw [← e3, ← e1]; exact merge_less Oxs.out Oys.out
  have e5 := less_self xs
  obtain ⟨bx, f1⟩ : ∃ b, decide (s ∈ xs) = b := ⟨_, rfl⟩
  obtain ⟨by', f2⟩ : ∃ b, decide (s ∈ ys) = b := ⟨_, rfl⟩
  have f3 : decide (s ∈ M1) = (bx || by') := by rw [← e1, ← f1, ← f2]; by_cases u1 : s ∈ xs <;> by_cases u2 : s ∈ ys <;> simp [mem_mergeL, u1, u2]
  have SM1 : Hid (SortedS M1) := Lib.hid (by rw [← e1]; exact merge_sorted Oxs.out Oys.out)
  have x1 := z3.out.1; have x2 := z4.out.1
  have y1 := merge_len e1 x1 x2; have y3 := less_len e3 x1
  have E1 := Lib.hid e1; have E2 := Lib.hid e2; have E3 := Lib.hid e3; have E4 := Lib.hid e4; have E5 := Lib.hid e5; have F1 := Lib.hid f1; have F2 := Lib.hid f2; have F3 := Lib.hid f3
  clear e1 e2 e3 e4 e5 f1 f2 f3
  go_enter Try.func6, Try.ntmps6
  go_wp2_with fail
  refine (great_lit a na ca xs _ _ HX.out.1 (by omega) Sxs.out Gxs.out).mono ?_
  rintro e w1 ⟨rfl, hb1⟩
  replace HX := Lib.hid (HX.out.below hb1)
  replace HY := Lib.hid (HY.out.below hb1)
  have B1 := Lib.hid (B0.out.trans (hb1.mono B0.out.size))
  clear hb1 B0
  go_wp2_with fail
  refine (great_lit b nb cb ys _ _ HY.out.1 (by omega) Sys.out Gys.out).mono ?_
  rintro e w2 ⟨rfl, hb2⟩
  replace HX := Lib.hid (HX.out.below hb2)
  replace HY := Lib.hid (HY.out.below hb2)
  have B2 := Lib.hid (B1.out.trans (hb2.mono B1.out.size))
  clear hb2 B1
  go_wp2_with fail
  refine (good_lit a na ca xs 0 _ HX.out.1 (by omega) Sxs.out Dxs.out).mono ?_
  rintro e w3 ⟨rfl, hb3⟩
  replace HX := Lib.hid (HX.out.below hb3)
  replace HY := Lib.hid (HY.out.below hb3)
  have B3 := Lib.hid (B2.out.trans (hb3.mono B2.out.size))
  clear hb3 B2
  go_wp2_with fail
  refine (good_lit b nb cb ys 0 _ HY.out.1 (by omega) Sys.out Dys.out).mono ?_
  rintro e w4 ⟨rfl, hb4⟩
  replace HX := Lib.hid (HX.out.below hb4)
  replace HY := Lib.hid (HY.out.below hb4)
  have B4 := Lib.hid (B3.out.trans (hb4.mono B3.out.size))
  clear hb4 B3
  go_wp2_with fail
  refine (merge_lst a na ca xs b nb cb ys M1 _ _ HX.out HY.out (by omega) (by omega) E1.out rfl).mono ?_
  rintro e w5 ⟨a5, c5, rfl, o5, hb5⟩
  replace HX := Lib.hid (HX.out.below hb5)
  replace HY := Lib.hid (HY.out.below hb5)
  have B5 := Lib.hid (B4.out.trans (hb5.mono B4.out.size))
  clear hb5 B4
  have K1 := Lib.hid (Lst.own o5)
  clear o5
  go_wp2_with fail
  refine (at_lit a na ca xs s bx _ _ HX.out.1 (by omega) Oxs.out F1.out rfl).mono ?_
  rintro e w6 ⟨rfl, rfl⟩
  go_wp2_with fail
  refine (at_lit b nb cb ys s by' _ _ HY.out.1 (by omega) Oys.out F2.out rfl).mono ?_
  rintro e w7 ⟨rfl, rfl⟩
  go_wp2_with fail
  refine (at_lit a5 M1.length c5 M1 s (bx || by') _ _ K1.out.1 (by omega) SM1.out F3.out rfl).mono ?_
  rintro e w8 ⟨rfl, rfl⟩
  go_wp2_with fail
  refine (merge_lst b nb cb ys a na ca xs M1 _ _ HY.out HX.out (by omega) (by omega) E2.out rfl).mono ?_
  rintro e w9 ⟨a9, c9, rfl, o9, hb9⟩
  replace HX := Lib.hid (HX.out.below hb9)
  replace HY := Lib.hid (HY.out.below hb9)
  replace K1 := Lib.hid (K1.out.below hb9)
  have B9 := Lib.hid (B5.out.trans (hb9.mono B5.out.size))
  clear hb9 B5
  have K2 := Lib.hid (Lst.own o9)
  clear o9
  go_wp2_with fail
  refine (sameTexts_yes a5 a9 M1.length c5 c9 M1 _ K1.out.1 K2.out.1 (by omega)).mono ?_
  rintro e w10 ⟨rfl, hb10⟩
  replace HX := Lib.hid (HX.out.below hb10)
  replace HY := Lib.hid (HY.out.below hb10)
  replace K1 := Lib.hid (K1.out.below hb10)
  replace K2 := Lib.hid (K2.out.below hb10)
  have B10 := Lib.hid (B9.out.trans (hb10.mono B9.out.size))
  clear hb10 B9
  go_wp2_with fail
  refine (without_lst a na ca xs b nb cb ys P1 _ _ HX.out HY.out (by omega) (by omega) Oys.out E3.out rfl).mono ?_
  rintro e w11 ⟨a11, c11, rfl, o11, hb11⟩
  replace HX := Lib.hid (HX.out.below hb11)
  replace HY := Lib.hid (HY.out.below hb11)
  replace K1 := Lib.hid (K1.out.below hb11)
  replace K2 := Lib.hid (K2.out.below hb11)
  have B11 := Lib.hid (B10.out.trans (hb11.mono B10.out.size))
  clear hb11 B10
  have K3 := Lib.hid (Lst.own o11)
  clear o11
  go_wp2_with fail
  refine (merge_lst a11 P1.length c11 P1 b nb cb ys M1 _ _ K3.out HY.out (by omega) (by omega) E4.out rfl).mono ?_
  rintro e w12 ⟨a12, c12, rfl, o12, hb12⟩
  replace HX := Lib.hid (HX.out.below hb12)
  replace HY := Lib.hid (HY.out.below hb12)
  replace K1 := Lib.hid (K1.out.below hb12)
  replace K2 := Lib.hid (K2.out.below hb12)
  replace K3 := Lib.hid (K3.out.below hb12)
  have B12 := Lib.hid (B11.out.trans (hb12.mono B11.out.size))
  clear hb12 B11
  have K4 := Lib.hid (Lst.own o12)
  clear o12
  go_wp2_with fail
  refine (sameTexts_yes a12 a5 M1.length c12 c5 M1 _ K4.out.1 K1.out.1 (by omega)).mono ?_
  rintro e w13 ⟨rfl, hb13⟩
  replace HX := Lib.hid (HX.out.below hb13)
  replace HY := Lib.hid (HY.out.below hb13)
  replace K1 := Lib.hid (K1.out.below hb13)
  replace K2 := Lib.hid (K2.out.below hb13)
  replace K3 := Lib.hid (K3.out.below hb13)
  replace K4 := Lib.hid (K4.out.below hb13)
  have B13 := Lib.hid (B12.out.trans (hb13.mono B12.out.size))
  clear hb13 B12
  cases bx <;> cases by'
  all_goals
    go_wp2_with fail
    refine (without_lst a na ca xs a na ca xs ([] : List Tx) _ _ HX.out HX.out (by omega) (by omega) Oxs.out E5.out rfl).mono ?_
    rintro e w14 ⟨a14, c14, rfl, o14, hb14⟩
    replace HX := Lib.hid (HX.out.below hb14)
    replace HY := Lib.hid (HY.out.below hb14)
    replace K1 := Lib.hid (K1.out.below hb14)
    replace K2 := Lib.hid (K2.out.below hb14)
    replace K3 := Lib.hid (K3.out.below hb14)
    replace K4 := Lib.hid (K4.out.below hb14)
    have B14 := Lib.hid (B13.out.trans (hb14.mono B13.out.size))
    clear hb14 B13
    have K5 := Lib.hid (Lst.own o14)
    clear o14
    go_wp2_with fail
    refine (awakeL_any _).mono ?_
    rintro e w15 ⟨rfl, hb15⟩
    replace HX := Lib.hid (HX.out.below hb15)
    replace HY := Lib.hid (HY.out.below hb15)
    replace K1 := Lib.hid (K1.out.below hb15)
    replace K2 := Lib.hid (K2.out.below hb15)
    replace K3 := Lib.hid (K3.out.below hb15)
    replace K4 := Lib.hid (K4.out.below hb15)
    replace K5 := Lib.hid (K5.out.below hb15)
    have B15 := Lib.hid (B14.out.trans (hb15.mono B14.out.size))
    clear hb15 B14
    go_wp2_with fail
    go_ret
    exact ⟨rfl, B15.out⟩
end Go.Proofs.Ytieenopbkkbecaa
