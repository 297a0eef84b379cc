/- the laws of lists that are held against the document's -/
import Derived.Test.YtieenopbkkbecaaWt5
import Derived.Test.YtieenopbkkbecaaOpT
import Derived.Test.YtieenopbkkbecaaLendTexts
import Derived.Test.YtieenopbkkbecaaOvgTexts
namespace Go.Proofs.Ytieenopbkkbecaa
open Go.RowKit
set_option linter.unusedVariables false
theorem num_any (v : Int) (w : World) : Calls Try.prog 13 #[.int .i64 v] w fun e w' => e = .returned (.int .i64 v) ∧ w = w' := by
  go_enter Try.func13, Try.ntmps13
  go_wp2
  go_ret
  exact ⟨rfl, rfl⟩
theorem small_sizes {ts : List Tx} (h : smallP ts) : (∀ t ∈ ts, t.size ≤ 1048576) := fun t ht => by have := h t ht; omega
theorem rsorted_lst (a : Option Addr) (n c : Nat) (ts zs : List Tx) (k : Nat) (w : World) (h : HoldsT w a n ts) (hn : n ≤ 1000) (hsz : ∀ t ∈ ts, t.size ≤ 1048576) (hz : canonS (wordsOf ts) = zs) (hk : zs.length = k) :
    Calls Try.prog 17 #[.slice a n c] w fun e w' => ∃ a' c', e = .returned (.slice a' k c') ∧ HoldsT w' a' k zs ∧ (a' = none → k = 0 ∧ c' = 0) ∧ Below w.heap.size w w' := by
  subst hz hk
  exact (rsorted_any a n c ts w h hn hsz).mono fun _ _ ⟨a', c', h1, h2, h3, h4⟩ => ⟨a', c', h1, h2, h3, h4⟩
theorem rmerge_lst (a : Option Addr) (n c : Nat) (xs : List Tx) (a1 : Option Addr) (n1 c1 : Nat) (ys zs : List Tx) (k : Nat) (w : World) (h : Lst w a n c xs) (h1 : Lst w a1 n1 c1 ys) (hn : n ≤ 1000) (hn1 : n1 ≤ 1000) (hsz : ∀ t ∈ xs, t.size ≤ 1048576) (hsz1 : ∀ t ∈ ys, t.size ≤ 1048576) (hs : SortedS xs) (hs1 : SortedS ys) (hz : mergeL xs ys = zs) (hk : zs.length = k) :
    Calls Try.prog 24 #[.slice a n c, .slice a1 n1 c1] w fun e w' => ∃ a' c', e = .returned (.slice a' k c') ∧ HoldsT w' a' k zs ∧ (a' = none → k = 0 ∧ c' = 0) ∧ Below w.heap.size w w' := by
  have he : canonS (xs ++ ys) = zs := by
    rw [← hz]
    refine (canon_of (merge_sorted hs hs1) fun z => ?_).symm
    rw [mem_mergeL, List.mem_append]
  subst hk
  have := rmerge_any a n c xs a1 n1 c1 ys w h.1 h.2.1 h1.1 hn hn1 hsz hsz1 hs
  rw [he] at this
  exact this.mono fun _ _ ⟨a', c', h1, h2, h3, h4⟩ => ⟨a', c', h1, h2, h3, h4⟩
theorem rwithout_lst (a : Option Addr) (n c : Nat) (xs : List Tx) (a1 : Option Addr) (n1 c1 : Nat) (ys zs : List Tx) (k : Nat) (w : World) (h : Lst w a n c xs) (h1 : Lst w a1 n1 c1 ys) (hn : n ≤ 1000) (hn1 : n1 ≤ 1000) (hsz : ∀ t ∈ xs, t.size ≤ 1048576) (hsz1 : ∀ t ∈ ys, t.size ≤ 1048576) (hs1 : SortedS ys) (hz : lessOf xs ys = zs) (hk : zs.length = k) :
    Calls Try.prog 25 #[.slice a n c, .slice a1 n1 c1] w fun e w' => ∃ a' c', e = .returned (.slice a' k c') ∧ HoldsT w' a' k zs ∧ (a' = none → k = 0 ∧ c' = 0) ∧ Below w.heap.size w w' := by
  subst hz hk
  exact (rwithout_any a n c xs a1 n1 c1 ys w h.1 h1.1 hn hn1 hsz hsz1 hs1).mono fun _ _ ⟨a', c', h1, h2, h3, h4⟩ => ⟨a', c', h1, h2, h3, h4⟩
abbrev lentS : Value := .string ⟨#[108, 101, 110, 116]⟩
theorem lend_lst (a : Option Addr) (n c : Nat) (ts : List Tx) (w : World) (h : Lst w a n c ts) (hn : n ≤ 1048576) :
    Calls Try.prog 11 #[.slice a n c] w fun e w' => e = .returned (.slice (some ⟨w.heap.size, 0, none⟩) n (n + 3)) ∧ Below w.heap.size w w' ∧ Roomy w' w.heap.size 9 lentS n (strsV ts) 3 :=
  lendTexts_any a n c (strsV ts) w h.1 h.2.1 hn (strsV_one _)
theorem Roomy.lst {w : World} {B n : Nat} {ts : List Tx} (hl : ts.length = n) (h : Roomy w B 9 lentS n (strsV ts) 3) : Lst w (some ⟨B, 0, none⟩) n (n + 3) ts := ⟨roomy_holdsT hl h, some_none _, by omega⟩
theorem owns_spared {w w' : World} {base base2 : Nat} {e e2 : TypeId} {v v2 : Value} {n m : Nat} {xs ys : List Value} (h : w.ownsRow base e 1 v n xs) (hg : w.grownBy w' v2.ownBlock) (hne : ∀ b, v.ownBlock = some b → v2.ownBlock ≠ some b) : w'.ownsRow base e 1 v n xs := by
  refine ⟨h.1, ?_⟩
  rcases h.2 with h0 | ⟨g, cap, cur, hv, hg2, hh, r⟩
  · exact Or.inl h0
  · exact Or.inr ⟨g, cap, cur, hv, hg2, by rw [hg.block g (Array.getElem?_eq_some_iff.1 hh).1 (fun e => hne g (by rw [hv]; rfl) e.symm)]; exact hh, r⟩
set_option maxHeartbeats 3200000 in
theorem listGood_any (a : Option Addr) (na ca : Nat) (xs : List Tx) (w : World) (ha : Lst w a na ca xs) (biga : na ≤ 9223372036854775807) (sa : ∀ t ∈ xs, t.size ≤ 9223372036854775807) :
    Calls Try.prog 3 #[.slice a na ca] w fun e w' => e = .returned (.bool true) ∧ Below w.heap.size w w' := by
  have HX := Lib.hid ha; have Sxs := Lib.hid sa
  have lxs := ha.1.len
  clear ha sa
  by_cases q0 : greatB xs = true
  case pos =>
    have Gxs := Lib.hid q0
    have B0 := Lib.hid (Below.refl w.heap.size w)
    go_enter Try.func3, Try.ntmps3
    go_wp2_with fail
    refine (great_lit a na ca xs _ _ HX.out.1 (by omega) Sxs.out Gxs.out).mono ?_
    rintro e w1 ⟨rfl, hb1⟩
    replace HX := Lib.hid (HX.out.below hb1)
    have B1 := Lib.hid (B0.out.trans (hb1.mono B0.out.size))
    clear hb1 B0
    go_wp2_with fail
    refine (awakeL_any _).mono ?_
    rintro e w2 ⟨rfl, hb2⟩
    replace HX := Lib.hid (HX.out.below hb2)
    have B2 := Lib.hid (B1.out.trans (hb2.mono B1.out.size))
    clear hb2 B1
    go_wp2_with fail
    go_ret
    exact ⟨rfl, B2.out⟩
  have Gxs := Lib.hid ((Bool.not_eq_true _).mp q0)
  have Nxs := (great_no_iff.1 Gxs.out).1
  have B0 := Lib.hid (Below.refl w.heap.size w)
  obtain ⟨Z, e1⟩ : ∃ M, canonS (wordsOf xs) = M := ⟨_, rfl⟩
  obtain ⟨k, ek⟩ : ∃ k, Z.length = k := ⟨_, rfl⟩
  obtain ⟨V, dv⟩ : ∃ v, goodV xs = v := ⟨_, rfl⟩
  have SZ := Lib.hid (small_sizes (great_no_iff.1 Gxs.out).2)
  have vv : (V == V) = true := by simp
  have kn : k ≤ na := by have h1 := canon_len (wordsOf xs); have h2 := wordsOf_len xs; rw [e1, ek] at h1; omega
  have E1 := Lib.hid e1; have EK := Lib.hid ek; have DV := Lib.hid dv
  clear e1 ek dv
  go_enter Try.func3, Try.ntmps3
  go_wp2_with fail
  refine (great_lit a na ca xs _ _ HX.out.1 (by omega) Sxs.out Gxs.out).mono ?_
  rintro e w1 ⟨rfl, hb1⟩
  replace HX := Lib.hid (HX.out.below hb1)
  have B1 := Lib.hid (B0.out.trans (hb1.mono B0.out.size))
  clear hb1 B0
  go_wp2_with fail
  refine (lend_lst a na ca xs _ HX.out (by omega)).mono ?_
  rintro e w2 ⟨rfl, hb2, o2⟩
  replace HX := Lib.hid (HX.out.below hb2)
  have B2 := Lib.hid (B1.out.trans (hb2.mono B1.out.size))
  clear hb2 B1
  have RR := Lib.hid o2
  clear o2
  have HX2 := HX; have RR2 := RR
  have BL := B2
  have C := Lib.hid (Below.refl w2.heap.size w2)
  go_wp2_with fail
  refine (sorted_lst (some ⟨w1.heap.size, 0, none⟩) na (na + 3) xs Z k _ (RR.out.lst lxs) (by omega) Sxs.out E1.out EK.out).mono ?_
  rintro e w3 ⟨a3, c3, rfl, o3, hb3⟩
  replace C := Lib.hid (C.out.trans (hb3.mono C.out.size))
  replace HX := Lib.hid (HX.out.below hb3)
  replace RR := Lib.hid (RR.out.below hb3)
  have B3 := Lib.hid (B2.out.trans (hb3.mono B2.out.size))
  clear hb3 B2
  have K1 := Lib.hid (Lst.own o3)
  have O1 := Lib.hid o3
  clear o3
  go_wp2_with fail
  refine (good_lit (some ⟨w1.heap.size, 0, none⟩) na (na + 3) xs V _ (RR.out.lst lxs).1 (by omega) Sxs.out DV.out).mono ?_
  rintro e w4 ⟨rfl, hb4⟩
  replace C := Lib.hid (C.out.trans (hb4.mono C.out.size))
  replace HX := Lib.hid (HX.out.below hb4)
  replace RR := Lib.hid (RR.out.below hb4)
  replace K1 := Lib.hid (K1.out.below hb4)
  replace O1 := Lib.hid (owns_below O1.out hb4)
  have B4 := Lib.hid (B3.out.trans (hb4.mono B3.out.size))
  clear hb4 B3
  go_wp2_with fail
  refine (num_any V _).mono ?_
  rintro e w5 ⟨rfl, rfl⟩
  go_wp2_with fail
  refine (rgood_lit a na ca xs V _ HX.out.1 (by omega) SZ.out DV.out).mono ?_
  rintro e w6 ⟨rfl, hb6⟩
  replace C := Lib.hid (C.out.trans (hb6.mono C.out.size))
  replace HX := Lib.hid (HX.out.below hb6)
  replace RR := Lib.hid (RR.out.below hb6)
  replace K1 := Lib.hid (K1.out.below hb6)
  replace O1 := Lib.hid (owns_below O1.out hb6)
  have B6 := Lib.hid (B4.out.trans (hb6.mono B4.out.size))
  clear hb6 B4
  go_wp2_with fail
  refine (rsorted_lst a na ca xs Z k _ HX.out.1 (by omega) SZ.out E1.out EK.out).mono ?_
  rintro e w7 ⟨a7, c7, rfl, o7, n7, hb7⟩
  replace C := Lib.hid (C.out.trans (hb7.mono C.out.size))
  replace HX := Lib.hid (HX.out.below hb7)
  replace RR := Lib.hid (RR.out.below hb7)
  replace K1 := Lib.hid (K1.out.below hb7)
  replace O1 := Lib.hid (owns_below O1.out hb7)
  have B7 := Lib.hid (B6.out.trans (hb7.mono B6.out.size))
  clear hb7 B6
  have K2 := Lib.hid o7
  clear o7 n7
  go_wp2_with fail
  refine (sameTexts_yes a3 a7 k c3 c7 Z _ K1.out.1 K2.out (by omega)).mono ?_
  rintro e w8 ⟨rfl, hb8⟩
  replace C := Lib.hid (C.out.trans (hb8.mono C.out.size))
  replace HX := Lib.hid (HX.out.below hb8)
  replace RR := Lib.hid (RR.out.below hb8)
  replace K1 := Lib.hid (K1.out.below hb8)
  replace O1 := Lib.hid (owns_below O1.out hb8)
  have B8 := Lib.hid (B7.out.trans (hb8.mono B7.out.size))
  clear hb8 B7
  go_wp2_with fail
  refine (keptTexts_yes w1.heap.size 9 na xs a ca _ lxs RR.out HX.out.1 (by omega)).mono ?_
  rintro e w9 ⟨rfl, hb9⟩
  replace C := Lib.hid (C.out.trans (hb9.mono C.out.size))
  replace HX := Lib.hid (HX.out.below hb9)
  replace RR := Lib.hid (RR.out.below hb9)
  replace K1 := Lib.hid (K1.out.below hb9)
  replace O1 := Lib.hid (owns_below O1.out hb9)
  have B9 := Lib.hid (B8.out.trans (hb9.mono B8.out.size))
  clear hb9 B8
  go_wp2_with fail
  refine (ovgTexts_any w2.heap.size a3 k c3 _ _ O1.out C.out.size (by omega)).mono ?_
  rintro e w10 ⟨rfl, hb10, hg10⟩
  have C2 := Lib.hid (C.out.trans hb10)
  have B10 := Lib.hid (B9.out.trans (hb10.mono (Nat.le_trans BL.out.size (Nat.le_refl _))))
  replace HX := Lib.hid (HX2.out.below C2.out)
  replace RR := Lib.hid (RR2.out.below C2.out)
  clear hb10 hg10 B9 O1 K1 C
  go_wp2_with fail
  refine (keptTexts_yes w1.heap.size 9 na xs a ca _ lxs RR.out HX.out.1 (by omega)).mono ?_
  rintro e w11 ⟨rfl, hb11⟩
  replace HX := Lib.hid (HX.out.below hb11)
  replace RR := Lib.hid (RR.out.below hb11)
  have B11 := Lib.hid (B10.out.trans (hb11.mono B10.out.size))
  clear hb11 B10
  go_wp2_with fail
  refine (awakeL_any _).mono ?_
  rintro e w12 ⟨rfl, hb12⟩
  replace HX := Lib.hid (HX.out.below hb12)
  replace RR := Lib.hid (RR.out.below hb12)
  have B12 := Lib.hid (B11.out.trans (hb12.mono B11.out.size))
  clear hb12 B11
  go_wp2_with fail
  go_ret
  exact ⟨rfl, B12.out⟩
set_option maxHeartbeats 3200000 in
theorem listJoins_any (a : Option Addr) (na ca : Nat) (xs : List Tx) (b : Option Addr) (nb cb : Nat) (ys : List Tx) (s : Tx) (w : World) (hs : s.size ≤ 9223372036854775807) (ha : Lst w a na ca xs) (biga : na ≤ 9223372036854775807) (sa : ∀ t ∈ xs, t.size ≤ 9223372036854775807) (hb : Lst w b nb cb ys) (bigb : nb ≤ 9223372036854775807) (sb : ∀ t ∈ ys, t.size ≤ 9223372036854775807) :
    Calls Try.prog 4 #[.slice a na ca, .slice b nb cb, .string s] w fun e w' => e = .returned (.bool true) ∧ Below w.heap.size w w' := by
  have HX := Lib.hid ha; have Sxs := Lib.hid sa
  have lxs := ha.1.len
  clear ha sa
  have HY := Lib.hid hb; have Sys := Lib.hid sb
  have lys := hb.1.len
  clear hb sb
  by_cases q0 : greatB xs = true
  case pos =>
    have Gxs := Lib.hid q0
    have B0 := Lib.hid (Below.refl w.heap.size w)
    go_enter Try.func4, Try.ntmps4
    go_wp2_with fail
    refine (great_lit a na ca xs _ _ HX.out.1 (by omega) Sxs.out Gxs.out).mono ?_
    rintro e w1 ⟨rfl, hb1⟩
    replace HX := Lib.hid (HX.out.below hb1)
    replace HY := Lib.hid (HY.out.below hb1)
    have B1 := Lib.hid (B0.out.trans (hb1.mono B0.out.size))
    clear hb1 B0
    go_wp2_with fail
    refine (awakeL_any _).mono ?_
    rintro e w2 ⟨rfl, hb2⟩
    replace HX := Lib.hid (HX.out.below hb2)
    replace HY := Lib.hid (HY.out.below hb2)
    have B2 := Lib.hid (B1.out.trans (hb2.mono B1.out.size))
    clear hb2 B1
    go_wp2_with fail
    go_ret
    exact ⟨rfl, B2.out⟩
  have Gxs := Lib.hid ((Bool.not_eq_true _).mp q0)
  have Nxs := (great_no_iff.1 Gxs.out).1
  by_cases q1 : greatB ys = true
  case pos =>
    have Gys := Lib.hid q1
    have B0 := Lib.hid (Below.refl w.heap.size w)
    go_enter Try.func4, Try.ntmps4
    go_wp2_with fail
    refine (great_lit a na ca xs _ _ HX.out.1 (by omega) Sxs.out Gxs.out).mono ?_
    rintro e w1 ⟨rfl, hb1⟩
    replace HX := Lib.hid (HX.out.below hb1)
    replace HY := Lib.hid (HY.out.below hb1)
    have B1 := Lib.hid (B0.out.trans (hb1.mono B0.out.size))
    clear hb1 B0
    go_wp2_with fail
    refine (great_lit b nb cb ys _ _ HY.out.1 (by omega) Sys.out Gys.out).mono ?_
    rintro e w2 ⟨rfl, hb2⟩
    replace HX := Lib.hid (HX.out.below hb2)
    replace HY := Lib.hid (HY.out.below hb2)
    have B2 := Lib.hid (B1.out.trans (hb2.mono B1.out.size))
    clear hb2 B1
    go_wp2_with fail
    refine (awakeL_any _).mono ?_
    rintro e w3 ⟨rfl, hb3⟩
    replace HX := Lib.hid (HX.out.below hb3)
    replace HY := Lib.hid (HY.out.below hb3)
    have B3 := Lib.hid (B2.out.trans (hb3.mono B2.out.size))
    clear hb3 B2
    go_wp2_with fail
    go_ret
    exact ⟨rfl, B3.out⟩
  have Gys := Lib.hid ((Bool.not_eq_true _).mp q1)
  have Nys := (great_no_iff.1 Gys.out).1
  by_cases q2 : 100 < s.size
  case pos =>
    have B0 := Lib.hid (Below.refl w.heap.size w)
    go_enter Try.func4, Try.ntmps4
    go_wp2_with fail
    refine (great_lit a na ca xs _ _ HX.out.1 (by omega) Sxs.out Gxs.out).mono ?_
    rintro e w1 ⟨rfl, hb1⟩
    replace HX := Lib.hid (HX.out.below hb1)
    replace HY := Lib.hid (HY.out.below hb1)
    have B1 := Lib.hid (B0.out.trans (hb1.mono B0.out.size))
    clear hb1 B0
    go_wp2_with fail
    refine (great_lit b nb cb ys _ _ HY.out.1 (by omega) Sys.out Gys.out).mono ?_
    rintro e w2 ⟨rfl, hb2⟩
    replace HX := Lib.hid (HX.out.below hb2)
    replace HY := Lib.hid (HY.out.below hb2)
    have B2 := Lib.hid (B1.out.trans (hb2.mono B1.out.size))
    clear hb2 B1
    go_wp2_with fail
    refine (awakeL_any _).mono ?_
    rintro e w3 ⟨rfl, hb3⟩
    replace HX := Lib.hid (HX.out.below hb3)
    replace HY := Lib.hid (HY.out.below hb3)
    have B3 := Lib.hid (B2.out.trans (hb3.mono B2.out.size))
    clear hb3 B2
    go_wp2_with fail
    go_ret
    exact ⟨rfl, B3.out⟩
  have hs100 : s.size ≤ 100 := by omega
  have Qxs := Lib.hid (small_sizes (great_no_iff.1 Gxs.out).2)
  have Qys := Lib.hid (small_sizes (great_no_iff.1 Gys.out).2)
  by_cases q3 : goodV xs ≠ 0
  case pos =>
    obtain ⟨Vxs, hVxs⟩ : ∃ v, goodV xs = v := ⟨_, rfl⟩
    have Dxs := Lib.hid hVxs
    rw [hVxs] at q3
    have z3 : (Vxs != 0) = true := by simpa using q3
    clear hVxs
    have B0 := Lib.hid (Below.refl w.heap.size w)
    go_enter Try.func4, Try.ntmps4
    go_wp2_with fail
    refine (great_lit a na ca xs _ _ HX.out.1 (by omega) Sxs.out Gxs.out).mono ?_
    rintro e w1 ⟨rfl, hb1⟩
    replace HX := Lib.hid (HX.out.below hb1)
    replace HY := Lib.hid (HY.out.below hb1)
    have B1 := Lib.hid (B0.out.trans (hb1.mono B0.out.size))
    clear hb1 B0
    go_wp2_with fail
    refine (great_lit b nb cb ys _ _ HY.out.1 (by omega) Sys.out Gys.out).mono ?_
    rintro e w2 ⟨rfl, hb2⟩
    replace HX := Lib.hid (HX.out.below hb2)
    replace HY := Lib.hid (HY.out.below hb2)
    have B2 := Lib.hid (B1.out.trans (hb2.mono B1.out.size))
    clear hb2 B1
    go_wp2_with fail
    refine (rgood_lit a na ca xs Vxs _ HX.out.1 (by omega) Qxs.out Dxs.out).mono ?_
    rintro e w3 ⟨rfl, hb3⟩
    replace HX := Lib.hid (HX.out.below hb3)
    replace HY := Lib.hid (HY.out.below hb3)
    have B3 := Lib.hid (B2.out.trans (hb3.mono B2.out.size))
    clear hb3 B2
    go_wp2_with fail
    refine (awakeL_any _).mono ?_
    rintro e w4 ⟨rfl, hb4⟩
    replace HX := Lib.hid (HX.out.below hb4)
    replace HY := Lib.hid (HY.out.below hb4)
    have B4 := Lib.hid (B3.out.trans (hb4.mono B3.out.size))
    clear hb4 B3
    go_wp2_with fail
    go_ret
    exact ⟨rfl, B4.out⟩
  have q3' : goodV xs = 0 := Classical.byContradiction q3
  have Dxs := Lib.hid q3'
  have z3 := Lib.hid (goodV_zero q3')
  by_cases q4 : goodV ys ≠ 0
  case pos =>
    obtain ⟨Vys, hVys⟩ : ∃ v, goodV ys = v := ⟨_, rfl⟩
    have Dys := Lib.hid hVys
    rw [hVys] at q4
    have z4 : (Vys != 0) = true := by simpa using q4
    clear hVys
    have B0 := Lib.hid (Below.refl w.heap.size w)
    go_enter Try.func4, Try.ntmps4
    go_wp2_with fail
    refine (great_lit a na ca xs _ _ HX.out.1 (by omega) Sxs.out Gxs.out).mono ?_
    rintro e w1 ⟨rfl, hb1⟩
    replace HX := Lib.hid (HX.out.below hb1)
    replace HY := Lib.hid (HY.out.below hb1)
    have B1 := Lib.hid (B0.out.trans (hb1.mono B0.out.size))
    clear hb1 B0
    go_wp2_with fail
    refine (great_lit b nb cb ys _ _ HY.out.1 (by omega) Sys.out Gys.out).mono ?_
    rintro e w2 ⟨rfl, hb2⟩
    replace HX := Lib.hid (HX.out.below hb2)
    replace HY := Lib.hid (HY.out.below hb2)
    have B2 := Lib.hid (B1.out.trans (hb2.mono B1.out.size))
    clear hb2 B1
    go_wp2_with fail
    refine (rgood_lit a na ca xs 0 _ HX.out.1 (by omega) Qxs.out Dxs.out).mono ?_
    rintro e w3 ⟨rfl, hb3⟩
    replace HX := Lib.hid (HX.out.below hb3)
    replace HY := Lib.hid (HY.out.below hb3)
    have B3 := Lib.hid (B2.out.trans (hb3.mono B2.out.size))
    clear hb3 B2
    go_wp2_with fail
    refine (rgood_lit b nb cb ys Vys _ HY.out.1 (by omega) Qys.out Dys.out).mono ?_
    rintro e w4 ⟨rfl, hb4⟩
    replace HX := Lib.hid (HX.out.below hb4)
    replace HY := Lib.hid (HY.out.below hb4)
    have B4 := Lib.hid (B3.out.trans (hb4.mono B3.out.size))
    clear hb4 B3
    go_wp2_with fail
    refine (awakeL_any _).mono ?_
    rintro e w5 ⟨rfl, hb5⟩
    replace HX := Lib.hid (HX.out.below hb5)
    replace HY := Lib.hid (HY.out.below hb5)
    have B5 := Lib.hid (B4.out.trans (hb5.mono B4.out.size))
    clear hb5 B4
    go_wp2_with fail
    go_ret
    exact ⟨rfl, B5.out⟩
  have q4' : goodV ys = 0 := Classical.byContradiction q4
  have Dys := Lib.hid q4'
  have z4 := Lib.hid (goodV_zero q4')
  have B0 := Lib.hid (Below.refl w.heap.size w)
  have Oxs := Lib.hid z3.out.2.2; have Oys := Lib.hid z4.out.2.2
  obtain ⟨M1, e1⟩ : ∃ M, mergeL xs ys = M := ⟨_, rfl⟩
  obtain ⟨P1, e2⟩ : ∃ M, lessOf xs ys = M := ⟨_, rfl⟩
  obtain ⟨bx, f1⟩ : ∃ b, decide (s ∈ xs) = b := ⟨_, rfl⟩
  obtain ⟨j, f2⟩ : ∃ j, atN xs s = j := ⟨_, rfl⟩
  have x1 := z3.out.1; have x2 := z4.out.1
  have y1 := merge_len e1 x1 x2; have y2 := less_len e2 x1
  obtain ⟨k1, ek1⟩ : ∃ k, M1.length = k := ⟨_, rfl⟩
  obtain ⟨k2, ek2⟩ : ∃ k, P1.length = k := ⟨_, rfl⟩
  rw [ek1] at y1; rw [ek2] at y2
  have jj : ((j : Int) == (j : Int)) = true := by simp
  have bb : (bx == bx) = true := by simp
  have E1 := Lib.hid e1; have E2 := Lib.hid e2; have EK1 := Lib.hid ek1; have EK2 := Lib.hid ek2; have F1 := Lib.hid f1; have F2 := Lib.hid f2
  clear e1 e2 ek1 ek2 f1 f2
  go_enter Try.func4, Try.ntmps4
  go_wp2_with fail
  refine (great_lit a na ca xs _ _ HX.out.1 (by omega) Sxs.out Gxs.out).mono ?_
  rintro e w1 ⟨rfl, hb1⟩
  replace HX := Lib.hid (HX.out.below hb1)
  replace HY := Lib.hid (HY.out.below hb1)
  have B1 := Lib.hid (B0.out.trans (hb1.mono B0.out.size))
  clear hb1 B0
  go_wp2_with fail
  refine (great_lit b nb cb ys _ _ HY.out.1 (by omega) Sys.out Gys.out).mono ?_
  rintro e w2 ⟨rfl, hb2⟩
  replace HX := Lib.hid (HX.out.below hb2)
  replace HY := Lib.hid (HY.out.below hb2)
  have B2 := Lib.hid (B1.out.trans (hb2.mono B1.out.size))
  clear hb2 B1
  go_wp2_with fail
  refine (rgood_lit a na ca xs 0 _ HX.out.1 (by omega) Qxs.out Dxs.out).mono ?_
  rintro e w3 ⟨rfl, hb3⟩
  replace HX := Lib.hid (HX.out.below hb3)
  replace HY := Lib.hid (HY.out.below hb3)
  have B3 := Lib.hid (B2.out.trans (hb3.mono B2.out.size))
  clear hb3 B2
  go_wp2_with fail
  refine (rgood_lit b nb cb ys 0 _ HY.out.1 (by omega) Qys.out Dys.out).mono ?_
  rintro e w4 ⟨rfl, hb4⟩
  replace HX := Lib.hid (HX.out.below hb4)
  replace HY := Lib.hid (HY.out.below hb4)
  have B4 := Lib.hid (B3.out.trans (hb4.mono B3.out.size))
  clear hb4 B3
  go_wp2_with fail
  refine (lend_lst a na ca xs _ HX.out (by omega)).mono ?_
  rintro e w5 ⟨rfl, hb5, o5⟩
  replace HX := Lib.hid (HX.out.below hb5)
  replace HY := Lib.hid (HY.out.below hb5)
  have B5 := Lib.hid (B4.out.trans (hb5.mono B4.out.size))
  clear hb5 B4
  have RX := Lib.hid o5
  clear o5
  go_wp2_with fail
  refine (lend_lst b nb cb ys _ HY.out (by omega)).mono ?_
  rintro e w6 ⟨rfl, hb6, o6⟩
  replace HX := Lib.hid (HX.out.below hb6)
  replace HY := Lib.hid (HY.out.below hb6)
  replace RX := Lib.hid (RX.out.below hb6)
  have B6 := Lib.hid (B5.out.trans (hb6.mono B5.out.size))
  clear hb6 B5
  have RY := Lib.hid o6
  clear o6
  have HX2 := HX; have HY2 := HY; have RX2 := RX; have RY2 := RY
  have BL := B6
  have C := Lib.hid (Below.refl w6.heap.size w6)
  go_wp2_with fail
  refine (merge_lst (some ⟨w4.heap.size, 0, none⟩) na (na + 3) xs (some ⟨w5.heap.size, 0, none⟩) nb (nb + 3) ys M1 k1 _ (RX.out.lst lxs) (RY.out.lst lys) (by omega) (by omega) E1.out EK1.out).mono ?_
  rintro e w7 ⟨a7, c7, rfl, o7, hb7⟩
  replace C := Lib.hid (C.out.trans (hb7.mono C.out.size))
  replace HX := Lib.hid (HX.out.below hb7)
  replace HY := Lib.hid (HY.out.below hb7)
  replace RX := Lib.hid (RX.out.below hb7)
  replace RY := Lib.hid (RY.out.below hb7)
  have B7 := Lib.hid (B6.out.trans (hb7.mono B6.out.size))
  clear hb7 B6
  have K1 := Lib.hid (Lst.own o7)
  have O1 := Lib.hid o7
  clear o7
  have CM := C
  have O1M := O1
  have D := Lib.hid (Below.refl w7.heap.size w7)
  go_wp2_with fail
  refine (without_lst (some ⟨w4.heap.size, 0, none⟩) na (na + 3) xs (some ⟨w5.heap.size, 0, none⟩) nb (nb + 3) ys P1 k2 _ (RX.out.lst lxs) (RY.out.lst lys) (by omega) (by omega) Oys.out E2.out EK2.out).mono ?_
  rintro e w8 ⟨a8, c8, rfl, o8, hb8⟩
  replace C := Lib.hid (C.out.trans (hb8.mono C.out.size))
  replace D := Lib.hid (D.out.trans (hb8.mono D.out.size))
  replace HX := Lib.hid (HX.out.below hb8)
  replace HY := Lib.hid (HY.out.below hb8)
  replace RX := Lib.hid (RX.out.below hb8)
  replace RY := Lib.hid (RY.out.below hb8)
  replace K1 := Lib.hid (K1.out.below hb8)
  replace O1 := Lib.hid (owns_below O1.out hb8)
  have B8 := Lib.hid (B7.out.trans (hb8.mono B7.out.size))
  clear hb8 B7
  have K2 := Lib.hid (Lst.own o8)
  have O2 := Lib.hid o8
  clear o8
  go_wp2_with fail
  refine (at_lit (some ⟨w4.heap.size, 0, none⟩) na (na + 3) xs s bx j _ (RX.out.lst lxs).1 (by omega) Oxs.out F1.out F2.out).mono ?_
  rintro e w9 ⟨rfl, rfl⟩
  go_wp2_with fail
  refine (rat_lit a na ca xs s bx j _ HX.out.1 (by omega) Qxs.out (by omega) Oxs.out F1.out F2.out).mono ?_
  rintro e w10 ⟨rfl, hb10⟩
  replace C := Lib.hid (C.out.trans (hb10.mono C.out.size))
  replace D := Lib.hid (D.out.trans (hb10.mono D.out.size))
  replace HX := Lib.hid (HX.out.below hb10)
  replace HY := Lib.hid (HY.out.below hb10)
  replace RX := Lib.hid (RX.out.below hb10)
  replace RY := Lib.hid (RY.out.below hb10)
  replace K1 := Lib.hid (K1.out.below hb10)
  replace K2 := Lib.hid (K2.out.below hb10)
  replace O1 := Lib.hid (owns_below O1.out hb10)
  replace O2 := Lib.hid (owns_below O2.out hb10)
  have B10 := Lib.hid (B8.out.trans (hb10.mono B8.out.size))
  clear hb10 B8
  go_wp2_with fail
  refine (rmerge_lst a na ca xs b nb cb ys M1 k1 _ HX.out HY.out (by omega) (by omega) Qxs.out Qys.out Oxs.out Oys.out E1.out EK1.out).mono ?_
  rintro e w11 ⟨a11, c11, rfl, o11, n11, hb11⟩
  replace C := Lib.hid (C.out.trans (hb11.mono C.out.size))
  replace D := Lib.hid (D.out.trans (hb11.mono D.out.size))
  replace HX := Lib.hid (HX.out.below hb11)
  replace HY := Lib.hid (HY.out.below hb11)
  replace RX := Lib.hid (RX.out.below hb11)
  replace RY := Lib.hid (RY.out.below hb11)
  replace K1 := Lib.hid (K1.out.below hb11)
  replace K2 := Lib.hid (K2.out.below hb11)
  replace O1 := Lib.hid (owns_below O1.out hb11)
  replace O2 := Lib.hid (owns_below O2.out hb11)
  have B11 := Lib.hid (B10.out.trans (hb11.mono B10.out.size))
  clear hb11 B10
  have K3 := Lib.hid o11
  clear o11 n11
  go_wp2_with fail
  refine (sameTexts_yes a7 a11 k1 c7 c11 M1 _ K1.out.1 K3.out (by omega)).mono ?_
  rintro e w12 ⟨rfl, hb12⟩
  replace C := Lib.hid (C.out.trans (hb12.mono C.out.size))
  replace D := Lib.hid (D.out.trans (hb12.mono D.out.size))
  replace HX := Lib.hid (HX.out.below hb12)
  replace HY := Lib.hid (HY.out.below hb12)
  replace RX := Lib.hid (RX.out.below hb12)
  replace RY := Lib.hid (RY.out.below hb12)
  replace K1 := Lib.hid (K1.out.below hb12)
  replace K2 := Lib.hid (K2.out.below hb12)
  replace O1 := Lib.hid (owns_below O1.out hb12)
  replace O2 := Lib.hid (owns_below O2.out hb12)
  have B12 := Lib.hid (B11.out.trans (hb12.mono B11.out.size))
  clear hb12 B11
  go_wp2_with fail
  refine (rwithout_lst a na ca xs b nb cb ys P1 k2 _ HX.out HY.out (by omega) (by omega) Qxs.out Qys.out Oys.out E2.out EK2.out).mono ?_
  rintro e w13 ⟨a13, c13, rfl, o13, n13, hb13⟩
  replace C := Lib.hid (C.out.trans (hb13.mono C.out.size))
  replace D := Lib.hid (D.out.trans (hb13.mono D.out.size))
  replace HX := Lib.hid (HX.out.below hb13)
  replace HY := Lib.hid (HY.out.below hb13)
  replace RX := Lib.hid (RX.out.below hb13)
  replace RY := Lib.hid (RY.out.below hb13)
  replace K1 := Lib.hid (K1.out.below hb13)
  replace K2 := Lib.hid (K2.out.below hb13)
  replace O1 := Lib.hid (owns_below O1.out hb13)
  replace O2 := Lib.hid (owns_below O2.out hb13)
  have B13 := Lib.hid (B12.out.trans (hb13.mono B12.out.size))
  clear hb13 B12
  have K4 := Lib.hid o13
  clear o13 n13
  go_wp2_with fail
  refine (sameTexts_yes a8 a13 k2 c8 c13 P1 _ K2.out.1 K4.out (by omega)).mono ?_
  rintro e w14 ⟨rfl, hb14⟩
  replace C := Lib.hid (C.out.trans (hb14.mono C.out.size))
  replace D := Lib.hid (D.out.trans (hb14.mono D.out.size))
  replace HX := Lib.hid (HX.out.below hb14)
  replace HY := Lib.hid (HY.out.below hb14)
  replace RX := Lib.hid (RX.out.below hb14)
  replace RY := Lib.hid (RY.out.below hb14)
  replace K1 := Lib.hid (K1.out.below hb14)
  replace K2 := Lib.hid (K2.out.below hb14)
  replace O1 := Lib.hid (owns_below O1.out hb14)
  replace O2 := Lib.hid (owns_below O2.out hb14)
  have B14 := Lib.hid (B13.out.trans (hb14.mono B13.out.size))
  clear hb14 B13
  go_wp2_with fail
  refine (ovgTexts_any w6.heap.size a7 k1 c7 _ _ O1.out C.out.size (by omega)).mono ?_
  rintro e w15 ⟨rfl, hb15, hg15⟩
  have C2 := Lib.hid (C.out.trans hb15)
  replace O2 := Lib.hid (owns_spared (base2 := 0) (e2 := 0) (m := 0) (ys := []) O2.out hg15 (fun b h1 h2 => by have h3 := (O2.out.lt b h1).1; have h4 := (O1M.out.lt b h2).2; omega))
  have CN := Lib.hid (Nat.le_trans D.out.size hb15.size)
  have B15 := Lib.hid (B14.out.trans (hb15.mono BL.out.size))
  clear hb15 hg15 B14 O1 K1 K2 C
  go_wp2_with fail
  refine (ovgTexts_any w7.heap.size a8 k2 c8 _ _ O2.out CN.out (by omega)).mono ?_
  rintro e w16 ⟨rfl, hb16, hg16⟩
  have C4 := Lib.hid (C2.out.trans (hb16.mono CM.out.size))
  have B16 := Lib.hid (B15.out.trans (hb16.mono (Nat.le_trans BL.out.size CM.out.size)))
  replace HX := Lib.hid (HX2.out.below C4.out)
  replace HY := Lib.hid (HY2.out.below C4.out)
  replace RX := Lib.hid (RX2.out.below C4.out)
  replace RY := Lib.hid (RY2.out.below C4.out)
  clear hb16 hg16 B15 O2 C2
  go_wp2_with fail
  refine (keptTexts_yes w4.heap.size 9 na xs a ca _ lxs RX.out HX.out.1 (by omega)).mono ?_
  rintro e w17 ⟨rfl, hb17⟩
  replace HX := Lib.hid (HX.out.below hb17)
  replace HY := Lib.hid (HY.out.below hb17)
  replace RX := Lib.hid (RX.out.below hb17)
  replace RY := Lib.hid (RY.out.below hb17)
  have B17 := Lib.hid (B16.out.trans (hb17.mono B16.out.size))
  clear hb17 B16
  go_wp2_with fail
  refine (keptTexts_yes w5.heap.size 9 nb ys b cb _ lys RY.out HY.out.1 (by omega)).mono ?_
  rintro e w18 ⟨rfl, hb18⟩
  replace HX := Lib.hid (HX.out.below hb18)
  replace HY := Lib.hid (HY.out.below hb18)
  replace RX := Lib.hid (RX.out.below hb18)
  replace RY := Lib.hid (RY.out.below hb18)
  have B18 := Lib.hid (B17.out.trans (hb18.mono B17.out.size))
  clear hb18 B17
  go_wp2_with fail
  refine (awakeL_any _).mono ?_
  rintro e w19 ⟨rfl, hb19⟩
  replace HX := Lib.hid (HX.out.below hb19)
  replace HY := Lib.hid (HY.out.below hb19)
  replace RX := Lib.hid (RX.out.below hb19)
  replace RY := Lib.hid (RY.out.below hb19)
  have B19 := Lib.hid (B18.out.trans (hb19.mono B18.out.size))
  clear hb19 B18
  go_wp2_with fail
  go_ret
  exact ⟨rfl, B19.out⟩
open Go.ChangeShapes Go.WideShapes Go.ChangeAt in
theorem listGood_walk {H : Type} {enc : TypeId × Value → H} (W : World) (base : Nat) (v0 : Value) (d0 : DataW H) (p0 : List MemPlace)
    (h0 : DataW.Trod enc Try.prog W 0 (fun _ => true) true 22 v0 d0 p0)
    (o0 : Value.okWide Try.prog W .any base 22 v0) :
    Calls Try.prog 3 #[v0] W fun e w' => e = .returned (.bool true) ∧ RowKit.Below W.heap.size W w' := by
  obtain ⟨a0, n0, c0, t0, rfl, x0, y0, z0, b0, s0⟩ := open_texts_arg o0 h0
  exact listGood_any a0 n0 c0 t0 W ⟨x0, y0, z0⟩ b0 s0
open Go.ChangeShapes Go.WideShapes Go.ChangeAt in
theorem listJoins_walk {H : Type} {enc : TypeId × Value → H} (W : World) (base : Nat) (v0 v1 v2 : Value) (d0 d1 d2 : DataW H) (p0 p1 p2 : List MemPlace)
    (h0 : DataW.Trod enc Try.prog W 0 (fun _ => true) true 22 v0 d0 p0) (h1 : DataW.Trod enc Try.prog W 0 (fun _ => true) true 22 v1 d1 p1) (h2 : DataW.Trod enc Try.prog W 0 (fun _ => true) true 9 v2 d2 p2)
    (o0 : Value.okWide Try.prog W .any base 22 v0) (o1 : Value.okWide Try.prog W .any base 22 v1) (o2 : Value.okWide Try.prog W .any base 9 v2) :
    Calls Try.prog 4 #[v0, v1, v2] W fun e w' => e = .returned (.bool true) ∧ RowKit.Below W.heap.size W w' := by
  obtain ⟨a0, n0, c0, t0, rfl, x0, y0, z0, b0, s0⟩ := open_texts_arg o0 h0
  obtain ⟨a1, n1, c1, t1, rfl, x1, y1, z1, b1, s1⟩ := open_texts_arg o1 h1
  obtain ⟨s2, rfl, rfl, rfl, b2⟩ := Go.ChangeMaps.open_string Try.underlying9 o2 h2
  exact listJoins_any a0 n0 c0 t0 a1 n1 c1 t1 s2 W (by unfold maxLen at b2; omega) ⟨x0, y0, z0⟩ b0 s0 ⟨x1, y1, z1⟩ b1 s1
end Go.Proofs.Ytieenopbkkbecaa
