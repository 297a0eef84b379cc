/- the law of texts read backwards -/
import Derived.Test.YtgaenkckffjcaaaPkB
import Derived.Test.YtgaenkckffjcaaaPkC
import Derived.Test.YtgaenkckffjcaaaPkA
namespace Go.Proofs.Ytgaenkckffjcaaa
open Go.RowKit
set_option linter.unusedVariables false
set_option maxRecDepth 20000
theorem rev_getD (l : List Int) (t u : Nat) (h : u + 1 + t = l.length) : l.reverse.getD t 0 = l.getD u 0 := by
  rw [List.getD_eq_getElem?_getD, List.getD_eq_getElem?_getD, List.getElem?_reverse (by omega), show l.length - 1 - t = u by omega]
theorem rev_snoc (l : List Int) (t u : Nat) (h : u + 1 + t = l.length) : runesV (l.reverse.take (t + 1)) = runesV (l.reverse.take t) ++ [Value.int .i32 (l.getD u 0)] := by
  rw [take_succ_getD l.reverse 0 t (by rw [List.length_reverse]; omega), rev_getD l t u h]
  simp [runesV]
theorem rev_holds {w : World} {base : Nat} {e : TypeId} {a : Option Addr} {n c : Nat} {l : List Int} (hl : l.length = n) (h : w.ownsRow base e 1 (.slice a n c) n (runesV (l.reverse.take n))) : HoldsI .i32 w a n l.reverse := by
  rw [List.take_of_length_le (by rw [List.length_reverse]; omega)] at h
  have hv := owns_holds h
  have hlen : l.reverse.length = n := by rw [List.length_reverse]; exact hl
  refine ⟨hlen, fun h0 => ?_⟩
  obtain ⟨b, o, hab, hc⟩ := hv.2 h0
  exact ⟨b, o, hab, fun i hi => by rw [hc i hi, runesV, getD_map_int .i32 _ i (by omega)]⟩
theorem dist_lit (q p : List Int) (a : Option Addr) (n c : Nat) (sa : Option Addr) (L sc j : Nat) (k D : Int) (w : World) (hq : q.length = n) (h : HoldsP w sa L (Au.st q p k j)) (hk : 0 ≤ k ∧ k ≤ 4) (hn : n ≤ 1048576) (hL : L ≤ 1048576) (hD : Ed.L q p n j = D) :
    Calls Try.prog 21 #[.slice a n c, .int .i64 k, .slice sa L sc] w fun e w' => e = .returned (.tuple #[.int .i64 (Au.telB (min D (k + 1)) k), .bool (Au.telO (min D (k + 1)) k)]) ∧ Below w.heap.size w w' := by
  subst hq hD
  exact dist_any a _ c sa L sc _ k _ w h (Au.st_ok hk.1) hk hn hL (Au.st_whole hk.1 j)
set_option maxHeartbeats 6400000 in
theorem autoMirror_any (q p : List Int) (a b : Option Addr) (n m ca cb : Nat) (k0 : Int) (w : World) (ha : HoldsI .i32 w a n q) (hb : HoldsI .i32 w b m p) (h63 : n ≤ 9223372036854775807) (h64 : m ≤ 9223372036854775807) :
    Calls Try.prog 8 #[.slice a n ca, .slice b m cb, .int .i64 k0] w fun e w' => e = .returned (.bool true) ∧ Below w.heap.size w w' := by
  obtain ⟨i0, hi, hz0, hz1, hz2⟩ := info_parts i32_info
  have HA := Lib.hid ha; have HB := Lib.hid hb
  clear ha hb
  by_cases h1 : 16 < n
  · clear HA HB
    go_enter Try.func8, Try.ntmps8
    go_wp2_with fail
    refine (awake_any _).mono ?_
    rintro e w' ⟨rfl, hb3⟩
    go_wp2_with fail
    go_ret
    exact ⟨rfl, hb3⟩
  by_cases h2 : 16 < m
  · clear HA HB
    go_enter Try.func8, Try.ntmps8
    go_wp2_with fail
    refine (awake_any _).mono ?_
    rintro e w' ⟨rfl, hb3⟩
    go_wp2_with fail
    go_ret
    exact ⟨rfl, hb3⟩
  have hn : n ≤ 16 := by omega
  have hm : m ≤ 16 := by omega
  have hk := low_bd k0 5 (by omega)
  have CW := Lib.hid (fun w => low_any k0 5 (by omega) (by omega) w)
  obtain ⟨k, hkv⟩ : ∃ k, lowV k0 5 = k := ⟨_, rfl⟩
  rw [hkv] at hk CW
  have HK := Lib.hid (show 0 ≤ k ∧ k ≤ 4 by omega)
  have BB := Lib.hid (Below.refl w.heap.size w)
  clear hkv hk
  go_enter Try.func8, Try.ntmps8
  go_wp2_with fail
  refine (CW.out _).mono ?_
  rintro e w1 ⟨rfl, rfl⟩
  clear CW
  go_wp2_with fail
  go_loopw [7, 9] (fun v i wr => ∃ (t : Nat) (z : Int) (a2 : Option Addr) (c2 : Nat), t ≤ n ∧ z = (n : Int) - 1 - t ∧ i = .int .i64 z ∧ v = .slice a2 t c2 ∧ Hid (wr.ownsRow w.heap.size 21 1 (.slice a2 t c2) t (runesV (q.reverse.take t))) ∧ Hid (Below w.heap.size w wr)) (fun _ i _ => (intOf i + 1).toNat)
  case atStart => exact ⟨0, (n : Int) - 1, none, 0, by omega, by omega, rfl, rfl, Lib.hid ⟨by simp [runesV], Or.inl ⟨rfl, rfl⟩⟩, BB⟩
  case round =>
    obtain ⟨t, z, a2, c2, ht, hz, rfl, rfl, hO, hB⟩ := hrel
    by_cases hlt : t < n
    · obtain ⟨u, hu⟩ : ∃ u : Nat, u + 1 + t = n := ⟨n - 1 - t, by omega⟩
      obtain rfl : z = (u : Int) := by omega
      clear hz
      obtain ⟨ba, oa, rfl, hca⟩ := (HA.out.below hB.out).at (by omega)
      have e1 := hca u (by omega)
      clear hca
      have hsn := rev_snoc q t u (by rw [HA.out.len]; exact hu)
      obtain ⟨x, hx⟩ : ∃ x, q.getD u 0 = x := ⟨_, rfl⟩
      rw [hx] at e1 hsn
      have HSN := Lib.hid hsn
      have zz : IntKind.i64.wrap ((u : Int) - 1) = (u : Int) - 1 := IntWalk.i64_in _ (by omega)
      clear hx hsn
      go_wp2_with (at_builtin; refine wpList_append_any rfl (.tmp 35) (.tmp 40) 22 rfl w.heap.size 21 i0 (.int .i32 0) 1 4 Try.underlying22 hi hz0 hz1 hz2 rfl (by decide) _ t _ rfl (hO.out.alloc _) _ 1 1 _ rfl (some_none _) rfl (one_new _ _ _ _) (one_int _ _) (by unfold maxLen; omega) (by omega) (by have := hB.out.size; simp; omega) ?_; intro a3 c3 w3 hown3 hb3 hnil3)
      go_roundw
      case rel => exact ⟨t + 1, (u : Int) - 1, a3, c3, by omega, by omega, by go_num, rfl, Lib.hid (by rw [HSN.out]; exact hown3), Lib.hid (hB.out.trans ((below_one _ _).mono hB.out.size |>.trans hb3))⟩
      case measure => simp [intOf] <;> omega
    · obtain rfl : n = t := by omega
      obtain rfl : z = -1 := by omega
      clear hz
      have RA := Lib.hid (rev_holds HA.out.len hO.out)
      have B1 := Lib.hid hB.out
      clear hO hB BB
      obtain ⟨w1, rfl⟩ : ∃ x, x = wr := ⟨_, rfl⟩
      obtain ⟨aq, rfl⟩ : ∃ x, x = a2 := ⟨_, rfl⟩
      obtain ⟨cq, rfl⟩ : ∃ x, x = c2 := ⟨_, rfl⟩
      clear hlt ht
      have BB := Lib.hid (Below.refl w1.heap.size w1)
      have HB1 := Lib.hid (HB.out.below B1.out)
      go_wp2_with fail
      go_loopw [8, 10] (fun v i wr => ∃ (t : Nat) (z : Int) (a2 : Option Addr) (c2 : Nat), t ≤ m ∧ z = (m : Int) - 1 - t ∧ i = .int .i64 z ∧ v = .slice a2 t c2 ∧ Hid (wr.ownsRow w1.heap.size 21 1 (.slice a2 t c2) t (runesV (p.reverse.take t))) ∧ Hid (Below w1.heap.size w1 wr)) (fun _ i _ => (intOf i + 1).toNat)
      case atStart => exact ⟨0, (m : Int) - 1, none, 0, by omega, by omega, rfl, rfl, Lib.hid ⟨by simp [runesV], Or.inl ⟨rfl, rfl⟩⟩, BB⟩
      case round =>
        obtain ⟨t, z, a2, c2, ht, hz, rfl, rfl, hO, hB⟩ := hrel
        by_cases hlt : t < m
        · obtain ⟨u, hu⟩ : ∃ u : Nat, u + 1 + t = m := ⟨m - 1 - t, by omega⟩
          obtain rfl : z = (u : Int) := by omega
          clear hz
          obtain ⟨ba, oa, rfl, hca⟩ := (HB1.out.below hB.out).at (by omega)
          have e1 := hca u (by omega)
          clear hca
          have hsn := rev_snoc p t u (by rw [HB1.out.len]; exact hu)
          obtain ⟨x, hx⟩ : ∃ x, p.getD u 0 = x := ⟨_, rfl⟩
          rw [hx] at e1 hsn
          have HSN := Lib.hid hsn
          have zz : IntKind.i64.wrap ((u : Int) - 1) = (u : Int) - 1 := IntWalk.i64_in _ (by omega)
          clear hx hsn
          go_wp2_with (at_builtin; refine wpList_append_any rfl (.tmp 49) (.tmp 54) 22 rfl w1.heap.size 21 i0 (.int .i32 0) 1 4 Try.underlying22 hi hz0 hz1 hz2 rfl (by decide) _ t _ rfl (hO.out.alloc _) _ 1 1 _ rfl (some_none _) rfl (one_new _ _ _ _) (one_int _ _) (by unfold maxLen; omega) (by omega) (by have := hB.out.size; simp; omega) ?_; intro a3 c3 w3 hown3 hb3 hnil3)
          go_roundw
          case rel => exact ⟨t + 1, (u : Int) - 1, a3, c3, by omega, by omega, by go_num, rfl, Lib.hid (by rw [HSN.out]; exact hown3), Lib.hid (hB.out.trans ((below_one _ _).mono hB.out.size |>.trans hb3))⟩
          case measure => simp [intOf] <;> omega
        · obtain rfl : m = t := by omega
          obtain rfl : z = -1 := by omega
          clear hz
          have RB := Lib.hid (rev_holds HB.out.len hO.out)
          have RA2 := Lib.hid (RA.out.below hB.out)
          have B0 := Lib.hid (B1.out.trans (hB.out.mono B1.out.size))
          have HA2 := Lib.hid (HA.out.below B0.out)
          have HB2 := Lib.hid (HB.out.below B0.out)
          have F0 := Lib.hid (Below.refl wr.heap.size wr)
          obtain ⟨D, hD⟩ : ∃ D, Ed.L q p n m = D := ⟨_, rfl⟩
          have hr : Ed.L q.reverse p.reverse n m = D := by
            have h := Ed.L_rev _ q p (Nat.le_refl _)
            rw [HA.out.len, HB.out.len] at h
            rw [h]; exact hD
          have hs : Ed.L p q m n = D := by rw [← hD]; exact Ed.L_sym p q m n
          obtain ⟨V, hV⟩ : ∃ V, Au.telB (min D (k + 1)) k = V := ⟨_, rfl⟩
          obtain ⟨O, hOO⟩ : ∃ O, Au.telO (min D (k + 1)) k = O := ⟨_, rfl⟩
          have N1 := Lib.hid (fun sa L sc w h hL => dist_lit q p a n ca sa L sc m k D w HA.out.len h HK.out (by omega) hL hD)
          have N2 := Lib.hid (fun sa L sc w h hL => dist_lit q.reverse p.reverse aq n cq sa L sc m k D w RA.out.len h HK.out (by omega) hL hr)
          have N3 := Lib.hid (fun sa L sc w h hL => dist_lit p q b m cb sa L sc n k D w HB.out.len h HK.out (by omega) hL hs)
          simp only [hV, hOO] at N1 N2 N3
          have v1 : (V == V) = true := by simp
          have v2 : (O == O) = true := by simp
          clear hO hB hD hr hs hV hOO RA HB1 BB
          go_wp2_with fail
          refine (behind_any q p a b n m ca cb _ k _ _ (HA2.out.below F0.out) (HB2.out.below F0.out) (by omega) (by omega) HK.out rfl rfl).mono ?_
          rintro e x1 ⟨sa1, sc1, rfl, ho, hb⟩
          have T1 := Lib.hid (HoldsP.own ho)
          have E1 := Lib.hid (F0.out.trans (hb.mono F0.out.size))
          have l1 := Au.st_len (q := q) (p := p) (j := m) HK.out.1
          have hk1 := HK.out
          obtain ⟨ls1, hls1⟩ : ∃ l, (Au.st q p k m).length = l := ⟨_, rfl⟩
          rw [hls1] at T1 l1 ⊢
          have hh1 : ls1 ≤ 1048576 := by omega
          clear ho hb hls1 l1 hk1
          go_wp2_with fail
          refine (N1.out sa1 ls1 sc1 _ T1.out hh1).mono ?_
          rintro e y1 ⟨rfl, hb⟩
          have F1 := Lib.hid (E1.out.trans (hb.mono E1.out.size))
          clear hb T1 E1
          go_wp2_with fail
          refine (behind_any q.reverse p.reverse aq a2 n m cq c2 _ k _ _ (RA2.out.below F1.out) (RB.out.below F1.out) (by omega) (by omega) HK.out rfl rfl).mono ?_
          rintro e x2 ⟨sa2, sc2, rfl, ho, hb⟩
          have T2 := Lib.hid (HoldsP.own ho)
          have E2 := Lib.hid (F1.out.trans (hb.mono F1.out.size))
          have l2 := Au.st_len (q := q.reverse) (p := p.reverse) (j := m) HK.out.1
          have hk2 := HK.out
          obtain ⟨ls2, hls2⟩ : ∃ l, (Au.st q.reverse p.reverse k m).length = l := ⟨_, rfl⟩
          rw [hls2] at T2 l2 ⊢
          have hh2 : ls2 ≤ 1048576 := by omega
          clear ho hb hls2 l2 hk2
          go_wp2_with fail
          refine (N2.out sa2 ls2 sc2 _ T2.out hh2).mono ?_
          rintro e y2 ⟨rfl, hb⟩
          have F2 := Lib.hid (E2.out.trans (hb.mono E2.out.size))
          clear hb T2 E2
          go_wp2_with fail
          refine (behind_any p q b a m n cb ca _ k _ _ (HB2.out.below F2.out) (HA2.out.below F2.out) (by omega) (by omega) HK.out rfl rfl).mono ?_
          rintro e x3 ⟨sa3, sc3, rfl, ho, hb⟩
          have T3 := Lib.hid (HoldsP.own ho)
          have E3 := Lib.hid (F2.out.trans (hb.mono F2.out.size))
          have l3 := Au.st_len (q := p) (p := q) (j := n) HK.out.1
          have hk3 := HK.out
          obtain ⟨ls3, hls3⟩ : ∃ l, (Au.st p q k n).length = l := ⟨_, rfl⟩
          rw [hls3] at T3 l3 ⊢
          have hh3 : ls3 ≤ 1048576 := by omega
          clear ho hb hls3 l3 hk3
          go_wp2_with fail
          refine (N3.out sa3 ls3 sc3 _ T3.out hh3).mono ?_
          rintro e y3 ⟨rfl, hb⟩
          have F3 := Lib.hid (E3.out.trans (hb.mono E3.out.size))
          clear hb T3 E3
          go_wp2_with fail
          refine (awake_any _).mono ?_
          rintro e w5 ⟨rfl, hb⟩
          have B5 := Lib.hid (B0.out.trans (((F3.out.trans (hb.mono F3.out.size))).mono B0.out.size))
          clear hb
          go_wp2_with fail
          go_ret
          exact ⟨rfl, B5.out⟩
open Go.ChangeShapes Go.WideShapes Go.ChangeAt in
theorem autoMirror_walk {H : Type} {enc : TypeId × Value → H} (W : World) (base : Nat) (v0 v1 v2 : Value) (d0 d1 d2 : DataW H) (p0 p1 p2 : List MemPlace)
    (h0 : DataW.Trod enc Try.prog W 0 (fun _ => true) true 22 v0 d0 p0) (h1 : DataW.Trod enc Try.prog W 0 (fun _ => true) true 22 v1 d1 p1) (h2 : DataW.Trod enc Try.prog W 0 (fun _ => true) true 3 v2 d2 p2)
    (o0 : Value.okWide Try.prog W .any base 22 v0) (o1 : Value.okWide Try.prog W .any base 22 v1) (o2 : Value.okWide Try.prog W .any base 3 v2) :
    Calls Try.prog 8 #[v0, v1, v2] W fun e w' => e = .returned (.bool true) ∧ RowKit.Below W.heap.size W w' := by
  obtain ⟨a, ra, ca, rfl, ha, _, _, k1, _⟩ := open_runes_arg o0 h0
  obtain ⟨b, rb, cb, rfl, hb, _, _, k2, _⟩ := open_runes_arg o1 h1
  obtain ⟨x2, rfl, rfl, rfl, b2⟩ := open_int Try.underlying3 o2 h2
  exact autoMirror_any ra rb a b _ _ ca cb x2 W ha hb (by unfold maxLen at k1; omega) (by unfold maxLen at k2; omega)
end Go.Proofs.Ytgaenkckffjcaaa
