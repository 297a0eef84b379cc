/- the laws of distances and bands against the document's own table -/
import Derived.Test.YtfboocnkphjhnaaRf2
import Derived.Test.YtfboocnkphjhnaaLendRunes
import Derived.Test.YtfboocnkphjhnaaKeptRunes
import Derived.Test.YtfboocnkphjhnaaOverInts
import Derived.Test.YtfboocnkphjhnaaBaW
import Derived.Test.YtfboocnkphjhnaaOpR
namespace Go.Proofs.Ytfboocnkphjhnaa
open Go.RowKit
set_option linter.unusedVariables false
set_option maxHeartbeats 3200000 in
theorem bandTells_any (ra rb : List Int) (a b : Option Addr) (la lb ca cb : Nat) (k : Int) (w : World) (ha : HoldsI .i32 w a la ra) (hb : HoldsI .i32 w b lb rb)
    (h1 : la ≤ 9223372036854775807) (h2 : lb ≤ 9223372036854775807) :
    Calls Try.prog 7 #[.slice a la ca, .slice b lb cb, .int .i64 k] w fun e w' => e = .returned (.bool true) ∧ Below w.heap.size w w' := by
  by_cases hlong : 30 < la ∨ 30 < lb
  · have h4 : 30 < la ∨ (la ≤ 30 ∧ 30 < lb) := by omega
    clear hlong ha hb
    rcases h4 with h4 | ⟨h4, h5⟩
    all_goals
      go_enter Try.func7, Try.ntmps7
      go_wp2_with fail
      refine (bawake_any _).mono ?_
      rintro e w' ⟨rfl, hb⟩
      go_wp2_with fail
      go_ret
      exact ⟨rfl, hb⟩
  have hla : la ≤ 30 := by omega
  have hlb : lb ≤ 30 := by omega
  have W1 := Lib.hid (fun W (h : Below w.heap.size w W) => within_any ra rb a b la lb ca cb W (ha.below h) (hb.below h) (by omega) (by omega))
  have R1 := Lib.hid (rruns_any ra rb a b la lb ca cb w ha hb (by omega) (by omega))
  obtain ⟨D, hD⟩ : ∃ D, Ed.L ra rb la lb = D := ⟨_, rfl⟩
  simp only [hD] at W1 R1
  clear hD ha hb hlong
  have x1 : (D == D) = true := by simp
  by_cases hk : D ≤ k
  · go_enter Try.func7, Try.ntmps7
    go_wp2_with fail
    refine R1.out.mono ?_
    rintro e w1 ⟨rfl, hb1⟩
    have B1 := Lib.hid hb1
    clear hb1
    go_wp2_with fail
    refine ((W1.out _ B1.out).yes hk).mono ?_
    rintro e w2 ⟨rfl, hb2⟩
    have B2 := Lib.hid (B1.out.trans (hb2.mono B1.out.size))
    clear hb2
    go_wp2_with fail
    refine (bawake_any _).mono ?_
    rintro e w3 ⟨rfl, hb3⟩
    have B3 := Lib.hid (B2.out.trans (hb3.mono B2.out.size))
    clear hb3
    go_wp2_with fail
    go_ret
    exact ⟨rfl, B3.out⟩
  · have hk2 : k < D := by omega
    go_enter Try.func7, Try.ntmps7
    go_wp2_with fail
    refine R1.out.mono ?_
    rintro e w1 ⟨rfl, hb1⟩
    have B1 := Lib.hid hb1
    clear hb1
    go_wp2_with fail
    refine ((W1.out _ B1.out).no hk2).mono ?_
    rintro e w2 ⟨rfl, hb2⟩
    have B2 := Lib.hid (B1.out.trans (hb2.mono B1.out.size))
    clear hb2
    go_wp2_with fail
    refine (bawake_any _).mono ?_
    rintro e w3 ⟨rfl, hb3⟩
    have B3 := Lib.hid (B2.out.trans (hb3.mono B2.out.size))
    clear hb3
    go_wp2_with fail
    go_ret
    exact ⟨rfl, B3.out⟩
theorem roomy_holdsI {w : World} {B : Nat} {e : TypeId} {n : Nat} {zs : List Int} {k : Nat} (hl : zs.length = n) (h : Roomy w B e (.int .i32 (-7)) n (zs.map (Value.int .i32)) k) : HoldsI .i32 w (some ⟨B, 0, none⟩) n zs := by
  refine ⟨hl, fun _ => ⟨B, 0, rfl, fun i hi => ?_⟩⟩
  rw [Nat.zero_add, h.cell i hi, getD_map_int .i32 zs i (by omega)]
theorem sameInts_yes (a1 a2 : Option Addr) (n c1 c2 : Nat) (z : List Int) (w : World) (h1 : HoldsI .i64 w a1 n z) (h2 : HoldsI .i64 w a2 n z) (hl : n ≤ 4611686018427387904) :
    Calls Try.prog 18 #[.slice a1 n c1, .slice a2 n c2] w fun e w' => e = .returned (.bool true) ∧ Below w.heap.size w w' := by
  have := sameInts_any a1 a2 n c1 n c2 z z w h1 h2 hl hl
  rw [decide_eq_true rfl] at this
  refine this.mono ?_
  rintro e w' ⟨rfl, m, rfl⟩
  exact ⟨rfl, below_drewN _ _⟩
theorem keptRunes_yes (B : Nat) (e : TypeId) (n : Nat) (z : List Int) (a : Option Addr) (cap : Nat) (w : World) (h1 : z.length = n) (hR : Roomy w B e (.int .i32 (-7)) n (z.map (Value.int .i32)) 3) (h2 : HoldsI .i32 w a n z) (hn : n ≤ 1048576) :
    Calls Try.prog 20 #[.slice (some ⟨B, 0, none⟩) n (n + 3), .slice a n cap] w fun e w' => e = .returned (.bool true) ∧ Below w.heap.size w w' := by
  have := keptRunes_any B e n z a n cap z w h1 hR h2 hn hn
  rw [decide_eq_true rfl] at this
  refine this.mono ?_
  rintro e w' ⟨rfl, m, rfl⟩
  exact ⟨rfl, below_drewN _ _⟩
set_option maxHeartbeats 6400000 in
theorem editTells_any (ra rb : List Int) (a b : Option Addr) (la lb ca cb : Nat) (w : World) (ha : HoldsI .i32 w a la ra) (hb : HoldsI .i32 w b lb rb)
    (hna : a = none → la = 0 ∧ ca = 0) (hnb : b = none → lb = 0 ∧ cb = 0) (h1 : la ≤ 9223372036854775807) (h2 : lb ≤ 9223372036854775807) :
    Calls Try.prog 3 #[.slice a la ca, .slice b lb cb] w fun e w' => e = .returned (.bool true) ∧ Below w.heap.size w w' := by
  have hd := long_any la ca lb cb a b w h1 h2
  by_cases hlong : 30 < la ∨ 30 < lb
  · rw [decide_eq_true hlong] at hd
    have HD := Lib.hid hd
    clear hd hlong ha hb
    go_enter Try.func3, Try.ntmps3
    go_wp2_with fail
    refine HD.out.mono ?_
    rintro e w' ⟨rfl, rfl⟩
    go_wp2_with fail
    refine (awake_any _).mono ?_
    rintro e w' ⟨rfl, hb3⟩
    go_wp2_with fail
    go_ret
    exact ⟨rfl, hb3⟩
  rw [decide_eq_false hlong] at hd
  have hla : la ≤ 30 := by omega
  have hlb : lb ≤ 30 := by omega
  have HD := Lib.hid hd; have HA := Lib.hid ha; have HB := Lib.hid hb; have NA := Lib.hid hna; have NB := Lib.hid hnb
  have LA := Lib.hid ha.len; have LB := Lib.hid hb.len
  obtain ⟨n, hn⟩ : ∃ n, la + 1 = n := ⟨_, rfl⟩
  have HN := Lib.hid hn
  have hn1 : n ≤ 31 := by omega
  clear hd hlong ha hb hna hnb hn
  go_enter Try.func3, Try.ntmps3
  go_wp2_with fail
  refine HD.out.mono ?_
  rintro e w' ⟨rfl, rfl⟩
  go_wp2_with fail
  refine (lendRunes_any a la ca _ w HA.out.values NA.out (by omega) (ints_oneCell _ _)).mono ?_
  rintro e w1 ⟨rfl, hb1, hr1⟩
  have B1 := Lib.hid hb1; have R1 := Lib.hid hr1
  clear hb1 hr1
  go_wp2_with fail
  refine (lendRunes_any b lb cb _ w1 (HB.out.below B1.out).values NB.out (by omega) (ints_oneCell _ _)).mono ?_
  rintro e w2 ⟨rfl, hb2, hr2⟩
  have R2 := Lib.hid hr2
  have R1b := Lib.hid (R1.out.below hb2)
  have B2 := Lib.hid (B1.out.trans (hb2.mono B1.out.size))
  clear hb2 hr2 R1
  obtain ⟨p, hp⟩ : ∃ p, w.heap.size = p := ⟨_, rfl⟩
  obtain ⟨q, hq⟩ : ∃ q, w1.heap.size = q := ⟨_, rfl⟩
  rw [hp] at R1b; rw [hq] at R2
  simp only [hp, hq]
  have HP := Lib.hid hp
  clear hp hq B1
  have X2 := Lib.hid (roomy_holdsI LA.out R1b.out)
  have Y2 := Lib.hid (roomy_holdsI LB.out R2.out)
  go_wp2_with fail
  have hc3 := rows_lit ra rb la lb _ _ (la + 3) (lb + 3) w2 LA.out LB.out X2.out Y2.out (by omega) (by omega)
  rw [HN.out] at hc3
  refine hc3.mono ?_
  rintro e w3 ⟨rfl, ho3, hb3⟩
  have O3 := Lib.hid ho3; have B3 := Lib.hid hb3
  clear hc3 ho3 hb3
  obtain ⟨g, hg⟩ : ∃ g, w2.heap.size = g := ⟨_, rfl⟩
  have HG := Lib.hid hg
  rw [hg] at O3
  simp only [hg]
  clear hg
  have F3 := Lib.hid (B2.out.trans (B3.out.mono B2.out.size))
  go_wp2_with fail
  refine (eruns_lit ra rb la lb _ _ (la + 3) (lb + 3) w3 LA.out LB.out (X2.out.below B3.out) (Y2.out.below B3.out) (by omega) (by omega)).mono ?_
  rintro e w4 ⟨rfl, hb4⟩
  have B4 := Lib.hid (B3.out.trans (hb4.mono B3.out.size))
  have O4 := Lib.hid (owns_below O3.out hb4)
  clear hb4
  have F4 := Lib.hid (B2.out.trans (B4.out.mono B2.out.size))
  obtain ⟨D, hD⟩ : ∃ D, Ed.L ra rb la lb = D := ⟨_, rfl⟩
  have HDD := Lib.hid hD
  rw [hD]
  have x1 : (D == D) = true := by simp
  clear hD
  go_wp2_with fail
  have hc5 := rruns_any ra rb a b la lb ca cb w4 (HA.out.below F4.out) (HB.out.below F4.out) (by omega) (by omega)
  rw [HDD.out] at hc5
  refine hc5.mono ?_
  rintro e w5 ⟨rfl, hb5⟩
  have B5 := Lib.hid (B4.out.trans (hb5.mono B4.out.size))
  have O5 := Lib.hid (owns_below O4.out hb5)
  clear hb5 hc5
  have F5 := Lib.hid (B2.out.trans (B5.out.mono B2.out.size))
  go_wp2_with fail
  have hc6 := rrows_any ra rb a b la lb ca cb w5 (HA.out.below F5.out) (HB.out.below F5.out) (by omega) (by omega)
  rw [HN.out] at hc6
  refine hc6.mono ?_
  rintro e w6 ⟨o6, c6, rfl, ho6, hb6⟩
  have B6 := Lib.hid (B5.out.trans (hb6.mono B5.out.size))
  have O6 := Lib.hid (owns_below O5.out hb6)
  have H6 := Lib.hid (own_holdsI ho6)
  clear hb6 ho6 hc6
  go_wp2_with fail
  refine (sameInts_yes _ _ n _ c6 _ w6 (own_holdsI O6.out) H6.out (by omega)).mono ?_
  rintro e w7 ⟨rfl, hb7⟩
  have B7 := Lib.hid (B6.out.trans (hb7.mono B6.out.size))
  have O7 := Lib.hid (owns_below O6.out hb7)
  clear hb7 H6
  have F7 := Lib.hid (B2.out.trans (B7.out.mono B2.out.size))
  go_wp2_with fail
  refine (keptRunes_yes p _ la ra a ca w7 LA.out (R1b.out.below B7.out) (HA.out.below F7.out) (by omega)).mono ?_
  rintro e w8 ⟨rfl, hb8⟩
  have B8 := Lib.hid (B7.out.trans (hb8.mono B7.out.size))
  have O8 := Lib.hid (owns_below O7.out hb8)
  clear hb8
  have F8 := Lib.hid (B2.out.trans (B8.out.mono B2.out.size))
  go_wp2_with fail
  refine (keptRunes_yes q _ lb rb b cb w8 LB.out (R2.out.below B8.out) (HB.out.below F8.out) (by omega)).mono ?_
  rintro e w9 ⟨rfl, hb9⟩
  have B9 := Lib.hid (B8.out.trans (hb9.mono B8.out.size))
  have O9 := Lib.hid (owns_below O8.out hb9)
  clear hb9
  go_wp2_with fail
  refine (overInts_any g _ n n _ w9 O9.out (by have := B9.out.size; have := HG.out; omega) (by omega)).mono ?_
  rintro e w10 ⟨rfl, hb10⟩
  have B10 := Lib.hid (B9.out.trans (hb10.mono (Nat.le_of_eq HG.out)))
  clear hb10 O3 O4 O5 O6 O7 O8 O9
  have F10 := Lib.hid (B2.out.trans (B10.out.mono B2.out.size))
  go_wp2_with fail
  have hc11 := rows_lit ra rb la lb a b ca cb w10 LA.out LB.out (HA.out.below F10.out) (HB.out.below F10.out) (by omega) (by omega)
  rw [HN.out] at hc11
  refine hc11.mono ?_
  rintro e w11 ⟨rfl, ho11, hb11⟩
  have O11 := Lib.hid ho11
  have F11 := Lib.hid (F10.out.trans (hb11.mono F10.out.size))
  clear ho11 hb11 hc11
  go_wp2_with fail
  have hc12 := rrows_any ra rb a b la lb ca cb w11 (HA.out.below F11.out) (HB.out.below F11.out) (by omega) (by omega)
  rw [HN.out] at hc12
  refine hc12.mono ?_
  rintro e w12 ⟨o12, c12, rfl, ho12, hb12⟩
  have F12 := Lib.hid (F11.out.trans (hb12.mono F11.out.size))
  have O12 := Lib.hid (owns_below O11.out hb12)
  have H12 := Lib.hid (own_holdsI ho12)
  clear hb12 ho12 hc12
  go_wp2_with fail
  refine (sameInts_yes _ _ n _ c12 _ w12 (own_holdsI O12.out) H12.out (by omega)).mono ?_
  rintro e w13 ⟨rfl, hb13⟩
  have F13 := Lib.hid (F12.out.trans (hb13.mono F12.out.size))
  clear hb13
  go_wp2_with fail
  refine (awake_any _).mono ?_
  rintro e w14 ⟨rfl, hb14⟩
  go_wp2_with fail
  go_ret
  exact ⟨rfl, F13.out.trans (hb14.mono F13.out.size)⟩
open Go.ChangeShapes Go.WideShapes Go.ChangeAt in
theorem bandTells_walk {H : Type} {enc : TypeId × Value → H} (W : World) (base : Nat) (v0 v1 v2 : Value) (d0 d1 d2 : DataW H) (p0 p1 p2 : List MemPlace)
    (h0 : DataW.Trod enc Try.prog W 0 (fun _ => true) true 22 v0 d0 p0) (h1 : DataW.Trod enc Try.prog W 0 (fun _ => true) true 22 v1 d1 p1) (h2 : DataW.Trod enc Try.prog W 0 (fun _ => true) true 3 v2 d2 p2)
    (o0 : Value.okWide Try.prog W .any base 22 v0) (o1 : Value.okWide Try.prog W .any base 22 v1) (o2 : Value.okWide Try.prog W .any base 3 v2) :
    Calls Try.prog 7 #[v0, v1, v2] W fun e w' => e = .returned (.bool true) ∧ RowKit.Below W.heap.size W w' := by
  obtain ⟨a, ra, ca, rfl, ha, _, k1, k2, _⟩ := open_runes_arg o0 h0
  obtain ⟨b, rb, cb, rfl, hb, _, k3, k4, _⟩ := open_runes_arg o1 h1
  obtain ⟨k, rfl, rfl, rfl, _⟩ := open_int Try.underlying3 o2 h2
  exact bandTells_any ra rb a b _ _ ca cb k W ha hb (by unfold maxLen at k2; omega) (by unfold maxLen at k4; omega)
open Go.ChangeShapes Go.WideShapes Go.ChangeAt in
theorem editTells_walk {H : Type} {enc : TypeId × Value → H} (W : World) (base : Nat) (v0 v1 : Value) (d0 d1 : DataW H) (p0 p1 : List MemPlace)
    (h0 : DataW.Trod enc Try.prog W 0 (fun _ => true) true 22 v0 d0 p0) (h1 : DataW.Trod enc Try.prog W 0 (fun _ => true) true 22 v1 d1 p1)
    (o0 : Value.okWide Try.prog W .any base 22 v0) (o1 : Value.okWide Try.prog W .any base 22 v1) :
    Calls Try.prog 3 #[v0, v1] W fun e w' => e = .returned (.bool true) ∧ RowKit.Below W.heap.size W w' := by
  obtain ⟨a, ra, ca, rfl, ha, n1, k1, k2, _⟩ := open_runes_arg o0 h0
  obtain ⟨b, rb, cb, rfl, hb, n2, k3, k4, _⟩ := open_runes_arg o1 h1
  exact editTells_any ra rb a b _ _ ca cb W ha hb n1 n2 (by unfold maxLen at k2; omega) (by unfold maxLen at k4; omega)
end Go.Proofs.Ytfboocnkphjhnaa
