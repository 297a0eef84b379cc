/- the state behind any runes is the document's -/
import Derived.Test.YtgaenkckffjcaaaPkD
import Derived.Test.YtgaenkckffjcaaaPkA
namespace Go.Proofs.Ytgaenkckffjcaaa
open Go.RowKit
set_option linter.unusedVariables false
set_option maxRecDepth 20000
theorem RoomyP.owns {w : World} {B : Nat} {e : TypeId} {n : Nat} {ks : List PV} {k : Nat} (h : RoomyP w B e n ks k) (hn : n ≤ 1048576) : ∃ xs, w.ownsRow B e 2 (.slice (some ⟨B, 0, none⟩) n (n + 3)) n xs := by
  obtain ⟨cs, h1, h2, _⟩ := h
  refine ⟨cs.toList.take (n * 2), by simp; omega, Or.inr ⟨B, n + 3, cs, rfl, Nat.le_refl _, h1, by omega, by unfold maxLen; omega, h2, rfl⟩⟩
theorem owns_grownP {w w' : World} {B base : Nat} {e : TypeId} {size : Nat} {v : Value} {n : Nat} {xs : List Value} (h : w.ownsRow base e size v n xs) (hg : w.grownBy w' (some B)) (hB : B < base) : w'.ownsRow base e size v n xs := by
  refine ⟨h.1, ?_⟩
  rcases h.2 with h1 | ⟨g, cap, cur, hv, hge, hh, r⟩
  · exact Or.inl h1
  · exact Or.inr ⟨g, cap, cur, hv, hge, (hg.block g (Array.getElem?_eq_some_iff.1 hh).1 (by intro e; injection e with e; omega)).trans hh, r⟩
theorem Au.st_zero' (q p : List Int) {k : Int} (hk : 0 ≤ k) : Au.outL (Au.allL (fun i => Ed.L q [] i 0) k (q.length + 1)) (Au.allL (fun i => Ed.L q [] i 0) k (q.length + 1)).length = Au.st q p k 0 :=
  Au.ref_state hk rfl (fun t ht => absurd ht (by omega))
set_option maxHeartbeats 3200000 in
set_option maxRecDepth 100000 in
theorem autoStates_any (q p : List Int) (a b : Option Addr) (n m ca cb : Nat) (k : Int) (w : World) (ha : HoldsI .i32 w a n q) (hb : HoldsI .i32 w b m p) (h63 : n ≤ 9223372036854775807) (h64 : m ≤ 9223372036854775807) (hcap : m ≤ cb) (hcb : cb ≤ 9223372036854775807) :
    Calls Try.prog 3 #[.slice a n ca, .slice b m cb, .int .i64 k] w fun e w' => e = .returned (.bool true) ∧ Below w.heap.size w w' := by
  have CL := Lib.hid (fun w => long_any n ca m cb a b w h63 h64)
  by_cases hlong : 16 < n ∨ 16 < m
  · have E := Lib.hid (decide_eq_true hlong)
    clear hlong ha hb h63 h64
    go_enter Try.func3, Try.ntmps3
    go_wp2_with fail
    refine (CL.out _).mono ?_
    rintro e w' ⟨rfl, rfl⟩
    rw [E.out]
    go_wp2_with fail
    refine (awake_any _).mono ?_
    rintro e w' ⟨rfl, hb3⟩
    go_wp2_with fail
    go_ret
    exact ⟨rfl, hb3⟩
  · have E := Lib.hid (decide_eq_false hlong)
    have hn : n ≤ 16 := by omega
    have hm : m ≤ 16 := by omega
    have HA := Lib.hid ha; have HB := Lib.hid hb
    have hql := Lib.hid ha.len
    clear hlong ha hb h63 h64
    by_cases hk : 0 ≤ k ∧ k ≤ 4
    · obtain ⟨hk0, hk4⟩ := hk
      have HK := Lib.hid (show 0 ≤ k ∧ k ≤ 4 by omega)
      go_enter Try.func3, Try.ntmps3
      go_wp2_with fail
      refine (CL.out _).mono ?_
      rintro e w' ⟨rfl, rfl⟩
      rw [E.out]
      clear CL E
      go_wp2_with fail
      refine (start_yes a n ca k _ HK.out).mono ?_
      rintro e w1 ⟨sa, sc, rfl, ho, hb⟩
      have O1 := Lib.hid (show w1.ownsRow w.heap.size 40 2 (.slice sa 1 sc) 1 (posV (Au.st q p k 0)) from by rw [Au.st_zero q p HK.out.1]; exact ho)
      have B1 := Lib.hid hb
      clear ho hb
      go_wp2_with fail
      have hst := Au.st_zero' q p HK.out.1
      rw [hql.out] at hst
      refine (rstate_any q [] a none n 0 ca 0 1 k (Au.st q p k 0) _ (HA.out.below B1.out) (HoldsI.nil _ _ _) (by omega) (by omega) HK.out hst (by rw [Au.st_zero q p HK.out.1]; rfl)).mono ?_
      rintro e w2 ⟨ra, rc, rfl, ho, hb⟩
      have R2 := Lib.hid (HoldsP.own ho)
      have O2 := Lib.hid (owns_below O1.out hb)
      have B2 := Lib.hid (B1.out.trans (hb.mono B1.out.size))
      clear ho hb hst O1 B1
      go_wp2_with fail
      refine (samePoses_yes _ _ _ _ _ (Au.st q p k 0) _ (HoldsP.own O2.out) R2.out (by omega)).mono ?_
      rintro e w3 ⟨rfl, hb⟩
      have O3 := Lib.hid (owns_below O2.out hb)
      have B3 := Lib.hid (B2.out.trans (hb.mono B2.out.size))
      clear hb O2 R2 B2
      go_wp2_with fail
      go_loopw [7, 8] (fun sv iv wr => ∃ (j : Nat) (sa : Option Addr) (L sc : Nat), j ≤ m ∧ iv = .int .i64 j ∧ sv = .slice sa L sc ∧ Hid (wr.ownsRow w.heap.size 40 2 (.slice sa L sc) L (posV (Au.st q p k j))) ∧ Hid (Below w.heap.size w wr)) (fun _ iv _ => m - (intOf iv).toNat)
      case atStart => exact ⟨0, sa, 1, sc, by omega, rfl, rfl, O3, B3⟩
      case round =>
        obtain ⟨j, sa, L, sc, hj, rfl, rfl, hO, hB⟩ := hrel
        have HL0 := Lib.hid (show (Au.st q p k j).length = L from (HoldsP.own hO.out).len)
        have hL9 : L ≤ 9 := by have := Au.st_len (q := q) (p := p) (j := j) HK.out.1; rw [HL0.out] at this; omega
        by_cases hlt : j < m
        · have d3 : decide (k ≥ 0) = true := by simpa using hk0
          obtain ⟨bb, ob, rfl, hcb'⟩ := (HB.out.below hB.out).at (by omega)
          have e1 := hcb' j hlt
          clear hcb'
          obtain ⟨r, hr⟩ : ∃ r, p.getD j 0 = r := ⟨_, rfl⟩
          rw [hr] at e1
          have HR := Lib.hid hr
          obtain ⟨S', hS'⟩ : ∃ S', Au.st q p k (j + 1) = S' := ⟨_, rfl⟩
          obtain ⟨L2, hL2⟩ : ∃ L2, S'.length = L2 := ⟨_, rfl⟩
          have HS' := Lib.hid hS'; have HL2 := Lib.hid hL2
          have hL29 : L2 ≤ 9 := by have := Au.st_len (q := q) (p := p) (j := j + 1) HK.out.1; rw [hS', hL2] at this; omega
          have CLn := Lib.hid (lendPoses_any sa L sc (Au.st q p k j) _ (HoldsP.own hO.out) (owns_none hO.out).1 (by omega))
          clear hr hS' hL2
          go_wp2_with fail
          refine CLn.out.mono ?_
          rintro e w4 ⟨rfl, hb, hR⟩
          have hsz : wr.heap.size < w4.heap.size := by obtain ⟨v, hv⟩ := hR.there 0 (by omega); exact lt_of_cell hv
          have R4 := Lib.hid hR
          have O4 := Lib.hid (owns_below hO.out hb)
          have b4 := Lib.hid hb
          clear hb hR CLn
          have e2 := (b4.out.cell (p := ⟨bb, ob + j, none⟩) (lt_of_cell e1)).trans e1
          clear e1
          go_wp2_with fail
          refine (step_lit q p j k a (some ⟨wr.heap.size, 0, none⟩) n ca L (L + 3) L2 r _ S' _ ((HA.out.below hB.out).below b4.out) (R4.out.holds HL0.out) HK.out (by omega) HR.out rfl HS'.out HL2.out).mono ?_
          rintro e w5 ⟨ta, tc, rfl, ho, hb⟩
          have T5 := Lib.hid ho
          have R5 := Lib.hid (R4.out.below hb)
          have O5 := Lib.hid (owns_below O4.out hb)
          have b5 := Lib.hid (b4.out.trans (hb.mono b4.out.size))
          clear ho hb R4 O4
          have hB5 := HB.out.below (hB.out.trans (b5.out.mono hB.out.size))
          have HP := Lib.hid (show HoldsI .i32 w5 (some ⟨bb, ob, none⟩) (j + 1) (p.take (j + 1)) from by have := hB5.sub 0 (j + 1) (by omega) (by omega); simpa using this)
          have z1 : IntKind.i64.wrap ((j : Int) + 1) = (j : Int) + 1 := IntWalk.i64_in _ (by omega)
          have z2 : ((j : Int) + 1).toNat = j + 1 := by omega
          have z3 : (0 : Int) ≤ (j : Int) + 1 := by omega
          have hst := Au.ref_state (q := q) (p := p) (p' := p.take (j + 1)) (k := k) (j := j + 1) (n := n) HK.out.1 hql.out (fun t ht => by simp [List.getD_eq_getElem?_getD, List.getElem?_take_of_lt ht])
          rw [HS'.out] at hst
          have HST := Lib.hid hst
          clear hB5 hst
          go_wp2_with fail
          refine (rstate_any q (p.take (j + 1)) a (some ⟨bb, ob, none⟩) n (j + 1) ca cb L2 k S' _ ((HA.out.below hB.out).below b5.out) HP.out (by omega) (by omega) HK.out HST.out HL2.out).mono ?_
          rintro e w6 ⟨ra6, rc6, rfl, ho, hb⟩
          have Q6 := Lib.hid (HoldsP.own ho)
          have T6 := Lib.hid (owns_below T5.out hb)
          have R6 := Lib.hid (R5.out.below hb)
          have O6 := Lib.hid (owns_below O5.out hb)
          have b6 := Lib.hid (b5.out.trans (hb.mono b5.out.size))
          clear ho hb T5 R5 O5 HP
          go_wp2_with fail
          refine (samePoses_yes _ _ _ _ _ S' _ (HoldsP.own T6.out) Q6.out (by omega)).mono ?_
          rintro e w7 ⟨rfl, hb⟩
          have T7 := Lib.hid (owns_below T6.out hb)
          have R7 := Lib.hid (R6.out.below hb)
          have O7 := Lib.hid (owns_below O6.out hb)
          have b7 := Lib.hid (b6.out.trans (hb.mono b6.out.size))
          clear hb T6 R6 O6 Q6
          go_wp2_with fail
          refine (keptPoses_yes _ _ L (Au.st q p k j) sa sc _ HL0.out R7.out (HoldsP.own O7.out) (by omega)).mono ?_
          rintro e w8 ⟨rfl, hb⟩
          have T8 := Lib.hid (owns_below T7.out hb)
          have R8 := Lib.hid (R7.out.below hb)
          have b8 := Lib.hid (b7.out.trans (hb.mono b7.out.size))
          clear hb T7 R7 O7
          obtain ⟨xs, hxs⟩ := R8.out.owns (by omega)
          have X8 := Lib.hid hxs
          clear hxs
          go_wp2_with fail
          refine (overPoses_any wr.heap.size (some ⟨wr.heap.size, 0, none⟩) L (L + 3) xs _ X8.out b8.out.size (by omega)).mono ?_
          rintro e w9 ⟨rfl, hb, hg⟩
          have T9 := Lib.hid (owns_mono (owns_grownP T8.out hg hsz) (Nat.le_trans hB.out.size (Nat.le_of_lt hsz)))
          have B9 := Lib.hid (hB.out.trans ((b8.out.trans hb).mono hB.out.size))
          clear hb hg T8 R8 X8
          rw [← HS'.out] at T9
          go_wp2_with fail
          go_roundw
          case rel => exact ⟨j + 1, ta, L2, tc, by omega, by go_num, rfl, T9, B9⟩
          case measure => simp [intOf] <;> omega
        · obtain rfl : j = m := by omega
          have BE := Lib.hid hB.out
          clear hB hO
          go_wp2_with fail
          refine (awake_any _).mono ?_
          rintro e w8 ⟨rfl, hb⟩
          have B8 := Lib.hid (BE.out.trans (hb.mono BE.out.size))
          clear hb
          go_wp2_with fail
          go_ret
          exact ⟨rfl, B8.out⟩
    · have HK := Lib.hid hk
      clear hk
      go_enter Try.func3, Try.ntmps3
      go_wp2_with fail
      refine (CL.out _).mono ?_
      rintro e w' ⟨rfl, rfl⟩
      rw [E.out]
      clear CL E
      go_wp2_with fail
      refine (start_no a n ca k _ HK.out).mono ?_
      rintro e w1 ⟨sa, sc, rfl, ho, hb⟩
      have O1 := Lib.hid ho
      have B1 := Lib.hid hb
      clear ho hb
      go_wp2_with fail
      refine (rstate_no a none n 0 ca 0 k _ HK.out).mono ?_
      rintro e w2 ⟨ra, rc, rfl, ho, hb⟩
      have R2 := Lib.hid (HoldsP.own ho)
      have O2 := Lib.hid (owns_below O1.out hb)
      have B2 := Lib.hid (B1.out.trans (hb.mono B1.out.size))
      clear ho hb O1 B1
      go_wp2_with fail
      refine (samePoses_yes _ _ _ _ _ [] _ (HoldsP.own O2.out) R2.out (by omega)).mono ?_
      rintro e w3 ⟨rfl, hb⟩
      have B3 := Lib.hid (B2.out.trans (hb.mono B2.out.size))
      clear hb O2 R2 B2
      have hcase : m = 0 ∨ (0 < m ∧ k < 0) ∨ (0 < m ∧ 0 ≤ k ∧ 4 < k) := by have := HK.out; omega
      rename World => w3
      rcases hcase with rfl | ⟨h0, h1⟩ | ⟨h0, h1, h2⟩
      · go_wp2_with fail
        go_loopw [8] (fun iv wr => iv = .int .i64 ((0 : Nat) : Int) ∧ Hid (Below w.heap.size w wr)) (fun _ _ => 0)
        case atStart => exact ⟨rfl, B3⟩
        case round =>
          obtain ⟨rfl, hB⟩ := hrel
          go_wp2_with fail
          refine (awake_any _).mono ?_
          rintro e w8 ⟨rfl, hb⟩
          have B8 := Lib.hid (hB.out.trans (hb.mono hB.out.size))
          clear hb
          go_wp2_with fail
          go_ret
          exact ⟨rfl, B8.out⟩
      · have d1 : decide (k ≥ 0) = false := by simp; omega
        have d2 : decide (0 ≤ k) = false := by simp; omega
        go_wp2_with fail
        go_loopw [8] (fun iv wr => iv = .int .i64 ((0 : Nat) : Int) ∧ Hid (Below w.heap.size w wr)) (fun _ _ => 0)
        case atStart => exact ⟨rfl, B3⟩
        case round =>
          obtain ⟨rfl, hB⟩ := hrel
          go_wp2_with fail
          refine (awake_any _).mono ?_
          rintro e w8 ⟨rfl, hb⟩
          have B8 := Lib.hid (hB.out.trans (hb.mono hB.out.size))
          clear hb
          go_wp2_with fail
          go_ret
          exact ⟨rfl, B8.out⟩
      · have d1 : decide (k ≥ 0) = true := by simp; omega
        have d2 : decide (k ≤ 4) = false := by simp; omega
        go_wp2_with fail
        go_loopw [8] (fun iv wr => iv = .int .i64 ((0 : Nat) : Int) ∧ Hid (Below w.heap.size w wr)) (fun _ _ => 0)
        case atStart => exact ⟨rfl, B3⟩
        case round =>
          obtain ⟨rfl, hB⟩ := hrel
          go_wp2_with fail
          refine (awake_any _).mono ?_
          rintro e w8 ⟨rfl, hb⟩
          have B8 := Lib.hid (hB.out.trans (hb.mono hB.out.size))
          clear hb
          go_wp2_with fail
          go_ret
          exact ⟨rfl, B8.out⟩
open Go.ChangeShapes Go.WideShapes Go.ChangeAt in
theorem autoStates_walk {H : Type} {enc : TypeId × Value → H} (W : World) (base : Nat) (v0 v1 v2 : Value) (d0 d1 d2 : DataW H) (p0 p1 p2 : List MemPlace)
    (h0 : DataW.Trod enc Try.prog W 0 (fun _ => true) true 22 v0 d0 p0) (h1 : DataW.Trod enc Try.prog W 0 (fun _ => true) true 22 v1 d1 p1) (h2 : DataW.Trod enc Try.prog W 0 (fun _ => true) true 3 v2 d2 p2)
    (o0 : Value.okWide Try.prog W .any base 22 v0) (o1 : Value.okWide Try.prog W .any base 22 v1) (o2 : Value.okWide Try.prog W .any base 3 v2) :
    Calls Try.prog 3 #[v0, v1, v2] W fun e w' => e = .returned (.bool true) ∧ RowKit.Below W.heap.size W w' := by
  obtain ⟨a, ra, ca, rfl, ha, _, hca, k1, k1'⟩ := open_runes_arg o0 h0
  obtain ⟨b, rb, cb, rfl, hb, _, hcb, k2, k2'⟩ := open_runes_arg o1 h1
  obtain ⟨x2, rfl, rfl, rfl, b2⟩ := open_int Try.underlying3 o2 h2
  exact autoStates_any ra rb a b _ _ ca cb x2 W ha hb (by unfold maxLen at k1; omega) (by unfold maxLen at k2; omega) hcb (by unfold maxLen at k2; omega)
end Go.Proofs.Ytgaenkckffjcaaa
