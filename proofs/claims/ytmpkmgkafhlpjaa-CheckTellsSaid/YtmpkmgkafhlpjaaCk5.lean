/- awake and great of the laws of check -/
import Derived.Test.YtmpkmgkafhlpjaaCk4
namespace Go.Proofs.Ytmpkmgkafhlpjaa
open Go.RowKit
set_option linter.unusedVariables false
set_option maxRecDepth 20000
abbrev cA : Tx := { data := #[97] }
theorem d_a_a : distS cA cA = 0 := by
  have l1 : lenS cA = 1 := by decide +kernel
  have r1 : intsN (runesS cA) = [97] := by decide +kernel
  have n1 : (runesS cA).length = 1 := by decide +kernel
  unfold distS
  rw [l1, r1, n1, if_pos (by decide)]
  have h0 : Ed.row [97] [97] 0 = [0, 1] := by rw [← upTo_row]; decide
  have h1 : Ed.row [97] [97] 1 = [1, 0] := by rw [← Ed.mix_all _ _ 0, h0]; decide
  rw [← Ed.row_getD _ _ 1 1 (by decide), h1]
  rfl
theorem top_a : topK [cA] cA 0 1 = [(0, cA)] := by
  have l1 : lenS cA = 1 := by decide +kernel
  have hm : mayP cA 0 1 := by unfold mayP; rw [l1]; omega
  have hn : nearL [cA] cA 0 = [(0, cA)] := by simp [nearL, d_a_a]
  have hs : sortK [((0 : Int), cA)] = [(0, cA)] := sortK_same (by simp [SortedK])
  unfold topK allK
  rw [if_pos hm, hn, hs]
  rfl
theorem holdsT_lit1 (w : World) (a : Tx) (e : TypeId) (fr : Nat × Nat) : HoldsT (w.alloc (.cells #[.string a] e fr)) (some ⟨w.heap.size, 0, none⟩) 1 [a] := by
  refine ⟨rfl, fun _ => ⟨w.heap.size, 0, rfl, fun i hi => ?_⟩⟩
  obtain rfl : i = 0 := by omega
  rw [Nat.zero_add, World.cell?_alloc_mark]; rfl
theorem holdsK_lit1 (w : World) (a : KV) (e : TypeId) (fr : Nat × Nat) : HoldsK (w.alloc (.cells #[.int .i64 a.1, .string a.2] e fr)) (some ⟨w.heap.size, 0, none⟩) 1 [a] := by
  refine ⟨rfl, fun _ => ⟨w.heap.size, 0, rfl, fun i hi => ?_⟩⟩
  obtain rfl : i = 0 := by omega
  rw [Nat.zero_mul, Nat.zero_add, World.cell?_alloc_mark]
  exact ⟨by simp, by rw [World.cell?_alloc_mark]; simp⟩
set_option maxHeartbeats 3200000 in
theorem awake28_any (w : World) : Calls Try.prog 7 #[] w fun e w' => e = .returned (.bool true) ∧ Below w.heap.size w w' := by
  go_enter Try.func7, Try.ntmps7
  go_upto_region 5 with fail
  have hA := box7_new w (.int .i64 0) (.string cA) (.int .i64 0) (.int .i64 1) (.slice none 0 0) (.bool false) (.bool false) 27
  have B1 := below_one w (.cells #[.int .i64 0, .string cA, .int .i64 0, .int .i64 1, .slice none 0 0, .bool false, .bool false] 27)
  have z1 : (w.alloc (.cells #[.int .i64 0, .string cA, .int .i64 0, .int .i64 1, .slice none 0 0, .bool false, .bool false] 27)).heap.size = w.heap.size + 1 := by simp
  generalize w.alloc (.cells #[.int .i64 0, .string cA, .int .i64 0, .int .i64 1, .slice none 0 0, .bool false, .bool false] 27) = w1 at *
  have hC := box7_new w1 (.int .i64 0) (.string cA) (.int .i64 0) (.int .i64 1) (.slice (some ⟨w.heap.size + 1 + 1, 0, none⟩) 1 1) (.bool true) (.bool false) 27
  have b2 := below_one w1 (.cells #[.int .i64 0, .string cA, .int .i64 0, .int .i64 1, .slice (some ⟨w.heap.size + 1 + 1, 0, none⟩) 1 1, .bool true, .bool false] 27)
  have z2 : (w1.alloc (.cells #[.int .i64 0, .string cA, .int .i64 0, .int .i64 1, .slice (some ⟨w.heap.size + 1 + 1, 0, none⟩) 1 1, .bool true, .bool false] 27)).heap.size = w.heap.size + 1 + 1 := by simp [z1]
  rw [z1] at hC
  generalize w1.alloc (.cells #[.int .i64 0, .string cA, .int .i64 0, .int .i64 1, .slice (some ⟨w.heap.size + 1 + 1, 0, none⟩) 1 1, .bool true, .bool false] 27) = w2 at *
  have hK := holdsK_lit1 w2 (0, cA) 36 (0, 0)
  have b3 := below_one w2 (.cells #[.int .i64 0, .string cA] 36)
  have z3 : (w2.alloc (.cells #[.int .i64 0, .string cA] 36)).heap.size = w.heap.size + 1 + 1 + 1 := by simp [z2]
  rw [z2] at hK
  have HA3 := Lib.hid (box7_carry (box7_carry hA b2) b3)
  have HC3 := Lib.hid (box7_carry hC b3)
  have B3 := Lib.hid ((B1.trans (b2.mono B1.size)).trans (b3.mono (by rw [z2]; omega)))
  have HK3 := Lib.hid hK
  simp only at HK3
  clear hA B1 z1 hC b2 hK b3 z2
  generalize w2.alloc (.cells #[.int .i64 0, .string cA] 36) = w3 at *
  have y1 : w.heap.size < w3.heap.size := by omega
  have y2 : w.heap.size + 1 < w3.heap.size := by omega
  obtain ⟨q2, hq2⟩ : ∃ q, w.heap.size + 1 = q := ⟨_, rfl⟩
  rw [hq2] at HC3 HK3 y2 z3
  simp only [hq2]
  obtain ⟨q3, hq3⟩ : ∃ q, q2 + 1 = q := ⟨_, rfl⟩
  rw [hq3] at HC3 HK3 z3
  simp only [hq3]
  obtain ⟨q1, hq1⟩ : ∃ q, w.heap.size = q := ⟨_, rfl⟩
  rw [hq1] at HA3 y1 B3
  simp only [hq1]
  have HQ1 := Lib.hid hq1
  have TA := Lib.hid top_a
  have c1 : ∀ x ∈ [cA], x.size ≤ 1048576 := by intro x hx; simp at hx; subst hx; decide
  have C1 := Lib.hid c1
  have CP := Lib.hid (fun w a (h : HoldsT w a 1 [cA]) => prefix_any a 1 1 [cA] 0 0 1 cA none 0 0 [] false false true w h (by omega) C1.out (by decide) (HoldsK.nil _ _) (by omega) (by rw [TA.out]; rfl))
  clear hq1 hq2 hq3 z3 c1
  obtain ⟨-, e0, e1, e2, e3, e4, e5, e6⟩ := HA3.out
  obtain ⟨-, f0, f1, f2, f3, f4, f5, f6⟩ := HC3.out
  have CC := Lib.hid (fun w a (h : HoldsT w a 1 [cA]) => complete_any a 1 1 [cA] 0 0 1 cA none 0 0 [] false false false w h (by omega) C1.out (by decide) (HoldsK.nil _ _) (by omega) (by rw [TA.out]; rfl))
  have CR := Lib.hid (fun w a (h : HoldsT w a 1 [cA]) (h2 : HoldsK w (some ⟨q3, 0, none⟩) 1 [(0, cA)]) => right_any a 1 1 [cA] 0 0 1 cA (some ⟨q3, 0, none⟩) 1 1 [(0, cA)] true false true w h (by omega) C1.out (by decide) h2 (by omega) (by unfold rightB; rw [TA.out]; rfl))
  have CL1 := Lib.hid (fun w (h2 : HoldsK w (some ⟨q3, 0, none⟩) 1 [(0, cA)]) => later_any 0 cA 0 1 none 0 0 [] false false 0 cA 0 1 (some ⟨q3, 0, none⟩) 1 1 [(0, cA)] true false true w (HoldsK.nil _ _) h2 (by omega) (by omega) (by simp [laterB, bgB]))
  have CL2 := Lib.hid (fun w (h2 : HoldsK w (some ⟨q3, 0, none⟩) 1 [(0, cA)]) => later_any 0 cA 0 1 (some ⟨q3, 0, none⟩) 1 1 [(0, cA)] true false 0 cA 0 1 none 0 0 [] false false false w h2 (HoldsK.nil _ _) (by omega) (by omega) (by simp [laterB, bgB]))
  go_wp2_with fail
  refine (CP.out _ _ (holdsT_lit1 w3 cA _ _)).mono ?_
  rintro e w4 ⟨rfl, hb4⟩
  have bb4 := (below_one w3 (.cells #[.string cA] 9)).trans (hb4.mono (by simp))
  clear hb4
  have HA4 := Lib.hid (box7_carry HA3.out bb4)
  have HC4 := Lib.hid (box7_carry HC3.out bb4)
  have HK4 := Lib.hid (HK3.out.below bb4)
  have B4 := Lib.hid (B3.out.trans (bb4.mono (by have h1 := B3.out.size; have h2 := HQ1.out; omega)))
  have y1 : q1 < w4.heap.size := Nat.lt_of_lt_of_le y1 bb4.size
  have y2 : q2 < w4.heap.size := Nat.lt_of_lt_of_le y2 bb4.size
  clear bb4 e0 e1 e2 e3 e4 e5 e6 f0 f1 f2 f3 f4 f5 f6 HA3 HC3 HK3 B3
  obtain ⟨-, e0, e1, e2, e3, e4, e5, e6⟩ := HA4.out
  obtain ⟨-, f0, f1, f2, f3, f4, f5, f6⟩ := HC4.out
  go_wp2_with fail
  refine (CC.out _ _ (holdsT_lit1 w4 cA _ _)).mono ?_
  rintro e w5 ⟨rfl, hb4⟩
  have bb4 := (below_one w4 (.cells #[.string cA] 9)).trans (hb4.mono (by simp))
  clear hb4
  have HA5 := Lib.hid (box7_carry HA4.out bb4)
  have HC5 := Lib.hid (box7_carry HC4.out bb4)
  have HK5 := Lib.hid (HK4.out.below bb4)
  have B5 := Lib.hid (B4.out.trans (bb4.mono (by have h1 := B4.out.size; have h2 := HQ1.out; omega)))
  have y1 : q1 < w5.heap.size := Nat.lt_of_lt_of_le y1 bb4.size
  have y2 : q2 < w5.heap.size := Nat.lt_of_lt_of_le y2 bb4.size
  clear bb4 e0 e1 e2 e3 e4 e5 e6 f0 f1 f2 f3 f4 f5 f6 HA4 HC4 HK4 B4
  obtain ⟨-, e0, e1, e2, e3, e4, e5, e6⟩ := HA5.out
  obtain ⟨-, f0, f1, f2, f3, f4, f5, f6⟩ := HC5.out
  go_wp2_with fail
  refine (CR.out _ _ (holdsT_lit1 w5 cA _ _) (HK5.out.below (below_one _ _))).mono ?_
  rintro e w6 ⟨rfl, hb4⟩
  have bb4 := (below_one w5 (.cells #[.string cA] 9)).trans (hb4.mono (by simp))
  clear hb4
  have HA6 := Lib.hid (box7_carry HA5.out bb4)
  have HC6 := Lib.hid (box7_carry HC5.out bb4)
  have HK6 := Lib.hid (HK5.out.below bb4)
  have B6 := Lib.hid (B5.out.trans (bb4.mono (by have h1 := B5.out.size; have h2 := HQ1.out; omega)))
  have y1 : q1 < w6.heap.size := Nat.lt_of_lt_of_le y1 bb4.size
  have y2 : q2 < w6.heap.size := Nat.lt_of_lt_of_le y2 bb4.size
  clear bb4 e0 e1 e2 e3 e4 e5 e6 f0 f1 f2 f3 f4 f5 f6 HA5 HC5 HK5 B5
  obtain ⟨-, e0, e1, e2, e3, e4, e5, e6⟩ := HA6.out
  obtain ⟨-, f0, f1, f2, f3, f4, f5, f6⟩ := HC6.out
  go_wp2_with fail
  refine (CL1.out _ HK6.out).mono ?_
  rintro e w7 ⟨rfl, bb4⟩
  have HA7 := Lib.hid (box7_carry HA6.out bb4)
  have HC7 := Lib.hid (box7_carry HC6.out bb4)
  have HK7 := Lib.hid (HK6.out.below bb4)
  have B7 := Lib.hid (B6.out.trans (bb4.mono (by have h1 := B6.out.size; have h2 := HQ1.out; omega)))
  have y1 : q1 < w7.heap.size := Nat.lt_of_lt_of_le y1 bb4.size
  have y2 : q2 < w7.heap.size := Nat.lt_of_lt_of_le y2 bb4.size
  clear bb4 e0 e1 e2 e3 e4 e5 e6 f0 f1 f2 f3 f4 f5 f6 HA6 HC6 HK6 B6
  obtain ⟨-, e0, e1, e2, e3, e4, e5, e6⟩ := HA7.out
  obtain ⟨-, f0, f1, f2, f3, f4, f5, f6⟩ := HC7.out
  go_wp2_with fail
  refine (CL2.out _ HK7.out).mono ?_
  rintro e w8 ⟨rfl, bb4⟩
  have HA8 := Lib.hid (box7_carry HA7.out bb4)
  have HC8 := Lib.hid (box7_carry HC7.out bb4)
  have HK8 := Lib.hid (HK7.out.below bb4)
  have B8 := Lib.hid (B7.out.trans (bb4.mono (by have h1 := B7.out.size; have h2 := HQ1.out; omega)))
  have y1 : q1 < w8.heap.size := Nat.lt_of_lt_of_le y1 bb4.size
  have y2 : q2 < w8.heap.size := Nat.lt_of_lt_of_le y2 bb4.size
  clear bb4 e0 e1 e2 e3 e4 e5 e6 f0 f1 f2 f3 f4 f5 f6 HA7 HC7 HK7 B7
  obtain ⟨-, e0, e1, e2, e3, e4, e5, e6⟩ := HA8.out
  obtain ⟨-, f0, f1, f2, f3, f4, f5, f6⟩ := HC8.out
  go_wp2_with fail
  go_ret
  exact ⟨rfl, by have := B8.out; rw [← HQ1.out] at this; exact this⟩
/-- is there more than is gone through? -/
def great28B (ws : List Tx) (xs ys : List KV) (p q : Tx) : Bool := greatB ws || greatKB xs || greatKB ys || decide (100 < p.size) || decide (100 < q.size)
theorem great28_no {ws : List Tx} {xs ys : List KV} {p q : Tx} (h : great28B ws xs ys p q = false) : greatB ws = false ∧ greatKB xs = false ∧ greatKB ys = false ∧ p.size ≤ 100 ∧ q.size ≤ 100 := by
  unfold great28B at h
  simp only [Bool.or_eq_false_iff, decide_eq_false_iff_not] at h
  exact ⟨h.1.1.1.1, h.1.1.1.2, h.1.1.2, by omega, by omega⟩
set_option maxHeartbeats 3200000 in
theorem great28_any (aw : Option Addr) (nw cw : Nat) (ws : List Tx) (i1 : Int) (q1 : Tx) (k1 m1 : Int) (a : Option Addr) (n ca : Nat) (xs : List KV) (d1 l1 : Bool) (i2 : Int) (q2 : Tx) (k2 m2 : Int) (b : Option Addr) (m cb : Nat) (ys : List KV) (d2 l2 f : Bool) (w : World) (hw : HoldsT w aw nw ws) (hnw : nw ≤ 9223372036854775807) (hsw : ∀ t ∈ ws, t.size ≤ 9223372036854775807) (h1 : HoldsK w a n xs) (h2 : HoldsK w b m ys) (hn : n ≤ 9223372036854775807) (hm : m ≤ 9223372036854775807) (sx : ∀ k ∈ xs, k.2.size ≤ 9223372036854775807) (sy : ∀ k ∈ ys, k.2.size ≤ 9223372036854775807) (hq1 : q1.size ≤ 9223372036854775807) (hq2 : q2.size ≤ 9223372036854775807) (hf : great28B ws xs ys q1 q2 = f) :
    Calls Try.prog 6 #[.slice aw nw cw, .agg #[.int .i64 i1, .string q1, .int .i64 k1, .int .i64 m1, .slice a n ca, .bool d1, .bool l1], .agg #[.int .i64 i2, .string q2, .int .i64 k2, .int .i64 m2, .slice b m cb, .bool d2, .bool l2]] w fun e w' => e = .returned (.bool f) ∧ Below w.heap.size w w' := by
  have B0 := Lib.hid (below_one w (.cells #[.int .i64 i1, .string q1, .int .i64 k1, .int .i64 m1, .slice a n ca, .bool d1, .bool l1] 27))
  have HB := Lib.hid (box7_new w (.int .i64 i1) (.string q1) (.int .i64 k1) (.int .i64 m1) (.slice a n ca) (.bool d1) (.bool l1) 27)
  have H0 := Lib.hid (hw.below B0.out); have H1 := Lib.hid (h1.below B0.out); have H2 := Lib.hid (h2.below B0.out)
  obtain ⟨g0, hg0⟩ : ∃ g, greatB ws = g := ⟨_, rfl⟩
  obtain ⟨g1, hg1⟩ : ∃ g, greatKB xs = g := ⟨_, rfl⟩
  obtain ⟨g2, hg2⟩ : ∃ g, greatKB ys = g := ⟨_, rfl⟩
  have C0 := Lib.hid (fun w (h : HoldsT w aw nw ws) => hg0 ▸ great_any aw nw cw ws w h hnw hsw)
  have C1 := Lib.hid (fun w (h : HoldsK w a n xs) => hg1 ▸ greatK_any a n ca xs w h hn sx)
  have C2 := Lib.hid (fun w (h : HoldsK w b m ys) => hg2 ▸ greatK_any b m cb ys w h hm sy)
  have HF := Lib.hid (show (g0 || g1 || g2 || decide (100 < q1.size) || decide (100 < q2.size)) = f by rw [← hf, ← hg0, ← hg1, ← hg2]; rfl)
  clear hw h1 h2 hsw sx sy hf hg0 hg1 hg2
  go_enter Try.func6, Try.ntmps6
  go_upto_region 1 with fail
  have hr : (w.alloc (.cells #[.int .i64 i1, .string q1, .int .i64 k1, .int .i64 m1, .slice a n ca, .bool d1, .bool l1] 27)).heap.size = w.heap.size + 1 := by simp
  generalize w.alloc (.cells #[.int .i64 i1, .string q1, .int .i64 k1, .int .i64 m1, .slice a n ca, .bool d1, .bool l1] 27) = w1 at *
  have hb1 := below_one w1 (.cells #[.int .i64 i2, .string q2, .int .i64 k2, .int .i64 m2, .slice b m cb, .bool d2, .bool l2] 27)
  have B1 := Lib.hid (B0.out.trans (hb1.mono B0.out.size))
  have HA1 := Lib.hid (box7_carry HB.out hb1)
  have HC1 := Lib.hid (box7_new w1 (.int .i64 i2) (.string q2) (.int .i64 k2) (.int .i64 m2) (.slice b m cb) (.bool d2) (.bool l2) 27)
  have K0 := Lib.hid (H0.out.below hb1); have K1 := Lib.hid (H1.out.below hb1); have K2 := Lib.hid (H2.out.below hb1)
  clear hb1 HB B0 H0 H1 H2
  rw [hr] at HC1
  generalize w1.alloc (.cells #[.int .i64 i2, .string q2, .int .i64 k2, .int .i64 m2, .slice b m cb, .bool d2, .bool l2] 27) = w2 at *
  obtain ⟨r, hr2⟩ : ∃ r, w.heap.size + 1 = r := ⟨_, rfl⟩
  rw [hr2] at HC1
  simp only [hr2]
  clear hr hr2
  go_wp2_with fail
  refine (C0.out _ K0.out).mono ?_
  rintro e w3 ⟨rfl, hb⟩
  have B3 := Lib.hid (B1.out.trans (hb.mono B1.out.size))
  have HA3 := Lib.hid (box7_carry HA1.out hb)
  have HC3 := Lib.hid (box7_carry HC1.out hb)
  have K3 := Lib.hid (K1.out.below hb); have K4 := Lib.hid (K2.out.below hb)
  clear hb HA1 HC1 K0 K1 K2 B1
  obtain ⟨-, e0, e1, e2, e3, e4, e5, e6⟩ := HA3.out
  obtain ⟨-, f0, f1, f2, f3, f4, f5, f6⟩ := HC3.out
  cases g0 with
  | true =>
    obtain rfl : true = f := by simpa using HF.out
    go_wp2_with fail
    go_ret
    exact ⟨rfl, B3.out⟩
  | false =>
    go_wp2_with fail
    refine (C1.out _ K3.out).mono ?_
    rintro e w4 ⟨rfl, rfl⟩
    cases g1 with
    | true =>
      obtain rfl : true = f := by simpa using HF.out
      go_wp2_with fail
      go_ret
      exact ⟨rfl, B3.out⟩
    | false =>
      go_wp2_with fail
      refine (C2.out _ K4.out).mono ?_
      rintro e w4 ⟨rfl, rfl⟩
      cases g2 with
      | true =>
        obtain rfl : true = f := by simpa using HF.out
        go_wp2_with fail
        go_ret
        exact ⟨rfl, B3.out⟩
      | false =>
        by_cases z1 : 100 < q1.size
        · obtain rfl : true = f := by have := HF.out; simp [z1] at this; exact this.symm
          go_wp2_with fail
          go_ret
          exact ⟨rfl, B3.out⟩
        · have z1' : q1.size ≤ 100 := by omega
          by_cases z2 : 100 < q2.size
          · obtain rfl : true = f := by have := HF.out; simp [z2] at this; exact this.symm
            clear z1
            go_wp2_with fail
            go_ret
            exact ⟨ret_bool (by simp <;> omega), B3.out⟩
          · obtain rfl : false = f := by have := HF.out; simp [z1, z2] at this; exact this.symm
            have z2' : q2.size ≤ 100 := by omega
            clear z1 z2
            go_wp2_with fail
            go_ret
            exact ⟨ret_bool (by simp <;> omega), B3.out⟩
end Go.Proofs.Ytmpkmgkafhlpjaa
