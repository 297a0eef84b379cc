/- the laws of check: CheckTells -/
import Derived.Test.YtmpkmgkafhlpjaaPkB
namespace Go.Proofs.Ytmpkmgkafhlpjaa
open Go.RowKit
set_option linter.unusedVariables false
set_option maxRecDepth 20000
theorem cellsK_bool : Try.prog.cellsOf 4 = 1 := by kernel_rfl
theorem cellsK_query : Try.prog.cellsOf 24 = 3 := by kernel_rfl
theorem cellsK_items : Try.prog.cellsOf 25 = 1 := by kernel_rfl
open Go.ChangeShapes Go.WideShapes Go.ChangeAt in
theorem told_arg {H : Type} {enc : TypeId × Value → H} {W : World} {base : Nat} {v : Value} {d : DataW H} {p : List MemPlace}
    (hv : Value.okWide Try.prog W .any base 27 v) (h : DataW.Trod enc Try.prog W 0 (fun _ => true) true 27 v d p) :
    ∃ (i : Int) (q : Tx) (k m : Int) (a : Option Addr) (n c : Nat) (xs : List KV) (dn l : Bool), v = .agg #[.int .i64 i, .string q, .int .i64 k, .int .i64 m, .slice a n c, .bool dn, .bool l] ∧ HoldsK W a n xs ∧ (a = none → n = 0 ∧ c = 0) ∧ n ≤ c ∧ n ≤ 9223372036854775807 ∧ (∀ x ∈ xs, KeyOk x) ∧ q.size ≤ 9223372036854775807 := by
  obtain ⟨cs, rfl, hsz⟩ := okWide_struct Try.underlying27 hv
  obtain ⟨fuel, hf⟩ := h
  obtain ⟨hl, n, hf2⟩ := struct_cells Try.underlying27 hf
  rw [show Try.prog.cellsOf 27 = 7 by kernel_rfl] at hl
  obtain ⟨c0, c1, c2, c3, c4, c5, c6, hcs⟩ := list7 hl
  rw [hcs] at hf2
  obtain ⟨y0, z0⟩ := hf2 0 _ rfl
  obtain ⟨y1, z1⟩ := hf2 1 _ rfl
  obtain ⟨y2, z2⟩ := hf2 2 _ rfl
  obtain ⟨y3, z3⟩ := hf2 3 _ rfl
  obtain ⟨y4, z4⟩ := hf2 4 _ rfl
  simp [cellsK_int, cellsK_query, cellsK_items, cellsK_bool] at z0 z1 z2 z3 z4
  obtain ⟨k0, h0, _, _⟩ := DataW.trod_int Try.underlying3 z0
  obtain ⟨d5, h5, _⟩ := DataW.trod_bool Try.underlying4 z3
  obtain ⟨d6, h6, _⟩ := DataW.trod_bool Try.underlying4 z4
  obtain ⟨_, n2, hq⟩ := struct_cells Try.underlying24 z1
  obtain ⟨yq, zq⟩ := hq 0 _ rfl
  obtain ⟨yk, zk⟩ := hq 1 _ rfl
  obtain ⟨ym, zm⟩ := hq 2 _ rfl
  simp [cellsK_int, cellsK_str] at zq zk zm
  obtain ⟨q, hq1, _, bq⟩ := DataW.trod_string Try.underlying9 zq
  obtain ⟨k, hk1, _, _⟩ := DataW.trod_int Try.underlying3 zk
  obtain ⟨m, hm1, _, _⟩ := DataW.trod_int Try.underlying3 zm
  obtain ⟨a, na, ca, xs, hx, g1, g2, g3, g4, g5⟩ := open_pairs_cell Try.underlying25 Try.underlying36 (by kernel_rfl) rfl rfl ⟨rfl, rfl⟩ ⟨rfl, rfl⟩ z2
  simp at h0 h5 h6 hq1 hk1 hm1
  subst h0 h5 h6 hq1 hk1 hm1 hx
  refine ⟨k0, q, k, m, a, na, ca, xs, d5, d6, ?_, g1, g2, g3, g4, g5, by unfold maxLen at bq; exact bq⟩
  congr 1
  apply Array.toList_inj.1
  simpa [Value.cells] using hcs
def Box14 (w0 : World) (p r : Nat) (v0 v1 v2 v3 v4 v5 v6 u0 u1 u2 u3 u4 u5 u6 : Value) (w : World) : Prop := Below w0.heap.size w0 w ∧ w.cell? ⟨p, 0, none⟩ = some v0 ∧ w.cell? ⟨p, 1, none⟩ = some v1 ∧ w.cell? ⟨p, 2, none⟩ = some v2 ∧ w.cell? ⟨p, 3, none⟩ = some v3 ∧ w.cell? ⟨p, 4, none⟩ = some v4 ∧ w.cell? ⟨p, 5, none⟩ = some v5 ∧ w.cell? ⟨p, 6, none⟩ = some v6 ∧ w.cell? ⟨r, 0, none⟩ = some u0 ∧ w.cell? ⟨r, 1, none⟩ = some u1 ∧ w.cell? ⟨r, 2, none⟩ = some u2 ∧ w.cell? ⟨r, 3, none⟩ = some u3 ∧ w.cell? ⟨r, 4, none⟩ = some u4 ∧ w.cell? ⟨r, 5, none⟩ = some u5 ∧ w.cell? ⟨r, 6, none⟩ = some u6
theorem box14_carry {w0 w w' : World} {p r : Nat} {v0 v1 v2 v3 v4 v5 v6 u0 u1 u2 u3 u4 u5 u6 : Value} (h : Box14 w0 p r v0 v1 v2 v3 v4 v5 v6 u0 u1 u2 u3 u4 u5 u6 w) (hb : Below w.heap.size w w') : Box14 w0 p r v0 v1 v2 v3 v4 v5 v6 u0 u1 u2 u3 u4 u5 u6 w' := by
  obtain ⟨h, h0, h1, h2, h3, h4, h5, h6, g0, g1, g2, g3, g4, g5, g6⟩ := h
  have l := lt_of_cell h0
  have m := lt_of_cell g0
  exact ⟨h.trans (hb.mono h.size), (hb.cell (p := ⟨p, 0, none⟩) l).trans h0, (hb.cell (p := ⟨p, 1, none⟩) l).trans h1, (hb.cell (p := ⟨p, 2, none⟩) l).trans h2, (hb.cell (p := ⟨p, 3, none⟩) l).trans h3, (hb.cell (p := ⟨p, 4, none⟩) l).trans h4, (hb.cell (p := ⟨p, 5, none⟩) l).trans h5, (hb.cell (p := ⟨p, 6, none⟩) l).trans h6,
    (hb.cell (p := ⟨r, 0, none⟩) m).trans g0, (hb.cell (p := ⟨r, 1, none⟩) m).trans g1, (hb.cell (p := ⟨r, 2, none⟩) m).trans g2, (hb.cell (p := ⟨r, 3, none⟩) m).trans g3, (hb.cell (p := ⟨r, 4, none⟩) m).trans g4, (hb.cell (p := ⟨r, 5, none⟩) m).trans g5, (hb.cell (p := ⟨r, 6, none⟩) m).trans g6⟩
set_option maxRecDepth 100000 in
set_option maxHeartbeats 6400000 in
theorem checkTells_law (aw : Option Addr) (nw cw : Nat) (ws : List Tx) (i1 : Int) (q1 : Tx) (k1 m1 : Int) (a : Option Addr) (n ca : Nat) (xs : List KV) (d1 l1 : Bool) (i2 : Int) (q2 : Tx) (k2 m2 : Int) (b : Option Addr) (m cb : Nat) (ys : List KV) (d2 l2 : Bool) (w : World) (hw : HoldsT w aw nw ws) (hnw : nw ≤ 9223372036854775807) (hsw : ∀ t ∈ ws, t.size ≤ 9223372036854775807) (h1 : HoldsK w a n xs) (h2 : HoldsK w b m ys) (hn : n ≤ 9223372036854775807) (hm : m ≤ 9223372036854775807) (sx : ∀ k ∈ xs, k.2.size ≤ 9223372036854775807) (sy : ∀ k ∈ ys, k.2.size ≤ 9223372036854775807) (hq1 : q1.size ≤ 9223372036854775807) (hq2 : q2.size ≤ 9223372036854775807) :
    Calls Try.prog 3 #[.slice aw nw cw, .agg #[.int .i64 i1, .string q1, .int .i64 k1, .int .i64 m1, .slice a n ca, .bool d1, .bool l1], .agg #[.int .i64 i2, .string q2, .int .i64 k2, .int .i64 m2, .slice b m cb, .bool d2, .bool l2]] w fun e w' => e = .returned (.bool true) ∧ Below w.heap.size w w' := by
  have lw := hw.len; have lx := h1.len; have ly := h2.len
  have B0 := Lib.hid (below_one w (.cells #[.int .i64 i1, .string q1, .int .i64 k1, .int .i64 m1, .slice a n ca, .bool d1, .bool l1] 27))
  have HB := Lib.hid (box7_new w (.int .i64 i1) (.string q1) (.int .i64 k1) (.int .i64 m1) (.slice a n ca) (.bool d1) (.bool l1) 27)
  have H0 := Lib.hid (hw.below B0.out); have H1 := Lib.hid (h1.below B0.out); have H2 := Lib.hid (h2.below B0.out)
  obtain ⟨g, hg⟩ : ∃ g, great28B ws xs ys q1 q2 = g := ⟨_, rfl⟩
  have CG := Lib.hid (fun w (h0 : HoldsT w aw nw ws) (h1 : HoldsK w a n xs) (h2 : HoldsK w b m ys) => great28_any aw nw cw ws i1 q1 k1 m1 a n ca xs d1 l1 i2 q2 k2 m2 b m cb ys d2 l2 g w h0 hnw hsw h1 h2 hn hm sx sy hq1 hq2 hg)
  have HG := Lib.hid hg
  have LW := Lib.hid lw; have LX := Lib.hid lx; have LY := Lib.hid ly
  clear hw h1 h2 hsw sx sy hg lw lx ly
  go_enter Try.func3, Try.ntmps3
  go_upto_region 1 with fail
  have hr : (w.alloc (.cells #[.int .i64 i1, .string q1, .int .i64 k1, .int .i64 m1, .slice a n ca, .bool d1, .bool l1] 27)).heap.size = w.heap.size + 1 := by simp
  generalize w.alloc (.cells #[.int .i64 i1, .string q1, .int .i64 k1, .int .i64 m1, .slice a n ca, .bool d1, .bool l1] 27) = w1 at *
  have hb1 := below_one w1 (.cells #[.int .i64 i2, .string q2, .int .i64 k2, .int .i64 m2, .slice b m cb, .bool d2, .bool l2] 27)
  have B1 := Lib.hid (B0.out.trans (hb1.mono B0.out.size))
  have HA1 := Lib.hid (box7_carry HB.out hb1)
  have HC1 := Lib.hid (box7_new w1 (.int .i64 i2) (.string q2) (.int .i64 k2) (.int .i64 m2) (.slice b m cb) (.bool d2) (.bool l2) 27)
  have K0 := Lib.hid (H0.out.below hb1); have K1 := Lib.hid (H1.out.below hb1); have K2 := Lib.hid (H2.out.below hb1)
  clear hb1 HB B0 H0 H1 H2
  rw [hr] at HC1
  generalize w1.alloc (.cells #[.int .i64 i2, .string q2, .int .i64 k2, .int .i64 m2, .slice b m cb, .bool d2, .bool l2] 27) = w2 at *
  obtain ⟨r, hr2⟩ : ∃ r, w.heap.size + 1 = r := ⟨_, rfl⟩
  rw [hr2] at HC1
  simp only [hr2]
  clear hr hr2
  obtain ⟨-, e0, e1, e2, e3, e4, e5, e6⟩ := HA1.out
  obtain ⟨-, f0, f1, f2, f3, f4, f5, f6⟩ := HC1.out
  go_wp2_with fail
  refine (CG.out _ K0.out K1.out K2.out).mono ?_
  rintro e w3 ⟨rfl, hb⟩
  have B3 := Lib.hid (B1.out.trans (hb.mono B1.out.size))
  have HA3 := Lib.hid (box7_carry HA1.out hb)
  have HC3 := Lib.hid (box7_carry HC1.out hb)
  have K3 := Lib.hid (K0.out.below hb); have K4 := Lib.hid (K1.out.below hb); have K5 := Lib.hid (K2.out.below hb)
  clear hb HA1 HC1 K0 K1 K2 B1 e0 e1 e2 e3 e4 e5 e6 f0 f1 f2 f3 f4 f5 f6
  cases g with
  | true =>
    go_wp2_with fail
    refine (awake28_any _).mono ?_
    rintro e w9 ⟨rfl, hb9⟩
    go_wp2_with fail
    go_ret
    exact ⟨rfl, B3.out.trans (hb9.mono B3.out.size)⟩
  | false =>
    obtain ⟨n0, n1, n2, n3, n4⟩ := great28_no HG.out
    obtain ⟨n5, hsw⟩ := great_no_iff.1 n0
    have n6 := (greatK_no_iff.1 n1).1
    have n7 := (greatK_no_iff.1 n2).1
    have SW := Lib.hid (show ∀ t ∈ ws, t.size ≤ 1048576 from fun t ht => by have := hsw t ht; omega)
    have hnw80 : nw ≤ 80 := by have := LW.out; omega
    have hn80 : n ≤ 80 := by have := LX.out; omega
    have hm80 : m ≤ 80 := by have := LY.out; omega
    clear n0 n1 n2 n5 n6 n7 hsw
    obtain ⟨fP, hfP⟩ : ∃ f, bgB xs (topK ws q1 k1 m1) = f := ⟨_, rfl⟩
    obtain ⟨fC, hfC⟩ : ∃ f, decide (xs = topK ws q1 k1 m1) = f := ⟨_, rfl⟩
    obtain ⟨fR, hfR⟩ : ∃ f, rightB ws q1 k1 m1 xs d1 l1 = f := ⟨_, rfl⟩
    obtain ⟨fL, hfL⟩ : ∃ f, laterB i1 q1 k1 m1 xs d1 l1 i2 q2 k2 m2 ys d2 l2 = f := ⟨_, rfl⟩
    have C1 := Lib.hid (fun w (h0 : HoldsT w aw nw ws) (h1 : HoldsK w a n xs) => prefix_any aw nw cw ws i1 k1 m1 q1 a n ca xs d1 l1 fP w h0 (by omega) SW.out (by omega) h1 (by omega) hfP)
    have C2 := Lib.hid (fun w (h0 : HoldsT w aw nw ws) (h1 : HoldsK w a n xs) => rprefix_any aw nw cw ws i1 k1 m1 q1 a n ca xs d1 l1 fP w h0 (by omega) SW.out (by omega) h1 (by omega) hfP)
    have C3 := Lib.hid (fun w (h0 : HoldsT w aw nw ws) (h1 : HoldsK w a n xs) => complete_any aw nw cw ws i1 k1 m1 q1 a n ca xs d1 l1 fC w h0 (by omega) SW.out (by omega) h1 (by omega) hfC)
    have C4 := Lib.hid (fun w (h0 : HoldsT w aw nw ws) (h1 : HoldsK w a n xs) => rcomplete_any aw nw cw ws i1 k1 m1 q1 a n ca xs d1 l1 fC w h0 (by omega) SW.out (by omega) h1 (by omega) hfC)
    have C5 := Lib.hid (fun w (h0 : HoldsT w aw nw ws) (h1 : HoldsK w a n xs) => right_any aw nw cw ws i1 k1 m1 q1 a n ca xs d1 l1 fR w h0 (by omega) SW.out (by omega) h1 (by omega) hfR)
    have C6 := Lib.hid (fun w (h0 : HoldsT w aw nw ws) (h1 : HoldsK w a n xs) => rright_any aw nw cw ws i1 k1 m1 q1 a n ca xs d1 l1 fR w h0 (by omega) SW.out (by omega) h1 (by omega) hfR)
    have C7 := Lib.hid (fun w (h1 : HoldsK w a n xs) (h2 : HoldsK w b m ys) => later_any i1 q1 k1 m1 a n ca xs d1 l1 i2 q2 k2 m2 b m cb ys d2 l2 fL w h1 h2 (by omega) (by omega) hfL)
    have C8 := Lib.hid (fun w (h1 : HoldsK w a n xs) (h2 : HoldsK w b m ys) => rlater_any i1 q1 k1 m1 a n ca xs d1 l1 i2 q2 k2 m2 b m cb ys d2 l2 fL w h1 h2 (by omega) (by omega) hfL)
    have g1 : (fP == fP) = true := by simp
    have g2 : (fC == fC) = true := by simp
    have g3 : (fR == fR) = true := by simp
    have g4 : (fL == fL) = true := by simp
    have T := Lib.hid (show Box14 w3 w.heap.size r (.int .i64 i1) (.string q1) (.int .i64 k1) (.int .i64 m1) (.slice a n ca) (.bool d1) (.bool l1) (.int .i64 i2) (.string q2) (.int .i64 k2) (.int .i64 m2) (.slice b m cb) (.bool d2) (.bool l2) w3 from by
      obtain ⟨-, e0, e1, e2, e3, e4, e5, e6⟩ := HA3.out
      obtain ⟨-, f0, f1, f2, f3, f4, f5, f6⟩ := HC3.out
      exact ⟨Below.refl _ _, e0, e1, e2, e3, e4, e5, e6, f0, f1, f2, f3, f4, f5, f6⟩)
    clear hfP hfC hfR hfL HA3 HC3
    go_upto_region 3 with fail
    go_region_held3 (fun w' => Below w3.heap.size w3 w' ∧ w'.cell? ⟨w.heap.size, 0, none⟩ = some (.int .i64 i1) ∧ w'.cell? ⟨w.heap.size, 1, none⟩ = some (.string q1) ∧ w'.cell? ⟨w.heap.size, 2, none⟩ = some (.int .i64 k1) ∧ w'.cell? ⟨w.heap.size, 3, none⟩ = some (.int .i64 m1) ∧ w'.cell? ⟨w.heap.size, 4, none⟩ = some (.slice a n ca) ∧ w'.cell? ⟨w.heap.size, 5, none⟩ = some (.bool d1) ∧ w'.cell? ⟨w.heap.size, 6, none⟩ = some (.bool l1) ∧ w'.cell? ⟨r, 0, none⟩ = some (.int .i64 i2) ∧ w'.cell? ⟨r, 1, none⟩ = some (.string q2) ∧ w'.cell? ⟨r, 2, none⟩ = some (.int .i64 k2) ∧ w'.cell? ⟨r, 3, none⟩ = some (.int .i64 m2) ∧ w'.cell? ⟨r, 4, none⟩ = some (.slice b m cb) ∧ w'.cell? ⟨r, 5, none⟩ = some (.bool d2) ∧ w'.cell? ⟨r, 6, none⟩ = some (.bool l2))
      (first | assumption | exact box14_carry T.out (Below.refl _ _).drew | exact box14_carry (by assumption) (by assumption))
      (first
        | (go_at_call 8; (with_reducible refine (C1.out _ (K3.out.below (And.left (by assumption))) (K4.out.below (And.left (by assumption)))).mono ?_); rintro e w' ⟨rfl, hb⟩)
        | (go_at_call 9; (with_reducible refine (C2.out _ (K3.out.below (And.left (by assumption))) (K4.out.below (And.left (by assumption)))).mono ?_); rintro e w' ⟨rfl, hb⟩)
        | (go_at_call 10; (with_reducible refine (C3.out _ (K3.out.below (And.left (by assumption))) (K4.out.below (And.left (by assumption)))).mono ?_); rintro e w' ⟨rfl, hb⟩)
        | (go_at_call 11; (with_reducible refine (C4.out _ (K3.out.below (And.left (by assumption))) (K4.out.below (And.left (by assumption)))).mono ?_); rintro e w' ⟨rfl, hb⟩)
        | (go_at_call 12; (with_reducible refine (C5.out _ (K3.out.below (And.left (by assumption))) (K4.out.below (And.left (by assumption)))).mono ?_); rintro e w' ⟨rfl, hb⟩)
        | (go_at_call 13; (with_reducible refine (C6.out _ (K3.out.below (And.left (by assumption))) (K4.out.below (And.left (by assumption)))).mono ?_); rintro e w' ⟨rfl, hb⟩)
        | (go_at_call 14; (with_reducible refine (C7.out _ (K4.out.below (And.left (by assumption))) (K5.out.below (And.left (by assumption)))).mono ?_); rintro e w' ⟨rfl, hb⟩)
        | (go_at_call 15; (with_reducible refine (C8.out _ (K4.out.below (And.left (by assumption))) (K5.out.below (And.left (by assumption)))).mono ?_); rintro e w' ⟨rfl, hb⟩)
        | (go_at_call 7; (with_reducible refine (awake28_any _).mono ?_); rintro e w' ⟨rfl, hb⟩))
    rename_i T5
    have hbT := T5.1
    clear T5 T
    go_wp2_with fail
    go_ret
    exact ⟨rfl, B3.out.trans (hbT.mono B3.out.size)⟩
open Go.ChangeShapes Go.WideShapes Go.ChangeAt in
theorem checkTells_walk {H : Type} {enc : TypeId × Value → H} (W : World) (base : Nat) (v0 v1 v2 : Value) (d0 d1 d2 : DataW H) (p0 p1 p2 : List MemPlace)
    (h0 : DataW.Trod enc Try.prog W 0 (fun _ => true) true 22 v0 d0 p0) (h1 : DataW.Trod enc Try.prog W 0 (fun _ => true) true 27 v1 d1 p1) (h2 : DataW.Trod enc Try.prog W 0 (fun _ => true) true 27 v2 d2 p2)
    (o0 : Value.okWide Try.prog W .any base 22 v0) (o1 : Value.okWide Try.prog W .any base 27 v1) (o2 : Value.okWide Try.prog W .any base 27 v2) :
    Calls Try.prog 3 #[v0, v1, v2] W fun e w' => e = .returned (.bool true) ∧ RowKit.Below W.heap.size W w' := by
  obtain ⟨a0, n0, c0, k0, rfl, x0, y0, z0, b0, s0⟩ := open_texts_arg o0 h0
  obtain ⟨i1, q1, k1, m1, a1, n1, c1, xs, dn1, l1, rfl, x1, _, _, b1, s1, bq1⟩ := told_arg o1 h1
  obtain ⟨i2, q2, k2, m2, a2, n2, c2, ys, dn2, l2, rfl, x2, _, _, b2, s2, bq2⟩ := told_arg o2 h2
  exact checkTells_law a0 n0 c0 k0 i1 q1 k1 m1 a1 n1 c1 xs dn1 l1 i2 q2 k2 m2 a2 n2 c2 ys dn2 l2 W x0 b0 s0 x1 x2 b1 b2 (fun k hk => (s1 k hk).2) (fun k hk => (s2 k hk).2) bq1 bq2
end Go.Proofs.Ytmpkmgkafhlpjaa
