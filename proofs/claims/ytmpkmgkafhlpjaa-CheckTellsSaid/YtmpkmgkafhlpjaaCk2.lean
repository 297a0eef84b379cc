/- contracts of check.Prefix, Complete, Right, Later and the document's -/
import Derived.Test.YtmpkmgkafhlpjaaCk1
import Derived.Test.YtmpkmgkafhlpjaaRk8
import Derived.Deep.RegionHeld3
namespace Go.Proofs.Ytmpkmgkafhlpjaa
open Go.RowKit
set_option linter.unusedVariables false
set_option maxRecDepth 20000
def Box7 (w0 : World) (p : Nat) (v0 v1 v2 v3 v4 v5 v6 : Value) (w : World) : Prop := Below w0.heap.size w0 w ∧ w.cell? ⟨p, 0, none⟩ = some v0 ∧ w.cell? ⟨p, 1, none⟩ = some v1 ∧ w.cell? ⟨p, 2, none⟩ = some v2 ∧ w.cell? ⟨p, 3, none⟩ = some v3 ∧ w.cell? ⟨p, 4, none⟩ = some v4 ∧ w.cell? ⟨p, 5, none⟩ = some v5 ∧ w.cell? ⟨p, 6, none⟩ = some v6
theorem box7_carry {w0 w w' : World} {p : Nat} {v0 v1 v2 v3 v4 v5 v6 : Value} (h : Box7 w0 p v0 v1 v2 v3 v4 v5 v6 w) (hb : Below w.heap.size w w') : Box7 w0 p v0 v1 v2 v3 v4 v5 v6 w' := by
  obtain ⟨h, h0, h1, h2, h3, h4, h5, h6⟩ := h
  have l := lt_of_cell h0
  exact ⟨h.trans (hb.mono h.size), (hb.cell (p := ⟨p, 0, none⟩) l).trans h0, (hb.cell (p := ⟨p, 1, none⟩) l).trans h1, (hb.cell (p := ⟨p, 2, none⟩) l).trans h2, (hb.cell (p := ⟨p, 3, none⟩) l).trans h3, (hb.cell (p := ⟨p, 4, none⟩) l).trans h4, (hb.cell (p := ⟨p, 5, none⟩) l).trans h5, (hb.cell (p := ⟨p, 6, none⟩) l).trans h6⟩
theorem box7_re {w0 w : World} {p : Nat} {v0 v1 v2 v3 v4 v5 v6 : Value} (h : Box7 w0 p v0 v1 v2 v3 v4 v5 v6 w) : Box7 w p v0 v1 v2 v3 v4 v5 v6 w := ⟨Below.refl _ _, h.2⟩
theorem box7_new (w : World) (v0 v1 v2 v3 v4 v5 v6 : Value) (T : TypeId) : Box7 (w.alloc (.cells #[v0, v1, v2, v3, v4, v5, v6] T)) w.heap.size v0 v1 v2 v3 v4 v5 v6 (w.alloc (.cells #[v0, v1, v2, v3, v4, v5, v6] T)) :=
  ⟨Below.refl _ _, by rw [cell_alloc rfl]; rfl, by rw [cell_alloc rfl]; rfl, by rw [cell_alloc rfl]; rfl, by rw [cell_alloc rfl]; rfl, by rw [cell_alloc rfl]; rfl, by rw [cell_alloc rfl]; rfl, by rw [cell_alloc rfl]; rfl⟩
set_option maxHeartbeats 3200000 in
theorem prefix_any (aw : Option Addr) (nw cw : Nat) (ws : List Tx) (i k m : Int) (q : Tx) (a : Option Addr) (n c : Nat) (xs : List KV) (d l f : Bool) (w : World) (hw : HoldsT w aw nw ws) (hnw : nw ≤ 50000) (hsw : ∀ t ∈ ws, t.size ≤ 1048576) (hq : q.size ≤ 1048576) (hx : HoldsK w a n xs) (hn : n ≤ 1048576) (hf : bgB xs (topK ws q k m) = f) :
    Calls Try.prog 8 #[.slice aw nw cw, .agg #[.int .i64 i, .string q, .int .i64 k, .int .i64 m, .slice a n c, .bool d, .bool l]] w fun e w' => e = .returned (.bool f) ∧ Below w.heap.size w w' := by
  have B0 := Lib.hid (below_one w (.cells #[.int .i64 i, .string q, .int .i64 k, .int .i64 m, .slice a n c, .bool d, .bool l] 27))
  have HB := Lib.hid (box7_new w (.int .i64 i) (.string q) (.int .i64 k) (.int .i64 m) (.slice a n c) (.bool d) (.bool l) 27)
  have HW := Lib.hid (hw.below B0.out); have HX := Lib.hid (hx.below B0.out)
  have lt := tops_len ws q k m
  have lws := hw.len
  obtain ⟨ts, hts⟩ : ∃ z, topK ws q k m = z := ⟨_, rfl⟩
  obtain ⟨L, hL⟩ : ∃ z, ts.length = z := ⟨_, rfl⟩
  rw [hts] at lt hf
  rw [hL] at lt
  have hL5 : L ≤ 50000 := by omega
  have T1 := Lib.hid hts; have T2 := Lib.hid hL; have HF := Lib.hid hf; have SW := Lib.hid hsw
  clear hw hx hts hL hf hsw lt lws
  go_enter Try.func8, Try.ntmps8
  go_upto_region 1 with fail
  generalize w.alloc (.cells #[.int .i64 i, .string q, .int .i64 k, .int .i64 m, .slice a n c, .bool d, .bool l] 27) = w1 at *
  go_region_held3 (fun w' => Below w1.heap.size w1 w' ∧ w'.cell? ⟨w.heap.size, 0, none⟩ = some (.int .i64 i) ∧ w'.cell? ⟨w.heap.size, 1, none⟩ = some (.string q) ∧ w'.cell? ⟨w.heap.size, 2, none⟩ = some (.int .i64 k) ∧ w'.cell? ⟨w.heap.size, 3, none⟩ = some (.int .i64 m) ∧ w'.cell? ⟨w.heap.size, 4, none⟩ = some (.slice a n c) ∧ w'.cell? ⟨w.heap.size, 5, none⟩ = some (.bool d) ∧ w'.cell? ⟨w.heap.size, 6, none⟩ = some (.bool l))
    (first | assumption | exact box7_carry HB.out (Below.refl _ _).drew | exact box7_carry (by assumption) (by assumption))
    (first
      | (go_at_call 17; (with_reducible refine (top_lit aw nw cw L ws q k m ts _ (HW.out.below (And.left (by assumption))) hnw SW.out hq T1.out T2.out).mono ?_); rintro e w' ⟨a8, c8, rfl, o8, hb8⟩)
      | (go_at_call 20; (with_reducible refine (begins_any a n c xs a8 L c8 ts f _ (HX.out.below (And.left (by assumption))) (HoldsK.own o8) (by omega) (by omega) HF.out).mono ?_); rintro e w' ⟨rfl, hb9⟩))
  rename_i T5
  have hb := T5.1
  clear T5
  go_wp2_with fail
  go_ret
  exact ⟨rfl, B0.out.trans (hb.mono B0.out.size)⟩
set_option maxHeartbeats 3200000 in
theorem complete_any (aw : Option Addr) (nw cw : Nat) (ws : List Tx) (i k m : Int) (q : Tx) (a : Option Addr) (n c : Nat) (xs : List KV) (d l f : Bool) (w : World) (hw : HoldsT w aw nw ws) (hnw : nw ≤ 50000) (hsw : ∀ t ∈ ws, t.size ≤ 1048576) (hq : q.size ≤ 1048576) (hx : HoldsK w a n xs) (hn : n ≤ 1048576) (hf : decide (xs = topK ws q k m) = f) :
    Calls Try.prog 10 #[.slice aw nw cw, .agg #[.int .i64 i, .string q, .int .i64 k, .int .i64 m, .slice a n c, .bool d, .bool l]] w fun e w' => e = .returned (.bool f) ∧ Below w.heap.size w w' := by
  have B0 := Lib.hid (below_one w (.cells #[.int .i64 i, .string q, .int .i64 k, .int .i64 m, .slice a n c, .bool d, .bool l] 27))
  have HB := Lib.hid (box7_new w (.int .i64 i) (.string q) (.int .i64 k) (.int .i64 m) (.slice a n c) (.bool d) (.bool l) 27)
  have HW := Lib.hid (hw.below B0.out); have HX := Lib.hid (hx.below B0.out)
  have lt := tops_len ws q k m
  have lws := hw.len
  obtain ⟨ts, hts⟩ : ∃ z, topK ws q k m = z := ⟨_, rfl⟩
  obtain ⟨L, hL⟩ : ∃ z, ts.length = z := ⟨_, rfl⟩
  rw [hts] at lt hf
  rw [hL] at lt
  have hL5 : L ≤ 50000 := by omega
  have T1 := Lib.hid hts; have T2 := Lib.hid hL; have HF := Lib.hid hf; have SW := Lib.hid hsw
  clear hw hx hts hL hf hsw lt lws
  go_enter Try.func10, Try.ntmps10
  go_upto_region 1 with fail
  generalize w.alloc (.cells #[.int .i64 i, .string q, .int .i64 k, .int .i64 m, .slice a n c, .bool d, .bool l] 27) = w1 at *
  go_region_held3 (fun w' => Below w1.heap.size w1 w' ∧ w'.cell? ⟨w.heap.size, 0, none⟩ = some (.int .i64 i) ∧ w'.cell? ⟨w.heap.size, 1, none⟩ = some (.string q) ∧ w'.cell? ⟨w.heap.size, 2, none⟩ = some (.int .i64 k) ∧ w'.cell? ⟨w.heap.size, 3, none⟩ = some (.int .i64 m) ∧ w'.cell? ⟨w.heap.size, 4, none⟩ = some (.slice a n c) ∧ w'.cell? ⟨w.heap.size, 5, none⟩ = some (.bool d) ∧ w'.cell? ⟨w.heap.size, 6, none⟩ = some (.bool l))
    (first | assumption | exact box7_carry HB.out (Below.refl _ _).drew | exact box7_carry (by assumption) (by assumption))
    (first
      | (go_at_call 17; (with_reducible refine (top_lit aw nw cw L ws q k m ts _ (HW.out.below (And.left (by assumption))) hnw SW.out hq T1.out T2.out).mono ?_); rintro e w' ⟨a8, c8, rfl, o8, hb8⟩)
      | (go_at_call 23; (with_reducible refine (equal_any a n c xs a8 L c8 ts f _ (HX.out.below (And.left (by assumption))) (HoldsK.own o8) (by omega) (by omega) HF.out).mono ?_); rintro e w' ⟨rfl, hb9⟩))
  rename_i T5
  have hb := T5.1
  clear T5
  go_wp2_with fail
  go_ret
  exact ⟨rfl, B0.out.trans (hb.mono B0.out.size)⟩
/-- what is right -/
def rightB (ws : List Tx) (q : Tx) (k m : Int) (xs : List KV) (d l : Bool) : Bool := if d then decide (xs = topK ws q k m) && !l else bgB xs (topK ws q k m)
set_option maxHeartbeats 3200000 in
theorem right_any (aw : Option Addr) (nw cw : Nat) (ws : List Tx) (i k m : Int) (q : Tx) (a : Option Addr) (n c : Nat) (xs : List KV) (d l f : Bool) (w : World) (hw : HoldsT w aw nw ws) (hnw : nw ≤ 50000) (hsw : ∀ t ∈ ws, t.size ≤ 1048576) (hq : q.size ≤ 1048576) (hx : HoldsK w a n xs) (hn : n ≤ 1048576) (hf : rightB ws q k m xs d l = f) :
    Calls Try.prog 12 #[.slice aw nw cw, .agg #[.int .i64 i, .string q, .int .i64 k, .int .i64 m, .slice a n c, .bool d, .bool l]] w fun e w' => e = .returned (.bool f) ∧ Below w.heap.size w w' := by
  have B0 := Lib.hid (below_one w (.cells #[.int .i64 i, .string q, .int .i64 k, .int .i64 m, .slice a n c, .bool d, .bool l] 27))
  have HB := Lib.hid (box7_new w (.int .i64 i) (.string q) (.int .i64 k) (.int .i64 m) (.slice a n c) (.bool d) (.bool l) 27)
  have HW := Lib.hid (hw.below B0.out); have HX := Lib.hid (hx.below B0.out)
  cases d with
  | false =>
    have CP := Lib.hid (fun w (h1 : HoldsT w aw nw ws) (h2 : HoldsK w a n xs) => prefix_any aw nw cw ws i k m q a n c xs false l f w h1 hnw hsw hq h2 hn hf)
    clear hw hx hf hsw
    go_enter Try.func12, Try.ntmps12
    go_upto_region 1 with fail
    generalize w.alloc (.cells #[.int .i64 i, .string q, .int .i64 k, .int .i64 m, .slice a n c, .bool false, .bool l] 27) = w1 at *
    obtain ⟨-, e0, e1, e2, e3, e4, e5, e6⟩ := HB.out
    go_wp2_with fail
    refine (CP.out _ HW.out HX.out).mono ?_
    rintro e w' ⟨rfl, hb⟩
    go_wp2_with fail
    go_ret
    exact ⟨rfl, B0.out.trans (hb.mono B0.out.size)⟩
  | true =>
    obtain ⟨g, hg⟩ : ∃ g, decide (xs = topK ws q k m) = g := ⟨_, rfl⟩
    have CP := Lib.hid (fun w (h1 : HoldsT w aw nw ws) (h2 : HoldsK w a n xs) => complete_any aw nw cw ws i k m q a n c xs true l g w h1 hnw hsw hq h2 hn hg)
    have hf2 : (g && !l) = f := by rw [← hf, ← hg]; simp [rightB]
    clear hw hx hf hsw hg
    cases g <;> cases l <;> (simp at hf2; subst hf2)
    all_goals
      go_enter Try.func12, Try.ntmps12
      go_upto_region 1 with fail
      generalize w.alloc _ = w1 at *
      obtain ⟨-, e0, e1, e2, e3, e4, e5, e6⟩ := HB.out
      go_wp2_with fail
      refine (CP.out _ HW.out HX.out).mono ?_
      rintro e w' ⟨rfl, hb⟩
      have B2 := Lib.hid (B0.out.trans (hb.mono B0.out.size))
      obtain ⟨-, e0, e1, e2, e3, e4, e5, e6⟩ := box7_carry HB.out hb
      clear hb
      go_wp2_with fail
      go_ret
      exact ⟨rfl, B2.out⟩
end Go.Proofs.Ytmpkmgkafhlpjaa
