/- the laws of check: CheckChain -/
import Derived.Test.YtmpkmgkafhlpjaaQCk6
import Derived.Test.YtmpkmgkafhlpjaaPkB
import Derived.Deep.RegionWith
import Derived.Deep.CutRange
import Derived.BigRegion
namespace Go.Proofs.Ytmpkmgkafhlpjaa
open Go.RowKit
set_option linter.unusedVariables false
set_option maxRecDepth 20000
/-- a box that nobody else has -/
def Fresh7 (p : Nat) (v0 v1 v2 v3 v4 v5 v6 : Value) (w : World) : Prop := Box7 w p v0 v1 v2 v3 v4 v5 v6 w ∧ ∀ o, w.frozen? ⟨p, o, none⟩ = false
theorem Fresh7.below {w w' : World} {p : Nat} {v0 v1 v2 v3 v4 v5 v6 : Value} (h : Fresh7 p v0 v1 v2 v3 v4 v5 v6 w) (hb : Below w.heap.size w w') : Fresh7 p v0 v1 v2 v3 v4 v5 v6 w' :=
  ⟨box7_re (box7_carry h.1 hb), fun o => (hb.frozen (p := ⟨p, o, none⟩) (lt_of_cell h.1.2.1)).trans (h.2 o)⟩
theorem fresh_new (w : World) (v0 v1 v2 v3 v4 v5 v6 : Value) (T : TypeId) : Fresh7 w.heap.size v0 v1 v2 v3 v4 v5 v6 (w.alloc (.cells #[v0, v1, v2, v3, v4, v5, v6] T)) :=
  ⟨box7_new w v0 v1 v2 v3 v4 v5 v6 T, fun o => by go_simp⟩
theorem fresh_three (w : World) (v0 v1 v2 v3 v4 v5 v6 : Value) (T : TypeId) :
    Below w.heap.size w (((w.alloc (.cells #[v0, v1, v2, v3, v4, v5, v6] T)).alloc (.cells #[v0, v1, v2, v3, v4, v5, v6] T)).alloc (.cells #[v0, v1, v2, v3, v4, v5, v6] T)) ∧
    Fresh7 w.heap.size v0 v1 v2 v3 v4 v5 v6 (((w.alloc (.cells #[v0, v1, v2, v3, v4, v5, v6] T)).alloc (.cells #[v0, v1, v2, v3, v4, v5, v6] T)).alloc (.cells #[v0, v1, v2, v3, v4, v5, v6] T)) ∧
    Fresh7 (w.heap.size + 1) v0 v1 v2 v3 v4 v5 v6 (((w.alloc (.cells #[v0, v1, v2, v3, v4, v5, v6] T)).alloc (.cells #[v0, v1, v2, v3, v4, v5, v6] T)).alloc (.cells #[v0, v1, v2, v3, v4, v5, v6] T)) ∧
    Fresh7 (w.heap.size + 1 + 1) v0 v1 v2 v3 v4 v5 v6 (((w.alloc (.cells #[v0, v1, v2, v3, v4, v5, v6] T)).alloc (.cells #[v0, v1, v2, v3, v4, v5, v6] T)).alloc (.cells #[v0, v1, v2, v3, v4, v5, v6] T)) := by
  have f0 := fresh_new w v0 v1 v2 v3 v4 v5 v6 T
  have b0 := below_one w (.cells #[v0, v1, v2, v3, v4, v5, v6] T)
  have z1 : (w.alloc (.cells #[v0, v1, v2, v3, v4, v5, v6] T)).heap.size = w.heap.size + 1 := by simp
  generalize w.alloc (.cells #[v0, v1, v2, v3, v4, v5, v6] T) = w1 at *
  have f1 := fresh_new w1 v0 v1 v2 v3 v4 v5 v6 T
  have b1 := below_one w1 (.cells #[v0, v1, v2, v3, v4, v5, v6] T)
  have z2 : (w1.alloc (.cells #[v0, v1, v2, v3, v4, v5, v6] T)).heap.size = w.heap.size + 1 + 1 := by simp [z1]
  rw [z1] at f1
  generalize w1.alloc (.cells #[v0, v1, v2, v3, v4, v5, v6] T) = w2 at *
  have f2 := fresh_new w2 v0 v1 v2 v3 v4 v5 v6 T
  have b2 := below_one w2 (.cells #[v0, v1, v2, v3, v4, v5, v6] T)
  rw [z2] at f2
  exact ⟨(b0.trans (b1.mono b0.size)).trans (b2.mono (by omega)), (f0.below b1).below b2, f1.below b2, f2⟩
theorem mset_off {w : World} {b o q p : Nat} {v : Value} (h : ¬ (b = q ∧ o = p)) : (w.setCell ⟨b, o, none⟩ v).cell? ⟨q, p, none⟩ = w.cell? ⟨q, p, none⟩ := World.cell?_setCell_other _ _ _ _ (by intro e; injection e; exact h ⟨by assumption, by assumption⟩)
theorem Fresh7.set4 {w : World} {p : Nat} {v0 v1 v2 v3 v4 v5 v6 : Value} (h : Fresh7 p v0 v1 v2 v3 v4 v5 v6 w) (u : Value) : Fresh7 p v0 v1 v2 v3 u v5 v6 (w.setCell ⟨p, 4, none⟩ u) := by
  obtain ⟨⟨-, h0, h1, h2, h3, h4, h5, h6⟩, h7⟩ := h
  exact ⟨⟨Below.refl _ _, (mset_off (by omega)).trans h0, (mset_off (by omega)).trans h1, (mset_off (by omega)).trans h2, (mset_off (by omega)).trans h3, cset_at h4, (mset_off (by omega)).trans h5, (mset_off (by omega)).trans h6⟩, fun o => by first | (go_simp; exact h7 o) | go_simp⟩
theorem Fresh7.set6 {w : World} {p : Nat} {v0 v1 v2 v3 v4 v5 v6 : Value} (h : Fresh7 p v0 v1 v2 v3 v4 v5 v6 w) (u : Value) : Fresh7 p v0 v1 v2 v3 v4 v5 u (w.setCell ⟨p, 6, none⟩ u) := by
  obtain ⟨⟨-, h0, h1, h2, h3, h4, h5, h6⟩, h7⟩ := h
  exact ⟨⟨Below.refl _ _, (mset_off (by omega)).trans h0, (mset_off (by omega)).trans h1, (mset_off (by omega)).trans h2, (mset_off (by omega)).trans h3, (mset_off (by omega)).trans h4, (mset_off (by omega)).trans h5, cset_at h6⟩, fun o => by first | (go_simp; exact h7 o) | go_simp⟩
theorem Box7.other {w0 w : World} {p q o : Nat} {v0 v1 v2 v3 v4 v5 v6 : Value} (h : Box7 w0 p v0 v1 v2 v3 v4 v5 v6 w) (u : Value) (hne : q ≠ p) : Box7 (w.setCell ⟨q, o, none⟩ u) p v0 v1 v2 v3 v4 v5 v6 (w.setCell ⟨q, o, none⟩ u) := by
  obtain ⟨-, h0, h1, h2, h3, h4, h5, h6⟩ := h
  exact ⟨Below.refl _ _, (mset_off (by omega)).trans h0, (mset_off (by omega)).trans h1, (mset_off (by omega)).trans h2, (mset_off (by omega)).trans h3, (mset_off (by omega)).trans h4, (mset_off (by omega)).trans h5, (mset_off (by omega)).trans h6⟩
theorem Fresh7.other {w : World} {p q o : Nat} {v0 v1 v2 v3 v4 v5 v6 : Value} (h : Fresh7 p v0 v1 v2 v3 v4 v5 v6 w) (u : Value) (hne : q ≠ p) : Fresh7 p v0 v1 v2 v3 v4 v5 v6 (w.setCell ⟨q, o, none⟩ u) :=
  ⟨h.1.other u hne, fun o' => by first | (go_simp; exact h.2 o') | go_simp⟩
theorem HoldsK.other {w : World} {a : Option Addr} {n q o : Nat} {xs : List KV} {u : Value} (h : HoldsK w a n xs) (hne : ∀ b p, a = some ⟨b, p, none⟩ → 0 < n → q ≠ b) : HoldsK (w.setCell ⟨q, o, none⟩ u) a n xs := by
  refine ⟨h.1, fun h0 => ?_⟩
  obtain ⟨b, p, ha, hc⟩ := h.at h0
  have := hne b p ha h0
  exact ⟨b, p, ha, fun i hi => ⟨(mset_off (by omega)).trans (hc i hi).1, (mset_off (by omega)).trans (hc i hi).2⟩⟩
theorem HoldsK.cellsAt {w : World} {a : Option Addr} {n : Nat} {ks : List KV} (h : HoldsK w a n ks) : ∀ ad, a = some ad → ∀ j u, (keysV ks)[j]? = some u → w.cell? (ad.add j) = some u := HoldsK.cellsAny h ⟨rfl, rfl, rfl, Nat.le_refl _, fun _ _ _ => rfl⟩
def Box21 (w0 : World) (p q r : Nat) (u0 u1 u2 u3 u4 u5 u6 v0 v1 v2 v3 v4 v5 v6 x0 x1 x2 x3 x4 x5 x6 : Value) (w : World) : Prop := Below w0.heap.size w0 w ∧ w.cell? ⟨p, 0, none⟩ = some u0 ∧ w.cell? ⟨p, 1, none⟩ = some u1 ∧ w.cell? ⟨p, 2, none⟩ = some u2 ∧ w.cell? ⟨p, 3, none⟩ = some u3 ∧ w.cell? ⟨p, 4, none⟩ = some u4 ∧ w.cell? ⟨p, 5, none⟩ = some u5 ∧ w.cell? ⟨p, 6, none⟩ = some u6 ∧ w.cell? ⟨q, 0, none⟩ = some v0 ∧ w.cell? ⟨q, 1, none⟩ = some v1 ∧ w.cell? ⟨q, 2, none⟩ = some v2 ∧ w.cell? ⟨q, 3, none⟩ = some v3 ∧ w.cell? ⟨q, 4, none⟩ = some v4 ∧ w.cell? ⟨q, 5, none⟩ = some v5 ∧ w.cell? ⟨q, 6, none⟩ = some v6 ∧ w.cell? ⟨r, 0, none⟩ = some x0 ∧ w.cell? ⟨r, 1, none⟩ = some x1 ∧ w.cell? ⟨r, 2, none⟩ = some x2 ∧ w.cell? ⟨r, 3, none⟩ = some x3 ∧ w.cell? ⟨r, 4, none⟩ = some x4 ∧ w.cell? ⟨r, 5, none⟩ = some x5 ∧ w.cell? ⟨r, 6, none⟩ = some x6
theorem box21_carry {w0 w w' : World} {p q r : Nat} {u0 u1 u2 u3 u4 u5 u6 v0 v1 v2 v3 v4 v5 v6 x0 x1 x2 x3 x4 x5 x6 : Value} (h : Box21 w0 p q r u0 u1 u2 u3 u4 u5 u6 v0 v1 v2 v3 v4 v5 v6 x0 x1 x2 x3 x4 x5 x6 w) (hb : Below w.heap.size w w') : Box21 w0 p q r u0 u1 u2 u3 u4 u5 u6 v0 v1 v2 v3 v4 v5 v6 x0 x1 x2 x3 x4 x5 x6 w' := by
  obtain ⟨hh, h0, h1, h2, h3, h4, h5, h6, h7, h8, h9, h10, h11, h12, h13, h14, h15, h16, h17, h18, h19, h20⟩ := h
  have l0 := lt_of_cell h0
  have l1 := lt_of_cell h7
  have l2 := lt_of_cell h14
  exact ⟨hh.trans (hb.mono hh.size), (hb.cell (p := ⟨p, 0, none⟩) l0).trans h0, (hb.cell (p := ⟨p, 1, none⟩) l0).trans h1, (hb.cell (p := ⟨p, 2, none⟩) l0).trans h2, (hb.cell (p := ⟨p, 3, none⟩) l0).trans h3, (hb.cell (p := ⟨p, 4, none⟩) l0).trans h4, (hb.cell (p := ⟨p, 5, none⟩) l0).trans h5, (hb.cell (p := ⟨p, 6, none⟩) l0).trans h6, (hb.cell (p := ⟨q, 0, none⟩) l1).trans h7, (hb.cell (p := ⟨q, 1, none⟩) l1).trans h8, (hb.cell (p := ⟨q, 2, none⟩) l1).trans h9, (hb.cell (p := ⟨q, 3, none⟩) l1).trans h10, (hb.cell (p := ⟨q, 4, none⟩) l1).trans h11, (hb.cell (p := ⟨q, 5, none⟩) l1).trans h12, (hb.cell (p := ⟨q, 6, none⟩) l1).trans h13, (hb.cell (p := ⟨r, 0, none⟩) l2).trans h14, (hb.cell (p := ⟨r, 1, none⟩) l2).trans h15, (hb.cell (p := ⟨r, 2, none⟩) l2).trans h16, (hb.cell (p := ⟨r, 3, none⟩) l2).trans h17, (hb.cell (p := ⟨r, 4, none⟩) l2).trans h18, (hb.cell (p := ⟨r, 5, none⟩) l2).trans h19, (hb.cell (p := ⟨r, 6, none⟩) l2).trans h20⟩
theorem bg_take (xs : List KV) {j i : Nat} (h : j ≤ i) : bgB (xs.take j) (xs.take i) = true := by
  refine decide_eq_true ?_
  rw [List.take_take, List.length_take]
  have : min (min j xs.length) i = min j xs.length := by omega
  rw [this]
  rcases Nat.le_total j xs.length with e | e
  · rw [Nat.min_eq_left e]
  · rw [Nat.min_eq_right e, List.take_of_length_le e, List.take_length]
theorem bg_self (xs : List KV) : bgB xs xs = true := by simp [bgB]
theorem bg_take1 (xs : List KV) (j : Nat) : bgB (xs.take j) xs = true := by
  have := bg_take xs (j := j) (i := j + xs.length) (by omega)
  rwa [List.take_of_length_le (l := xs) (i := j + xs.length) (by omega)] at this
theorem bg_back (xs : List KV) {i n : Nat} (hn : xs.length = n) (hi : i ≤ n) : bgB xs (xs.take i) = decide (i = n) := by
  by_cases e : i = n
  · subst e; rw [List.take_of_length_le (by omega)]; simp [bgB]
  · rw [decide_eq_false e]; exact bgB_long (by rw [List.length_take]; omega)
set_option maxRecDepth 100000 in
set_option maxHeartbeats 6400000 in
theorem checkChain_law (i1 : Int) (q1 : Tx) (k1 m1 : Int) (a : Option Addr) (n ca : Nat) (xs : List KV) (d1 l1 : Bool) (x y : Int) (w : World) (h1 : HoldsK w a n xs) (hnil : a = none → n = 0 ∧ ca = 0) (hcap : n ≤ ca) (hn : n ≤ 9223372036854775807) (sx : ∀ k ∈ xs, k.2.size ≤ 9223372036854775807) (hq1 : q1.size ≤ 9223372036854775807) :
    Calls Try.prog 5 #[.agg #[.int .i64 i1, .string q1, .int .i64 k1, .int .i64 m1, .slice a n ca, .bool d1, .bool l1], .int .i64 x, .int .i64 y] w fun e w' => e = .returned (.bool true) ∧ Below w.heap.size w w' := by
  obtain ⟨i0, hi, hz0, hz1, hz2⟩ := info_parts item_info
  have lx := h1.len
  have X0 := Lib.hid h1
  have B0 := Lib.hid (below_one w (.cells #[.int .i64 i1, .string q1, .int .i64 k1, .int .i64 m1, .slice a n ca, .bool d1, .bool l1] 27))
  have HB := Lib.hid (box7_new w (.int .i64 i1) (.string q1) (.int .i64 k1) (.int .i64 m1) (.slice a n ca) (.bool d1) (.bool l1) 27)
  have H1 := Lib.hid (h1.below B0.out)
  obtain ⟨g, hg⟩ : ∃ g, greatKB xs = g := ⟨_, rfl⟩
  have CG := Lib.hid (fun w (h : HoldsK w a n xs) => hg ▸ greatK_any a n ca xs w h hn sx)
  have HG := Lib.hid hg; have LX := Lib.hid lx; have NIL := Lib.hid hnil
  clear h1 sx hg lx hnil
  go_enter Try.func5, Try.ntmps5
  go_upto_region 1 with fail
  have fz : ∀ j, (w.alloc (.cells #[.int .i64 i1, .string q1, .int .i64 k1, .int .i64 m1, .slice a n ca, .bool d1, .bool l1] 27)).frozen? ⟨w.heap.size, j, none⟩ = false := fun j => by go_simp
  have z5 := fz 5; have z6 := fz 6
  clear fz
  generalize w.alloc (.cells #[.int .i64 i1, .string q1, .int .i64 k1, .int .i64 m1, .slice a n ca, .bool d1, .bool l1] 27) = w1 at *
  obtain ⟨-, e0, e1, e2, e3, e4, e5, e6⟩ := HB.out
  go_wp2_with fail
  refine (CG.out _ H1.out).mono ?_
  rintro e w2 ⟨rfl, rfl⟩
  cases g with
  | true =>
    go_wp2_with fail
    refine (awake28_any _).mono ?_
    rintro e w9 ⟨rfl, hb9⟩
    go_wp2_with fail
    go_ret
    exact ⟨rfl, B0.out.trans (hb9.mono B0.out.size)⟩
  | false =>
    by_cases hq : 100 < q1.size
    · go_wp2_with fail
      refine (awake28_any _).mono ?_
      rintro e w9 ⟨rfl, hb9⟩
      go_wp2_with fail
      go_ret
      exact ⟨rfl, B0.out.trans (hb9.mono B0.out.size)⟩
    have hq' : q1.size ≤ 100 := by omega
    obtain ⟨h80, hsx⟩ := greatK_no_iff.1 HG.out
    have hn80 : n ≤ 80 := by have := LX.out; omega
    clear hq h80 hsx
    go_upto_region 4 with fail
    have B3 := Lib.hid ((B0.out.setCell (p := ⟨w.heap.size, 5, none⟩) (Nat.le_refl _) (.bool false)).setCell (p := ⟨w.heap.size, 6, none⟩) (Nat.le_refl _) (.bool false))
    have HB3 : Box7 ((w1.setCell ⟨w.heap.size, 5, none⟩ (.bool false)).setCell ⟨w.heap.size, 6, none⟩ (.bool false)) w.heap.size (.int .i64 i1) (.string q1) (.int .i64 k1) (.int .i64 m1) (.slice a n ca) (.bool false) (.bool false) ((w1.setCell ⟨w.heap.size, 5, none⟩ (.bool false)).setCell ⟨w.heap.size, 6, none⟩ (.bool false)) :=
      ⟨Below.refl _ _, by rw [cset_ne (by decide), cset_ne (by decide)]; exact e0, by rw [cset_ne (by decide), cset_ne (by decide)]; exact e1, by rw [cset_ne (by decide), cset_ne (by decide)]; exact e2, by rw [cset_ne (by decide), cset_ne (by decide)]; exact e3, by rw [cset_ne (by decide), cset_ne (by decide)]; exact e4, by rw [cset_ne (by decide)]; exact cset_at e5, cset_at ((cset_ne (by decide)).trans e6)⟩
    have HB3 := Lib.hid HB3
    clear HB B0 H1 CG e0 e1 e2 e3 e4 e5 e6 z5 z6
    generalize (w1.setCell ⟨w.heap.size, 5, none⟩ (.bool false)).setCell ⟨w.heap.size, 6, none⟩ (.bool false) = w3 at *
    obtain ⟨i, hi0⟩ : ∃ i : Nat, lowV x ((n : Int) + 1) = (i : Int) := ⟨(lowV x ((n : Int) + 1)).toNat, by have := low_bd x ((n : Int) + 1) (by omega); omega⟩
    have hin : i ≤ n := by have := low_bd x ((n : Int) + 1) (by omega); omega
    obtain ⟨j, hj0⟩ : ∃ j : Nat, lowV y ((i : Int) + 1) = (j : Int) := ⟨(lowV y ((i : Int) + 1)).toNat, by have := low_bd y ((i : Int) + 1) (by omega); omega⟩
    have hji : j ≤ i := by have := low_bd y ((i : Int) + 1) (by omega); omega
    have CL1 := Lib.hid (fun w => hi0 ▸ low_any x ((n : Int) + 1) (by omega) (by omega) w)
    have CL2 := Lib.hid (fun w => hj0 ▸ low_any y ((i : Int) + 1) (by omega) (by omega) w)
    have HI := Lib.hid hi0; have HJ := Lib.hid hj0
    clear hi0 hj0
    obtain ⟨-, e0, e1, e2, e3, e4, e5, e6⟩ := HB3.out
    go_wp2_with fail
    refine (CL1.out _).mono ?_
    rintro e w2 ⟨rfl, rfl⟩
    go_wp2_with fail
    refine (CL2.out _).mono ?_
    rintro e w2 ⟨rfl, rfl⟩
    go_upto_region 6 with fail
    have hlt : w.heap.size < w3.heap.size := lt_of_cell e0
    have F3 := Lib.hid (fresh_three w3 (.int .i64 i1) (.string q1) (.int .i64 k1) (.int .i64 m1) (.slice a n ca) (.bool false) (.bool false) 27)
    have T := Lib.hid (box7_re HB3.out)
    clear e0 e1 e2 e3 e4 e5 e6
    go_cut [7, 8, 9] from 33 to 35 (fun v8 v9 v10 wc => ∃ p1 p2 p3 : Nat, v8 = .pointer (some ⟨p1, 0, none⟩) ∧ v9 = .pointer (some ⟨p2, 0, none⟩) ∧ v10 = .pointer (some ⟨p3, 0, none⟩) ∧ Hid (w3.heap.size ≤ p1 ∧ w3.heap.size ≤ p2 ∧ w3.heap.size ≤ p3 ∧ p1 ≠ p2 ∧ p1 ≠ p3 ∧ p2 ≠ p3 ∧ Below w3.heap.size w3 wc ∧ Fresh7 p1 (.int .i64 i1) (.string q1) (.int .i64 k1) (.int .i64 m1) (.slice a n ca) (.bool false) (.bool false) wc ∧ Fresh7 p2 (.int .i64 i1) (.string q1) (.int .i64 k1) (.int .i64 m1) (.slice a n ca) (.bool false) (.bool false) wc ∧ Fresh7 p3 (.int .i64 i1) (.string q1) (.int .i64 k1) (.int .i64 m1) (.slice a n ca) (.bool false) (.bool false) wc))
    case first =>
      go_region_held3 (fun w' => Below w3.heap.size w3 w' ∧ w'.cell? ⟨w.heap.size, 0, none⟩ = some (.int .i64 i1) ∧ w'.cell? ⟨w.heap.size, 1, none⟩ = some (.string q1) ∧ w'.cell? ⟨w.heap.size, 2, none⟩ = some (.int .i64 k1) ∧ w'.cell? ⟨w.heap.size, 3, none⟩ = some (.int .i64 m1) ∧ w'.cell? ⟨w.heap.size, 4, none⟩ = some (.slice a n ca) ∧ w'.cell? ⟨w.heap.size, 5, none⟩ = some (.bool false) ∧ w'.cell? ⟨w.heap.size, 6, none⟩ = some (.bool false))
        (first | assumption | (refine box7_carry T.out ?_; repeat' (first | exact Below.refl _ _ | refine Below.drew ?_ | refine Below.alloc ?_ (by simp <;> omega) _)))
        (fail)
      all_goals
        go_wp2_with fail
        go_meet
        obtain ⟨hB, f0, f1, f2⟩ := F3.out
        have g0 := f0.below (Below.refl _ _).drew
        have g1 := f1.below (Below.refl _ _).drew
        have g2 := f2.below (Below.refl _ _).drew
        exact ⟨_, _, _, rfl, rfl, rfl, Lib.hid ⟨by omega, by omega, by omega, by omega, by omega, by omega, hB.drew, by assumption, by assumption, by assumption⟩⟩
    case rest =>
      obtain ⟨p1, p2, p3, rfl, rfl, rfl, hF⟩ := hcut
      obtain ⟨z1, z2, z3, n12, n13, n23, hBc, g1, g2, g3⟩ := hF.out
      have HA := Lib.hid (box7_re (box7_carry HB3.out hBc))
      have G1 := Lib.hid g1; have G2 := Lib.hid g2; have G3 := Lib.hid g3
      have B4 := Lib.hid (B3.out.trans (hBc.mono B3.out.size))
      have HX := Lib.hid (X0.out.below B4.out)
      have hw3 : w.heap.size ≤ w3.heap.size := B3.out.size
      clear hF hBc g1 g2 g3 F3 T HB3 B3
      have hii : i ≤ ca := by omega
      have hjj : j ≤ ca := by omega
      obtain ⟨-, e0, e1, e2, e3, e4, e5, e6⟩ := HA.out
      have lk1 := Lib.hid (show (keysV (xs.take i)).length = i * 2 by rw [keysV_len, List.length_take, LX.out, Nat.min_eq_left hin])
      have lk2 := Lib.hid (show (keysV (xs.take j)).length = j * 2 by rw [keysV_len, List.length_take, LX.out, Nat.min_eq_left (by omega)])
      have NI := Lib.hid (show a = none → i = 0 ∧ ca = 0 from fun h => by have := NIL.out h; omega)
      have NJ := Lib.hid (show a = none → j = 0 ∧ ca = 0 from fun h => by have := NIL.out h; omega)
      have np1 : p1 ≠ w.heap.size := by omega
      have np2 : p2 ≠ w.heap.size := by omega
      have np3 : p3 ≠ w.heap.size := by omega
      have Gz := Lib.hid G2.out; have Gy := Lib.hid G3.out
      go_upto_region 7 with fail
      go_upto_region 8 with (at_builtin; refine wpList_append_any rfl (.const (.slice none 0 0)) (.tmp 39) 25 rfl wc.heap.size 36 i0 _ 2 24 Try.underlying25 hi hz0 hz1 hz2 rfl (by decide) _ 0 [] rfl (World.ownsRow_nil _ _ _ _) a i ca (keysV (xs.take i)) rfl NI.out lk1.out (HoldsK.cellsAt (HX.out.take i hin)) (keysV_one _) (by unfold maxLen; omega) (by omega) (by simp) ?_; intro a7 c7 w7 hown7 hb7 hnil7; obtain ⟨⟨-, y0, y1, y2, y3, y4, y5, y6⟩, yf⟩ := G1.out.below hb7; have yf4 := yf 4; clear yf y0 y1 y2 y3 y5 y6)
      rw [Nat.zero_add, List.nil_append] at hown7
      have Hb := Lib.hid (show HoldsK (w7.setCell ⟨p1, 4, none⟩ (.slice a7 i c7)) a7 i (xs.take i) from (HoldsK.own hown7).other (fun b p e h0 => by have := hown7.lt b (by rw [e]; rfl); have := lt_of_cell G1.out.1.2.1; omega))
      have LB7 := Lib.hid (show ∀ b p, a7 = some ⟨b, p, none⟩ → 0 < i → wc.heap.size ≤ b from fun b p e _ => (hown7.lt b (by rw [e]; rfl)).1)
      have HA7 := Lib.hid ((box7_carry HA.out hb7).other (o := 4) (.slice a7 i c7) np1)
      have G17 := Lib.hid ((G1.out.below hb7).set4 (.slice a7 i c7))
      have G27 := Lib.hid ((G2.out.below hb7).other (o := 4) (.slice a7 i c7) n12)
      have G37 := Lib.hid ((G3.out.below hb7).other (o := 4) (.slice a7 i c7) n13)
      have B7 := Lib.hid ((B4.out.trans (hb7.mono B4.out.size)).setCell (p := ⟨p1, 4, none⟩) (show w.heap.size ≤ p1 from by omega) (.slice a7 i c7))
      have HX7 := Lib.hid (X0.out.below B7.out)
      have szb := Lib.hid hb7.size
      clear hown7 hb7 hnil7 y4 yf4 HA G1 G2 G3 B4 HX e0 e1 e2 e3 e4 e5 e6
      have hz8 := Lib.hid (show wc.heap.size ≤ (w7.setCell ⟨p1, 4, none⟩ (.slice a7 i c7)).heap.size from by have := szb.out; simpa using this)
      clear szb
      generalize w7.setCell ⟨p1, 4, none⟩ (.slice a7 i c7) = w8 at *
      obtain ⟨-, e0, e1, e2, e3, e4, e5, e6⟩ := HA7.out
      go_upto_region 9 with (at_builtin; refine wpList_append_any rfl (.const (.slice none 0 0)) (.tmp 45) 25 rfl w8.heap.size 36 i0 _ 2 24 Try.underlying25 hi hz0 hz1 hz2 rfl (by decide) _ 0 [] rfl (World.ownsRow_nil _ _ _ _) a j ca (keysV (xs.take j)) rfl NJ.out lk2.out (HoldsK.cellsAt (HX7.out.take j (by omega))) (keysV_one _) (by unfold maxLen; omega) (by omega) (by simp) ?_; intro a9 c9 w9 hown9 hb9 hnil9; obtain ⟨⟨-, y0, y1, y2, y3, y4, y5, y6⟩, yf⟩ := G27.out.below hb9; have yf4 := yf 4; clear yf y0 y1 y2 y3 y5 y6)
      rw [Nat.zero_add, List.nil_append] at hown9
      have Hc := Lib.hid (show HoldsK (w9.setCell ⟨p2, 4, none⟩ (.slice a9 j c9)) a9 j (xs.take j) from (HoldsK.own hown9).other (fun b p e h0 => by have := hown9.lt b (by rw [e]; rfl); have := lt_of_cell G27.out.1.2.1; omega))
      have LC9 := Lib.hid (show ∀ b p, a9 = some ⟨b, p, none⟩ → 0 < j → w8.heap.size ≤ b from fun b p e _ => (hown9.lt b (by rw [e]; rfl)).1)
      have hz2 := lt_of_cell Gz.out.1.2.1
      have hz3 := lt_of_cell Gy.out.1.2.1
      have QB := Lib.hid ((Hb.out.below hb9).other (q := p2) (o := 4) (u := .slice a9 j c9) (fun b p e h0 => by have := LB7.out b p e h0; omega))
      have NB := Lib.hid (show ∀ b p, a7 = some ⟨b, p, none⟩ → 0 < i → p3 ≠ b from fun b p e h0 => by have := LB7.out b p e h0; omega)
      have NC := Lib.hid (show ∀ b p, a9 = some ⟨b, p, none⟩ → 0 < j → p3 ≠ b from fun b p e h0 => by have := LC9.out b p e h0; have := hz8.out; omega)
      have HA9 := Lib.hid ((box7_carry HA7.out hb9).other (o := 4) (.slice a9 j c9) np2)
      have G19 := Lib.hid ((G17.out.below hb9).other (o := 4) (.slice a9 j c9) (Ne.symm n12))
      have G29 := Lib.hid ((G27.out.below hb9).set4 (.slice a9 j c9))
      have G39 := Lib.hid ((G37.out.below hb9).other (o := 4) (.slice a9 j c9) n23)
      have B9 := Lib.hid ((B7.out.trans (hb9.mono B7.out.size)).setCell (p := ⟨p2, 4, none⟩) (show w.heap.size ≤ p2 from by omega) (.slice a9 j c9))
      clear hown9 hb9 hnil9 y4 yf4 HA7 G17 G27 G37 B7 HX7 e0 e1 e2 e3 e4 e5 e6
      replace Hb := Lib.hid (show HoldsK (w9.setCell ⟨p2, 4, none⟩ (.slice a9 j c9)) a7 i (xs.take i) from QB.out)
      clear QB
      generalize w9.setCell ⟨p2, 4, none⟩ (.slice a9 j c9) = w10 at *
      obtain ⟨⟨-, y0, y1, y2, y3, y4, y5, y6⟩, yf⟩ := G39.out
      have yf6 := yf 6
      clear yf y0 y1 y2 y3 y4 y5
      go_upto_region 10 with fail
      have Hb2 := Lib.hid (Hb.out.other (q := p3) (o := 6) (u := .bool true) NB.out)
      have Hc2 := Lib.hid (Hc.out.other (q := p3) (o := 6) (u := .bool true) NC.out)
      have HA2 := Lib.hid (HA9.out.other (o := 6) (.bool true) np3)
      have G12 := Lib.hid (G19.out.other (o := 6) (.bool true) (Ne.symm n13)).1
      have G22 := Lib.hid (G29.out.other (o := 6) (.bool true) (Ne.symm n23)).1
      have G32 := Lib.hid (G39.out.set6 (.bool true)).1
      have B10 := Lib.hid (B9.out.setCell (p := ⟨p3, 6, none⟩) (show w.heap.size ≤ p3 from by omega) (.bool true))
      have HX2 := Lib.hid (X0.out.below B10.out)
      clear Hb Hc HA9 G19 G29 G39 B9 NB NC LB7 LC9 y6 yf6
      generalize w10.setCell ⟨p3, 6, none⟩ (.bool true) = w11 at *
      have CA := Lib.hid (fun w (h1 : HoldsK w a9 j (xs.take j)) (h2 : HoldsK w a7 i (xs.take i)) => later_any i1 q1 k1 m1 a9 j c9 (xs.take j) false false i1 q1 k1 m1 a7 i c7 (xs.take i) false false true w h1 h2 (by omega) (by omega) (by simp [laterB, bg_take xs hji]))
      have CB := Lib.hid (fun w (h1 : HoldsK w a7 i (xs.take i)) (h2 : HoldsK w a n xs) => later_any i1 q1 k1 m1 a7 i c7 (xs.take i) false false i1 q1 k1 m1 a n ca xs false false true w h1 h2 (by omega) (by omega) (by simp [laterB, bg_take1]))
      have CC := Lib.hid (fun w (h1 : HoldsK w a9 j (xs.take j)) (h2 : HoldsK w a n xs) => later_any i1 q1 k1 m1 a9 j c9 (xs.take j) false false i1 q1 k1 m1 a n ca xs false false true w h1 h2 (by omega) (by omega) (by simp [laterB, bg_take1]))
      have CD := Lib.hid (fun w (h1 : HoldsK w a n xs) => later_any i1 q1 k1 m1 a n ca xs false false i1 q1 k1 m1 a n ca xs false true true w h1 h1 (by omega) (by omega) (by simp [laterB, bg_self]))
      have CE := Lib.hid (fun w (h1 : HoldsK w a n xs) => later_any i1 q1 k1 m1 a n ca xs false true i1 q1 k1 m1 a n ca xs false false false w h1 h1 (by omega) (by omega) (by simp [laterB, bg_self]))
      have CF := Lib.hid (fun w (h1 : HoldsK w a n xs) => later_any i1 q1 k1 m1 a n ca xs false true i1 q1 k1 m1 a n ca xs false true true w h1 h1 (by omega) (by omega) (by simp [laterB, bg_self]))
      obtain ⟨f, hf⟩ : ∃ f, decide (i = n) = f := ⟨_, rfl⟩
      have CH := Lib.hid (fun w (h1 : HoldsK w a n xs) (h2 : HoldsK w a7 i (xs.take i)) => later_any i1 q1 k1 m1 a n ca xs false false i1 q1 k1 m1 a7 i c7 (xs.take i) false false f w h1 h2 (by omega) (by omega) (by simp [laterB, bg_back xs LX.out hin, hf]))
      have FE := Lib.hid hf
      clear hf
      obtain ⟨-, e0, e1, e2, e3, e4, e5, e6⟩ := HA2.out
      obtain ⟨-, f0, f1, f2, f3, f4, f5, f6⟩ := G12.out
      obtain ⟨-, g0, g1, g2, g3, g4, g5, g6⟩ := G22.out
      obtain ⟨-, h0, h1, h2, h3, h4, h5, h6⟩ := G32.out
      go_wp2_with fail
      refine (CA.out _ Hc2.out Hb2.out).mono ?_
      rintro e w13 ⟨rfl, hb⟩
      replace HA2 := Lib.hid (box7_re (box7_carry HA2.out hb))
      replace G12 := Lib.hid (box7_re (box7_carry G12.out hb))
      replace G22 := Lib.hid (box7_re (box7_carry G22.out hb))
      replace G32 := Lib.hid (box7_re (box7_carry G32.out hb))
      replace Hb2 := Lib.hid (Hb2.out.below hb)
      replace Hc2 := Lib.hid (Hc2.out.below hb)
      replace HX2 := Lib.hid (HX2.out.below hb)
      have B13 := Lib.hid (B10.out.trans (hb.mono B10.out.size))
      clear hb B10 e0 e1 e2 e3 e4 e5 e6 f0 f1 f2 f3 f4 f5 f6 g0 g1 g2 g3 g4 g5 g6 h0 h1 h2 h3 h4 h5 h6
      obtain ⟨-, e0, e1, e2, e3, e4, e5, e6⟩ := HA2.out
      obtain ⟨-, f0, f1, f2, f3, f4, f5, f6⟩ := G12.out
      obtain ⟨-, g0, g1, g2, g3, g4, g5, g6⟩ := G22.out
      obtain ⟨-, h0, h1, h2, h3, h4, h5, h6⟩ := G32.out
      go_wp2_with fail
      refine (CB.out _ Hb2.out HX2.out).mono ?_
      rintro e w14 ⟨rfl, hb⟩
      replace HA2 := Lib.hid (box7_re (box7_carry HA2.out hb))
      replace G12 := Lib.hid (box7_re (box7_carry G12.out hb))
      replace G22 := Lib.hid (box7_re (box7_carry G22.out hb))
      replace G32 := Lib.hid (box7_re (box7_carry G32.out hb))
      replace Hb2 := Lib.hid (Hb2.out.below hb)
      replace Hc2 := Lib.hid (Hc2.out.below hb)
      replace HX2 := Lib.hid (HX2.out.below hb)
      have B14 := Lib.hid (B13.out.trans (hb.mono B13.out.size))
      clear hb B13 e0 e1 e2 e3 e4 e5 e6 f0 f1 f2 f3 f4 f5 f6 g0 g1 g2 g3 g4 g5 g6 h0 h1 h2 h3 h4 h5 h6
      obtain ⟨-, e0, e1, e2, e3, e4, e5, e6⟩ := HA2.out
      obtain ⟨-, f0, f1, f2, f3, f4, f5, f6⟩ := G12.out
      obtain ⟨-, g0, g1, g2, g3, g4, g5, g6⟩ := G22.out
      obtain ⟨-, h0, h1, h2, h3, h4, h5, h6⟩ := G32.out
      go_wp2_with fail
      refine (CC.out _ Hc2.out HX2.out).mono ?_
      rintro e w15 ⟨rfl, hb⟩
      replace HA2 := Lib.hid (box7_re (box7_carry HA2.out hb))
      replace G12 := Lib.hid (box7_re (box7_carry G12.out hb))
      replace G22 := Lib.hid (box7_re (box7_carry G22.out hb))
      replace G32 := Lib.hid (box7_re (box7_carry G32.out hb))
      replace Hb2 := Lib.hid (Hb2.out.below hb)
      replace Hc2 := Lib.hid (Hc2.out.below hb)
      replace HX2 := Lib.hid (HX2.out.below hb)
      have B15 := Lib.hid (B14.out.trans (hb.mono B14.out.size))
      clear hb B14 e0 e1 e2 e3 e4 e5 e6 f0 f1 f2 f3 f4 f5 f6 g0 g1 g2 g3 g4 g5 g6 h0 h1 h2 h3 h4 h5 h6
      obtain ⟨-, e0, e1, e2, e3, e4, e5, e6⟩ := HA2.out
      obtain ⟨-, f0, f1, f2, f3, f4, f5, f6⟩ := G12.out
      obtain ⟨-, g0, g1, g2, g3, g4, g5, g6⟩ := G22.out
      obtain ⟨-, h0, h1, h2, h3, h4, h5, h6⟩ := G32.out
      go_wp2_with fail
      refine (CD.out _ HX2.out).mono ?_
      rintro e w16 ⟨rfl, hb⟩
      replace HA2 := Lib.hid (box7_re (box7_carry HA2.out hb))
      replace G12 := Lib.hid (box7_re (box7_carry G12.out hb))
      replace G22 := Lib.hid (box7_re (box7_carry G22.out hb))
      replace G32 := Lib.hid (box7_re (box7_carry G32.out hb))
      replace Hb2 := Lib.hid (Hb2.out.below hb)
      replace Hc2 := Lib.hid (Hc2.out.below hb)
      replace HX2 := Lib.hid (HX2.out.below hb)
      have B16 := Lib.hid (B15.out.trans (hb.mono B15.out.size))
      clear hb B15 e0 e1 e2 e3 e4 e5 e6 f0 f1 f2 f3 f4 f5 f6 g0 g1 g2 g3 g4 g5 g6 h0 h1 h2 h3 h4 h5 h6
      obtain ⟨-, e0, e1, e2, e3, e4, e5, e6⟩ := HA2.out
      obtain ⟨-, f0, f1, f2, f3, f4, f5, f6⟩ := G12.out
      obtain ⟨-, g0, g1, g2, g3, g4, g5, g6⟩ := G22.out
      obtain ⟨-, h0, h1, h2, h3, h4, h5, h6⟩ := G32.out
      go_wp2_with fail
      refine (CE.out _ HX2.out).mono ?_
      rintro e w17 ⟨rfl, hb⟩
      replace HA2 := Lib.hid (box7_re (box7_carry HA2.out hb))
      replace G12 := Lib.hid (box7_re (box7_carry G12.out hb))
      replace G22 := Lib.hid (box7_re (box7_carry G22.out hb))
      replace G32 := Lib.hid (box7_re (box7_carry G32.out hb))
      replace Hb2 := Lib.hid (Hb2.out.below hb)
      replace Hc2 := Lib.hid (Hc2.out.below hb)
      replace HX2 := Lib.hid (HX2.out.below hb)
      have B17 := Lib.hid (B16.out.trans (hb.mono B16.out.size))
      clear hb B16 e0 e1 e2 e3 e4 e5 e6 f0 f1 f2 f3 f4 f5 f6 g0 g1 g2 g3 g4 g5 g6 h0 h1 h2 h3 h4 h5 h6
      obtain ⟨-, e0, e1, e2, e3, e4, e5, e6⟩ := HA2.out
      obtain ⟨-, f0, f1, f2, f3, f4, f5, f6⟩ := G12.out
      obtain ⟨-, g0, g1, g2, g3, g4, g5, g6⟩ := G22.out
      obtain ⟨-, h0, h1, h2, h3, h4, h5, h6⟩ := G32.out
      have T := Lib.hid (show Box21 w17 w.heap.size p1 p3 (.int .i64 i1) (.string q1) (.int .i64 k1) (.int .i64 m1) (.slice a n ca) (.bool false) (.bool false) (.int .i64 i1) (.string q1) (.int .i64 k1) (.int .i64 m1) (.slice a7 i c7) (.bool false) (.bool false) (.int .i64 i1) (.string q1) (.int .i64 k1) (.int .i64 m1) (.slice a n ca) (.bool false) (.bool true) w17 from ⟨Below.refl _ _, e0, e1, e2, e3, e4, e5, e6, f0, f1, f2, f3, f4, f5, f6, h0, h1, h2, h3, h4, h5, h6⟩)
      clear e0 e1 e2 e3 e4 e5 e6 f0 f1 f2 f3 f4 f5 f6 g0 g1 g2 g3 g4 g5 g6 h0 h1 h2 h3 h4 h5 h6
      have t1 : ((i : Int) == (n : Int)) = f := by rw [← FE.out]; by_cases e : i = n <;> simp [e] <;> omega
      have t2 : (f == f) = true := by simp
      go_upto_region 12 with fail
      go_region_held3 (fun w' => Below w17.heap.size w17 w' ∧ w'.cell? ⟨w.heap.size, 0, none⟩ = some (.int .i64 i1) ∧ w'.cell? ⟨w.heap.size, 1, none⟩ = some (.string q1) ∧ w'.cell? ⟨w.heap.size, 2, none⟩ = some (.int .i64 k1) ∧ w'.cell? ⟨w.heap.size, 3, none⟩ = some (.int .i64 m1) ∧ w'.cell? ⟨w.heap.size, 4, none⟩ = some (.slice a n ca) ∧ w'.cell? ⟨w.heap.size, 5, none⟩ = some (.bool false) ∧ w'.cell? ⟨w.heap.size, 6, none⟩ = some (.bool false) ∧ w'.cell? ⟨p1, 0, none⟩ = some (.int .i64 i1) ∧ w'.cell? ⟨p1, 1, none⟩ = some (.string q1) ∧ w'.cell? ⟨p1, 2, none⟩ = some (.int .i64 k1) ∧ w'.cell? ⟨p1, 3, none⟩ = some (.int .i64 m1) ∧ w'.cell? ⟨p1, 4, none⟩ = some (.slice a7 i c7) ∧ w'.cell? ⟨p1, 5, none⟩ = some (.bool false) ∧ w'.cell? ⟨p1, 6, none⟩ = some (.bool false) ∧ w'.cell? ⟨p3, 0, none⟩ = some (.int .i64 i1) ∧ w'.cell? ⟨p3, 1, none⟩ = some (.string q1) ∧ w'.cell? ⟨p3, 2, none⟩ = some (.int .i64 k1) ∧ w'.cell? ⟨p3, 3, none⟩ = some (.int .i64 m1) ∧ w'.cell? ⟨p3, 4, none⟩ = some (.slice a n ca) ∧ w'.cell? ⟨p3, 5, none⟩ = some (.bool false) ∧ w'.cell? ⟨p3, 6, none⟩ = some (.bool true))
        (first | assumption | exact box21_carry T.out (Below.refl _ _).drew | exact box21_carry (by assumption) (by assumption))
        (first
          | (go_at_call 14; (with_reducible refine (CH.out _ (HX2.out.below (And.left (by assumption))) (Hb2.out.below (And.left (by assumption)))).mono ?_); rintro e w' ⟨rfl, hb⟩)
          | (go_at_call 14; (with_reducible refine (CF.out _ (HX2.out.below (And.left (by assumption)))).mono ?_); rintro e w' ⟨rfl, hb⟩)
          | (go_at_call 7; (with_reducible refine (awake28_any _).mono ?_); rintro e w' ⟨rfl, hb⟩))
      rename_i T5
      have hbT := T5.1
      clear T5 T
      go_wp2_with fail
      go_ret
      exact ⟨rfl, B17.out.trans (hbT.mono B17.out.size)⟩
open Go.ChangeShapes Go.WideShapes Go.ChangeAt in
theorem checkChain_walk {H : Type} {enc : TypeId × Value → H} (W : World) (base : Nat) (v0 v1 v2 : Value) (d0 d1 d2 : DataW H) (p0 p1 p2 : List MemPlace)
    (h0 : DataW.Trod enc Try.prog W 0 (fun _ => true) true 27 v0 d0 p0) (h1 : DataW.Trod enc Try.prog W 0 (fun _ => true) true 3 v1 d1 p1) (h2 : DataW.Trod enc Try.prog W 0 (fun _ => true) true 3 v2 d2 p2)
    (o0 : Value.okWide Try.prog W .any base 27 v0) (o1 : Value.okWide Try.prog W .any base 3 v1) (o2 : Value.okWide Try.prog W .any base 3 v2) :
    Calls Try.prog 5 #[v0, v1, v2] W fun e w' => e = .returned (.bool true) ∧ RowKit.Below W.heap.size W w' := by
  obtain ⟨i1, q1, k1, m1, a1, n1, c1, xs, dn1, l1, rfl, x1, y1, z1, b1, s1, bq1⟩ := told_arg o0 h0
  obtain ⟨x2, rfl, rfl, rfl, b2⟩ := open_int Try.underlying3 o1 h1
  obtain ⟨x3, rfl, rfl, rfl, b3⟩ := open_int Try.underlying3 o2 h2
  exact checkChain_law i1 q1 k1 m1 a1 n1 c1 xs dn1 l1 x2 x3 W x1 y1 z1 b1 (fun k hk => (s1 k hk).2) bq1
end Go.Proofs.Ytmpkmgkafhlpjaa
