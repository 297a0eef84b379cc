/- contracts of the document's Prefix, Complete, Right; of Later, both -/
import Derived.Test.YtmpkmgkafhlpjaaCk2
namespace Go.Proofs.Ytmpkmgkafhlpjaa
open Go.RowKit
set_option linter.unusedVariables false
set_option maxRecDepth 20000
theorem rtop28_lit (a : Option Addr) (n cap L : Nat) (ws : List Tx) (s : Tx) (k m : Int) (ys : List KV) (w : World) (hh : HoldsT w a n ws) (hn : n ≤ 50000) (hl : ∀ t ∈ ws, t.size ≤ 1048576) (hs : s.size ≤ 1048576) (hy : topK ws s k m = ys) (hL : ys.length = L) :
    Calls Try.prog 22 #[.slice a n cap, .agg #[.string s, .int .i64 k, .int .i64 m]] w (RetJ w L ys) := by subst hy; exact (rtop_any a n cap ws s k m w hh hn hl hs).mono fun _ _ h => h.j hL
set_option maxHeartbeats 3200000 in
theorem rprefix_any (aw : Option Addr) (nw cw : Nat) (ws : List Tx) (i k m : Int) (q : Tx) (a : Option Addr) (n c : Nat) (xs : List KV) (d l f : Bool) (w : World) (hw : HoldsT w aw nw ws) (hnw : nw ≤ 50000) (hsw : ∀ t ∈ ws, t.size ≤ 1048576) (hq : q.size ≤ 1048576) (hx : HoldsK w a n xs) (hn : n ≤ 1048576) (hf : bgB xs (topK ws q k m) = f) :
    Calls Try.prog 9 #[.slice aw nw cw, .agg #[.int .i64 i, .string q, .int .i64 k, .int .i64 m, .slice a n c, .bool d, .bool l]] w fun e w' => e = .returned (.bool f) ∧ Below w.heap.size w w' := by
  have B0 := Lib.hid (below_one w (.cells #[.int .i64 i, .string q, .int .i64 k, .int .i64 m, .slice a n c, .bool d, .bool l] 27))
  have HB := Lib.hid (box7_new w (.int .i64 i) (.string q) (.int .i64 k) (.int .i64 m) (.slice a n c) (.bool d) (.bool l) 27)
  have HW := Lib.hid (hw.below B0.out); have HX := Lib.hid (hx.below B0.out)
  have lt := tops_len ws q k m
  have lws := hw.len
  obtain ⟨ts, hts⟩ : ∃ z, topK ws q k m = z := ⟨_, rfl⟩
  obtain ⟨L, hL⟩ : ∃ z, ts.length = z := ⟨_, rfl⟩
  rw [hts] at lt hf
  rw [hL] at lt
  have hL5 : L ≤ 50000 := by omega
  have T1 := Lib.hid hts; have T2 := Lib.hid hL; have HF := Lib.hid hf; have SW := Lib.hid hsw
  clear hw hx hts hL hf hsw lt lws
  go_enter Try.func9, Try.ntmps9
  go_upto_region 1 with fail
  generalize w.alloc (.cells #[.int .i64 i, .string q, .int .i64 k, .int .i64 m, .slice a n c, .bool d, .bool l] 27) = w1 at *
  go_region_held3 (fun w' => Below w1.heap.size w1 w' ∧ w'.cell? ⟨w.heap.size, 0, none⟩ = some (.int .i64 i) ∧ w'.cell? ⟨w.heap.size, 1, none⟩ = some (.string q) ∧ w'.cell? ⟨w.heap.size, 2, none⟩ = some (.int .i64 k) ∧ w'.cell? ⟨w.heap.size, 3, none⟩ = some (.int .i64 m) ∧ w'.cell? ⟨w.heap.size, 4, none⟩ = some (.slice a n c) ∧ w'.cell? ⟨w.heap.size, 5, none⟩ = some (.bool d) ∧ w'.cell? ⟨w.heap.size, 6, none⟩ = some (.bool l))
    (first | assumption | exact box7_carry HB.out (Below.refl _ _).drew | exact box7_carry (by assumption) (by assumption))
    (first
      | (go_at_call 22; (with_reducible refine (rtop28_lit aw nw cw L ws q k m ts _ (HW.out.below (And.left (by assumption))) hnw SW.out hq T1.out T2.out).mono ?_); rintro e w' ⟨a8, c8, rfl, o8, hb8⟩)
      | (go_at_call 21; (with_reducible refine (rbegins_any a n c xs a8 L c8 ts f _ (HX.out.below (And.left (by assumption))) (HoldsK.own o8) (by omega) (by omega) HF.out).mono ?_); rintro e w' ⟨rfl, hb9⟩))
  rename_i T5
  have hb := T5.1
  clear T5
  go_wp2_with fail
  go_ret
  exact ⟨rfl, B0.out.trans (hb.mono B0.out.size)⟩
theorem eq_of_bg {xs ys : List KV} : decide (xs = ys) = (bgB xs ys && decide (xs.length = ys.length)) := by
  unfold bgB
  by_cases h : xs = ys
  · subst h; simp
  · by_cases h2 : xs.length = ys.length
    · rw [h2, List.take_of_length_le (Nat.le_refl _)]; simp [h]
    · simp [h, h2]
set_option maxHeartbeats 3200000 in
theorem rcomplete_any (aw : Option Addr) (nw cw : Nat) (ws : List Tx) (i k m : Int) (q : Tx) (a : Option Addr) (n c : Nat) (xs : List KV) (d l f : Bool) (w : World) (hw : HoldsT w aw nw ws) (hnw : nw ≤ 50000) (hsw : ∀ t ∈ ws, t.size ≤ 1048576) (hq : q.size ≤ 1048576) (hx : HoldsK w a n xs) (hn : n ≤ 1048576) (hf : decide (xs = topK ws q k m) = f) :
    Calls Try.prog 11 #[.slice aw nw cw, .agg #[.int .i64 i, .string q, .int .i64 k, .int .i64 m, .slice a n c, .bool d, .bool l]] w fun e w' => e = .returned (.bool f) ∧ Below w.heap.size w w' := by
  have B0 := Lib.hid (below_one w (.cells #[.int .i64 i, .string q, .int .i64 k, .int .i64 m, .slice a n c, .bool d, .bool l] 27))
  have HB := Lib.hid (box7_new w (.int .i64 i) (.string q) (.int .i64 k) (.int .i64 m) (.slice a n c) (.bool d) (.bool l) 27)
  have HW := Lib.hid (hw.below B0.out); have HX := Lib.hid (hx.below B0.out)
  have lt := tops_len ws q k m
  have lws := hw.len
  have lxs := hx.len
  rw [eq_of_bg] at hf
  obtain ⟨ts, hts⟩ : ∃ z, topK ws q k m = z := ⟨_, rfl⟩
  obtain ⟨L, hL⟩ : ∃ z, ts.length = z := ⟨_, rfl⟩
  rw [hts] at lt hf
  rw [hL] at lt
  rw [hL, lxs] at hf
  obtain ⟨g, hg⟩ : ∃ g, bgB xs ts = g := ⟨_, rfl⟩
  rw [hg] at hf
  have hL5 : L ≤ 50000 := by omega
  have T1 := Lib.hid hts; have T2 := Lib.hid hL; have HG := Lib.hid hg; have SW := Lib.hid hsw
  clear hw hx hts hL hg hsw lt lws lxs
  go_enter Try.func11, Try.ntmps11
  go_upto_region 1 with fail
  generalize w.alloc (.cells #[.int .i64 i, .string q, .int .i64 k, .int .i64 m, .slice a n c, .bool d, .bool l] 27) = w1 at *
  obtain ⟨-, e0, e1, e2, e3, e4, e5, e6⟩ := HB.out
  go_wp2_with fail
  refine (rtop28_lit aw nw cw L ws q k m ts _ HW.out hnw SW.out hq T1.out T2.out).mono ?_
  rintro e w2 ⟨a8, c8, rfl, o8, hb8⟩
  have B2 := Lib.hid (B0.out.trans (hb8.mono B0.out.size))
  have HT := Lib.hid (HoldsK.own o8)
  have HX2 := Lib.hid (HX.out.below hb8)
  have HB2 := Lib.hid (box7_carry HB.out hb8)
  clear o8 hb8 e0 e1 e2 e3 e4 e5 e6
  obtain ⟨-, e0, e1, e2, e3, e4, e5, e6⟩ := HB2.out
  go_wp2_with fail
  refine (rbegins_any a n c xs a8 L c8 ts g _ HX2.out HT.out (by omega) (by omega) HG.out).mono ?_
  rintro e w3 ⟨rfl, hb9⟩
  have B3 := Lib.hid (B2.out.trans (hb9.mono B2.out.size))
  have HB3 := Lib.hid (box7_carry HB2.out hb9)
  clear hb9 e0 e1 e2 e3 e4 e5 e6
  obtain ⟨-, e0, e1, e2, e3, e4, e5, e6⟩ := HB3.out
  cases g with
  | false =>
    obtain rfl : false = f := by simpa using hf
    go_wp2_with fail
    go_ret
    exact ⟨rfl, B3.out⟩
  | true =>
    by_cases hnl : n = L
    · subst hnl
      obtain rfl : true = f := by simpa using hf
      have x1 : ((n : Int) == (n : Int)) = true := by simp
      go_wp2_with fail
      go_ret
      exact ⟨rfl, B3.out⟩
    · obtain rfl : false = f := by simpa [hnl] using hf
      have x1 : ((n : Int) == (L : Int)) = false := by simp; omega
      clear hf
      go_wp2_with fail
      go_ret
      exact ⟨rfl, B3.out⟩
theorem bg_of_eq {xs ys : List KV} (h : decide (xs = ys) = true) : bgB xs ys = true := by
  have e := of_decide_eq_true h
  subst e; simp [bgB]
set_option maxHeartbeats 3200000 in
theorem rright_any (aw : Option Addr) (nw cw : Nat) (ws : List Tx) (i k m : Int) (q : Tx) (a : Option Addr) (n c : Nat) (xs : List KV) (d l f : Bool) (w : World) (hw : HoldsT w aw nw ws) (hnw : nw ≤ 50000) (hsw : ∀ t ∈ ws, t.size ≤ 1048576) (hq : q.size ≤ 1048576) (hx : HoldsK w a n xs) (hn : n ≤ 1048576) (hf : rightB ws q k m xs d l = f) :
    Calls Try.prog 13 #[.slice aw nw cw, .agg #[.int .i64 i, .string q, .int .i64 k, .int .i64 m, .slice a n c, .bool d, .bool l]] w fun e w' => e = .returned (.bool f) ∧ Below w.heap.size w w' := by
  have B0 := Lib.hid (below_one w (.cells #[.int .i64 i, .string q, .int .i64 k, .int .i64 m, .slice a n c, .bool d, .bool l] 27))
  have HB := Lib.hid (box7_new w (.int .i64 i) (.string q) (.int .i64 k) (.int .i64 m) (.slice a n c) (.bool d) (.bool l) 27)
  have HW := Lib.hid (hw.below B0.out); have HX := Lib.hid (hx.below B0.out)
  obtain ⟨p, hp⟩ : ∃ g, bgB xs (topK ws q k m) = g := ⟨_, rfl⟩
  obtain ⟨g, hg⟩ : ∃ g, decide (xs = topK ws q k m) = g := ⟨_, rfl⟩
  have CP := Lib.hid (fun w (h1 : HoldsT w aw nw ws) (h2 : HoldsK w a n xs) => rprefix_any aw nw cw ws i k m q a n c xs d l p w h1 hnw hsw hq h2 hn hp)
  have CC := Lib.hid (fun w (h1 : HoldsT w aw nw ws) (h2 : HoldsK w a n xs) => rcomplete_any aw nw cw ws i k m q a n c xs d l g w h1 hnw hsw hq h2 hn hg)
  have hpg : g = true → p = true := fun e => by rw [← hp]; exact bg_of_eq (by rw [hg, e])
  have hf2 : (if d then g && !l else p) = f := by rw [← hf, ← hg, ← hp]; rfl
  clear hw hx hf hsw hg hp
  go_enter Try.func13, Try.ntmps13
  go_upto_region 1 with fail
  generalize w.alloc (.cells #[.int .i64 i, .string q, .int .i64 k, .int .i64 m, .slice a n c, .bool d, .bool l] 27) = w1 at *
  obtain ⟨-, e0, e1, e2, e3, e4, e5, e6⟩ := HB.out
  have HF := Lib.hid hf2; have HG := Lib.hid hpg
  clear hf2 hpg
  go_wp2_with fail
  refine (CP.out _ HW.out HX.out).mono ?_
  rintro e w2 ⟨rfl, hb⟩
  have B2 := Lib.hid (B0.out.trans (hb.mono B0.out.size))
  have HW2 := Lib.hid (HW.out.below hb)
  have HX2 := Lib.hid (HX.out.below hb)
  have HB2 := Lib.hid (box7_carry HB.out hb)
  clear hb e0 e1 e2 e3 e4 e5 e6
  obtain ⟨-, e0, e1, e2, e3, e4, e5, e6⟩ := HB2.out
  cases p with
  | false =>
    obtain rfl : f = false := by
      have h1 := HF.out
      cases g with
      | true => have := HG.out rfl; cases this
      | false => rw [← h1]; cases d <;> simp
    go_wp2_with fail
    go_ret
    exact ⟨rfl, B2.out⟩
  | true =>
    cases d with
    | false =>
      obtain rfl : f = true := by have h1 := HF.out; rw [← h1]; simp
      go_wp2_with fail
      go_ret
      exact ⟨rfl, B2.out⟩
    | true =>
      have h1 := HF.out
      rw [if_pos rfl] at h1
      clear HF HG
      go_wp2_with fail
      refine (CC.out _ HW2.out HX2.out).mono ?_
      rintro e w3 ⟨rfl, hb⟩
      have B3 := Lib.hid (B2.out.trans (hb.mono B2.out.size))
      have HB3 := Lib.hid (box7_carry HB2.out hb)
      clear hb e0 e1 e2 e3 e4 e5 e6
      obtain ⟨-, e0, e1, e2, e3, e4, e5, e6⟩ := HB3.out
      cases g <;> cases l <;> (simp at h1; subst h1)
      all_goals
        go_wp2_with fail
        go_ret
        exact ⟨rfl, B3.out⟩
/-- what may come behind -/
def laterB (i1 : Int) (q1 : Tx) (k1 m1 : Int) (xs : List KV) (d1 l1 : Bool) (i2 : Int) (q2 : Tx) (k2 m2 : Int) (ys : List KV) (d2 l2 : Bool) : Bool :=
  decide (i1 = i2 ∧ q1 = q2 ∧ k1 = k2 ∧ m1 = m2) && bgB xs ys && ((!d1 && !l1) || (decide (xs.length = ys.length) && (d1 == d2) && (l1 == l2)))
set_option maxRecDepth 100000 in
set_option maxHeartbeats 6400000 in
theorem later_any (i1 : Int) (q1 : Tx) (k1 m1 : Int) (a : Option Addr) (n ca : Nat) (xs : List KV) (d1 l1 : Bool) (i2 : Int) (q2 : Tx) (k2 m2 : Int) (b : Option Addr) (m cb : Nat) (ys : List KV) (d2 l2 f : Bool) (w : World) (h1 : HoldsK w a n xs) (h2 : HoldsK w b m ys) (hn : n ≤ 1048576) (hm : m ≤ 1048576) (hf : laterB i1 q1 k1 m1 xs d1 l1 i2 q2 k2 m2 ys d2 l2 = f) :
    Calls Try.prog 14 #[.agg #[.int .i64 i1, .string q1, .int .i64 k1, .int .i64 m1, .slice a n ca, .bool d1, .bool l1], .agg #[.int .i64 i2, .string q2, .int .i64 k2, .int .i64 m2, .slice b m cb, .bool d2, .bool l2]] w fun e w' => e = .returned (.bool f) ∧ Below w.heap.size w w' := by
  have L1 := Lib.hid h1.len; have L2 := Lib.hid h2.len
  have B0 := Lib.hid (below_one w (.cells #[.int .i64 i1, .string q1, .int .i64 k1, .int .i64 m1, .slice a n ca, .bool d1, .bool l1] 27))
  have HB := Lib.hid (box7_new w (.int .i64 i1) (.string q1) (.int .i64 k1) (.int .i64 m1) (.slice a n ca) (.bool d1) (.bool l1) 27)
  have H1 := Lib.hid (h1.below B0.out); have H2 := Lib.hid (h2.below B0.out)
  obtain ⟨g, hg⟩ : ∃ g, bgB xs ys = g := ⟨_, rfl⟩
  have HG := Lib.hid hg; have HF := Lib.hid hf
  clear h1 h2 hg hf
  go_enter Try.func14, Try.ntmps14
  go_upto_region 1 with fail
  have hr : (w.alloc (.cells #[.int .i64 i1, .string q1, .int .i64 k1, .int .i64 m1, .slice a n ca, .bool d1, .bool l1] 27)).heap.size = w.heap.size + 1 := by simp
  generalize w.alloc (.cells #[.int .i64 i1, .string q1, .int .i64 k1, .int .i64 m1, .slice a n ca, .bool d1, .bool l1] 27) = w1 at *
  have hb1 := below_one w1 (.cells #[.int .i64 i2, .string q2, .int .i64 k2, .int .i64 m2, .slice b m cb, .bool d2, .bool l2] 27)
  have B1 := Lib.hid (B0.out.trans (hb1.mono B0.out.size))
  have HA1 := Lib.hid (box7_carry HB.out hb1)
  have HC1 := Lib.hid (box7_new w1 (.int .i64 i2) (.string q2) (.int .i64 k2) (.int .i64 m2) (.slice b m cb) (.bool d2) (.bool l2) 27)
  have K1 := Lib.hid (H1.out.below hb1); have K2 := Lib.hid (H2.out.below hb1)
  clear hb1 HB B0 H1 H2
  generalize w1.alloc (.cells #[.int .i64 i2, .string q2, .int .i64 k2, .int .i64 m2, .slice b m cb, .bool d2, .bool l2] 27) = w2 at *
  rw [hr] at HC1
  obtain ⟨r, hr2⟩ : ∃ r, w.heap.size + 1 = r := ⟨_, rfl⟩
  rw [hr2] at HC1
  simp only [hr2]
  clear hr hr2
  obtain ⟨-, e0, e1, e2, e3, e4, e5, e6⟩ := HA1.out
  obtain ⟨-, f0, f1, f2, f3, f4, f5, f6⟩ := HC1.out
  by_cases hc : i1 = i2
  case neg =>
    obtain rfl : f = false := by rw [← HF.out]; simp [laterB, hc]
    have x1 : (i1 != i2) = true := by simpa using hc
    clear hc
    go_wp2_with fail
    go_ret
    exact ⟨rfl, B1.out⟩
  subst hc
  have x1 : (i1 != i1) = false := by simp
  by_cases hc : q1 = q2
  case neg =>
    obtain rfl : f = false := by rw [← HF.out]; simp [laterB, hc]
    have y1 := str_other hc
    clear hc
    go_wp2_with fail
    go_ret
    exact ⟨rfl, B1.out⟩
  subst hc
  have y1 := str_same q1
  by_cases hc : k1 = k2
  case neg =>
    obtain rfl : f = false := by rw [← HF.out]; simp [laterB, hc]
    have y2 : (k1 == k2) = false := by simpa using hc
    clear hc
    go_wp2_with fail
    go_ret
    exact ⟨rfl, B1.out⟩
  subst hc
  have y2 : (k1 == k1) = true := by simp
  by_cases hc : m1 = m2
  case neg =>
    obtain rfl : f = false := by rw [← HF.out]; simp [laterB, hc]
    have y3 : (m1 == m2) = false := by simpa using hc
    clear hc
    go_wp2_with fail
    go_ret
    exact ⟨rfl, B1.out⟩
  subst hc
  have y3 : (m1 == m1) = true := by simp
  have HG2 := Lib.hid (show laterB i1 q1 k1 m1 xs d1 l1 i1 q1 k1 m1 ys d2 l2 = (g && ((!d1 && !l1) || (decide (n = m) && (d1 == d2) && (l1 == l2)))) from by simp [laterB, HG.out, L1.out, L2.out])
  have HF2 := Lib.hid (HG2.out.symm.trans HF.out)
  clear HF HG2
  go_wp2_with fail
  refine (begins_any a n ca xs b m cb ys g _ K1.out K2.out (by omega) (by omega) HG.out).mono ?_
  rintro e w3 ⟨rfl, hb⟩
  have B3 := Lib.hid (B1.out.trans (hb.mono B1.out.size))
  have HA3 := Lib.hid (box7_carry HA1.out hb)
  have HC3 := Lib.hid (box7_carry HC1.out hb)
  clear hb HA1 HC1 e0 e1 e2 e3 e4 e5 e6 f0 f1 f2 f3 f4 f5 f6 HG
  obtain ⟨-, e0, e1, e2, e3, e4, e5, e6⟩ := HA3.out
  obtain ⟨-, f0, f1, f2, f3, f4, f5, f6⟩ := HC3.out
  cases g with
  | false =>
    obtain rfl : false = f := HF2.out
    go_wp2_with fail
    go_ret
    exact ⟨rfl, B3.out⟩
  | true =>
    by_cases hnm : n = m
    · subst hnm
      have x2 : ((n : Int) == (n : Int)) = true := by simp
      have h3 := HF2.out
      clear HF2
      cases d1 <;> cases l1 <;> cases d2 <;> cases l2 <;> (simp at h3; subst h3)
      all_goals
        go_wp2_with fail
        go_ret
        exact ⟨rfl, B3.out⟩
    · have x2 : ((n : Int) == (m : Int)) = false := by simp; omega
      have h3 := HF2.out
      rw [decide_eq_false hnm] at h3
      clear HF2 hnm
      cases d1 <;> cases l1 <;> cases d2 <;> cases l2 <;> (simp at h3; subst h3)
      all_goals
        go_wp2_with fail
        go_ret
        exact ⟨rfl, B3.out⟩
end Go.Proofs.Ytmpkmgkafhlpjaa
