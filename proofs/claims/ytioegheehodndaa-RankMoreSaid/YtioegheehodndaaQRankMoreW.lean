/- RankMore: with more words told, and a greater K, what was told first stays a beginning -/
import Derived.Test.YtioegheehodndaaPkD
import Derived.Deep.RegionWith
namespace Go.Proofs.Ytioegheehodndaa
open Go.RowKit
set_option linter.unusedVariables false
set_option maxRecDepth 20000
def Box6q (w0 : World) (p r : Nat) (v0 v1 v2 u0 u1 u2 : Value) (w : World) : Prop := Below w0.heap.size w0 w ∧ w.cell? ⟨p, 0, none⟩ = some v0 ∧ w.cell? ⟨p, 1, none⟩ = some v1 ∧ w.cell? ⟨p, 2, none⟩ = some v2 ∧ w.cell? ⟨r, 0, none⟩ = some u0 ∧ w.cell? ⟨r, 1, none⟩ = some u1 ∧ w.cell? ⟨r, 2, none⟩ = some u2
theorem box6q_carry {w0 w w' : World} {p r : Nat} {v0 v1 v2 u0 u1 u2 : Value} (h : Box6q w0 p r v0 v1 v2 u0 u1 u2 w) (hb : Below w.heap.size w w') : Box6q w0 p r v0 v1 v2 u0 u1 u2 w' := by
  obtain ⟨h0, h1, h2, h3, h4, h5, h6⟩ := h
  exact ⟨h0.trans (hb.mono h0.size), by rw [hb.cell (p := ⟨p, 0, none⟩) (lt_of_cell h1)]; exact h1, by rw [hb.cell (p := ⟨p, 1, none⟩) (lt_of_cell h1)]; exact h2, by rw [hb.cell (p := ⟨p, 2, none⟩) (lt_of_cell h1)]; exact h3,
    by rw [hb.cell (p := ⟨r, 0, none⟩) (lt_of_cell h4)]; exact h4, by rw [hb.cell (p := ⟨r, 1, none⟩) (lt_of_cell h4)]; exact h5, by rw [hb.cell (p := ⟨r, 2, none⟩) (lt_of_cell h4)]; exact h6⟩
theorem mset_at {w : World} {b o : Nat} {u v : Value} (h : w.cell? ⟨b, o, none⟩ = some u) : (w.setCell ⟨b, o, none⟩ v).cell? ⟨b, o, none⟩ = some v := World.cell?_setCell_same _ _ _ h
theorem mset_ne {w : World} {b o q p : Nat} {v : Value} (h : ¬ (b = q ∧ o = p)) : (w.setCell ⟨b, o, none⟩ v).cell? ⟨q, p, none⟩ = w.cell? ⟨q, p, none⟩ := World.cell?_setCell_other _ _ _ _ (by intro e; injection e; exact h ⟨by assumption, by assumption⟩)
set_option maxRecDepth 100000 in
set_option maxHeartbeats 6400000 in
theorem rankMore_law (a : Option Addr) (n ca : Nat) (ws : List Tx) (s : Tx) (k m x : Int) (w : World) (hh : HoldsT w a n ws) (hn : n ≤ 9223372036854775807) (hs : ∀ t ∈ ws, t.size ≤ 9223372036854775807) (hx : s.size ≤ 9223372036854775807) :
    Calls Try.prog 7 #[.slice a n ca, .agg #[.string s, .int .i64 k, .int .i64 m], .int .i64 x] w fun e w' => e = .returned (.bool true) ∧ Below w.heap.size w w' := by
  have lws := hh.len
  have H0 := Lib.hid hh
  have BB := Lib.hid (below_one w (.cells #[.string s, .int .i64 k, .int .i64 m] 24))
  have HX := Lib.hid (hh.below BB.out)
  have e0 : (w.alloc (.cells #[.string s, .int .i64 k, .int .i64 m] 24)).cell? ⟨w.heap.size, 0, none⟩ = some (.string s) := by rw [cell_alloc rfl]; rfl
  have e1 : (w.alloc (.cells #[.string s, .int .i64 k, .int .i64 m] 24)).cell? ⟨w.heap.size, 1, none⟩ = some (.int .i64 k) := by rw [cell_alloc rfl]; rfl
  have e2 : (w.alloc (.cells #[.string s, .int .i64 k, .int .i64 m] 24)).cell? ⟨w.heap.size, 2, none⟩ = some (.int .i64 m) := by rw [cell_alloc rfl]; rfl
  have HB := Lib.hid (show Box3q (w.alloc (.cells #[.string s, .int .i64 k, .int .i64 m] 24)) w.heap.size (.string s) (.int .i64 k) (.int .i64 m) (w.alloc (.cells #[.string s, .int .i64 k, .int .i64 m] 24)) from ⟨Below.refl _ _, e0, e1, e2⟩)
  have GK := Lib.hid (fun w (h : HoldsT w a n ws) => great_any a n ca ws w h hn hs)
  obtain ⟨g, hg⟩ : ∃ g, greatB ws = g := ⟨_, rfl⟩
  obtain ⟨c, hc⟩ : ∃ c, decide (mayP s k m) = c := ⟨_, rfl⟩
  have CM := Lib.hid (fun w => may_lit s k m c w hx hc)
  rw [hg] at GK
  clear hh hs e0 e1 e2
  by_cases hgo : g = true ∨ 100 < s.size ∨ c = false
  · clear hg hc
    go_enter Try.func7, Try.ntmps7
    go_wp2_with fail
    generalize w.alloc (.cells #[.string s, .int .i64 k, .int .i64 m] 24) = w1 at *
    refine (GK.out _ HX.out).mono ?_
    rintro e w2 ⟨rfl, hb2⟩
    have B2 := Lib.hid (BB.out.trans (hb2.mono BB.out.size))
    obtain ⟨-, e0, e1, e2⟩ := box3q_carry HB.out hb2
    have HB2 := Lib.hid (box3q_carry HB.out hb2)
    clear hb2 HB
    cases g with
    | true =>
      go_wp2_with fail
      refine (awake_any _).mono ?_
      rintro e w9 ⟨rfl, hb9⟩
      go_wp2_with fail
      go_ret
      exact ⟨rfl, B2.out.trans (hb9.mono B2.out.size)⟩
    | false =>
      by_cases h100 : 100 < s.size
      · go_wp2_with fail
        refine (awake_any _).mono ?_
        rintro e w9 ⟨rfl, hb9⟩
        go_wp2_with fail
        go_ret
        exact ⟨rfl, B2.out.trans (hb9.mono B2.out.size)⟩
      · obtain rfl : c = false := by
          rcases hgo with h | h | h
          · cases h
          · omega
          · exact h
        have h101 : s.size ≤ 100 := by omega
        clear h100 hgo
        go_wp2_with fail
        refine (CM.out _).mono ?_
        rintro e w3 ⟨rfl, hb3⟩
        have B3 := Lib.hid (B2.out.trans (hb3.mono B2.out.size))
        clear hb3
        go_wp2_with fail
        refine (awake_any _).mono ?_
        rintro e w9 ⟨rfl, hb9⟩
        go_wp2_with fail
        go_ret
        exact ⟨rfl, B3.out.trans (hb9.mono B3.out.size)⟩
  · have hgf : g = false := by cases g <;> simp_all
    have hcf : c = true := by cases c <;> simp_all
    have h100 : s.size ≤ 100 := by omega
    subst hgf hcf
    clear hgo
    obtain ⟨h80, hsm⟩ := great_no_iff.1 hg
    have hmay : mayP s k m := of_decide_eq_true hc
    have QK := Lib.hid (show ∀ t ∈ ws, t.size ≤ 1048576 from fun t ht => by have := hsm t ht; omega)
    obtain ⟨hk0, hk4⟩ := hmay.1
    obtain ⟨hm1, hm10⟩ := hmay.2.1
    obtain ⟨j, hj⟩ : ∃ j, lowV x (11 - m) = j := ⟨_, rfl⟩
    have hjb := low_bd x (11 - m) (by omega)
    rw [hj] at hjb
    obtain ⟨hj0, hj1⟩ := hjb
    have CL := Lib.hid (fun w => hj ▸ low_any x (11 - m) (by omega) (by omega) w)
    have hmay2 : mayP s k (m + j) := ⟨hmay.1, ⟨by omega, by omega⟩, hmay.2.2⟩
    have P1 := prefix_at (top_more_n ws s k m j hmay hj0 hmay2)
    have lA := tops_len ws s k m
    have lB := tops_len ws s k (m + j)
    have lC := tops_len ws s (k + 1) m
    have HP2 := Lib.hid (fun (h4 : k < 4) => prefix_at (top_more_k ws s k m hmay ⟨⟨by omega, by omega⟩, hmay.2⟩))
    obtain ⟨l1, has⟩ : ∃ l1, topK ws s k m = l1 := ⟨_, rfl⟩
    obtain ⟨l2, hbs⟩ : ∃ l2, topK ws s k (m + j) = l2 := ⟨_, rfl⟩
    obtain ⟨l3, hcs⟩ : ∃ l3, topK ws s (k + 1) m = l3 := ⟨_, rfl⟩
    rw [has] at P1 lA; rw [hbs] at P1 lB; rw [hcs] at lC
    simp only [has, hcs] at HP2
    obtain ⟨LA, hLA⟩ : ∃ L, l1.length = L := ⟨_, rfl⟩
    obtain ⟨LB, hLB⟩ : ∃ L, l2.length = L := ⟨_, rfl⟩
    obtain ⟨LC, hLC⟩ : ∃ L, l3.length = L := ⟨_, rfl⟩
    rw [hLA] at P1 lA; rw [hLB] at P1 lB; rw [hLC] at lC
    simp only [hLA, hLC] at HP2
    obtain ⟨P1a, P1b⟩ := P1
    have PB := Lib.hid P1b
    have AS := Lib.hid has; have BS := Lib.hid hbs; have CS := Lib.hid hcs; have NA := Lib.hid hLA; have NB := Lib.hid hLB; have NC := Lib.hid hLC
    have hn80 : n ≤ 80 := by omega
    have hLA80 : LA ≤ 80 := by omega
    have hLB80 : LB ≤ 80 := by omega
    have hLC80 : LC ≤ 80 := by omega
    clear hg hc hsm h80 lws hmay hmay2 P1b has hbs hcs hLA hLB hLC lA lB lC hj
    go_enter Try.func7, Try.ntmps7
    go_wp2_with fail
    generalize w.alloc (.cells #[.string s, .int .i64 k, .int .i64 m] 24) = w1 at *
    refine (GK.out _ HX.out).mono ?_
    rintro e w2 ⟨rfl, hb2⟩
    have B2 := Lib.hid (BB.out.trans (hb2.mono BB.out.size))
    have HX2 := Lib.hid (HX.out.below hb2)
    have HB2 := Lib.hid (box3q_carry HB.out hb2)
    obtain ⟨-, e0, e1, e2⟩ := HB2.out
    clear hb2 HB HX BB
    go_wp2_with fail
    refine (CM.out _).mono ?_
    rintro e w3 ⟨rfl, hb3⟩
    have B3 := Lib.hid (B2.out.trans (hb3.mono B2.out.size))
    have HX3 := Lib.hid (HX2.out.below hb3)
    have HB3 := Lib.hid (box3q_carry HB2.out hb3)
    clear hb3 HB2 HX2 B2 e0 e1 e2
    obtain ⟨-, e0, e1, e2⟩ := HB3.out
    go_wp2_with fail
    have q1 : IntKind.i64.wrap (10 - m) = 10 - m := IntWalk.i64_in _ (by omega)
    have q2 : IntKind.i64.wrap (10 - m + 1) = 11 - m := by rw [IntWalk.i64_in _ (by omega)]; omega
    have q3 : IntKind.i64.wrap (m + j) = m + j := IntWalk.i64_in _ (by omega)
    have B4 := Lib.hid (B3.out.alloc B3.out.size (.cells #[.string s, .int .i64 k, .int .i64 m] 24))
    have HX4 := Lib.hid (HX3.out.below (below_one w3 (.cells #[.string s, .int .i64 k, .int .i64 m] 24)))
    have HB4 := Lib.hid (box3q_carry HB3.out (below_one w3 (.cells #[.string s, .int .i64 k, .int .i64 m] 24)))
    have f0 : (w3.alloc (.cells #[.string s, .int .i64 k, .int .i64 m] 24)).cell? ⟨w3.heap.size, 0, none⟩ = some (.string s) := by rw [cell_alloc rfl]; rfl
    have f1 : (w3.alloc (.cells #[.string s, .int .i64 k, .int .i64 m] 24)).cell? ⟨w3.heap.size, 1, none⟩ = some (.int .i64 k) := by rw [cell_alloc rfl]; rfl
    have f2 : (w3.alloc (.cells #[.string s, .int .i64 k, .int .i64 m] 24)).cell? ⟨w3.heap.size, 2, none⟩ = some (.int .i64 m) := by rw [cell_alloc rfl]; rfl
    have f3 : (w3.alloc (.cells #[.string s, .int .i64 k, .int .i64 m] 24)).frozen? ⟨w3.heap.size, 2, none⟩ = false := by go_simp
    have hne : ¬ w.heap.size = w3.heap.size := by have := lt_of_cell e0; omega
    have hlt : w.heap.size < w3.heap.size := by have := lt_of_cell e0; omega
    clear e0 e1 e2 HB3 HX3
    generalize w3.alloc (.cells #[.string s, .int .i64 k, .int .i64 m] 24) = w4 at *
    obtain ⟨-, e0, e1, e2⟩ := HB4.out
    generalize w3.heap.size = r at *
    have B5 := Lib.hid ((B4.out.setCell (p := ⟨r, 2, none⟩) (Nat.le_of_lt hlt) (.int .i64 (m + j))).drew)
    have g0 := (mset_ne (v := .int .i64 (m + j)) (show ¬ (r = w.heap.size ∧ 2 = 0) by omega)).trans e0
    have g1 := (mset_ne (v := .int .i64 (m + j)) (show ¬ (r = w.heap.size ∧ 2 = 1) by omega)).trans e1
    have g2 := (mset_ne (v := .int .i64 (m + j)) (show ¬ (r = w.heap.size ∧ 2 = 2) by omega)).trans e2
    have g3 := (mset_ne (v := .int .i64 (m + j)) (show ¬ (r = r ∧ 2 = 0) by omega)).trans f0
    have g4 := (mset_ne (v := .int .i64 (m + j)) (show ¬ (r = r ∧ 2 = 1) by omega)).trans f1
    have g5 := mset_at (v := .int .i64 (m + j)) f2
    have G := Lib.hid (show Below w.heap.size w (w4.setCell ⟨r, 2, none⟩ (.int .i64 (m + j))).drew ∧ Box6q (w4.setCell ⟨r, 2, none⟩ (.int .i64 (m + j))).drew w.heap.size r (.string s) (.int .i64 k) (.int .i64 m) (.string s) (.int .i64 k) (.int .i64 (m + j)) (w4.setCell ⟨r, 2, none⟩ (.int .i64 (m + j))).drew from ⟨B5.out, Below.refl _ _, g0, g1, g2, g3, g4, g5⟩)
    clear g0 g1 g2 g3 g4 g5 B5 B4 HB4 HX4
    go_upto_region 4 with fail
    go_cut [36] from 27 to 35 (fun v wc => Hid (Below w.heap.size w wc ∧ Box6q wc w.heap.size r (.string s) (.int .i64 k) (.int .i64 m) (.string s) (.int .i64 k) (.int .i64 (m + j)) wc))
    case first =>
      go_region_with (go_at_call 33; refine (CL.out _).mono ?_; rintro e w' ⟨rfl, rfl⟩)
      all_goals
        go_wp2_with fail
        go_meet
        exact G
    case rest =>
      obtain ⟨B5, BX⟩ := hcut.out
      have B5 := Lib.hid B5
      have BX := Lib.hid BX
      have HX5 := Lib.hid (H0.out.below B5.out)
      clear G e0 e1 e2 f0 f1 f2 f3 q1 q2 q3 hcut
      have CT1 := Lib.hid (fun w (h : HoldsT w a n ws) => top_lit a n ca LA ws s k m l1 w h (by omega) QK.out (by omega) AS.out NA.out)
      have CT2 := Lib.hid (fun w (h : HoldsT w a n ws) => top_lit a n ca LB ws s k (m + j) l2 w h (by omega) QK.out (by omega) BS.out NB.out)
      have CT3 := Lib.hid (fun w (h : HoldsT w a n ws) => top_lit a n ca LC ws s (k + 1) m l3 w h (by omega) QK.out (by omega) CS.out NC.out)
      obtain ⟨-, e0, e1, e2, f0, f1, f2⟩ := BX.out
      go_upto_region 5 with fail
      clear e0 e1 e2 f0 f1 f2
      go_region_held3 (fun w' => Below wc.heap.size wc w' ∧ w'.cell? ⟨w.heap.size, 0, none⟩ = some (.string s) ∧ w'.cell? ⟨w.heap.size, 1, none⟩ = some (.int .i64 k) ∧ w'.cell? ⟨w.heap.size, 2, none⟩ = some (.int .i64 m) ∧ w'.cell? ⟨r, 0, none⟩ = some (.string s) ∧ w'.cell? ⟨r, 1, none⟩ = some (.int .i64 k) ∧ w'.cell? ⟨r, 2, none⟩ = some (.int .i64 (m + j)))
        (first | assumption | exact box6q_carry BX.out (Below.refl _ _).drew | exact box6q_carry (by assumption) (by assumption))
        (first
          | (go_at_call 14; (with_reducible refine (CT1.out _ (HX5.out.below (And.left (by assumption)))).mono ?_); rintro e w' ⟨a8, c8, rfl, o8, hb8⟩)
          | (go_at_call 14; (with_reducible refine (CT2.out _ (HX5.out.below (And.left (by assumption)))).mono ?_); rintro e w' ⟨a9, c9, rfl, o9, hb9⟩))
      rename_i T5
      obtain ⟨hB6, e0, e1, e2, -⟩ := T5
      have hl9 := (owns_none o9).2
      have HA := Lib.hid ((HoldsK.own o8).below hb9)
      have HBt := Lib.hid (show HoldsK w' a9 LA l1 from by have := HoldsK.own (owns_take o9 LA (by omega)); rwa [PB.out] at this)
      have hlc : LA ≤ c9 := by omega
      have hd : ¬ LB < LA := by omega
      have B6 := Lib.hid (B5.out.trans (hB6.mono B5.out.size))
      have HQ6 := Lib.hid (show Box3q w' w.heap.size (.string s) (.int .i64 k) (.int .i64 m) w' from ⟨Below.refl _ _, e0, e1, e2⟩)
      clear o8 o9 hb8 hb9 hB6 e0 e1 e2 B5 BX HX5
      generalize w' = w6 at *
      go_wp2_with fail
      refine (sameItems_yes a8 a9 LA c8 c9 l1 _ HA.out HBt.out (by omega)).mono ?_
      rintro e w7 ⟨rfl, hb7⟩
      have B7 := Lib.hid (B6.out.trans (hb7.mono B6.out.size))
      obtain ⟨-, e0, e1, e2⟩ := box3q_carry HQ6.out hb7
      have HA7 := Lib.hid (HA.out.below hb7)
      clear hb7 HQ6 B6 HA HBt
      by_cases hk : k = 4
      · subst hk
        go_wp2_with fail
        refine (awake_any _).mono ?_
        rintro e w9 ⟨rfl, hb9⟩
        go_wp2_with fail
        go_ret
        exact ⟨rfl, B7.out.trans (hb9.mono B7.out.size)⟩
      · have x1 : (k == 4) = false := by simpa using hk
        obtain ⟨q1, q2⟩ := HP2.out (by omega)
        have PC := Lib.hid q2
        have hd2 : ¬ LC < LA := by omega
        have hd3 : LA ≤ LC := q1
        clear q2 hk q1
        go_upto_region 11 with fail
        have B8 := Lib.hid (B7.out.alloc B7.out.size (.cells #[.string s, .int .i64 k, .int .i64 m] 24))
        have f0 : (w7.alloc (.cells #[.string s, .int .i64 k, .int .i64 m] 24)).cell? ⟨w7.heap.size, 0, none⟩ = some (.string s) := by rw [cell_alloc rfl]; rfl
        have f1 : (w7.alloc (.cells #[.string s, .int .i64 k, .int .i64 m] 24)).cell? ⟨w7.heap.size, 1, none⟩ = some (.int .i64 k) := by rw [cell_alloc rfl]; rfl
        have f2 : (w7.alloc (.cells #[.string s, .int .i64 k, .int .i64 m] 24)).cell? ⟨w7.heap.size, 2, none⟩ = some (.int .i64 m) := by rw [cell_alloc rfl]; rfl
        have f3 : (w7.alloc (.cells #[.string s, .int .i64 k, .int .i64 m] 24)).frozen? ⟨w7.heap.size, 1, none⟩ = false := by go_simp
        have HA8 := Lib.hid (HA7.out.below (below_one w7 (.cells #[.string s, .int .i64 k, .int .i64 m] 24)))
        have hz8 : w.heap.size ≤ w7.heap.size := B7.out.size
        have hA8 := Lib.hid (show ∀ b o, a8 = some ⟨b, o, none⟩ → 0 < LA → b < w7.heap.size from fun b o e h => by
          obtain ⟨b', o', e', hc⟩ := HA7.out.at h
          rw [e] at e'; injection e' with e'; injection e' with e1 e2; subst e1
          exact lt_of_cell (hc 0 h).1)
        have HQ8 := Lib.hid (box3q_carry (show Box3q w7 w.heap.size (.string s) (.int .i64 k) (.int .i64 m) w7 from ⟨Below.refl _ _, e0, e1, e2⟩) (below_one w7 (.cells #[.string s, .int .i64 k, .int .i64 m] 24)))
        clear e0 e1 e2 HA7
        generalize w7.alloc (.cells #[.string s, .int .i64 k, .int .i64 m] 24) = w8 at *
        generalize w7.heap.size = r8 at *
        have B9 := Lib.hid (B8.out.setCell (p := ⟨r8, 1, none⟩) hz8 (.int .i64 (k + 1)))
        have HA9 := Lib.hid (show HoldsK (w8.setCell ⟨r8, 1, none⟩ (.int .i64 (k + 1))) a8 LA l1 from ⟨HA8.out.1, fun h0 => by
          obtain ⟨b, o, e, hc⟩ := HA8.out.at h0
          have hlt := hA8.out b o e h0
          exact ⟨b, o, e, fun i hi => ⟨(mset_ne (by omega)).trans (hc i hi).1, (mset_ne (by omega)).trans (hc i hi).2⟩⟩⟩)
        have HX9 := Lib.hid (H0.out.below B9.out)
        obtain ⟨-, e0, e1, e2⟩ := HQ8.out
        clear HA8 hA8
        go_wp2_with fail
        refine (CT3.out _ HX9.out).mono ?_
        rintro e w10 ⟨a10, c10, rfl, o10, hb10⟩
        have B10 := Lib.hid (B9.out.trans (hb10.mono B9.out.size))
        have HA10 := Lib.hid (HA9.out.below hb10)
        have hl10 := (owns_none o10).2
        have HC10 := Lib.hid (show HoldsK w10 a10 LA l1 from by have := HoldsK.own (owns_take o10 LA (by omega)); rwa [PC.out] at this)
        have hlc10 : LA ≤ c10 := by omega
        have hd4 : decide (LA ≤ LC) = true := by simpa using hd3
        clear hb10 o10 B9 HA9 HX9 f0 f1 f2 f3
        go_wp2_with fail
        refine (sameItems_yes a8 a10 LA c8 c10 l1 _ HA10.out HC10.out (by omega)).mono ?_
        rintro e w11 ⟨rfl, hb11⟩
        have B11 := Lib.hid (B10.out.trans (hb11.mono B10.out.size))
        clear hb11
        go_wp2_with fail
        refine (awake_any _).mono ?_
        rintro e w12 ⟨rfl, hb12⟩
        go_wp2_with fail
        go_ret
        exact ⟨rfl, B11.out.trans (hb12.mono B11.out.size)⟩
open Go.ChangeShapes Go.WideShapes Go.ChangeAt in
theorem rankMore_walk {H : Type} {enc : TypeId × Value → H} (W : World) (base : Nat) (v0 v1 v2 : Value) (d0 d1 d2 : DataW H) (p0 p1 p2 : List MemPlace)
    (h0 : DataW.Trod enc Try.prog W 0 (fun _ => true) true 22 v0 d0 p0) (h1 : DataW.Trod enc Try.prog W 0 (fun _ => true) true 24 v1 d1 p1) (h2 : DataW.Trod enc Try.prog W 0 (fun _ => true) true 3 v2 d2 p2)
    (o0 : Value.okWide Try.prog W .any base 22 v0) (o1 : Value.okWide Try.prog W .any base 24 v1) (o2 : Value.okWide Try.prog W .any base 3 v2) :
    Calls Try.prog 7 #[v0, v1, v2] W fun e w' => e = .returned (.bool true) ∧ RowKit.Below W.heap.size W w' := by
  obtain ⟨a0, n0, c0, k0, rfl, x0, y0, z0, b0, s0⟩ := open_texts_arg o0 h0
  obtain ⟨t, k, n, ht, _, _, rfl⟩ := query_arg o1 h1
  obtain ⟨x2, rfl, rfl, rfl, b2⟩ := open_int Try.underlying3 o2 h2
  exact rankMore_law a0 n0 c0 k0 t k n x2 W x0 b0 s0 ht
end Go.Proofs.Ytioegheehodndaa
