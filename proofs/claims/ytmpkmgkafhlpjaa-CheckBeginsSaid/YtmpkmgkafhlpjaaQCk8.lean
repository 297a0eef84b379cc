/- the laws of check: CheckBegins -/
import Derived.Test.YtmpkmgkafhlpjaaQCk7
import Derived.Test.YtmpkmgkafhlpjaaPkB
namespace Go.Proofs.Ytmpkmgkafhlpjaa
open Go.RowKit
set_option linter.unusedVariables false
set_option maxRecDepth 20000
theorem box3q_re8 {w0 w : World} {p : Nat} {v0 v1 v2 : Value} (h : Box3q w0 p v0 v1 v2 w) : Box3q w p v0 v1 v2 w := ⟨Below.refl _ _, h.2⟩
theorem HoldsK.setDist {w : World} {b o n : Nat} {ks : List KV} (h : HoldsK w (some ⟨b, o, none⟩) n ks) (t : Nat) (ht : t < n) (v : Int) : HoldsK (w.setCell ⟨b, o + t * 2, none⟩ (.int .i64 v)) (some ⟨b, o, none⟩) n (ks.set t (v, (ks.getD t k0).2)) := by
  refine ⟨by rw [List.length_set]; exact h.1, fun h0 => ?_⟩
  obtain ⟨b', o', e, hc⟩ := h.at h0
  cases e
  refine ⟨b, o, rfl, fun j hj => ?_⟩
  by_cases e : j = t
  · subst e
    rw [show (ks.set j (v, (ks.getD j k0).2)).getD j k0 = (v, (ks.getD j k0).2) by simp [List.getD_eq_getElem?_getD, h.1, hj]]
    exact ⟨cset_at (hc j hj).1, (mset_off (by omega)).trans (hc j hj).2⟩
  · rw [show (ks.set t (v, (ks.getD t k0).2)).getD j k0 = ks.getD j k0 by simp [List.getD_eq_getElem?_getD, Ne.symm e]]
    exact ⟨(mset_off (by omega)).trans (hc j hj).1, (mset_off (by omega)).trans (hc j hj).2⟩
theorem bg_set {ts : List KV} {i : Nat} (hi : 0 < i) (hl : i ≤ ts.length) (v : Int) (hv : v ≠ (ts.getD (i - 1) k0).1) (u : Tx) : bgB ((ts.take i).set (i - 1) (v, u)) ts = false := by
  refine bgB_ne (k := i - 1) (by rw [List.length_set, List.length_take]; omega) ?_
  rw [show ((ts.take i).set (i - 1) (v, u)).getD (i - 1) k0 = (v, u) by simp [List.getD_eq_getElem?_getD, List.length_take, show i - 1 < min i ts.length by omega]]
  intro e
  exact hv (by rw [← e])
theorem top_dist {ws : List Tx} {s : Tx} {k m : Int} {t : Nat} (ht : t < (topK ws s k m).length) : 0 ≤ ((topK ws s k m).getD t k0).1 ∧ ((topK ws s k m).getD t k0).1 ≤ 4 := by
  by_cases hm : mayP s k m
  · have hmem := getD_memK _ t ht
    generalize (topK ws s k m).getD t k0 = z at *
    unfold topK at hmem
    rw [if_pos hm] at hmem
    have h := (allK_mem.1 (List.mem_of_mem_take hmem)).2
    have := hm.1
    omega
  · unfold topK at ht; rw [if_neg hm] at ht; simp at ht
theorem below_set7 {w3 w8 : World} (h : Below w3.heap.size w3 w8) (u0 u1 u2 u3 u4 u5 u6 : Value) : Below w3.heap.size w3 (((((((w8.setCell ⟨w3.heap.size, 0, none⟩ u0).setCell ⟨w3.heap.size, 1, none⟩ u1).setCell ⟨w3.heap.size, 2, none⟩ u2).setCell ⟨w3.heap.size, 3, none⟩ u3).setCell ⟨w3.heap.size, 4, none⟩ u4).setCell ⟨w3.heap.size, 5, none⟩ u5).setCell ⟨w3.heap.size, 6, none⟩ u6) :=
  ((((((h.setCell (p := ⟨w3.heap.size, 0, none⟩) (Nat.le_refl _) u0).setCell (p := ⟨w3.heap.size, 1, none⟩) (Nat.le_refl _) u1).setCell (p := ⟨w3.heap.size, 2, none⟩) (Nat.le_refl _) u2).setCell (p := ⟨w3.heap.size, 3, none⟩) (Nat.le_refl _) u3).setCell (p := ⟨w3.heap.size, 4, none⟩) (Nat.le_refl _) u4).setCell (p := ⟨w3.heap.size, 5, none⟩) (Nat.le_refl _) u5).setCell (p := ⟨w3.heap.size, 6, none⟩) (Nat.le_refl _) u6
theorem grown_set7 (w8 : World) (p : Nat) (u0 u1 u2 u3 u4 u5 u6 : Value) : w8.grownBy (((((((w8.setCell ⟨p, 0, none⟩ u0).setCell ⟨p, 1, none⟩ u1).setCell ⟨p, 2, none⟩ u2).setCell ⟨p, 3, none⟩ u3).setCell ⟨p, 4, none⟩ u4).setCell ⟨p, 5, none⟩ u5).setCell ⟨p, 6, none⟩ u6) (some p) :=
  grown_set (grown_set (grown_set (grown_set (grown_set (grown_set (grown_set ⟨rfl, rfl, rfl, Nat.le_refl _, fun _ _ _ => rfl⟩ _ _) _ _) _ _) _ _) _ _) _ _) _ _
theorem fresh_set7 {w8 : World} {p : Nat} {v0 v1 v2 v3 v4 v5 v6 : Value} (h : Fresh7 p v0 v1 v2 v3 v4 v5 v6 w8) (u0 u1 u2 u3 u4 u5 u6 : Value) : Fresh7 p u0 u1 u2 u3 u4 u5 u6 (((((((w8.setCell ⟨p, 0, none⟩ u0).setCell ⟨p, 1, none⟩ u1).setCell ⟨p, 2, none⟩ u2).setCell ⟨p, 3, none⟩ u3).setCell ⟨p, 4, none⟩ u4).setCell ⟨p, 5, none⟩ u5).setCell ⟨p, 6, none⟩ u6) := by
  obtain ⟨⟨-, h0, h1, h2, h3, h4, h5, h6⟩, h7⟩ := h
  refine ⟨⟨Below.refl _ _, ?_, ?_, ?_, ?_, ?_, ?_, ?_⟩, fun o => by first | (go_simp; exact h7 o) | go_simp⟩
  · rw [cset_ne (by decide), cset_ne (by decide), cset_ne (by decide), cset_ne (by decide), cset_ne (by decide), cset_ne (by decide)]; exact cset_at h0
  · rw [cset_ne (by decide), cset_ne (by decide), cset_ne (by decide), cset_ne (by decide), cset_ne (by decide)]; exact cset_at ((cset_ne (by decide)).trans h1)
  · rw [cset_ne (by decide), cset_ne (by decide), cset_ne (by decide), cset_ne (by decide)]; exact cset_at ((cset_ne (by decide)).trans ((cset_ne (by decide)).trans h2))
  · rw [cset_ne (by decide), cset_ne (by decide), cset_ne (by decide)]; exact cset_at ((cset_ne (by decide)).trans ((cset_ne (by decide)).trans ((cset_ne (by decide)).trans h3)))
  · rw [cset_ne (by decide), cset_ne (by decide)]; exact cset_at ((cset_ne (by decide)).trans ((cset_ne (by decide)).trans ((cset_ne (by decide)).trans ((cset_ne (by decide)).trans h4))))
  · rw [cset_ne (by decide)]; exact cset_at ((cset_ne (by decide)).trans ((cset_ne (by decide)).trans ((cset_ne (by decide)).trans ((cset_ne (by decide)).trans ((cset_ne (by decide)).trans h5)))))
  · exact cset_at ((cset_ne (by decide)).trans ((cset_ne (by decide)).trans ((cset_ne (by decide)).trans ((cset_ne (by decide)).trans ((cset_ne (by decide)).trans ((cset_ne (by decide)).trans h6))))))
theorem own_apart8 {w : World} {B : Nat} {e : TypeId} {s : Nat} {v : Value} {n : Nat} {xs : List Value} (h : w.ownsRow B e s v n xs) {p : Nat} (hp : p < B) : v.ownBlock = none ∨ v.ownBlock ≠ some p := by
  cases hu : v.ownBlock with
  | none => exact Or.inl rfl
  | some g => exact Or.inr fun e => by have := (h.lt g hu).1; injection e; omega
theorem q3_at {w3 w' : World} {p : Nat} {v0 v1 v2 : Value} (h : Box3q w3 p v0 v1 v2 w3) (hb : Below w3.heap.size w3 w') : Below w3.heap.size w3 w' ∧ w'.cell? ⟨p, 0, none⟩ = some v0 ∧ w'.cell? ⟨p, 1, none⟩ = some v1 ∧ w'.cell? ⟨p, 2, none⟩ = some v2 := box3q_carry h hb
theorem q3_trans {w3 w w' : World} {p : Nat} {v0 v1 v2 : Value} (h : Below w3.heap.size w3 w ∧ w.cell? ⟨p, 0, none⟩ = some v0 ∧ w.cell? ⟨p, 1, none⟩ = some v1 ∧ w.cell? ⟨p, 2, none⟩ = some v2) (hb : Below w.heap.size w w') : Below w3.heap.size w3 w' := h.1.trans (hb.mono h.1.size)
set_option maxRecDepth 100000 in
set_option maxHeartbeats 6400000 in
theorem checkBegins_law (aw : Option Addr) (nw cw : Nat) (ws : List Tx) (s : Tx) (k m x : Int) (w : World) (hw : HoldsT w aw nw ws) (hnw : nw ≤ 9223372036854775807) (hsw : ∀ t ∈ ws, t.size ≤ 9223372036854775807) (hs : s.size ≤ 9223372036854775807) :
    Calls Try.prog 4 #[.slice aw nw cw, .agg #[.string s, .int .i64 k, .int .i64 m], .int .i64 x] w fun e w' => e = .returned (.bool true) ∧ Below w.heap.size w w' := by
  obtain ⟨i0, hi, hz0, hz1, hz2⟩ := info_parts item_info
  have H0 := Lib.hid hw; have LW := Lib.hid hw.len
  have B0 := Lib.hid (below_one w (.cells #[.string s, .int .i64 k, .int .i64 m] 24))
  have HX := Lib.hid (hw.below B0.out)
  have HQ := Lib.hid (show Box3q (w.alloc (.cells #[.string s, .int .i64 k, .int .i64 m] 24)) w.heap.size (.string s) (.int .i64 k) (.int .i64 m) (w.alloc (.cells #[.string s, .int .i64 k, .int .i64 m] 24)) from ⟨Below.refl _ _, by rw [cell_alloc rfl]; rfl, by rw [cell_alloc rfl]; rfl, by rw [cell_alloc rfl]; rfl⟩)
  obtain ⟨g, hg⟩ : ∃ g, greatB ws = g := ⟨_, rfl⟩
  have CG := Lib.hid (fun w (h : HoldsT w aw nw ws) => hg ▸ great_any aw nw cw ws w h hnw hsw)
  have HG := Lib.hid hg
  clear hw hsw hg
  go_enter Try.func4, Try.ntmps4
  go_wp2_with fail
  generalize w.alloc (.cells #[.string s, .int .i64 k, .int .i64 m] 24) = w1 at *
  refine (CG.out _ HX.out).mono ?_
  rintro e w2 ⟨rfl, hb⟩
  have B2 := Lib.hid (B0.out.trans (hb.mono B0.out.size))
  have HQ2 := Lib.hid (box3q_carry HQ.out hb)
  clear hb HQ B0 HX CG
  obtain ⟨-, e0, e1, e2⟩ := HQ2.out
  cases g with
  | true =>
    go_wp2_with fail
    refine (awake28_any _).mono ?_
    rintro e w9 ⟨rfl, hb9⟩
    go_wp2_with fail
    go_ret
    exact ⟨rfl, B2.out.trans (hb9.mono B2.out.size)⟩
  | false =>
    by_cases hs1 : 100 < s.size
    · go_wp2_with fail
      refine (awake28_any _).mono ?_
      rintro e w9 ⟨rfl, hb9⟩
      go_wp2_with fail
      go_ret
      exact ⟨rfl, B2.out.trans (hb9.mono B2.out.size)⟩
    have hs100 : s.size ≤ 100 := by omega
    obtain ⟨h80, hsw⟩ := great_no_iff.1 HG.out
    have SW := Lib.hid (show ∀ t ∈ ws, t.size ≤ 1048576 from fun t ht => by have := hsw t ht; omega)
    have hnw80 : nw ≤ 80 := by have := LW.out; omega
    have lt := tops_len ws s k m
    have hD := fun t => top_dist (ws := ws) (s := s) (k := k) (m := m) (t := t)
    have cP := bg_self (topK ws s k m)
    obtain ⟨ts, hts⟩ : ∃ z, topK ws s k m = z := ⟨_, rfl⟩
    obtain ⟨L, hL⟩ : ∃ z, ts.length = z := ⟨_, rfl⟩
    rw [hts, hL] at lt
    simp only [hts, hL] at hD
    have HD := Lib.hid hD
    have T1 := Lib.hid hts; have T2 := Lib.hid hL
    have hL80 : L ≤ 80 := by have := LW.out; omega
    clear hs1 h80 hsw lt hD cP hts hL
    go_wp2_with fail
    refine (top_lit aw nw cw L ws s k m ts _ (H0.out.below B2.out) (by omega) SW.out (by omega) T1.out T2.out).mono ?_
    rintro e w3 ⟨a7, c7, rfl, hown7, hb⟩
    have B3 := Lib.hid (B2.out.trans (hb.mono B2.out.size))
    have HQ3 := Lib.hid (box3q_re8 (box3q_carry HQ2.out hb))
    have HA := Lib.hid (HoldsK.own hown7)
    have O7 := owns_none hown7
    have N7 := Lib.hid O7.1
    have hc7 : L ≤ c7 := O7.2
    clear hb HQ2 B2 O7 hown7 e0 e1 e2
    obtain ⟨i, hi0⟩ : ∃ i : Nat, lowV x ((L : Int) + 1) = (i : Int) := ⟨(lowV x ((L : Int) + 1)).toNat, by have := low_bd x ((L : Int) + 1) (by omega); omega⟩
    have hin : i ≤ L := by have := low_bd x ((L : Int) + 1) (by omega); omega
    have CL1 := Lib.hid (fun w => hi0 ▸ low_any x ((L : Int) + 1) (by omega) (by omega) w)
    have HI := Lib.hid hi0
    clear hi0
    go_wp2_with fail
    refine (CL1.out _).mono ?_
    rintro e w4 ⟨rfl, rfl⟩
    have hii : i ≤ c7 := by omega
    have lk1 := Lib.hid (show (keysV (ts.take i)).length = i * 2 by rw [keysV_len, List.length_take, T2.out, Nat.min_eq_left hin])
    have NI := Lib.hid (show a7 = none → i = 0 ∧ c7 = 0 from fun h => by have := N7.out h; omega)
    have T := Lib.hid HQ3.out
    go_upto_region 5 with fail
    go_cut [8] from 27 to 32 (fun v8 wc => ∃ (p8 : Nat) (a8 : Option Addr) (c8 B : Nat), v8 = .pointer (some ⟨p8, 0, none⟩) ∧ Hid (w3.heap.size ≤ p8 ∧ w3.heap.size ≤ B ∧ Below w3.heap.size w3 wc ∧ Fresh7 p8 (.int .i64 3) (.string s) (.int .i64 k) (.int .i64 m) (.slice a8 i c8) (.bool false) (.bool false) wc ∧ wc.ownsRow B 36 2 (.slice a8 i c8) i (keysV (ts.take i)) ∧ (∀ b o, a8 = some ⟨b, o, none⟩ → b ≠ p8)))
    case first =>
      go_region_held3 (fun w' => Below w3.heap.size w3 w' ∧ w'.cell? ⟨w.heap.size, 0, none⟩ = some (.string s) ∧ w'.cell? ⟨w.heap.size, 1, none⟩ = some (.int .i64 k) ∧ w'.cell? ⟨w.heap.size, 2, none⟩ = some (.int .i64 m))
        (first | (with_reducible assumption) | (refine q3_at T.out ?_; (first | (with_reducible assumption) | (with_reducible exact Below.refl _ _) | (with_reducible exact (Below.refl _ _).drew) | (with_reducible exact (below_one _ _)) | (with_reducible exact (below_one _ _).drew) | (with_reducible exact Below.alloc hbN hbN.size _) | (with_reducible exact (Below.alloc hbN hbN.size _).drew) | (with_reducible exact hbN.drew) | (with_reducible exact below_set7 hbN _ _ _ _ _ _ _) | (with_reducible exact (below_set7 hbN _ _ _ _ _ _ _).drew) | (repeat' (first | (with_reducible exact hbN) | (with_reducible refine Below.drew ?_) | (with_reducible refine Below.setCell ?_ (Nat.le_refl _) _))))))
        (first
          | (refine wp_append_first (.const (.slice none 0 0)) (.tmp 30) 25 rfl 36 i0 (.agg #[.int .i64 0, .string ⟨#[]⟩]) 2 24 Try.underlying25 hi hz0 hz1 hz2 rfl (by decide) rfl a7 i c7 (keysV (ts.take i)) rfl NI.out lk1.out (HoldsK.cellsAt ((HA.out.take i hin).below (And.left (by assumption)))) (keysV_one _) (by unfold maxLen; omega) (by omega) ?_; intro a8 c8 w8 o8 hb8; have hbN := q3_trans (p := w.heap.size) (v0 := .string s) (v1 := .int .i64 k) (v2 := .int .i64 m) (w3 := w3) (by assumption) hb8; refine (fun y0 => ?_) (hb8.cell (p := ⟨w3.heap.size, 0, none⟩) ?hx); (case hx => (simp; done)); simp at y0; refine (fun z0 => ?_) (hb8.frozen (p := ⟨w3.heap.size, 0, none⟩) ?hx); (case hx => (simp; done)); simp at z0; refine (fun y1 => ?_) (hb8.cell (p := ⟨w3.heap.size, 1, none⟩) ?hx); (case hx => (simp; done)); simp at y1; refine (fun z1 => ?_) (hb8.frozen (p := ⟨w3.heap.size, 1, none⟩) ?hx); (case hx => (simp; done)); simp at z1; refine (fun y2 => ?_) (hb8.cell (p := ⟨w3.heap.size, 2, none⟩) ?hx); (case hx => (simp; done)); simp at y2; refine (fun z2 => ?_) (hb8.frozen (p := ⟨w3.heap.size, 2, none⟩) ?hx); (case hx => (simp; done)); simp at z2; refine (fun y3 => ?_) (hb8.cell (p := ⟨w3.heap.size, 3, none⟩) ?hx); (case hx => (simp; done)); simp at y3; refine (fun z3 => ?_) (hb8.frozen (p := ⟨w3.heap.size, 3, none⟩) ?hx); (case hx => (simp; done)); simp at z3; refine (fun y4 => ?_) (hb8.cell (p := ⟨w3.heap.size, 4, none⟩) ?hx); (case hx => (simp; done)); simp at y4; refine (fun z4 => ?_) (hb8.frozen (p := ⟨w3.heap.size, 4, none⟩) ?hx); (case hx => (simp; done)); simp at z4; refine (fun y5 => ?_) (hb8.cell (p := ⟨w3.heap.size, 5, none⟩) ?hx); (case hx => (simp; done)); simp at y5; refine (fun z5 => ?_) (hb8.frozen (p := ⟨w3.heap.size, 5, none⟩) ?hx); (case hx => (simp; done)); simp at z5; refine (fun y6 => ?_) (hb8.cell (p := ⟨w3.heap.size, 6, none⟩) ?hx); (case hx => (simp; done)); simp at y6; refine (fun z6 => ?_) (hb8.frozen (p := ⟨w3.heap.size, 6, none⟩) ?hx); (case hx => (simp; done)); simp at z6)
          | (refine wp_append_first (.const (.slice none 0 0)) (.tmp 30) 25 rfl 36 i0 (.agg #[.int .i64 0, .string ⟨#[]⟩]) 2 24 Try.underlying25 hi hz0 hz1 hz2 rfl (by decide) rfl a7 i c7 (keysV (ts.take i)) rfl NI.out lk1.out (HoldsK.cellsAt ((HA.out.take i hin).below (And.left (by assumption)))) (keysV_one _) (by unfold maxLen; omega) (by omega) ?_; intro a8 c8 w8 o8 hb8; have hbN := q3_trans (p := w.heap.size) (v0 := .string s) (v1 := .int .i64 k) (v2 := .int .i64 m) (w3 := w3) (by assumption) hb8))
      · go_wp2_with fail
        go_meet
        exact ⟨w8.heap.size, a8, c8, w3.drew.heap.size, rfl, Lib.hid ⟨hbN.size, Nat.le_refl _, hbN.alloc hbN.size _, fresh_new w8 _ _ _ _ _ _ _ _, owns_below o8 (below_one _ _), fun b o e => by have := (o8.lt b (by rw [e]; rfl)).2; omega⟩⟩
      · go_wp2_with fail
        go_meet
        have F8 := fresh_set7 (((fresh_new w3 (.int .i64 0) (.string ⟨#[]⟩) (.int .i64 0) (.int .i64 0) (.slice none 0 0) (.bool false) (.bool false) 27).below (Below.refl _ _).drew).below hb8) (.int .i64 3) (.string s) (.int .i64 k) (.int .i64 m) (.slice a8 i c8) (.bool false) (.bool false)
        exact ⟨w3.heap.size, a8, c8, _, rfl, Lib.hid ⟨Nat.le_refl _, by simp, below_set7 hbN _ _ _ _ _ _ _, F8, o8.kept (grown_set7 _ _ _ _ _ _ _ _ _) (own_apart8 o8 (by simp)), fun b o e => by have := (o8.lt b (by rw [e]; rfl)).1; simp at this; omega⟩⟩
    case rest =>
      obtain ⟨p8, a8, c8, B, rfl, hF⟩ := hcut
      obtain ⟨z1, z2, hBc, g8, o8, nb⟩ := hF.out
      have HQc := Lib.hid (box3q_re8 (box3q_carry HQ3.out hBc))
      have G8 := Lib.hid g8; have O8 := Lib.hid o8; have NB := Lib.hid nb
      have B4 := Lib.hid (B3.out.trans (hBc.mono B3.out.size))
      have H7 := Lib.hid (HA.out.below hBc)
      have LA7 := Lib.hid (show ∀ b o, a7 = some ⟨b, o, none⟩ → 0 < L → b < w3.heap.size from fun b o e h => by
        obtain ⟨b', o', e', hc⟩ := HA.out.at h
        rw [e] at e'; injection e' with e'; injection e' with e1 e2; subst e1
        exact lt_of_cell (hc 0 h).1)
      have hw3c : w3.heap.size ≤ wc.heap.size := hBc.size
      have BW := Lib.hid (show w.heap.size ≤ w3.heap.size from B3.out.size)
      clear hF hBc g8 o8 nb HQ3 T B3 HA
      obtain ⟨-, e0, e1, e2⟩ := HQc.out
      go_upto_region 7 with fail
      have hb9 := below_one wc (.cells #[.int .i64 3, .string s, .int .i64 k, .int .i64 m, .slice a7 L c7, .bool true, .bool false] 27)
      have G9 := Lib.hid (fresh_new wc (.int .i64 3) (.string s) (.int .i64 k) (.int .i64 m) (.slice a7 L c7) (.bool true) (.bool false) 27)
      have B5 := Lib.hid (B4.out.trans (hb9.mono B4.out.size))
      replace G8 := Lib.hid (G8.out.below hb9)
      have lt8 : B ≤ wc.heap.size ∨ i = 0 := by
        rcases Nat.eq_zero_or_pos i with h | h
        · exact Or.inr h
        · obtain ⟨b', o', e', hc⟩ := (HoldsK.own O8.out).at h
          have := (O8.out.lt b' (by rw [e']; rfl)); omega
      have OB := Lib.hid (show ∀ b, (Value.slice a8 i c8).ownBlock = some b → B ≤ b ∧ b < wc.heap.size from fun b h => O8.out.lt b h)
      replace O8 := Lib.hid (owns_below O8.out hb9)
      replace H7 := Lib.hid (H7.out.below hb9)
      clear hb9 HQc B4 e0 e1 e2 lt8
      generalize wc.alloc (.cells #[.int .i64 3, .string s, .int .i64 k, .int .i64 m, .slice a7 L c7, .bool true, .bool false] 27) = w9 at *
      have hp9 : w3.heap.size ≤ wc.heap.size := hw3c
      obtain ⟨p9, hp9e⟩ : ∃ p, wc.heap.size = p := ⟨_, rfl⟩
      rw [hp9e] at G9 OB hp9
      simp only [hp9e]
      have HP9 := Lib.hid hp9e
      clear hp9e hw3c
      have H8 := Lib.hid (HoldsK.own O8.out)
      have TI := Lib.hid (show (ts.take i).length = i by rw [List.length_take, T2.out]; omega)
      obtain ⟨g, hg⟩ : ∃ g, decide (i = L) = g := ⟨_, rfl⟩
      have t1 : ((i : Int) == (L : Int)) = g := by rw [← hg]; by_cases e : i = L <;> simp [e] <;> omega
      have t2 : (g != g) = false := by simp
      have eqg : decide (ts.take i = topK ws s k m) = g := by
        rw [T1.out, ← hg]
        by_cases e : i = L
        · subst e; rw [List.take_of_length_le (by have := T2.out; omega)]; simp
        · rw [decide_eq_false e]; exact decide_eq_false fun h => e (by have := congrArg List.length h; rw [TI.out, T2.out] at this; exact this)
      have C1 := Lib.hid (fun w (h0 : HoldsT w aw nw ws) (h1 : HoldsK w a8 i (ts.take i)) => prefix_any aw nw cw ws 3 k m s a8 i c8 (ts.take i) false false true w h0 (by omega) SW.out (by omega) h1 (by omega) (by rw [T1.out]; exact bg_take1 ts i))
      have C2 := Lib.hid (fun w (h0 : HoldsT w aw nw ws) (h1 : HoldsK w a8 i (ts.take i)) => complete_any aw nw cw ws 3 k m s a8 i c8 (ts.take i) false false g w h0 (by omega) SW.out (by omega) h1 (by omega) eqg)
      have C3 := Lib.hid (fun w (h0 : HoldsT w aw nw ws) (h1 : HoldsK w a7 L ts) => right_any aw nw cw ws 3 k m s a7 L c7 ts true false true w h0 (by omega) SW.out (by omega) h1 (by omega) (by unfold rightB; rw [T1.out]; simp))
      have C4 := Lib.hid (fun w (h1 : HoldsK w a8 i (ts.take i)) (h2 : HoldsK w a7 L ts) => later_any 3 s k m a8 i c8 (ts.take i) false false 3 s k m a7 L c7 ts true false true w h1 h2 (by omega) (by omega) (by simp [laterB, bg_take1]))
      have C5 := Lib.hid (fun w (h1 : HoldsK w a8 i (ts.take i)) => later_any 3 s k m a8 i c8 (ts.take i) false false 3 s k m a8 i c8 (ts.take i) false false true w h1 h1 (by omega) (by omega) (by simp [laterB, bg_self]))
      have C6 := Lib.hid (fun w (h1 : HoldsK w a7 L ts) (h2 : HoldsK w a8 i (ts.take i)) => later_any 3 s k m a7 L c7 ts true false 3 s k m a8 i c8 (ts.take i) false false false w h1 h2 (by omega) (by omega) (by simp [laterB]))
      have E8 := Lib.hid G8.out.1; have E9 := Lib.hid G9.out.1
      have HWn := Lib.hid (H0.out.below B5.out)
      have HGG := Lib.hid hg
      clear hg eqg
      obtain ⟨-, e0, e1, e2, e3, e4, e5, e6⟩ := E8.out
      obtain ⟨-, f0, f1, f2, f3, f4, f5, f6⟩ := E9.out
      go_wp2_with fail
      refine (C1.out _ HWn.out H8.out).mono ?_
      rintro e w20 ⟨rfl, hb⟩
      replace E8 := Lib.hid (box7_re (box7_carry E8.out hb))
      replace E9 := Lib.hid (box7_re (box7_carry E9.out hb))
      replace G8 := Lib.hid (G8.out.below hb)
      replace G9 := Lib.hid (G9.out.below hb)
      replace O8 := Lib.hid (owns_below O8.out hb)
      replace H7 := Lib.hid (H7.out.below hb)
      replace H8 := Lib.hid (H8.out.below hb)
      replace HWn := Lib.hid (HWn.out.below hb)
      have B20 := Lib.hid (B5.out.trans (hb.mono B5.out.size))
      clear hb B5 e0 e1 e2 e3 e4 e5 e6 f0 f1 f2 f3 f4 f5 f6
      obtain ⟨-, e0, e1, e2, e3, e4, e5, e6⟩ := E8.out
      obtain ⟨-, f0, f1, f2, f3, f4, f5, f6⟩ := E9.out
      go_wp2_with fail
      refine (C2.out _ HWn.out H8.out).mono ?_
      rintro e w21 ⟨rfl, hb⟩
      replace E8 := Lib.hid (box7_re (box7_carry E8.out hb))
      replace E9 := Lib.hid (box7_re (box7_carry E9.out hb))
      replace G8 := Lib.hid (G8.out.below hb)
      replace G9 := Lib.hid (G9.out.below hb)
      replace O8 := Lib.hid (owns_below O8.out hb)
      replace H7 := Lib.hid (H7.out.below hb)
      replace H8 := Lib.hid (H8.out.below hb)
      replace HWn := Lib.hid (HWn.out.below hb)
      have B21 := Lib.hid (B20.out.trans (hb.mono B20.out.size))
      clear hb B20 e0 e1 e2 e3 e4 e5 e6 f0 f1 f2 f3 f4 f5 f6
      obtain ⟨-, e0, e1, e2, e3, e4, e5, e6⟩ := E8.out
      obtain ⟨-, f0, f1, f2, f3, f4, f5, f6⟩ := E9.out
      go_wp2_with fail
      refine (C3.out _ HWn.out H7.out).mono ?_
      rintro e w22 ⟨rfl, hb⟩
      replace E8 := Lib.hid (box7_re (box7_carry E8.out hb))
      replace E9 := Lib.hid (box7_re (box7_carry E9.out hb))
      replace G8 := Lib.hid (G8.out.below hb)
      replace G9 := Lib.hid (G9.out.below hb)
      replace O8 := Lib.hid (owns_below O8.out hb)
      replace H7 := Lib.hid (H7.out.below hb)
      replace H8 := Lib.hid (H8.out.below hb)
      replace HWn := Lib.hid (HWn.out.below hb)
      have B22 := Lib.hid (B21.out.trans (hb.mono B21.out.size))
      clear hb B21 e0 e1 e2 e3 e4 e5 e6 f0 f1 f2 f3 f4 f5 f6
      obtain ⟨-, e0, e1, e2, e3, e4, e5, e6⟩ := E8.out
      obtain ⟨-, f0, f1, f2, f3, f4, f5, f6⟩ := E9.out
      go_wp2_with fail
      refine (C4.out _ H8.out H7.out).mono ?_
      rintro e w23 ⟨rfl, hb⟩
      replace E8 := Lib.hid (box7_re (box7_carry E8.out hb))
      replace E9 := Lib.hid (box7_re (box7_carry E9.out hb))
      replace G8 := Lib.hid (G8.out.below hb)
      replace G9 := Lib.hid (G9.out.below hb)
      replace O8 := Lib.hid (owns_below O8.out hb)
      replace H7 := Lib.hid (H7.out.below hb)
      replace H8 := Lib.hid (H8.out.below hb)
      replace HWn := Lib.hid (HWn.out.below hb)
      have B23 := Lib.hid (B22.out.trans (hb.mono B22.out.size))
      clear hb B22 e0 e1 e2 e3 e4 e5 e6 f0 f1 f2 f3 f4 f5 f6
      obtain ⟨-, e0, e1, e2, e3, e4, e5, e6⟩ := E8.out
      obtain ⟨-, f0, f1, f2, f3, f4, f5, f6⟩ := E9.out
      go_wp2_with fail
      refine (C5.out _ H8.out).mono ?_
      rintro e w24 ⟨rfl, hb⟩
      replace E8 := Lib.hid (box7_re (box7_carry E8.out hb))
      replace E9 := Lib.hid (box7_re (box7_carry E9.out hb))
      replace G8 := Lib.hid (G8.out.below hb)
      replace G9 := Lib.hid (G9.out.below hb)
      replace O8 := Lib.hid (owns_below O8.out hb)
      replace H7 := Lib.hid (H7.out.below hb)
      replace H8 := Lib.hid (H8.out.below hb)
      replace HWn := Lib.hid (HWn.out.below hb)
      have B24 := Lib.hid (B23.out.trans (hb.mono B23.out.size))
      clear hb B23 e0 e1 e2 e3 e4 e5 e6 f0 f1 f2 f3 f4 f5 f6
      obtain ⟨-, e0, e1, e2, e3, e4, e5, e6⟩ := E8.out
      obtain ⟨-, f0, f1, f2, f3, f4, f5, f6⟩ := E9.out
      go_wp2_with fail
      refine (C6.out _ H7.out H8.out).mono ?_
      rintro e w25 ⟨rfl, hb⟩
      replace E8 := Lib.hid (box7_re (box7_carry E8.out hb))
      replace E9 := Lib.hid (box7_re (box7_carry E9.out hb))
      replace G8 := Lib.hid (G8.out.below hb)
      replace G9 := Lib.hid (G9.out.below hb)
      replace O8 := Lib.hid (owns_below O8.out hb)
      replace H7 := Lib.hid (H7.out.below hb)
      replace H8 := Lib.hid (H8.out.below hb)
      replace HWn := Lib.hid (HWn.out.below hb)
      have B25 := Lib.hid (B24.out.trans (hb.mono B24.out.size))
      clear hb B24 e0 e1 e2 e3 e4 e5 e6 f0 f1 f2 f3 f4 f5 f6
      obtain ⟨-, e0, e1, e2, e3, e4, e5, e6⟩ := E8.out
      obtain ⟨-, f0, f1, f2, f3, f4, f5, f6⟩ := E9.out
      by_cases hi0 : i = 0
      · have x1 : ((i : Int) == 0) = true := by simp; omega
        clear t1 hi0
        go_wp2_with fail
        refine (awake28_any _).mono ?_
        rintro e w99 ⟨rfl, hb⟩
        go_wp2_with fail
        go_ret
        exact ⟨rfl, B25.out.trans (hb.mono B25.out.size)⟩
      · have x1 : ((i : Int) == 0) = false := by simp; omega
        obtain ⟨q, hq⟩ : ∃ q : Nat, i - 1 = q := ⟨_, rfl⟩
        obtain ⟨v, rfl⟩ : ∃ v, a8 = some ⟨v, 0, none⟩ := by
          obtain ⟨v, cap', hv⟩ := Joins.ownsRow_form O8.out (by omega)
          simp only [Value.slice.injEq] at hv
          exact ⟨v, hv.1⟩
        have hvb := OB.out v rfl
        have hvp : v ≠ p8 := NB.out v 0 rfl
        have hvl := (O8.out.lt v rfl).2
        obtain ⟨b', o', e', hc⟩ := H8.out.at (by omega)
        cases e'
        have hcq := hc q (by omega)
        rw [getD_take (by omega)] at hcq
        have hDq := HD.out q (by omega)
        obtain ⟨z, hz⟩ : ∃ z, ts.getD q k0 = z := ⟨_, rfl⟩
        rw [hz] at hcq hDq
        have HZ := Lib.hid hz
        obtain ⟨d1, d2⟩ := z
        simp only [Nat.zero_add] at hcq hDq
        obtain ⟨hd0, hd4⟩ := hDq
        have c0 := hcq.1
        have fr := O8.out.frozenAt (q * 2)
        have y1 : (0 : Int) ≤ (q : Int) := by omega
        have y2 : (q : Int) < (i : Int) := by omega
        have y3 : IntKind.i64.wrap ((i : Int) - 1) = (q : Int) := by rw [IntWalk.i64_in _ (by omega)]; omega
        have y4 : q < i := by omega
        have HQI := Lib.hid hq
        clear hc hcq hz hq t1 t2
        go_upto_region 12 with fail
        have M8 := Lib.hid (show HoldsK (w25.setCell ⟨v, q * 2, none⟩ (.int .i64 (d1 + 1))) (some ⟨v, 0, none⟩) i ((ts.take i).set q (d1 + 1, d2)) from by
          have h := H8.out.setDist q y4 (d1 + 1)
          rw [Nat.zero_add, getD_take y4, HZ.out] at h
          exact h)
        have XB := Lib.hid (show bgB ((ts.take i).set q (d1 + 1, d2)) ts = false from by
          have h := bg_set (ts := ts) (i := i) (by omega) (by have := T2.out; omega) (d1 + 1) (by rw [HQI.out, HZ.out]; simp only; omega) d2
          rwa [HQI.out] at h)
        have M7 := Lib.hid (H7.out.other (q := v) (o := q * 2) (u := .int .i64 (d1 + 1)) (fun b o e h0 => by have := LA7.out b o e h0; omega))
        have N8 := Lib.hid (E8.out.other (q := v) (o := q * 2) (.int .i64 (d1 + 1)) hvp)
        have N9 := Lib.hid (E9.out.other (q := v) (o := q * 2) (.int .i64 (d1 + 1)) (by omega))
        have B30 := Lib.hid (B25.out.setCell (p := ⟨v, q * 2, none⟩) (show w.heap.size ≤ v from by have := BW.out; omega) (.int .i64 (d1 + 1)))
        have N0 := Lib.hid (H0.out.below B30.out)
        clear H8 H7 E8 E9 G8 G9 O8 HWn B25 e0 e1 e2 e3 e4 e5 e6 f0 f1 f2 f3 f4 f5 f6 c0 fr y3
        generalize w25.setCell ⟨v, q * 2, none⟩ (.int .i64 (d1 + 1)) = w30 at *
        have D1 := Lib.hid (fun w (h0 : HoldsT w aw nw ws) (h1 : HoldsK w (some ⟨v, 0, none⟩) i ((ts.take i).set q (d1 + 1, d2))) => prefix_any aw nw cw ws 3 k m s (some ⟨v, 0, none⟩) i c8 _ false false false w h0 (by omega) SW.out (by omega) h1 (by omega) (by rw [T1.out]; exact XB.out))
        have D2 := Lib.hid (fun w (h0 : HoldsT w aw nw ws) (h1 : HoldsK w (some ⟨v, 0, none⟩) i ((ts.take i).set q (d1 + 1, d2))) => right_any aw nw cw ws 3 k m s (some ⟨v, 0, none⟩) i c8 _ false false false w h0 (by omega) SW.out (by omega) h1 (by omega) (by unfold rightB; rw [T1.out]; simp [XB.out]))
        have D3 := Lib.hid (fun w (h1 : HoldsK w (some ⟨v, 0, none⟩) i ((ts.take i).set q (d1 + 1, d2))) (h2 : HoldsK w a7 L ts) => later_any 3 s k m (some ⟨v, 0, none⟩) i c8 _ false false 3 s k m a7 L c7 ts true false false w h1 h2 (by omega) (by omega) (by simp [laterB, XB.out]))
        obtain ⟨-, e0, e1, e2, e3, e4, e5, e6⟩ := N8.out
        obtain ⟨-, f0, f1, f2, f3, f4, f5, f6⟩ := N9.out
        go_wp2_with fail
        refine (D1.out _ N0.out M8.out).mono ?_
        rintro e w31 ⟨rfl, hb⟩
        replace N8 := Lib.hid (box7_re (box7_carry N8.out hb))
        replace N9 := Lib.hid (box7_re (box7_carry N9.out hb))
        replace M8 := Lib.hid (M8.out.below hb)
        replace M7 := Lib.hid (M7.out.below hb)
        replace N0 := Lib.hid (N0.out.below hb)
        have B31 := Lib.hid (B30.out.trans (hb.mono B30.out.size))
        clear hb B30 e0 e1 e2 e3 e4 e5 e6 f0 f1 f2 f3 f4 f5 f6
        obtain ⟨-, e0, e1, e2, e3, e4, e5, e6⟩ := N8.out
        obtain ⟨-, f0, f1, f2, f3, f4, f5, f6⟩ := N9.out
        go_wp2_with fail
        refine (D2.out _ N0.out M8.out).mono ?_
        rintro e w32 ⟨rfl, hb⟩
        replace N8 := Lib.hid (box7_re (box7_carry N8.out hb))
        replace N9 := Lib.hid (box7_re (box7_carry N9.out hb))
        replace M8 := Lib.hid (M8.out.below hb)
        replace M7 := Lib.hid (M7.out.below hb)
        replace N0 := Lib.hid (N0.out.below hb)
        have B32 := Lib.hid (B31.out.trans (hb.mono B31.out.size))
        clear hb B31 e0 e1 e2 e3 e4 e5 e6 f0 f1 f2 f3 f4 f5 f6
        obtain ⟨-, e0, e1, e2, e3, e4, e5, e6⟩ := N8.out
        obtain ⟨-, f0, f1, f2, f3, f4, f5, f6⟩ := N9.out
        go_wp2_with fail
        refine (D3.out _ M8.out M7.out).mono ?_
        rintro e w33 ⟨rfl, hb⟩
        replace N8 := Lib.hid (box7_re (box7_carry N8.out hb))
        replace N9 := Lib.hid (box7_re (box7_carry N9.out hb))
        replace M8 := Lib.hid (M8.out.below hb)
        replace M7 := Lib.hid (M7.out.below hb)
        replace N0 := Lib.hid (N0.out.below hb)
        have B33 := Lib.hid (B32.out.trans (hb.mono B32.out.size))
        clear hb B32 e0 e1 e2 e3 e4 e5 e6 f0 f1 f2 f3 f4 f5 f6
        obtain ⟨-, e0, e1, e2, e3, e4, e5, e6⟩ := N8.out
        obtain ⟨-, f0, f1, f2, f3, f4, f5, f6⟩ := N9.out
        go_wp2_with fail
        refine (awake28_any _).mono ?_
        rintro e w99 ⟨rfl, hb⟩
        go_wp2_with fail
        go_ret
        exact ⟨rfl, B33.out.trans (hb.mono B33.out.size)⟩
open Go.ChangeShapes Go.WideShapes Go.ChangeAt in
theorem checkBegins_walk {H : Type} {enc : TypeId × Value → H} (W : World) (base : Nat) (v0 v1 v2 : Value) (d0 d1 d2 : DataW H) (p0 p1 p2 : List MemPlace)
    (h0 : DataW.Trod enc Try.prog W 0 (fun _ => true) true 22 v0 d0 p0) (h1 : DataW.Trod enc Try.prog W 0 (fun _ => true) true 24 v1 d1 p1) (h2 : DataW.Trod enc Try.prog W 0 (fun _ => true) true 3 v2 d2 p2)
    (o0 : Value.okWide Try.prog W .any base 22 v0) (o1 : Value.okWide Try.prog W .any base 24 v1) (o2 : Value.okWide Try.prog W .any base 3 v2) :
    Calls Try.prog 4 #[v0, v1, v2] W fun e w' => e = .returned (.bool true) ∧ RowKit.Below W.heap.size W w' := by
  obtain ⟨a0, n0, c0, k0, rfl, x0, y0, z0, b0, s0⟩ := open_texts_arg o0 h0
  obtain ⟨t, k, n, ht, _, _, rfl⟩ := query_arg o1 h1
  obtain ⟨x2, rfl, rfl, rfl, b2⟩ := open_int Try.underlying3 o2 h2
  exact checkBegins_law a0 n0 c0 k0 t k n x2 W x0 b0 s0 ht
end Go.Proofs.Ytmpkmgkafhlpjaa
