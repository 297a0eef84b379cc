/- RankFirst: what is told first is near, in order, and nothing that is near and not told is ahead of it -/
import Derived.Test.YtioegheehodndaaQRankFarW
namespace Go.Proofs.Ytioegheehodndaa
open Go.RowKit
set_option linter.unusedVariables false
set_option maxRecDepth 20000
instance (x : KV) (l : List KV) : Decidable (x ∈ l) := decidable_of_iff (l.any (fun y => decide (y = x)) = true) (by simp)
theorem str_full {x : Tx} (h : x ≠ ⟨#[]⟩) : x.toList.isEmpty = false ∧ ¬ x.toList = [] := by
  have h2 : ¬ x.toList = [] := fun e => h (toList_inj (by rw [e, ByteArray.toList_eq]))
  exact ⟨by simpa using h2, h2⟩
theorem word_dist {t s : Tx} {k m : Int} (ht : wordP t) (hm : mayP s k m) : 0 ≤ distS t s := by
  have h1 := ht.1; have h2 := hm.2.2.1
  unfold distS; rw [if_pos ⟨by omega, h2⟩]; exact (Ed.L_bd _ _ _ _).1
theorem word_some {t : Tx} (ht : wordP t) : t ≠ ⟨#[]⟩ := by
  rintro rfl
  have := ht.1
  rw [show lenS ⟨#[]⟩ = 0 by decide] at this
  omega
theorem near_len_yes {ws : List Tx} {i : Nat} {y s : Tx} {k d : Int} (hx : ws.take (i + 1) = ws.take i ++ [y]) (hd : distS y s = d) (h0 : 0 ≤ d) (hk : d ≤ k) : (nearL (ws.take (i + 1)) s k).length = (nearL (ws.take i) s k).length + 1 := by
  rw [hx, nearL_yes _ _ _ _ (by omega), List.length_append]; rfl
theorem near_len_no {ws : List Tx} {i : Nat} {y s : Tx} {k d : Int} (hx : ws.take (i + 1) = ws.take i ++ [y]) (hd : distS y s = d) (hk : ¬ d ≤ k) : (nearL (ws.take (i + 1)) s k).length = (nearL (ws.take i) s k).length := by
  rw [hx, nearL_no _ _ _ _ (by omega)]
/-- who is near and not told is not ahead of the last one, and there are as many as were asked for -/
theorem not_told {ws : List Tx} {s : Tx} {k m : Int} {x : KV} (hm : mayP s k m) (hx : x ∈ nearL ws s k) (hn : x ∉ topK ws s k m) :
    ((topK ws s k m).length : Int) = m ∧ lessK x ((topK ws s k m).getD ((topK ws s k m).length - 1) k0) = false := by
  unfold topK at hn ⊢
  simp only [if_pos hm] at hn ⊢
  have hs : SortedK (allK ws s k) := sortK_sorted _
  have hx' : x ∈ allK ws s k := sortK_mem.2 hx
  have hm1 := hm.2.1.1
  obtain ⟨N, hN⟩ : ∃ N : Nat, m = (N : Int) := ⟨m.toNat, by omega⟩
  subst hN
  simp only [Int.toNat_natCast] at hn ⊢
  generalize allK ws s k = A at *
  have hl : N ≤ A.length := by
    rcases Nat.lt_or_ge A.length N with h | h
    · rw [List.take_of_length_le (by omega)] at hn; exact absurd hx' hn
    · exact h
  rw [List.length_take, Nat.min_eq_left hl]
  refine ⟨rfl, decide_eq_false ?_⟩
  have hd : x ∈ A.drop N := by
    have := hx'
    rw [← List.take_append_drop N A] at this
    rcases List.mem_append.1 this with h | h
    · exact absurd h hn
    · exact h
  have h2 := hs
  rw [← List.take_append_drop N A] at h2
  have h3 := (List.pairwise_append.1 h2).2.2 ((A.take N).getD (N - 1) k0) (getD_memK _ _ (by rw [List.length_take]; omega)) x hd
  exact h3
theorem top_len {ws : List Tx} {s : Tx} {k m : Int} (hm : mayP s k m) : ((topK ws s k m).length : Int) = min ((nearL ws s k).length : Int) m := by
  unfold topK
  rw [if_pos hm, List.length_take]
  unfold allK
  rw [sortK_length]
  have := hm.2.1.1
  omega
theorem top_mem {ws : List Tx} {s : Tx} {k m : Int} {t : Nat} (hm : mayP s k m) (ht : t < (topK ws s k m).length) :
    ((topK ws s k m).getD t k0).2 ∈ ws ∧ ((topK ws s k m).getD t k0).1 = distS ((topK ws s k m).getD t k0).2 s ∧ ((topK ws s k m).getD t k0).1 ≤ k := by
  have hmem := getD_memK _ t ht
  generalize (topK ws s k m).getD t k0 = z at *
  unfold topK at hmem
  rw [if_pos hm] at hmem
  have h := allK_mem.1 (List.mem_of_mem_take hmem)
  exact ⟨h.1, h.2.1, by omega⟩
theorem getD_takeF {l : List KV} {n j : Nat} (h : j < n) : (l.take n).getD j k0 = l.getD j k0 := by simp [List.getD_eq_getElem?_getD, h]
theorem top_rises {ws : List Tx} {s : Tx} {k m : Int} {t : Nat} (hs : SortedS ws) (h0 : 0 < t) (ht : t < (topK ws s k m).length) : lessK ((topK ws s k m).getD (t - 1) k0) ((topK ws s k m).getD t k0) = true := by
  refine decide_eq_true ?_
  unfold topK at ht ⊢
  by_cases hm : mayP s k m
  · simp only [if_pos hm] at ht ⊢
    rw [List.length_take] at ht
    rw [getD_takeF (by omega), getD_takeF (by omega)]
    have h1 := sortK_sorted (nearL ws s k)
    have h2 := all_ne hs s k
    unfold allK at *
    have p1 := List.pairwise_iff_getElem.1 h1 (t - 1) t (by omega) (by omega) (by omega)
    have p2 := List.pairwise_iff_getElem.1 h2 (t - 1) t (by omega) (by omega) (by omega)
    rw [show (sortK (nearL ws s k)).getD (t - 1) k0 = (sortK (nearL ws s k))[t - 1] by simp [List.getD_eq_getElem?_getD, show t - 1 < (sortK (nearL ws s k)).length by omega], show (sortK (nearL ws s k)).getD t k0 = (sortK (nearL ws s k))[t] by simp [List.getD_eq_getElem?_getD, show t < (sortK (nearL ws s k)).length by omega]]
    rcases leK_iff.1 p1 with e | e
    · exact absurd (congrArg Prod.snd e) p2
    · exact e
  · rw [if_neg hm] at ht; simp at ht
def Box7f (w0 : World) (r b o p : Nat) (x0 x1 z0 z1 v0 v1 v2 : Value) (w : World) : Prop := Below w0.heap.size w0 w ∧ w.cell? ⟨r, 0, none⟩ = some x0 ∧ w.cell? ⟨r, 1, none⟩ = some x1 ∧ w.cell? ⟨b, o, none⟩ = some z0 ∧ w.cell? ⟨b, o + 1, none⟩ = some z1 ∧ w.cell? ⟨p, 0, none⟩ = some v0 ∧ w.cell? ⟨p, 1, none⟩ = some v1 ∧ w.cell? ⟨p, 2, none⟩ = some v2
theorem box7f_carry {w0 w w' : World} {r b o p : Nat} {x0 x1 z0 z1 v0 v1 v2 : Value} (h : Box7f w0 r b o p x0 x1 z0 z1 v0 v1 v2 w) (hb : Below w.heap.size w w') : Box7f w0 r b o p x0 x1 z0 z1 v0 v1 v2 w' := by
  obtain ⟨h, h0, h1, h2, h3, h4, h5, h6⟩ := h
  exact ⟨h.trans (hb.mono h.size), (hb.cell (p := ⟨r, 0, none⟩) (lt_of_cell h0)).trans h0, (hb.cell (p := ⟨r, 1, none⟩) (lt_of_cell h0)).trans h1, (hb.cell (p := ⟨b, o, none⟩) (lt_of_cell h2)).trans h2, (hb.cell (p := ⟨b, o + 1, none⟩) (lt_of_cell h2)).trans h3, (hb.cell (p := ⟨p, 0, none⟩) (lt_of_cell h4)).trans h4, (hb.cell (p := ⟨p, 1, none⟩) (lt_of_cell h4)).trans h5, (hb.cell (p := ⟨p, 2, none⟩) (lt_of_cell h4)).trans h6⟩
def Box7g (w0 : World) (b o o' p : Nat) (x0 x1 z0 z1 v0 v1 v2 : Value) (w : World) : Prop := Below w0.heap.size w0 w ∧ w.cell? ⟨b, o, none⟩ = some x0 ∧ w.cell? ⟨b, o + 1, none⟩ = some x1 ∧ w.cell? ⟨b, o', none⟩ = some z0 ∧ w.cell? ⟨b, o' + 1, none⟩ = some z1 ∧ w.cell? ⟨p, 0, none⟩ = some v0 ∧ w.cell? ⟨p, 1, none⟩ = some v1 ∧ w.cell? ⟨p, 2, none⟩ = some v2
theorem box7g_carry {w0 w w' : World} {b o o' p : Nat} {x0 x1 z0 z1 v0 v1 v2 : Value} (h : Box7g w0 b o o' p x0 x1 z0 z1 v0 v1 v2 w) (hb : Below w.heap.size w w') : Box7g w0 b o o' p x0 x1 z0 z1 v0 v1 v2 w' := by
  obtain ⟨h, h0, h1, h2, h3, h4, h5, h6⟩ := h
  exact ⟨h.trans (hb.mono h.size), (hb.cell (p := ⟨b, o, none⟩) (lt_of_cell h0)).trans h0, (hb.cell (p := ⟨b, o + 1, none⟩) (lt_of_cell h0)).trans h1, (hb.cell (p := ⟨b, o', none⟩) (lt_of_cell h2)).trans h2, (hb.cell (p := ⟨b, o' + 1, none⟩) (lt_of_cell h2)).trans h3, (hb.cell (p := ⟨p, 0, none⟩) (lt_of_cell h4)).trans h4, (hb.cell (p := ⟨p, 1, none⟩) (lt_of_cell h4)).trans h5, (hb.cell (p := ⟨p, 2, none⟩) (lt_of_cell h4)).trans h6⟩
theorem told_more {ts : List KV} {x : KV} {j : Nat} (h : j < ts.length) : decide (x ∈ ts.take (j + 1)) = (decide (x ∈ ts.take j) || decide (ts.getD j k0 = x)) := by
  rw [take_succ_getD ts k0 j h]
  rw [Bool.eq_iff_iff]
  simp only [decide_eq_true_eq, Bool.or_eq_true, List.mem_append, List.mem_singleton]
  exact or_congr Iff.rfl eq_comm
set_option maxRecDepth 100000 in
set_option maxHeartbeats 12800000 in
theorem rankFirst_law (a : Option Addr) (n ca : Nat) (ws : List Tx) (s : Tx) (k m : Int) (w : World) (ha : Lst w a n ca ws) (hn : n ≤ 9223372036854775807) (hs : ∀ t ∈ ws, t.size ≤ 9223372036854775807) (hx : s.size ≤ 9223372036854775807) :
    Calls Try.prog 6 #[.slice a n ca, .agg #[.string s, .int .i64 k, .int .i64 m]] w fun e w' => e = .returned (.bool true) ∧ Below w.heap.size w w' := by
  have lws := ha.1.len
  have H0 := Lib.hid ha
  have B0 := Lib.hid (below_one w (.cells #[.string s, .int .i64 k, .int .i64 m] 24))
  have HX := Lib.hid (ha.below B0.out)
  have HQ := Lib.hid (show Box3q (w.alloc (.cells #[.string s, .int .i64 k, .int .i64 m] 24)) w.heap.size (.string s) (.int .i64 k) (.int .i64 m) (w.alloc (.cells #[.string s, .int .i64 k, .int .i64 m] 24)) from ⟨Below.refl _ _, by rw [cell_alloc rfl]; rfl, by rw [cell_alloc rfl]; rfl, by rw [cell_alloc rfl]; rfl⟩)
  obtain ⟨gx, hgx⟩ : ∃ g, greatB ws = g := ⟨_, rfl⟩
  obtain ⟨vx, hvx⟩ : ∃ g, goodV ws = g := ⟨_, rfl⟩
  obtain ⟨c, hc⟩ : ∃ c, decide (mayP s k m) = c := ⟨_, rfl⟩
  have GX := Lib.hid (fun w (h : HoldsT w a n ws) => great_lit a n ca ws gx w h hn hs hgx)
  have VX := Lib.hid (fun w (h : HoldsT w a n ws) => good_lit a n ca ws vx w h hn hs hvx)
  have CM := Lib.hid (fun w => may_lit s k m c w hx hc)
  have EGX := Lib.hid hgx; have EVX := Lib.hid hvx; have EC := Lib.hid hc
  clear ha hs hgx hvx hc
  go_enter Try.func6, Try.ntmps6
  go_wp2_with fail
  generalize w.alloc (.cells #[.string s, .int .i64 k, .int .i64 m] 24) = w1 at *
  refine (GX.out _ HX.out.1).mono ?_
  rintro e w3 ⟨rfl, hb1⟩
  replace HX := Lib.hid (HX.out.below hb1)
  replace HQ := Lib.hid (box3q_carry HQ.out hb1)
  have B1 := Lib.hid (B0.out.trans (hb1.mono B0.out.size))
  clear hb1 B0
  cases gx with
  | true =>
    go_wp2_with fail
    refine (awake_any _).mono ?_
    rintro e w99 ⟨rfl, hb99⟩
    go_wp2_with fail
    go_ret
    exact ⟨rfl, B1.out.trans (hb99.mono B1.out.size)⟩
  | false =>
    obtain ⟨-, e0, e1, e2⟩ := HQ.out
    by_cases h40 : 40 < n
    · have h41 := h40
      go_wp2_with fail
      refine (awake_any _).mono ?_
      rintro e w99 ⟨rfl, hb99⟩
      go_wp2_with fail
      go_ret
      exact ⟨rfl, B1.out.trans (hb99.mono B1.out.size)⟩
    have hn40 : n ≤ 40 := by omega
    clear h40
    by_cases h100 : 100 < s.size
    · have h101 := h100
      go_wp2_with fail
      refine (awake_any _).mono ?_
      rintro e w99 ⟨rfl, hb99⟩
      go_wp2_with fail
      go_ret
      exact ⟨rfl, B1.out.trans (hb99.mono B1.out.size)⟩
    have h101 : s.size ≤ 100 := by omega
    clear h100
    go_wp2_with fail
    refine (VX.out _ HX.out.1).mono ?_
    rintro e w4 ⟨rfl, hb2⟩
    replace HX := Lib.hid (HX.out.below hb2)
    replace HQ := Lib.hid (box3q_carry HQ.out hb2)
    have B2 := Lib.hid (B1.out.trans (hb2.mono B1.out.size))
    clear hb2 B1
    clear e0 e1 e2
    obtain ⟨-, e0, e1, e2⟩ := HQ.out
    by_cases hvx : vx = 0
    case neg =>
      have x1 : (vx != 0) = true := by simpa using hvx
      clear hvx
      go_wp2_with fail
      refine (awake_any _).mono ?_
      rintro e w99 ⟨rfl, hb99⟩
      go_wp2_with fail
      go_ret
      exact ⟨rfl, B2.out.trans (hb99.mono B2.out.size)⟩
    subst hvx
    obtain ⟨_, hsx⟩ := great_no_iff.1 EGX.out
    obtain ⟨_, HW, SX⟩ := goodV_zero EVX.out
    have QX := Lib.hid (show ∀ t ∈ ws, t.size ≤ 1048576 from fun t ht => by have := hsx t ht; omega)
    have lT := tops_len ws s k m
    obtain ⟨ts, hts⟩ : ∃ z, topK ws s k m = z := ⟨_, rfl⟩
    obtain ⟨LT, hLT⟩ : ∃ z, ts.length = z := ⟨_, rfl⟩
    rw [hts, hLT] at lT
    have hLT40 : LT ≤ 40 := by omega
    have E1 := Lib.hid hts; have E3 := Lib.hid hLT; have ES := Lib.hid SX; have WP := Lib.hid HW; have LW := Lib.hid lws
    clear hsx SX HW lws lT
    have HXT := Lib.hid HX.out.1
    go_wp2_with fail
    refine (top_lit a n ca LT ws s k m ts _ HXT.out (by omega) QX.out (by omega) E1.out E3.out).mono ?_
    rintro e w5 ⟨a5, c5, rfl, o5, hb5⟩
    replace HX := Lib.hid (HX.out.below hb5)
    replace HQ := Lib.hid (box3q_carry HQ.out hb5)
    replace HXT := Lib.hid (HXT.out.below hb5)
    have B5 := Lib.hid (B2.out.trans (hb5.mono B2.out.size))
    clear hb5 B2
    have HT := Lib.hid (HoldsK.own o5)
    clear o5 e0 e1 e2
    obtain ⟨-, e0, e1, e2⟩ := HQ.out
    go_wp2_with fail
    refine (CM.out _).mono ?_
    rintro e w6 ⟨rfl, hb6⟩
    replace HX := Lib.hid (HX.out.below hb6)
    replace HQ := Lib.hid (box3q_carry HQ.out hb6)
    replace HXT := Lib.hid (HXT.out.below hb6)
    replace HT := Lib.hid (HT.out.below hb6)
    have B6 := Lib.hid (B5.out.trans (hb6.mono B5.out.size))
    clear hb6 B5
    clear e0 e1 e2
    obtain ⟨-, e0, e1, e2⟩ := HQ.out
    cases c with
    | false =>
      obtain rfl : LT = 0 := by
        have h1 := E1.out; have h3 := E3.out; have h2 : ¬ mayP s k m := of_decide_eq_false EC.out
        unfold topK at h1; rw [if_neg h2] at h1; rw [← h3, ← h1]; rfl
      go_wp2_with fail
      refine (awake_any _).mono ?_
      rintro e w99 ⟨rfl, hb99⟩
      go_wp2_with fail
      go_ret
      exact ⟨rfl, B6.out.trans (hb99.mono B6.out.size)⟩
    | true =>
      have hmay : mayP s k m := of_decide_eq_true EC.out
      obtain ⟨hk0, hk4⟩ := hmay.1
      obtain ⟨hm1, hm10⟩ := hmay.2.1
      have MAY := Lib.hid hmay
      have hTL := top_len (ws := ws) hmay
      rw [hts, hLT] at hTL
      have TL := Lib.hid hTL
      have hLTm : (LT : Int) ≤ m := by omega
      have hd0 : ¬ (m < (LT : Int)) := by omega
      clear hmay hTL
      have NT := Lib.hid (fun x (h1 : x ∈ nearL ws s k) (h2 : x ∉ ts) => by have := not_told MAY.out h1 (by rw [hts]; exact h2); rw [hts, hLT] at this; exact this)
      have TM := Lib.hid (fun t (h : t < LT) => by have := top_mem (ws := ws) (t := t) MAY.out (by rw [hts, hLT]; exact h); rw [hts] at this; exact this)
      have TR := Lib.hid (fun t (h0 : 0 < t) (h : t < LT) => by have := top_rises (ws := ws) (s := s) (k := k) (m := m) (t := t) ES.out h0 (by rw [hts, hLT]; exact h); rw [hts] at this; exact this)
      clear hts hLT
      go_wp2_with fail
      go_loopw [6, 7] (fun cv iv wr => ∃ j : Nat, j ≤ n ∧ iv = .int .i64 j ∧ cv = .int .i64 ((nearL (ws.take j) s k).length : Int) ∧ Hid (Below w6.heap.size w6 wr)) (fun _ iv _ => n - (intOf iv).toNat)
      case atStart => exact ⟨0, by omega, rfl, by simp [nearL], Lib.hid (Below.refl _ _)⟩
      case round =>
        obtain ⟨j, hj, rfl, rfl, hB⟩ := hrel
        clear e0 e1 e2
        have HXr := Lib.hid (HXT.out.below hB.out)
        have HTr := Lib.hid (HT.out.below hB.out)
        obtain ⟨-, e0, e1, e2⟩ := box3q_carry HQ.out hB.out
        obtain ⟨cc, hcc⟩ : ∃ cc, (nearL (ws.take j) s k).length = cc := ⟨_, rfl⟩
        have hcn : cc ≤ 40 := by rw [← hcc]; exact Nat.le_trans (nearL_len _ _ _) (Nat.le_trans (List.length_take_le _ _) (by omega))
        simp only [hcc]
        by_cases hlt : j < n
        · obtain ⟨bb, o, rfl, hc'⟩ := HXr.out.at (by omega)
          have c0 := hc' j hlt
          have hmem := getD_memT ws j (by have := LW.out; omega)
          have htk := take_succ_getD ws ByteArray.empty j (by have := LW.out; omega)
          obtain ⟨y, hy⟩ : ∃ y, ws.getD j ByteArray.empty = y := ⟨_, rfl⟩
          rw [hy] at c0 hmem htk
          have QY := Lib.hid (QX.out y hmem)
          have YW := Lib.hid (WP.out y hmem)
          have YM := Lib.hid hmem
          have TK := Lib.hid htk
          obtain ⟨d, hd⟩ : ∃ d, distS y s = d := ⟨_, rfl⟩
          have ED := Lib.hid hd
          have hd0 : 0 ≤ d := by rw [← hd]; exact word_dist YW.out MAY.out
          obtain ⟨d, hd⟩ : ∃ d, distS y s = d := ⟨_, rfl⟩
          have ED := Lib.hid hd
          have hdd0 : 0 ≤ d := by rw [← hd]; exact word_dist YW.out MAY.out
          have CD := Lib.hid (fun w => distanceR_lit y s d w QY.out (by omega) ED.out)
          have NC := Lib.hid hcc
          have T := Lib.hid (show Box4w wr bb (o + j) w.heap.size (.string y) (.string s) (.int .i64 k) (.int .i64 m) wr from ⟨Below.refl _ _, c0, e0, e1, e2⟩)
          clear hc' hy hmem htk hd c0 e0 e1 e2 hcc
          have x1 : (0 : Int) ≤ (j : Int) := by omega
          have x2 : (j : Int) < (n : Int) := by omega
          go_upto_region 12 with fail
          go_region_held3 (fun w' => Below wr.heap.size wr w' ∧ w'.cell? ⟨bb, o + j, none⟩ = some (.string y) ∧ w'.cell? ⟨w.heap.size, 0, none⟩ = some (.string s) ∧ w'.cell? ⟨w.heap.size, 1, none⟩ = some (.int .i64 k) ∧ w'.cell? ⟨w.heap.size, 2, none⟩ = some (.int .i64 m))
            (first | assumption | exact box4w_carry T.out (Below.refl _ _).drew | exact box4w_carry (by assumption) (by assumption))
            (first | (go_at_call 31; (with_reducible refine (CD.out _).mono ?_); rintro e w' ⟨rfl, hb⟩))
          rename_i T5
          obtain ⟨hbT, c0, e0, e1, e2⟩ := T5
          generalize w' = wt at *
          have HTt := Lib.hid (HTr.out.below hbT)
          have Bt := Lib.hid (hB.out.trans (hbT.mono hB.out.size))
          have hlq : w.heap.size < wt.heap.size := lt_of_cell e0
          clear T hB hbT hb HXr HTr
          by_cases hdk : d ≤ k
          · have hdk1 : ¬ k < d := by omega
            have HDK := Lib.hid hdk
            go_wp2_with fail
            have hbx := below_one wt (.cells #[.int .i64 d, .string y] 37)
            have g0 : (wt.alloc (.cells #[.int .i64 d, .string y] 37)).cell? ⟨wt.heap.size, 0, none⟩ = some (.int .i64 d) := by rw [cell_alloc rfl]; rfl
            have g1 : (wt.alloc (.cells #[.int .i64 d, .string y] 37)).cell? ⟨wt.heap.size, 1, none⟩ = some (.string y) := by rw [cell_alloc rfl]; rfl
            have QB := Lib.hid (show Box3q wt w.heap.size (.string s) (.int .i64 k) (.int .i64 m) wt from ⟨Below.refl _ _, e0, e1, e2⟩)
            have QX2 := Lib.hid (box3q_re (w1 := wt) (box3q_carry QB.out hbx))
            have HTx := Lib.hid (HTt.out.below hbx)
            have Bx := Lib.hid (Bt.out.trans (hbx.mono Bt.out.size))
            clear hbx QB HTt Bt c0 e0 e1 e2
            generalize wt.alloc (.cells #[.int .i64 d, .string y] 37) = wx at *
            generalize wt.heap.size = rx at *
            go_loopw [10, 11] (fun tv kv wr2 => ∃ kk : Nat, kk ≤ LT ∧ kv = .int .i64 kk ∧ tv = .bool (decide ((d, (y : Tx)) ∈ ts.take kk)) ∧ Hid (Below wx.heap.size wx wr2)) (fun _ kv _ => LT - (intOf kv).toNat)
            case atStart => exact ⟨0, by omega, rfl, by simp, Lib.hid (Below.refl _ _)⟩
            case round =>
              obtain ⟨kk, hkk, rfl, rfl, hB2⟩ := hrel
              have HT2 := Lib.hid (HTx.out.below hB2.out)
              have q0 := (hB2.out.cell (p := ⟨rx, 0, none⟩) (lt_of_cell g0)).trans g0
              have q1 := (hB2.out.cell (p := ⟨rx, 1, none⟩) (lt_of_cell g0)).trans g1
              by_cases hkl : kk < LT
              · obtain ⟨b2, o2, rfl, hc2⟩ := HT2.out.at (by omega)
                obtain ⟨t0, t1⟩ := hc2 kk hkl
                have MO := told_more (x := (d, (y : Tx))) (show kk < ts.length by have := E3.out; omega)
                obtain ⟨z, hz⟩ : ∃ z, ts.getD kk k0 = z := ⟨_, rfl⟩
                rw [hz] at t0 t1 MO
                obtain ⟨z1, z2⟩ := z
                simp only at t0 t1
                obtain ⟨f, hf⟩ : ∃ f, decide ((d, (y : Tx)) ∈ ts.take kk) = f := ⟨_, rfl⟩
                rw [hf] at MO
                have FO := Lib.hid MO
                simp only [hf]
                clear MO hf hc2 hz
                have y1 : (0 : Int) ≤ (kk : Int) := by omega
                have y2 : (kk : Int) < (LT : Int) := by omega
                cases f with
                | true =>
                  go_wp2_with fail
                  go_quiet (fail)
                  go_wp2_with fail
                  go_roundw
                  case rel => exact ⟨kk + 1, by omega, by go_num, by rw [FO.out]; simp, Lib.hid (hB2.out.trans ((below_drewN _ _).mono hB2.out.size))⟩
                  case measure => simp [intOf] <;> omega
                | false =>
                  by_cases u1 : z1 = d
                  · by_cases u2 : z2 = y
                    · subst u1 u2
                      have v1 : (z1 == z1) = true := by simp
                      have v2 := str_same z2
                      go_wp2_with fail
                      go_quiet (fail)
                      go_wp2_with fail
                      go_roundw
                      case rel => exact ⟨kk + 1, by omega, by go_num, by rw [FO.out]; simp, Lib.hid (hB2.out.trans ((below_drewN _ _).mono hB2.out.size))⟩
                      case measure => simp [intOf] <;> omega
                    · subst u1
                      have v1 : (z1 == z1) = true := by simp
                      have v2 := str_other u2
                      go_wp2_with fail
                      go_quiet (fail)
                      go_wp2_with fail
                      go_roundw
                      case rel => exact ⟨kk + 1, by omega, by go_num, by rw [FO.out]; simp [u2], Lib.hid (hB2.out.trans ((below_drewN _ _).mono hB2.out.size))⟩
                      case measure => simp [intOf] <;> omega
                  · have v1 : (z1 == d) = false := by simpa using u1
                    go_wp2_with fail
                    go_quiet (fail)
                    go_wp2_with fail
                    go_roundw
                    case rel => exact ⟨kk + 1, by omega, by go_num, by rw [FO.out]; simp [u1], Lib.hid (hB2.out.trans ((below_drewN _ _).mono hB2.out.size))⟩
                    case measure => simp [intOf] <;> omega
              · obtain rfl : kk = LT := by omega
                rw [List.take_of_length_le (by have := E3.out; omega)]
                obtain ⟨-, e0, e1, e2⟩ := box3q_carry QX2.out hB2.out
                have B3 := Lib.hid (Bx.out.trans (hB2.out.mono Bx.out.size))
                have v2 := str_other (word_some YW.out)
                obtain ⟨v3, v4⟩ := str_full (word_some YW.out)
                have hnn := near_len_yes TK.out ED.out hdd0 HDK.out
                rw [NC.out] at hnn
                have NN := Lib.hid hnn
                clear hnn
                by_cases htold : (d, y) ∈ ts
                · simp only [decide_eq_true htold]
                  go_wp2_with fail
                  go_quiet (fail)
                  go_wp2_with fail
                  go_roundw
                  case rel => exact ⟨j + 1, by omega, by go_num, by rw [NN.out]; go_num, Lib.hid (B3.out.trans ((below_drewN _ _).mono B3.out.size))⟩
                  case measure => simp [intOf] <;> omega
                · simp only [decide_eq_false htold]
                  obtain ⟨p1, p2⟩ := NT.out (d, y) (nearL_mem.2 ⟨YM.out, ED.out.symm, by rw [ED.out]; omega, by rw [ED.out]; exact HDK.out⟩) htold
                  have hL0 : 0 < kk := by omega
                  obtain ⟨b2, o2, rfl, hc2⟩ := HT2.out.at hL0
                  obtain ⟨q, hq⟩ : ∃ q : Nat, kk - 1 = q := ⟨_, rfl⟩
                  rw [hq] at p2
                  obtain ⟨t0, t1⟩ := hc2 q (by omega)
                  obtain ⟨z, hz⟩ : ∃ z, ts.getD q k0 = z := ⟨_, rfl⟩
                  rw [hz] at t0 t1 p2
                  have LL := Lib.hid (fun w => iless_lit (d, y) z false w p2)
                  obtain ⟨z1, z2⟩ := z
                  unfold keyV at LL
                  simp only at t0 t1 LL
                  have y1 : (0 : Int) ≤ (q : Int) := by omega
                  have y2 : (q : Int) < (kk : Int) := by omega
                  have y3 : IntKind.i64.wrap ((kk : Int) - 1) = (q : Int) := by rw [IntWalk.i64_in _ (by omega)]; omega
                  have y4 : ¬ ((kk : Int) < m) := by omega
                  have y5 : q < kk := by omega
                  have Y6 := Lib.hid hq; have Y7 := Lib.hid p1
                  have T := Lib.hid (show Box7f wr rx b2 (o2 + q * 2) w.heap.size (.int .i64 d) (.string y) (.int .i64 z1) (.string z2) (.string s) (.int .i64 k) (.int .i64 m) wr from ⟨Below.refl _ _, q0, q1, t0, t1, e0, e1, e2⟩)
                  clear hc2 hz hq p1 p2 t0 t1 e0 e1 e2 q0 q1 g0 g1
                  go_upto_region 22 with fail
                  go_region_held3 (fun w' => Below wr.heap.size wr w' ∧ w'.cell? ⟨rx, 0, none⟩ = some (.int .i64 d) ∧ w'.cell? ⟨rx, 1, none⟩ = some (.string y) ∧ w'.cell? ⟨b2, o2 + q * 2, none⟩ = some (.int .i64 z1) ∧ w'.cell? ⟨b2, o2 + q * 2 + 1, none⟩ = some (.string z2) ∧ w'.cell? ⟨w.heap.size, 0, none⟩ = some (.string s) ∧ w'.cell? ⟨w.heap.size, 1, none⟩ = some (.int .i64 k) ∧ w'.cell? ⟨w.heap.size, 2, none⟩ = some (.int .i64 m))
                    (first | assumption | exact box7f_carry T.out (Below.refl _ _).drew | exact box7f_carry (by assumption) (by assumption))
                    (first | (go_at_call 28; (with_reducible refine (LL.out _).mono ?_); rintro e w' ⟨rfl, hb⟩))
                  rename_i T5
                  have hbT := T5.1
                  clear T5 T y3 y4
                  go_wp2_with fail
                  go_roundw
                  case rel => exact ⟨j + 1, by omega, by go_num, by rw [NN.out]; go_num, Lib.hid (B3.out.trans (hbT.mono B3.out.size))⟩
                  case measure => simp [intOf] <;> omega
          · have hdk1 : k < d := by omega
            clear hdk
            go_wp2_with fail
            have hbx := below_one wt (.cells #[.int .i64 d, .string ⟨#[]⟩] 37)
            have g0 : (wt.alloc (.cells #[.int .i64 d, .string ⟨#[]⟩] 37)).cell? ⟨wt.heap.size, 0, none⟩ = some (.int .i64 d) := by rw [cell_alloc rfl]; rfl
            have g1 : (wt.alloc (.cells #[.int .i64 d, .string ⟨#[]⟩] 37)).cell? ⟨wt.heap.size, 1, none⟩ = some (.string ⟨#[]⟩) := by rw [cell_alloc rfl]; rfl
            have QB := Lib.hid (show Box3q wt w.heap.size (.string s) (.int .i64 k) (.int .i64 m) wt from ⟨Below.refl _ _, e0, e1, e2⟩)
            have QX2 := Lib.hid (box3q_re (w1 := wt) (box3q_carry QB.out hbx))
            have HTx := Lib.hid (HTt.out.below hbx)
            have Bx := Lib.hid (Bt.out.trans (hbx.mono Bt.out.size))
            clear hbx QB HTt Bt c0 e0 e1 e2
            generalize wt.alloc (.cells #[.int .i64 d, .string ⟨#[]⟩] 37) = wx at *
            generalize wt.heap.size = rx at *
            go_loopw [10, 11] (fun tv kv wr2 => ∃ kk : Nat, kk ≤ LT ∧ kv = .int .i64 kk ∧ tv = .bool (decide ((d, (⟨#[]⟩ : Tx)) ∈ ts.take kk)) ∧ Hid (Below wx.heap.size wx wr2)) (fun _ kv _ => LT - (intOf kv).toNat)
            case atStart => exact ⟨0, by omega, rfl, by simp, Lib.hid (Below.refl _ _)⟩
            case round =>
              obtain ⟨kk, hkk, rfl, rfl, hB2⟩ := hrel
              have HT2 := Lib.hid (HTx.out.below hB2.out)
              have q0 := (hB2.out.cell (p := ⟨rx, 0, none⟩) (lt_of_cell g0)).trans g0
              have q1 := (hB2.out.cell (p := ⟨rx, 1, none⟩) (lt_of_cell g0)).trans g1
              by_cases hkl : kk < LT
              · obtain ⟨b2, o2, rfl, hc2⟩ := HT2.out.at (by omega)
                obtain ⟨t0, t1⟩ := hc2 kk hkl
                have MO := told_more (x := (d, (⟨#[]⟩ : Tx))) (show kk < ts.length by have := E3.out; omega)
                obtain ⟨z, hz⟩ : ∃ z, ts.getD kk k0 = z := ⟨_, rfl⟩
                rw [hz] at t0 t1 MO
                obtain ⟨z1, z2⟩ := z
                simp only at t0 t1
                obtain ⟨f, hf⟩ : ∃ f, decide ((d, (⟨#[]⟩ : Tx)) ∈ ts.take kk) = f := ⟨_, rfl⟩
                rw [hf] at MO
                have FO := Lib.hid MO
                simp only [hf]
                clear MO hf hc2 hz
                have y1 : (0 : Int) ≤ (kk : Int) := by omega
                have y2 : (kk : Int) < (LT : Int) := by omega
                cases f with
                | true =>
                  go_wp2_with fail
                  go_quiet (fail)
                  go_wp2_with fail
                  go_roundw
                  case rel => exact ⟨kk + 1, by omega, by go_num, by rw [FO.out]; simp, Lib.hid (hB2.out.trans ((below_drewN _ _).mono hB2.out.size))⟩
                  case measure => simp [intOf] <;> omega
                | false =>
                  by_cases u1 : z1 = d
                  · by_cases u2 : z2 = ⟨#[]⟩
                    · subst u1; subst u2
                      have v1 : (z1 == z1) = true := by simp
                      have v2 := str_same (⟨#[]⟩ : Tx)
                      go_wp2_with fail
                      go_quiet (fail)
                      go_wp2_with fail
                      go_roundw
                      case rel => exact ⟨kk + 1, by omega, by go_num, by rw [FO.out]; simp, Lib.hid (hB2.out.trans ((below_drewN _ _).mono hB2.out.size))⟩
                      case measure => simp [intOf] <;> omega
                    · subst u1
                      have v1 : (z1 == z1) = true := by simp
                      have v2 := str_other u2
                      obtain ⟨v3, v4⟩ := str_full u2
                      go_wp2_with fail
                      go_quiet (fail)
                      go_wp2_with fail
                      go_roundw
                      case rel => exact ⟨kk + 1, by omega, by go_num, by rw [FO.out]; simp [u2], Lib.hid (hB2.out.trans ((below_drewN _ _).mono hB2.out.size))⟩
                      case measure => simp [intOf] <;> omega
                  · have v1 : (z1 == d) = false := by simpa using u1
                    go_wp2_with fail
                    go_quiet (fail)
                    go_wp2_with fail
                    go_roundw
                    case rel => exact ⟨kk + 1, by omega, by go_num, by rw [FO.out]; simp [u1], Lib.hid (hB2.out.trans ((below_drewN _ _).mono hB2.out.size))⟩
                    case measure => simp [intOf] <;> omega
              · obtain rfl : kk = LT := by omega
                rw [List.take_of_length_le (by have := E3.out; omega)]
                obtain ⟨-, e0, e1, e2⟩ := box3q_carry QX2.out hB2.out
                have B3 := Lib.hid (Bx.out.trans (hB2.out.mono Bx.out.size))
                have v2 := str_same (⟨#[]⟩ : Tx)
                have hnn := near_len_no (k := k) TK.out ED.out (by omega)
                rw [NC.out] at hnn
                have NN := Lib.hid hnn
                obtain ⟨f, hf⟩ : ∃ f, decide ((d, (⟨#[]⟩ : Tx)) ∈ ts) = f := ⟨_, rfl⟩
                simp only [hf]
                clear hnn hf
                go_wp2_with fail
                go_quiet (fail)
                go_wp2_with fail
                go_roundw
                case rel => exact ⟨j + 1, by omega, by go_num, by rw [NN.out], Lib.hid (B3.out.trans ((below_drewN _ _).mono B3.out.size))⟩
                case measure => simp [intOf] <;> omega
        · obtain rfl : j = n := by omega
          have NC := Lib.hid (show (nearL ws s k).length = cc from by rw [← hcc, List.take_of_length_le (by have := LW.out; omega)])
          have TL2 := Lib.hid (show (LT : Int) = min (cc : Int) m from by have := TL.out; rw [NC.out] at this; exact this)
          have Br := Lib.hid (B6.out.trans (hB.out.mono B6.out.size))
          have HQr := Lib.hid (box3q_re (w1 := wr) (box3q_carry HQ.out hB.out))
          clear hcc hB e0 e1 e2
          generalize wr = wo at *
          obtain ⟨-, e0, e1, e2⟩ := HQr.out
          go_wp2_with fail
          go_loopw [12] (fun kv wr => ∃ kk : Nat, kk ≤ LT ∧ kv = .int .i64 kk ∧ Hid (Below wo.heap.size wo wr)) (fun kv _ => LT - (intOf kv).toNat)
          case atStart => exact ⟨0, by omega, rfl, Lib.hid (Below.refl _ _)⟩
          case round =>
            obtain ⟨kk, hkk, rfl, hB⟩ := hrel
            clear e0 e1 e2
            have HT2 := Lib.hid (HTr.out.below hB.out)
            have HX2 := Lib.hid (HXr.out.below hB.out)
            obtain ⟨-, e0, e1, e2⟩ := box3q_carry HQr.out hB.out
            by_cases hkl : kk < LT
            · obtain ⟨b2, o2, rfl, hc2⟩ := HT2.out.at (by omega)
              obtain ⟨m1, m2, m3⟩ := TM.out kk hkl
              obtain ⟨t0, t1⟩ := hc2 kk hkl
              have TRk := fun h0 => TR.out kk h0 hkl
              obtain ⟨z, hz⟩ : ∃ z, ts.getD kk k0 = z := ⟨_, rfl⟩
              rw [hz] at t0 t1 m1 m2 m3
              simp only [hz] at TRk
              have TRH := Lib.hid TRk
              obtain ⟨z1, z2⟩ := z
              simp only at t0 t1 m1 m2 m3
              have CD := Lib.hid (fun w => distanceR_lit z2 s z1 w (QX.out z2 m1) (by omega) m2.symm)
              have CA := Lib.hid (fun w (h : HoldsT w a j ws) => at_lit a j ca ws z2 true (atN ws z2) w h (by omega) ES.out (decide_eq_true m1) rfl)
              have x1 : (0 : Int) ≤ (kk : Int) := by omega
              have x2 : (kk : Int) < (LT : Int) := by omega
              have x3 : decide (k < z1) = false := decide_eq_false (by omega)
              have x5 : z1 ≤ k := by omega
              have x4 : (z1 != z1) = false := by simp
              obtain ⟨ix, hix⟩ : ∃ ix, atN ws z2 = ix := ⟨_, rfl⟩
              rw [hix] at CA
              have HIX := Lib.hid hix
              have HC2 := Lib.hid hc2
              clear m1 m2 m3 TRk hz hix hc2
              go_wp2_with fail
              refine (CA.out _ HX2.out).mono ?_
              rintro e w8 ⟨rfl, rfl⟩
              by_cases hk0 : kk = 0
              · have d5 : decide ((kk : Int) > 0) = false := by simp; omega
                obtain rfl : kk = 0 := by omega
                rw [Nat.zero_mul, Nat.add_zero] at t0 t1
                have T := Lib.hid (show Box7g wr b2 o2 o2 w.heap.size (.int .i64 z1) (.string z2) (.int .i64 z1) (.string z2) (.string s) (.int .i64 k) (.int .i64 m) wr from ⟨Below.refl _ _, t0, t1, t0, t1, e0, e1, e2⟩)
                clear t0 t1 e0 e1 e2
                have hS0 := box7g_carry T.out (Below.refl wr.heap.size wr).drew
                go_upto_region 28 with fail
                refine wp_region_held_drew (S := (fun w' => Below wr.heap.size wr w' ∧ w'.cell? ⟨b2, o2, none⟩ = some (.int .i64 z1) ∧ w'.cell? ⟨b2, o2 + 1, none⟩ = some (.string z2) ∧ w'.cell? ⟨b2, o2, none⟩ = some (.int .i64 z1) ∧ w'.cell? ⟨b2, o2 + 1, none⟩ = some (.string z2) ∧ w'.cell? ⟨w.heap.size, 0, none⟩ = some (.string s) ∧ w'.cell? ⟨w.heap.size, 1, none⟩ = some (.int .i64 k) ∧ w'.cell? ⟨w.heap.size, 2, none⟩ = some (.int .i64 m))) (by kernel_rfl) hS0 (fun hHeld => ?_)
                refine wpAnyH_take (i := 0) (oi := { dst := some 132, op := Op.move (Operand.tmp 14), type := 4, pos := "law.go:85", after := #[], guard := none }) (v := ?v0) rfl (by kernel_rfl) (by kernel_rfl) (by kernel_rfl) (fun _ _ _ h => h) (Or.inl ⟨by rfl, ?hy0⟩) (by assumption) ?rest0
                case hy0 => (intro w hSw; (try dsimp only at hSw); go_simp; (try with_reducible rfl))
                try simp only [Act.put, List.setIfInBounds_toArray, List.set_cons_zero, List.set_cons_succ]
                refine wpAnyH_take (i := 1) (oi := { dst := some 133, op := Op.unOp UnOp.not 4 (Operand.tmp 132), type := 4, pos := "law.go:85", after := #[{ on := 0, ground := Ground.data }], guard := none }) (v := ?v1) rfl (by kernel_rfl) (by kernel_rfl) (by kernel_rfl) (fun _ _ _ h => h) (Or.inl ⟨by rfl, ?hy1⟩) (by assumption) ?rest1
                case hy1 => (intro w hSw; (try dsimp only at hSw); go_simp; (try with_reducible rfl))
                try simp only [Act.put, List.setIfInBounds_toArray, List.set_cons_zero, List.set_cons_succ]
                refine wpAnyH_take (i := 2) (oi := { dst := some 134, op := Op.move (Operand.tmp 133), type := 4, pos := "law.go:85", after := #[{ on := 1, ground := Ground.data }], guard := none }) (v := ?v2) rfl (by kernel_rfl) (by kernel_rfl) (by kernel_rfl) (fun _ _ _ h => h) (Or.inl ⟨by rfl, ?hy2⟩) (by assumption) ?rest2
                case hy2 => (intro w hSw; (try dsimp only at hSw); go_simp; (try with_reducible rfl))
                try simp only [Act.put, List.setIfInBounds_toArray, List.set_cons_zero, List.set_cons_succ]
                refine wpAnyH_take (i := 3) (oi := { dst := some 135, op := Op.move (Operand.tmp 5), type := 28, pos := "law.go:85", after := #[{ on := 2, ground := Ground.guard }], guard := some (2, false) }) (v := ?v3) rfl (by kernel_rfl) (by kernel_rfl) (by kernel_rfl) (fun _ _ _ h => h) (Or.inl ⟨by rfl, ?hy3⟩) (by assumption) ?rest3
                case hy3 => (intro w hSw; (try dsimp only at hSw); go_simp; (try with_reducible rfl))
                try simp only [Act.put, List.setIfInBounds_toArray, List.set_cons_zero, List.set_cons_succ]
                refine wpAnyH_take (i := 4) (oi := { dst := some 136, op := Op.move (Operand.tmp 12), type := 3, pos := "law.go:85", after := #[{ on := 2, ground := Ground.guard }], guard := some (2, false) }) (v := ?v4) rfl (by kernel_rfl) (by kernel_rfl) (by kernel_rfl) (fun _ _ _ h => h) (Or.inl ⟨by rfl, ?hy4⟩) (by assumption) ?rest4
                case hy4 => (intro w hSw; (try dsimp only at hSw); go_simp; (try with_reducible rfl))
                try simp only [Act.put, List.setIfInBounds_toArray, List.set_cons_zero, List.set_cons_succ]
                refine wpAnyH_take (i := 5) (oi := { dst := some 137, op := Op.indexAddr 28 (Operand.tmp 135) (Operand.tmp 136), type := 0, pos := "law.go:85", after := #[{ on := 3, ground := Ground.data }, { on := 4, ground := Ground.data }, { on := 2, ground := Ground.guard }], guard := some (2, false) }) (v := ?v5) rfl (by kernel_rfl) (by kernel_rfl) (by kernel_rfl) (fun _ _ _ h => h) (Or.inl ⟨by rfl, ?hy5⟩) (by assumption) ?rest5
                case hy5 => (intro w hSw; (try dsimp only at hSw); go_simp; (try with_reducible rfl))
                try simp only [Act.put, List.setIfInBounds_toArray, List.set_cons_zero, List.set_cons_succ]
                refine wpAnyH_take (i := 6) (oi := { dst := some 138, op := Op.fieldAddr 37 (Operand.tmp 137) 0, type := 0, pos := "law.go:85", after := #[{ on := 5, ground := Ground.data }, { on := 2, ground := Ground.guard }], guard := some (2, false) }) (v := ?v6) rfl (by kernel_rfl) (by kernel_rfl) (by kernel_rfl) (fun _ _ _ h => h) (Or.inl ⟨by rfl, ?hy6⟩) (by assumption) ?rest6
                case hy6 => (intro w hSw; (try dsimp only at hSw); go_simp; (try with_reducible rfl))
                try simp only [Act.put, List.setIfInBounds_toArray, List.set_cons_zero, List.set_cons_succ]
                refine wpAnyH_take (i := 7) (oi := { dst := some 139, op := Op.load 3 (Operand.tmp 138), type := 3, pos := "law.go:85", after := #[{ on := 6, ground := Ground.data }, { on := 2, ground := Ground.guard }], guard := some (2, false) }) (v := ?v7) rfl (by kernel_rfl) (by kernel_rfl) (by kernel_rfl) (fun _ _ _ h => h) (Or.inl ⟨by rfl, ?hy7⟩) (by assumption) ?rest7
                case hy7 => (intro w hSw; (try dsimp only at hSw); go_simp; (try with_reducible rfl))
                try simp only [Act.put, List.setIfInBounds_toArray, List.set_cons_zero, List.set_cons_succ]
                refine wpAnyH_take (i := 8) (oi := { dst := some 140, op := Op.move (Operand.tmp 5), type := 28, pos := "law.go:85", after := #[{ on := 2, ground := Ground.guard }], guard := some (2, false) }) (v := ?v8) rfl (by kernel_rfl) (by kernel_rfl) (by kernel_rfl) (fun _ _ _ h => h) (Or.inl ⟨by rfl, ?hy8⟩) (by assumption) ?rest8
                case hy8 => (intro w hSw; (try dsimp only at hSw); go_simp; (try with_reducible rfl))
                try simp only [Act.put, List.setIfInBounds_toArray, List.set_cons_zero, List.set_cons_succ]
                refine wpAnyH_take (i := 9) (oi := { dst := some 141, op := Op.move (Operand.tmp 12), type := 3, pos := "law.go:85", after := #[{ on := 2, ground := Ground.guard }], guard := some (2, false) }) (v := ?v9) rfl (by kernel_rfl) (by kernel_rfl) (by kernel_rfl) (fun _ _ _ h => h) (Or.inl ⟨by rfl, ?hy9⟩) (by assumption) ?rest9
                case hy9 => (intro w hSw; (try dsimp only at hSw); go_simp; (try with_reducible rfl))
                try simp only [Act.put, List.setIfInBounds_toArray, List.set_cons_zero, List.set_cons_succ]
                refine wpAnyH_take (i := 10) (oi := { dst := some 142, op := Op.indexAddr 28 (Operand.tmp 140) (Operand.tmp 141), type := 0, pos := "law.go:85", after := #[{ on := 8, ground := Ground.data }, { on := 9, ground := Ground.data }, { on := 2, ground := Ground.guard }], guard := some (2, false) }) (v := ?v10) rfl (by kernel_rfl) (by kernel_rfl) (by kernel_rfl) (fun _ _ _ h => h) (Or.inl ⟨by rfl, ?hy10⟩) (by assumption) ?rest10
                case hy10 => (intro w hSw; (try dsimp only at hSw); go_simp; (try with_reducible rfl))
                try simp only [Act.put, List.setIfInBounds_toArray, List.set_cons_zero, List.set_cons_succ]
                refine wpAnyH_take (i := 11) (oi := { dst := some 143, op := Op.fieldAddr 37 (Operand.tmp 142) 1, type := 0, pos := "law.go:85", after := #[{ on := 10, ground := Ground.data }, { on := 2, ground := Ground.guard }], guard := some (2, false) }) (v := ?v11) rfl (by kernel_rfl) (by kernel_rfl) (by kernel_rfl) (fun _ _ _ h => h) (Or.inl ⟨by rfl, ?hy11⟩) (by assumption) ?rest11
                case hy11 => (intro w hSw; (try dsimp only at hSw); go_simp; (try with_reducible rfl))
                try simp only [Act.put, List.setIfInBounds_toArray, List.set_cons_zero, List.set_cons_succ]
                refine wpAnyH_take (i := 12) (oi := { dst := some 144, op := Op.load 9 (Operand.tmp 143), type := 9, pos := "law.go:85", after := #[{ on := 11, ground := Ground.data }, { on := 2, ground := Ground.guard }], guard := some (2, false) }) (v := ?v12) rfl (by kernel_rfl) (by kernel_rfl) (by kernel_rfl) (fun _ _ _ h => h) (Or.inl ⟨by rfl, ?hy12⟩) (by assumption) ?rest12
                case hy12 => (intro w hSw; (try dsimp only at hSw); go_simp; (try with_reducible rfl))
                try simp only [Act.put, List.setIfInBounds_toArray, List.set_cons_zero, List.set_cons_succ]
                refine wpAnyH_take (i := 13) (oi := { dst := some 145, op := Op.fieldAddr 24 (Operand.tmp 3) 0, type := 0, pos := "law.go:85", after := #[{ on := 2, ground := Ground.guard }], guard := some (2, false) }) (v := ?v13) rfl (by kernel_rfl) (by kernel_rfl) (by kernel_rfl) (fun _ _ _ h => h) (Or.inl ⟨by rfl, ?hy13⟩) (by assumption) ?rest13
                case hy13 => (intro w hSw; (try dsimp only at hSw); go_simp; (try with_reducible rfl))
                try simp only [Act.put, List.setIfInBounds_toArray, List.set_cons_zero, List.set_cons_succ]
                refine wpAnyH_take (i := 14) (oi := { dst := some 146, op := Op.load 9 (Operand.tmp 145), type := 9, pos := "law.go:85", after := #[{ on := 13, ground := Ground.data }, { on := 2, ground := Ground.guard }], guard := some (2, false) }) (v := ?v14) rfl (by kernel_rfl) (by kernel_rfl) (by kernel_rfl) (fun _ _ _ h => h) (Or.inl ⟨by rfl, ?hy14⟩) (by assumption) ?rest14
                case hy14 => (intro w hSw; (try dsimp only at hSw); go_simp; (try with_reducible rfl))
                try simp only [Act.put, List.setIfInBounds_toArray, List.set_cons_zero, List.set_cons_succ]
                refine wpAnyH_ready (rs := [15]) (by kernel_rfl) (by simp) ?_
                refine AllReadyH.cons (o := { dst := some 147, op := Op.call { callee := Callee.value (Operand.func 31), args := #[Operand.tmp 144, Operand.tmp 146], argTypes := #[9, 9] }, type := 3, pos := "law.go:85", after := #[{ on := 12, ground := Ground.data }, { on := 14, ground := Ground.data }, { on := 2, ground := Ground.chain }, { on := 2, ground := Ground.guard }], guard := some (2, false) }) rfl (fun K hK => ?_) AllReadyH.nil
                go_simp
                go_at_call 31
                refine (CD.out _).mono ?_
                rintro e w' ⟨rfl, hb⟩
                go_wp2_with fail
                refine hK.out _ _ ?_ (fun hHeld2 => ?_)
                · exact box7g_carry hHeld hb
                clear hK K hHeld
                try simp only [Act.put, List.setIfInBounds_toArray, List.set_cons_zero, List.set_cons_succ]
                refine wpAnyH_take (i := 16) (oi := { dst := some 148, op := Op.binOp BinOp.neq 3 (Operand.tmp 139) (Operand.tmp 147) 3, type := 4, pos := "law.go:85", after := #[{ on := 7, ground := Ground.data }, { on := 15, ground := Ground.data }, { on := 2, ground := Ground.guard }], guard := some (2, false) }) (v := ?v16) rfl (by kernel_rfl) (by kernel_rfl) (by kernel_rfl) (fun _ _ _ h => h) (Or.inl ⟨by rfl, ?hy16⟩) (by assumption) ?rest16
                case hy16 => (intro w hSw; (try dsimp only at hSw); go_simp; (try with_reducible rfl))
                try simp only [Act.put, List.setIfInBounds_toArray, List.set_cons_zero, List.set_cons_succ]
                refine wpAnyH_take (i := 17) (oi := { dst := some 149, op := Op.pick (Operand.tmp 134) (Operand.const (Value.bool true)) (Operand.tmp 148), type := 4, pos := "law.go:85", after := #[{ on := 2, ground := Ground.data }, { on := 16, ground := Ground.data }], guard := none }) (v := ?v17) rfl (by kernel_rfl) (by kernel_rfl) (by kernel_rfl) (fun _ _ _ h => h) (Or.inl ⟨by rfl, ?hy17⟩) (by assumption) ?rest17
                case hy17 => (intro w hSw; (try dsimp only at hSw); go_simp; (try with_reducible rfl))
                try simp only [Act.put, List.setIfInBounds_toArray, List.set_cons_zero, List.set_cons_succ]
                refine wpAnyH_take (i := 18) (oi := { dst := some 150, op := Op.move (Operand.tmp 149), type := 4, pos := "law.go:85", after := #[{ on := 17, ground := Ground.data }, { on := 15, ground := Ground.chain }], guard := none }) (v := ?v18) rfl (by kernel_rfl) (by kernel_rfl) (by kernel_rfl) (fun _ _ _ h => h) (Or.inl ⟨by rfl, ?hy18⟩) (by assumption) ?rest18
                case hy18 => (intro w hSw; (try dsimp only at hSw); go_simp; (try with_reducible rfl))
                try simp only [Act.put, List.setIfInBounds_toArray, List.set_cons_zero, List.set_cons_succ]
                refine wpAnyH_take (i := 19) (oi := { dst := some 151, op := Op.move (Operand.tmp 5), type := 28, pos := "law.go:85", after := #[{ on := 18, ground := Ground.guard }], guard := some (18, false) }) (v := ?v19) rfl (by kernel_rfl) (by kernel_rfl) (by kernel_rfl) (fun _ _ _ h => h) (Or.inl ⟨by rfl, ?hy19⟩) (by assumption) ?rest19
                case hy19 => (intro w hSw; (try dsimp only at hSw); go_simp; (try with_reducible rfl))
                try simp only [Act.put, List.setIfInBounds_toArray, List.set_cons_zero, List.set_cons_succ]
                refine wpAnyH_take (i := 20) (oi := { dst := some 152, op := Op.move (Operand.tmp 12), type := 3, pos := "law.go:85", after := #[{ on := 18, ground := Ground.guard }], guard := some (18, false) }) (v := ?v20) rfl (by kernel_rfl) (by kernel_rfl) (by kernel_rfl) (fun _ _ _ h => h) (Or.inl ⟨by rfl, ?hy20⟩) (by assumption) ?rest20
                case hy20 => (intro w hSw; (try dsimp only at hSw); go_simp; (try with_reducible rfl))
                try simp only [Act.put, List.setIfInBounds_toArray, List.set_cons_zero, List.set_cons_succ]
                refine wpAnyH_take (i := 21) (oi := { dst := some 153, op := Op.indexAddr 28 (Operand.tmp 151) (Operand.tmp 152), type := 0, pos := "law.go:85", after := #[{ on := 19, ground := Ground.data }, { on := 20, ground := Ground.data }, { on := 18, ground := Ground.guard }], guard := some (18, false) }) (v := ?v21) rfl (by kernel_rfl) (by kernel_rfl) (by kernel_rfl) (fun _ _ _ h => h) (Or.inl ⟨by rfl, ?hy21⟩) (by assumption) ?rest21
                case hy21 => (intro w hSw; (try dsimp only at hSw); go_simp; (try with_reducible rfl))
                try simp only [Act.put, List.setIfInBounds_toArray, List.set_cons_zero, List.set_cons_succ]
                refine wpAnyH_take (i := 22) (oi := { dst := some 154, op := Op.fieldAddr 37 (Operand.tmp 153) 0, type := 0, pos := "law.go:85", after := #[{ on := 21, ground := Ground.data }, { on := 18, ground := Ground.guard }], guard := some (18, false) }) (v := ?v22) rfl (by kernel_rfl) (by kernel_rfl) (by kernel_rfl) (fun _ _ _ h => h) (Or.inl ⟨by rfl, ?hy22⟩) (by assumption) ?rest22
                case hy22 => (intro w hSw; (try dsimp only at hSw); go_simp; (try with_reducible rfl))
                try simp only [Act.put, List.setIfInBounds_toArray, List.set_cons_zero, List.set_cons_succ]
                refine wpAnyH_take (i := 23) (oi := { dst := some 155, op := Op.load 3 (Operand.tmp 154), type := 3, pos := "law.go:85", after := #[{ on := 22, ground := Ground.data }, { on := 18, ground := Ground.guard }], guard := some (18, false) }) (v := ?v23) rfl (by kernel_rfl) (by kernel_rfl) (by kernel_rfl) (fun _ _ _ h => h) (Or.inl ⟨by rfl, ?hy23⟩) (by assumption) ?rest23
                case hy23 => (intro w hSw; (try dsimp only at hSw); go_simp; (try with_reducible rfl))
                try simp only [Act.put, List.setIfInBounds_toArray, List.set_cons_zero, List.set_cons_succ]
                refine wpAnyH_take (i := 24) (oi := { dst := some 156, op := Op.fieldAddr 24 (Operand.tmp 3) 1, type := 0, pos := "law.go:85", after := #[{ on := 18, ground := Ground.guard }], guard := some (18, false) }) (v := ?v24) rfl (by kernel_rfl) (by kernel_rfl) (by kernel_rfl) (fun _ _ _ h => h) (Or.inl ⟨by rfl, ?hy24⟩) (by assumption) ?rest24
                case hy24 => (intro w hSw; (try dsimp only at hSw); go_simp; (try with_reducible rfl))
                try simp only [Act.put, List.setIfInBounds_toArray, List.set_cons_zero, List.set_cons_succ]
                refine wpAnyH_take (i := 25) (oi := { dst := some 157, op := Op.load 3 (Operand.tmp 156), type := 3, pos := "law.go:85", after := #[{ on := 24, ground := Ground.data }, { on := 18, ground := Ground.guard }], guard := some (18, false) }) (v := ?v25) rfl (by kernel_rfl) (by kernel_rfl) (by kernel_rfl) (fun _ _ _ h => h) (Or.inl ⟨by rfl, ?hy25⟩) (by assumption) ?rest25
                case hy25 => (intro w hSw; (try dsimp only at hSw); go_simp; (try with_reducible rfl))
                try simp only [Act.put, List.setIfInBounds_toArray, List.set_cons_zero, List.set_cons_succ]
                refine wpAnyH_take (i := 26) (oi := { dst := some 158, op := Op.binOp BinOp.gtr 3 (Operand.tmp 155) (Operand.tmp 157) 3, type := 4, pos := "law.go:85", after := #[{ on := 23, ground := Ground.data }, { on := 25, ground := Ground.data }, { on := 18, ground := Ground.guard }], guard := some (18, false) }) (v := ?v26) rfl (by kernel_rfl) (by kernel_rfl) (by kernel_rfl) (fun _ _ _ h => h) (Or.inl ⟨by rfl, ?hy26⟩) (by assumption) ?rest26
                case hy26 => (intro w hSw; (try dsimp only at hSw); go_simp; (try with_reducible rfl))
                try simp only [Act.put, List.setIfInBounds_toArray, List.set_cons_zero, List.set_cons_succ]
                refine wpAnyH_take (i := 27) (oi := { dst := some 159, op := Op.pick (Operand.tmp 150) (Operand.const (Value.bool true)) (Operand.tmp 158), type := 4, pos := "law.go:85", after := #[{ on := 18, ground := Ground.data }, { on := 26, ground := Ground.data }], guard := none }) (v := ?v27) rfl (by kernel_rfl) (by kernel_rfl) (by kernel_rfl) (fun _ _ _ h => h) (Or.inl ⟨by rfl, ?hy27⟩) (by assumption) ?rest27
                case hy27 => (intro w hSw; (try dsimp only at hSw); go_simp; (try with_reducible rfl))
                try simp only [Act.put, List.setIfInBounds_toArray, List.set_cons_zero, List.set_cons_succ]
                refine wpAnyH_take (i := 28) (oi := { dst := some 160, op := Op.move (Operand.tmp 159), type := 4, pos := "law.go:85", after := #[{ on := 27, ground := Ground.data }, { on := 18, ground := Ground.chain }], guard := none }) (v := ?v28) rfl (by kernel_rfl) (by kernel_rfl) (by kernel_rfl) (fun _ _ _ h => h) (Or.inl ⟨by rfl, ?hy28⟩) (by assumption) ?rest28
                case hy28 => (intro w hSw; (try dsimp only at hSw); go_simp; (try with_reducible rfl))
                try simp only [Act.put, List.setIfInBounds_toArray, List.set_cons_zero, List.set_cons_succ]
                refine wpAnyH_take (i := 29) (oi := { dst := some 161, op := Op.move (Operand.tmp 12), type := 3, pos := "law.go:85", after := #[{ on := 28, ground := Ground.guard }], guard := some (28, false) }) (v := ?v29) rfl (by kernel_rfl) (by kernel_rfl) (by kernel_rfl) (fun _ _ _ h => h) (Or.inl ⟨by rfl, ?hy29⟩) (by assumption) ?rest29
                case hy29 => (intro w hSw; (try dsimp only at hSw); go_simp; (try with_reducible rfl))
                try simp only [Act.put, List.setIfInBounds_toArray, List.set_cons_zero, List.set_cons_succ]
                refine wpAnyH_take (i := 30) (oi := { dst := some 162, op := Op.binOp BinOp.gtr 3 (Operand.tmp 161) (Operand.const (Value.int IntKind.i64 0)) 3, type := 4, pos := "law.go:85", after := #[{ on := 29, ground := Ground.data }, { on := 28, ground := Ground.guard }], guard := some (28, false) }) (v := ?v30) rfl (by kernel_rfl) (by kernel_rfl) (by kernel_rfl) (fun _ _ _ h => h) (Or.inl ⟨by rfl, ?hy30⟩) (by assumption) ?rest30
                case hy30 => (intro w hSw; (try dsimp only at hSw); go_simp; (try with_reducible rfl))
                try simp only [Act.put, List.setIfInBounds_toArray, List.set_cons_zero, List.set_cons_succ]
                refine wpAnyH_take (i := 31) (oi := { dst := some 163, op := Op.move (Operand.tmp 162), type := 4, pos := "law.go:85", after := #[{ on := 30, ground := Ground.data }, { on := 28, ground := Ground.chain }, { on := 28, ground := Ground.guard }], guard := some (28, false) }) (v := ?v31) rfl (by kernel_rfl) (by kernel_rfl) (by kernel_rfl) (fun _ _ _ h => h) (Or.inl ⟨by rfl, ?hy31⟩) (by assumption) ?rest31
                case hy31 => (intro w hSw; (try dsimp only at hSw); go_simp; (try with_reducible rfl))
                try simp only [Act.put, List.setIfInBounds_toArray, List.set_cons_zero, List.set_cons_succ]
                refine wpAnyH_take (i := 32) (oi := { dst := some 164, op := Op.move (Operand.tmp 5), type := 28, pos := "law.go:85", after := #[{ on := 31, ground := Ground.guard }], guard := some (31, true) }) rfl (by kernel_rfl) (by kernel_rfl) (by kernel_rfl) (fun _ _ _ h => h) (Or.inr ⟨by rfl, rfl⟩) (by assumption) ?_
                try simp only [Act.put, List.setIfInBounds_toArray, List.set_cons_zero, List.set_cons_succ]
                refine wpAnyH_take (i := 33) (oi := { dst := some 165, op := Op.move (Operand.tmp 12), type := 3, pos := "law.go:85", after := #[{ on := 31, ground := Ground.guard }], guard := some (31, true) }) rfl (by kernel_rfl) (by kernel_rfl) (by kernel_rfl) (fun _ _ _ h => h) (Or.inr ⟨by rfl, rfl⟩) (by assumption) ?_
                try simp only [Act.put, List.setIfInBounds_toArray, List.set_cons_zero, List.set_cons_succ]
                refine wpAnyH_take (i := 34) (oi := { dst := some 166, op := Op.binOp BinOp.sub 3 (Operand.tmp 165) (Operand.const (Value.int IntKind.i64 1)) 3, type := 3, pos := "law.go:85", after := #[{ on := 33, ground := Ground.data }, { on := 31, ground := Ground.guard }], guard := some (31, true) }) rfl (by kernel_rfl) (by kernel_rfl) (by kernel_rfl) (fun _ _ _ h => h) (Or.inr ⟨by rfl, rfl⟩) (by assumption) ?_
                try simp only [Act.put, List.setIfInBounds_toArray, List.set_cons_zero, List.set_cons_succ]
                refine wpAnyH_take (i := 35) (oi := { dst := some 167, op := Op.indexAddr 28 (Operand.tmp 164) (Operand.tmp 166), type := 0, pos := "law.go:85", after := #[{ on := 32, ground := Ground.data }, { on := 34, ground := Ground.data }, { on := 31, ground := Ground.guard }], guard := some (31, true) }) rfl (by kernel_rfl) (by kernel_rfl) (by kernel_rfl) (fun _ _ _ h => h) (Or.inr ⟨by rfl, rfl⟩) (by assumption) ?_
                try simp only [Act.put, List.setIfInBounds_toArray, List.set_cons_zero, List.set_cons_succ]
                refine wpAnyH_take (i := 36) (oi := { dst := some 168, op := Op.load 37 (Operand.tmp 167), type := 37, pos := "law.go:85", after := #[{ on := 35, ground := Ground.data }, { on := 31, ground := Ground.guard }], guard := some (31, true) }) rfl (by kernel_rfl) (by kernel_rfl) (by kernel_rfl) (fun _ _ _ h => h) (Or.inr ⟨by rfl, rfl⟩) (by assumption) ?_
                try simp only [Act.put, List.setIfInBounds_toArray, List.set_cons_zero, List.set_cons_succ]
                refine wpAnyH_take (i := 37) (oi := { dst := some 169, op := Op.move (Operand.tmp 5), type := 28, pos := "law.go:85", after := #[{ on := 31, ground := Ground.guard }], guard := some (31, true) }) rfl (by kernel_rfl) (by kernel_rfl) (by kernel_rfl) (fun _ _ _ h => h) (Or.inr ⟨by rfl, rfl⟩) (by assumption) ?_
                try simp only [Act.put, List.setIfInBounds_toArray, List.set_cons_zero, List.set_cons_succ]
                refine wpAnyH_take (i := 38) (oi := { dst := some 170, op := Op.move (Operand.tmp 12), type := 3, pos := "law.go:85", after := #[{ on := 31, ground := Ground.guard }], guard := some (31, true) }) rfl (by kernel_rfl) (by kernel_rfl) (by kernel_rfl) (fun _ _ _ h => h) (Or.inr ⟨by rfl, rfl⟩) (by assumption) ?_
                try simp only [Act.put, List.setIfInBounds_toArray, List.set_cons_zero, List.set_cons_succ]
                refine wpAnyH_take (i := 39) (oi := { dst := some 171, op := Op.indexAddr 28 (Operand.tmp 169) (Operand.tmp 170), type := 0, pos := "law.go:85", after := #[{ on := 37, ground := Ground.data }, { on := 38, ground := Ground.data }, { on := 31, ground := Ground.guard }], guard := some (31, true) }) rfl (by kernel_rfl) (by kernel_rfl) (by kernel_rfl) (fun _ _ _ h => h) (Or.inr ⟨by rfl, rfl⟩) (by assumption) ?_
                try simp only [Act.put, List.setIfInBounds_toArray, List.set_cons_zero, List.set_cons_succ]
                refine wpAnyH_take (i := 40) (oi := { dst := some 172, op := Op.load 37 (Operand.tmp 171), type := 37, pos := "law.go:85", after := #[{ on := 39, ground := Ground.data }, { on := 31, ground := Ground.guard }], guard := some (31, true) }) rfl (by kernel_rfl) (by kernel_rfl) (by kernel_rfl) (fun _ _ _ h => h) (Or.inr ⟨by rfl, rfl⟩) (by assumption) ?_
                try simp only [Act.put, List.setIfInBounds_toArray, List.set_cons_zero, List.set_cons_succ]
                refine wpAnyH_take (i := 41) (oi := { dst := some 173, op := Op.call { callee := Callee.value (Operand.func 28), args := #[Operand.tmp 168, Operand.tmp 172], argTypes := #[37, 37] }, type := 4, pos := "law.go:85", after := #[{ on := 36, ground := Ground.data }, { on := 40, ground := Ground.data }, { on := 31, ground := Ground.chain }, { on := 31, ground := Ground.guard }], guard := some (31, true) }) rfl (by kernel_rfl) (by kernel_rfl) (by kernel_rfl) (fun _ _ _ h => h) (Or.inr ⟨by rfl, rfl⟩) (by assumption) ?_
                try simp only [Act.put, List.setIfInBounds_toArray, List.set_cons_zero, List.set_cons_succ]
                refine wpAnyH_take (i := 42) (oi := { dst := some 174, op := Op.unOp UnOp.not 4 (Operand.tmp 173), type := 4, pos := "law.go:85", after := #[{ on := 41, ground := Ground.data }, { on := 31, ground := Ground.guard }], guard := some (31, true) }) rfl (by kernel_rfl) (by kernel_rfl) (by kernel_rfl) (fun _ _ _ h => h) (Or.inr ⟨by rfl, rfl⟩) (by assumption) ?_
                try simp only [Act.put, List.setIfInBounds_toArray, List.set_cons_zero, List.set_cons_succ]
                refine wpAnyH_take (i := 43) (oi := { dst := some 175, op := Op.pick (Operand.tmp 163) (Operand.tmp 174) (Operand.const (Value.bool false)), type := 4, pos := "law.go:85", after := #[{ on := 31, ground := Ground.data }, { on := 42, ground := Ground.data }, { on := 28, ground := Ground.guard }], guard := some (28, false) }) (v := ?v43) rfl (by kernel_rfl) (by kernel_rfl) (by kernel_rfl) (fun _ _ _ h => h) (Or.inl ⟨by rfl, ?hy43⟩) (by assumption) ?rest43
                case hy43 => (intro w hSw; (try dsimp only at hSw); go_simp; (try with_reducible rfl))
                try simp only [Act.put, List.setIfInBounds_toArray, List.set_cons_zero, List.set_cons_succ]
                refine wpAnyH_take (i := 44) (oi := { dst := some 176, op := Op.pick (Operand.tmp 160) (Operand.const (Value.bool true)) (Operand.tmp 175), type := 4, pos := "law.go:85", after := #[{ on := 28, ground := Ground.data }, { on := 43, ground := Ground.data }], guard := none }) (v := ?v44) rfl (by kernel_rfl) (by kernel_rfl) (by kernel_rfl) (fun _ _ _ h => h) (Or.inl ⟨by rfl, ?hy44⟩) (by assumption) ?rest44
                case hy44 => (intro w hSw; (try dsimp only at hSw); go_simp; (try with_reducible rfl))
                try simp only [Act.put, List.setIfInBounds_toArray, List.set_cons_zero, List.set_cons_succ]
                refine wpAnyH_done (by kernel_rfl) ?_ _
                have hbT := hHeld2.1
                go_wp2_with fail
                go_roundw
                case rel => exact ⟨0 + 1, by omega, by go_num, Lib.hid (hB.out.trans (hbT.mono hB.out.size))⟩
                case measure => simp [intOf] <;> omega
              · have g0 : 0 < kk := by omega
                have LE := TRH.out g0
                obtain ⟨q, hq⟩ : ∃ q : Nat, kk - 1 = q := ⟨_, rfl⟩
                rw [hq] at LE
                obtain ⟨u0, u1⟩ := HC2.out q (by omega)
                obtain ⟨z, hz⟩ : ∃ z, ts.getD q k0 = z := ⟨_, rfl⟩
                rw [hz] at u0 u1 LE
                have LL := Lib.hid (fun w => iless_lit z (z1, z2) true w LE)
                obtain ⟨y1, y2⟩ := z
                unfold keyV at LL
                simp only at u0 u1 LL
                have r1 : (0 : Int) ≤ (q : Int) := by omega
                have r2 : (q : Int) < (LT : Int) := by omega
                have r3 : IntKind.i64.wrap ((kk : Int) - 1) = (q : Int) := by rw [IntWalk.i64_in _ (by omega)]; omega
                have r4 : q < LT := by omega
                have HQQ := Lib.hid hq
                have T := Lib.hid (show Box7g wr b2 (o2 + kk * 2) (o2 + q * 2) w.heap.size (.int .i64 z1) (.string z2) (.int .i64 y1) (.string y2) (.string s) (.int .i64 k) (.int .i64 m) wr from ⟨Below.refl _ _, t0, t1, u0, u1, e0, e1, e2⟩)
                clear hz hq LE t0 t1 u0 u1 e0 e1 e2 hk0
                go_upto_region 28 with fail
                go_region_held3 (fun w' => Below wr.heap.size wr w' ∧ w'.cell? ⟨b2, o2 + kk * 2, none⟩ = some (.int .i64 z1) ∧ w'.cell? ⟨b2, o2 + kk * 2 + 1, none⟩ = some (.string z2) ∧ w'.cell? ⟨b2, o2 + q * 2, none⟩ = some (.int .i64 y1) ∧ w'.cell? ⟨b2, o2 + q * 2 + 1, none⟩ = some (.string y2) ∧ w'.cell? ⟨w.heap.size, 0, none⟩ = some (.string s) ∧ w'.cell? ⟨w.heap.size, 1, none⟩ = some (.int .i64 k) ∧ w'.cell? ⟨w.heap.size, 2, none⟩ = some (.int .i64 m))
                  (first | assumption | exact box7g_carry T.out (Below.refl _ _).drew | exact box7g_carry (by assumption) (by assumption))
                  (first | (go_at_call 31; (with_reducible refine (CD.out _).mono ?_); rintro e w' ⟨rfl, hb⟩) | (go_at_call 28; (with_reducible refine (LL.out _).mono ?_); rintro e w' ⟨rfl, hb⟩))
                rename_i T5
                have hbT := T5.1
                clear T5
                clear r3
                go_wp2_with fail
                go_roundw
                case rel => exact ⟨kk + 1, by omega, by go_num, Lib.hid (hB.out.trans (hbT.mono hB.out.size))⟩
                case measure => simp [intOf] <;> omega
            · obtain rfl : kk = LT := by omega
              have B9 := Lib.hid (Br.out.trans (hB.out.mono Br.out.size))
              have tl := TL2.out
              by_cases hmc : m < (cc : Int)
              · have g1 : ((kk : Int) == m) = true := by simp; omega
                clear tl
                go_wp2_with fail
                refine (awake_any _).mono ?_
                rintro e w99 ⟨rfl, hb99⟩
                go_wp2_with fail
                go_ret
                exact ⟨rfl, B9.out.trans (hb99.mono B9.out.size)⟩
              · have g1 : ((kk : Int) == (cc : Int)) = true := by simp; omega
                clear tl
                go_wp2_with fail
                refine (awake_any _).mono ?_
                rintro e w99 ⟨rfl, hb99⟩
                go_wp2_with fail
                go_ret
                exact ⟨rfl, B9.out.trans (hb99.mono B9.out.size)⟩
open Go.ChangeShapes Go.WideShapes Go.ChangeAt in
theorem rankFirst_walk {H : Type} {enc : TypeId × Value → H} (W : World) (base : Nat) (v0 v1 : Value) (d0 d1 : DataW H) (p0 p1 : List MemPlace)
    (h0 : DataW.Trod enc Try.prog W 0 (fun _ => true) true 22 v0 d0 p0) (h1 : DataW.Trod enc Try.prog W 0 (fun _ => true) true 24 v1 d1 p1)
    (o0 : Value.okWide Try.prog W .any base 22 v0) (o1 : Value.okWide Try.prog W .any base 24 v1) :
    Calls Try.prog 6 #[v0, v1] W fun e w' => e = .returned (.bool true) ∧ RowKit.Below W.heap.size W w' := by
  obtain ⟨a0, n0, c0, k0, rfl, x0, y0, z0, b0, s0⟩ := open_texts_arg o0 h0
  obtain ⟨t, k, n, ht, wk, wn, rfl⟩ := query_arg o1 h1
  exact rankFirst_law a0 n0 c0 k0 t k n W ⟨x0, y0, z0⟩ b0 s0 ht
end Go.Proofs.Ytioegheehodndaa
