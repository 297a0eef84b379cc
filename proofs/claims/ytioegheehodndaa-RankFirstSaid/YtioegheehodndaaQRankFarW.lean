/- RankFar: words that are too far change nothing of what comes first; without one that was told, all others stay in order -/
import Derived.Test.YtioegheehodndaaQRankPartsW
import Derived.Test.YtioegheehodndaaPkD
import Derived.Deep.RegionWith
namespace Go.Proofs.Ytioegheehodndaa
open Go.RowKit
set_option linter.unusedVariables false
set_option maxRecDepth 20000
theorem distanceR_lit (a b : Tx) (v : Int) (w : World) (hsa : a.size ≤ 1048576) (hsb : b.size ≤ 1048576) (hv : distS a b = v) :
    Calls Try.prog 31 #[.string a, .string b] w fun e w' => e = .returned (.int .i64 v) ∧ Below w.heap.size w w' := by subst hv; exact distance_any a b w hsa hsb
theorem one_lst (w : World) (x : Tx) (e : TypeId) (fr : Nat × Nat) : Lst (w.alloc (.cells #[.string x] e fr)) (some ⟨w.heap.size, 0, none⟩) 1 1 [x] := ⟨holdsT_lit w [x] e fr, some_none _, by omega⟩
theorem one_lst_d (w : World) (x : Tx) (e : TypeId) (fr : Nat × Nat) : Lst (w.alloc (.cells #[.string x] e fr)).drew (some ⟨w.heap.size, 0, none⟩) 1 1 [x] := (one_lst w x e fr).below (Below.refl _ _).drew
theorem HoldsK.cellsAt {w : World} {a : Option Addr} {n : Nat} {ks : List KV} (h : HoldsK w a n ks) : ∀ ad, a = some ad → ∀ j u, (keysV ks)[j]? = some u → w.cell? (ad.add j) = some u := HoldsK.cellsAny h ⟨rfl, rfl, rfl, Nat.le_refl _, fun _ _ _ => rfl⟩
theorem iteR_none {p : Prop} {c : Prop} [Decidable c] (a b : Addr) : ((if c then some a else some b) = none) → p := by split <;> exact fun h => by cases h
theorem one_sorted (x : Tx) : SortedS [x] := by simp [SortedS]
def Box4w (w0 : World) (b o p : Nat) (u v0 v1 v2 : Value) (w : World) : Prop := Below w0.heap.size w0 w ∧ w.cell? ⟨b, o, none⟩ = some u ∧ w.cell? ⟨p, 0, none⟩ = some v0 ∧ w.cell? ⟨p, 1, none⟩ = some v1 ∧ w.cell? ⟨p, 2, none⟩ = some v2
theorem box4w_carry {w0 w w' : World} {b o p : Nat} {u v0 v1 v2 : Value} (h : Box4w w0 b o p u v0 v1 v2 w) (hb : Below w.heap.size w w') : Box4w w0 b o p u v0 v1 v2 w' :=
  ⟨h.1.trans (hb.mono h.1.size), by rw [hb.cell (p := ⟨b, o, none⟩) (lt_of_cell h.2.1)]; exact h.2.1, by rw [hb.cell (p := ⟨p, 0, none⟩) (lt_of_cell h.2.2.1)]; exact h.2.2.1, by rw [hb.cell (p := ⟨p, 1, none⟩) (lt_of_cell h.2.2.1)]; exact h.2.2.2.1, by rw [hb.cell (p := ⟨p, 2, none⟩) (lt_of_cell h.2.2.1)]; exact h.2.2.2.2⟩
theorem filter_step {p : Tx → Bool} {ws : List Tx} {j : Nat} {x : Tx} {P : List Tx} (hP : P = (ws.take j).filter p) (hx : ws.take (j + 1) = ws.take j ++ [x]) : (ws.take (j + 1)).filter p = P ++ (if p x then [x] else []) := by
  rw [hx, hP]; exact filter_snoc p _ x
set_option maxRecDepth 100000 in
set_option maxHeartbeats 6400000 in
theorem rankFar_law (a : Option Addr) (n ca : Nat) (ws : List Tx) (s : Tx) (k m x : Int) (w : World) (ha : Lst w a n ca ws) (hn : n ≤ 9223372036854775807) (hs : ∀ t ∈ ws, t.size ≤ 9223372036854775807) (hx : s.size ≤ 9223372036854775807) :
    Calls Try.prog 9 #[.slice a n ca, .agg #[.string s, .int .i64 k, .int .i64 m], .int .i64 x] w fun e w' => e = .returned (.bool true) ∧ Below w.heap.size w w' := by
  obtain ⟨i0, hi, hz0, hz1, hz2⟩ := info_parts item_info
  obtain ⟨is0, his, hzs0, hzs1, hzs2⟩ := info_parts str_info
  have lws := ha.1.len
  have H0 := Lib.hid ha
  have B0 := Lib.hid (below_one w (.cells #[.string s, .int .i64 k, .int .i64 m] 24))
  have HX := Lib.hid (ha.below B0.out)
  have HQ := Lib.hid (show Box3q (w.alloc (.cells #[.string s, .int .i64 k, .int .i64 m] 24)) w.heap.size (.string s) (.int .i64 k) (.int .i64 m) (w.alloc (.cells #[.string s, .int .i64 k, .int .i64 m] 24)) from ⟨Below.refl _ _, by rw [cell_alloc rfl]; rfl, by rw [cell_alloc rfl]; rfl, by rw [cell_alloc rfl]; rfl⟩)
  obtain ⟨gx, hgx⟩ : ∃ g, greatB ws = g := ⟨_, rfl⟩
  obtain ⟨vx, hvx⟩ : ∃ g, goodV ws = g := ⟨_, rfl⟩
  obtain ⟨c, hc⟩ : ∃ c, decide (mayP s k m) = c := ⟨_, rfl⟩
  have GX := Lib.hid (fun w (h : HoldsT w a n ws) => great_lit a n ca ws gx w h hn hs hgx)
  have VX := Lib.hid (fun w (h : HoldsT w a n ws) => good_lit a n ca ws vx w h hn hs hvx)
  have CM := Lib.hid (fun w => may_lit s k m c w hx hc)
  have EGX := Lib.hid hgx; have EVX := Lib.hid hvx; have EC := Lib.hid hc
  clear ha hs hgx hvx hc
  go_enter Try.func9, Try.ntmps9
  go_wp2_with fail
  generalize w.alloc (.cells #[.string s, .int .i64 k, .int .i64 m] 24) = w1 at *
  refine (GX.out _ HX.out.1).mono ?_
  rintro e w3 ⟨rfl, hb1⟩
  replace HX := Lib.hid (HX.out.below hb1)
  replace HQ := Lib.hid (box3q_carry HQ.out hb1)
  have B1 := Lib.hid (B0.out.trans (hb1.mono B0.out.size))
  clear hb1 B0
  cases gx with
  | true =>
    go_wp2_with fail
    refine (awake_any _).mono ?_
    rintro e w99 ⟨rfl, hb99⟩
    go_wp2_with fail
    go_ret
    exact ⟨rfl, B1.out.trans (hb99.mono B1.out.size)⟩
  | false =>
    obtain ⟨-, e0, e1, e2⟩ := HQ.out
    by_cases h100 : 100 < s.size
    · have h101 := h100
      go_wp2_with fail
      refine (awake_any _).mono ?_
      rintro e w99 ⟨rfl, hb99⟩
      go_wp2_with fail
      go_ret
      exact ⟨rfl, B1.out.trans (hb99.mono B1.out.size)⟩
    have h101 : s.size ≤ 100 := by omega
    clear h100
    go_wp2_with fail
    refine (CM.out _).mono ?_
    rintro e w4 ⟨rfl, hb2⟩
    replace HX := Lib.hid (HX.out.below hb2)
    replace HQ := Lib.hid (box3q_carry HQ.out hb2)
    have B2 := Lib.hid (B1.out.trans (hb2.mono B1.out.size))
    clear hb2 B1
    clear e0 e1 e2
    obtain ⟨-, e0, e1, e2⟩ := HQ.out
    cases c with
    | false =>
      go_wp2_with fail
      refine (awake_any _).mono ?_
      rintro e w99 ⟨rfl, hb99⟩
      go_wp2_with fail
      go_ret
      exact ⟨rfl, B2.out.trans (hb99.mono B2.out.size)⟩
    | true =>
      go_wp2_with fail
      refine (VX.out _ HX.out.1).mono ?_
      rintro e w5 ⟨rfl, hb3⟩
      replace HX := Lib.hid (HX.out.below hb3)
      replace HQ := Lib.hid (box3q_carry HQ.out hb3)
      have B3 := Lib.hid (B2.out.trans (hb3.mono B2.out.size))
      clear hb3 B2
      clear e0 e1 e2
      obtain ⟨-, e0, e1, e2⟩ := HQ.out
      by_cases hvx : vx = 0
      case neg =>
        have x1 : (vx != 0) = true := by simpa using hvx
        clear hvx
        go_wp2_with fail
        refine (awake_any _).mono ?_
        rintro e w99 ⟨rfl, hb99⟩
        go_wp2_with fail
        go_ret
        exact ⟨rfl, B3.out.trans (hb99.mono B3.out.size)⟩
      subst hvx
      obtain ⟨_, hsx⟩ := great_no_iff.1 EGX.out
      obtain ⟨hnx, _, SX⟩ := goodV_zero EVX.out
      have hmay : mayP s k m := of_decide_eq_true EC.out
      obtain ⟨hk0, hk4⟩ := hmay.1
      obtain ⟨hm1, hm10⟩ := hmay.2.1
      have QX := Lib.hid (show ∀ t ∈ ws, t.size ≤ 1048576 from fun t ht => by have := hsx t ht; omega)
      have MAY := Lib.hid hmay; have ES := Lib.hid SX; have LW := Lib.hid lws
      have hn60 : n ≤ 60 := by omega
      clear hsx hnx SX hmay lws
      go_wp2_with fail
      go_loopw [7, 8] (fun ov iv wr => ∃ (j : Nat) (P : List Tx) (av : Option Addr) (cv : Nat), j ≤ n ∧ P.length ≤ j ∧ iv = .int .i64 j ∧ ov = .slice av P.length cv ∧ Hid (P = (ws.take j).filter fun t => decide (distS t s ≤ k)) ∧ Hid (wr.ownsRow w5.heap.size 9 1 (.slice av P.length cv) P.length (strsV P)) ∧ Hid (Below w5.heap.size w5 wr)) (fun _ iv _ => n - (intOf iv).toNat)
      case atStart => exact ⟨0, [], none, 0, by omega, by simp, rfl, rfl, Lib.hid rfl, Lib.hid (World.ownsRow_nil _ _ _ _), Lib.hid (Below.refl _ _)⟩
      case round =>
        obtain ⟨j, P, av, cv, hj, hPl, rfl, rfl, hP, hO, hB⟩ := hrel
        clear e0 e1 e2
        have HXr := Lib.hid (HX.out.1.below hB.out)
        obtain ⟨-, e0, e1, e2⟩ := box3q_carry HQ.out hB.out
        by_cases hlt : j < n
        · obtain ⟨bb, o, rfl, hc'⟩ := HXr.out.at (by omega)
          have c0 := hc' j hlt
          have hmem := getD_memT ws j (by have := LW.out; omega)
          have htk := take_succ_getD ws ByteArray.empty j (by have := LW.out; omega)
          obtain ⟨y, hy⟩ : ∃ y, ws.getD j ByteArray.empty = y := ⟨_, rfl⟩
          rw [hy] at c0 hmem htk
          have QY := Lib.hid (QX.out y hmem)
          have ST := Lib.hid (filter_step hP.out htk)
          obtain ⟨d, hd⟩ : ∃ d, distS y s = d := ⟨_, rfl⟩
          have ED := Lib.hid hd
          have CD := Lib.hid (fun w => distanceR_lit y s d w QY.out (by omega) ED.out)
          have T := Lib.hid (show Box4w wr bb (o + j) w.heap.size (.string y) (.string s) (.int .i64 k) (.int .i64 m) wr from ⟨Below.refl _ _, c0, e0, e1, e2⟩)
          clear hc' hy hmem htk hd c0 e0 e1 e2
          obtain ⟨f, hf⟩ : ∃ f, decide (d ≤ k) = f := ⟨_, rfl⟩
          have EF := Lib.hid hf
          have x1 : (0 : Int) ≤ (j : Int) := by omega
          have x2 : (j : Int) < (n : Int) := by omega
          go_upto_region 7 with fail
          go_region_held3 (fun w' => Below wr.heap.size wr w' ∧ w'.cell? ⟨bb, o + j, none⟩ = some (.string y) ∧ w'.cell? ⟨w.heap.size, 0, none⟩ = some (.string s) ∧ w'.cell? ⟨w.heap.size, 1, none⟩ = some (.int .i64 k) ∧ w'.cell? ⟨w.heap.size, 2, none⟩ = some (.int .i64 m))
            (first | assumption | exact box4w_carry T.out (Below.refl _ _).drew | exact box4w_carry (by assumption) (by assumption))
            (first | (go_at_call 31; (with_reducible refine (CD.out _).mono ?_); rintro e w' ⟨rfl, hb⟩))
          rename_i T5
          obtain ⟨hbT, c0, e0, e1, e2⟩ := T5
          generalize w' = wt at *
          have Ot := Lib.hid (owns_below hO.out hbT)
          have Bt := Lib.hid (hB.out.trans (hbT.mono hB.out.size))
          clear T hO hbT hb
          cases f with
          | true =>
            have hST := ST.out
            rw [if_pos (by rw [ED.out]; exact EF.out)] at hST
            have HST := Lib.hid hST.symm
            clear hST e0 e1 e2
            go_wp2_with (at_builtin; refine wpList_append_any rfl (.tmp 48) (.tmp 53) 22 rfl w5.heap.size 9 is0 (.string ⟨#[]⟩) 1 16 Try.underlying22 his hzs0 hzs1 hzs2 rfl (by decide) _ P.length _ rfl (Ot.out.alloc _) _ 1 1 _ rfl (some_none _) rfl (one_new _ _ _ _) (one_str _) (by unfold maxLen; omega) (by omega) (by have := Bt.out.size; simp; omega) ?_; intro a3 c3 w3' hown3 hb3 hnil3)
            rw [← strsV_snoc] at hown3
            have O3 := Lib.hid hown3
            have B3' := Lib.hid ((Bt.out.alloc Bt.out.size _).trans hb3)
            clear hown3 hb3 hnil3
            go_roundw
            case rel => exact ⟨j + 1, P ++ [y], a3, c3, by omega, by simp; omega, by go_num, by simp, Lib.hid HST.out, Lib.hid (by have := O3.out; simpa using this), B3'⟩
            case measure => simp [intOf]; omega
          | false =>
            have hST := ST.out
            rw [if_neg (by rw [ED.out, EF.out]; simp), List.append_nil] at hST
            have HST := Lib.hid hST.symm
            clear hST e0 e1 e2 c0
            go_wp2_with fail
            go_roundw
            case rel => exact ⟨j + 1, P, av, cv, by omega, by omega, by go_num, rfl, HST, Ot, Bt⟩
            case measure => simp [intOf]; omega
        · obtain rfl : j = n := by omega
          have hPs : P = ws.filter fun t => decide (distS t s ≤ k) := by have := hP.out; rwa [List.take_of_length_le (by have := LW.out; omega)] at this
          have hT1 := top_some ws s k m
          rw [← hPs] at hT1
          have QP := Lib.hid (show ∀ t ∈ P, t.size ≤ 1048576 from fun t ht => by rw [hPs] at ht; exact QX.out t (List.mem_filter.1 ht).1)
          have lT := tops_len ws s k m
          have hWO := fun i => top_without ES.out s k m MAY.out i
          obtain ⟨ts, hts⟩ : ∃ z, topK ws s k m = z := ⟨_, rfl⟩
          rw [hts] at hT1 lT
          simp only [hts] at hWO
          obtain ⟨LT, hLT⟩ : ∃ z, ts.length = z := ⟨_, rfl⟩
          rw [hLT] at lT
          simp only [hLT] at hWO
          have E1 := Lib.hid hts; have E2 := Lib.hid hT1; have E3 := Lib.hid hLT; have E4 := Lib.hid hWO
          have HPk := Lib.hid (HoldsT.own hO.out)
          have HY := Lib.hid (HX.out.below hB.out)
          have HR := Lib.hid (box3q_carry HQ.out hB.out)
          have B5 := Lib.hid (B3.out.trans (hB.out.mono B3.out.size))
          have hLT60 : LT ≤ 60 := by have := LW.out; omega
          have hP60 : P.length ≤ 60 := by omega
          clear hPs hT1 lT hWO hts hLT hP hO hB HX HQ HXr B3
          obtain ⟨L0, hL0⟩ : ∃ z, P.length = z := ⟨_, rfl⟩
          rw [hL0] at HPk hP60 hPl
          simp only [hL0]
          have NP := Lib.hid hL0
          clear hL0
          have HYT := Lib.hid HY.out.1
          go_wp2_with fail
          refine (top_lit a j ca LT ws s k m ts _ HYT.out (by omega) QX.out (by omega) E1.out E3.out).mono ?_
          rintro e w6 ⟨a6, c6, rfl, o6, hb6⟩
          replace HY := Lib.hid (HY.out.below hb6)
          replace HYT := Lib.hid (HYT.out.below hb6)
          replace HR := Lib.hid (box3q_carry HR.out hb6)
          replace HPk := Lib.hid (HPk.out.below hb6)
          have B6 := Lib.hid (B5.out.trans (hb6.mono B5.out.size))
          clear hb6 B5
          have OT := Lib.hid o6
          have HT := Lib.hid (HoldsK.own o6)
          clear o6 e0 e1 e2
          obtain ⟨-, e0, e1, e2⟩ := HR.out
          go_wp2_with fail
          refine (top_lit av L0 cv LT P s k m ts _ HPk.out (by omega) QP.out (by omega) E2.out E3.out).mono ?_
          rintro e w7 ⟨a7, c7, rfl, o7, hb7⟩
          replace OT := Lib.hid (owns_below OT.out hb7)
          replace HY := Lib.hid (HY.out.below hb7)
          replace HYT := Lib.hid (HYT.out.below hb7)
          replace HR := Lib.hid (box3q_carry HR.out hb7)
          replace HPk := Lib.hid (HPk.out.below hb7)
          replace HT := Lib.hid (HT.out.below hb7)
          have B7 := Lib.hid (B6.out.trans (hb7.mono B6.out.size))
          clear hb7 B6
          have H7 := Lib.hid (HoldsK.own o7)
          clear o7 e0 e1 e2
          go_wp2_with fail
          refine (sameItems_yes a7 a6 LT c7 c6 ts _ H7.out HT.out (by omega)).mono ?_
          rintro e w8 ⟨rfl, hb8⟩
          replace OT := Lib.hid (owns_below OT.out hb8)
          replace HY := Lib.hid (HY.out.below hb8)
          replace HYT := Lib.hid (HYT.out.below hb8)
          replace HR := Lib.hid (box3q_carry HR.out hb8)
          replace HPk := Lib.hid (HPk.out.below hb8)
          replace HT := Lib.hid (HT.out.below hb8)
          have B8 := Lib.hid (B7.out.trans (hb8.mono B7.out.size))
          clear hb8 B7
          clear H7
          by_cases hz : LT = 0
          · subst hz
            go_wp2_with fail
            refine (awake_any _).mono ?_
            rintro e w99 ⟨rfl, hb99⟩
            go_wp2_with fail
            go_ret
            exact ⟨rfl, B8.out.trans (hb99.mono B8.out.size)⟩
          have hlz : 0 < LT := by omega
          have x1 : ((LT : Int) == 0) = false := by simp; omega
          obtain ⟨i, hi0⟩ : ∃ i : Nat, lowV x LT = (i : Int) := ⟨(lowV x LT).toNat, by have := low_bd x LT (by omega); omega⟩
          have hiLT : i < LT := by have := low_bd x LT (by omega); omega
          have CL := Lib.hid (fun w => hi0 ▸ low_any x LT (by omega) (by omega) w)
          go_wp2_with fail
          refine (CL.out _).mono ?_
          rintro e w9 ⟨rfl, rfl⟩
          obtain ⟨bt, ot, rfl, hct⟩ := HT.out.at hlz
          obtain ⟨-, c1⟩ := hct i hiLT
          have E5 := Lib.hid (E4.out i hiLT)
          obtain ⟨z, hzz⟩ : ∃ z, ts.getD i k0 = z := ⟨_, rfl⟩
          rw [hzz] at c1 E5
          obtain ⟨z1, z2⟩ := z
          simp only at c1 E5
          obtain ⟨us, hus⟩ : ∃ z, lessOf ws [z2] = z := ⟨_, rfl⟩
          obtain ⟨NU, hNU⟩ : ∃ z, us.length = z := ⟨_, rfl⟩
          have lU := lessOf_len ws [z2]
          rw [hus, hNU] at lU
          have QU := Lib.hid (show ∀ t ∈ us, t.size ≤ 1048576 from fun t ht => by rw [← hus] at ht; exact QX.out t (List.mem_filter.1 ht).1)
          have lT := tops_len us s k m
          rw [hNU] at lT
          rw [hus] at E5
          obtain ⟨u, hu⟩ : ∃ z, topK us s k m = z := ⟨_, rfl⟩
          rw [hu] at lT E5
          obtain ⟨LU, hLU⟩ : ∃ z, u.length = z := ⟨_, rfl⟩
          rw [hLU] at lT
          have P1 := prefix_at E5.out
          rw [hLU, List.length_append, List.length_take, List.length_drop, E3.out, Nat.min_eq_left (by omega)] at P1
          obtain ⟨LR, hLR⟩ : ∃ z, i + (LT - (i + 1)) = z := ⟨_, rfl⟩
          rw [hLR] at P1
          obtain ⟨P1a, P1b⟩ := P1
          have PU := Lib.hid P1b
          have F1 := Lib.hid hus; have F2 := Lib.hid hNU; have F3 := Lib.hid hu; have F4 := Lib.hid hLU; have F5 := Lib.hid hLR
          have hNU60 : NU ≤ 60 := by have := LW.out; omega
          have hLU60 : LU ≤ 60 := by omega
          have hLR60 : LR ≤ 60 := by omega
          have T := Lib.hid (show Box4w w8 bt (ot + i * 2 + 1) w.heap.size (.string z2) (.string s) (.int .i64 k) (.int .i64 m) w8 from ⟨Below.refl _ _, c1, HR.out.2⟩)
          have y1 : (0 : Int) ≤ (i : Int) := by omega
          have y2 : (i : Int) < (LT : Int) := by omega
          have HI := Lib.hid hi0
          clear hct hzz hus hNU lU lT hu hLU P1b hLR c1 x1 hz hi0 E5
          go_upto_region 15 with fail
          go_region_held3 (fun w' => Below w8.heap.size w8 w' ∧ w'.cell? ⟨bt, ot + i * 2 + 1, none⟩ = some (.string z2) ∧ w'.cell? ⟨w.heap.size, 0, none⟩ = some (.string s) ∧ w'.cell? ⟨w.heap.size, 1, none⟩ = some (.int .i64 k) ∧ w'.cell? ⟨w.heap.size, 2, none⟩ = some (.int .i64 m))
            (first | assumption | exact box4w_carry T.out (Below.refl _ _).drew | exact box4w_carry (by assumption) (by assumption) | exact box4w_carry (by assumption) (below_one _ _))
            (first
              | (go_at_call 34; (with_reducible refine (without_lst a j ca ws _ 1 1 [z2] us NU _ (HY.out.below (And.left (by assumption))) (one_lst_d _ _ _ _) (by omega) (by omega) (one_sorted _) F1.out F2.out).mono ?_); rintro e w' ⟨a10, c10, rfl, o10, hb10⟩)
              | (go_at_call 14; (with_reducible refine (top_lit a10 NU c10 LU us s k m u _ (HoldsT.own o10) (by omega) QU.out (by omega) F3.out F4.out).mono ?_); rintro e w' ⟨a11, c11, rfl, o11, hb11⟩))
          rename_i T5
          have hbT := T5.1
          clear T T5
          generalize w' = w10 at *
          have OT10 := Lib.hid (owns_below OT.out hbT)
          have HTb := HoldsK.own OT10.out
          have HTK := Lib.hid (HTb.take i (by omega))
          have HDK := Lib.hid (HTb.drop (i + 1) (by omega))
          have HU := Lib.hid (show HoldsK w10 a11 LR (ts.take i ++ ts.drop (i + 1)) from by have := HoldsK.own (owns_take o11 LR (by omega)); rwa [PU.out] at this)
          have hc11 : LR ≤ c11 := Nat.le_trans P1a (owns_none o11).2
          have hc6 := (owns_none OT10.out).2
          have B10 := Lib.hid (B8.out.trans (hbT.mono B8.out.size))
          have lk1 := Lib.hid (show (keysV (ts.take i)).length = i * 2 by rw [keysV_len, List.length_take, E3.out, Nat.min_eq_left (by omega)])
          have lk2 := Lib.hid (show (keysV (ts.drop (i + 1))).length = (LT - (i + 1)) * 2 by rw [keysV_len, List.length_drop, E3.out])
          have hRU := Lib.hid P1a
          clear HTb o10 hb10 o11 hb11 hbT OT OT10 HY HYT HR HPk HT B8 P1a
          have q1 : IntKind.i64.wrap ((i : Int) + 1) = (i : Int) + 1 := IntWalk.i64_in _ (by omega)
          have q2 : (i : Int) + 1 ≤ (LT : Int) := by omega
          have q3 : (0 : Int) ≤ (i : Int) + 1 := by omega
          have q4 : ((i : Int) + 1).toNat = i + 1 := by omega
          have q5 : (i : Int) ≤ (c6 : Int) := by omega
          have q6 : (LT : Int) ≤ (c6 : Int) := by omega
          have q7 : (i : Int) + 1 ≤ (c6 : Int) := by omega
          have q8 : i ≤ c6 := by omega
          have q9 : LT ≤ c6 := hc6
          have q10 : i + 1 ≤ LT := by omega
          by_cases hce : c6 = i + 1
          · have hLTi : LT = i + 1 := by omega
            have Q12 := Lib.hid (show c6 - (i + 1) = 0 by omega)
            have Q13 := Lib.hid (show LT - (i + 1) = 0 by omega)
            clear lk2 HDK
            have G2 := Lib.hid (show ts.drop (i + 1) = [] from List.drop_eq_nil_of_le (by have := E3.out; omega))
            have HCE := Lib.hid hce
            clear hce hLTi
            go_upto_region 16 with fail
            go_region_held3 (fun w' => Below w10.heap.size w10 w')
              (first | exact Below.refl _ _ | exact (Below.refl _ _).drew | assumption | exact (Below.trans (by assumption) (by assumption)) | exact ((Below.refl _ _).drew.trans (by assumption)))
              (first
                | (refine wp_append_first (.const (.slice none 0 0)) (.tmp 84) 28 rfl 37 i0 (.agg #[.int .i64 0, .string ⟨#[]⟩]) 2 24 Try.underlying28 hi hz0 hz1 hz2 rfl (by decide) rfl (some ⟨bt, ot, none⟩) i c6 (keysV (ts.take i)) rfl (some_none _) lk1.out (HoldsK.cellsAt (HTK.out.below (by first | assumption | exact Below.refl _ _ | exact (Below.refl _ _).drew))) (keysV_one _) (by unfold maxLen; omega) (by omega) ?_; intro a12 c12 w12 o12 hb12)
                | (refine wp_append_n (.tmp 85) (.tmp 89) 28 rfl _ 37 i0 (.agg #[.int .i64 0, .string ⟨#[]⟩]) 2 24 Try.underlying28 hi hz0 hz1 hz2 rfl (by decide) (.slice a12 i c12) i (keysV (ts.take i)) rfl o12 _ _ _ [] rfl (iteR_none _ _) (by have := Q13.out; simp <;> omega) (by intro ad _ j u h; simp at h) (by simp) LR (by have := F5.out; omega) (by unfold maxLen; omega) (by omega) hb12.size ?_; intro a13 c13 w13 o13 hb13))
            rename_i T5
            have OR := Lib.hid o13
            have hb13' := T5
            rw [List.append_nil] at o13
            have o13 := show w13.ownsRow _ _ _ _ _ (keysV (ts.take i) ++ keysV (ts.drop (i + 1))) from by rw [G2.out, show keysV ([] : List KV) = [] from rfl, List.append_nil]; exact o13
            replace OR := Lib.hid o13
            have B11 := Lib.hid (B10.out.trans (T5.mono B10.out.size))
            have HU14 := Lib.hid (HU.out.below T5)
            have HR14 := Lib.hid (HoldsK.own (ks := ts.take i ++ ts.drop (i + 1)) (by rw [keysV_app]; exact OR.out))
            clear hb12 o12 o13 hb13 T5 hb13' OR HU HTK B10 q1 q3 q4
            have hd1 : decide (LR ≤ LU) = true := by simpa using hRU.out
            go_wp2_with fail
            refine (sameItems_yes a11 a13 LR c11 c13 _ _ HU14.out HR14.out (by omega)).mono ?_
            rintro e w15 ⟨rfl, hb15⟩
            have B15 := Lib.hid (B11.out.trans (hb15.mono B11.out.size))
            clear hb15
            go_wp2_with fail
            refine (awake_any _).mono ?_
            rintro e w99 ⟨rfl, hb99⟩
            go_wp2_with fail
            go_ret
            exact ⟨rfl, B15.out.trans (hb99.mono B15.out.size)⟩
          · have q11 : i + 1 < c6 := by omega
            have q12 : ¬ c6 = i + 1 := by omega
            clear hce
            go_upto_region 16 with fail
            go_region_held3 (fun w' => Below w10.heap.size w10 w')
              (first | exact Below.refl _ _ | exact (Below.refl _ _).drew | assumption | exact (Below.trans (by assumption) (by assumption)) | exact ((Below.refl _ _).drew.trans (by assumption)))
              (first
                | (refine wp_append_first (.const (.slice none 0 0)) (.tmp 84) 28 rfl 37 i0 (.agg #[.int .i64 0, .string ⟨#[]⟩]) 2 24 Try.underlying28 hi hz0 hz1 hz2 rfl (by decide) rfl (some ⟨bt, ot, none⟩) i c6 (keysV (ts.take i)) rfl (some_none _) lk1.out (HoldsK.cellsAt (HTK.out.below (by first | assumption | exact Below.refl _ _ | exact (Below.refl _ _).drew))) (keysV_one _) (by unfold maxLen; omega) (by omega) ?_; intro a12 c12 w12 o12 hb12)
                | (refine wp_append_n (.tmp 85) (.tmp 89) 28 rfl _ 37 i0 (.agg #[.int .i64 0, .string ⟨#[]⟩]) 2 24 Try.underlying28 hi hz0 hz1 hz2 rfl (by decide) (.slice a12 i c12) i (keysV (ts.take i)) rfl o12 (some ⟨bt, ot + (i + 1) * 2, none⟩) (LT - (i + 1)) (c6 - (i + 1)) (keysV (ts.drop (i + 1))) rfl (some_none _) lk2.out (HoldsK.cellsAt (HDK.out.below (by first | assumption | exact ((Below.refl _ _).drew.trans hb12) | exact hb12))) (keysV_one _) LR F5.out (by unfold maxLen; omega) (by omega) hb12.size ?_; intro a13 c13 w13 o13 hb13))
            rename_i T5
            have OR := Lib.hid o13
            have hb13' := T5
            have B11 := Lib.hid (B10.out.trans (T5.mono B10.out.size))
            have HU14 := Lib.hid (HU.out.below T5)
            have HR14 := Lib.hid (HoldsK.own (ks := ts.take i ++ ts.drop (i + 1)) (by rw [keysV_app]; exact OR.out))
            clear hb12 o12 o13 hb13 T5 hb13' OR HU HTK B10 q1 q3 q4
            have hd1 : decide (LR ≤ LU) = true := by simpa using hRU.out
            go_wp2_with fail
            refine (sameItems_yes a11 a13 LR c11 c13 _ _ HU14.out HR14.out (by omega)).mono ?_
            rintro e w15 ⟨rfl, hb15⟩
            have B15 := Lib.hid (B11.out.trans (hb15.mono B11.out.size))
            clear hb15
            go_wp2_with fail
            refine (awake_any _).mono ?_
            rintro e w99 ⟨rfl, hb99⟩
            go_wp2_with fail
            go_ret
            exact ⟨rfl, B15.out.trans (hb99.mono B15.out.size)⟩
open Go.ChangeShapes Go.WideShapes Go.ChangeAt in
theorem rankFar_walk {H : Type} {enc : TypeId × Value → H} (W : World) (base : Nat) (v0 v1 v2 : Value) (d0 d1 d2 : DataW H) (p0 p1 p2 : List MemPlace)
    (h0 : DataW.Trod enc Try.prog W 0 (fun _ => true) true 22 v0 d0 p0) (h1 : DataW.Trod enc Try.prog W 0 (fun _ => true) true 24 v1 d1 p1) (h2 : DataW.Trod enc Try.prog W 0 (fun _ => true) true 3 v2 d2 p2)
    (o0 : Value.okWide Try.prog W .any base 22 v0) (o1 : Value.okWide Try.prog W .any base 24 v1) (o2 : Value.okWide Try.prog W .any base 3 v2) :
    Calls Try.prog 9 #[v0, v1, v2] W fun e w' => e = .returned (.bool true) ∧ RowKit.Below W.heap.size W w' := by
  obtain ⟨a0, n0, c0, k0, rfl, x0, y0, z0, b0, s0⟩ := open_texts_arg o0 h0
  obtain ⟨t, k, n, ht, _, _, rfl⟩ := query_arg o1 h1
  obtain ⟨x2, rfl, rfl, rfl, b2⟩ := open_int Try.underlying3 o2 h2
  exact rankFar_law a0 n0 c0 k0 t k n x2 W ⟨x0, y0, z0⟩ b0 s0 ht
end Go.Proofs.Ytioegheehodndaa
