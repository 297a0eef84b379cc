/- texts joined -/
import Derived.Test.YtodoflmgnljahaaPkB
import Derived.Test.YtodoflmgnljahaaPkA
/- timers: those that are due: the law -/
namespace Go.Proofs.Ytodoflmgnljahaa
open Go.RowKit
set_option linter.unusedVariables false
set_option maxRecDepth 20000
theorem ids_get {X R : List TM} {i : Nat} (hi : i < X.length) : ((X ++ R).map TM.id).getD i 0 = (gT X i).id := by
  rw [List.map_append, List.getD_eq_getElem?_getD, List.getElem?_append_left (by simpa using hi)]
  simp [gT, List.getD_eq_getElem?_getD, List.getElem?_eq_getElem hi]
theorem ids_get0 {X : List TM} {i : Nat} (hi : i < X.length) : (X.map TM.id).getD i 0 = (gT X i).id := by
  have := ids_get (R := []) hi
  rwa [List.append_nil] at this
theorem take_int (l : List Int) (i : Nat) (h : i < l.length) : l.take (i + 1) = l.take i ++ [l.getD i 0] := by
  rw [List.take_add_one, List.getElem?_eq_getElem h, List.getD_eq_getElem?_getD, List.getElem?_eq_getElem h]; rfl
set_option maxHeartbeats 3200000 in
set_option maxRecDepth 100000 in
theorem timerDue_any (a : Option Addr) (n cap : Nat) (zs : List Int) (now later : Int) (w : World) (hh : HoldsI .i64 w a n zs) (hn : n ≤ 9223372036854775807) :
    Calls Try.prog 4 #[.slice a n cap, .int .i64 now, .int .i64 later] w fun e w' => e = .returned (.bool true) ∧ Below w.heap.size w w' := by
  have AW := Lib.hid (fun w => awakeT_any w)
  by_cases q1 : 24 < n
  · have d1 : decide ((24 : Int) < (n : Int)) = true := decide_eq_true (by omega)
    clear hh
    go_enter Try.func4, Try.ntmps4
    go_wp2_with fail
    refine (AW.out _).mono ?_
    rintro e w' ⟨rfl, hb⟩
    have B1 := Lib.hid hb
    clear hb
    go_wp2_with fail
    go_ret
    exact ⟨rfl, B1.out⟩
  have d1 : decide ((24 : Int) < (n : Int)) = false := decide_eq_false (by omega)
  have n24 : n ≤ 24 := by omega
  have HH := Lib.hid hh
  have HL := Lib.hid hh.len
  obtain ⟨A, hA⟩ : ∃ A, zs.map (fun x => lowV x 100) = A := ⟨_, rfl⟩
  have AL := Lib.hid (show A.length = n from by rw [← hA, List.length_map, HL.out])
  have AB := Lib.hid (show ∀ i, i < n → A.getD i 0 = lowV (zs.getD i 0) 100 from fun i hi => by
    have := HL.out
    rw [← hA]; simp [List.getD_eq_getElem?_getD, List.getElem?_eq_getElem (show i < zs.length by omega)])
  obtain ⟨nw, hnw⟩ : ∃ x, lowV now 100 = x := ⟨_, rfl⟩
  have nb := low_bd now 100 (by omega)
  rw [hnw] at nb
  obtain ⟨nb1, nb2⟩ := nb
  obtain ⟨lt, hlt0⟩ : ∃ x, lowV later 50 = x := ⟨_, rfl⟩
  have lb := low_bd later 50 (by omega)
  rw [hlt0] at lb
  obtain ⟨lb1, lb2⟩ := lb
  have CL1 := Lib.hid (fun w => low_any now 100 (by omega) (by omega) w)
  have CL2 := Lib.hid (fun w => low_any later 50 (by omega) (by omega) w)
  rw [hnw] at CL1
  rw [hlt0] at CL2
  clear hh hA hnw hlt0 q1
  go_enter Try.func4, Try.ntmps4
  go_wp2_with fail
  refine (new_c (w0 := w) 24 w (Below.refl _ _) (by decide)).mono ?_
  rintro e w1 ⟨b, S, rfl, C, -⟩
  have C1 := Lib.hid C
  clear C
  go_wp2_with fail
  refine (CL1.out _).mono ?_
  rintro e w2 ⟨rfl, rfl⟩
  go_wp2_with fail
  go_loopw [9, 10] (fun cv iv wr => ∃ (j : Nat) (cn : Nat) (S' : Nat → Prop), j ≤ n ∧ cn ≤ j ∧ cv = .int .i64 cn ∧ iv = .int .i64 j ∧ Hid (cn = (A.take j).countP (fun a => decide (a ≤ nw))) ∧ Hid (CtxT w wr b 24 (numT 0 (A.take j)) S')) (fun _ iv _ => n - (intOf iv).toNat)
  case atStart => exact ⟨0, 0, S, by omega, by omega, rfl, rfl, Lib.hid (by simp), Lib.hid C1.out⟩
  case round =>
    obtain ⟨j, cn, S', hj, hcj, rfl, rfl, hN, hC⟩ := hrel
    by_cases hlt : j < n
    · obtain ⟨ab, ao, rfl, hcc⟩ := (HH.out.below hC.out.b_).at (by omega)
      have x0 := hcc j hlt
      obtain ⟨z, hz⟩ : ∃ z, zs.getD j 0 = z := ⟨_, rfl⟩
      rw [hz] at x0
      obtain ⟨y, hy⟩ : ∃ y, lowV z 100 = y := ⟨_, rfl⟩
      have yb := low_bd z 100 (by omega)
      rw [hy] at yb
      obtain ⟨yb1, yb2⟩ := yb
      obtain ⟨u, hu⟩ : ∃ u, lowV y 7 = u := ⟨_, rfl⟩
      have ub := low_bd y 7 (by omega)
      rw [hu] at ub
      obtain ⟨ub1, ub2⟩ := ub
      have CZ := Lib.hid (fun w => low_any z 100 (by omega) (by omega) w)
      have CU := Lib.hid (fun w => low_any y 7 (by omega) (by omega) w)
      rw [hy] at CZ
      rw [hu] at CU
      have TK := Lib.hid (show A.take (j + 1) = A.take j ++ [y] from by rw [take_int A j (by rw [AL.out]; exact hlt), AB.out j hlt, hz, hy])
      have TL := Lib.hid (show (A.take j).length = j from by rw [List.length_take, AL.out]; omega)
      have n1 : (0 : Int) ≤ (j : Int) := by omega
      have n2 : (j : Int) < (n : Int) := by omega
      have SN := set_new (l := A.take j) (x := u) (by rw [TL.out]; omega) ⟨ub1, by omega⟩
      have SM := set_more (l := A.take j) (x := u) (a := y) ⟨yb1, by omega⟩
      rw [TL.out] at SN SM
      rw [← TK.out] at SM
      have CS := Lib.hid (set_c (j : Int) u 0 _ wr hC.out (by decide) SN.1 SN.2)
      have SMH := Lib.hid SM
      clear hcc hz hy hu SN SM
      go_wp2_with fail
      refine (CZ.out _).mono ?_
      rintro e w3 ⟨rfl, rfl⟩
      go_wp2_with fail
      refine (CU.out _).mono ?_
      rintro e w3 ⟨rfl, rfl⟩
      go_wp2_with fail
      refine CS.out.mono ?_
      rintro e w3 ⟨rfl, S3, C3⟩
      have CM := Lib.hid (set_c (j : Int) y 0 _ w3 C3 (by decide) SMH.out.1 SMH.out.2)
      clear CS C3
      go_wp2_with fail
      refine CM.out.mono ?_
      rintro e w4 ⟨rfl, S4, C4⟩
      have D4 := Lib.hid C4
      clear CM C4
      by_cases hle : y ≤ nw
      · have d2 : decide (y ≤ nw) = true := decide_eq_true hle
        have N2 := Lib.hid (show cn + 1 = (A.take (j + 1)).countP (fun a => decide (a ≤ nw)) from by rw [TK.out, List.countP_append, ← hN.out]; simp [hle])
        clear hle
        go_wp2_with fail
        go_roundw
        case rel => exact ⟨j + 1, cn + 1, S4, by omega, by omega, by go_num, by go_num, N2, D4⟩
        case measure => simp [intOf] <;> omega
      · have d2 : decide (y ≤ nw) = false := decide_eq_false hle
        have N2 := Lib.hid (show cn = (A.take (j + 1)).countP (fun a => decide (a ≤ nw)) from by rw [TK.out, List.countP_append, ← hN.out]; simp [hle])
        clear hle
        go_wp2_with fail
        go_roundw
        case rel => exact ⟨j + 1, cn, S4, by omega, by omega, rfl, by go_num, N2, D4⟩
        case measure => simp [intOf] <;> omega
    · obtain rfl : j = n := by omega
      have TA : A.take j = A := List.take_of_length_le (by rw [AL.out]; omega)
      rw [TA] at hN hC
      have ND := Lib.hid (numT_nodup A 0)
      have MLen := Lib.hid (numT_len A 0)
      have CNT := Lib.hid (show (dueX (numT 0 A) nw).length = cn from by unfold dueX; rw [(sort_perm _).length_eq, numT_due, hN.out])
      obtain ⟨R, hR⟩ := due_more (numT 0 A) nw (nw + lt) (by omega)
      have CD1 := Lib.hid (fun (w' : World) (c : CtxT w w' b 24 (numT 0 A) S') => due_c nw ((dueX (numT 0 A) nw).map TM.id) w' c rfl)
      have CD2 := Lib.hid (fun (w' : World) (c : CtxT w w' b 24 (numT 0 A) S') => due_c (nw + lt) ((dueX (numT 0 A) nw ++ R).map TM.id) w' c (by rw [← hR]; rfl))
      have DA := Lib.hid (fun (i : Nat) (hi : i < (dueX (numT 0 A) nw).length) => due_at hi)
      have DN := Lib.hid (fun (i : Nat) (hi : i + 1 < (dueX (numT 0 A) nw).length) => due_next ND.out hi)
      generalize numT 0 A = M at *
      generalize dueX M nw = X at *
      unfold DueP at CD1 CD2
      rw [List.length_map, CNT.out] at CD1
      rw [List.length_map, List.length_append, CNT.out] at CD2
      obtain ⟨rl, hrl⟩ : ∃ r, R.length = r := ⟨_, rfl⟩
      rw [hrl] at CD2
      have RL := Lib.hid hrl
      have ML := Lib.hid (show (M.length : Int) = (j : Int) from by rw [MLen.out, AL.out])
      clear hR hrl hlt TA
      go_wp2_with fail
      refine (CD1.out wr hC.out).mono ?_
      rintro e w2 ⟨da, dc, rfl, hd, hb⟩
      have H2 := Lib.hid hd
      have C2 := Lib.hid (hC.out.more hb)
      clear hd hb
      go_wp2_with fail
      refine (CL2.out _).mono ?_
      rintro e w3 ⟨rfl, rfl⟩
      go_wp2_with fail
      refine (CD2.out w2 C2.out).mono ?_
      rintro e w3 ⟨ma, mc, rfl, hd, hb⟩
      have M3 := Lib.hid hd
      have H3 := Lib.hid (H2.out.below hb)
      have C3 := Lib.hid (C2.out.more hb)
      have e1 : decide (((cn : Int) + (rl : Int)) < (cn : Int)) = false := decide_eq_false (by omega)
      have e2 : decide (((cn + rl : Nat) : Int) < (cn : Int)) = false := decide_eq_false (by omega)
      clear hd hb C2 H2 CD1 CD2
      go_wp2_with fail
      refine (lenT_c (j : Int) w3 C3.out ML.out).mono ?_
      rintro e w4 ⟨rfl, rfl⟩
      go_wp2_with fail
      go_loopw [14] (fun iv wr => ∃ (i : Nat), i ≤ cn ∧ iv = .int .i64 i ∧ Hid (CtxT w wr b 24 M S') ∧ Hid (HoldsI .i64 wr da cn (X.map TM.id)) ∧ Hid (HoldsI .i64 wr ma (cn + rl) ((X ++ R).map TM.id))) (fun iv _ => cn - (intOf iv).toNat)
      case atStart => exact ⟨0, by omega, rfl, C3, H3, M3⟩
      case round =>
        obtain ⟨i, hi, rfl, hC5, hH5, hM5⟩ := hrel
        by_cases hin : i < cn
        · obtain ⟨db, do_, rfl, hdc⟩ := hH5.out.at (by omega)
          obtain ⟨mb, mo, rfl, hmc⟩ := hM5.out.at (by omega)
          have hix : i < X.length := by rw [CNT.out]; exact hin
          have x0 := hdc i hin
          have y0 := hmc i (by omega)
          rw [ids_get0 hix] at x0
          rw [ids_get hix] at y0
          obtain ⟨hx1, hx2⟩ := DA.out i hix
          obtain ⟨x, hx⟩ : ∃ x, gT X i = x := ⟨_, rfl⟩
          rw [hx] at x0 y0 hx1 hx2
          have HX := Lib.hid hx
          have HX1 := Lib.hid hx1
          have n1 : (0 : Int) ≤ (i : Int) := by omega
          have n2 : (i : Int) < (cn : Int) := by omega
          have n3 : (i : Int) < (cn : Int) + (rl : Int) := by omega
          have n4 : (i : Int) < ((cn + rl : Nat) : Int) := by omega
          have d3 : decide (nw < x.at_) = false := decide_eq_false (by omega)
          have e5 : (x.id != x.id) = false := by simp
          have KD := Lib.hid (fun (w6 : World) (hb : Below wr.heap.size wr w6) => show w6.cell? ⟨db, do_ + i, none⟩ = some (.int .i64 x.id) ∧ w6.cell? ⟨mb, mo + i, none⟩ = some (.int .i64 x.id) from ⟨(hb.cell (p := ⟨db, do_ + i, none⟩) (lt_of_cell x0)).trans x0, (hb.cell (p := ⟨mb, mo + i, none⟩) (lt_of_cell y0)).trans y0⟩)
          clear hx hx1 hdc hmc
          go_wp2_with fail
          refine (tAt_any b 24 M x.id S' wr hC5.out.Q).mono ?_
          rintro e w6 ⟨v, c, rfl, hat, hb⟩
          obtain ⟨rfl, rfl⟩ := at_one ND.out HX1.out hat
          have C6 := Lib.hid (hC5.out.more hb)
          have H6 := Lib.hid (hH5.out.below hb)
          have M6 := Lib.hid (hM5.out.below hb)
          obtain ⟨k1, k2⟩ := KD.out w6 hb
          clear hat hb hC5 hH5 hM5 x0 y0 KD
          rcases Nat.eq_zero_or_pos i with hz | hz
          · have d4 : decide ((i : Int) > 0) = false := decide_eq_false (by omega)
            have d5 : decide ((0 : Int) < (i : Int)) = false := decide_eq_false (by omega)
            have d6 : decide (0 < i) = false := decide_eq_false (by omega)
            clear hz
            go_wp2_with fail
            go_quiet (fail)
            go_wp2_with fail
            go_roundw
            case rel => exact ⟨i + 1, by omega, by go_num, Lib.hid (C6.out.more (below_drewN _ _)), Lib.hid (H6.out.below (below_drewN _ _)), Lib.hid (M6.out.below (below_drewN _ _))⟩
            case measure => simp [intOf] <;> omega
          · obtain ⟨k, rfl⟩ : ∃ k, i = k + 1 := ⟨i - 1, by omega⟩
            have hkx : k + 1 < X.length := by rw [CNT.out]; exact hin
            have hnext := DN.out k hkx
            rw [HX.out] at hnext
            obtain ⟨hp1, hp2⟩ := DA.out k (by omega)
            have pcell := (H6.out.at (by omega))
            obtain ⟨db2, do2, hdd, hdc2⟩ := pcell
            injection hdd with hdd; injection hdd with hd1 hd2; subst hd1; subst hd2
            have z0 := hdc2 k (by omega)
            rw [ids_get0 (by omega)] at z0
            obtain ⟨p, hp⟩ : ∃ p, gT X k = p := ⟨_, rfl⟩
            rw [hp] at z0 hnext hp1
            have d4 : decide (((k + 1 : Nat) : Int) > 0) = true := decide_eq_true (by omega)
            have d5 : decide ((0 : Int) < (k : Int) + 1) = true := decide_eq_true (by omega)
            have HP1 := Lib.hid hp1
            have n5 : (0 : Int) ≤ (k : Int) := by omega
            have n6 : (k : Int) < (cn : Int) := by omega
            have KD := Lib.hid (fun (w7 : World) (hb : Below w6.heap.size w6 w7) => show w7.cell? ⟨db, do_ + (k + 1), none⟩ = some (.int .i64 x.id) ∧ w7.cell? ⟨db, do_ + k, none⟩ = some (.int .i64 p.id) from ⟨(hb.cell (p := ⟨db, do_ + (k + 1), none⟩) (lt_of_cell k1)).trans k1, (hb.cell (p := ⟨db, do_ + k, none⟩) (lt_of_cell z0)).trans z0⟩)
            clear hp hp1 hp2 hdc2
            go_wp2_with fail
            go_quiet (fail)
            go_wp2_with fail
            refine (tAt_any b 24 M p.id S' _ (C6.out.more (below_drewN _ _)).Q).mono ?_
            rintro e w7 ⟨v, c, rfl, hat, hb⟩
            obtain ⟨rfl, rfl⟩ := at_one ND.out HP1.out hat
            have hb7 : Below w6.heap.size w6 w7 := (below_drewN w6 _).trans (hb.mono (below_drewN w6 _).size)
            have C7 := Lib.hid (C6.out.more hb7)
            have H7 := Lib.hid (H6.out.below hb7)
            have M7 := Lib.hid (M6.out.below hb7)
            obtain ⟨l1, l2⟩ := KD.out w7 hb7
            clear hat hb hb7 C6 H6 M6 k1 k2 z0 KD
            rcases hnext with hq | ⟨hq, hq2⟩
            · have d6 : decide (x.at_ < p.at_) = false := decide_eq_false (by omega)
              have d7 : (p.at_ == x.at_) = false := by rw [beq_eq_false_iff_ne]; omega
              clear hq
              go_wp2_with fail
              go_quiet (fail)
              go_wp2_with fail
              go_roundw
              case rel => exact ⟨k + 1 + 1, by omega, by go_num, Lib.hid (C7.out.more (below_drewN _ _)), Lib.hid (H7.out.below (below_drewN _ _)), Lib.hid (M7.out.below (below_drewN _ _))⟩
              case measure => simp [intOf] <;> omega
            · have d6 : decide (x.at_ < p.at_) = false := decide_eq_false (by omega)
              have d7 : (p.at_ == x.at_) = true := by rw [beq_iff_eq]; exact hq
              have d8 : decide (p.id ≥ x.id) = false := decide_eq_false (by omega)
              have d9 : decide (x.id ≤ p.id) = false := decide_eq_false (by omega)
              clear hq hq2
              go_wp2_with fail
              go_quiet (fail)
              go_wp2_with fail
              go_roundw
              case rel => exact ⟨k + 1 + 1, by omega, by go_num, Lib.hid (C7.out.more (below_drewN _ _)), Lib.hid (H7.out.below (below_drewN _ _)), Lib.hid (M7.out.below (below_drewN _ _))⟩
              case measure => simp [intOf] <;> omega
        · obtain rfl : i = cn := by omega
          go_wp2_with fail
          refine (AW.out _).mono ?_
          rintro e w' ⟨rfl, hb⟩
          have C6 := Lib.hid (hC5.out.more hb)
          clear hb
          go_wp2_with fail
          go_ret
          exact ⟨rfl, C6.out.b_⟩
open Go.ChangeShapes Go.WideShapes Go.ChangeAt in
theorem timerDue_walk {H : Type} {enc : TypeId × Value → H} (W : World) (base : Nat) (v0 v1 v2 : Value) (d0 d1 d2 : DataW H) (p0 p1 p2 : List MemPlace)
    (h0 : DataW.Trod enc Try.prog W 0 (fun _ => true) true 39 v0 d0 p0) (h1 : DataW.Trod enc Try.prog W 0 (fun _ => true) true 3 v1 d1 p1) (h2 : DataW.Trod enc Try.prog W 0 (fun _ => true) true 3 v2 d2 p2)
    (o0 : Value.okWide Try.prog W .any base 39 v0) (o1 : Value.okWide Try.prog W .any base 3 v1) (o2 : Value.okWide Try.prog W .any base 3 v2) :
    Calls Try.prog 4 #[v0, v1, v2] W fun e w' => e = .returned (.bool true) ∧ RowKit.Below W.heap.size W w' := by
  obtain ⟨a0, n0, c0, zs0, rfl, x0, y0, z0, b0, s0⟩ := open_ints_arg Try.underlying39 Try.underlying3 (by kernel_rfl) o0 h0
  obtain ⟨x1, rfl, rfl, rfl, b1⟩ := open_int Try.underlying3 o1 h1
  obtain ⟨x2, rfl, rfl, rfl, b2⟩ := open_int Try.underlying3 o2 h2
  exact timerDue_any a0 n0 c0 zs0 x1 x2 W x0 (by unfold maxLen at b0; omega)
end Go.Proofs.Ytodoflmgnljahaa
