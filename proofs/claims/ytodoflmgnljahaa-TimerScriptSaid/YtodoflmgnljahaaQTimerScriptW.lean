/- timers: the script against the document's own set -/
import Derived.Test.YtodoflmgnljahaaQRu4
namespace Go.Proofs.Ytodoflmgnljahaa
open Go.RowKit
set_option linter.unusedVariables false
set_option maxRecDepth 20000
def BC (w : World) (c : Nat) (v : Value) (w' : World) : Prop := Below w.heap.size w w' ∧ w'.cell? ⟨c, 0, none⟩ = some v
theorem bc_start {w : World} {c : Nat} {v : Value} (h : w.cell? ⟨c, 0, none⟩ = some v) : BC w c v w.drew := ⟨(Below.refl _ _).drew, h⟩
theorem bc_carry {w w' w'' : World} {c : Nat} {v : Value} (h : BC w c v w') (hb : Below w'.heap.size w' w'') : BC w c v w'' := ⟨h.1.trans (hb.mono h.1.size), (hb.cell (p := ⟨c, 0, none⟩) (lt_of_cell h.2)).trans h.2⟩
def A1 (p : Nat) (s : Int) (w : World) : Prop := w.cell? ⟨p, 1, none⟩ = some (.int .i64 s)
theorem A1.turn {S : Nat → Prop} {w w' : World} {p : Nat} {s : Int} (h : A1 p s w) (t : Turn S w w') (hn : ¬ S p) : A1 p s w' := cellT h t hn
def A2 (p : Nat) (s q : Int) (w : World) : Prop := w.cell? ⟨p, 1, none⟩ = some (.int .i64 s) ∧ w.cell? ⟨p, 2, none⟩ = some (.int .i64 q)
theorem A2.turn {S : Nat → Prop} {w w' : World} {p : Nat} {s q : Int} (h : A2 p s q w) (t : Turn S w w') (hn : ¬ S p) : A2 p s q w' := ⟨cellT h.1 t hn, cellT h.2 t hn⟩
set_option maxHeartbeats 6400000 in
set_option maxRecDepth 100000 in
theorem timerScript_any (most : Int) (a : Option Addr) (n cap : Nat) (xs : Nat → TAct) (now : Int) (w : World) (h : HoldsTA w a n xs) (hn : n ≤ 9223372036854775807) :
    Calls Try.prog 3 #[.int .i64 most, .slice a n cap, .int .i64 now] w fun e w' => e = .returned (.bool true) ∧ Below w.heap.size w w' := by
  have AW := Lib.hid (fun w => awakeT_any w)
  by_cases q1 : 100 < n
  · have d1 : decide ((100 : Int) < (n : Int)) = true := decide_eq_true (by omega)
    clear h
    go_enter Try.func3, Try.ntmps3
    go_wp2_with fail
    refine (AW.out _).mono ?_
    rintro e w' ⟨rfl, hb⟩
    have B1 := Lib.hid hb
    clear hb
    go_wp2_with fail
    go_ret
    exact ⟨rfl, B1.out⟩
  have d1 : decide ((100 : Int) < (n : Int)) = false := decide_eq_false (by omega)
  have n100 : n ≤ 100 := by omega
  have H := Lib.hid h
  clear h q1
  by_cases hm : ¬ (1 ≤ most ∧ most ≤ 24)
  · have C1 := Lib.hid (fun w => tNew_bad most w hm)
    have C2 := Lib.hid (fun w => rNew17_bad most w hm)
    clear hm
    go_enter Try.func3, Try.ntmps3
    go_wp2_with fail
    refine (C1.out _).mono ?_
    rintro e w1 ⟨rfl, rfl⟩
    go_wp2_with fail
    refine (C2.out _).mono ?_
    rintro e w1 ⟨rfl, rfl⟩
    go_wp2_with fail
    refine (num17_any 2 _).mono ?_
    rintro e w1 ⟨rfl, rfl⟩
    go_wp2_with fail
    refine (AW.out _).mono ?_
    rintro e w' ⟨rfl, hb⟩
    have B1 := Lib.hid hb
    clear hb
    go_wp2_with fail
    go_ret
    exact ⟨rfl, B1.out⟩
  have hm2 : 1 ≤ most ∧ most ≤ 24 := Decidable.not_not.1 hm
  have M24 := hm2.2
  have C1 := Lib.hid (fun w => tNew_any most w hm2)
  have C2 := Lib.hid (fun w => rNew17_any most w hm2)
  clear hm hm2
  go_enter Try.func3, Try.ntmps3
  go_wp2_with fail
  refine (C1.out _).mono ?_
  rintro e w1 ⟨b, S1, rfl, hq, hs, hb⟩
  have Q1 := Lib.hid hq; have X1 := Lib.hid hs; have B1 := Lib.hid hb
  clear hq hs hb
  go_wp2_with fail
  refine (C2.out _).mono ?_
  rintro e w2 ⟨c, S2, rfl, hq2, hs2, hb2⟩
  have V1 := Lib.hid (show Dup w w2 b c most [] from ⟨S1, S2, (tq_ok _ _ _).below Q1.out hb2, hq2, fun k h1 h2 => by have := (tq_ok _ _ _).lt Q1.out k h1; have := hs2 k h2; omega, X1.out, fun k hk => by have := hs2 k hk; have := B1.out.size; omega, B1.out.trans (hb2.mono B1.out.size)⟩)
  clear hq2 hs2 hb2 Q1 X1 B1 C1 C2
  go_wp2_with fail
  refine (num17_any 0 _).mono ?_
  rintro e w3 ⟨rfl, rfl⟩
  go_wp2_with fail
  go_loopw [11] (fun iv wr => ∃ j : Nat, j ≤ n ∧ iv = .int .i64 j ∧ Hid (∃ L, Dup w wr b c most L ∧ GoodL L)) (fun iv _ => n - (intOf iv).toNat)
  case atStart => exact ⟨0, by omega, rfl, Lib.hid ⟨[], V1.out, goodL_nil⟩⟩
  case round =>
    obtain ⟨j, hj, rfl, hF⟩ := hrel
    obtain ⟨L, hFL, hG⟩ := hF.out
    have FL := Lib.hid hFL; have GL := Lib.hid hG
    clear hF hFL hG V1
    by_cases hlt : j < n
    · rename World => wr
      obtain ⟨ab, ao, rfl, hc⟩ := (H.out.below FL.out.bel) (by omega)
      obtain ⟨x0, x1, x2⟩ := hc j hlt
      obtain ⟨x, hxx⟩ : ∃ x, xs j = x := ⟨_, rfl⟩
      rw [hxx] at x0 x1 x2
      have n1 : (0 : Int) ≤ (j : Int) := by omega
      have n2 : (j : Int) < (n : Int) := by omega
      have A3 := Lib.hid (show ∀ k, k < 3 → (wr.alloc (.cells #[.bool x.c, .int .i64 x.id, .int .i64 x.a] 33)).cell? ⟨wr.heap.size, k, none⟩ = (tactCells x)[k]? from fun k hk => by rw [cell_alloc rfl]; simp [tactCells])
      obtain ⟨S1, S2, hC⟩ := FL.out
      have NP1 := Lib.hid (show ¬ S1 wr.heap.size from fun hk => by have := (tq_ok _ _ _).lt hC.q _ hk; omega)
      have NP2 := Lib.hid (show ¬ S2 wr.heap.size from fun hk => by have := (rqt_ok _ _ _).lt hC.r _ hk; omega)
      have C3 := Lib.hid (show Duo w (wr.alloc (.cells #[.bool x.c, .int .i64 x.id, .int .i64 x.a] 33)) b c most L S1 S2 from TwoO.more (tq_ok _ _ _) (rqt_ok _ _ _) hC (below_one _ _))
      clear hc hxx hC FL
      go_upto_region 13 with fail
      clear x0 x1 x2
      generalize wr.alloc (.cells #[.bool x.c, .int .i64 x.id, .int .i64 x.a] 33) = w3 at *
      generalize wr.heap.size = p at *
      have x0 : w3.cell? ⟨p, 0, none⟩ = some (.bool x.c) := A3.out 0 (by omega)
      have x1 : w3.cell? ⟨p, 1, none⟩ = some (.int .i64 x.id) := A3.out 1 (by omega)
      have x2 : w3.cell? ⟨p, 2, none⟩ = some (.int .i64 x.a) := A3.out 2 (by omega)
      have X1 := Lib.hid (show A1 p x.id w3 from x1)
      have X2 := Lib.hid (show A2 p x.id x.a w3 from ⟨x1, x2⟩)
      clear x1 x2 A3
      go_upto_if 58 with fail
      clear x0
      go_cut [13] from 56 to 81 (fun v wc => v = .bool true ∧ Hid (∃ L2, Dup w wc b c most L2 ∧ GoodL L2 ∧ A1 p x.id wc))
      case first =>
        obtain ⟨x1, x2⟩ := X2.out
        cases hk : x.c with
        | true =>
          obtain ⟨z, hz⟩ : ∃ z, decide (x.id ∈ L.map TM.id) = z := ⟨_, rfl⟩
          obtain ⟨L2, hL2⟩ : ∃ L2, cutM L x.id = L2 := ⟨_, rfl⟩
          have CQ := Lib.hid (fun w' (h' : TQ b most L w' S1) => cutQ x.id z L2 b w' h' hz hL2)
          have CR := Lib.hid (fun w' (h' : RQT c most L w' S2) => cutR x.id z L2 c w' h' GL.out hz hL2)
          have G2 := Lib.hid (show GoodL L2 from hL2 ▸ goodL_cut GL.out x.id)
          have CD := Lib.hid (show Duo w w3.drew b c most L S1 S2 from TwoO.more (tq_ok _ _ _) (rqt_ok _ _ _) C3.out (Below.refl _ _).drew)
          have e1 : (z == z) = true := by simp
          clear hk hz hL2 x1 x2
          go_upto_region 15 with fail
          go_region_held3 (fun w' => A1 p x.id w' ∧ w'.cell? ⟨p, 1, none⟩ = some (.int .i64 x.id))
            (first | assumption | exact ⟨X1.out, X1.out⟩ | exact (fun (h : A1 p x.id _) => ⟨h, h⟩) (A1.turn (And.left (by assumption)) (PO.turn (by assumption)) NP1.out) | exact (fun (h : A1 p x.id _) => ⟨h, h⟩) (A1.turn (And.left (by assumption)) (PO.turn (by assumption)) NP2.out))
            (first
              | (go_at_call 12; (with_reducible refine (CQ.out _ CD.out.q).mono ?_); rintro e w' ⟨rfl, hPQ⟩)
              | (go_at_call 12; (with_reducible refine (CQ.out _ (duo_q2 CD.out (by assumption))).mono ?_); rintro e w' ⟨rfl, hPQ⟩)
              | (go_at_call 13; (with_reducible refine (CR.out _ CD.out.r).mono ?_); rintro e w' ⟨rfl, hPR⟩)
              | (go_at_call 13; (with_reducible refine (CR.out _ (duo_r2 CD.out (by assumption))).mono ?_); rintro e w' ⟨rfl, hPR⟩))
          all_goals (go_wp2_with fail; go_meet)
          all_goals exact ⟨rfl, (by first | exact Lib.hid ⟨L2, duo_qr CD.out (by assumption) (by assumption), G2.out, And.left (by assumption)⟩ | exact Lib.hid ⟨L2, duo_rq CD.out (by assumption) (by assumption), G2.out, And.left (by assumption)⟩)⟩
        | false =>
          obtain ⟨z, hz⟩ : ∃ z, setV most L x.id x.a = z := ⟨_, rfl⟩
          obtain ⟨L2, hL2⟩ : ∃ L2, putM most L x.id x.a = L2 := ⟨_, rfl⟩
          have CQ := Lib.hid (fun w' (h' : TQ b most L w' S1) => setQ x.id x.a z L2 b w' h' M24 GL.out hz hL2)
          have CR := Lib.hid (fun w' (h' : RQT c most L w' S2) => setR x.id x.a z L2 c w' h' GL.out hz hL2)
          have CN := Lib.hid (fun w' => num17_any z w')
          have G2 := Lib.hid (show GoodL L2 from hL2 ▸ goodL_put GL.out most x.id x.a M24)
          have CD := Lib.hid (show Duo w w3.drew b c most L S1 S2 from TwoO.more (tq_ok _ _ _) (rqt_ok _ _ _) C3.out (Below.refl _ _).drew)
          have e1 : (z == z) = true := by simp
          clear hk hz hL2 x1 x2
          go_upto_region 16 with fail
          go_region_held3 (fun w' => A2 p x.id x.a w' ∧ w'.cell? ⟨p, 1, none⟩ = some (.int .i64 x.id) ∧ w'.cell? ⟨p, 2, none⟩ = some (.int .i64 x.a))
            (first | assumption | exact ⟨X2.out, X2.out⟩ | exact (fun (h : A2 p x.id x.a _) => ⟨h, h⟩) (A2.turn (And.left (by assumption)) (PO.turn (by assumption)) NP1.out) | exact (fun (h : A2 p x.id x.a _) => ⟨h, h⟩) (A2.turn (And.left (by assumption)) (PO.turn (by assumption)) NP2.out))
            (first
              | (go_at_call 11; (with_reducible refine (CN.out _).mono ?_); rintro e w' ⟨rfl, rfl⟩)
              | (go_at_call 14; (with_reducible refine (CQ.out _ CD.out.q).mono ?_); rintro e w' ⟨rfl, hPQ⟩)
              | (go_at_call 14; (with_reducible refine (CQ.out _ (duo_q2 CD.out (by assumption))).mono ?_); rintro e w' ⟨rfl, hPQ⟩)
              | (go_at_call 15; (with_reducible refine (CR.out _ CD.out.r).mono ?_); rintro e w' ⟨rfl, hPR⟩)
              | (go_at_call 15; (with_reducible refine (CR.out _ (duo_r2 CD.out (by assumption))).mono ?_); rintro e w' ⟨rfl, hPR⟩))
          all_goals (go_wp2_with fail; go_meet)
          all_goals exact ⟨rfl, (by first | exact Lib.hid ⟨L2, duo_qr CD.out (by assumption) (by assumption), G2.out, (And.left (by assumption) : A2 p x.id x.a _).1⟩ | exact Lib.hid ⟨L2, duo_rq CD.out (by assumption) (by assumption), G2.out, (And.left (by assumption) : A2 p x.id x.a _).1⟩)⟩
      case rest =>
        obtain ⟨rfl, hV⟩ := hcut
        obtain ⟨L2, hV2, hG2, hX⟩ := hV.out
        have V4 := Lib.hid hV2; have G4 := Lib.hid hG2
        obtain ⟨r, hr⟩ : ∃ r, L2.length = r := ⟨_, rfl⟩
        have r24 : r ≤ 24 := by rw [← hr]; exact hG2.2.2
        have R2 := Lib.hid hr
        obtain ⟨T1, T2, hD⟩ := hV2
        have D4 := Lib.hid hD
        rename World => w4
        have x1 : w4.cell? ⟨p, 1, none⟩ = some (.int .i64 x.id) := hX
        have X4 := Lib.hid x1
        have CA := Lib.hid (tAt_any b most L2 x.id T1 w4 hD.q)
        clear hV hG2 hr hD hX X1 X2 C3
        go_wp2_with fail
        with_reducible refine CA.out.mono ?_
        rintro e w5 ⟨v1, k1, rfl, hA1, hb5⟩
        have D5 := Lib.hid (TwoO.more (tq_ok _ _ _) (rqt_ok _ _ _) D4.out hb5)
        have B5 := Lib.hid hb5
        have x1' : w5.cell? ⟨p, 1, none⟩ = some (.int .i64 x.id) := (hb5.cell (p := ⟨p, 1, none⟩) (lt_of_cell x1)).trans x1
        have CB := Lib.hid (rAt17_any c most L2 x.id T2 w5 D5.out.r (by rw [R2.out]; exact r24))
        have H1 := Lib.hid hA1
        clear hA1 hb5 x1 CA
        go_wp2_with fail
        with_reducible refine CB.out.mono ?_
        rintro e w6 ⟨v2, k2, rfl, hA2, rfl⟩
        obtain ⟨rfl, rfl⟩ := at_same G4.out.2.1 H1.out hA2
        have CD1 := Lib.hid (tDue_any b most L2 now T1 w5 D5.out.q)
        obtain ⟨D, hDM⟩ : ∃ D, dueM L2 now = D := ⟨_, rfl⟩
        have HDM := Lib.hid hDM
        have DL : D.length ≤ 24 := by
          rw [← hDM]; unfold dueM
          have h1 := List.length_filter_le (fun x => decide (x.at_ ≤ now)) L2
          rw [List.length_map, (sort_perm _).length_eq]; have := R2.out; omega
        rw [hDM] at CD1
        clear hA2 hDM x1' CB H1 X4
        go_wp2_with fail
        with_reducible refine CD1.out.mono ?_
        rintro e w6 ⟨na, nc, rfl, ho, hb⟩
        obtain ⟨m, hm⟩ : ∃ m, D.length = m := ⟨_, rfl⟩
        rw [hm] at ho DL
        rw [hm]
        have HM := Lib.hid hm
        have D6 := Lib.hid (TwoO.more (tq_ok _ _ _) (rqt_ok _ _ _) D5.out hb)
        obtain ⟨ra, rc, k5, -⟩ := D6.out.r
        rw [R2.out] at k5
        have O6 := Lib.hid ho; have K5 := Lib.hid k5; have B6 := Lib.hid hb
        have CD2 := Lib.hid (fun w' (h' : Below w6.heap.size w6 w') => (show Calls Try.prog 20 #[.pointer (some ⟨c, 0, none⟩), .int .i64 now] w' fun e w'' => ∃ a2 c2, e = .returned (.slice a2 m c2) ∧ HoldsI .i64 w'' a2 m D ∧ Below w'.heap.size w' w'' from by
          have h1 := rDue17_any c most L2 now T2 w' ((rqt_ok _ _ _).below D6.out.r h') (by rw [R2.out]; exact r24) G4.out.1
          rw [HDM.out] at h1
          refine h1.mono ?_
          rintro e w'' ⟨a2, c2, g1, g2, g3⟩
          rw [HM.out] at g1 g2
          exact ⟨a2, c2, g1, g2, g3⟩))
        have CL := Lib.hid (fun w' (h' : Below w6.heap.size w6 w') => (show Calls Try.prog 21 #[.pointer (some ⟨b, 0, none⟩)] w' fun e w'' => e = .returned (.int .i64 r) ∧ w' = w'' from R2.out ▸ tLenT_any b most L2 T1 w' ((tq_ok _ _ _).below D6.out.q h')))
        have HD6 := Lib.hid (show HoldsI .i64 w6 na m D from holdsJ_own HM.out ho)
        have e1 : ((r : Int) != (r : Int)) = false := by simp
        have e2 : (v1 != v1) = false := by simp
        have e3 : (k1 != k1) = false := by simp
        clear ho hm hb k5 CD1
        go_upto_region 20 with fail
        go_region_held3 (fun w' => Below w6.heap.size w6 w' ∧ w'.cell? ⟨c, 0, none⟩ = some (.slice ra r rc))
          (first | assumption | exact bc_start K5.out | exact bc_carry (by assumption) (by assumption))
          (first
            | (go_at_call 21; (with_reducible refine (CL.out _ (And.left (by assumption))).mono ?_); rintro e w' ⟨rfl, rfl⟩)
            | (go_at_call 20; (with_reducible refine (CD2.out _ (And.left (by assumption))).mono ?_); rintro e w' ⟨a2, c2, rfl, hN, hb9⟩)
            | (go_at_call 19; (with_reducible refine (sameJ_yes _ _ _ _ _ D _ (HD6.out.below (And.left (by assumption))) (by assumption) (by omega)).mono ?_); rintro e w' ⟨rfl, hb9⟩))
        all_goals
          rename_i S5
          have B7 := Lib.hid S5.1
          have O7 := Lib.hid (owns_below O6.out S5.1)
          have hz6 := B6.out.size
          have hz7 := S5.1.size
          clear S5
          go_wp2_with fail
          refine (overInts_any w5.heap.size na m nc (intsT D) _ O7.out (by omega) (by omega)).mono ?_
          rintro e w8 ⟨rfl, hb8⟩
          have V8 := Lib.hid (show Dup w w8 b c most L2 from ⟨T1, T2, TwoO.more (tq_ok _ _ _) (rqt_ok _ _ _) D5.out (B6.out.trans ((B7.out.mono B6.out.size).trans hb8))⟩)
          clear hb8
          go_wp2_with fail
          go_roundw
          case rel => exact ⟨j + 1, by omega, by go_num, Lib.hid ⟨L2, V8.out, G4.out⟩⟩
          case measure => simp [intOf] <;> omega
    · obtain rfl : j = n := by omega
      rename World => wr
      obtain ⟨S1, S2, hC⟩ := FL.out
      have C9 := Lib.hid hC
      obtain ⟨D, hDM⟩ : ∃ D, dueM L 1099511627776 = D := ⟨_, rfl⟩
      have HDM := Lib.hid hDM
      obtain ⟨m, hm⟩ : ∃ m, D.length = m := ⟨_, rfl⟩
      have DL : m ≤ 24 := by
        rw [← hm, ← hDM]; unfold dueM
        have h1 := List.length_filter_le (fun x => decide (x.at_ ≤ (1099511627776 : Int))) L
        rw [List.length_map, (sort_perm _).length_eq]; have := GL.out.2.2; omega
      have HM := Lib.hid hm
      have CD1 := Lib.hid (fun w' (h' : Below wr.heap.size wr w') => (show Calls Try.prog 18 #[.pointer (some ⟨b, 0, none⟩), .int .i64 1099511627776] w' fun e w'' => ∃ a2 c2, e = .returned (.slice a2 m c2) ∧ HoldsI .i64 w'' a2 m D ∧ Below w'.heap.size w' w'' from by
        have h1 := tDue_any b most L 1099511627776 S1 w' ((tq_ok _ _ _).below C9.out.q h')
        rw [HDM.out] at h1
        refine h1.mono ?_
        rintro e w'' ⟨a2, c2, g1, g2, g3⟩
        have g4 := holdsJ_own rfl g2
        rw [HM.out] at g1 g4
        exact ⟨a2, c2, g1, g4, g3⟩))
      have CD2 := Lib.hid (fun w' (h' : Below wr.heap.size wr w') => (show Calls Try.prog 20 #[.pointer (some ⟨c, 0, none⟩), .int .i64 1099511627776] w' fun e w'' => ∃ a2 c2, e = .returned (.slice a2 m c2) ∧ HoldsI .i64 w'' a2 m D ∧ Below w'.heap.size w' w'' from by
        have h1 := rDue17_any c most L 1099511627776 S2 w' ((rqt_ok _ _ _).below C9.out.r h') GL.out.2.2 GL.out.1
        rw [HDM.out] at h1
        refine h1.mono ?_
        rintro e w'' ⟨a2, c2, g1, g2, g3⟩
        rw [HM.out] at g1 g2
        exact ⟨a2, c2, g1, g2, g3⟩))
      clear hDM hm hC
      go_wp2_with fail
      with_reducible refine (CD1.out wr (Below.refl _ _)).mono ?_
      rintro e w1 ⟨a1, c1, rfl, hN, hb1⟩
      have H1 := Lib.hid hN; have B1 := Lib.hid hb1
      clear hN hb1 CD1
      go_wp2_with fail
      with_reducible refine (CD2.out w1 B1.out).mono ?_
      rintro e w3 ⟨a2, c2, rfl, hN, hb1⟩
      have H2 := Lib.hid hN; have H3 := Lib.hid (H1.out.below hb1); have B2 := Lib.hid (B1.out.trans (hb1.mono B1.out.size))
      clear hN hb1 CD2 H1
      go_wp2_with fail
      with_reducible refine (sameJ_yes a1 a2 m c1 c2 D w3 H3.out H2.out (by omega)).mono ?_
      rintro e w4 ⟨rfl, hb1⟩
      have B3 := Lib.hid (B2.out.trans (hb1.mono B2.out.size))
      clear hb1
      go_wp2_with fail
      with_reducible refine (AW.out w4).mono ?_
      rintro e w5 ⟨rfl, hb1⟩
      have BE := Lib.hid (FL.out.bel.trans ((B3.out.trans (hb1.mono B3.out.size)).mono FL.out.bel.size))
      clear hb1
      go_wp2_with fail
      go_ret
      exact ⟨rfl, BE.out⟩
open Go.ChangeShapes Go.WideShapes Go.ChangeAt in
theorem timerScript_walk {H : Type} {enc : TypeId × Value → H} (W : World) (base : Nat) (v0 v1 v2 : Value) (d0 d1 d2 : DataW H) (p0 p1 p2 : List MemPlace)
    (h0 : DataW.Trod enc Try.prog W 0 (fun _ => true) true 3 v0 d0 p0) (h1 : DataW.Trod enc Try.prog W 0 (fun _ => true) true 22 v1 d1 p1) (h2 : DataW.Trod enc Try.prog W 0 (fun _ => true) true 3 v2 d2 p2)
    (o0 : Value.okWide Try.prog W .any base 3 v0) (o1 : Value.okWide Try.prog W .any base 22 v1) (o2 : Value.okWide Try.prog W .any base 3 v2) :
    Calls Try.prog 3 #[v0, v1, v2] W fun e w' => e = .returned (.bool true) ∧ RowKit.Below W.heap.size W w' := by
  obtain ⟨x0, rfl, rfl, rfl, b0⟩ := open_int Try.underlying3 o0 h0
  obtain ⟨a, n, cap, xs, rfl, hh, hb⟩ := open_tacts_arg o1 h1
  obtain ⟨x2, rfl, rfl, rfl, b2⟩ := open_int Try.underlying3 o2 h2
  exact timerScript_any x0 a n cap xs x2 W hh (by unfold maxLen at hb; omega)
end Go.Proofs.Ytodoflmgnljahaa
