/- graph: one word's graph -/
import Derived.Test.YtmmliepkcgdnlaaPkD
namespace Go.Proofs.Ytmmliepkcgdnlaa
open Go.RowKit
set_option linter.unusedVariables false
set_option maxRecDepth 20000
theorem holdsT_lit1G (w : World) (a : Tx) (e : TypeId) (fr : Nat × Nat) : HoldsT (w.alloc (.cells #[.string a] e fr)) (some ⟨w.heap.size, 0, none⟩) 1 [a] := by
  refine ⟨by simp [strsV], fun _ => ⟨w.heap.size, 0, rfl, fun i hi => ?_⟩⟩
  rw [Nat.zero_add, World.cell?_alloc_mark]
  obtain rfl : i = 0 := by omega
  rfl
theorem holdsEd_lit1 (w : World) (a : EdP) (e : TypeId) (fr : Nat × Nat) : HoldsEd (w.alloc (.cells #[.int .i32 a.r, .int .i64 a.dst] e fr)) (some ⟨w.heap.size, 0, none⟩) 1 [a] := by
  refine ⟨rfl, fun _ => ⟨w.heap.size, 0, rfl, fun i hi => ?_⟩⟩
  obtain rfl : i = 0 := by omega
  constructor <;> (rw [World.cell?_alloc_mark]; rfl)
set_option maxHeartbeats 3200000 in
theorem graphOne_any (s : Tx) (w : World) (hs : s.size ≤ 9223372036854775807) :
    Calls Try.prog 9 #[.string s] w fun e w' => e = .returned (.bool true) ∧ Below w.heap.size w w' := by
  by_cases q1 : 100 < s.size
  · have d1 : decide (100 < s.size) = true := decide_eq_true q1
    go_enter Try.func9, Try.ntmps9
    go_wp2_with fail
    refine (awakeG_any _).mono ?_
    rintro e w' ⟨rfl, hb⟩
    go_wp2_with fail
    go_ret
    exact ⟨rfl, hb⟩
  have d1 : decide (100 < s.size) = false := decide_eq_false q1
  have CW := Lib.hid (word_any s w hs)
  by_cases q2 : wordP s
  · rw [decide_eq_true (show 1 ≤ lenS s ∧ lenS s ≤ 12 from q2)] at CW
    obtain ⟨m, h1, h2, h3, h4⟩ := grS_one q2
    have hg : goodV [s] = 0 := good_one q2
    have hsm : ∀ t ∈ [s], t.size ≤ 100 := fun t ht => by simp only [List.mem_singleton] at ht; rw [ht]; omega
    have CB := Lib.hid (fun (w1 : World) (hb : Below w.heap.size w w1) => build_c (w0 := w) (some ⟨w1.heap.size, 0, none⟩) 1 1 [s] _ _ (hb.trans ((below_one w1 (.cells #[.string s] 9)).mono hb.size)) (holdsT_lit1G w1 s 9 (0, 0)) (by decide) (by decide) hsm hg h4)
    have GE := Lib.hid (fun (x : GN) (hx : x ∈ thread m 0 s) => (show x.edges.length ≤ 1000 from by have := (grS_ok hg hsm).few x (h4 ▸ hx); omega))
    have HL := Lib.hid (thread_len m 0 s)
    have AT := Lib.hid (thread_at m 0 s h1)
    have HM := Lib.hid h2
    have CR := Lib.hid (fun w => runes_good s w (by omega) (by have : 1 ≤ lenS s := q2.1; omega))
    rw [h2] at CR
    generalize thread m 0 s = st at *
    clear h4 hg hsm q2 h1 h2
    go_enter Try.func9, Try.ntmps9
    go_wp2_with fail
    refine CW.out.mono ?_
    rintro e w1 ⟨rfl, hb⟩
    have B1 := Lib.hid hb
    have CB1 := Lib.hid (CB.out w1 hb)
    clear hb CW CB
    go_wp2_with fail
    refine CB1.out.mono ?_
    rintro e w2 ⟨g, S, rfl, C, -⟩
    have C2 := Lib.hid C
    clear C B1 CB1
    go_wp2_with fail
    refine (CR.out w2).mono ?_
    rintro e w3 ⟨ra, rc, rfl, hr⟩
    have RH := Lib.hid hr.holds
    have C3 := Lib.hid (C2.out.more hr.2.1)
    clear hr C2 CR
    rw [show (intsN (runesS s)).length = m from by rw [← HM.out]; simp [intsN]] at RH
    have CN := Lib.hid (gNodes_c ((m : Int) + 1) w3 C3.out (by rw [HL.out]; omega))
    go_wp2_with fail
    refine CN.out.mono ?_
    rintro e w4 ⟨rfl, rfl⟩
    clear CN
    go_wp2_with fail
    go_loopw [7] (fun iv wr => ∃ (j : Nat), j ≤ m + 1 ∧ iv = .int .i64 j ∧ Hid (CtxG w wr g st S) ∧ Hid (HoldsI .i32 wr ra m (intsN (runesS s)))) (fun iv _ => m + 1 - (intOf iv).toNat)
    case atStart => exact ⟨0, by omega, rfl, C3, RH⟩
    case round =>
      obtain ⟨j, hj, rfl, hC, hH⟩ := hrel
      clear RH C3
      by_cases hlt : j < m
      · obtain ⟨a1, a2⟩ := AT.out j (by omega)
        rw [decide_eq_false (by omega)] at a1
        rw [if_pos hlt] at a2
        obtain ⟨h1, h2, h3'⟩ := has_at (st := st) (k := j) (by have := HL.out; omega)
        rw [a1] at h3'
        rw [a2] at h2
        obtain ⟨r, hr⟩ : ∃ r, (runesS s).getD j 0 = r := ⟨_, rfl⟩
        have e1 : (intsN (runesS s)).getD j 0 = (r : Int) := by
          rw [← hr]; simp [intsN, List.getD_eq_getElem?_getD, HM.out, hlt]
        rw [hr, show 0 + j + 1 = j + 1 by omega] at h2
        obtain ⟨b0, o, rfl, hcc⟩ := hH.out.at (by omega)
        have x0 := hcc j hlt
        rw [e1] at x0
        have n1 : (0 : Int) ≤ (j : Int) := by omega
        have n2 : (j : Int) < (m : Int) := by omega
        have b1 : ((j : Int) == (m : Int)) = false := by simp; omega
        have CE := Lib.hid (gEdges_c (j : Int) _ wr hC.out GE.out h2)
        have CF := Lib.hid (fun (w4 : World) (c : CtxG w w4 g st S) => gFinal_c (j : Int) false w4 c h3')
        clear hcc hr e1 a1 a2 h1 h2 h3' AT
        go_wp2_with fail
        refine CE.out.mono ?_
        rintro e w4 ⟨ea, ec, rfl, ho, hb⟩
        have C4 := Lib.hid (hC.out.more hb)
        have H4 := Lib.hid (hH.out.below hb)
        have EH := Lib.hid (HoldsEd.own ho)
        have CF4 := Lib.hid (CF.out w4 C4.out)
        have x4 := (hb.cell (p := ⟨b0, o + j, none⟩) (lt_of_cell x0)).trans x0
        clear hb ho CE CF x0
        have CS := Lib.hid (sameEdges_yes ea (some ⟨w4.heap.size, 0, none⟩) 1 ec 1 [⟨(r : Int), ((j + 1 : Nat) : Int)⟩] (w4.alloc (.cells #[.int .i32 (r : Int), .int .i64 ((j : Int) + 1)] 61)) (EH.out.below (below_one w4 _)) (holdsEd_lit1 w4 ⟨(r : Int), ((j + 1 : Nat) : Int)⟩ 61 (0, 0)) (by decide))
        have C5 := Lib.hid (C4.out.more (below_one w4 (.cells #[.int .i32 (r : Int), .int .i64 ((j : Int) + 1)] 61)))
        have H5 := Lib.hid (H4.out.below (below_one w4 (.cells #[.int .i32 (r : Int), .int .i64 ((j : Int) + 1)] 61)))
        have bm : decide ((j : Int) < (m : Int)) = true := decide_eq_true n2
        go_wp2_with fail
        refine CF4.out.mono ?_
        rintro e w5 ⟨rfl, rfl⟩
        clear CF4
        go_wp2_with fail
        refine CS.out.mono ?_
        rintro e w5 ⟨rfl, hb⟩
        have C6 := Lib.hid (C5.out.more hb)
        have H6 := Lib.hid (H5.out.below hb)
        clear hb CS C5 H5 x4
        go_wp2_with fail
        go_roundw
        case rel => exact ⟨j + 1, by omega, by go_num, C6, H6⟩
        case measure => simp [intOf] <;> omega
      · by_cases hjm : j = m
        · subst hjm
          obtain ⟨a1, a2⟩ := AT.out j (by omega)
          rw [decide_eq_true rfl] at a1
          rw [if_neg hlt] at a2
          obtain ⟨h1, h2, h3'⟩ := has_at (st := st) (k := j) (by have := HL.out; omega)
          rw [a1] at h3'
          rw [a2] at h2
          have CE := Lib.hid (gEdges_c (j : Int) _ wr hC.out GE.out h2)
          have CF := Lib.hid (fun (w4 : World) (c : CtxG w w4 g st S) => gFinal_c (j : Int) true w4 c h3')
          have b1 : ((j : Int) == (j : Int)) = true := by simp
          have b2 : decide ((j : Int) < (j : Int)) = false := decide_eq_false (by omega)
          clear a1 a2 h1 h2 h3' AT
          go_wp2_with fail
          refine CE.out.mono ?_
          rintro e w4 ⟨ea, ec, rfl, ho, hb⟩
          have C4 := Lib.hid (hC.out.more hb)
          have H4 := Lib.hid (hH.out.below hb)
          have CF4 := Lib.hid (CF.out w4 C4.out)
          clear hb ho CE CF
          go_wp2_with fail
          refine CF4.out.mono ?_
          rintro e w5 ⟨rfl, rfl⟩
          clear CF4
          go_wp2_with fail
          go_roundw
          case rel => exact ⟨j + 1, by omega, by go_num, C4, H4⟩
          case measure => simp [intOf] <;> omega
        · obtain rfl : j = m + 1 := by omega
          clear hlt hjm
          go_wp2_with fail
          refine (awakeG_any _).mono ?_
          rintro e w' ⟨rfl, hb⟩
          have B2 := Lib.hid (hC.out.more hb)
          clear hb
          go_wp2_with fail
          go_ret
          exact ⟨rfl, B2.out.b⟩
  · rw [decide_eq_false (show ¬ (1 ≤ lenS s ∧ lenS s ≤ 12) from q2)] at CW
    go_enter Try.func9, Try.ntmps9
    go_wp2_with fail
    refine CW.out.mono ?_
    rintro e w1 ⟨rfl, hb⟩
    have B1 := Lib.hid hb
    clear hb CW
    go_wp2_with fail
    refine (awakeG_any _).mono ?_
    rintro e w' ⟨rfl, hb⟩
    have B2 := Lib.hid (B1.out.trans (hb.mono B1.out.size))
    clear hb
    go_wp2_with fail
    go_ret
    exact ⟨rfl, B2.out⟩
open Go.ChangeShapes Go.WideShapes Go.ChangeAt in
theorem graphOne_walk {H : Type} {enc : TypeId × Value → H} (W : World) (base : Nat) (v0 : Value) (d0 : DataW H) (p0 : List MemPlace)
    (h0 : DataW.Trod enc Try.prog W 0 (fun _ => true) true 9 v0 d0 p0)
    (o0 : Value.okWide Try.prog W .any base 9 v0) :
    Calls Try.prog 9 #[v0] W fun e w' => e = .returned (.bool true) ∧ RowKit.Below W.heap.size W w' := by
  obtain ⟨s0, rfl, rfl, rfl, b0⟩ := Go.ChangeMaps.open_string Try.underlying9 o0 h0
  exact graphOne_any s0 W (by unfold maxLen at b0; omega)
end Go.Proofs.Ytmmliepkcgdnlaa
