/- WalkEnds: behind the last near word nothing comes, and that is told -/
import Derived.Test.YtolggcdlpiedmaaPkE
import Derived.Deep.RegionHeld3
namespace Go.Proofs.Ytolggcdlpiedmaa
open Go.RowKit
set_option linter.unusedVariables false
set_option maxRecDepth 20000
def BoxE (w0 : World) (q b o : Nat) (v0 v1 v2 v3 : Value) (w : World) : Prop := Below w0.heap.size w0 w ∧ w.cell? ⟨q, 0, none⟩ = some v0 ∧ w.cell? ⟨q, 1, none⟩ = some v1 ∧ w.cell? ⟨b, o, none⟩ = some v2 ∧ w.cell? ⟨b, o + 1, none⟩ = some v3
theorem boxE_carry {w0 w w' : World} {q b o : Nat} {v0 v1 v2 v3 : Value} (h : BoxE w0 q b o v0 v1 v2 v3 w) (hb : Below w.heap.size w w') : BoxE w0 q b o v0 v1 v2 v3 w' := by
  obtain ⟨h0, h1, h2, h3, h4⟩ := h
  exact ⟨h0.trans (hb.mono h0.size), by rw [hb.cell (p := ⟨q, 0, none⟩) (lt_of_cell h1)]; exact h1, by rw [hb.cell (p := ⟨q, 1, none⟩) (lt_of_cell h1)]; exact h2, by rw [hb.cell (p := ⟨b, o, none⟩) (lt_of_cell h3)]; exact h3, by rw [hb.cell (p := ⟨b, o + 1, none⟩) (lt_of_cell h3)]; exact h4⟩
set_option maxRecDepth 100000 in
set_option maxHeartbeats 6400000 in
theorem walkEnds_law (a : Option Addr) (n ca : Nat) (ts : List Tx) (s : Tx) (k nq : Int) (w : World) (hh : HoldsT w a n ts) (hc : n ≤ ca) (hn : n ≤ 9223372036854775807) (hsz : ∀ t ∈ ts, t.size ≤ 9223372036854775807) (hs : s.size ≤ 9223372036854775807) :
    Calls Try.prog 7 #[.slice a n ca, .agg #[.string s, .int .i64 k, .int .i64 nq]] w fun e w' => e = .returned (.bool true) ∧ Below w.heap.size w w' := by
  have B1 := Lib.hid (below_one w (.cells #[.string s, .int .i64 k, .int .i64 nq] 44))
  have KB := Lib.hid (show QBox w.heap.size s k nq (w.alloc (.cells #[.string s, .int .i64 k, .int .i64 nq] 44)) from ⟨by rw [World.cell?_alloc_mark]; rfl, by rw [World.cell?_alloc_mark]; rfl, by rw [World.cell?_alloc_mark]; rfl⟩)
  obtain ⟨w1, hw1⟩ : ∃ w1, w.alloc (.cells #[.string s, .int .i64 k, .int .i64 nq] 44) = w1 := ⟨_, rfl⟩
  have HW := Lib.hid hw1
  rw [hw1] at B1 KB
  have H0 := Lib.hid hh
  have AW := Lib.hid (fun w => awakeW_any w)
  obtain ⟨gr, hgr⟩ : ∃ c, greatW ts s = c := ⟨_, rfl⟩
  have CG := Lib.hid (greatW_any a n ca ts s gr w1 (hh.below B1.out) hn hsz hs hgr)
  obtain ⟨my, hmy⟩ : ∃ c, decide (mayP s k nq) = c := ⟨_, rfl⟩
  have CM := Lib.hid (fun w => may_lit s k nq my w hs hmy)
  obtain ⟨d0, d1, d2⟩ := KB.out
  clear hw1 hh
  go_enter Try.func7, Try.ntmps7
  go_upto_region 1 with fail
  rw [HW.out]
  go_wp2_with fail
  refine CG.out.mono ?_
  rintro e w2 ⟨rfl, hb2⟩
  have B2 := Lib.hid (B1.out.trans (hb2.mono B1.out.size))
  have KB2 := Lib.hid (KB.out.keep hb2)
  clear d0 d1 d2 hb2 KB B1 CG HW
  obtain ⟨d0, d1, d2⟩ := KB2.out
  cases gr with
  | true =>
    go_wp2_with fail
    refine (AW.out _).mono ?_
    rintro e w3 ⟨rfl, hb3⟩
    go_wp2_with fail
    go_ret
    exact ⟨rfl, B2.out.trans (hb3.mono B2.out.size)⟩
  | false =>
    go_wp2_with fail
    refine (CM.out _).mono ?_
    rintro e w3 ⟨rfl, hb3⟩
    have B3 := Lib.hid (B2.out.trans (hb3.mono B2.out.size))
    have KB3 := Lib.hid (KB2.out.keep hb3)
    clear d0 d1 d2 hb3 KB2 B2 CM
    obtain ⟨d0, d1, d2⟩ := KB3.out
    cases my with
    | false =>
      go_wp2_with fail
      refine (AW.out _).mono ?_
      rintro e w4 ⟨rfl, hb4⟩
      go_wp2_with fail
      go_ret
      exact ⟨rfl, B3.out.trans (hb4.mono B3.out.size)⟩
    | true =>
      have hmay : mayP s k nq := of_decide_eq_true hmy
      have HMA := Lib.hid (may_match (ts := ts) hmay)
      obtain ⟨hl80, hs100, hss⟩ := greatW_no hgr
      have HSS := Lib.hid hs100
      have hlen : ts.length = n := H0.out.len
      clear hgr hmy hs100 hsz hmay
      obtain ⟨v, hv⟩ : ∃ v, goodV ts = v := ⟨_, rfl⟩
      by_cases hv0 : v = 0
      · subst hv0
        have CB := Lib.hid (buildW_good a n ca ts w3 (H0.out.below B3.out) hc (by omega) HSS.out hv)
        clear hv
        go_wp2_with fail
        refine CB.out.mono ?_
        rintro e w4 ⟨g, rfl, hg, hb4⟩
        have G4 := Lib.hid hg
        have B4 := Lib.hid (B3.out.trans (hb4.mono B3.out.size))
        have KB4 := Lib.hid (KB3.out.keep hb4)
        obtain ⟨L, hL⟩ : ∃ L, allK ts s k = L := ⟨_, rfl⟩
        have HST := Lib.hid (show StrictK L from by rw [← hL]; exact allK_strict hg.sorted s k)
        obtain ⟨m, hm⟩ : ∃ m, L.length = m := ⟨_, rfl⟩
        have hm100 : m ≤ 80 := by have := allK_len ts s k; rw [hL] at this; omega
        have HF := Lib.hid (show ∀ c, restK true c (matchK ts s k) = L from fun c => by unfold restK; rw [if_pos rfl, HMA.out, hL])
        have HF2 := Lib.hid (show ∀ c, restK false c (matchK ts s k) = L.filter (lessK c) from fun c => by unfold restK; rw [if_neg (by simp), HMA.out, hL])
        have CAll := Lib.hid (fun w' (hh : HoldsT w' a n ts) => rankAll_c a n ca ts s k L m w' hh (by omega) (fun t ht => by have := HSS.out t ht; omega) (by omega) hL hm)
        have CN := Lib.hid (fun (bt : Int) (i : Nat) (b : Bool) (hi : cntK bt m = i) (hb : decide (i = m) = b) w' (hg : GrOk g ts w') => next_c g ts s k true (0, ⟨#[]⟩) bt L (L.take i) i b w' hg (by omega) (HF.out _) (by rw [hm]; exact hi) rfl (by rw [hm]; exact hb))
        have HM := Lib.hid hm; have HL := Lib.hid hL
        clear hb4 hg CB hL hm d0 d1 d2 KB3
        obtain ⟨d0, d1, d2⟩ := KB4.out
        go_wp2_with fail
        refine (CAll.out _ (H0.out.below B4.out)).mono ?_
        rintro e w5 ⟨a5, c5, rfl, o5, hb5⟩
        have B5 := Lib.hid (B4.out.trans (hb5.mono B4.out.size))
        have KB5 := Lib.hid (KB4.out.keep hb5)
        have G5 := Lib.hid (G4.out.below hb5)
        have O5 := Lib.hid o5
        clear hb5 o5 d0 d1 d2 KB4 CAll B4
        obtain ⟨d0, d1, d2⟩ := KB5.out
        have q1 : IntKind.i64.wrap ((m : Int) + 1) = (m : Int) + 1 := IntWalk.i64_in _ (by omega)
        have CN1 := Lib.hid (CN.out ((m : Int) + 1) m true (by unfold cntK; omega) (by simp) w5 G5.out)
        have HTK := Lib.hid (show L.take m = L from List.take_of_length_le (by have := HM.out; omega))
        rw [HTK.out] at CN1
        go_wp2_with fail
        refine CN1.out.mono ?_
        rintro e w6 ⟨a6, rfl, hc6, -, hb6⟩
        have B6 := Lib.hid (B5.out.trans (hb6.mono B5.out.size))
        have KB6 := Lib.hid (KB5.out.keep hb6)
        have G6 := Lib.hid (G5.out.below hb6)
        have O6 := Lib.hid (owns_below O5.out hb6)
        have C6 := Lib.hid hc6
        clear hb6 hc6 d0 d1 d2 KB5 CN1 B5 O5 q1
        obtain ⟨d0, d1, d2⟩ := KB6.out
        obtain ⟨mx, hmx⟩ : ∃ x : Int, max (m : Int) 1 = x := ⟨_, rfl⟩
        have CN2 := Lib.hid (CN.out mx m true (by unfold cntK; omega) (by simp) w6 G6.out)
        rw [HTK.out] at CN2
        go_wp2_with fail
        refine CN2.out.mono ?_
        rintro e w7 ⟨a7, rfl, hc7, -, hb7⟩
        have B7 := Lib.hid (B6.out.trans (hb7.mono B6.out.size))
        have KB7 := Lib.hid (KB6.out.keep hb7)
        have G7 := Lib.hid (G6.out.below hb7)
        have O7 := Lib.hid (owns_below O6.out hb7)
        have C67 := Lib.hid (C6.out.below hb7)
        have C7 := Lib.hid hc7
        clear hb7 hc7 d0 d1 d2 KB6 CN2 B6 O6 C6 hmx
        obtain ⟨d0, d1, d2⟩ := KB7.out
        go_wp2_with fail
        refine (sameItems_yes a6 a5 m m c5 L w7 C67.out.holds (HoldsK.own O7.out) (by omega)).mono ?_
        rintro e w8 ⟨rfl, hb8⟩
        have B8 := Lib.hid (B7.out.trans (hb8.mono B7.out.size))
        have KB8 := Lib.hid (KB7.out.keep hb8)
        have G8 := Lib.hid (G7.out.below hb8)
        have O8 := Lib.hid (owns_below O7.out hb8)
        have C78 := Lib.hid (C7.out.below hb8)
        clear hb8 d0 d1 d2 KB7 B7 O7 C67 C7
        obtain ⟨d0, d1, d2⟩ := KB8.out
        go_wp2_with fail
        refine (sameItems_yes a7 a5 m m c5 L w8 C78.out.holds (HoldsK.own O8.out) (by omega)).mono ?_
        rintro e w9 ⟨rfl, hb9⟩
        have B9 := Lib.hid (B8.out.trans (hb9.mono B8.out.size))
        have KB9 := Lib.hid (KB8.out.keep hb9)
        have G9 := Lib.hid (G8.out.below hb9)
        have O9 := Lib.hid (owns_below O8.out hb9)
        clear hb9 d0 d1 d2 KB8 B8 O8 C78
        obtain ⟨d0, d1, d2⟩ := KB9.out
        by_cases hm0 : m = 0
        · subst hm0
          go_wp2_with fail
          refine (AW.out _).mono ?_
          rintro e w10 ⟨rfl, hb10⟩
          go_wp2_with fail
          go_ret
          exact ⟨rfl, B9.out.trans (hb10.mono B9.out.size)⟩
        · obtain ⟨i, hi⟩ : ∃ i : Nat, i + 1 = m := ⟨m - 1, by omega⟩
          have q0 : ((m : Int) == 0) = false := by simp; omega
          have q1 : IntKind.i64.wrap ((m : Int) - 1) = (i : Int) := by rw [IntWalk.i64_in _ (by omega)]; omega
          have q2 : (0 : Int) ≤ (i : Int) := by omega
          have q3 : (i : Int) < (m : Int) := by omega
          obtain ⟨bb, o, hae, hcc⟩ := (HoldsK.own O9.out).at (by omega)
          subst hae
          obtain ⟨x0, x1⟩ := hcc i (by omega)
          obtain ⟨x, hx⟩ : ∃ x, L.getD i k0 = x := ⟨_, rfl⟩
          have HFX := Lib.hid (show restK false x (matchK ts s k) = [] from by
            rw [HF2.out, ← hx, filter_at HST.out i (by have := HM.out; omega), List.drop_of_length_le (by have := HM.out; omega)])
          rw [hx] at x0 x1
          have CN3 := Lib.hid (fun w' (hg : GrOk g ts w') => next_c g ts s k false x 3 [] [] 0 true w' hg (by omega) HFX.out (by decide) rfl rfl)
          have CN4 := Lib.hid (fun w' (hg : GrOk g ts w') => CN.out (i : Int) i false (by unfold cntK; omega) (decide_eq_false (by omega)) w' hg)
          have T := Lib.hid (show BoxE w9 w.heap.size bb (o + i * 2) (.string s) (.int .i64 k) (.int .i64 x.1) (.string x.2) w9 from ⟨Below.refl _ _, d0, d1, x0, x1⟩)
          have him : i ≤ m := by omega
          have HI := Lib.hid hi
          clear hcc x0 x1 d0 d1 d2 hx hi
          go_upto_region 13 with fail
          go_region_held3 (fun w' => Below w9.heap.size w9 w' ∧ w'.cell? ⟨w.heap.size, 0, none⟩ = some (.string s) ∧ w'.cell? ⟨w.heap.size, 1, none⟩ = some (.int .i64 k) ∧ w'.cell? ⟨bb, o + i * 2, none⟩ = some (.int .i64 x.1) ∧ w'.cell? ⟨bb, o + i * 2 + 1, none⟩ = some (.string x.2))
            (first | assumption | exact boxE_carry T.out (Below.refl _ _).drew | exact boxE_carry (by assumption) (by assumption))
            ((go_at_call 15; (with_reducible refine (CN3.out _ (G9.out.below (And.left (by assumption)))).mono ?_); rintro e w' ⟨a10, rfl, -, -, hb10⟩))
          rename_i TT
          obtain ⟨hbl, d0, d1, x0, x1⟩ := TT
          obtain ⟨w10, hw10⟩ : ∃ w10, w10 = w' := ⟨_, rfl⟩
          subst hw10
          have B10 := Lib.hid (B9.out.trans (hbl.mono B9.out.size))
          have G10 := Lib.hid (G9.out.below hbl)
          have O10 := Lib.hid (owns_below O9.out hbl)
          have KB10 := Lib.hid (KB9.out.keep hbl)
          clear hb10 hbl x0 x1 T KB9 B9 O9 d0 d1
          obtain ⟨d0, d1, d2⟩ := KB10.out
          go_wp2_with fail
          refine (CN4.out _ G10.out).mono ?_
          rintro e w11 ⟨a11, rfl, hc11, -, hb11⟩
          have B11 := Lib.hid (B10.out.trans (hb11.mono B10.out.size))
          have O11 := Lib.hid (owns_below O10.out hb11)
          have C11 := Lib.hid hc11.holds
          have hic : i ≤ c5 := by
            rcases O11.out.2 with ⟨e1, e2⟩ | ⟨g', cap', cur, hv, hb, hh, hc, hc2, hs, hx⟩
            · omega
            · simp only [Value.slice.injEq] at hv; omega
          clear hb11 hc11 d0 d1 d2 KB10 B10 O10
          go_wp2_with fail
          refine (sameItems_yes a11 (some ⟨bb, o, none⟩) i i c5 (L.take i) w11 C11.out ((HoldsK.own O11.out).take i him) (by omega)).mono ?_
          rintro e w12 ⟨rfl, hb12⟩
          have B12 := Lib.hid (B11.out.trans (hb12.mono B11.out.size))
          clear hb12 B11
          go_wp2_with fail
          refine (AW.out _).mono ?_
          rintro e w13 ⟨rfl, hb13⟩
          go_wp2_with fail
          go_ret
          exact ⟨rfl, B12.out.trans (hb13.mono B12.out.size)⟩
      · have CB := Lib.hid (build_bad a n ca ts v w3 (H0.out.below B3.out) (by omega) (fun t ht => by have := HSS.out t ht; omega) hv hv0)
        have hvn : (v != 0) = true := by simpa using hv0
        clear hv
        go_wp2_with fail
        refine CB.out.mono ?_
        rintro e w4 ⟨rfl, hb4⟩
        have B4 := Lib.hid (B3.out.trans (hb4.mono B3.out.size))
        clear hb4
        go_wp2_with fail
        refine (AW.out _).mono ?_
        rintro e w5 ⟨rfl, hb5⟩
        go_wp2_with fail
        go_ret
        exact ⟨rfl, B4.out.trans (hb5.mono B4.out.size)⟩
open Go.ChangeShapes Go.WideShapes Go.ChangeAt in
theorem walkEnds_walk {H : Type} {enc : TypeId × Value → H} (W : World) (base : Nat) (v0 v1 : Value) (d0 d1 : DataW H) (p0 p1 : List MemPlace)
    (h0 : DataW.Trod enc Try.prog W 0 (fun _ => true) true 22 v0 d0 p0) (h1 : DataW.Trod enc Try.prog W 0 (fun _ => true) true 44 v1 d1 p1)
    (o0 : Value.okWide Try.prog W .any base 22 v0) (o1 : Value.okWide Try.prog W .any base 44 v1) :
    Calls Try.prog 7 #[v0, v1] W fun e w' => e = .returned (.bool true) ∧ RowKit.Below W.heap.size W w' := by
  obtain ⟨a0, n0, c0, k0, rfl, x0, y0, z0, b0, s0⟩ := open_texts_arg o0 h0
  obtain ⟨t, k, n, ht, _, _, rfl⟩ := query_arg o1 h1
  exact walkEnds_law a0 n0 c0 k0 t k n W x0 z0 b0 s0 ht
end Go.Proofs.Ytolggcdlpiedmaa
