/- WalkSplit: two batches, one behind the other, are one of both sizes together -/
import Derived.Test.YtolggcdlpiedmaaPkE
import Derived.Test.YtolggcdlpiedmaaPkF
import Derived.Deep.RegionHeld3
import Derived.ArgAppend
import Derived.Deep.AppendLies
namespace Go.Proofs.Ytolggcdlpiedmaa
open Go.RowKit
set_option linter.unusedVariables false
set_option maxRecDepth 20000
def BoxE (w0 : World) (q b o : Nat) (v0 v1 v2 v3 : Value) (w : World) : Prop := Below w0.heap.size w0 w ∧ w.cell? ⟨q, 0, none⟩ = some v0 ∧ w.cell? ⟨q, 1, none⟩ = some v1 ∧ w.cell? ⟨b, o, none⟩ = some v2 ∧ w.cell? ⟨b, o + 1, none⟩ = some v3
theorem boxE_carry {w0 w w' : World} {q b o : Nat} {v0 v1 v2 v3 : Value} (h : BoxE w0 q b o v0 v1 v2 v3 w) (hb : Below w.heap.size w w') : BoxE w0 q b o v0 v1 v2 v3 w' := by
  obtain ⟨h0, h1, h2, h3, h4⟩ := h
  exact ⟨h0.trans (hb.mono h0.size), by rw [hb.cell (p := ⟨q, 0, none⟩) (lt_of_cell h1)]; exact h1, by rw [hb.cell (p := ⟨q, 1, none⟩) (lt_of_cell h1)]; exact h2, by rw [hb.cell (p := ⟨b, o, none⟩) (lt_of_cell h3)]; exact h3, by rw [hb.cell (p := ⟨b, o + 1, none⟩) (lt_of_cell h3)]; exact h4⟩
theorem KBox.keep {b : Nat} {x : KV} {w w' : World} (h : KBox b x w) (hb : Below w.heap.size w w') : KBox b x w' := h.more hb (lt_of_cell h.1)
/-- what follows the item at i of the items behind av -/
theorem rest_next {ts : List Tx} {s : Tx} {k : Int} {first : Bool} {av : KV} {F : List KV} (hs : SortedS ts) (hma : sortK (matchK ts s k) = allK ts s k) (hF : restK first av (matchK ts s k) = F) (i : Nat) (hi : i < F.length) :
    restK false (F.getD i k0) (matchK ts s k) = F.drop (i + 1) := by
  have hst := allK_strict hs s k
  unfold restK at hF ⊢
  rw [hma] at hF ⊢
  rw [if_neg (by simp)]
  cases first with
  | true =>
    rw [if_pos rfl] at hF
    rw [← hF] at hi ⊢
    exact filter_at hst i hi
  | false =>
    rw [if_neg (by simp)] at hF
    have hFs : StrictK F := by rw [← hF]; exact hst.sub List.filter_sublist
    have hmem : F.getD i k0 ∈ F := by rw [List.getD_eq_getElem?_getD, List.getElem?_eq_getElem hi]; simp
    have hav : ordK av (F.getD i k0) < 0 := by
      have h1 := hmem
      rw [← hF] at h1
      have h2 := (List.mem_filter.1 h1).2
      rw [hF] at h2
      exact of_decide_eq_true h2
    rw [← filter_behind hav, hF]
    exact filter_at hFs i hi
theorem take_joinK (F : List KV) (A B : Nat) : F.take A ++ (F.drop A).take B = F.take (A + B) := by rw [List.take_add]
set_option maxRecDepth 100000 in
set_option maxHeartbeats 6400000 in
theorem walkSplit_law (a : Option Addr) (n ca : Nat) (ts : List Tx) (s : Tx) (k nq : Int) (first : Bool) (av : KV) (xa xb : Int) (w : World) (hh : HoldsT w a n ts) (hc : n ≤ ca) (hn : n ≤ 9223372036854775807) (hsz : ∀ t ∈ ts, t.size ≤ 9223372036854775807) (hs : s.size ≤ 9223372036854775807) (hav : av.2.size ≤ 9223372036854775807) :
    Calls Try.prog 8 #[.slice a n ca, .agg #[.string s, .int .i64 k, .int .i64 nq], .bool first, .agg #[.int .i64 av.1, .string av.2], .int .i64 xa, .int .i64 xb] w fun e w' => e = .returned (.bool true) ∧ Below w.heap.size w w' := by
  have B1 := Lib.hid ((below_one w (.cells #[.string s, .int .i64 k, .int .i64 nq] 44)).alloc (by simp) (.cells #[.int .i64 av.1, .string av.2] 24))
  have KB := Lib.hid (show QBox w.heap.size s k nq ((w.alloc (.cells #[.string s, .int .i64 k, .int .i64 nq] 44)).alloc (.cells #[.int .i64 av.1, .string av.2] 24)) from QBox.keep ⟨by rw [World.cell?_alloc_mark]; rfl, by rw [World.cell?_alloc_mark]; rfl, by rw [World.cell?_alloc_mark]; rfl⟩ (below_one _ _))
  have IB := Lib.hid (show KBox (w.heap.size + 1) av ((w.alloc (.cells #[.string s, .int .i64 k, .int .i64 nq] 44)).alloc (.cells #[.int .i64 av.1, .string av.2] 24)) from by
    rw [show w.heap.size + 1 = (w.alloc (.cells #[.string s, .int .i64 k, .int .i64 nq] 44)).heap.size by simp]
    exact ⟨by rw [World.cell?_alloc_mark]; rfl, by rw [World.cell?_alloc_mark]; rfl⟩)
  obtain ⟨w1, hw1⟩ : ∃ w1, (w.alloc (.cells #[.string s, .int .i64 k, .int .i64 nq] 44)).alloc (.cells #[.int .i64 av.1, .string av.2] 24) = w1 := ⟨_, rfl⟩
  have HW := Lib.hid hw1
  rw [hw1] at B1 KB IB
  have H0 := Lib.hid hh
  have AW := Lib.hid (fun w => awakeW_any w)
  obtain ⟨gr, hgr⟩ : ∃ c, greatW ts s = c := ⟨_, rfl⟩
  have CG := Lib.hid (greatW_any a n ca ts s gr w1 (hh.below B1.out) hn hsz hs hgr)
  obtain ⟨my, hmy⟩ : ∃ c, decide (mayP s k nq) = c := ⟨_, rfl⟩
  have CM := Lib.hid (fun w => may_lit s k nq my w hs hmy)
  obtain ⟨d0, d1, d2⟩ := KB.out
  obtain ⟨f0, f1⟩ := IB.out
  clear hw1 hh
  go_enter Try.func8, Try.ntmps8
  go_upto_region 1 with fail
  rw [HW.out]
  go_wp2_with fail
  refine CG.out.mono ?_
  rintro e w2 ⟨rfl, hb2⟩
  have B2 := Lib.hid (B1.out.trans (hb2.mono B1.out.size))
  have KB2 := Lib.hid (KB.out.keep hb2)
  have IB2 := Lib.hid (IB.out.keep hb2)
  clear d0 d1 d2 f0 f1 hb2 KB IB B1 CG HW
  obtain ⟨d0, d1, d2⟩ := KB2.out
  obtain ⟨f0, f1⟩ := IB2.out
  cases gr with
  | true =>
    go_wp2_with fail
    refine (AW.out _).mono ?_
    rintro e w3 ⟨rfl, hb3⟩
    go_wp2_with fail
    go_ret
    exact ⟨rfl, B2.out.trans (hb3.mono B2.out.size)⟩
  | false =>
    go_wp2_with fail
    refine (CM.out _).mono ?_
    rintro e w3 ⟨rfl, hb3⟩
    have B3 := Lib.hid (B2.out.trans (hb3.mono B2.out.size))
    have KB3 := Lib.hid (KB2.out.keep hb3)
    have IB3 := Lib.hid (IB2.out.keep hb3)
    clear d0 d1 d2 f0 f1 hb3 KB2 IB2 B2 CM
    obtain ⟨d0, d1, d2⟩ := KB3.out
    obtain ⟨f0, f1⟩ := IB3.out
    by_cases hbig : my = false ∨ 100 < av.2.size
    · have hbig2 : my = false ∨ (my = true ∧ 100 < av.2.size) := by cases my <;> simp_all
      clear hbig
      rcases hbig2 with rfl | ⟨rfl, hbig⟩
      all_goals
        go_wp2_with fail
        refine (AW.out _).mono ?_
        rintro e w4 ⟨rfl, hb4⟩
        go_wp2_with fail
        go_ret
        exact ⟨rfl, B3.out.trans (hb4.mono B3.out.size)⟩
    · obtain rfl : my = true := by cases my <;> simp_all
      have hav100 : av.2.size ≤ 100 := by
        have : ¬ 100 < av.2.size := fun h => hbig (.inr h)
        omega
      have hmay : mayP s k nq := of_decide_eq_true hmy
      have HMA := Lib.hid (may_match (ts := ts) hmay)
      obtain ⟨hl80, hs100, hss⟩ := greatW_no hgr
      have HSS := Lib.hid hs100
      have hlen : ts.length = n := H0.out.len
      clear hgr hmy hs100 hsz hmay hbig
      obtain ⟨v, hv⟩ : ∃ v, goodV ts = v := ⟨_, rfl⟩
      by_cases hv0 : v = 0
      · subst hv0
        have CB := Lib.hid (buildW_good a n ca ts w3 (H0.out.below B3.out) hc (by omega) HSS.out hv)
        clear hv
        go_wp2_with fail
        refine CB.out.mono ?_
        rintro e w4 ⟨g, rfl, hg, hb4⟩
        have G4 := Lib.hid hg
        have B4 := Lib.hid (B3.out.trans (hb4.mono B3.out.size))
        have KB4 := Lib.hid (KB3.out.keep hb4)
        have IB4 := Lib.hid (IB3.out.keep hb4)
        obtain ⟨F, hF⟩ : ∃ F, restK first av (matchK ts s k) = F := ⟨_, rfl⟩
        obtain ⟨m, hm⟩ : ∃ m, F.length = m := ⟨_, rfl⟩
        have hm100 : m ≤ 80 := by
          have h2 : F.length ≤ (matchK ts s k).length := by
            rw [← hF]; unfold restK; rw [← sortK_length (matchK ts s k)]
            split
            · exact Nat.le_refl _
            · exact List.length_filter_le _ _
          have := matchK_len ts s k
          omega
        have HNX := Lib.hid (fun i hi => rest_next hg.sorted HMA.out hF i hi)
        have CN := Lib.hid (fun (bt : Int) (i : Nat) (b : Bool) (hi : cntK bt m = i) (hb : decide (i = m) = b) w' (hg : GrOk g ts w') => next_c g ts s k first av bt F (F.take i) i b w' hg (by omega) hF (by rw [hm]; exact hi) rfl (by rw [hm]; exact hb))
        have HM := Lib.hid hm
        obtain ⟨lo6, hi6⟩ := low_bd xa 6 (by omega)
        obtain ⟨lo7, hi7⟩ := low_bd xb 6 (by omega)
        have CL1 := Lib.hid (fun w => low_any xa 6 (by omega) (by omega) w)
        have CL2 := Lib.hid (fun w => low_any xb 6 (by omega) (by omega) w)
        obtain ⟨A0, hA0⟩ : ∃ A : Nat, lowV xa 6 = (A : Int) := ⟨(lowV xa 6).toNat, by omega⟩
        obtain ⟨C0, hC0⟩ : ∃ A : Nat, lowV xb 6 = (A : Int) := ⟨(lowV xb 6).toNat, by omega⟩
        rw [hA0] at CL1 lo6 hi6
        rw [hC0] at CL2 lo7 hi7
        obtain ⟨A, hA⟩ : ∃ A, 1 + A0 = A := ⟨_, rfl⟩
        obtain ⟨C, hC⟩ : ∃ A, 1 + C0 = A := ⟨_, rfl⟩
        have qA : IntKind.i64.wrap (1 + (A0 : Int)) = (A : Int) := by rw [IntWalk.i64_in _ (by omega)]; omega
        have qC : IntKind.i64.wrap (1 + (C0 : Int)) = (C : Int) := by rw [IntWalk.i64_in _ (by omega)]; omega
        have hA7 : 1 ≤ A ∧ A ≤ 6 := by omega
        have hC7 : 1 ≤ C ∧ C ≤ 6 := by omega
        clear hb4 hg CB hF hm d0 d1 d2 f0 f1 KB3 IB3 lo6 hi6 lo7 hi7 hA hC
        obtain ⟨d0, d1, d2⟩ := KB4.out
        obtain ⟨f0, f1⟩ := IB4.out
        go_wp2_with fail
        refine (CL1.out _).mono ?_
        rintro e w5 ⟨rfl, rfl⟩
        go_wp2_with fail
        refine (CL2.out _).mono ?_
        rintro e w5 ⟨rfl, rfl⟩
        by_cases hmA : m ≤ A
        · have CN1 := Lib.hid (CN.out (A : Int) m true (by unfold cntK; omega) (by simp) w4 G4.out)
          go_wp2_with fail
          refine CN1.out.mono ?_
          rintro e w6 ⟨a6, rfl, hc6, -, hb6⟩
          have B6 := Lib.hid (B4.out.trans (hb6.mono B4.out.size))
          have KB6 := Lib.hid (KB4.out.keep hb6)
          have IB6 := Lib.hid (IB4.out.keep hb6)
          have C6 := Lib.hid hc6.holds
          have qAC : IntKind.i64.wrap ((A : Int) + (C : Int)) = ((A + C : Nat) : Int) := by rw [IntWalk.i64_in _ (by omega)]; omega
          obtain ⟨AC, hAC⟩ : ∃ x, A + C = x := ⟨_, rfl⟩
          rw [hAC] at qAC
          have CN2 := Lib.hid (CN.out (AC : Int) m true (by unfold cntK; omega) (by simp) w6 (G4.out.below hb6))
          clear hb6 hc6 d0 d1 d2 f0 f1 KB4 IB4 B4 CN1 G4
          obtain ⟨d0, d1, d2⟩ := KB6.out
          obtain ⟨f0, f1⟩ := IB6.out
          go_wp2_with fail
          refine CN2.out.mono ?_
          rintro e w7 ⟨a7, rfl, hc7, -, hb7⟩
          have B7 := Lib.hid (B6.out.trans (hb7.mono B6.out.size))
          have C7 := Lib.hid hc7.holds
          have C67 := Lib.hid (C6.out.below hb7)
          clear hb7 hc7 d0 d1 d2 f0 f1 B6
          go_wp2_with fail
          refine (sameItems_yes a6 a7 m m m (F.take m) w7 C67.out C7.out (by omega)).mono ?_
          rintro e w8 ⟨rfl, hb8⟩
          have B8 := Lib.hid (B7.out.trans (hb8.mono B7.out.size))
          clear hb8 B7
          go_wp2_with fail
          refine (AW.out _).mono ?_
          rintro e w9 ⟨rfl, hb9⟩
          go_wp2_with fail
          go_ret
          exact ⟨rfl, B8.out.trans (hb9.mono B8.out.size)⟩
        · have CN1 := Lib.hid (CN.out (A : Int) A false (by unfold cntK; omega) (decide_eq_false (by omega)) w4 G4.out)
          go_wp2_with fail
          refine CN1.out.mono ?_
          rintro e w6 ⟨a6, rfl, hc6, hna6, hb6⟩
          have B6 := Lib.hid (B4.out.trans (hb6.mono B4.out.size))
          have KB6 := Lib.hid (KB4.out.keep hb6)
          have IB6 := Lib.hid (IB4.out.keep hb6)
          have G6 := Lib.hid (G4.out.below hb6)
          have C6 := Lib.hid hc6.holds
          have qAC : IntKind.i64.wrap ((A : Int) + (C : Int)) = ((A + C : Nat) : Int) := by rw [IntWalk.i64_in _ (by omega)]; omega
          obtain ⟨AC, hAC⟩ : ∃ x, A + C = x := ⟨_, rfl⟩
          rw [hAC] at qAC
          obtain ⟨N2, hN2⟩ : ∃ x, min AC m = x := ⟨_, rfl⟩
          obtain ⟨e2, he2⟩ : ∃ x, decide (N2 = m) = x := ⟨_, rfl⟩
          have CN2 := Lib.hid (CN.out (AC : Int) N2 e2 (by unfold cntK; omega) he2 w6 G6.out)
          clear hb6 hc6 d0 d1 d2 f0 f1 KB4 IB4 B4 CN1 G4
          obtain ⟨d0, d1, d2⟩ := KB6.out
          obtain ⟨f0, f1⟩ := IB6.out
          go_wp2_with fail
          refine CN2.out.mono ?_
          rintro e w7 ⟨a7, rfl, hc7, -, hb7⟩
          have B7 := Lib.hid (B6.out.trans (hb7.mono B6.out.size))
          have G7 := Lib.hid (G6.out.below hb7)
          have KB7 := Lib.hid (KB6.out.keep hb7)
          have C7 := Lib.hid hc7.holds
          have C67 := Lib.hid (C6.out.below hb7)
          clear hb7 hc7 d0 d1 d2 f0 f1 B6 KB6 IB6 G6 CN2 C6
          obtain ⟨d0, d1, d2⟩ := KB7.out
          obtain ⟨i, hi⟩ : ∃ i, i + 1 = A := ⟨A - 1, by omega⟩
          obtain ⟨bb, o, hae, hcc⟩ := C67.out.at (by omega)
          subst hae
          obtain ⟨x0, x1⟩ := hcc i (by omega)
          have hgx : (F.take A).getD i k0 = F.getD i k0 := by
            rw [List.getD_eq_getElem?_getD, List.getD_eq_getElem?_getD, List.getElem?_take_of_lt (by omega)]
          rw [hgx] at x0 x1
          have HD := Lib.hid (HNX.out i (by have := HM.out; omega))
          rw [hi] at HD
          obtain ⟨x, hx⟩ : ∃ x, F.getD i k0 = x := ⟨_, rfl⟩
          rw [hx] at x0 x1 HD
          have hdl : (F.drop A).length = m - A := by rw [List.length_drop, HM.out]
          obtain ⟨N3, hN3⟩ : ∃ x, min C (m - A) = x := ⟨_, rfl⟩
          have hN31 : 1 ≤ N3 := by omega
          have CN3 := Lib.hid (fun w' (hg : GrOk g ts w') => next_c g ts s k false x (C : Int) (F.drop A) ((F.drop A).take N3) N3 e2 w' hg (by omega) HD.out (by rw [hdl]; unfold cntK; omega) rfl (by rw [hdl, ← he2]; apply decide_eq_decide.2; omega))
          have T := Lib.hid (show BoxE w7 w.heap.size bb (o + i * 2) (.string s) (.int .i64 k) (.int .i64 x.1) (.string x.2) w7 from ⟨Below.refl _ _, d0, d1, x0, x1⟩)
          have q1 : IntKind.i64.wrap ((A : Int) - 1) = (i : Int) := by rw [IntWalk.i64_in _ (by omega)]; omega
          have q2 : (0 : Int) ≤ (i : Int) := by omega
          have q3 : (i : Int) < (A : Int) := by omega
          have HNN := Lib.hid (show A + N3 = N2 from by omega)
          have hN2m : N2 ≤ 80 := by omega
          have hN3m : N3 + A ≤ m := by omega
          clear hcc x0 x1 d0 d1 d2 hgx hx hi hdl HD hN2 hN3 he2
          go_upto_region 13 with fail
          go_region_held3 (fun w' => Below w7.heap.size w7 w' ∧ w'.cell? ⟨w.heap.size, 0, none⟩ = some (.string s) ∧ w'.cell? ⟨w.heap.size, 1, none⟩ = some (.int .i64 k) ∧ w'.cell? ⟨bb, o + i * 2, none⟩ = some (.int .i64 x.1) ∧ w'.cell? ⟨bb, o + i * 2 + 1, none⟩ = some (.string x.2))
            (first | assumption | exact boxE_carry T.out (Below.refl _ _).drew | exact boxE_carry (by assumption) (by assumption))
            ((go_at_call 15; (with_reducible refine (CN3.out _ (G7.out.below (And.left (by assumption)))).mono ?_); rintro e w' ⟨a10, rfl, hc10, -, hb10⟩))
          rename_i TT
          obtain ⟨hbl, -⟩ := TT
          obtain ⟨w10, hw10⟩ : ∃ w10, w10 = w' := ⟨_, rfl⟩
          subst hw10
          have B10 := Lib.hid (B7.out.trans (hbl.mono B7.out.size))
          have C10 := Lib.hid hc10.holds
          have C610 := Lib.hid (C67.out.below hbl)
          have C710 := Lib.hid (C7.out.below hbl)
          clear hb10 hbl T KB7 B7 hc10 C67 C7
          obtain ⟨by_, oy, hay, -⟩ := C10.out.at (by omega)
          subst hay
          obtain ⟨i0, hi0, hz0, hz1, hz2⟩ := info_parts item_info
          have HCX := Lib.hid (show ∀ ad, (some ⟨bb, o, none⟩ : Option Addr) = some ad → ∀ j u, (keysV (F.take A))[j]? = some u → w10.cell? (ad.add j) = some u from fun ad hb => by cases hb; exact C610.out.cells)
          have HCY := Lib.hid C10.out.cells
          have HONE := Lib.hid (show ∀ u ∈ keysV ((F.drop A).take N3), u.oneCell' = true from keysV_one _)
          have HLX := Lib.hid (show (keysV (F.take A)).length = A * 2 from by rw [keysV_len, List.length_take]; have := HM.out; omega)
          have HLY := Lib.hid (show (keysV ((F.drop A).take N3)).length = N3 * 2 from by rw [keysV_len, List.length_take, List.length_drop]; have := HM.out; have := HNN.out; omega)
          go_wp2_with (at_builtin; refine wpList_append_grows _ rfl (.tmp 114) (.tmp 115) 31 rfl 24 i0 _ 2 24 Try.underlying31 hi0 hz0 hz1 hz2 rfl (by decide) (some ⟨bb, o, none⟩) A A (keysV (F.take A)) rfl (fun h => by cases h) HLX.out HCX.out ⟨by_, oy, none⟩ N3 N3 (keysV ((F.drop A).take N3)) rfl HLY.out HCY.out HONE.out (by omega) (by unfold maxLen; omega) (by omega) ?_; intro v11 w11 hown11 hg11; obtain ⟨g11, c11, rfl, -, -⟩ := hown11.form (by omega); rw [HNN.out] at hown11 ⊢)
          rw [← keysV_app, take_joinK, HNN.out] at hown11
          have R11 := Lib.hid (HoldsK.own hown11)
          have b11 := (Below.refl w10.heap.size w10).grown hg11 (Nat.le_refl _) (fun k hk => by cases hk)
          have B11 := Lib.hid (B10.out.trans (b11.mono B10.out.size))
          have C711 := Lib.hid (C710.out.below b11)
          clear hown11 hg11 b11 B10 C710
          refine (sameItems_yes (some ⟨g11, 0, none⟩) a7 N2 c11 N2 (F.take N2) w11 R11.out C711.out (by omega)).mono ?_
          rintro e w12 ⟨rfl, hb12⟩
          have B12 := Lib.hid (B11.out.trans (hb12.mono B11.out.size))
          clear hb12 B11
          cases e2
          all_goals
            go_wp2_with fail
            refine (AW.out _).mono ?_
            rintro e w13 ⟨rfl, hb13⟩
            go_wp2_with fail
            go_ret
            exact ⟨rfl, B12.out.trans (hb13.mono B12.out.size)⟩
      · have CB := Lib.hid (build_bad a n ca ts v w3 (H0.out.below B3.out) (by omega) (fun t ht => by have := HSS.out t ht; omega) hv hv0)
        have hvn : (v != 0) = true := by simpa using hv0
        clear hv
        go_wp2_with fail
        refine CB.out.mono ?_
        rintro e w4 ⟨rfl, hb4⟩
        have B4 := Lib.hid (B3.out.trans (hb4.mono B3.out.size))
        clear hb4
        go_wp2_with fail
        refine (AW.out _).mono ?_
        rintro e w5 ⟨rfl, hb5⟩
        go_wp2_with fail
        go_ret
        exact ⟨rfl, B4.out.trans (hb5.mono B4.out.size)⟩
open Go.ChangeShapes Go.WideShapes Go.ChangeAt in
theorem walkSplit_walk {H : Type} {enc : TypeId × Value → H} (W : World) (base : Nat) (v0 v1 v2 v3 v4 v5 : Value) (d0 d1 d2 d3 d4 d5 : DataW H) (p0 p1 p2 p3 p4 p5 : List MemPlace)
    (h0 : DataW.Trod enc Try.prog W 0 (fun _ => true) true 22 v0 d0 p0) (h1 : DataW.Trod enc Try.prog W 0 (fun _ => true) true 44 v1 d1 p1) (h2 : DataW.Trod enc Try.prog W 0 (fun _ => true) true 4 v2 d2 p2) (h3 : DataW.Trod enc Try.prog W 0 (fun _ => true) true 24 v3 d3 p3) (h4 : DataW.Trod enc Try.prog W 0 (fun _ => true) true 3 v4 d4 p4) (h5 : DataW.Trod enc Try.prog W 0 (fun _ => true) true 3 v5 d5 p5)
    (o0 : Value.okWide Try.prog W .any base 22 v0) (o1 : Value.okWide Try.prog W .any base 44 v1) (o2 : Value.okWide Try.prog W .any base 4 v2) (o3 : Value.okWide Try.prog W .any base 24 v3) (o4 : Value.okWide Try.prog W .any base 3 v4) (o5 : Value.okWide Try.prog W .any base 3 v5) :
    Calls Try.prog 8 #[v0, v1, v2, v3, v4, v5] W fun e w' => e = .returned (.bool true) ∧ RowKit.Below W.heap.size W w' := by
  obtain ⟨a0, n0, c0, k0, rfl, x0, y0, z0, b0, s0⟩ := open_texts_arg o0 h0
  obtain ⟨t, k, n, ht, _, _, rfl⟩ := query_arg o1 h1
  obtain ⟨x2, rfl, rfl, rfl⟩ := open_bool Try.underlying4 o2 h2
  obtain ⟨x3, hx3, rfl⟩ := open_pair Try.underlying24 (by kernel_rfl) rfl rfl ⟨rfl, rfl⟩ ⟨rfl, rfl⟩ o3 h3
  obtain ⟨x4, rfl, rfl, rfl, b4⟩ := open_int Try.underlying3 o4 h4
  obtain ⟨x5, rfl, rfl, rfl, b5⟩ := open_int Try.underlying3 o5 h5
  exact walkSplit_law a0 n0 c0 k0 t k n x2 x3 x4 x5 W x0 z0 b0 s0 ht hx3.2
end Go.Proofs.Ytolggcdlpiedmaa
