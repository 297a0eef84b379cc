/- merge: the script against the document's own merge -/
import Derived.Test.YtgghbgmeebihbaaPkF
import Derived.Test.YtgghbgmeebihbaaPkA
namespace Go.Proofs.Ytgghbgmeebihbaa
open Go.RowKit
set_option linter.unusedVariables false
set_option maxRecDepth 20000
theorem numM_any (v : Int) (w : World) : Calls Try.prog 13 #[.int .i64 v] w fun e w' => e = .returned (.int .i64 v) ∧ w = w' := by
  go_enter Try.func13, Try.ntmps13
  go_wp2_with fail
  go_ret
  exact ⟨rfl, rfl⟩
def TT (w0 w : World) (b c : Nat) (n : Int) (j : Nat) : Prop := ∃ T P S1 S2, TwoO (QM b n T P) (RM c n T P) w0 w S1 S2 ∧ Pln n T P j
set_option maxHeartbeats 12800000 in
set_option maxRecDepth 100000 in
theorem mergeScript_any (la : Option Addr) (ln lc : Nat) (zs : List Int) (n : Int) (a : Option Addr) (an ac : Nat) (xs : Nat → MAct) (w : World) (hL : HoldsI .i64 w la ln zs) (hln : ln ≤ 9223372036854775807) (h : HoldsMA w a an xs) (hn : an ≤ 9223372036854775807) (hok : ∀ i, i < an → MActOk w (xs i)) :
    Calls Try.prog 3 #[.slice la ln lc, .int .i64 n, .slice a an ac] w fun e w' => e = .returned (.bool true) ∧ Below w.heap.size w w' := by
  have H := Lib.hid h; have OK := Lib.hid hok; have HL := Lib.hid hL
  have CG := Lib.hid (greatM_any a an ac xs w h hn hok)
  clear h hok hL
  go_enter Try.func3, Try.ntmps3
  go_wp2_with fail
  refine CG.out.mono ?_
  rintro e w' ⟨z, rfl, rfl, hz⟩
  have HZ := Lib.hid hz
  clear CG hz
  have AW := Lib.hid (fun w' (hb : Below w.heap.size w w') => show Calls Try.prog 10 #[] w' fun e w'' => e = .returned (.bool true) ∧ Below w.heap.size w w'' from (awakeM_any w').mono (fun e w'' h => ⟨h.1, hb.trans (h.2.mono hb.size)⟩))
  cases z
  case true =>
    go_wp2_with fail
    refine (AW.out _ (Below.refl _ _)).mono ?_
    rintro e w' ⟨rfl, hb⟩
    have B1 := Lib.hid hb
    clear hb
    go_wp2_with fail
    go_ret
    exact ⟨rfl, B1.out⟩
  have hn60 : an ≤ 60 := (HZ.out rfl).1
  have GK := Lib.hid (HZ.out rfl).2
  by_cases h10 : ln ≤ 10
  case neg =>
    have d1 : decide ((ln : Int) > 10) = true := decide_eq_true (by omega)
    have d2 : decide (10 < ln) = true := decide_eq_true (by omega)
    go_wp2_with fail
    refine (AW.out _ (Below.refl _ _)).mono ?_
    rintro e w' ⟨rfl, hb⟩
    have B1 := Lib.hid hb
    clear hb
    go_wp2_with fail
    go_ret
    exact ⟨rfl, B1.out⟩
  have d1 : decide ((ln : Int) > 10) = false := decide_eq_false (by omega)
  have d2 : decide (10 < ln) = false := decide_eq_false (by omega)
  by_cases hg : (1 ≤ ln ∧ ln ≤ 6) ∧ 1 ≤ n ∧ n ≤ 10
  case neg =>
    have HG := Lib.hid hg
    clear hg
    go_wp2_with fail
    refine (mnew_bad la ln lc n w HG.out).mono ?_
    rintro e w' ⟨rfl, rfl⟩
    go_wp2_with fail
    refine (rmnew_bad la ln lc n w HG.out).mono ?_
    rintro e w' ⟨rfl, rfl⟩
    go_wp2_with fail
    refine (numM_any _ _).mono ?_
    rintro e w' ⟨rfl, rfl⟩
    go_wp2_with fail
    refine (AW.out _ (Below.refl _ _)).mono ?_
    rintro e w' ⟨rfl, hb⟩
    have B1 := Lib.hid hb
    clear hb
    go_wp2_with fail
    go_ret
    exact ⟨rfl, B1.out⟩
  have HG := Lib.hid hg
  clear hg d1 d2
  have d1 : decide ((ln : Int) > 10) = false := decide_eq_false (by omega)
  have d2 : decide (10 < ln) = false := decide_eq_false (by omega)
  go_wp2_with fail
  refine (mnew_any la ln lc zs n w HL.out HG.out.1 HG.out.2).mono ?_
  rintro e w1 ⟨b, S1, rfl, hm, hS1, hb1⟩
  have M1 := Lib.hid hm; have L1 := Lib.hid hS1; have B1 := Lib.hid hb1
  clear hm hS1 hb1
  go_wp2_with fail
  refine (rmnew_any la ln lc zs n w1 (HL.out.below B1.out) HG.out.1 HG.out.2).mono ?_
  rintro e w2 ⟨c, S2, rfl, hm, hS2, hb2⟩
  have PS : (zs.map mkS).map spl = zs.map mkS := by rw [List.map_map]; rfl
  have T2 := Lib.hid (show TT w w2 b c n 0 from ⟨[], zs.map mkS, S1, S2, ⟨⟨_, M1.out.below hb2, PS⟩, ⟨_, hm, PS⟩, fun k h1 h2 => by
      have h3 := M1.out.lt k h1; have h4 := hS2 k h2; omega, L1.out, fun k hk => Nat.le_trans B1.out.size (hS2 k hk), B1.out.trans (hb2.mono B1.out.size)⟩, Pln.start (by have := HL.out.1; have := HG.out.1.2; omega) HG.out.2⟩)
  clear hm hS2 hb2 PS M1 L1 B1
  go_wp2_with fail
  refine (numM_any _ _).mono ?_
  rintro e w' ⟨rfl, rfl⟩
  clear d1 d2
  go_wp2_with fail
  go_loopw [11] (fun iv wr => ∃ j : Nat, j ≤ an ∧ iv = .int .i64 j ∧ Hid (TT w wr b c n j)) (fun iv _ => an - (intOf iv).toNat)
  case atStart => exact ⟨0, by omega, rfl, T2⟩
  case round =>
    obtain ⟨j, hj, rfl, hF⟩ := hrel
    rename World => wr
    obtain ⟨T, P, S1, S2, hT, hP⟩ := hF.out
    have C0 := Lib.hid hT; have PL := Lib.hid hP
    clear hF hT hP T2
    by_cases hlt : j < an
    · obtain ⟨ab, ao, rfl, hc⟩ := (H.out.below C0.out.b) (by omega)
      have hX := hc j hlt
      obtain ⟨x, hxx⟩ : ∃ x, xs j = x := ⟨_, rfl⟩
      rw [hxx] at hX
      have XK := Lib.hid (show MActOk w x from hxx ▸ OK.out j hlt)
      have hgk := GK.out j hlt
      rw [hxx] at hgk
      obtain ⟨hkl, hks⟩ := greatK_no_iff.1 hgk
      have KL := Lib.hid XK.out.1.1
      have hin80 : x.inn ≤ 80 := by have := KL.out; omega
      have KSZ := Lib.hid (show ∀ k ∈ x.ks, k.2.size ≤ 1048576 from fun k hk => by have := hks k hk; omega)
      obtain ⟨x0, x1, x2, x3, x4⟩ := hX
      have A3 := Lib.hid (mactIn_new wr x wr.heap.size 36 (0, 0) rfl)
      have C3 := Lib.hid (C0.out.more (qm_ok b n T P) (rm_ok c n T P) (below_one wr (.cells #[.bool x.tell, .bool x.en, .int .i64 x.shard, .int .i64 x.seq, .slice x.ia x.inn x.ic] 36)))
      have NP1 := Lib.hid (show ¬ S1 wr.heap.size from fun hk => by have := (qm_ok b n T P).lt C0.out.q _ hk; omega)
      have NP2 := Lib.hid (show ¬ S2 wr.heap.size from fun hk => by have := (rm_ok c n T P).lt C0.out.r _ hk; omega)
      have PG := Lib.hid (show w.heap.size ≤ wr.heap.size from C0.out.b.size)
      have i1 : (0 : Int) ≤ (j : Int) := by omega
      have i2 : (j : Int) < (an : Int) := by omega
      clear hc hxx hgk hkl hks C0
      go_upto_region 13 with fail
      clear x0 x1 x2 x3 x4
      generalize wr.alloc (.cells #[.bool x.tell, .bool x.en, .int .i64 x.shard, .int .i64 x.seq, .slice x.ia x.inn x.ic] 36) = w3 at *
      generalize wr.heap.size = p at *
      have M3 := Lib.hid (show MC w w3 (QM b n T P) (RM c n T P) x p S1 S2 from ⟨C3.out, NP1.out, NP2.out, A3.out⟩)
      clear C3 A3 NP1 NP2
      obtain ⟨-, -, -, -, a4⟩ := M3.out.act
      simp only [Nat.zero_add] at a4
      go_wp2_with fail
      refine (lendItems_any x.ia x.inn x.ic x.ks w3 (XK.out.1.below M3.out.t.b) XK.out.2.1 (by omega)).mono ?_
      rintro e w4 ⟨rfl, hb4, hroom⟩
      have M4 := Lib.hid (M3.out.more (qm_ok b n T P) (rm_ok c n T P) hb4)
      have N4 := Lib.hid (show MB w w4 (QM b n T P) (RM c n T P) x p w3.heap.size S1 S2 from ⟨M4.out, fun hk => by have := (qm_ok b n T P).lt M3.out.t.q _ hk; omega, fun hk => by have := (rm_ok c n T P).lt M3.out.t.r _ hk; omega, fun e => by have := M3.out.lt; omega, M3.out.t.b.size, hroom⟩)
      clear hb4 hroom a4 M4 M3
      generalize w3.heap.size = B at *
      obtain ⟨zp, hzp⟩ : ∃ zp, putB n T P x.shard x.seq x.ks x.en = zp := ⟨_, rfl⟩
      obtain ⟨P', hP'⟩ : ∃ P', (if zp then P.set x.shard.toNat (putSM (P.getD x.shard.toNat sm0) x.ks x.en) else P) = P' := ⟨_, rfl⟩
      have PL2 := Lib.hid (show Pln n T P' (j + 1) from by
        rw [← hP']
        cases zp
        · exact PL.out.up
        · rw [if_pos rfl]
          have hr := hzp
          unfold putB at hr
          have h0 := of_decide_eq_true (Bool.and_eq_true_iff.1 hr).1
          exact PL.out.put _ (by omega) x.ks x.en KSZ.out (by have := KL.out; omega))
      have CQ := Lib.hid (fun w' Sx (h' : QM b n T P w' Sx) hk hs => qput x.shard x.seq (some ⟨B, 0, none⟩) x.inn (x.inn + 3) x.ks x.en zp P' b j n T P Sx w' h' PL.out (by omega) hk (fun e => by cases e) (by omega) hs hzp hP')
      have CR := Lib.hid (fun w' Sx (h' : RM c n T P w' Sx) hk => rput x.shard x.seq x.ia x.inn x.ic x.ks x.en zp P' c j n T P Sx w' h' PL.out (by omega) hk XK.out.2.1 XK.out.2.2.1 KSZ.out hzp hP')
      have SB := Lib.hid (show ∀ Sx : Nat → Prop, ¬ Sx B → 0 < x.inn → ∀ fb fo, (some ⟨B, 0, none⟩ : Option Addr) = some ⟨fb, fo, none⟩ → ¬ Sx fb from fun Sx hn _ fb fo e => by injection e with e; injection e with e1 e2; rw [← e1]; exact hn)
      have OQ := Lib.hid (qm_ok b n T P); have OQ' := Lib.hid (qm_ok b n T P'); have OR := Lib.hid (rm_ok c n T P); have OR' := Lib.hid (rm_ok c n T P')
      have HXA := Lib.hid (show ∀ w', Below w.heap.size w w' → HoldsK w' x.ia x.inn x.ks from fun w' hb => XK.out.1.below hb)
      have N5 := Lib.hid (N4.out.more OQ.out OR.out (Below.refl w4.heap.size w4).drew)
      have e1 : (zp != zp) = false := by simp
      obtain ⟨y0, y1, y2, y3, y4⟩ := N5.out.m.act
      simp only [Nat.zero_add] at y1 y2 y3 y4
      clear hzp hP'
      go_upto_region 14 with fail
      go_cut [89] (fun u wc => u = .bool false ∧ Hid (∃ T1 T2, MB w wc (QM b n T P') (RM c n T P') x p B T1 T2))
      case first =>
        go_region_held3 (fun w' => w'.cell? ⟨p, 0, none⟩ = some (.bool x.tell) ∧ w'.cell? ⟨p, 1, none⟩ = some (.bool x.en) ∧ w'.cell? ⟨p, 2, none⟩ = some (.int .i64 x.shard) ∧ w'.cell? ⟨p, 3, none⟩ = some (.int .i64 x.seq) ∧ w'.cell? ⟨p, 4, none⟩ = some (.slice x.ia x.inn x.ic))
          (first | assumption | exact N5.out.m.act | exact hM3.m.act | exact hM2.m.act | exact hM1.m.act | exact hN1.m.act)
          (first
            | (go_at_call 15; (with_reducible refine (CQ.out _ _ N5.out.m.t.q (N5.out.holds KL.out) (SB.out _ N5.out.nb1)).mono ?_); rintro e w' ⟨rfl, hPQ⟩; obtain ⟨T1, hM1⟩ := N5.out.left OQ'.out OR.out hPQ)
            | (go_at_call 16; (with_reducible refine (CR.out _ _ hM1.m.t.r (HXA.out _ hM1.m.t.b)).mono ?_); rintro e w' ⟨rfl, hPR⟩; obtain ⟨T2, hM2⟩ := hM1.right OQ'.out OR'.out hPR)
            | (go_at_call 16; (with_reducible refine (CR.out _ _ N5.out.m.t.r (HXA.out _ N5.out.m.t.b)).mono ?_); rintro e w' ⟨rfl, hPR⟩; obtain ⟨T2, hN1⟩ := N5.out.right OQ.out OR'.out hPR)
            | (go_at_call 15; (with_reducible refine (CQ.out _ _ hN1.m.t.q (hN1.holds KL.out) (SB.out _ hN1.nb1)).mono ?_); rintro e w' ⟨rfl, hPQ⟩; obtain ⟨T1, hM2⟩ := hN1.left OQ'.out OR'.out hPQ)
            | (go_at_call 17; (with_reducible refine (keptItems_yes B 61 x.inn x.ks x.ia x.ic _ KL.out hM2.room (HXA.out _ hM2.m.t.b) (by omega)).mono ?_); rintro e w' ⟨rfl, hbk⟩; have hM3 := hM2.more OQ'.out OR'.out hbk))
        all_goals (go_wp2_with fail; go_meet)
        all_goals exact ⟨rfl, Lib.hid ⟨T1, T2, hM3⟩⟩
      case rest =>
        obtain ⟨rfl, hE⟩ := hcut
        rename World => w5
        obtain ⟨T1, T2, hM⟩ := hE.out
        have N6 := Lib.hid hM
        clear hE hM N4 N5 CQ CR SB y0 y1 y2 y3 y4 e1
        go_wp2_with fail
        refine (overItems_any w.heap.size (some ⟨B, 0, none⟩) x.inn (x.inn + 3) _ w5 (roomy2_owns N6.out.room KL.out N6.out.nb0 (by omega)) N6.out.m.t.b.size (by omega)).mono ?_
        rintro e w6 ⟨rfl, hb6, hg6⟩
        have M6 := Lib.hid (N6.out.m.same OQ'.out OR'.out (turn_grown hg6) (fun k hk e => N6.out.nb1 (by injection e with e; rw [← show k = B from e]; exact hk)) (fun k hk e => N6.out.nb2 (by injection e with e; rw [← show k = B from e]; exact hk)) (fun e => N6.out.nbp (by injection e with e; exact (show p = B from e).symm)) (fun k e => by injection e with e; rw [show k = B from e]; exact N6.out.nb0))
        clear hb6 hg6 N6
        obtain ⟨y0, -⟩ := M6.out.act
        go_upto_if 93 with fail
        go_cut [] (fun wc => Hid (∃ T' P2 U1 U2, MC w wc (QM b n T' P2) (RM c n T' P2) x p U1 U2 ∧ Pln n T' P2 (j + 1)))
        case first =>
          obtain ⟨zt, hzt⟩ : ∃ z, x.tell = z := ⟨_, rfl⟩
          rw [hzt]
          clear hzt y0
          cases zt
          · go_wp2_with fail
            go_meet
            exact Lib.hid ⟨T, P', T1, T2, M6.out, PL2.out⟩
          · obtain ⟨⟨T', P2, out⟩, hR⟩ : ∃ r, tellF n 10 T P' [] = r := ⟨_, rfl⟩
            have HR := Lib.hid hR
            have OL : out.length ≤ 10 := by have := tell_out n 10 T P' []; rw [hR] at this; simpa using this
            have PL3 := Lib.hid (show Pln n T' P2 (j + 1) from by have := PL2.out.tell 10 T P' []; rw [hR] at this; exact this)
            clear hR
            go_wp2_with fail
            refine (qtell T' P2 out b (j + 1) n T P' T1 w6 M6.out.t.q PL2.out HR.out).mono ?_
            rintro e w7 ⟨oa, oc, rfl, hown, U1, hq, hs, ht, ha⟩
            have M7 := Lib.hid (M6.out.left1 OR'.out hq hs ht)
            have X7 := Lib.hid hown
            have NA := Lib.hid ha
            have Z67 := Lib.hid ht.size
            have LT2 := Lib.hid (fun k (hk : T2 k) => OR'.out.lt M6.out.t.r k hk)
            clear hown hq hs ht ha
            go_wp2_with fail
            refine (rtell T' P2 out c (j + 1) n T P' T2 w7 M7.out.t.r PL2.out HR.out).mono ?_
            rintro e w8 ⟨ua, uc, rfl, hown, U2, hr, hs, ht, -⟩
            have M8 := Lib.hid (M7.out.right1 (qm_ok b n T' P2) hr hs ht)
            have X8 := Lib.hid (show w8.ownsRow w6.heap.size 61 2 (.slice oa out.length oc) out.length (keysV out) from mowns_block0 X7.out (fun g hg => ht.block g (X7.out.lt g (by rw [hg]; rfl)).2 (fun h2 => by
              have h1 := (X7.out.lt g (by rw [hg]; rfl)).1
              have h3 := LT2.out g h2
              omega)))
            have Y8 := Lib.hid hown
            have SU := Lib.hid hs
            have Z78 := Lib.hid ht.size
            clear hown hr hs ht
            go_wp2_with fail
            refine (sameItems_yes oa ua out.length oc uc out w8 (HoldsK.own X8.out) (HoldsK.own Y8.out) (by omega)).mono ?_
            rintro e w9 ⟨rfl, hb9⟩
            have M9 := Lib.hid (M8.out.more (qm_ok b n T' P2) (rm_ok c n T' P2) hb9)
            have X9 := Lib.hid (owns_below X8.out hb9)
            have Z69 := Lib.hid (show w6.heap.size ≤ w9.heap.size from by have h1 := Z67.out; have h2 := hb9.size; have h6 := Z78.out; omega)
            clear hb9
            go_wp2_with fail
            refine (overItems_any w6.heap.size oa out.length oc _ w9 X9.out Z69.out (by omega)).mono ?_
            rintro e w10 ⟨rfl, hb10, hg10⟩
            have M10 := Lib.hid (M9.out.same (qm_ok b n T' P2) (rm_ok c n T' P2) (turn_grown hg10) (fun k hk e => NA.out k (mownb X9.out e) hk) (fun k hk e => by
              have h1 := X7.out.lt k e.symm
              rcases SU.out k hk with h2 | h2
              · have := LT2.out k h2; omega
              · omega) (fun e => by have h1 := X7.out.lt p e.symm; have := M6.out.lt; omega) (fun k e => by have h1 := X7.out.lt k e.symm; have := M6.out.t.b.size; omega))
            clear hb10 hg10
            go_wp2_with fail
            go_meet
            exact Lib.hid ⟨T', P2, U1, U2, M10.out, PL3.out⟩
        case rest =>
          obtain ⟨T', P2, U1, U2, hM, hP⟩ := hcut.out
          rename World => w11
          have M11 := Lib.hid hM
          have PL3 := Lib.hid hP
          clear hcut hM hP M6 y0 PL PL2
          obtain ⟨-, -, y2, -⟩ := M11.out.act
          simp only [Nat.zero_add] at y2
          go_wp2_with fail
          refine (sameM_any x.shard b c (j + 1) n T' P2 U1 U2 w11 M11.out.t.q M11.out.t.r PL3.out).mono ?_
          rintro e w12 ⟨rfl, hb12⟩
          have M12 := Lib.hid (show TT w w12 b c n (j + 1) from ⟨T', P2, U1, U2, M11.out.t.more (qm_ok b n T' P2) (rm_ok c n T' P2) hb12, PL3.out⟩)
          clear hb12 y2
          go_wp2_with fail
          go_roundw
          case rel => exact ⟨j + 1, by omega, by go_num, M12⟩
          case measure => simp [intOf] <;> omega
    · have B3 := Lib.hid C0.out.b
      go_wp2_with fail
      refine (AW.out _ B3.out).mono ?_
      rintro e w' ⟨rfl, hb⟩
      have B4 := Lib.hid hb
      clear hb
      go_wp2_with fail
      go_ret
      exact ⟨rfl, B4.out⟩
theorem open_macts {H : Type} {enc : TypeId × Value → H} {W : World} {base : Nat} {v : Value} {d : DataW H} {p : List MemPlace}
    (o : Value.okWide Try.prog W .any base 23 v) (h : DataW.Trod enc Try.prog W 0 (fun _ => true) true 23 v d p) :
    ∃ a n cap xs, v = .slice a n cap ∧ HoldsMA W a n xs ∧ n ≤ maxLen ∧ ∀ i, i < n → MActOk W (xs i) := by
  obtain ⟨a, n, cap, xs, e, h1, h2, h3⟩ := open_macts_arg o h
  refine ⟨a, n, cap, xs, e, fun h0 => ?_, h1, h2⟩
  obtain ⟨b, o, ha, hc⟩ := h3 h0
  refine ⟨b, o, ha, fun i hi => ?_⟩
  unfold MActIn
  exact ⟨hc i hi 0 (by omega), hc i hi 1 (by omega), hc i hi 2 (by omega), hc i hi 3 (by omega), hc i hi 4 (by omega)⟩
open Go.ChangeShapes Go.WideShapes Go.ChangeAt in
theorem mergeScript_walk {H : Type} {enc : TypeId × Value → H} (W : World) (base : Nat) (v0 v1 v2 : Value) (d0 d1 d2 : DataW H) (p0 p1 p2 : List MemPlace)
    (h0 : DataW.Trod enc Try.prog W 0 (fun _ => true) true 22 v0 d0 p0) (h1 : DataW.Trod enc Try.prog W 0 (fun _ => true) true 3 v1 d1 p1) (h2 : DataW.Trod enc Try.prog W 0 (fun _ => true) true 23 v2 d2 p2)
    (o0 : Value.okWide Try.prog W .any base 22 v0) (o1 : Value.okWide Try.prog W .any base 3 v1) (o2 : Value.okWide Try.prog W .any base 23 v2) :
    Calls Try.prog 3 #[v0, v1, v2] W fun e w' => e = .returned (.bool true) ∧ RowKit.Below W.heap.size W w' := by
  obtain ⟨la, ln, lc, zs, rfl, hh, hnil, k1, k2, hw⟩ := open_ints_arg Try.underlying22 Try.underlying3 cells_mint o0 h0
  obtain ⟨q, rfl, rfl, rfl, _⟩ := open_int Try.underlying3 o1 h1
  obtain ⟨a, n, cap, xs, rfl, hx, hn, hok⟩ := open_macts o2 h2
  exact mergeScript_any la ln lc zs q a n cap xs W hh (by unfold maxLen at k2; omega) hx (by unfold maxLen at hn; exact hn) hok
end Go.Proofs.Ytgghbgmeebihbaa
