/- graph: along a text's runes -/
import Derived.Test.YtmmliepkcgdnlaaPkC
namespace Go.Proofs.Ytmmliepkcgdnlaa
open Go.RowKit
set_option linter.unusedVariables false
set_option maxRecDepth 20000
set_option maxHeartbeats 3200000 in
theorem graphPaths_any (a : Option Addr) (n cap : Nat) (ts : List Tx) (s : Tx) (w : World) (hh : HoldsT w a n ts) (hc : n ≤ cap) (hn : n ≤ 9223372036854775807) (hsz : ∀ t ∈ ts, t.size ≤ 9223372036854775807) (hs : s.size ≤ 9223372036854775807) :
    Calls Try.prog 8 #[.slice a n cap, .string s] w fun e w' => e = .returned (.bool true) ∧ Below w.heap.size w w' := by
  have CG := Lib.hid (great_any a n cap ts w hh hn hsz)
  have HH := Lib.hid hh
  have HL := Lib.hid hh.len
  by_cases q0 : greatB ts = true
  · rw [q0] at CG
    go_enter Try.func8, Try.ntmps8
    go_wp2_with fail
    refine CG.out.mono ?_
    rintro e w1 ⟨rfl, hb⟩
    have B1 := Lib.hid hb
    clear hb
    go_wp2_with fail
    refine (awakeG_any _).mono ?_
    rintro e w' ⟨rfl, hb⟩
    have B2 := Lib.hid (B1.out.trans (hb.mono B1.out.size))
    clear hb
    go_wp2_with fail
    go_ret
    exact ⟨rfl, B2.out⟩
  have q0' : greatB ts = false := by simpa using q0
  rw [q0'] at CG
  by_cases q1 : 100 < s.size
  · have d1 : decide (100 < s.size) = true := decide_eq_true q1
    go_enter Try.func8, Try.ntmps8
    go_wp2_with fail
    refine CG.out.mono ?_
    rintro e w1 ⟨rfl, hb⟩
    have B1 := Lib.hid hb
    clear hb
    go_wp2_with fail
    refine (awakeG_any _).mono ?_
    rintro e w' ⟨rfl, hb⟩
    have B2 := Lib.hid (B1.out.trans (hb.mono B1.out.size))
    clear hb
    go_wp2_with fail
    go_ret
    exact ⟨rfl, B2.out⟩
  have d1 : decide (100 < s.size) = false := decide_eq_false q1
  obtain ⟨l80, hsm⟩ := great_no_iff.1 q0'
  have hsm : ∀ t ∈ ts, t.size ≤ 100 := hsm
  by_cases q2 : goodV ts = 0
  · have OK := Lib.hid (grS_ok q2 hsm)
    have GE := Lib.hid (fun (x : GN) hx => (show x.edges.length ≤ 1000 from by have := OK.out.few x hx; omega))
    have LO := Lib.hid (fun t (ht : t ∈ ts) => (show 0 ≤ lenS t from (ok_good q2 hsm).lo t ht))
    have SO := Lib.hid (show SortedS ts from (ok_good q2 hsm).ord)
    have CB := Lib.hid (fun (w1 : World) (hb : Below w.heap.size w w1) => build_c (w0 := w) a n cap ts _ w1 hb (HH.out.below hb) hc hn hsm q2 rfl)
    have HAS := Lib.hid (has_in OK.out LO.out s)
    generalize grS ts = st at *
    have n1M : n ≤ 1048576 := by have := HL.out; omega
    obtain ⟨V, hV⟩ : ∃ V, decide (s ∈ ts) = V := ⟨_, rfl⟩
    rw [hV] at HAS
    have HV := Lib.hid hV
    clear q0 q0' hsm hh hV q2 hsz
    by_cases q3 : 0 ≤ lenS s
    · obtain ⟨m, hm⟩ : ∃ m, (runesS s).length = m := ⟨_, rfl⟩
      have hmle := runesS_le s
      have hm100 : m ≤ 100 := by omega
      obtain ⟨R, hR⟩ : ∃ R, walkG st (runesS s) 0 = R := ⟨_, rfl⟩
      have HE := Lib.hid (show endG st R = V from by rw [← HAS.out, ← hR]; rfl)
      have HR := Lib.hid hR
      have HM := Lib.hid hm
      have CR := Lib.hid (fun w => runes_good s w (by omega) q3)
      rw [hm] at CR
      clear hR
      go_enter Try.func8, Try.ntmps8
      go_wp2_with fail
      refine CG.out.mono ?_
      rintro e w1 ⟨rfl, hb⟩
      have B1 := Lib.hid hb
      clear hb CG
      go_wp2_with fail
      refine (CB.out w1 B1.out).mono ?_
      rintro e w2 ⟨g, S, rfl, C, -⟩
      have C2 := Lib.hid C
      clear C B1
      go_wp2_with fail
      refine (CR.out w2).mono ?_
      rintro e w3 ⟨ra, rc, rfl, hr⟩
      have RH := Lib.hid hr.holds
      have C3 := Lib.hid (C2.out.more hr.2.1)
      clear hr C2
      go_wp2_with fail
      rw [show (intsN (runesS s)).length = m from by rw [← HM.out]; simp [intsN]] at RH
      have ATH := Lib.hid (fun w4 (hb : Below w.heap.size w w4) => at_any a n cap ts s w4 (HH.out.below hb) n1M SO.out)
      rw [HV.out] at ATH
      clear CR CB hm
      go_loopw [8, 9, 10] (fun ov av iv wr => ∃ (j : Nat) (k : Int) (b : Bool), j ≤ m ∧ ov = .bool b ∧ av = .int .i64 k ∧ iv = .int .i64 j ∧ Hid ((b = true ∧ walkG st ((runesS s).drop j) k = R) ∨ (b = false ∧ R = none)) ∧ Hid (CtxG w wr g st S) ∧ Hid (HoldsI .i32 wr ra m (intsN (runesS s)))) (fun _ _ iv _ => m - (intOf iv).toNat)
      case atStart => exact ⟨0, 0, true, by omega, rfl, rfl, rfl, Lib.hid (Or.inl ⟨rfl, HR.out⟩), C3, RH⟩
      case round =>
        obtain ⟨j, k, b, hj, rfl, rfl, rfl, hR, hC, hH⟩ := hrel
        clear RH C3
        have END := Lib.hid (fun (h : b = true → walkG st [] k = R) => show (b && finG st k) = V from by
          rcases hR.out with ⟨h1, h2⟩ | ⟨h1, h2⟩
          · rw [h1, Bool.true_and, ← HE.out, ← h h1]; rfl
          · rw [h1, Bool.false_and, ← HE.out, h2]; rfl)
        by_cases hlt : j < m
        · cases b with
          | true =>
            obtain ⟨b0, o, rfl, hcc⟩ := hH.out.at (by omega)
            have x0 := hcc j hlt
            obtain ⟨r, hr⟩ : ∃ r, (runesS s).getD j 0 = r := ⟨_, rfl⟩
            have e1 : (intsN (runesS s)).getD j 0 = (r : Int) := by
              rw [← hr]; simp [intsN, List.getD_eq_getElem?_getD, HM.out, hlt]
            have e2 : (runesS s).drop j = r :: (runesS s).drop (j + 1) := by
              have := HM.out
              rw [List.drop_eq_getElem_cons (by omega), ← hr, List.getD_eq_getElem?_getD, List.getElem?_eq_getElem (by omega)]; rfl
            rw [e1] at x0
            have n1 : (0 : Int) ≤ (j : Int) := by omega
            have n2 : (j : Int) < (m : Int) := by omega
            obtain ⟨v, hv⟩ : ∃ v, nextG st k (r : Int) = v := ⟨_, rfl⟩
            obtain ⟨v1, v2⟩ := v
            have W2 := Lib.hid (show (v2 = true ∧ walkG st ((runesS s).drop (j + 1)) v1 = R) ∨ (v2 = false ∧ R = none) from by
              rcases hR.out with ⟨-, h2⟩ | ⟨h1, -⟩
              · rw [e2] at h2
                unfold walkG at h2
                rw [hv] at h2
                cases v2 with
                | true => exact Or.inl ⟨rfl, by simpa using h2⟩
                | false => exact Or.inr ⟨rfl, by simpa using h2.symm⟩
              · cases h1)
            have CN := Lib.hid (gNext_c k (r : Int) wr hC.out GE.out v1 v2 hv)
            clear hcc hr e1 e2 hR END hv
            go_wp2_with fail
            refine CN.out.mono ?_
            rintro e w4 ⟨rfl, hb⟩
            have C4 := Lib.hid (hC.out.more hb)
            have H4 := Lib.hid (hH.out.below hb)
            clear hb CN
            go_wp2_with fail
            go_roundw
            case rel => exact ⟨j + 1, v1, v2, by omega, rfl, rfl, by go_num, W2, C4, H4⟩
            case measure => simp [intOf] <;> omega
          | false =>
            have E := END.out (fun h => by cases h)
            rw [Bool.false_and] at E
            have AT := Lib.hid (ATH.out wr hC.out.b)
            rw [← E] at AT HAS
            clear E
            have CH := Lib.hid (gWord_c s _ wr hC.out GE.out HAS.out)
            clear END ATH
            go_wp2_with fail
            refine AT.out.mono ?_
            rintro e w4 ⟨rfl, rfl⟩
            go_wp2_with fail
            refine CH.out.mono ?_
            rintro e w4 ⟨rfl, hb⟩
            have C4 := Lib.hid (hC.out.more hb)
            clear hb
            go_wp2_with fail
            refine (awakeG_any _).mono ?_
            rintro e w' ⟨rfl, hb⟩
            have C5 := Lib.hid (C4.out.more hb)
            clear hb
            go_wp2_with fail
            go_ret
            exact ⟨rfl, C5.out.b⟩
        · obtain rfl : j = m := by omega
          have E := Lib.hid (END.out (fun h => by
            rcases hR.out with ⟨-, h2⟩ | ⟨h1, -⟩
            · rwa [List.drop_of_length_le (by have := HM.out; omega)] at h2
            · rw [h] at h1; cases h1))
          have AT := Lib.hid (ATH.out wr hC.out.b)
          have CH := Lib.hid (gWord_c s V wr hC.out GE.out HAS.out)
          have CF := Lib.hid (gFinal_c k _ wr hC.out rfl)
          clear END ATH hR
          cases b with
          | true =>
            have E' := E.out
            rw [Bool.true_and] at E'
            rw [E'] at CF
            clear E E'
            go_wp2_with fail
            refine AT.out.mono ?_
            rintro e w4 ⟨rfl, rfl⟩
            go_wp2_with fail
            refine CF.out.mono ?_
            rintro e w4 ⟨rfl, rfl⟩
            go_wp2_with fail
            refine CH.out.mono ?_
            rintro e w4 ⟨rfl, hb⟩
            have C4 := Lib.hid (hC.out.more hb)
            clear hb
            go_wp2_with fail
            refine (awakeG_any _).mono ?_
            rintro e w' ⟨rfl, hb⟩
            have C5 := Lib.hid (C4.out.more hb)
            clear hb
            go_wp2_with fail
            go_ret
            exact ⟨rfl, C5.out.b⟩
          | false =>
            have E' := E.out
            rw [Bool.false_and] at E'
            rw [← E'] at AT CH
            clear E E' CF
            go_wp2_with fail
            refine AT.out.mono ?_
            rintro e w4 ⟨rfl, rfl⟩
            go_wp2_with fail
            refine CH.out.mono ?_
            rintro e w4 ⟨rfl, hb⟩
            have C4 := Lib.hid (hC.out.more hb)
            clear hb
            go_wp2_with fail
            refine (awakeG_any _).mono ?_
            rintro e w' ⟨rfl, hb⟩
            have C5 := Lib.hid (C4.out.more hb)
            clear hb
            go_wp2_with fail
            go_ret
            exact ⟨rfl, C5.out.b⟩
    · have CR := Lib.hid (fun w => runes_bad s w (by omega) (by omega))
      have hV : V = false := by
        rw [← HV.out]
        exact decide_eq_false (fun e => q3 (LO.out s e))
      have ATH := Lib.hid (fun w4 (hb : Below w.heap.size w w4) => at_any a n cap ts s w4 (HH.out.below hb) n1M SO.out)
      rw [HV.out, hV] at ATH
      rw [hV] at HAS
      clear hV
      go_enter Try.func8, Try.ntmps8
      go_wp2_with fail
      refine CG.out.mono ?_
      rintro e w1 ⟨rfl, hb⟩
      have B1 := Lib.hid hb
      clear hb CG
      go_wp2_with fail
      refine (CB.out w1 B1.out).mono ?_
      rintro e w2 ⟨g, S, rfl, C, -⟩
      have C2 := Lib.hid C
      clear C B1
      go_wp2_with fail
      refine (CR.out w2).mono ?_
      rintro e w3 ⟨rfl, hb⟩
      have C3 := Lib.hid (C2.out.more hb)
      clear hb C2
      go_wp2_with fail
      have AT := Lib.hid (ATH.out w3 C3.out.b)
      have CH := Lib.hid (gWord_c s false w3 C3.out GE.out HAS.out)
      clear CR CB ATH
      go_loopw [8, 9, 10] (fun ov av iv wr => ov = .bool false ∧ av = .int .i64 0 ∧ iv = .int .i64 0 ∧ wr = w3) (fun _ _ _ _ => 0)
      case atStart => exact ⟨rfl, rfl, rfl, rfl⟩
      case round =>
        obtain ⟨rfl, rfl, rfl, rfl⟩ := hrel
        go_wp2_with fail
        refine AT.out.mono ?_
        rintro e w4 ⟨rfl, rfl⟩
        go_wp2_with fail
        refine CH.out.mono ?_
        rintro e w4 ⟨rfl, hb⟩
        have C4 := Lib.hid (C3.out.more hb)
        clear hb
        go_wp2_with fail
        refine (awakeG_any _).mono ?_
        rintro e w' ⟨rfl, hb⟩
        have C5 := Lib.hid (C4.out.more hb)
        clear hb
        go_wp2_with fail
        go_ret
        exact ⟨rfl, C5.out.b⟩
  · obtain ⟨v, hv⟩ : ∃ v, goodV ts = v := ⟨_, rfl⟩
    have hv0 : v ≠ 0 := by rw [← hv]; exact q2
    have CB := Lib.hid (fun (w1 : World) (hb : Below w.heap.size w w1) => build_bad a n cap ts v w1 (HH.out.below hb) hn hsz hv hv0)
    have hb1 : (v != 0) = true := by simpa using hv0
    clear hv q2
    go_enter Try.func8, Try.ntmps8
    go_wp2_with fail
    refine CG.out.mono ?_
    rintro e w1 ⟨rfl, hb⟩
    have B1 := Lib.hid hb
    clear hb CG
    go_wp2_with fail
    refine (CB.out w1 B1.out).mono ?_
    rintro e w2 ⟨rfl, hb⟩
    have B2 := Lib.hid (B1.out.trans (hb.mono B1.out.size))
    clear hb B1
    go_wp2_with fail
    refine (awakeG_any _).mono ?_
    rintro e w' ⟨rfl, hb⟩
    have B3 := Lib.hid (B2.out.trans (hb.mono B2.out.size))
    clear hb
    go_wp2_with fail
    go_ret
    exact ⟨rfl, B3.out⟩
open Go.ChangeShapes Go.WideShapes Go.ChangeAt in
theorem graphPaths_walk {H : Type} {enc : TypeId × Value → H} (W : World) (base : Nat) (v0 v1 : Value) (d0 d1 : DataW H) (p0 p1 : List MemPlace)
    (h0 : DataW.Trod enc Try.prog W 0 (fun _ => true) true 22 v0 d0 p0) (h1 : DataW.Trod enc Try.prog W 0 (fun _ => true) true 9 v1 d1 p1)
    (o0 : Value.okWide Try.prog W .any base 22 v0) (o1 : Value.okWide Try.prog W .any base 9 v1) :
    Calls Try.prog 8 #[v0, v1] W fun e w' => e = .returned (.bool true) ∧ RowKit.Below W.heap.size W w' := by
  obtain ⟨a0, n0, c0, t0, rfl, x0, y0, z0, b0, s0⟩ := open_texts_arg o0 h0
  obtain ⟨s1, rfl, rfl, rfl, b1⟩ := Go.ChangeMaps.open_string Try.underlying9 o1 h1
  exact graphPaths_any a0 n0 c0 t0 s1 W x0 z0 b0 s0 (by unfold maxLen at b1; omega)
end Go.Proofs.Ytmmliepkcgdnlaa
