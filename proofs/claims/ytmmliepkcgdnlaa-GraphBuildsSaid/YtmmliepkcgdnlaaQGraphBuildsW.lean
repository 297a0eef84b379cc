/- graph: Build against the document's -/
import Derived.Test.YtmmliepkcgdnlaaPkI
namespace Go.Proofs.Ytmmliepkcgdnlaa
open Go.RowKit
set_option linter.unusedVariables false
set_option maxRecDepth 20000
theorem edges_len {st : List GN} (hE : ∀ x ∈ st, x.edges.length ≤ 1000) (n : Int) : (edgesG st n).length ≤ 1000 := by
  unfold edgesG
  split
  · rename_i hb
    obtain ⟨k, rfl, hk⟩ := hasG_yes hb
    exact hE _ (by rw [Int.toNat_natCast, List.getD_eq_getElem?_getD, List.getElem?_eq_getElem hk]; simp)
  · simp
set_option maxHeartbeats 3200000 in
set_option maxRecDepth 100000 in
theorem graphBuilds_any (a : Option Addr) (n cap : Nat) (ts : List Tx) (w : World) (hh : HoldsT w a n ts) (hnil : a = none → n = 0 ∧ cap = 0) (hc : n ≤ cap) (hn : n ≤ 9223372036854775807) (hsz : ∀ t ∈ ts, t.size ≤ 9223372036854775807) :
    Calls Try.prog 3 #[.slice a n cap] w fun e w' => e = .returned (.bool true) ∧ Below w.heap.size w w' := by
  have CG := Lib.hid (great_any a n cap ts w hh hn hsz)
  have HH := Lib.hid hh
  have HL := Lib.hid hh.len
  have AW := Lib.hid (fun w => awakeG_any w)
  by_cases q0 : greatB ts = true
  · rw [q0] at CG
    go_enter Try.func3, Try.ntmps3
    go_wp2_with fail
    refine CG.out.mono ?_
    rintro e w1 ⟨rfl, hb⟩
    have B1 := Lib.hid hb
    clear hb
    go_wp2_with fail
    refine (AW.out _).mono ?_
    rintro e w' ⟨rfl, hb⟩
    have B2 := Lib.hid (B1.out.trans (hb.mono B1.out.size))
    clear hb
    go_wp2_with fail
    go_ret
    exact ⟨rfl, B2.out⟩
  have q0' : greatB ts = false := by simpa using q0
  rw [q0'] at CG
  obtain ⟨l80, hsm⟩ := great_no_iff.1 q0'
  have hsm : ∀ t ∈ ts, t.size ≤ 100 := hsm
  have n80 : n ≤ 80 := by have := HL.out; omega
  have CL := Lib.hid (fun (w1 : World) (hb : Below w.heap.size w w1) => lendTexts_any a n cap (strsV ts) w1 (HH.out.below hb) hnil (by omega) (strsV_one _))
  have CK := Lib.hid (fun (B : Nat) (w1 w2 : World) (hR : Roomy w1 B 9 (.string ⟨#[108, 101, 110, 116]⟩) n (strsV ts) 3) (hb1 : Below w1.heap.size w1 w2) (hb : Below w.heap.size w w2) => keptTexts_yes B 9 n ts a cap w2 HL.out (hR.below hb1) (HH.out.below hb) (by omega))
  by_cases q2 : goodV ts = 0
  · have OK := Lib.hid (grS_ok q2 hsm)
    have GE := Lib.hid (fun (x : GN) hx => (show x.edges.length ≤ 1000 from by have := OK.out.few x hx; omega))
    have GF := Lib.hid (fun (x : GN) hx => (show x.final = finS x.rests from (OK.out.nodes x hx).fin))
    have CB := Lib.hid (fun (B : Nat) (w1 w2 : World) (hR : Roomy w1 B 9 (.string ⟨#[108, 101, 110, 116]⟩) n (strsV ts) 3) (hb : Below w.heap.size w w2) (hb1 : Below w1.heap.size w1 w2) => build_c (w0 := w) (some ⟨B, 0, none⟩) n (n + 3) ts _ w2 hb (roomy_holdsT HL.out (hR.below hb1)) (by omega) hn hsm q2 rfl)
    have CR := Lib.hid (fun (w1 : World) (hb : Below w.heap.size w w1) => rbuild_good (w0 := w) a n cap ts _ w1 hb (HH.out.below hb) hc hn hsm q2 rfl)
    have LB := grS_len q2 hsm
    generalize grS ts = st at *
    obtain ⟨L, hL⟩ : ∃ L, st.length = L := ⟨_, rfl⟩
    rw [hL] at LB
    have HLL := Lib.hid hL
    clear q0 q0' hsm hh q2 hsz hL hnil
    go_enter Try.func3, Try.ntmps3
    go_wp2_with fail
    refine CG.out.mono ?_
    rintro e w1 ⟨rfl, hb⟩
    have B1 := Lib.hid hb
    clear hb CG
    go_wp2_with fail
    refine (CL.out w1 B1.out).mono ?_
    rintro e w2 ⟨rfl, hb, hR⟩
    have B2 := Lib.hid (B1.out.trans (hb.mono B1.out.size))
    have R2 := Lib.hid hR
    generalize w1.heap.size = B at *
    clear hb hR CL
    go_wp2_with fail
    refine (CB.out B w2 w2 R2.out B2.out (Below.refl _ _)).mono ?_
    rintro e w3 ⟨g, S, rfl, C, hb⟩
    have C3 := Lib.hid C
    have X3 := Lib.hid hb
    clear C CB hb
    go_wp2_with fail
    refine (CR.out w3 C3.out.b).mono ?_
    rintro e w4 ⟨h, T, F, rfl, C, hb⟩
    have C4 := Lib.hid (C3.out.more hb)
    have D4 := Lib.hid C
    have X4 := Lib.hid (X3.out.trans (hb.mono X3.out.size))
    clear C hb CR C3 X3
    go_wp2_with fail
    refine (numG_any 0 _).mono ?_
    rintro e w5 ⟨rfl, rfl⟩
    go_wp2_with fail
    refine (CK.out B w2 w4 R2.out X4.out C4.out.b).mono ?_
    rintro e w5 ⟨rfl, hb⟩
    have C5 := Lib.hid (C4.out.more hb)
    have D5 := Lib.hid (D4.out.more hb)
    clear hb C4 D4 X4 R2 CK
    obtain ⟨na, nc, gc⟩ := D5.out.Q.len
    rw [HLL.out] at gc
    have CN := Lib.hid (gNodes_c (L : Int) w5.drew (C5.out.more (Below.refl w5.heap.size w5).drew) (by rw [HLL.out]))
    have y0 : w5.drew.cell? ⟨h, 0, none⟩ = some (.slice na L nc) := gc
    go_upto_region 10 with fail
    go_cut [52] (fun v wd => v = .bool false ∧ w5.drew = wd)
    case first =>
      go_region_law
        (go_simp; go_at_call 18; (with_reducible refine CN.out.mono ?_); rintro e w7 ⟨rfl, rfl⟩)
      all_goals
        go_wp2_with fail
        go_meet
        exact ⟨rfl, rfl⟩
    case rest =>
      obtain ⟨rfl, rfl⟩ := hcut
      have C6 := Lib.hid (C5.out.more (Below.refl w5.heap.size w5).drew)
      have D6 := Lib.hid (D5.out.more (Below.refl w5.heap.size w5).drew)
      clear y0 gc CN C5 D5
      generalize w5.drew = w6 at *
      go_wp2_with fail
      go_loopw [8] (fun nv wr => ∃ (k : Int), -1 ≤ k ∧ k ≤ (L : Int) + 1 ∧ nv = .int .i64 k ∧ Hid (CtxG w wr g st S) ∧ Hid (CtxR w wr h st T F)) (fun nv _ => ((L : Int) + 1 - intOf nv).toNat)
      case atStart => exact ⟨-1, by omega, by omega, rfl, C6, D6⟩
      case round =>
        obtain ⟨k, hk0, hk1, rfl, hC, hD⟩ := hrel
        obtain ⟨na, nc, gc⟩ := hD.out.Q.len
        rw [HLL.out] at gc
        by_cases hlt : k ≤ (L : Int)
        · have d1 : decide (k ≤ (L : Int)) = true := decide_eq_true hlt
          obtain ⟨es, hes⟩ : ∃ l, edgesG st k = l := ⟨_, rfl⟩
          have EL := edges_len GE.out k
          rw [hes] at EL
          have ES := Lib.hid hes
          obtain ⟨fv, hfv⟩ : ∃ b, finG st k = b := ⟨_, rfl⟩
          have FV := Lib.hid hfv
          have e1 : (fv != fv) = false := by simp
          clear hes hfv
          go_wp2_with fail
          refine (gEdges_c k es wr hC.out GE.out ES.out).mono ?_
          rintro e w7 ⟨ea, ec, rfl, ho, hb⟩
          have O7 := Lib.hid ho
          have X7 := Lib.hid hb
          have C7 := Lib.hid (hC.out.more hb)
          have D7 := Lib.hid (hD.out.more hb)
          clear ho hb gc
          go_wp2_with fail
          refine (gFinal_c k fv w7 C7.out FV.out).mono ?_
          rintro e w8 ⟨rfl, rfl⟩
          go_wp2_with fail
          refine (rFinal_any h st T F k w7 D7.out.Q GF.out).mono ?_
          rintro e w8 ⟨rfl, rfl⟩
          rw [FV.out]
          go_wp2_with fail
          refine (rEdges_any h st T F k w7 D7.out.Q GE.out).mono ?_
          rintro e w8 ⟨fa, fc, rfl, ho, hb⟩
          rw [ES.out] at ho
          rw [ES.out]
          have H8 := Lib.hid (HoldsEd.own ho)
          have O8 := Lib.hid (owns_below O7.out hb)
          have X8 := Lib.hid (X7.out.trans (hb.mono X7.out.size))
          clear ho hb C7 D7
          go_wp2_with fail
          refine (sameEdges_yes ea fa es.length ec fc es w8 (HoldsEd.own O8.out) H8.out (by omega)).mono ?_
          rintro e w9 ⟨rfl, hb⟩
          have O9 := Lib.hid (owns_below O8.out hb)
          have X9 := Lib.hid (X8.out.trans (hb.mono X8.out.size))
          clear hb O8 H8 X8 O7 X7
          go_wp2_with fail
          refine (overEdges_any wr.heap.size ea es.length ec (edsV es) w9 O9.out X9.out.size (by omega)).mono ?_
          rintro e w10 ⟨rfl, hb, -⟩
          have X10 := X9.out.trans hb
          have C10 := Lib.hid (hC.out.more X10)
          have D10 := Lib.hid (hD.out.more X10)
          clear hb O9 X9 X10 hC hD
          go_wp2_with fail
          refine (gEdges_c k es w10 C10.out GE.out ES.out).mono ?_
          rintro e w11 ⟨ga, gc2, rfl, ho, hb⟩
          have H11 := Lib.hid (HoldsEd.own ho)
          have C11 := Lib.hid (C10.out.more hb)
          have D11 := Lib.hid (D10.out.more hb)
          clear ho hb C10 D10
          go_wp2_with fail
          refine (rEdges_any h st T F k w11 D11.out.Q GE.out).mono ?_
          rintro e w12 ⟨ha, hc2, rfl, ho, hb⟩
          rw [ES.out] at ho
          rw [ES.out]
          have R12 := Lib.hid (HoldsEd.own ho)
          have H12 := Lib.hid (H11.out.below hb)
          have C12 := Lib.hid (C11.out.more hb)
          have D12 := Lib.hid (D11.out.more hb)
          clear ho hb C11 D11 H11
          go_wp2_with fail
          refine (sameEdges_yes ga ha es.length gc2 hc2 es w12 H12.out R12.out (by omega)).mono ?_
          rintro e w13 ⟨rfl, hb⟩
          have C13 := Lib.hid (C12.out.more hb)
          have D13 := Lib.hid (D12.out.more hb)
          clear hb C12 D12 H12 R12
          go_wp2_with fail
          go_roundw
          case rel => exact ⟨k + 1, by omega, by omega, by go_num, C13, D13⟩
          case measure => simp [intOf] <;> omega
        · have d1 : decide (k ≤ (L : Int)) = false := decide_eq_false hlt
          go_wp2_with fail
          refine (AW.out _).mono ?_
          rintro e w' ⟨rfl, hb⟩
          have C14 := Lib.hid (hC.out.more hb)
          clear hb
          go_wp2_with fail
          go_ret
          exact ⟨rfl, C14.out.b⟩
  · obtain ⟨v, hv⟩ : ∃ v, goodV ts = v := ⟨_, rfl⟩
    have hv0 : v ≠ 0 := by rw [← hv]; exact q2
    have CB := Lib.hid (fun (B : Nat) (w1 w2 : World) (hR : Roomy w1 B 9 (.string ⟨#[108, 101, 110, 116]⟩) n (strsV ts) 3) (hb1 : Below w1.heap.size w1 w2) => build_bad (some ⟨B, 0, none⟩) n (n + 3) ts v w2 (roomy_holdsT HL.out (hR.below hb1)) hn hsz hv hv0)
    have CR := Lib.hid (fun (w1 : World) (hb : Below w.heap.size w w1) => rbuild_bad a n cap ts v w1 (HH.out.below hb) hn (fun t ht => by have := hsm t ht; omega) hv hv0)
    have hb1 : (v != v) = false := by simp
    clear hv q2
    go_enter Try.func3, Try.ntmps3
    go_wp2_with fail
    refine CG.out.mono ?_
    rintro e w1 ⟨rfl, hb⟩
    have B1 := Lib.hid hb
    clear hb CG
    go_wp2_with fail
    refine (CL.out w1 B1.out).mono ?_
    rintro e w2 ⟨rfl, hb, hR⟩
    have B2 := Lib.hid (B1.out.trans (hb.mono B1.out.size))
    have R2 := Lib.hid hR
    generalize w1.heap.size = B at *
    clear hb hR CL
    go_wp2_with fail
    refine (CB.out B w2 w2 R2.out (Below.refl _ _)).mono ?_
    rintro e w3 ⟨rfl, hb⟩
    have B3 := Lib.hid (B2.out.trans (hb.mono B2.out.size))
    have X3 := Lib.hid hb
    clear CB hb
    go_wp2_with fail
    refine (CR.out w3 B3.out).mono ?_
    rintro e w4 ⟨rfl, hb⟩
    have B4 := Lib.hid (B3.out.trans (hb.mono B3.out.size))
    have X4 := Lib.hid (X3.out.trans (hb.mono X3.out.size))
    clear hb CR X3 B3
    go_wp2_with fail
    refine (numG_any v _).mono ?_
    rintro e w5 ⟨rfl, rfl⟩
    go_wp2_with fail
    refine (CK.out B w2 w4 R2.out X4.out B4.out).mono ?_
    rintro e w5 ⟨rfl, hb⟩
    have B5 := Lib.hid (B4.out.trans (hb.mono B4.out.size))
    clear hb
    go_wp2_with fail
    refine (AW.out _).mono ?_
    rintro e w' ⟨rfl, hb⟩
    have B6 := Lib.hid (B5.out.trans (hb.mono B5.out.size))
    clear hb
    go_wp2_with fail
    go_ret
    exact ⟨rfl, B6.out⟩
open Go.ChangeShapes Go.WideShapes Go.ChangeAt in
theorem graphBuilds_walk {H : Type} {enc : TypeId × Value → H} (W : World) (base : Nat) (v0 : Value) (d0 : DataW H) (p0 : List MemPlace)
    (h0 : DataW.Trod enc Try.prog W 0 (fun _ => true) true 22 v0 d0 p0)
    (o0 : Value.okWide Try.prog W .any base 22 v0) :
    Calls Try.prog 3 #[v0] W fun e w' => e = .returned (.bool true) ∧ RowKit.Below W.heap.size W w' := by
  obtain ⟨a0, n0, c0, t0, rfl, x0, y0, z0, b0, s0⟩ := open_texts_arg o0 h0
  exact graphBuilds_any a0 n0 c0 t0 W x0 y0 z0 b0 s0
end Go.Proofs.Ytmmliepkcgdnlaa
