/- msg: the law MsgLays (by gen/msglays.py) -/
import Derived.Test.YthboiklcjpnhbaaPkF
namespace Go.Proofs.Ythboiklcjpnhbaa
open Go.RowKit
set_option linter.unusedVariables false
set_option maxRecDepth 20000
theorem enc_any (M : MsgV) (w0 : World) (hh : heldM w0 M) : ∃ (F : List Nat) (n : Nat) (ev : Int), n ≤ 1024 ∧ F.length = n ∧ ∀ w e w', EncM w M e w' → ∃ a c, e = .returned (.tuple #[.slice a n c, .int .i64 ev]) ∧ w'.ownsRow w.heap.size 5 1 (.slice a n c) n (bytesV F) ∧ HoldsB w' a n F ∧ Below w.heap.size w w' := by
  cases hm : mayM M
  · refine ⟨[], 0, 2, by omega, rfl, ?_⟩
    rintro e w e' (⟨h, -⟩ | ⟨-, rfl, hb⟩)
    · rw [hm] at h; cases h
    · exact ⟨none, 0, rfl, World.ownsRow_nil _ _ _ _, holdsB_nil _ _, hb⟩
  · refine ⟨frameM M, (frameM M).length, 0, ?_, rfl, ?_⟩
    · have := body_small M hm hh.items
      have := frameM_len M
      omega
    · rintro e w e' (⟨-, a, c, rfl, ho, hB, hb, -⟩ | ⟨h, -⟩)
      · exact ⟨a, c, rfl, ho, hB, hb⟩
      · rw [hm] at h; cases h
theorem msgC_form (M : MsgV) : ∃ c1 c2 c3 c4 c5 c6 c7 c8 c9 c10 c11 c12 c13 c14 c15 c16 c17 c18 c19 c20 c21 c22 c23 c24 c25 c26 : Value, msgC M = .agg #[.int .i64 (kindM M : Int), c1, c2, c3, c4, c5, c6, c7, c8, c9, c10, c11, c12, c13, c14, c15, c16, c17, c18, c19, c20, c21, c22, c23, c24, c25, c26] := by
  cases M <;> exact ⟨_, _, _, _, _, _, _, _, _, _, _, _, _, _, _, _, _, _, _, _, _, _, _, _, _, _, rfl⟩
theorem msgField (kd : Int) (c1 c2 c3 c4 c5 c6 c7 c8 c9 c10 c11 c12 c13 c14 c15 c16 c17 c18 c19 c20 c21 c22 c23 c24 c25 c26 : Value) (w : World) : (Instr.field 46 (.agg #[.int .i64 kd, c1, c2, c3, c4, c5, c6, c7, c8, c9, c10, c11, c12, c13, c14, c15, c16, c17, c18, c19, c20, c21, c22, c23, c24, c25, c26]) 0).run Try.prog w = .ok (.int .i64 kd) w := by kernel_rfl
theorem lent_held {w : World} (k h1 h2 g1 g2 g3 : Int) (x : AskP) (y : RepP) (s1 s2 : Int) (q : Nat) (h : HoldsK w (some ⟨q, 0, none⟩) y.n y.items) : heldM w (oneM k h1 h2 g1 g2 g3 x (lentR y (some ⟨q, 0, none⟩) (y.n + 3)) s1 s2) := by
  unfold oneM
  repeat' split
  all_goals first | trivial | exact ⟨h, (fun e => by cases e), (show y.n ≤ y.n + 3 by omega)⟩
set_option maxHeartbeats 12800000 in
set_option maxRecDepth 100000 in
theorem msgLays_law (k h1 h2 g1 g2 g3 : Int) (x : AskP) (y : RepP) (s1 s2 : Int) (w : World) (hx : AskOk x) (hy : RepOk w y) :
    Calls Try.prog 3 #[.int .i64 k, .agg #[.int .i64 h1, .int .i64 h2], .agg #[.int .i64 g1, .int .i64 g2, .int .i64 g3], agAsk x, agReply y, .agg #[.int .i64 s1, .int .i64 s2]] w fun e w' => e = .returned (.bool true) ∧ Below w.heap.size w w' := by
  obtain ⟨g, hg⟩ : ∃ g, greatQ x y = g := ⟨_, rfl⟩
  have HY := Lib.hid hy
  have CG := Lib.hid (fun (w1 : World) (hb : Below w.heap.size w w1) => hg ▸ great15_any x y w1 hx.1 hx.2 (hy.1.below hb) hy.2.2.2.1 (fun k hk => (hy.2.2.2.2 k hk).2))
  have HG := Lib.hid hg
  have BX := Lib.hid (Box5.new w h1 h2 g1 g2 g3 x y s1 s2)
  have FR := Lib.hid (box5_free w h1 h2 g1 g2 g3 x y s1 s2)
  have AWK := Lib.hid (fun (w2 : World) (hb : Below w.heap.size w w2) => (awake15_any w2).mono fun e w3 (h : _ ∧ _) => (⟨h.1, hb.trans (h.2.mono hb.size)⟩ : e = .returned (.bool true) ∧ Below w.heap.size w w3))
  clear hx hy hg
  go_enter Try.func3, Try.ntmps3
  go_upto_region 1 with fail
  generalize ((((w.alloc _).alloc _).alloc _).alloc _).alloc _ = w1 at BX FR ⊢
  obtain ⟨b1, ⟨c0_0, c0_1⟩, ⟨c1_0, c1_1, c1_2⟩, ⟨c2_0, c2_1, c2_2, c2_3, c2_4, c2_5, c2_6, c2_7, c2_8, c2_9, c2_10⟩, ⟨c3_0, c3_1, c3_2, c3_3, c3_4, c3_5, c3_6, c3_7⟩, ⟨c4_0, c4_1⟩⟩ := BX.out
  have B1 := Lib.hid b1
  have L3 := Lib.hid (lt_of_cell c3_0)
  clear b1
  go_wp2_with fail
  with_reducible refine (CG.out _ B1.out).mono ?_
  rintro e w2 ⟨rfl, hb2⟩
  have BY := Lib.hid (BX.out.carry hb2)
  have FR2 := Lib.hid ((hb2.frozen (p := ⟨w.heap.size + 3, 6, none⟩) L3.out).trans FR.out)
  clear c0_0 c0_1 c1_0 c1_1 c1_2 c2_0 c2_1 c2_2 c2_3 c2_4 c2_5 c2_6 c2_7 c2_8 c2_9 c2_10 c3_0 c3_1 c3_2 c3_3 c3_4 c3_5 c3_6 c3_7 c4_0 c4_1
  clear BX B1 hb2 CG FR L3
  obtain ⟨b1, ⟨c0_0, c0_1⟩, ⟨c1_0, c1_1, c1_2⟩, ⟨c2_0, c2_1, c2_2, c2_3, c2_4, c2_5, c2_6, c2_7, c2_8, c2_9, c2_10⟩, ⟨c3_0, c3_1, c3_2, c3_3, c3_4, c3_5, c3_6, c3_7⟩, ⟨c4_0, c4_1⟩⟩ := BY.out
  have B2 := Lib.hid b1
  have L3 := Lib.hid (lt_of_cell c3_0)
  clear b1
  cases g with
  | true =>
    go_wp2_with fail
    with_reducible refine (AWK.out _ B2.out).mono ?_
    rintro e w3 ⟨rfl, hb3⟩
    go_wp2_with fail
    go_ret
    exact ⟨rfl, hb3⟩
  | false =>
  have GN := great_no HG.out
  have hn80 : y.n ≤ 80 := by have := HY.out.1.len; omega
  have CL := Lib.hid (lendItems_any y.ia y.n y.ic y.items w2 (HY.out.1.below B2.out) HY.out.2.1 (by omega))
  obtain ⟨q, hq⟩ : ∃ q, w2.heap.size = q := ⟨_, rfl⟩
  rw [hq] at CL
  have LQ := Lib.hid (show w.heap.size + 3 < q from hq ▸ L3.out)
  have QW := Lib.hid (show w.heap.size ≤ q from hq ▸ B2.out.size)
  have HSM := Lib.hid (show smallM (oneM k h1 h2 g1 g2 g3 x (lentR y (some ⟨q, 0, none⟩) (y.n + 3)) s1 s2) from by
    unfold oneM
    repeat' split
    all_goals first | trivial | exact ⟨by have := GN.1; omega, by have := GN.2.1; omega⟩ | exact ⟨fun k hk => by have := GN.2.2.2 k hk; omega, show y.n ≤ _ by omega⟩)
  have HQ := Lib.hid hq
  clear GN hq
  go_wp2_with fail
  with_reducible refine CL.out.mono ?_
  rintro e w3 ⟨rfl, hb3, hR3⟩
  rw [← HQ.out] at hb3
  have BZ := Lib.hid (BY.out.carry hb3)
  have f6 := (hb3.frozen (p := ⟨w.heap.size + 3, 6, none⟩) L3.out).trans FR2.out
  have R3 := Lib.hid hR3
  clear c0_0 c0_1 c1_0 c1_1 c1_2 c2_0 c2_1 c2_2 c2_3 c2_4 c2_5 c2_6 c2_7 c2_8 c2_9 c2_10 c3_0 c3_1 c3_2 c3_3 c3_4 c3_5 c3_6 c3_7 c4_0 c4_1
  clear BY hb3 hR3 CL FR2 B2
  have c36 := BZ.out.2.2.2.2.1.2.2.2.2.2.2.1
  have BW := Lib.hid (BZ.out.lent (some ⟨q, 0, none⟩) (y.n + 3))
  have R4 := Lib.hid (roomy2_turnD R3.out (Turn.setCell (F := fun b => b = w.heap.size + 3) (w := w3) (b := w.heap.size + 3) (o := 6) (v := .slice (some ⟨q, 0, none⟩) y.n (y.n + 3)) rfl) (by have := LQ.out; omega))
  go_upto_region 6 with fail
  obtain ⟨w4, hw4⟩ : ∃ w4, w3.setCell ⟨w.heap.size + 3, 6, none⟩ (.slice (some ⟨q, 0, none⟩) y.n (y.n + 3)) = w4 := ⟨_, rfl⟩
  rw [hw4] at BW R4
  rw [show w3.setCell ⟨w.heap.size + 1 + 1 + 1, 6, none⟩ (.slice (some ⟨q, 0, none⟩) y.n (y.n + 3)) = w4 from hw4]
  have HLN := Lib.hid (show y.items.length = y.n from HY.out.1.len)
  have HMQ := Lib.hid (fun (w1 : World) (h : HoldsK w1 (some ⟨q, 0, none⟩) y.n y.items) => lent_held (w := w1) k h1 h2 g1 g2 g3 x y s1 s2 q h)
  have CO := one15_any k h1 h2 g1 g2 g3 x (lentR y (some ⟨q, 0, none⟩) (y.n + 3)) s1 s2
  obtain ⟨M, hM⟩ : ∃ M, oneM k h1 h2 g1 g2 g3 x (lentR y (some ⟨q, 0, none⟩) (y.n + 3)) s1 s2 = M := ⟨_, rfl⟩
  rw [hM] at CO HMQ HSM
  obtain ⟨V, hV⟩ : ∃ V, valM M = V := ⟨_, rfl⟩
  rw [hV] at CO
  simp only [lentR] at CO
  have COH := Lib.hid CO
  have HV := Lib.hid hV
  obtain ⟨b1, ⟨c0_0, c0_1⟩, ⟨c1_0, c1_1, c1_2⟩, ⟨c2_0, c2_1, c2_2, c2_3, c2_4, c2_5, c2_6, c2_7, c2_8, c2_9, c2_10⟩, ⟨c3_0, c3_1, c3_2, c3_3, c3_4, c3_5, c3_6, c3_7⟩, ⟨c4_0, c4_1⟩⟩ := BW.out
  have B4 := Lib.hid b1
  simp only [lentR] at c3_0 c3_1 c3_2 c3_3 c3_4 c3_5 c3_6 c3_7
  clear b1 CO hw4 hM hV c36 f6 BZ R3
  go_wp2_with fail
  with_reducible refine (COH.out _).mono ?_
  rintro e w5 ⟨rfl, hb5⟩
  have B5 := Lib.hid (B4.out.trans (hb5.mono B4.out.size))
  have R5 := Lib.hid (R4.out.below hb5)
  clear c0_0 c0_1 c1_0 c1_1 c1_2 c2_0 c2_1 c2_2 c2_3 c2_4 c2_5 c2_6 c2_7 c2_8 c2_9 c2_10 c3_0 c3_1 c3_2 c3_3 c3_4 c3_5 c3_6 c3_7 c4_0 c4_1
  clear COH B4 R4 BW hb5
  have HM := Lib.hid (fun (w1 : World) (h : Below w5.heap.size w5 w1) => HMQ.out w1 ((R5.out.below h).holds HLN.out))
  obtain ⟨F, n, ev, hn, hFl, hE⟩ := enc_any M w5 (HM.out w5 (Below.refl _ _))
  have HE := Lib.hid hE; have HFL := Lib.hid hFl
  obtain ⟨c1, c2, c3, c4, c5, c6, c7, c8, c9, c10, c11, c12, c13, c14, c15, c16, c17, c18, c19, c20, c21, c22, c23, c24, c25, c26, hC⟩ := msgC_form M
  obtain ⟨kd, hkd⟩ : ∃ kd : Int, (kindM M : Int) = kd := ⟨_, rfl⟩
  obtain ⟨mz, hmz⟩ : ∃ mz, mayM M = mz := ⟨_, rfl⟩
  have HFD := Lib.hid (msgField kd c1 c2 c3 c4 c5 c6 c7 c8 c9 c10 c11 c12 c13 c14 c15 c16 c17 c18 c19 c20 c21 c22 c23 c24 c25 c26)
  have E1 := Lib.hid (fun (w1 : World) (h : Below w5.heap.size w5 w1) => show Calls Try.prog 14 #[V] w1 (EncM w1 M) from HV.out ▸ encode_all M w1 (HM.out w1 h) HSM.out)
  have E2 := Lib.hid (fun (w1 : World) => show Calls Try.prog 16 #[V] w1 (fun e w' => e = .returned (.agg #[.int .i64 kd, c1, c2, c3, c4, c5, c6, c7, c8, c9, c10, c11, c12, c13, c14, c15, c16, c17, c18, c19, c20, c21, c22, c23, c24, c25, c26]) ∧ Below w1.heap.size w1 w') from by
    have h := of_all M w1
    rw [HV.out, hC, hkd] at h; exact h)
  have E3 := Lib.hid (fun (w1 : World) (h : Below w5.heap.size w5 w1) => show Calls Try.prog 15 #[.agg #[.int .i64 kd, c1, c2, c3, c4, c5, c6, c7, c8, c9, c10, c11, c12, c13, c14, c15, c16, c17, c18, c19, c20, c21, c22, c23, c24, c25, c26]] w1 (EncM w1 M) from by
    have h := dEncode_all M w1 (HM.out w1 h) HSM.out
    rw [hC, hkd] at h; exact h)
  have E4 := Lib.hid (fun (w1 : World) (h : Below w5.heap.size w5 w1) => show Calls Try.prog 19 #[V] w1 (fun e w' => e = .returned (.bool mz) ∧ Below w1.heap.size w1 w') from HV.out ▸ hmz ▸ mayOf_all M w1 (HM.out w1 h) HSM.out)
  have E5 := Lib.hid (fun (w1 : World) (h : Below w5.heap.size w5 w1) => show Calls Try.prog 20 #[.agg #[.int .i64 kd, c1, c2, c3, c4, c5, c6, c7, c8, c9, c10, c11, c12, c13, c14, c15, c16, c17, c18, c19, c20, c21, c22, c23, c24, c25, c26]] w1 (fun e w' => e = .returned (.bool mz) ∧ Below w1.heap.size w1 w') from by
    have h := rMay_all M w1 (HM.out w1 h) HSM.out
    rw [hC, hkd, hmz] at h; exact h)
  have E6 := Lib.hid (fun (w1 : World) => show Calls Try.prog 21 #[V] w1 (fun e w' => e = .returned (.int .i64 kd) ∧ w1 = w') from HV.out ▸ hkd ▸ kind_all M w1)
  have E7 := Lib.hid (fun (w1 : World) => show Calls Try.prog 19 #[.nilIface] w1 (fun e w' => e = .returned (.bool false) ∧ Below w1.heap.size w1 w') from mayOf_all .none w1 trivial trivial)
  have W5 := Lib.hid (Below.refl w5.heap.size w5)
  clear hE hFl hC hkd hmz HMQ
  have D1 := Lib.hid (E1.out w5 W5.out)
  go_wp2_with fail
  with_reducible refine D1.out.mono ?_
  rintro e w6 he
  obtain ⟨a, c, rfl, ho, hB, hb⟩ := HE.out _ _ _ he
  have O6 := Lib.hid ho; have H6 := Lib.hid hB; have W6 := Lib.hid (W5.out.trans hb)
  clear ho hB hb he D1 E1
  go_wp2_with fail
  with_reducible refine (E2.out _).mono ?_
  rintro e w7 ⟨rfl, hb⟩
  have W7 := Lib.hid (W6.out.trans (hb.mono W6.out.size)); have H7 := Lib.hid (H6.out.below hb); have O7 := Lib.hid (owns_below O6.out hb)
  have D3 := Lib.hid (E3.out w7 W7.out)
  clear hb W6 H6 O6 E3
  go_wp2_with fail
  with_reducible refine D3.out.mono ?_
  rintro e w8 he
  obtain ⟨a2, c2, rfl, -, hB, hb⟩ := HE.out _ _ _ he
  have W8 := Lib.hid (W7.out.trans (hb.mono W7.out.size)); have H8 := Lib.hid (H7.out.below hb); have O8 := Lib.hid (owns_below O7.out hb)
  have SB := Lib.hid (sameB_yes a a2 n c n c2 F w8 H8.out hB (by omega) (by omega))
  clear hB hb he D3 W7 H7 O7
  go_wp2_with fail
  with_reducible refine SB.out.mono ?_
  rintro e w9 ⟨rfl, hb⟩
  have W9 := Lib.hid (W8.out.trans (hb.mono W8.out.size)); have O9 := Lib.hid (owns_below O8.out hb)
  clear hb W8 H8 O8 SB
  have hev : (ev == ev) = true := by simp
  have hmz : (mz == mz) = true := by simp
  have hkd : (kd == kd) = true := by simp
  go_wp2_with fail
  with_reducible refine (num15_any _ _).mono ?_
  rintro e w' ⟨rfl, rfl⟩
  have D4 := Lib.hid (E4.out w9 W9.out)
  go_wp2_with fail
  with_reducible refine D4.out.mono ?_
  rintro e w10 ⟨rfl, hb⟩
  have W10 := Lib.hid (W9.out.trans (hb.mono W9.out.size)); have O10 := Lib.hid (owns_below O9.out hb)
  clear hb W9 O9 D4 E4
  go_wp2_with fail
  with_reducible refine (E2.out _).mono ?_
  rintro e w11 ⟨rfl, hb⟩
  have W11 := Lib.hid (W10.out.trans (hb.mono W10.out.size)); have O11 := Lib.hid (owns_below O10.out hb)
  have D5 := Lib.hid (E5.out w11 W11.out)
  clear hb W10 O10 E5
  go_wp2_with fail
  with_reducible refine D5.out.mono ?_
  rintro e w12 ⟨rfl, hb⟩
  have W12 := Lib.hid (W11.out.trans (hb.mono W11.out.size)); have O12 := Lib.hid (owns_below O11.out hb)
  clear hb W11 O11 D5
  go_wp2_with fail
  with_reducible refine (E6.out _).mono ?_
  rintro e w' ⟨rfl, rfl⟩
  go_wp2_with fail
  with_reducible refine (E2.out _).mono ?_
  rintro e w13 ⟨rfl, hb⟩
  have hfd := HFD.out
  have W13 := Lib.hid (W12.out.trans (hb.mono W12.out.size)); have O13 := Lib.hid (owns_below O12.out hb)
  clear hb W12 O12 E2 E6
  go_wp2_with fail
  with_reducible refine (kindPtr _ _).mono ?_
  rintro e w' ⟨rfl, rfl⟩
  go_wp2_with fail
  with_reducible refine (E7.out _).mono ?_
  rintro e w14 ⟨rfl, hb⟩
  have W14 := Lib.hid (W13.out.trans (hb.mono W13.out.size)); have O14 := Lib.hid (owns_below O13.out hb)
  clear hb W13 O13 E7
  have D8 := Lib.hid (overBytes_any w5.heap.size a n c _ w14 O14.out W14.out.size (by omega))
  go_wp2_with fail
  with_reducible refine D8.out.mono ?_
  rintro e w15 ⟨rfl, hb⟩
  have W15 := Lib.hid (W14.out.trans hb)
  have B15 := Lib.hid (B5.out.trans (W15.out.mono B5.out.size))
  have D9 := Lib.hid (keptItems_yes q _ y.n y.items y.ia y.ic w15 HLN.out (R5.out.below W15.out) (HY.out.1.below B15.out) (by omega))
  clear hb W14 O14 D8
  go_wp2_with fail
  with_reducible refine D9.out.mono ?_
  rintro e w16 ⟨rfl, hb⟩
  have B16 := Lib.hid (B15.out.trans (hb.mono B15.out.size))
  clear hb D9
  go_wp2_with fail
  with_reducible refine (AWK.out _ B16.out).mono ?_
  rintro e w17 ⟨rfl, hb⟩
  go_wp2_with fail
  go_ret
  exact ⟨rfl, hb⟩
open Go.ChangeShapes Go.WideShapes Go.ChangeAt in
theorem msgLays_walk {H : Type} {enc : TypeId × Value → H} (W : World) (base : Nat) (v0 v1 v2 v3 v4 v5 : Value) (d0 d1 d2 d3 d4 d5 : DataW H) (p0 p1 p2 p3 p4 p5 : List MemPlace)
    (h0 : DataW.Trod enc Try.prog W 0 (fun _ => true) true 3 v0 d0 p0) (h1 : DataW.Trod enc Try.prog W 0 (fun _ => true) true 23 v1 d1 p1) (h2 : DataW.Trod enc Try.prog W 0 (fun _ => true) true 25 v2 d2 p2) (h3 : DataW.Trod enc Try.prog W 0 (fun _ => true) true 29 v3 d3 p3) (h4 : DataW.Trod enc Try.prog W 0 (fun _ => true) true 32 v4 d4 p4) (h5 : DataW.Trod enc Try.prog W 0 (fun _ => true) true 34 v5 d5 p5)
    (o0 : Value.okWide Try.prog W .any base 3 v0) (o1 : Value.okWide Try.prog W .any base 23 v1) (o2 : Value.okWide Try.prog W .any base 25 v2) (o3 : Value.okWide Try.prog W .any base 29 v3) (o4 : Value.okWide Try.prog W .any base 32 v4) (o5 : Value.okWide Try.prog W .any base 34 v5) :
    Calls Try.prog 3 #[v0, v1, v2, v3, v4, v5] W fun e w' => e = .returned (.bool true) ∧ RowKit.Below W.heap.size W w' := by
  obtain ⟨k, rfl, rfl, rfl, b0⟩ := open_int Try.underlying3 o0 h0
  obtain ⟨e1, e2, rfl⟩ := hello_arg o1 h1
  obtain ⟨g1, g2, g3, rfl⟩ := grant_arg o2 h2
  obtain ⟨x, hx, rfl⟩ := ask_arg o3 h3
  obtain ⟨y, hy, rfl⟩ := reply_arg o4 h4
  obtain ⟨s1, s2, rfl⟩ := stop_arg o5 h5
  exact msgLays_law k e1 e2 g1 g2 g3 x y s1 s2 W hx hy
end Go.Proofs.Ythboiklcjpnhbaa
