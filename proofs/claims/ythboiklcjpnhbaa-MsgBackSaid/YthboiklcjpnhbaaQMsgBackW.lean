/- msg: the law MsgBack (by gen/msgback.py) -/
import Derived.Test.YthboiklcjpnhbaaPkC
namespace Go.Proofs.Ythboiklcjpnhbaa
open Go.RowKit
set_option linter.unusedVariables false
set_option maxRecDepth 20000
set_option maxHeartbeats 6400000 in
set_option maxRecDepth 100000 in
theorem msgBack_law (k h1 h2 g1 g2 g3 : Int) (x : AskP) (y : RepP) (s1 s2 : Int) (w : World) (hx : AskOk x) (hy : RepOk w y) :
    Calls Try.prog 5 #[.int .i64 k, .agg #[.int .i64 h1, .int .i64 h2], .agg #[.int .i64 g1, .int .i64 g2, .int .i64 g3], agAsk x, agReply y, .agg #[.int .i64 s1, .int .i64 s2]] w fun e w' => e = .returned (.bool true) ∧ Below w.heap.size w w' := by
  obtain ⟨g, hg⟩ : ∃ g, greatQ x y = g := ⟨_, rfl⟩
  have HX := Lib.hid hx; have HY := Lib.hid hy
  have CG := Lib.hid (fun (w1 : World) (hb : Below w.heap.size w w1) => hg ▸ great15_any x y w1 hx.1 hx.2 (hy.1.below hb) hy.2.2.2.1 (fun k hk => (hy.2.2.2.2 k hk).2))
  have CO := Lib.hid (one15_any k h1 h2 g1 g2 g3 x y s1 s2)
  have HM := Lib.hid (fun (w1 : World) (hb : Below w.heap.size w w1) => one_held k h1 h2 g1 g2 g3 x y s1 s2 hy hb)
  have HS := Lib.hid (fun (h : g = false) => one_small k h1 h2 g1 g2 g3 x y s1 s2 hy (hg.trans h))
  obtain ⟨M, hM⟩ : ∃ M, oneM k h1 h2 g1 g2 g3 x y s1 s2 = M := ⟨_, rfl⟩
  rw [hM] at CO HM HS
  obtain ⟨V, hV⟩ : ∃ V, valM M = V := ⟨_, rfl⟩
  rw [hV] at CO
  have HV := Lib.hid hV
  have BX := Lib.hid (Box5.new w h1 h2 g1 g2 g3 x y s1 s2)
  clear hx hy hg hM hV
  go_enter Try.func5, Try.ntmps5
  go_upto_region 1 with fail
  generalize ((((w.alloc _).alloc _).alloc _).alloc _).alloc _ = w1 at BX ⊢
  obtain ⟨b1, ⟨c0_0, c0_1⟩, ⟨c1_0, c1_1, c1_2⟩, ⟨c2_0, c2_1, c2_2, c2_3, c2_4, c2_5, c2_6, c2_7, c2_8, c2_9, c2_10⟩, ⟨c3_0, c3_1, c3_2, c3_3, c3_4, c3_5, c3_6, c3_7⟩, ⟨c4_0, c4_1⟩⟩ := BX.out
  have B1 := Lib.hid b1
  clear b1
  go_wp2_with fail
  with_reducible refine (CG.out _ B1.out).mono ?_
  rintro e w2 ⟨rfl, hb2⟩
  have BY := Lib.hid (BX.out.carry hb2)
  clear c0_0 c0_1 c1_0 c1_1 c1_2 c2_0 c2_1 c2_2 c2_3 c2_4 c2_5 c2_6 c2_7 c2_8 c2_9 c2_10 c3_0 c3_1 c3_2 c3_3 c3_4 c3_5 c3_6 c3_7 c4_0 c4_1
  clear BX B1 hb2 CG
  obtain ⟨b2, ⟨c0_0, c0_1⟩, ⟨c1_0, c1_1, c1_2⟩, ⟨c2_0, c2_1, c2_2, c2_3, c2_4, c2_5, c2_6, c2_7, c2_8, c2_9, c2_10⟩, ⟨c3_0, c3_1, c3_2, c3_3, c3_4, c3_5, c3_6, c3_7⟩, ⟨c4_0, c4_1⟩⟩ := BY.out
  have B2 := Lib.hid b2
  clear b2
  cases g with
  | true =>
    go_wp2_with fail
    with_reducible refine (awake15_any _).mono ?_
    rintro e w3 ⟨rfl, hb3⟩
    go_wp2_with fail
    go_ret
    exact ⟨rfl, B2.out.trans (hb3.mono B2.out.size)⟩
  | false =>
  have SM := Lib.hid (HS.out rfl)
  clear HS
  go_wp2_with fail
  with_reducible refine (CO.out _).mono ?_
  rintro e w3 ⟨rfl, hb3⟩
  clear c0_0 c0_1 c1_0 c1_1 c1_2 c2_0 c2_1 c2_2 c2_3 c2_4 c2_5 c2_6 c2_7 c2_8 c2_9 c2_10 c3_0 c3_1 c3_2 c3_3 c3_4 c3_5 c3_6 c3_7 c4_0 c4_1
  have B3 := Lib.hid (B2.out.trans (hb3.mono B2.out.size))
  clear CO B2 BY hb3
  have HE := Lib.hid (HV.out ▸ encode_all M w3 (HM.out _ B3.out) SM.out)
  go_wp2_with fail
  with_reducible refine HE.out.mono ?_
  rintro e w4 (⟨hm, a, c, rfl, o4, hh4, hb4, hn4⟩ | ⟨hm, rfl, hb4⟩)
  · have hc := (owns_none o4).2
    have B4 := Lib.hid (B3.out.trans (hb4.mono B3.out.size))
    have it := (HM.out _ B4.out).items
    have hl := body_small M hm it
    have hf := frameM_len M
    have CD := Lib.hid (decode_back M a _ c w4 hh4 hc hm it)
    have H4 := Lib.hid hh4
    obtain ⟨n, hn⟩ : ∃ n, (frameM M).length = n := ⟨_, rfl⟩
    rw [hn] at CD H4 hf ⊢
    have HN := Lib.hid hn
    have hn1 : n ≤ 1024 := by omega
    have HM1 := Lib.hid hm
    clear hc o4 hh4 hb4 hn4 it hl hf hn HE B3 hm
    go_wp2_with fail
    with_reducible refine CD.out.mono ?_
    rintro e w5 ⟨M', rfl, hs, hH, hS, hb5⟩
    obtain ⟨V', hV'⟩ : ∃ V', valM M' = V' := ⟨_, rfl⟩
    rw [hV']
    have B5 := Lib.hid (B4.out.trans (hb5.mono B4.out.size))
    have H5 := Lib.hid (H4.out.below hb5)
    have CE2 := Lib.hid (hV' ▸ encode_all M' w5 hH hS)
    have SS := Lib.hid hs; have HH := Lib.hid hH; have HS2 := Lib.hid hS; have HV2 := Lib.hid hV'
    clear hs hH hS hb5 hV' CD H4 B4
    go_wp2_with fail
    with_reducible refine CE2.out.mono ?_
    rintro e w6 (⟨hm6, a6, c6, rfl, o6, hh6, hb6, hn6⟩ | ⟨hm6, -, -⟩)
    rotate_left
    · exact absurd (SS.out.may.trans HM1.out) (by rw [hm6]; simp)
    rw [SS.out.frame] at hh6 o6
    rw [HN.out] at hh6
    rw [SS.out.frame, HN.out]
    have B6 := Lib.hid (B5.out.trans (hb6.mono B5.out.size))
    have H6 := Lib.hid (H5.out.below hb6)
    have G6 := Lib.hid hh6
    have SM6 := Lib.hid (show Calls Try.prog 27 #[V', V] w6 (fun e w' => e = .returned (.bool true) ∧ Below w6.heap.size w6 w') from HV.out ▸ HV2.out ▸ sameM_yes M' M w6 SS.out.symm (HH.out.below hb6) (HM.out _ B6.out) HS2.out)
    have HH6 := Lib.hid (HH.out.below hb6)
    clear o6 hh6 hb6 hn6 hm6 CE2 H5 B5 HH
    go_wp2_with fail
    with_reducible refine SM6.out.mono ?_
    rintro e w7 ⟨rfl, hb7⟩
    have B7 := Lib.hid (B6.out.trans (hb7.mono B6.out.size))
    have CB := Lib.hid (sameB_yes a6 a n c6 n c _ w7 (G6.out.below hb7) (H6.out.below hb7) (by omega) (by omega))
    have HH7 := Lib.hid (HH6.out.below hb7)
    clear hb7 SM6 B6 G6 H6 HH6
    go_wp2_with fail
    with_reducible refine CB.out.mono ?_
    rintro e w8 ⟨rfl, hb8⟩
    have B8 := Lib.hid (B7.out.trans (hb8.mono B7.out.size))
    have CM := Lib.hid (show Calls Try.prog 19 #[V'] w8 (fun e w' => e = .returned (.bool true) ∧ Below w8.heap.size w8 w') from HV2.out ▸ (SS.out.may.trans HM1.out) ▸ mayOf_all M' _ (HH7.out.below hb8) HS2.out)
    clear B7 CB HH7 hb8
    go_wp2_with fail
    with_reducible refine CM.out.mono ?_
    rintro e w9 ⟨rfl, hb9⟩
    have B9 := Lib.hid (B8.out.trans (hb9.mono B8.out.size))
    clear hb9 B8 CM
    go_wp2_with fail
    with_reducible refine (awake15_any _).mono ?_
    rintro e w10 ⟨rfl, hb10⟩
    go_wp2_with fail
    go_ret
    exact ⟨rfl, B9.out.trans (hb10.mono B9.out.size)⟩
  · have B4 := Lib.hid (B3.out.trans (hb4.mono B3.out.size))
    have CM := Lib.hid (HV.out ▸ hm ▸ mayOf_all M w4 (HM.out _ B4.out) SM.out)
    clear hm hb4 B3 HE
    go_wp2_with fail
    with_reducible refine CM.out.mono ?_
    rintro e w5 ⟨rfl, hb5⟩
    have B5 := Lib.hid (B4.out.trans (hb5.mono B4.out.size))
    clear hb5 B4 CM
    go_wp2_with fail
    with_reducible refine (awake15_any _).mono ?_
    rintro e w6 ⟨rfl, hb6⟩
    go_wp2_with fail
    go_ret
    exact ⟨rfl, B5.out.trans (hb6.mono B5.out.size)⟩
open Go.ChangeShapes Go.WideShapes Go.ChangeAt in
theorem msgBack_walk {H : Type} {enc : TypeId × Value → H} (W : World) (base : Nat) (v0 v1 v2 v3 v4 v5 : Value) (d0 d1 d2 d3 d4 d5 : DataW H) (p0 p1 p2 p3 p4 p5 : List MemPlace)
    (h0 : DataW.Trod enc Try.prog W 0 (fun _ => true) true 3 v0 d0 p0) (h1 : DataW.Trod enc Try.prog W 0 (fun _ => true) true 23 v1 d1 p1) (h2 : DataW.Trod enc Try.prog W 0 (fun _ => true) true 25 v2 d2 p2) (h3 : DataW.Trod enc Try.prog W 0 (fun _ => true) true 29 v3 d3 p3) (h4 : DataW.Trod enc Try.prog W 0 (fun _ => true) true 32 v4 d4 p4) (h5 : DataW.Trod enc Try.prog W 0 (fun _ => true) true 34 v5 d5 p5)
    (o0 : Value.okWide Try.prog W .any base 3 v0) (o1 : Value.okWide Try.prog W .any base 23 v1) (o2 : Value.okWide Try.prog W .any base 25 v2) (o3 : Value.okWide Try.prog W .any base 29 v3) (o4 : Value.okWide Try.prog W .any base 32 v4) (o5 : Value.okWide Try.prog W .any base 34 v5) :
    Calls Try.prog 5 #[v0, v1, v2, v3, v4, v5] W fun e w' => e = .returned (.bool true) ∧ RowKit.Below W.heap.size W w' := by
  obtain ⟨k, rfl, rfl, rfl, b0⟩ := open_int Try.underlying3 o0 h0
  obtain ⟨e1, e2, rfl⟩ := hello_arg o1 h1
  obtain ⟨g1, g2, g3, rfl⟩ := grant_arg o2 h2
  obtain ⟨x, hx, rfl⟩ := ask_arg o3 h3
  obtain ⟨y, hy, rfl⟩ := reply_arg o4 h4
  obtain ⟨s1, s2, rfl⟩ := stop_arg o5 h5
  exact msgBack_law k e1 e2 g1 g2 g3 x y s1 s2 W hx hy
end Go.Proofs.Ythboiklcjpnhbaa
