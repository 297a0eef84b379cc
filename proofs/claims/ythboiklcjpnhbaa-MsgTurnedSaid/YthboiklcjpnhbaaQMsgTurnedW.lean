/- msg: the law MsgTurned (by gen/msgturned.py) -/
import Derived.Test.YthboiklcjpnhbaaPkC
import Derived.Test.YthboiklcjpnhbaaPkD
namespace Go.Proofs.Ythboiklcjpnhbaa
open Go.RowKit
set_option linter.unusedVariables false
set_option maxRecDepth 20000
theorem u8_one15 (x : Int) : ∃ z : Nat, IntKind.u8.wrap x = (z : Int) ∧ z < 256 := by
  refine ⟨(IntKind.u8.wrap x).toNat, ?_, ?_⟩ <;> (rw [IntKind.wrap_u8]; omega)
theorem bytesV_more15 (I : List Nat) (z : Nat) : bytesV I ++ [.int .u8 (z : Int)] = bytesV (I ++ [z]) := by simp [bytesV]
theorem someA_none15 {q : Addr} {n c : Nat} : (some q : Option Addr) = none → n = 0 ∧ c = 0 := fun e => by cases e
theorem turnedM_shut (M : MsgV) (at_ x : Int) : openB (Dm.turned (frameM M) at_ x) = false := by
  obtain ⟨O, hO, hb⟩ : ∃ O, frameM M = sealB O ∧ ∀ b ∈ O, b < 256 := ⟨_, rfl, app_lt (app_lt (Cod.bytesOf_lt _ _) (Cod.bytesOf_lt _ _)) (bodyM_lt M)⟩
  rw [hO]
  have hl : 4 ≤ (sealB O).length := by rw [sealB_len]; omega
  have hk := Dm.k_lt (sealB O).length at_ (by omega)
  have hm := Dm.m_bd x
  have hy : (sealB O).getD (Dm.k (sealB O).length at_) 0 < 256 := by
    rw [List.getD_eq_getElem?_getD, List.getElem?_eq_getElem hk]
    exact sealB_lt _ hb _ (List.getElem_mem _)
  unfold Dm.turned
  exact sealB_turned hb _ _ hk (Nat.xor_lt_two_pow (n := 8) hy (by omega)) (xor_other hm.1)
theorem turned_lt15 (F : List Nat) (at_ x : Int) (hF : ∀ b ∈ F, b < 256) (h0 : 0 < F.length) : ∀ b ∈ Dm.turned F at_ x, b < 256 := fun b hb => by
  unfold Dm.turned at hb
  rcases List.mem_or_eq_of_mem_set hb with hb | rfl
  · exact hF b hb
  · refine Nat.xor_lt_two_pow (n := 8) ?_ (by have := Dm.m_bd x; omega)
    have hkk := Dm.k_lt F.length at_ h0
    rw [List.getD_eq_getElem?_getD, List.getElem?_eq_getElem hkk]
    exact hF _ (List.getElem_mem _)
theorem head2 (M : MsgV) (hm : (bodyM M).length ≤ 1017) : numN (frameM M) 0 2 = (frameM M).length := by
  have h := shape_frameB (kindM M) (bodyM M) hm
  unfold shapeB at h
  simp only [Bool.and_eq_true, decide_eq_true_eq] at h
  exact h.2
theorem numN_takeM (F : List Nat) (k : Nat) (hk : 2 ≤ k) : numN (F.take k) 0 2 = numN F 0 2 := by
  unfold numN
  rw [List.drop_zero, List.drop_zero, List.take_take, Nat.min_eq_left hk]
theorem numN_moreM (F G : List Nat) (hk : 2 ≤ F.length) : numN (F ++ G) 0 2 = numN F 0 2 := by
  unfold numN
  rw [List.drop_zero, List.drop_zero, List.take_append_of_le_length hk]
theorem decode_shape (a : Option Addr) (n cap : Nat) (bs : List Nat) (w : World) (h : HoldsB w a n bs) (hn : n ≤ 1048576) (hc : n ≤ cap) (hs : shapeB bs n = false) :
    Calls Try.prog 25 #[.slice a n cap] w fun e w' => e = .returned (.tuple #[.nilIface, .int .i64 8]) ∧ Below w.heap.size w w' :=
  (decode_any a n cap bs w h hn hc).mono fun e w' hd => by
    obtain ⟨hb, ⟨-, he⟩ | ⟨h1, -⟩ | ⟨h1, -⟩⟩ := hd
    · exact ⟨he, hb⟩
    · rw [hs] at h1; cases h1
    · rw [hs] at h1; cases h1
theorem decode_shut (a : Option Addr) (n cap : Nat) (bs : List Nat) (w : World) (h : HoldsB w a n bs) (hn : n ≤ 1048576) (hc : n ≤ cap) (ho : openB bs = false) :
    Calls Try.prog 25 #[.slice a n cap] w fun e w' => e = .returned (.tuple #[.nilIface, .int .i64 (if shapeB bs n then 9 else 8)]) ∧ Below w.heap.size w w' :=
  (decode_any a n cap bs w h hn hc).mono fun e w' hd => by
    obtain ⟨hb, ⟨h1, he⟩ | ⟨h1, -, he⟩ | ⟨h1, h2, -⟩⟩ := hd
    · rw [h1]; exact ⟨he, hb⟩
    · rw [h1]; exact ⟨he, hb⟩
    · rw [ho] at h2; cases h2
set_option maxHeartbeats 6400000 in
set_option maxRecDepth 100000 in
theorem msgTurned_law (k h1 h2 g1 g2 g3 : Int) (x : AskP) (y : RepP) (s1 s2 : Int) (at_ u : Int) (w : World) (hx : AskOk x) (hy : RepOk w y) :
    Calls Try.prog 6 #[.int .i64 k, .agg #[.int .i64 h1, .int .i64 h2], .agg #[.int .i64 g1, .int .i64 g2, .int .i64 g3], agAsk x, agReply y, .agg #[.int .i64 s1, .int .i64 s2], .int .i64 at_, .int .i64 u] w fun e w' => e = .returned (.bool true) ∧ Below w.heap.size w w' := by
  obtain ⟨i0, hi, hz0, hz1, hz2⟩ := info_parts u8d_info
  obtain ⟨g, hg⟩ : ∃ g, greatQ x y = g := ⟨_, rfl⟩
  have HX := Lib.hid hx; have HY := Lib.hid hy
  have CG := Lib.hid (fun (w1 : World) (hb : Below w.heap.size w w1) => hg ▸ great15_any x y w1 hx.1 hx.2 (hy.1.below hb) hy.2.2.2.1 (fun k hk => (hy.2.2.2.2 k hk).2))
  have CO := Lib.hid (one15_any k h1 h2 g1 g2 g3 x y s1 s2)
  have HM := Lib.hid (fun (w1 : World) (hb : Below w.heap.size w w1) => one_held k h1 h2 g1 g2 g3 x y s1 s2 hy hb)
  have HS := Lib.hid (fun (h : g = false) => one_small k h1 h2 g1 g2 g3 x y s1 s2 hy (hg.trans h))
  obtain ⟨M, hM⟩ : ∃ M, oneM k h1 h2 g1 g2 g3 x y s1 s2 = M := ⟨_, rfl⟩
  rw [hM] at CO HM HS
  obtain ⟨V, hV⟩ : ∃ V, valM M = V := ⟨_, rfl⟩
  rw [hV] at CO
  have HV := Lib.hid hV
  have BX := Lib.hid (Box5.new w h1 h2 g1 g2 g3 x y s1 s2)
  have AWK := Lib.hid (fun (w2 : World) (hb : Below w.heap.size w w2) => (awake15_any w2).mono fun e w3 (h : _ ∧ _) => (⟨h.1, hb.trans (h.2.mono hb.size)⟩ : e = .returned (.bool true) ∧ Below w.heap.size w w3))
  clear hx hy hg hM hV
  go_enter Try.func6, Try.ntmps6
  go_upto_region 1 with fail
  generalize ((((w.alloc _).alloc _).alloc _).alloc _).alloc _ = w1 at BX ⊢
  obtain ⟨b1, ⟨c0_0, c0_1⟩, ⟨c1_0, c1_1, c1_2⟩, ⟨c2_0, c2_1, c2_2, c2_3, c2_4, c2_5, c2_6, c2_7, c2_8, c2_9, c2_10⟩, ⟨c3_0, c3_1, c3_2, c3_3, c3_4, c3_5, c3_6, c3_7⟩, ⟨c4_0, c4_1⟩⟩ := BX.out
  have B1 := Lib.hid b1
  clear b1
  go_wp2_with fail
  with_reducible refine (CG.out _ B1.out).mono ?_
  rintro e w2 ⟨rfl, hb2⟩
  have BY := Lib.hid (BX.out.carry hb2)
  clear c0_0 c0_1 c1_0 c1_1 c1_2 c2_0 c2_1 c2_2 c2_3 c2_4 c2_5 c2_6 c2_7 c2_8 c2_9 c2_10 c3_0 c3_1 c3_2 c3_3 c3_4 c3_5 c3_6 c3_7 c4_0 c4_1
  clear BX B1 hb2 CG
  obtain ⟨b1, ⟨c0_0, c0_1⟩, ⟨c1_0, c1_1, c1_2⟩, ⟨c2_0, c2_1, c2_2, c2_3, c2_4, c2_5, c2_6, c2_7, c2_8, c2_9, c2_10⟩, ⟨c3_0, c3_1, c3_2, c3_3, c3_4, c3_5, c3_6, c3_7⟩, ⟨c4_0, c4_1⟩⟩ := BY.out
  have B2 := Lib.hid b1
  clear b1
  cases g with
  | true =>
    go_wp2_with fail
    with_reducible refine (AWK.out _ B2.out).mono ?_
    rintro e w3 ⟨rfl, hb3⟩
    go_wp2_with fail
    go_ret
    exact ⟨rfl, hb3⟩
  | false =>
  have SM := Lib.hid (HS.out rfl)
  clear HS
  go_wp2_with fail
  with_reducible refine (CO.out _).mono ?_
  rintro e w3 ⟨rfl, hb3⟩
  clear c0_0 c0_1 c1_0 c1_1 c1_2 c2_0 c2_1 c2_2 c2_3 c2_4 c2_5 c2_6 c2_7 c2_8 c2_9 c2_10 c3_0 c3_1 c3_2 c3_3 c3_4 c3_5 c3_6 c3_7 c4_0 c4_1
  have B3 := Lib.hid (B2.out.trans (hb3.mono B2.out.size))
  clear CO B2 BY hb3
  have HE := Lib.hid (HV.out ▸ encode_all M w3 (HM.out _ B3.out) SM.out)
  go_wp2_with fail
  with_reducible refine HE.out.mono ?_
  rintro e w4 (⟨hm, a, c, rfl, o4, hh4, hb4, hn4⟩ | ⟨hm, rfl, hb4⟩)
  · have B4 := Lib.hid (B3.out.trans (hb4.mono B3.out.size))
    have hl := body_small M hm ((HM.out _ B4.out).items)
    have hf := frameM_len M
    have hc := (owns_none o4).2
    have hd := head2 M hl
    have TS := turnedM_shut M at_ u
    have IB := frameM_lt M
    obtain ⟨F, hF⟩ : ∃ F, frameM M = F := ⟨_, rfl⟩
    rw [hF] at o4 hh4 hf hc hd TS IB ⊢
    obtain ⟨m, hm1⟩ : ∃ m, F.length = m := ⟨_, rfl⟩
    rw [hm1] at o4 hh4 hf hc hd ⊢
    obtain ⟨q, cp, hv⟩ := Joins.ownsRow_form o4 (by omega)
    simp only [Value.slice.injEq] at hv
    obtain ⟨hv, -, -⟩ := hv
    subst hv
    obtain ⟨j, hj⟩ : ∃ j, m - 1 = j := ⟨_, rfl⟩
    obtain ⟨z, hz, hz256⟩ := u8_one15 u
    have m7 : 7 ≤ m := by omega
    have m1024 : m ≤ 1024 := by omega
    have CT := Lib.hid (fun (w1 : World) (h : HoldsB w1 (some ⟨q, 0, none⟩) m F) => rturned_any (some ⟨q, 0, none⟩) m c F at_ u w1 h someA_none15 (by omega) (by omega))
    have tl : (Dm.turned F at_ u).length = m := by rw [Dm.turned_len, hm1]
    have TB := Lib.hid (turned_lt15 F at_ u IB (by omega))
    obtain ⟨y1, hy1, hy1n⟩ : ∃ y : Int, (if shapeB (Dm.turned F at_ u) m then (9 : Int) else 8) = y ∧ (y != 0) = true := ⟨_, rfl, by cases shapeB (Dm.turned F at_ u) m <;> rfl⟩
    have C1 := Lib.hid (fun (w1 : World) a1 c1 (h : HoldsB w1 a1 m (Dm.turned F at_ u)) (hc : m ≤ c1) => decode_shut a1 m c1 _ w1 h (by omega) hc TS)
    rw [hy1] at C1
    have C2 := Lib.hid (fun (w1 : World) a1 c1 (h : HoldsB w1 a1 j (F.take j)) (hc : j ≤ c1) => decode_shape a1 j c1 _ w1 h (by omega) hc (by
      unfold shapeB
      rw [numN_takeM F j (by omega), hd, show decide (m = j) = false from decide_eq_false (by omega), Bool.and_false]))
    have C3 := Lib.hid (fun (w1 : World) a1 c1 (h : HoldsB w1 a1 (m + 1) (F ++ [z])) (hc : m + 1 ≤ c1) => decode_shape a1 (m + 1) c1 _ w1 h (by omega) hc (by
      unfold shapeB
      rw [numN_moreM F _ (by omega), hd, show decide (m = m + 1) = false from decide_eq_false (by omega), Bool.and_false]))
    unfold RetB at CT
    rw [tl] at CT
    have IBH := Lib.hid IB
    have HM1 := Lib.hid hm1
    have H4 := Lib.hid hh4
    have e0 : ((m : Int) == 0) = false := by rw [beq_eq_false_iff_ne]; omega
    have e1 : (m : Int) - 1 = (j : Int) := by omega
    have e2 : (0 : Int) ≤ (j : Int) := by omega
    have e3 : (j : Int) ≤ (c : Int) := by omega
    have e4 : j ≤ c := by omega
    have HZ := Lib.hid hz256
    have CT1 := Lib.hid (CT.out w4 hh4)
    clear hl hf hd TS IB hF hm1 hm hh4 o4 hb4 hn4 HE B3 hz256 tl CT hy1
    go_wp2_with fail
    with_reducible refine CT1.out.mono ?_
    rintro e w5 ⟨a3, c3, rfl, o3, hb, -⟩
    have B5 := Lib.hid (B4.out.trans (hb.mono B4.out.size))
    have H5 := Lib.hid (H4.out.below hb)
    have C1' := Lib.hid (C1.out w5 a3 c3 (holdsB_of_values (owns_holds o3) TB.out) (owns_none o3).2)
    clear hb o3 CT1 C1 B4 H4
    go_wp2_with fail
    with_reducible refine C1'.out.mono ?_
    rintro e w6 ⟨rfl, hb⟩
    have B6 := Lib.hid (B5.out.trans (hb.mono B5.out.size))
    have H6 := Lib.hid (H5.out.below hb)
    have C2' := Lib.hid (C2.out w6 _ c (H6.out.front j (by omega)) e4)
    clear hb C1' C2 B5 H5
    go_wp2_with fail
    with_reducible refine C2'.out.mono ?_
    rintro e w7 ⟨rfl, hb⟩
    have B7 := Lib.hid (B6.out.trans (hb.mono B6.out.size))
    have H7 := Lib.hid (H6.out.below hb)
    have HV7 := Lib.hid (H7.out.values.cells (World.grownBy.refl _ _))
    have hbl : (bytesV F).length = m * 1 := by rw [bytesV_length, HM1.out, Nat.mul_one]
    clear hb C2' B6 H6
    go_wp2_with (first
      | (at_builtin; refine wpList_append_any rfl (.const (.slice none 0 0)) (.tmp 64) 39 rfl w.heap.size 5 i0 _ 1 1 Try.underlying39 hi hz0 hz1 hz2 rfl (by decide) _ 0 [] rfl (World.ownsRow_nil _ _ _ _) (some ⟨q, 0, none⟩) m c (bytesV F) rfl someA_none15 hbl HV7.out (bytesV_one _) (by unfold maxLen; omega) (by omega) B7.out.size ?_; intro a6 c6 w8 ho6 hb6 hn6; rw [Nat.zero_add, List.nil_append] at ho6)
      | (at_builtin; refine wpList_append_any rfl (.tmp 65) (.tmp 68) 39 rfl w.heap.size 5 i0 _ 1 1 Try.underlying39 hi hz0 hz1 hz2 rfl (by decide) _ m _ rfl (ho6.alloc _) _ 1 1 _ rfl someA_none15 rfl (one_new _ _ _ _) (one_int _ _) (by unfold maxLen; omega) (by omega) (by have := hb6.size; have := B7.out.size; simp; omega) ?_; intro a7 c7 w9 ho7 hb7 hn7))
    have B9 := Lib.hid (B7.out.trans ((hb6.trans ((below_one w8 _).mono (Nat.le_trans B7.out.size hb6.size))).trans hb7))
    rw [bytesV_more15] at ho7
    have C3' := Lib.hid (C3.out w9 a7 c7 (holdsB_of_values (owns_holds ho7) (fun b hb => by
      rcases List.mem_append.1 hb with hb | hb
      · exact IBH.out b hb
      · rw [List.mem_singleton] at hb; rw [hb]; exact HZ.out)) (owns_none ho7).2)
    clear ho6 hb6 hn6 ho7 hb7 hn7 C3 B7 H7 HV7
    with_reducible refine C3'.out.mono ?_
    rintro e w10 ⟨rfl, hb⟩
    have B10 := Lib.hid (B9.out.trans (hb.mono B9.out.size))
    clear hb C3' B9
    go_wp2_with fail
    with_reducible refine (AWK.out _ B10.out).mono ?_
    rintro e w11 ⟨rfl, hb⟩
    go_wp2_with fail
    go_ret
    exact ⟨rfl, hb⟩
  · have B4 := Lib.hid (B3.out.trans (hb4.mono B3.out.size))
    clear hm hb4 B3 HE
    go_wp2_with fail
    with_reducible refine (AWK.out _ B4.out).mono ?_
    rintro e w6 ⟨rfl, hb6⟩
    go_wp2_with fail
    go_ret
    exact ⟨rfl, hb6⟩
open Go.ChangeShapes Go.WideShapes Go.ChangeAt in
theorem msgTurned_walk {H : Type} {enc : TypeId × Value → H} (W : World) (base : Nat) (v0 v1 v2 v3 v4 v5 v6 v7 : Value) (d0 d1 d2 d3 d4 d5 d6 d7 : DataW H) (p0 p1 p2 p3 p4 p5 p6 p7 : List MemPlace)
    (h0 : DataW.Trod enc Try.prog W 0 (fun _ => true) true 3 v0 d0 p0) (h1 : DataW.Trod enc Try.prog W 0 (fun _ => true) true 23 v1 d1 p1) (h2 : DataW.Trod enc Try.prog W 0 (fun _ => true) true 25 v2 d2 p2) (h3 : DataW.Trod enc Try.prog W 0 (fun _ => true) true 29 v3 d3 p3) (h4 : DataW.Trod enc Try.prog W 0 (fun _ => true) true 32 v4 d4 p4) (h5 : DataW.Trod enc Try.prog W 0 (fun _ => true) true 34 v5 d5 p5) (h6 : DataW.Trod enc Try.prog W 0 (fun _ => true) true 3 v6 d6 p6) (h7 : DataW.Trod enc Try.prog W 0 (fun _ => true) true 3 v7 d7 p7)
    (o0 : Value.okWide Try.prog W .any base 3 v0) (o1 : Value.okWide Try.prog W .any base 23 v1) (o2 : Value.okWide Try.prog W .any base 25 v2) (o3 : Value.okWide Try.prog W .any base 29 v3) (o4 : Value.okWide Try.prog W .any base 32 v4) (o5 : Value.okWide Try.prog W .any base 34 v5) (o6 : Value.okWide Try.prog W .any base 3 v6) (o7 : Value.okWide Try.prog W .any base 3 v7) :
    Calls Try.prog 6 #[v0, v1, v2, v3, v4, v5, v6, v7] W fun e w' => e = .returned (.bool true) ∧ RowKit.Below W.heap.size W w' := by
  obtain ⟨k, rfl, rfl, rfl, b0⟩ := open_int Try.underlying3 o0 h0
  obtain ⟨e1, e2, rfl⟩ := hello_arg o1 h1
  obtain ⟨g1, g2, g3, rfl⟩ := grant_arg o2 h2
  obtain ⟨x, hx, rfl⟩ := ask_arg o3 h3
  obtain ⟨y, hy, rfl⟩ := reply_arg o4 h4
  obtain ⟨s1, s2, rfl⟩ := stop_arg o5 h5
  obtain ⟨at_, rfl, rfl, rfl, b6⟩ := open_int Try.underlying3 o6 h6
  obtain ⟨u, rfl, rfl, rfl, b7⟩ := open_int Try.underlying3 o7 h7
  exact msgTurned_law k e1 e2 g1 g2 g3 x y s1 s2 at_ u W hx hy
end Go.Proofs.Ythboiklcjpnhbaa
