/- msg: the law MsgSizes (by gen/msgsizes.py) -/
import Derived.Test.YthboiklcjpnhbaaPkC
namespace Go.Proofs.Ythboiklcjpnhbaa
open Go.RowKit
set_option linter.unusedVariables false
set_option maxRecDepth 20000
def sumK (ks : List KV) (i : Nat) : Nat := ((ks.take i).map fun k => 3 + k.2.size).sum
theorem sumK_next (ks : List KV) (i : Nat) (h : i < ks.length) : sumK ks (i + 1) = sumK ks i + (3 + (ks.getD i k0).2.size) := by
  unfold sumK
  have e : ks.take (i + 1) = ks.take i ++ [ks.getD i k0] := by
    rw [List.take_add_one]
    simp [List.getD_eq_getElem?_getD, h]
  rw [e, List.map_append, List.sum_append]
  simp
theorem itsB_sum (ks : List KV) (h : ∀ k ∈ ks, k.2.size ≤ 100) : (itsB ks).length = sumK ks ks.length := by
  unfold sumK itsB
  rw [List.take_length]
  induction ks with
  | nil => rfl
  | cons k ks ih =>
    rw [List.flatMap_cons, List.length_append, itB_len k (by have := h k (List.mem_cons_self ..); omega), List.map_cons, List.sum_cons, ih fun x hx => h x (List.mem_cons_of_mem _ hx)]
theorem askB_len (x : AskP) (h1 : x.text.size ≤ 100) (h2 : x.aw.size ≤ 100) : (frameM (.ask x)).length = 35 + x.text.size + x.aw.size := by
  rw [frameM_len, show bodyM (.ask x) = askB x from rfl]
  unfold askB
  simp only [List.length_append, nsB_len, n1_len, fB_len, tB_len x.text (by omega), itB_len (x.ad, x.aw) (by simp only; omega), List.length_cons, List.length_nil]
  omega
theorem repB_len (y : RepP) (h : ∀ k ∈ y.items, k.2.size ≤ 100) : (frameM (.reply y)).length = 33 + sumK y.items y.items.length := by
  rw [frameM_len, show bodyM (.reply y) = repB y from rfl]
  unfold repB
  simp only [List.length_append, nsB_len, n1_len, fB_len, itsB_sum _ h, List.length_cons, List.length_nil]
  omega
def Box2 (w0 : World) (x : AskP) (y : RepP) (w : World) : Prop := Below w0.heap.size w0 w ∧ MAskIn w w0.heap.size x ∧ ReplyIn w (w0.heap.size + 1) y
theorem Box2.carry {w0 w w' : World} {x : AskP} {y : RepP} (h : Box2 w0 x y w) (hb : Below w.heap.size w w') : Box2 w0 x y w' := ⟨h.1.trans (hb.mono h.1.size), h.2.1.below hb, h.2.2.below hb⟩
theorem Box2.new (w0 : World) (x : AskP) (y : RepP) : Box2 w0 x y ((w0.alloc (.cells #[.int .i64 x.slot, .int .i64 x.query, .int .i64 x.shard, .int .i64 x.seq, .int .i64 x.epoch, .string x.text, .int .i64 x.k, .int .i64 x.batch, .bool x.first, .int .i64 x.ad, .string x.aw] 29)).alloc (.cells #[.int .i64 y.slot, .int .i64 y.query, .int .i64 y.shard, .int .i64 y.seq, .int .i64 y.worker, .int .i64 y.epoch, .slice y.ia y.n y.ic, .bool y.fin] 32)) := by
  refine ⟨?_, (MAskIn_new w0 x w0.heap.size 29 (0, 0) rfl).below (below_one _ _), ReplyIn_new _ y _ 32 (0, 0) (by simp)⟩
  repeat' (first | exact Below.refl _ _ | refine Below.alloc ?_ (by simp <;> omega) _)
set_option maxHeartbeats 6400000 in
set_option maxRecDepth 100000 in
theorem msgSizes_law (x : AskP) (y : RepP) (w : World) (hx : AskOk x) (hy : RepOk w y) : Calls Try.prog 9 #[agAsk x, agReply y] w fun e w' => e = .returned (.bool true) ∧ Below w.heap.size w w' := by
  obtain ⟨y0, y1, y2, y3, y4, y5, ia, n, ic, ks, yf⟩ := y
  have BX := Lib.hid (Box2.new w x ⟨y0, y1, y2, y3, y4, y5, ia, n, ic, ks, yf⟩)
  have HY := Lib.hid hy
  have hn := hy.2.2.2.1
  have LN := Lib.hid (show ks.length = n from hy.1.len)
  simp only at hn
  clear hx hy
  go_enter Try.func9, Try.ntmps9
  go_upto_region 1 with fail
  simp only at BX
  generalize (w.alloc _).alloc _ = w1 at BX ⊢
  obtain ⟨b1, ⟨c2_0, c2_1, c2_2, c2_3, c2_4, c2_5, c2_6, c2_7, c2_8, c2_9, c2_10⟩, ⟨c3_0, c3_1, c3_2, c3_3, c3_4, c3_5, c3_6, c3_7⟩⟩ := BX.out
  have B1 := Lib.hid b1
  clear b1
  simp only at c3_0 c3_1 c3_2 c3_3 c3_4 c3_5 c3_6 c3_7
  have AWK := Lib.hid (fun (w2 : World) (hb : Below w.heap.size w w2) => (awake15_any w2).mono fun e w3 (h : _ ∧ _) => (⟨h.1, hb.trans (h.2.mono hb.size)⟩ : e = .returned (.bool true) ∧ Below w.heap.size w w3))
  by_cases h2 : (100 : Int) < (x.text.size : Int)
  · go_wp2_with fail
    with_reducible refine (AWK.out _ B1.out).mono ?_
    rintro e w3 ⟨rfl, hb3⟩
    go_wp2_with fail
    go_ret
    exact ⟨rfl, hb3⟩
  by_cases h3 : (100 : Int) < (x.aw.size : Int)
  · go_wp2_with fail
    with_reducible refine (AWK.out _ B1.out).mono ?_
    rintro e w3 ⟨rfl, hb3⟩
    go_wp2_with fail
    go_ret
    exact ⟨rfl, hb3⟩
  by_cases h4 : (10 : Int) < (n : Int)
  · go_wp2_with fail
    with_reducible refine (AWK.out _ B1.out).mono ?_
    rintro e w3 ⟨rfl, hb3⟩
    go_wp2_with fail
    go_ret
    exact ⟨rfl, hb3⟩
  have hs : smallM (.ask x) := ⟨by omega, by omega⟩
  have CE := Lib.hid (show Calls Try.prog 14 #[vAsk x] w1 (EncM w1 (.ask x)) from encode_all (.ask x) w1 trivial hs)
  have CM := Lib.hid (fun (w2 : World) => show Calls Try.prog 19 #[vAsk x] w2 (fun e w' => e = .returned (.bool (mayM (.ask x))) ∧ Below w2.heap.size w2 w') from mayOf_all (.ask x) w2 trivial hs)
  have FL := Lib.hid (askB_len x (by omega) (by omega))
  have T1 := Lib.hid h2; have T2 := Lib.hid h3; have T3 := Lib.hid h4
  clear hs
  go_wp2_with fail
  with_reducible refine CE.out.mono ?_
  rintro e w2 hE
  have hb2 : Below w1.heap.size w1 w2 := by rcases hE with ⟨_, a, c, _, _, _, h, _⟩ | ⟨_, _, h⟩ <;> exact h
  have BY := Lib.hid (BX.out.carry hb2)
  clear c2_0 c2_1 c2_2 c2_3 c2_4 c2_5 c2_6 c2_7 c2_8 c2_9 c2_10 c3_0 c3_1 c3_2 c3_3 c3_4 c3_5 c3_6 c3_7 BX B1 hb2
  obtain ⟨b2, ⟨c2_0, c2_1, c2_2, c2_3, c2_4, c2_5, c2_6, c2_7, c2_8, c2_9, c2_10⟩, ⟨c3_0, c3_1, c3_2, c3_3, c3_4, c3_5, c3_6, c3_7⟩⟩ := BY.out
  have B2 := Lib.hid b2
  clear b2
  simp only at c3_0 c3_1 c3_2 c3_3 c3_4 c3_5 c3_6 c3_7
  have HN0 := Lib.hid (HY.out.1.below B2.out)
  rcases hE with ⟨hm, a, c, rfl, -, -, -, -⟩ | ⟨hm, rfl, -⟩
  · rw [FL.out]
    have CM1 := Lib.hid (hm ▸ CM.out w2)
    clear CE hm CM
    go_wp2_with fail
    with_reducible refine CM1.out.mono ?_
    rintro e w3 ⟨rfl, hb3⟩
    have BZ := Lib.hid (BY.out.carry hb3)
    clear hb3 BY B2 HN0 CM1 c2_0 c2_1 c2_2 c2_3 c2_4 c2_5 c2_6 c2_7 c2_8 c2_9 c2_10 c3_0 c3_1 c3_2 c3_3 c3_4 c3_5 c3_6 c3_7
    obtain ⟨b3, ⟨c2_0, c2_1, c2_2, c2_3, c2_4, c2_5, c2_6, c2_7, c2_8, c2_9, c2_10⟩, ⟨c3_0, c3_1, c3_2, c3_3, c3_4, c3_5, c3_6, c3_7⟩⟩ := BZ.out
    have B3 := Lib.hid b3
    have H3 := Lib.hid (show HoldsK w3 ia n ks from HY.out.1.below b3)
    clear b3
    simp only at c3_0 c3_1 c3_2 c3_3 c3_4 c3_5 c3_6 c3_7
    go_wp2_with fail
    clear c2_0 c2_1 c2_2 c2_3 c2_4 c2_5 c2_6 c2_7 c2_8 c2_9 c2_10
    go_loop [7, 8] (fun nv cv => ∃ i : Nat, i ≤ n ∧ nv = .int .i64 ((33 + sumK ks i : Nat) : Int) ∧ cv = .int .i64 (i : Int) ∧ sumK ks i ≤ 103 * i ∧ Hid (∀ j, j < i → (ks.getD j k0).2.size ≤ 100)) (fun nv cv => n - (intOf cv).toNat)
    case atStart => exact ⟨0, by omega, by simp [sumK], by simp, by simp [sumK], Lib.hid (by omega)⟩
    case round =>
      obtain ⟨i, hi, rfl, rfl, hsum, HA⟩ := hrel
      obtain ⟨S, hS⟩ : ∃ S, sumK ks i = S := ⟨_, rfl⟩
      rw [hS] at hsum ⊢
      have HS := Lib.hid hS
      clear hS
      by_cases hin : i < n
      · obtain ⟨b, o, rfl, hc⟩ := H3.out.at (by omega)
        have hc2 := (hc i hin).2
        obtain ⟨k, hk⟩ : ∃ k, ks.getD i k0 = k := ⟨_, rfl⟩
        rw [hk] at hc2
        obtain ⟨k1, k2⟩ := k
        simp only at hc2
        have hz : k2.size ≤ 9223372036854775807 := by
          have := (HY.out.2.2.2.2 _ (getD_memK ks i (by have := LN.out; omega))).2
          rw [hk] at this; exact this
        have HK := Lib.hid hk
        clear hc hk
        by_cases hg : (100 : Int) < (k2.size : Int)
        · go_wp2_with fail
          with_reducible refine (AWK.out _ B3.out).mono ?_
          rintro e w4 ⟨rfl, hb4⟩
          go_wp2_with fail
          go_ret
          exact ⟨rfl, hb4⟩
        · have hn1 := sumK_next ks i (by have := LN.out; omega)
          rw [HK.out, HS.out] at hn1
          have HN1 := Lib.hid hn1
          have HA2 := Lib.hid (show ∀ j, j < i + 1 → (ks.getD j k0).2.size ≤ 100 from fun j hj => by
            by_cases e : j = i
            · subst e; rw [HK.out]; simp only; omega
            · exact HA.out j (by omega))
          clear hn1 HA
          go_wp2_with fail
          go_round
          case rel => exact ⟨i + 1, by omega, by rw [HN1.out]; go_num, by go_num, by have := HN1.out; simp only at this; omega, HA2⟩
          case measure => simp [intOf]; omega
      · have hin2 : i = n := by omega
        subst hin2
        have hall : ∀ k ∈ ks, k.2.size ≤ 100 := fun k hk => by
          obtain ⟨j, hj, rfl⟩ := List.getElem_of_mem hk
          have := HA.out j (by have := LN.out; omega)
          simp [List.getD_eq_getElem?_getD, hj] at this
          omega
        have hs : smallM (.reply ⟨y0, y1, y2, y3, y4, y5, ia, i, ic, ks, yf⟩) := ⟨fun k hk => by have := hall k hk; omega, by simp only; omega⟩
        have hh : ∀ w2 : World, Below w.heap.size w w2 → heldM w2 (.reply ⟨y0, y1, y2, y3, y4, y5, ia, i, ic, ks, yf⟩) := fun w2 hb => ⟨HY.out.1.below hb, HY.out.2.1, HY.out.2.2.1⟩
        have CR := Lib.hid (show Calls Try.prog 14 #[.iface 32 (.agg #[.int .i64 y0, .int .i64 y1, .int .i64 y2, .int .i64 y3, .int .i64 y4, .int .i64 y5, .slice ia i ic, .bool yf])] w3 (EncM w3 (.reply ⟨y0, y1, y2, y3, y4, y5, ia, i, ic, ks, yf⟩)) from encode_all (.reply _) w3 (hh w3 B3.out) hs)
        have CN := Lib.hid (fun (w2 : World) (hb : Below w.heap.size w w2) => show Calls Try.prog 19 #[.iface 32 (.agg #[.int .i64 y0, .int .i64 y1, .int .i64 y2, .int .i64 y3, .int .i64 y4, .int .i64 y5, .slice ia i ic, .bool yf])] w2 (fun e w' => e = .returned (.bool (mayM (.reply ⟨y0, y1, y2, y3, y4, y5, ia, i, ic, ks, yf⟩))) ∧ Below w2.heap.size w2 w') from mayOf_all (.reply _) w2 (hh w2 hb) hs)
        have RL := Lib.hid (show (frameM (.reply ⟨y0, y1, y2, y3, y4, y5, ia, i, ic, ks, yf⟩)).length = 33 + S from by rw [repB_len _ hall, show sumK (RepP.items ⟨y0, y1, y2, y3, y4, y5, ia, i, ic, ks, yf⟩) (RepP.items ⟨y0, y1, y2, y3, y4, y5, ia, i, ic, ks, yf⟩).length = sumK ks ks.length from rfl, LN.out, HS.out])
        clear hall hs hh
        go_wp2_with fail
        with_reducible refine CR.out.mono ?_
        rintro e w4 hE
        have hb4 : Below w3.heap.size w3 w4 := by rcases hE with ⟨_, a, c, _, _, _, h, _⟩ | ⟨_, _, h⟩ <;> exact h
        have BW := Lib.hid (BZ.out.carry hb4)
        clear c3_0 c3_1 c3_2 c3_3 c3_4 c3_5 c3_6 c3_7 hb4
        obtain ⟨b4, -, ⟨c3_0, c3_1, c3_2, c3_3, c3_4, c3_5, c3_6, c3_7⟩⟩ := BW.out
        have B4 := Lib.hid b4
        clear b4
        simp only at c3_0 c3_1 c3_2 c3_3 c3_4 c3_5 c3_6 c3_7
        rcases hE with ⟨hm2, a2, c2, rfl, -, -, -, -⟩ | ⟨hm2, rfl, -⟩
        · rw [RL.out]
          have CM2 := Lib.hid (hm2 ▸ CN.out w4 B4.out)
          have hb1 := body_small _ hm2 (by intro q hq; cases hq; exact LN.out)
          have hb2 := frameM_len (.reply ⟨y0, y1, y2, y3, y4, y5, ia, i, ic, ks, yf⟩)
          rw [RL.out] at hb2
          have hS1 : 33 + S ≤ 1024 := by omega
          clear CR hm2 CN hb1 hb2
          go_wp2_with fail
          with_reducible refine CM2.out.mono ?_
          rintro e w5 ⟨rfl, hb5⟩
          have B5 := Lib.hid (B4.out.trans (hb5.mono B4.out.size))
          clear c3_0 c3_1 c3_2 c3_3 c3_4 c3_5 c3_6 c3_7 hb5
          go_wp2_with fail
          with_reducible refine (AWK.out _ B5.out).mono ?_
          rintro e w6 ⟨rfl, hb6⟩
          go_wp2_with fail
          go_ret
          exact ⟨rfl, hb6⟩
        · have CM2 := Lib.hid (hm2 ▸ CN.out w4 B4.out)
          clear CR hm2 CN
          go_wp2_with fail
          with_reducible refine CM2.out.mono ?_
          rintro e w5 ⟨rfl, hb5⟩
          have B5 := Lib.hid (B4.out.trans (hb5.mono B4.out.size))
          clear c3_0 c3_1 c3_2 c3_3 c3_4 c3_5 c3_6 c3_7 hb5
          go_wp2_with fail
          with_reducible refine (AWK.out _ B5.out).mono ?_
          rintro e w6 ⟨rfl, hb6⟩
          go_wp2_with fail
          go_ret
          exact ⟨rfl, hb6⟩
  · have CM1 := Lib.hid (hm ▸ CM.out w2)
    clear CE hm CM
    go_wp2_with fail
    with_reducible refine CM1.out.mono ?_
    rintro e w3 ⟨rfl, hb3⟩
    have BZ := Lib.hid (BY.out.carry hb3)
    clear hb3 BY B2 HN0 CM1 c2_0 c2_1 c2_2 c2_3 c2_4 c2_5 c2_6 c2_7 c2_8 c2_9 c2_10 c3_0 c3_1 c3_2 c3_3 c3_4 c3_5 c3_6 c3_7
    obtain ⟨b3, ⟨c2_0, c2_1, c2_2, c2_3, c2_4, c2_5, c2_6, c2_7, c2_8, c2_9, c2_10⟩, ⟨c3_0, c3_1, c3_2, c3_3, c3_4, c3_5, c3_6, c3_7⟩⟩ := BZ.out
    have B3 := Lib.hid b3
    have H3 := Lib.hid (show HoldsK w3 ia n ks from HY.out.1.below b3)
    clear b3
    simp only at c3_0 c3_1 c3_2 c3_3 c3_4 c3_5 c3_6 c3_7
    go_wp2_with fail
    clear c2_0 c2_1 c2_2 c2_3 c2_4 c2_5 c2_6 c2_7 c2_8 c2_9 c2_10
    go_loop [7, 8] (fun nv cv => ∃ i : Nat, i ≤ n ∧ nv = .int .i64 ((33 + sumK ks i : Nat) : Int) ∧ cv = .int .i64 (i : Int) ∧ sumK ks i ≤ 103 * i ∧ Hid (∀ j, j < i → (ks.getD j k0).2.size ≤ 100)) (fun nv cv => n - (intOf cv).toNat)
    case atStart => exact ⟨0, by omega, by simp [sumK], by simp, by simp [sumK], Lib.hid (by omega)⟩
    case round =>
      obtain ⟨i, hi, rfl, rfl, hsum, HA⟩ := hrel
      obtain ⟨S, hS⟩ : ∃ S, sumK ks i = S := ⟨_, rfl⟩
      rw [hS] at hsum ⊢
      have HS := Lib.hid hS
      clear hS
      by_cases hin : i < n
      · obtain ⟨b, o, rfl, hc⟩ := H3.out.at (by omega)
        have hc2 := (hc i hin).2
        obtain ⟨k, hk⟩ : ∃ k, ks.getD i k0 = k := ⟨_, rfl⟩
        rw [hk] at hc2
        obtain ⟨k1, k2⟩ := k
        simp only at hc2
        have hz : k2.size ≤ 9223372036854775807 := by
          have := (HY.out.2.2.2.2 _ (getD_memK ks i (by have := LN.out; omega))).2
          rw [hk] at this; exact this
        have HK := Lib.hid hk
        clear hc hk
        by_cases hg : (100 : Int) < (k2.size : Int)
        · go_wp2_with fail
          with_reducible refine (AWK.out _ B3.out).mono ?_
          rintro e w4 ⟨rfl, hb4⟩
          go_wp2_with fail
          go_ret
          exact ⟨rfl, hb4⟩
        · have hn1 := sumK_next ks i (by have := LN.out; omega)
          rw [HK.out, HS.out] at hn1
          have HN1 := Lib.hid hn1
          have HA2 := Lib.hid (show ∀ j, j < i + 1 → (ks.getD j k0).2.size ≤ 100 from fun j hj => by
            by_cases e : j = i
            · subst e; rw [HK.out]; simp only; omega
            · exact HA.out j (by omega))
          clear hn1 HA
          go_wp2_with fail
          go_round
          case rel => exact ⟨i + 1, by omega, by rw [HN1.out]; go_num, by go_num, by have := HN1.out; simp only at this; omega, HA2⟩
          case measure => simp [intOf]; omega
      · have hin2 : i = n := by omega
        subst hin2
        have hall : ∀ k ∈ ks, k.2.size ≤ 100 := fun k hk => by
          obtain ⟨j, hj, rfl⟩ := List.getElem_of_mem hk
          have := HA.out j (by have := LN.out; omega)
          simp [List.getD_eq_getElem?_getD, hj] at this
          omega
        have hs : smallM (.reply ⟨y0, y1, y2, y3, y4, y5, ia, i, ic, ks, yf⟩) := ⟨fun k hk => by have := hall k hk; omega, by simp only; omega⟩
        have hh : ∀ w2 : World, Below w.heap.size w w2 → heldM w2 (.reply ⟨y0, y1, y2, y3, y4, y5, ia, i, ic, ks, yf⟩) := fun w2 hb => ⟨HY.out.1.below hb, HY.out.2.1, HY.out.2.2.1⟩
        have CR := Lib.hid (show Calls Try.prog 14 #[.iface 32 (.agg #[.int .i64 y0, .int .i64 y1, .int .i64 y2, .int .i64 y3, .int .i64 y4, .int .i64 y5, .slice ia i ic, .bool yf])] w3 (EncM w3 (.reply ⟨y0, y1, y2, y3, y4, y5, ia, i, ic, ks, yf⟩)) from encode_all (.reply _) w3 (hh w3 B3.out) hs)
        have CN := Lib.hid (fun (w2 : World) (hb : Below w.heap.size w w2) => show Calls Try.prog 19 #[.iface 32 (.agg #[.int .i64 y0, .int .i64 y1, .int .i64 y2, .int .i64 y3, .int .i64 y4, .int .i64 y5, .slice ia i ic, .bool yf])] w2 (fun e w' => e = .returned (.bool (mayM (.reply ⟨y0, y1, y2, y3, y4, y5, ia, i, ic, ks, yf⟩))) ∧ Below w2.heap.size w2 w') from mayOf_all (.reply _) w2 (hh w2 hb) hs)
        have RL := Lib.hid (show (frameM (.reply ⟨y0, y1, y2, y3, y4, y5, ia, i, ic, ks, yf⟩)).length = 33 + S from by rw [repB_len _ hall, show sumK (RepP.items ⟨y0, y1, y2, y3, y4, y5, ia, i, ic, ks, yf⟩) (RepP.items ⟨y0, y1, y2, y3, y4, y5, ia, i, ic, ks, yf⟩).length = sumK ks ks.length from rfl, LN.out, HS.out])
        clear hall hs hh
        go_wp2_with fail
        with_reducible refine CR.out.mono ?_
        rintro e w4 hE
        have hb4 : Below w3.heap.size w3 w4 := by rcases hE with ⟨_, a, c, _, _, _, h, _⟩ | ⟨_, _, h⟩ <;> exact h
        have BW := Lib.hid (BZ.out.carry hb4)
        clear c3_0 c3_1 c3_2 c3_3 c3_4 c3_5 c3_6 c3_7 hb4
        obtain ⟨b4, -, ⟨c3_0, c3_1, c3_2, c3_3, c3_4, c3_5, c3_6, c3_7⟩⟩ := BW.out
        have B4 := Lib.hid b4
        clear b4
        simp only at c3_0 c3_1 c3_2 c3_3 c3_4 c3_5 c3_6 c3_7
        rcases hE with ⟨hm2, a2, c2, rfl, -, -, -, -⟩ | ⟨hm2, rfl, -⟩
        · rw [RL.out]
          have CM2 := Lib.hid (hm2 ▸ CN.out w4 B4.out)
          have hb1 := body_small _ hm2 (by intro q hq; cases hq; exact LN.out)
          have hb2 := frameM_len (.reply ⟨y0, y1, y2, y3, y4, y5, ia, i, ic, ks, yf⟩)
          rw [RL.out] at hb2
          have hS1 : 33 + S ≤ 1024 := by omega
          clear CR hm2 CN hb1 hb2
          go_wp2_with fail
          with_reducible refine CM2.out.mono ?_
          rintro e w5 ⟨rfl, hb5⟩
          have B5 := Lib.hid (B4.out.trans (hb5.mono B4.out.size))
          clear c3_0 c3_1 c3_2 c3_3 c3_4 c3_5 c3_6 c3_7 hb5
          go_wp2_with fail
          with_reducible refine (AWK.out _ B5.out).mono ?_
          rintro e w6 ⟨rfl, hb6⟩
          go_wp2_with fail
          go_ret
          exact ⟨rfl, hb6⟩
        · have CM2 := Lib.hid (hm2 ▸ CN.out w4 B4.out)
          clear CR hm2 CN
          go_wp2_with fail
          with_reducible refine CM2.out.mono ?_
          rintro e w5 ⟨rfl, hb5⟩
          have B5 := Lib.hid (B4.out.trans (hb5.mono B4.out.size))
          clear c3_0 c3_1 c3_2 c3_3 c3_4 c3_5 c3_6 c3_7 hb5
          go_wp2_with fail
          with_reducible refine (AWK.out _ B5.out).mono ?_
          rintro e w6 ⟨rfl, hb6⟩
          go_wp2_with fail
          go_ret
          exact ⟨rfl, hb6⟩
open Go.ChangeShapes Go.WideShapes Go.ChangeAt in
theorem msgSizes_walk {H : Type} {enc : TypeId × Value → H} (W : World) (base : Nat) (v0 v1 : Value) (d0 d1 : DataW H) (p0 p1 : List MemPlace)
    (h0 : DataW.Trod enc Try.prog W 0 (fun _ => true) true 29 v0 d0 p0) (h1 : DataW.Trod enc Try.prog W 0 (fun _ => true) true 32 v1 d1 p1)
    (o0 : Value.okWide Try.prog W .any base 29 v0) (o1 : Value.okWide Try.prog W .any base 32 v1) :
    Calls Try.prog 9 #[v0, v1] W fun e w' => e = .returned (.bool true) ∧ RowKit.Below W.heap.size W w' := by
  obtain ⟨x, hx, rfl⟩ := ask_arg o0 h0
  obtain ⟨y, hy, rfl⟩ := reply_arg o1 h1
  exact msgSizes_law x y W hx hy
end Go.Proofs.Ythboiklcjpnhbaa
