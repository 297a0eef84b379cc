/- merge: shards that can have nothing -/
import Derived.Test.YtgghbgmeebihbaaQMergeOneW
import Derived.Test.YtgghbgmeebihbaaPkD
import Derived.Test.YtgghbgmeebihbaaPkB
namespace Go.Proofs.Ytgghbgmeebihbaa
open Go.RowKit
set_option linter.unusedVariables false
set_option maxRecDepth 20000
set_option maxHeartbeats 12800000 in
set_option maxRecDepth 100000 in
theorem mergeSkips_any (m0 bits : Int) (wa : Option Addr) (n wc : Nat) (ws : List Tx) (s : Tx) (k nn : Int) (w : World) (hh : HoldsT w wa n ws) (hn : n ≤ 9223372036854775807) (hsz : ∀ t ∈ ws, t.size ≤ 9223372036854775807) (hs : s.size ≤ 9223372036854775807) :
    Calls Try.prog 7 #[.int .i64 m0, .int .i64 bits, .slice wa n wc, .agg #[.string s, .int .i64 k, .int .i64 nn]] w fun e w' => e = .returned (.bool true) ∧ Below w.heap.size w w' := by
  have BB := Lib.hid (below_one w (.cells #[.string s, .int .i64 k, .int .i64 nn] 46))
  have HX := Lib.hid (hh.below BB.out)
  have q0 : (w.alloc (.cells #[.string s, .int .i64 k, .int .i64 nn] 46)).cell? ⟨w.heap.size, 0, none⟩ = some (.string s) := by rw [cell_alloc rfl]; rfl
  have q1 : (w.alloc (.cells #[.string s, .int .i64 k, .int .i64 nn] 46)).cell? ⟨w.heap.size, 1, none⟩ = some (.int .i64 k) := by rw [cell_alloc rfl]; rfl
  have q2 : (w.alloc (.cells #[.string s, .int .i64 k, .int .i64 nn] 46)).cell? ⟨w.heap.size, 2, none⟩ = some (.int .i64 nn) := by rw [cell_alloc rfl]; rfl
  have HQ := Lib.hid (show Box3q (w.alloc (.cells #[.string s, .int .i64 k, .int .i64 nn] 46)) w.heap.size (.string s) (.int .i64 k) (.int .i64 nn) (w.alloc (.cells #[.string s, .int .i64 k, .int .i64 nn] 46)) from ⟨Below.refl _ _, q0, q1, q2⟩)
  obtain ⟨gr, hgr⟩ : ∃ g, greatB ws = g := ⟨_, rfl⟩
  have CG := Lib.hid (great_any wa n wc ws _ HX.out hn hsz)
  rw [hgr] at CG
  have HGR := Lib.hid hgr
  clear hgr
  have C1 := Lib.hid (fun w => low_any m0 6 (by omega) (by omega) w)
  have AW := Lib.hid (fun w3 (hb : Below w.heap.size w w3) => (awakeM_any w3).mono (fun e w' h => (show e = .returned (.bool true) ∧ Below w.heap.size w w' from ⟨h.1, hb.trans (h.2.mono hb.size)⟩)))
  have HH := Lib.hid hh; have HS := Lib.hid hs
  have CO := Lib.hid (fun w3 (h : HoldsT w3 wa n ws) => good_any' wa n wc ws w3 h hn hsz)
  have CM := Lib.hid (fun w3 => may_any s k nn w3 hs)
  clear hh hsz hs
  go_enter Try.func7, Try.ntmps7
  go_upto_region 1 with fail
  clear q0 q1 q2
  generalize w.alloc (.cells #[.string s, .int .i64 k, .int .i64 nn] 46) = w1 at *
  obtain ⟨-, q0, q1, q2⟩ := HQ.out
  go_wp2_with fail
  refine CG.out.mono ?_
  rintro e w2 ⟨rfl, hb⟩
  have Q2 := Lib.hid (box3q_carry HQ.out hb)
  clear hb CG q0 q1 q2
  obtain ⟨B2', q0, q1, q2⟩ := Q2.out
  have B2 := Lib.hid (BB.out.trans (B2'.mono BB.out.size))
  clear B2'
  cases gr
  case true =>
    go_wp2_with fail
    refine (AW.out _ B2.out).mono ?_
    rintro e w' ⟨rfl, hb⟩
    go_wp2_with fail
    go_ret
    exact ⟨rfl, hb⟩
  by_cases h100 : 100 < s.size
  case pos =>
    have d1 : decide ((s.size : Int) > 100) = true := decide_eq_true (by omega)
    have d2 : decide (100 < s.size) = true := decide_eq_true h100
    go_wp2_with fail
    refine (AW.out _ B2.out).mono ?_
    rintro e w' ⟨rfl, hb⟩
    go_wp2_with fail
    go_ret
    exact ⟨rfl, hb⟩
  have d1 : decide ((s.size : Int) > 100) = false := decide_eq_false (by omega)
  have d2 : decide (100 < s.size) = false := decide_eq_false h100
  obtain ⟨zm, hzm⟩ : ∃ z, decide (mayP s k nn) = z := ⟨_, rfl⟩
  rw [hzm] at CM
  go_wp2_with fail
  refine (CM.out _).mono ?_
  rintro e w3 ⟨rfl, hb⟩
  have Q3 := Lib.hid (box3q_carry Q2.out hb)
  clear hb CM q0 q1 q2 Q2 B2 d1 d2
  obtain ⟨B2', q0, q1, q2⟩ := Q3.out
  have B3 := Lib.hid (BB.out.trans (B2'.mono BB.out.size))
  clear B2'
  cases zm
  case false =>
    go_wp2_with fail
    refine (AW.out _ B3.out).mono ?_
    rintro e w' ⟨rfl, hb⟩
    go_wp2_with fail
    go_ret
    exact ⟨rfl, hb⟩
  obtain ⟨gv, hgv⟩ : ∃ g, goodV ws = g := ⟨_, rfl⟩
  rw [hgv] at CO
  go_wp2_with fail
  refine (CO.out _ (HH.out.below B3.out)).mono ?_
  rintro e w4 ⟨rfl, hb⟩
  have Q4 := Lib.hid (box3q_carry Q3.out hb)
  clear hb CO q0 q1 q2 Q3 B3
  obtain ⟨B2', q0, q1, q2⟩ := Q4.out
  have B4 := Lib.hid (BB.out.trans (B2'.mono BB.out.size))
  clear B2'
  by_cases hg0 : gv = 0
  case neg =>
    have d1 : (gv != 0) = true := by simpa using hg0
    have d2 : decide (gv = 0) = false := decide_eq_false hg0
    clear hg0
    go_wp2_with fail
    refine (AW.out _ B4.out).mono ?_
    rintro e w' ⟨rfl, hb⟩
    go_wp2_with fail
    go_ret
    exact ⟨rfl, hb⟩
  subst hg0
  obtain ⟨m, hm, hmb⟩ : ∃ m : Nat, 1 + lowV m0 6 = (m : Int) ∧ 1 ≤ m ∧ m ≤ 6 := ⟨(1 + lowV m0 6).toNat, by have := low_bd m0 6 (by omega); omega, by have := low_bd m0 6 (by omega); omega⟩
  have y1 : IntKind.i64.wrap (1 + lowV m0 6) = (m : Int) := by rw [hm]; exact IntWalk.i64_in _ (by omega)
  clear hm
  go_wp2_with fail
  refine (C1.out _).mono ?_
  rintro e w' ⟨rfl, rfl⟩
  go_wp2_with fail
  have HGV := Lib.hid hgv
  have HZM := Lib.hid hzm
  clear hgv hzm
  obtain ⟨i0, hi0, hz0, hz1, hz2⟩ := info_parts num_info
  go_loopw [9, 10, 11] (fun lv zv iv wr => ∃ (j : Nat) (la za : Option Addr) (lc zc : Nat), lv = .slice la j lc ∧ zv = .slice za (wantI bits j).length zc ∧ iv = .int .i64 j ∧ j ≤ m ∧ Hid (TwoR w4 wr la j lc (numsV (leastL bits j)) za (wantI bits j).length zc (numsV (natsZ (wantI bits j))))) (fun _ _ iv _ => m - (intOf iv).toNat)
  case atStart => exact ⟨0, none, none, 0, 0, rfl, rfl, rfl, by omega, Lib.hid ⟨World.ownsRow_nil _ _ _ _, World.ownsRow_nil _ _ _ _, fun g hg => (by cases hg), Below.refl _ _⟩⟩
  case round =>
    obtain ⟨j, la, za, lc, zc, rfl, rfl, rfl, hjm, hT⟩ := hrel
    by_cases hlt : j < m
    · obtain ⟨zb, hzb⟩ : ∃ z, bitB bits j = z := ⟨_, rfl⟩
      have e1 : (Go.bits BinOp.and IntKind.i64 (bits / 2 ^ j) 1 == 1) = zb := hzb
      have e2 : decide (Go.bits BinOp.and IntKind.i64 (bits / 2 ^ j) 1 = 1) = zb := by rw [← e1, Bool.eq_iff_iff]; simp
      obtain ⟨q, hq⟩ : ∃ q, (wantI bits j).length = q := ⟨_, rfl⟩
      have hqj : q ≤ j := by rw [← hq]; unfold wantI; have := List.length_filter_le (bitB bits) (List.range j); rw [List.length_range] at this; exact this
      have hls := leastL_snoc bits j
      have hws := wantI_snoc bits j
      rw [hzb] at hls hws
      have NL : numsV (leastL bits (j + 1)) = numsV (leastL bits j) ++ [.int .i64 (if zb then 0 else -1 - (j : Int))] := by rw [hls]; unfold numsV; rw [List.map_append]; rfl
      have T1 := Lib.hid hT.out
      rw [hq] at T1
      rw [hq]
      have HNL := Lib.hid NL
      cases zb
      · have hwl : wantI bits (j + 1) = wantI bits j := by rw [hws]; simp
        have HWL := Lib.hid hwl
        have HQQ := Lib.hid hq
        have y2 : IntKind.i64.wrap (-1 - (j : Int)) = -1 - (j : Int) := IntWalk.i64_in _ (by omega)
        clear hls hws NL hzb hT hwl hq
        go_wp2_with (at_builtin; refine wpList_append_lies _ rfl (.tmp 55) (.tmp 58) 22 rfl w4.heap.size 3 i0 _ 1 8 Try.underlying22 hi0 hz0 hz1 hz2 rfl (by omega) (.slice la j lc) j (numsV (leastL bits j)) (by rfl) (T1.out.o1.alloc _) ⟨wr.heap.size, 0, none⟩ 1 1 [.int .i64 (-1 - (j : Int))] (by rfl) (by rfl) (World.news_of_block (cs := #[.int .i64 (-1 - (j : Int))]) (t := 3) (fr := (0, 0)) (heap_alloc_new wr _)) (by simp [Value.oneCell']) (by omega) (by unfold maxLen; omega) (by omega) (by have := T1.out.bel.size; simp; omega) (wr.heap.size + 1) (by simp) ?_; intro g3 c3 w5 hown5 hgrow5 hat5 hlt5)
        have T2 := Lib.hid (T1.out.grow hown5 hgrow5 (hat5.imp id (fun e => by simp; exact e)))
        clear hown5 hgrow5 hat5 hlt5
        go_roundw
        case rel => exact ⟨j + 1, some ⟨g3, 0, none⟩, za, c3, zc, rfl, by rw [HWL.out, HQQ.out], by go_num, by omega, Lib.hid (by have h := T2.out; rw [HWL.out, HQQ.out, HNL.out]; exact h)⟩
        case measure => simp [intOf] <;> omega
      · have hwl : wantI bits (j + 1) = wantI bits j ++ [j] := by rw [hws]; simp
        have hwv : numsV (natsZ (wantI bits (j + 1))) = numsV (natsZ (wantI bits j)) ++ [.int .i64 (j : Int)] := by rw [hwl]; simp [numsV, natsZ]
        have HWV := Lib.hid hwv
        have HLL := Lib.hid (show (wantI bits (j + 1)).length = q + 1 from by rw [hwl, List.length_append, hq]; rfl)
        clear hls hws NL hzb hT hwl hq hwv
        go_upto_region 10 with (at_builtin; refine wpList_append_lies _ rfl (.tmp 48) (.tmp 49) 22 rfl w4.heap.size 3 i0 _ 1 8 Try.underlying22 hi0 hz0 hz1 hz2 rfl (by omega) (.slice la j lc) j (numsV (leastL bits j)) (by rfl) (T1.out.o1.alloc _) ⟨wr.heap.size, 0, none⟩ 1 1 [.int .i64 0] (by rfl) (by rfl) (World.news_of_block (cs := #[.int .i64 0]) (t := 3) (fr := (0, 0)) (heap_alloc_new wr _)) (by simp [Value.oneCell']) (by omega) (by unfold maxLen; omega) (by omega) (by have := T1.out.bel.size; simp; omega) (wr.heap.size + 1) (by simp) ?_; intro g3 c3 w5 hown5 hgrow5 hat5 hlt5)
        have T2 := Lib.hid (T1.out.grow hown5 hgrow5 (hat5.imp id (fun e => by simp; exact e)))
        clear hown5 hgrow5 hat5 hlt5
        go_wp2_with (at_builtin; refine wpList_append_lies _ rfl (.tmp 51) (.tmp 53) 22 rfl w4.heap.size 3 i0 _ 1 8 Try.underlying22 hi0 hz0 hz1 hz2 rfl (by omega) (.slice za q zc) q (numsV (natsZ (wantI bits j))) (by rfl) (T2.out.o2.alloc _) ⟨w5.heap.size, 0, none⟩ 1 1 [.int .i64 (j : Int)] (by rfl) (by rfl) (World.news_of_block (cs := #[.int .i64 (j : Int)]) (t := 3) (fr := (0, 0)) (heap_alloc_new w5 _)) (by simp [Value.oneCell']) (by omega) (by unfold maxLen; omega) (by omega) (by have := T2.out.bel.size; simp; omega) (w5.heap.size + 1) (by simp) ?_; intro g4 c4 w6 hown6 hgrow6 hat6 hlt6)
        have T3 := Lib.hid (T2.out.swap.grow hown6 hgrow6 (hat6.imp id (fun e => by simp; exact e))).swap
        clear hown6 hgrow6 hat6 hlt6
        go_roundw
        case rel => exact ⟨j + 1, some ⟨g3, 0, none⟩, some ⟨g4, 0, none⟩, c3, c4, rfl, by rw [HLL.out], by go_num, by omega, Lib.hid (by have h := T3.out; rw [HLL.out, HWV.out, HNL.out]; exact h)⟩
        case measure => simp [intOf] <;> omega
    · obtain rfl : j = m := by omega
      obtain ⟨q, hq⟩ : ∃ q, (wantI bits j).length = q := ⟨_, rfl⟩
      have hqj : q ≤ j := by rw [← hq]; unfold wantI; have := List.length_filter_le (bitB bits) (List.range j); rw [List.length_range] at this; exact this
      have hm := of_decide_eq_true HZM.out
      have hnn : 1 ≤ nn ∧ nn ≤ 10 := hm.2.1
      have hgs := great_no_iff.1 HGR.out
      have BR := Lib.hid (B4.out.trans (hT.out.bel.mono B4.out.size))
      obtain ⟨-, q0, q1, q2⟩ := box3q_carry Q4.out hT.out.bel
      have Q5 := Lib.hid (box3q_carry Q4.out hT.out.bel)
      have LI := Lib.hid (show HoldsI .i64 wr la j (leastL bits j) from holdsZ_own hT.out.o1)
      have ZI := Lib.hid (show HoldsI .i64 wr za q (natsZ (wantI bits j)) from by have h := holdsZ_own hT.out.o2; rw [hq] at h; exact h)
      have CN := Lib.hid (mnew_c (w0 := w) la j lc (leastL bits j) nn wr LI.out (by omega) hnn BR.out)
      have GS := Lib.hid hgs
      have SO := Lib.hid (goodV_zero HGV.out).2.2
      obtain ⟨zq, hzq⟩ : ∃ z, decide (q = 0) = z := ⟨_, rfl⟩
      have CW := Lib.hid (fun (b : Nat) (S : Nat → Prop) w' (h : CtxM w w' b nn [] (skP bits j) S) => mwants_c (natsZ (wantI bits j)) w' h (by rw [skP_len]; omega) (by rw [wants_skip _ _ _ hnn.1]))
      have CD := Lib.hid (fun (b : Nat) (S : Nat → Prop) w' (h : CtxM w w' b nn [] (skP bits j) S) => mdone_c zq w' h (by rw [skP_len]; omega) (by rw [done_skip _ _ _ hnn.1, hq, hzq]))
      have e1 : ((q : Int) == 0) = zq := by rw [← hzq]; exact beq_nat q 0
      have e2 : decide ((q : Int) = 0) = zq := by rw [← hzq]; exact dec_nat q 0
      have e3 : decide (q = 0) = zq := hzq
      have e4 : (q == 0) = zq := hzq
      have HQL := Lib.hid hq
      have HNN := Lib.hid hnn
      rw [hq]
      clear hq hm hnn hgs hT hzq
      go_wp2_with fail
      refine CN.out.mono ?_
      rintro e w5 ⟨b, rfl, S, hc, -, hb5⟩
      have C5 := Lib.hid (show CtxM w w5 b nn [] (skP bits j) S from hc)
      have Q6 := Lib.hid (box3q_carry Q5.out hb5)
      have Z5 := Lib.hid (ZI.out.below hb5)
      have B45 := Lib.hid hb5
      clear hc hb5 CN q0 q1 q2 LI ZI Q5
      go_wp2_with fail
      refine (CW.out _ _ _ C5.out).mono ?_
      rintro e w6 ⟨xa, xc, rfl, hx, hb⟩
      rw [natsZ_len, HQL.out] at hx ⊢
      have C6 := Lib.hid (C5.out.more hb)
      have Q7 := Lib.hid (box3q_carry Q6.out hb)
      have CI := Lib.hid (sameInts_any xa za q xc q zc (natsZ (wantI bits j)) (natsZ (wantI bits j)) w6 (holdsZ_own hx) (Z5.out.below hb) (by omega) (by omega))
      clear hx hb C5 Q6 Z5
      go_wp2_with fail
      refine CI.out.mono ?_
      rintro e w7 ⟨rfl, m7, rfl⟩
      have C7 := Lib.hid (C6.out.more (below_drewN _ m7))
      have Q8 := Lib.hid (box3q_carry Q7.out (below_drewN _ m7))
      have d9 : decide (natsZ (wantI bits j) = natsZ (wantI bits j)) = true := decide_eq_true rfl
      clear C6 Q7 CI
      go_wp2_with fail
      refine (CD.out _ _ _ C7.out).mono ?_
      rintro e w8 ⟨rfl, hb⟩
      have C8 := Lib.hid (C7.out.more hb)
      have Q9 := Lib.hid (box3q_carry Q8.out hb)
      clear hb C7 Q8 d9
      obtain ⟨-, q0, q1, q2⟩ := Q9.out
      go_upto_region 15 with fail
      obtain ⟨L, hL⟩ : ∃ L, allK ws s k = L := ⟨_, rfl⟩
      obtain ⟨N, hN⟩ : ∃ N, L.length = N := ⟨_, rfl⟩
      have hN80 : N ≤ 80 := by rw [← hN, ← hL]; have := allK_len ws s k; have := GS.out.1; omega
      have hup : upN L L.length = true := by rw [← hL]; exact all_ris SO.out s k
      have B8 := Lib.hid (show Below w.heap.size w w8 from C8.out.bel)
      have CA := Lib.hid (all_lit wa n wc N ws s k L w8 (HH.out.below B8.out) (by have h1 := GS.out.1; have h2 := HH.out.len; omega) (fun t ht => by have := GS.out.2 t ht; omega) (by have := HS.out; omega) hL hN)
      obtain ⟨u, hu⟩ : ∃ u, min N 5 = u := ⟨_, rfl⟩
      have y5 : min (N : Int) 5 = (u : Int) := by omega
      have huN : u ≤ N := by omega
      have FA := Lib.hid (show fitsB (mkS 0) (L.take u) = true from fits_cut (a := 0) (m := u) (e := false) (q := 0) (rc := false) (l := k0) hup (by omega) (by omega) (fun h => by cases h))
      clear hL hup e1 e2 e3 e4
      go_wp2_with fail
      refine CA.out.mono ?_
      rintro e w9 ⟨a2, c2, rfl, ho, hb⟩
      have C9 := Lib.hid (C8.out.more hb)
      have HK9 := Lib.hid ((HoldsK.own ho).take u huN)
      have HN9 := Lib.hid (show (a2 = none → u = 0 ∧ c2 = 0) ∧ u ≤ c2 from ⟨fun e => by have := (owns_none ho).1 e; omega, by have := (owns_none ho).2; omega⟩)
      have ulc : (u : Int) ≤ (c2 : Int) := by have := (owns_none ho).2; omega
      have HS9 := Lib.hid (show 0 < u → ∀ fb fo, a2 = some ⟨fb, fo, none⟩ → ¬ S fb from fun _ fb fo e hs => by
        have h1 := (own_block ho e).1
        have h2 := C8.out.lt fb hs
        omega)
      clear ho hb CA C8 q0 q1 q2 Q9 hN80 hN hu
      go_wp2_with fail
      go_loopw [14, 15] (fun av iv wr => ∃ (i : Nat) (xa : Option Addr) (xn xc : Nat) (S : Nat → Prop), av = .slice xa xn xc ∧ iv = .int .i64 i ∧ i ≤ j ∧ xn ≤ 80 ∧ Hid (CtxM w wr b nn [] (skF bits j (L.take u) i).1 S) ∧ Hid (HoldsK wr xa xn (skF bits j (L.take u) i).2) ∧ Hid (xa = none → xn = 0 ∧ xc = 0) ∧ Hid (0 < xn → ∀ fb fo, xa = some ⟨fb, fo, none⟩ → ¬ S fb)) (fun _ iv _ => j - (intOf iv).toNat)
      case atStart => exact ⟨0, a2, u, c2, S, rfl, rfl, by omega, by omega, C9, HK9, Lib.hid HN9.out.1, HS9⟩
      case round =>
        obtain ⟨i, xa, xn, xc, S, rfl, rfl, hij, hx80, hC, hK, hXN, hXS⟩ := hrel
        by_cases hlt : i < j
        · obtain ⟨zb, hzb⟩ : ∃ z, bitB bits i = z := ⟨_, rfl⟩
          have e1 : (Go.bits BinOp.and IntKind.i64 (bits / 2 ^ i) 1 == 1) = zb := hzb
          have e2 : decide (Go.bits BinOp.and IntKind.i64 (bits / 2 ^ i) 1 = 1) = zb := by rw [← e1, Bool.eq_iff_iff]; simp
          have hsk : skF bits j (L.take u) (i + 1) = if zb then ((skF bits j (L.take u) i).1.set i (putSM ((skF bits j (L.take u) i).1.getD i sm0) (skF bits j (L.take u) i).2 true), []) else skF bits j (L.take u) i := by rw [← hzb]; rfl
          have CP := Lib.hid (fun w' (h : CtxM w w' b nn [] (skF bits j (L.take u) i).1 S) (hk : HoldsK w' xa xn (skF bits j (L.take u) i).2) => mput_c (i : Int) 0 xa xn xc (skF bits j (L.take u) i).2 true zb (skF bits j (L.take u) (i + 1)).1 w' h (by rw [skF_len]; omega) hk hXN.out (by omega) hXS.out (fun x hx => by have := skF_seq bits j (L.take u) i (by omega) x hx; omega) (by rw [put_skip bits nn j HNN.out.1 FA.out i hlt, hzb]) (by rw [hsk, Int.toNat_natCast]; cases zb <;> rfl))
          have CR := Lib.hid (hC.out.more (show Below wr.heap.size wr wr.drew from (Below.refl _ _).drew))
          have KR := Lib.hid (hK.out.below (show Below wr.heap.size wr wr.drew from (Below.refl _ _).drew))
          have HSK := Lib.hid (show (skF bits j (L.take u) (i + 1)).2 = if zb then [] else (skF bits j (L.take u) i).2 from by rw [hsk]; cases zb <;> rfl)
          clear hsk hzb
          go_upto_region 20 with fail
          go_region_law
            (first
              | (go_simp; go_at_call 15; (with_reducible refine (CP.out _ CR.out KR.out).mono ?_); rintro e w2 ⟨rfl, S2, h2, hS2, t2⟩))
          all_goals
            have C2 := Lib.hid h2
            have K2 := Lib.hid (KR.out.turn t2 hXS.out)
            have X2 := Lib.hid (KR.out.apart hXS.out hS2)
            clear h2 hS2 t2
            cases zb
            · go_wp2_with fail
              go_roundw
              case rel => exact ⟨i + 1, xa, xn, xc, S2, rfl, by go_num, by omega, hx80, C2, Lib.hid (by rw [HSK.out]; exact K2.out), hXN, X2⟩
              case measure => simp [intOf] <;> omega
            · go_wp2_with fail
              go_roundw
              case rel => exact ⟨i + 1, none, 0, 0, S2, rfl, by go_num, by omega, by omega, C2, Lib.hid (by rw [HSK.out]; exact HoldsK.nil _ _), Lib.hid (fun _ => ⟨rfl, rfl⟩), Lib.hid (fun h => absurd h (by decide))⟩
              case measure => simp [intOf] <;> omega
        · obtain rfl : i = j := by omega
          obtain ⟨T', P', out, hR⟩ : ∃ T' P' out, tellF nn 10 [] (skF bits i (L.take u) i).1 [] = (T', P', out) := ⟨_, _, _, rfl⟩
          have hD : doneB nn T' P' = true := by
            have h := tell_done nn 10 [] (skF bits i (L.take u) i).1 [] (by have := HNN.out.2; simp; omega) (skF_all bits i (L.take u))
            rw [hR] at h; exact h
          have hPl : P'.length ≤ 1000 := by
            have h := tell_len nn 10 [] (skF bits i (L.take u) i).1 []
            rw [hR, skF_len] at h
            have h2 : P'.length = i := h
            omega
          have CT := Lib.hid (mtell_c T' P' out wr hC.out (by rw [skF_len]; omega) HNN.out.2 (by simp) hR)
          have DD := Lib.hid (fun (S : Nat → Prop) w' (h : CtxM w w' b nn T' P' S) => mdone_c true w' h hPl hD)
          have DW := Lib.hid (fun (S : Nat → Prop) w' (h : CtxM w w' b nn T' P' S) => mwants_c [] w' h hPl (by unfold wantsL; rw [if_pos hD]; rfl))
          clear hR hD hPl
          go_wp2_with fail
          refine CT.out.mono ?_
          rintro e w2 ⟨oa, oc, rfl, S2, h2, -, -, -, -⟩
          have C2 := Lib.hid h2
          clear h2 CT
          go_wp2_with fail
          refine (DD.out _ _ C2.out).mono ?_
          rintro e w3 ⟨rfl, hb⟩
          have C3 := Lib.hid (C2.out.more hb)
          clear hb C2
          go_wp2_with fail
          refine (DW.out _ _ C3.out).mono ?_
          rintro e w4 ⟨xa, xc, rfl, -, hb⟩
          have C4 := Lib.hid (C3.out.more hb)
          clear hb C3
          go_wp2_with fail
          refine (AW.out _ C4.out.bel).mono ?_
          rintro e w' ⟨rfl, hb⟩
          go_wp2_with fail
          go_ret
          exact ⟨rfl, hb⟩
open Go.ChangeShapes Go.WideShapes Go.ChangeAt in
theorem mergeSkips_walk {H : Type} {enc : TypeId × Value → H} (W : World) (base : Nat) (v0 v1 v2 v3 : Value) (d0 d1 d2 d3 : DataW H) (p0 p1 p2 p3 : List MemPlace)
    (h0 : DataW.Trod enc Try.prog W 0 (fun _ => true) true 3 v0 d0 p0) (h1 : DataW.Trod enc Try.prog W 0 (fun _ => true) true 3 v1 d1 p1) (h2 : DataW.Trod enc Try.prog W 0 (fun _ => true) true 44 v2 d2 p2) (h3 : DataW.Trod enc Try.prog W 0 (fun _ => true) true 46 v3 d3 p3)
    (o0 : Value.okWide Try.prog W .any base 3 v0) (o1 : Value.okWide Try.prog W .any base 3 v1) (o2 : Value.okWide Try.prog W .any base 44 v2) (o3 : Value.okWide Try.prog W .any base 46 v3) :
    Calls Try.prog 7 #[v0, v1, v2, v3] W fun e w' => e = .returned (.bool true) ∧ RowKit.Below W.heap.size W w' := by
  obtain ⟨m, rfl, rfl, rfl, _⟩ := open_int Try.underlying3 o0 h0
  obtain ⟨q, rfl, rfl, rfl, _⟩ := open_int Try.underlying3 o1 h1
  obtain ⟨a2, n2, c2, k2, rfl, x2, y2, z2, b2, s2⟩ := open_texts_arg o2 h2
  obtain ⟨t, k, n, ht, _, _, rfl⟩ := query_arg o3 h3
  exact mergeSkips_any m q a2 n2 c2 k2 t k n W x2 b2 s2 ht
end Go.Proofs.Ytgghbgmeebihbaa
